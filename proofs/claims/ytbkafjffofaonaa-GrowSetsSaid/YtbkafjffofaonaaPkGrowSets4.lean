/- Texts of one kind in one file. -/
import Derived.IntWalk
import Derived.Test.YtbkafjffofaonaaPkGrowSets3
set_option maxRecDepth 100000
namespace Go.Proofs.Ytbkafjffofaonaa
open Go.RowKit
theorem same_snoc {l us:List Nd} {k:Nat} {n m:Nd} (h:SameT (l.take k) us) (hn:l[k]?=some n) (h1:m.kd=n.kd) (h2:m.E=n.E) (h3:m.K=n.K) (h4:m.S=n.S) (h5:m.T=n.T):SameT (l.take (k+1)) (us++[m]):=by
 have hk:=(List.getElem?_eq_some_iff.1 hn).1
 have hl:us.length=k:=by rw [h.len,List.length_take];omega
 refine ⟨by rw [List.length_append,hl,List.length_take,List.length_singleton];omega,fun i x hx=>?_⟩
 rw [← takeSnoc' hn,List.getElem?_append] at hx
 rw [List.getElem?_append]
 split at hx
 ·rename_i hi
  rw [List.length_take] at hi
  rw [if_pos (by omega)]
  exact h.get i x hx
 ·rename_i hi
  rw [List.length_take] at hi hx
  rw [if_neg (by omega)]
  have h0:i - min k l.length=0:=by
   have:=(List.getElem?_eq_some_iff.1 hx).1
   simp at this;omega
  rw [h0] at hx
  simp at hx
  subst hx
  exact ⟨m,by rw [show i - us.length=0 by omega];rfl,h1,h2,h3,h4,h5⟩
/-- A box of five cells,one of them stored. -/
theorem box_set {w:World} {g t:Nat} {cs:Array Value} (h:w.heap[g]?=some (.cells cs t (0,0))) (j:Nat) (u:Value):(w.setCell ⟨g,j,none⟩ u).heap[g]?=some (.cells (cs.setIfInBounds j u) t (0,0)):=heap_setCell_same w g j _ t u h
def CopyEnd (B:Nat) (root:Int) (l:List Nd) (w:World) (e:Ending) (w':World):Prop:=∃ v us,e=.returned (.agg #[.int .i64 root,v])∧SameT l us∧TOwn B w' v us∧Calm w w'
set_option maxHeartbeats 16000000 in
theorem copied_any (root : Int) (A : Option Addr) (c : Nat) (l : List Nd) (w : World) (h : TrAt w A l) (hsz : ∀ n ∈ l, n.E.length ≤ 400 ∧ n.K.length ≤ 400 ∧ n.S.length ≤ 400 ∧ n.T.length ≤ 400) (hl4 : l.length ≤ 400) :
    Calls Try.prog 93 #[.agg #[.int .i64 root, .slice A l.length c]] w (CopyEnd w.heap.size root l w) := by
  have HT := Lib.hid h
  have HSZ := Lib.hid hsz
  have hx := heap_past (.cells #[.int .i64 0, .slice none 0 0] 24) (heap_new w (.cells #[.int .i64 root, .slice A l.length c] 24))
  have hr := heap_new (w.alloc (.cells #[.int .i64 root, .slice A l.length c] 24)) (.cells #[.int .i64 0, .slice none 0 0] 24)
  rw [World.size_alloc] at hr
  have hu := ((Calm.refl w).alloc (.cells #[.int .i64 root, .slice A l.length c] 24)).alloc (.cells #[.int .i64 0, .slice none 0 0] 24)
  have hs1 : ((w.alloc (.cells #[.int .i64 root, .slice A l.length c] 24)).alloc (.cells #[.int .i64 0, .slice none 0 0] 24)).heap.size = w.heap.size + 2 := by simp
  clear h hsz
  go_enter Try.func93, Try.ntmps93
  generalize hQ0 : bodyPost Try.prog Try.f93 (CopyEnd w.heap.size root l w) = Q0
  have HRET : Hid (∀ a w', bodyPost Try.prog Try.f93 (CopyEnd w.heap.size root l w) .ret a w' → Q0 .ret a w') := show ∀ _ _, _ → _ from fun a w' h => by rw [← hQ0]; exact h
  clear hQ0
  go_upto_region 1 with fail
  generalize (w.alloc (.cells #[.int .i64 root, .slice A l.length c] 24)).alloc (.cells #[.int .i64 0, .slice none 0 0] 24) = w1 at hx hr hu hs1 ⊢
  obtain ⟨x0, x1, hxs⟩ := rowT hx
  have HS1 := Lib.hid hs1
  clear hs1
  go_upto_region 2 with fail
  have hc := heap_new w1 (.cells #[.int .i64 root, .slice none 0 0] 24)
  have hc1 := (Calm.refl w1).alloc (.cells #[.int .i64 root, .slice none 0 0] 24)
  have hs2 : (w1.alloc (.cells #[.int .i64 root, .slice none 0 0] 24)).heap.size = w1.heap.size + 1 := by simp
  generalize w1.alloc (.cells #[.int .i64 root, .slice none 0 0] 24) = w2 at hc hc1 hs2 ⊢
  have HS2 := Lib.hid hs2
  have HU1 := Lib.hid hu
  clear hs2 x0 x1 hxs hu
  have hx2 := (hc1.block (rowT hx).2.2).trans hx
  obtain ⟨x0, x1, hxs⟩ := rowT hx2
  have HC1 := Lib.hid hc1
  go_wp2_with fail
  go_loopw [12] (fun i wr => ∃ (k : Nat) (v' : Value) (us : List Nd), k ≤ l.length ∧ i = .int .i64 k ∧ Hid (SameT (l.take k) us) ∧ Hid (TOwn w2.heap.size wr v' us) ∧ Hid (wr.heap[w1.heap.size]? = some (.cells #[.int .i64 root, v'] 24 (0, 0))) ∧ Hid (Calm w1 wr) ∧ Hid (w2.heap.size ≤ wr.heap.size)) (fun i _ => l.length - (intOf i).toNat)
  case atStart => exact ⟨0, .slice none 0 0, [], Nat.zero_le _, rfl, (show SameT _ _ from ⟨by simp, by simp⟩), TOwn.nil _ _, hc, HC1.out, Nat.le_refl _⟩
  clear x0 x1 hxs
  case round =>
    obtain ⟨k, v', us, hk, rfl, hS, hO, hc, hv, hsz2⟩ := hrel
    have hvw := Lib.hid (HU1.out.call hv.out)
    have hxr := (hv.out.block (rowT hx).2.2).trans hx
    have hrr := (hv.out.block (rowT hr).2.2).trans hr
    obtain ⟨x0, x1, hxs⟩ := rowT hxr
    obtain ⟨y0, y1, hys⟩ := rowT hrr
    obtain ⟨z0, z1, hzs⟩ := rowT hc.out
    by_cases hlt : k < l.length
    rotate_left
    · have hkk : k = l.length := by omega
      have hSl : Hid (SameT l us) := show SameT _ _ from by have := hS.out; rwa [hkk, List.take_length] at this
      have hli : ¬ (k : Int) < (l.length : Int) := by omega
      obtain ⟨A0, c0, e0⟩ := hO.out.row.slice
      subst e0
      have ff0 := frozen_of_row wr (w.heap.size + 1) 0 _ _ hrr
      have ff1 := frozen_of_row wr (w.heap.size + 1) 1 _ _ hrr
      have hlw : w.heap.size + 1 < w2.heap.size := by have a := HS1.out; have b := HS2.out; omega
      have hT2 : Hid (TOwn w.heap.size ((wr.setCell ⟨w.heap.size + 1, 0, none⟩ (.int .i64 root)).setCell ⟨w.heap.size + 1, 1, none⟩ (.slice A0 us.length c0)) (.slice A0 us.length c0) us) := show TOwn _ _ _ _ from ((hO.out.set hlw 0 _).set hlw 1 _).mono (by omega)
      have hbb := box_set (box_set hrr 0 (.int .i64 root)) 1 (.slice A0 us.length c0)
      have hC2 := (hvw.out.setCell (p := ⟨w.heap.size + 1, 0, none⟩) (Nat.le_succ _) (.int .i64 root)).setCell (p := ⟨w.heap.size + 1, 1, none⟩) (Nat.le_succ _) (.slice A0 us.length c0)
      have hE9 : Hid (CopyEnd w.heap.size root l w (.returned (.agg #[.int .i64 root, .slice A0 us.length c0])) ((wr.setCell ⟨w.heap.size + 1, 0, none⟩ (.int .i64 root)).setCell ⟨w.heap.size + 1, 1, none⟩ (.slice A0 us.length c0))) := show CopyEnd _ _ _ _ _ _ from ⟨_, us, rfl, hSl.out, hT2.out, hC2⟩
      have HBB := Lib.hid hbb
      clear hkk hlt hbb hC2
      go_wp2_with fail
      exact HRET.out _ _ (end_tr rfl rfl _ _ (w.heap.size + 1) _ _ (0, 0) rfl rfl HBB.out rfl hE9.out)
    obtain ⟨b, q, kd, A1, A2, A3, A4, c1, c2, c3, c4, E, K, S, T, hA, hb, HN, HA, n0, n1, n2, n3, n4⟩ := (HT.out.calm hvw.out).get hlt
    cases hA
    obtain ⟨s1, s2, s3, s4⟩ := HSZ.out _ (List.mem_of_getElem? HN.out)
    simp only at s1 s2 s3 s4
    have cE := fun u (hu : Calm wr u) => clone_any A1 c1 E u s1 (HA.out.calm hu).e
    have cK := fun u (hu : Calm wr u) => cloneI_any A2 c2 K u s2 (HA.out.calm hu).k
    have cS := fun u (hu : Calm wr u) => cloneS_any A3 c3 S u (by omega) (HA.out.calm hu).s
    have cT := fun u (hu : Calm wr u) => cloneI_any A4 c4 T u s4 (HA.out.calm hu).t
    have hbox := heap_new wr (.cells #[.int .i64 kd, .slice A1 E.length c1, .slice A2 K.length c2, .slice A3 S.length c3, .slice A4 T.length c4] 32)
    have hal := (Calm.refl wr).alloc (.cells #[.int .i64 kd, .slice A1 E.length c1, .slice A2 K.length c2, .slice A3 S.length c3, .slice A4 T.length c4] 32)
    have hsz3 : (wr.alloc (.cells #[.int .i64 kd, .slice A1 E.length c1, .slice A2 K.length c2, .slice A3 S.length c3, .slice A4 T.length c4] 32)).heap.size = wr.heap.size + 1 := by simp
    go_upto_region 5 with fail
    generalize wr.alloc (.cells #[.int .i64 kd, .slice A1 E.length c1, .slice A2 K.length c2, .slice A3 S.length c3, .slice A4 T.length c4] 32) = w3 at hbox hal hsz3 ⊢
    have HS3 := Lib.hid hsz3
    clear hsz3 n0 n1 n2 n3 n4 hb s1 s2 s3 s4 x0 x1 hxs y0 y1 hys z0 z1 hzs
    obtain ⟨m0, m1, m2, m3, m4, hms⟩ := row5 hbox
    go_upto_region 6 with (go_at_call 32; (with_reducible refine (cE _ hal).mono ?_); rintro e w4 ⟨v1, rfl, ho, hb⟩; obtain ⟨B1, d1, e9⟩ := ho.slice; subst e9; have HP1 := Lib.hid ho; have hbq1 := (hb.block (row5 hbox).2.2.2.2.2).trans hbox; have HB1 := Lib.hid hb; clear hb ho m0 m1 m2 m3 m4 hms; obtain ⟨m0, m1, m2, m3, m4, hms⟩ := row5 hbq1; obtain ⟨f0, f1, f2, f3, f4⟩ := free5 hbq1)
    have hbx1 : (w4.setCell ⟨wr.heap.size, 1, none⟩ (.slice B1 E.length d1)).heap[wr.heap.size]? = some (.cells #[.int .i64 kd, .slice B1 E.length d1, .slice A2 K.length c2, .slice A3 S.length c3, .slice A4 T.length c4] 32 (0, 0)) := box_set hbq1 1 _
    have hcc1 := (hal.call HB1.out).setCell (p := ⟨wr.heap.size, 1, none⟩) (Nat.le_refl _) (.slice B1 E.length d1)
    have hsz1 : Hid (w3.heap.size ≤ w4.heap.size ∧ (w4.setCell ⟨wr.heap.size, 1, none⟩ (.slice B1 E.length d1)).heap.size = w4.heap.size) := show _ ∧ _ from ⟨HB1.out.size, by simp [World.setCell]⟩
    have HR1_1 := Lib.hid (rows_set HP1.out (show wr.heap.size < _ from by have := HS3.out; omega) 1 (.slice B1 E.length d1))
    clear m0 m1 m2 m3 m4 hms f0 f1 f2 f3 f4
    generalize w4.setCell ⟨wr.heap.size, 1, none⟩ (.slice B1 E.length d1) = w5 at hbx1 hcc1 hsz1 HR1_1 ⊢
    obtain ⟨m0, m1, m2, m3, m4, hms⟩ := row5 hbx1
    go_upto_region 7 with (go_at_call 122; (with_reducible refine (cK _ hcc1).mono ?_); rintro e w6 ⟨v2, rfl, ho, hb⟩; obtain ⟨B2, d2, e9⟩ := ho.slice; subst e9; have HP2 := Lib.hid ho; have hbq2 := (hb.block (row5 hbx1).2.2.2.2.2).trans hbx1; have HB2 := Lib.hid hb; clear hb ho m0 m1 m2 m3 m4 hms; obtain ⟨m0, m1, m2, m3, m4, hms⟩ := row5 hbq2; obtain ⟨f0, f1, f2, f3, f4⟩ := free5 hbq2)
    have hbx2 : (w6.setCell ⟨wr.heap.size, 2, none⟩ (.slice B2 K.length d2)).heap[wr.heap.size]? = some (.cells #[.int .i64 kd, .slice B1 E.length d1, .slice B2 K.length d2, .slice A3 S.length c3, .slice A4 T.length c4] 32 (0, 0)) := box_set hbq2 2 _
    have hcc2 := (hcc1.call HB2.out).setCell (p := ⟨wr.heap.size, 2, none⟩) (Nat.le_refl _) (.slice B2 K.length d2)
    have hzz2 : Hid (w5.heap.size ≤ w6.heap.size ∧ (w6.setCell ⟨wr.heap.size, 2, none⟩ (.slice B2 K.length d2)).heap.size = w6.heap.size) := show _ ∧ _ from ⟨HB2.out.size, by simp [World.setCell]⟩
    have HR1_2 := Lib.hid (rows_set (rows_calm HR1_1.out HB2.out) (show wr.heap.size < _ from by have := HS3.out; omega) 2 (.slice B2 K.length d2))
    have HR2_2 := Lib.hid (rows_set HP2.out (show wr.heap.size < _ from by have a := HS3.out; have b := hsz1.out; omega) 2 (.slice B2 K.length d2))
    clear m0 m1 m2 m3 m4 hms f0 f1 f2 f3 f4
    generalize w6.setCell ⟨wr.heap.size, 2, none⟩ (.slice B2 K.length d2) = w7 at hbx2 hcc2 hzz2 HR1_2 HR2_2 ⊢
    obtain ⟨m0, m1, m2, m3, m4, hms⟩ := row5 hbx2
    go_upto_region 8 with (go_at_call 123; (with_reducible refine (cS _ hcc2).mono ?_); rintro e w8 ⟨v3, rfl, ho, hb⟩; obtain ⟨B3, d3, e9⟩ := ho.slice; subst e9; have HP3 := Lib.hid ho; have hbq3 := (hb.block (row5 hbx2).2.2.2.2.2).trans hbx2; have HB3 := Lib.hid hb; clear hb ho m0 m1 m2 m3 m4 hms; obtain ⟨m0, m1, m2, m3, m4, hms⟩ := row5 hbq3; obtain ⟨f0, f1, f2, f3, f4⟩ := free5 hbq3)
    have hbx3 : (w8.setCell ⟨wr.heap.size, 3, none⟩ (.slice B3 S.length d3)).heap[wr.heap.size]? = some (.cells #[.int .i64 kd, .slice B1 E.length d1, .slice B2 K.length d2, .slice B3 S.length d3, .slice A4 T.length c4] 32 (0, 0)) := box_set hbq3 3 _
    have hcc3 := (hcc2.call HB3.out).setCell (p := ⟨wr.heap.size, 3, none⟩) (Nat.le_refl _) (.slice B3 S.length d3)
    have hsz3 : Hid (w7.heap.size ≤ w8.heap.size ∧ (w8.setCell ⟨wr.heap.size, 3, none⟩ (.slice B3 S.length d3)).heap.size = w8.heap.size) := show _ ∧ _ from ⟨HB3.out.size, by simp [World.setCell]⟩
    have HR1_3 := Lib.hid (rows_set (rows_calm HR1_2.out HB3.out) (show wr.heap.size < _ from by have := HS3.out; omega) 3 (.slice B3 S.length d3))
    have HR2_3 := Lib.hid (rows_set (rows_calm HR2_2.out HB3.out) (show wr.heap.size < _ from by have a := HS3.out; have b := hsz1.out; omega) 3 (.slice B3 S.length d3))
    have HR3_3 := Lib.hid (rows_set HP3.out (show wr.heap.size < _ from by have a := HS3.out; have b := hsz1.out; have c9 := hzz2.out; omega) 3 (.slice B3 S.length d3))
    clear m0 m1 m2 m3 m4 hms f0 f1 f2 f3 f4
    generalize w8.setCell ⟨wr.heap.size, 3, none⟩ (.slice B3 S.length d3) = w9 at hbx3 hcc3 hsz3 HR1_3 HR2_3 HR3_3 ⊢
    obtain ⟨m0, m1, m2, m3, m4, hms⟩ := row5 hbx3
    go_upto_region 9 with (go_at_call 122; (with_reducible refine (cT _ hcc3).mono ?_); rintro e w10 ⟨v4, rfl, ho, hb⟩; obtain ⟨B4, d4, e9⟩ := ho.slice; subst e9; have HP4 := Lib.hid ho; have hbq4 := (hb.block (row5 hbx3).2.2.2.2.2).trans hbx3; have HB4 := Lib.hid hb; clear hb ho m0 m1 m2 m3 m4 hms; obtain ⟨m0, m1, m2, m3, m4, hms⟩ := row5 hbq4; obtain ⟨f0, f1, f2, f3, f4⟩ := free5 hbq4)
    have hbx4 : (w10.setCell ⟨wr.heap.size, 4, none⟩ (.slice B4 T.length d4)).heap[wr.heap.size]? = some (.cells #[.int .i64 kd, .slice B1 E.length d1, .slice B2 K.length d2, .slice B3 S.length d3, .slice B4 T.length d4] 32 (0, 0)) := box_set hbq4 4 _
    have hcc4 := (hcc3.call HB4.out).setCell (p := ⟨wr.heap.size, 4, none⟩) (Nat.le_refl _) (.slice B4 T.length d4)
    have hsz4 : Hid (w9.heap.size ≤ w10.heap.size ∧ (w10.setCell ⟨wr.heap.size, 4, none⟩ (.slice B4 T.length d4)).heap.size = w10.heap.size) := show _ ∧ _ from ⟨HB4.out.size, by simp [World.setCell]⟩
    have HR1_4 := Lib.hid (rows_set (rows_calm HR1_3.out HB4.out) (show wr.heap.size < _ from by have := HS3.out; omega) 4 (.slice B4 T.length d4))
    have HR2_4 := Lib.hid (rows_set (rows_calm HR2_3.out HB4.out) (show wr.heap.size < _ from by have a := HS3.out; have b := hsz1.out; omega) 4 (.slice B4 T.length d4))
    have HR3_4 := Lib.hid (rows_set (rows_calm HR3_3.out HB4.out) (show wr.heap.size < _ from by have a := HS3.out; have b := hsz1.out; have c9 := hzz2.out; omega) 4 (.slice B4 T.length d4))
    have HR4_4 := Lib.hid (rows_set HP4.out (show wr.heap.size < _ from by have a := HS3.out; have b := hsz1.out; have c9 := hzz2.out; have d9 := hsz3.out; omega) 4 (.slice B4 T.length d4))
    clear m0 m1 m2 m3 m4 hms f0 f1 f2 f3 f4
    generalize w10.setCell ⟨wr.heap.size, 4, none⟩ (.slice B4 T.length d4) = w11 at hbx4 hcc4 hsz4 HR1_4 HR2_4 HR3_4 HR4_4 ⊢
    obtain ⟨m0, m1, m2, m3, m4, hms⟩ := row5 hbx4
    obtain ⟨A0, c0, e0⟩ := hO.out.row.slice
    subst e0
    have hc11 := (hcc4.block (Array.getElem?_eq_some_iff.1 hc.out).1).trans hc.out
    obtain ⟨z0, z1, hzs⟩ := rowT hc11
    have hul : us.length ≤ 1000000 := by have := hS.out.len; rw [List.length_take] at this; omega
    have hb11 : w2.heap.size ≤ w11.heap.size := Nat.le_trans hsz2.out hcc4.size
    have HC11 := Lib.hid hc11
    have hEl := HSZ.out _ (List.mem_of_getElem? HN.out)
    simp only at hEl
    have HEL := Lib.hid hEl
    clear hEl
    have HCC := Lib.hid hcc4
    go_wp2_with (at_builtin; refine wpList_append_nd rfl _ _ rfl w2.heap.size (.slice A0 us.length c0) us rfl (rows_calm (hO.out.calm HCC.out).row ((Calm.refl _).alloc _)) w11.heap.size _ ⟨kd, B1, B2, B3, B4, d1, d2, d3, d4, E, K, S, T⟩ (0, 0) rfl (heap_new _ _) hul (Nat.le_trans hb11 (by simp)) ?_; intro v9 w12 ho9 hg9 hat9; have HO9 := Lib.hid ho9; have HG9 := Lib.hid hg9; have HT9 := Lib.hid hat9; (obtain ⟨A9, c9, e9⟩ : ∃ A c, v9 = .slice A (us.length + 1) c := by obtain ⟨A, c, h⟩ := ho9.slice; exact ⟨A, c, by rw [h]; simp⟩); subst e9; clear ho9 hg9 hat9; have hB9 := (HG9.out.block w1.heap.size (by have := (Array.getElem?_eq_some_iff.1 HC11.out).1; simp; omega) (fun e => by have a := (hO.out.row.lt _ e.symm).1; have b := HS2.out; omega)).trans (heap_past _ HC11.out); have HB9 := Lib.hid hB9; (obtain ⟨g0, g1, hgs⟩ := rowT hB9); have ff0 := frozen_of_row w12 w1.heap.size 0 _ _ hB9; have ff1 := frozen_of_row w12 w1.heap.size 1 _ _ hB9)
    have hsz9 : Hid (w3.heap.size ≤ w5.heap.size ∧ w5.heap.size ≤ w7.heap.size ∧ w7.heap.size ≤ w9.heap.size ∧ w9.heap.size ≤ w11.heap.size) := show _ ∧ _ from by have a := hsz1.out; have b := hzz2.out; have e := hsz3.out; have f := hsz4.out; omega
    have hNd : Hid (NdO w3.heap.size (w11.alloc (.cells #[.int .i64 kd, .slice B1 E.length d1, .slice B2 K.length d2, .slice B3 S.length d3, .slice B4 T.length d4] 32)) ⟨kd, B1, B2, B3, B4, d1, d2, d3, d4, E, K, S, T⟩) := show NdOwn _ _ _ _ _ _ _ _ _ _ _ _ _ _ from
      ⟨rows_calm HR1_4.out ((Calm.refl _).alloc _), rows_calm (rows_weaken HR2_4.out (by have := hsz9.out; omega)) ((Calm.refl _).alloc _), rows_calm (rows_weaken HR3_4.out (by have := hsz9.out; omega)) ((Calm.refl _).alloc _), rows_calm (rows_weaken HR4_4.out (by have := hsz9.out; omega)) ((Calm.refl _).alloc _), HA.out.e.1, HA.out.s.1, by have := HEL.out; simp only; omega, by have := HEL.out; simp only; omega, by have := HEL.out; simp only; omega, by have := HEL.out; simp only; omega⟩
    have hap : Hid (∀ j j' k, Nd.blk ⟨kd, B1, B2, B3, B4, d1, d2, d3, d4, E, K, S, T⟩ j = some k → Nd.blk ⟨kd, B1, B2, B3, B4, d1, d2, d3, d4, E, K, S, T⟩ j' = some k → j = j') := show ∀ _ _ _, _ from
      blk_apart (m0 := 0) (m1 := w5.heap.size) (m2 := w7.heap.size) (m3 := w9.heap.size) (fun k hk => by have a := (HP1.out.lt k hk).2; have b := hsz1.out; omega) (fun k hk => by have a := HP2.out.lt k hk; have b := hzz2.out; omega) (fun k hk => by have a := rows_lt HP3.out k hk; have b := hsz3.out; omega) (fun k hk => (HP4.out.lt k hk).1) (by have := hsz9.out; omega) (by have := hsz9.out; omega) (by omega)
    have hTO : Hid (TOwn w2.heap.size w12 (.slice A9 (us.length + 1) c9) (us ++ [(⟨kd, B1, B2, B3, B4, d1, d2, d3, d4, E, K, S, T⟩ : Nd)])) := show TOwn _ _ _ _ from
      TOwn.snoc (M := w3.heap.size) ((hO.out.calm HCC.out).calm ((Calm.refl _).alloc _)) (fun k hk => Nat.lt_of_lt_of_le (hO.out.lt k hk) (by have := HS3.out; omega)) hNd.out (by have a := hsz2.out; have b := HS3.out; omega) hap.out HO9.out HG9.out HT9.out
    have hSS : Hid (SameT (l.take (k + 1)) (us ++ [(⟨kd, B1, B2, B3, B4, d1, d2, d3, d4, E, K, S, T⟩ : Nd)])) := show SameT _ _ from same_snoc hS.out HN.out rfl rfl rfl rfl rfl
    have hCC : Hid (Calm w1 w12) := show Calm _ _ from Below.grown ((hv.out.call HCC.out).alloc _) HG9.out (Calm.size ((hv.out.call HCC.out).alloc _)) (fun k hk => by have a := (hO.out.row.lt k hk).1; have b := HS2.out; omega)
    have hz12 : Hid (w2.heap.size ≤ w12.heap.size) := show _ ≤ _ from Nat.le_trans (Nat.le_trans hb11 (by simp)) HG9.out.size
    obtain ⟨UU, hUU⟩ : ∃ UU, us ++ [(⟨kd, B1, B2, B3, B4, d1, d2, d3, d4, E, K, S, T⟩ : Nd)] = UU := ⟨_, rfl⟩
    have hlw : w1.heap.size < w2.heap.size := by have := HS2.out; omega
    have hT2 : Hid (TOwn w2.heap.size (w12.setCell ⟨w1.heap.size, 1, none⟩ (.slice A9 (us.length + 1) c9)) (.slice A9 (us.length + 1) c9) UU) := show TOwn _ _ _ _ from by rw [← hUU]; exact hTO.out.set hlw 1 _
    have hS2 : Hid (SameT (l.take (k + 1)) UU) := show SameT _ _ from hUU ▸ hSS.out
    have hbb : Hid ((w12.setCell ⟨w1.heap.size, 1, none⟩ (.slice A9 (us.length + 1) c9)).heap[w1.heap.size]? = some (.cells #[.int .i64 root, .slice A9 (us.length + 1) c9] 24 (0, 0))) := show _ = _ from box_set HB9.out 1 _
    have hC2 : Hid (Calm w1 (w12.setCell ⟨w1.heap.size, 1, none⟩ (.slice A9 (us.length + 1) c9))) := show Calm _ _ from hCC.out.setCell (p := ⟨w1.heap.size, 1, none⟩) (Nat.le_refl _) _
    have hz2 : Hid (w2.heap.size ≤ (w12.setCell ⟨w1.heap.size, 1, none⟩ (.slice A9 (us.length + 1) c9)).heap.size) := show _ ≤ _ from by simp [World.setCell]; exact hz12.out
    clear hUU hTO hSS
    go_roundw
    case rel => exact ⟨k + 1, _, UU, by omega, by go_num, hS2, hT2, hbb, hC2, hz2⟩
    case measure => simp [intOf]; omega
open Go.RowKit
def TB (v:Value) (us:List Nd) (k:Nat):Prop:=v.ownBlock=some k∨∃ (i:Nat) (m:Nd) (j:Nat),us[i]?=some m∧m.blk j=some k
theorem TOwn.range {B:Nat} {w:World} {v:Value} {l:List Nd} (h:TOwn B w v l):∀ k,TB v l k→B≤k∧k<w.heap.size:=fun k hk=>by
 rcases hk with hk | ⟨i,m,j,hi,hj⟩
 ·exact h.row.lt k hk
 ·exact (h.nd i m hi).lt j k hj
theorem TOwn.same {B:Nat} {w w':World} {v:Value} {l:List Nd} (h:TOwn B w v l) (hb:∀ k,TB v l k→w'.heap[k]?=w.heap[k]?):TOwn B w' v l :=
 ⟨rows_same h.row fun k hk=>hb k (.inl hk),fun i n hn=>(h.nd i n hn).same fun j k hk=>hb k (.inr ⟨i,n,j,hn,hk⟩),h.ap,h.ne⟩
def insZ:Array Value:=#[.int .i64 0,.slice none 0 0,.slice none 0 0]
def tagAt (w:World) (g:Nat):TypeId:=match w.heap[g]? with | some (.cells _ t _)=>t | _=>0
theorem tag_of {w:World} {g t:Nat} {cs:Array Value} {fr:Nat × Nat} (h:w.heap[g]?=some (.cells cs t fr)):w.heap[g]?=some (.cells cs (tagAt w g) fr):=by
 unfold tagAt
 rw [h]
structure InsOk (B:Nat) (w:World) (g:Nat) (root:Int) (v vW:Value) (us:List Nd) (W:List Int):Prop where
 box:w.heap[g]?=some (.cells #[.int .i64 root,v,vW] (tagAt w g) (0,0))
 t:TOwn B w v us
 n:OwnI B w vW W
 ge:B≤g
 tn:∀ k,TB v us k→vW.ownBlock≠some k
 tg:¬ TB v us g
 ng:vW.ownBlock≠some g
structure PreT (wl:World) (B:Nat) (l:List Nd) (root:Int) (v:Value) (us:List Nd) (c1 c4 c5 c6:Bool) (Y:Nat→Value) (w:World):Prop where
 calm:Calm wl w
 hB:B≤wl.heap.size
 t:c1=true→Y 1=.agg #[.int .i64 root,v]∧SameT l us∧TOwn B w v us
 n:c4=true→OwnI B w (Y 4) [root]
 a:c5=true→c1=true∧c4=true∧Y 5=.agg #[.int .i64 root,v,Y 4]
 g:c6=true→∃ g,Y 6=.pointer (some ⟨g,0,none⟩)∧B≤g∧w.heap[g]?=some (.cells insZ 103 (0,0))
 tn:c1=true→c4=true→∀ k,TB v us k→(Y 4).ownBlock≠some k
 tg:c1=true→c6=true→∀ k,TB v us k→Y 6≠.pointer (some ⟨k,0,none⟩)
 ng:c4=true→c6=true→∀ k,(Y 4).ownBlock=some k→Y 6≠.pointer (some ⟨k,0,none⟩)
section
variable {wl:World} {B:Nat} {l:List Nd} {root:Int} {v:Value} {us:List Nd} {c1 c4 c5 c6:Bool} {Y:Nat→Value} {w w':World}
theorem PreT.stay (h:PreT wl B l root v us c1 c4 c5 c6 Y w) (hb:Calm w w'):PreT wl B l root v us c1 c4 c5 c6 Y w' :=
 ⟨h.calm.call hb,h.hB,fun c=>⟨(h.t c).1,(h.t c).2.1,(h.t c).2.2.calm hb⟩,fun c=>(h.n c).calm hb,h.a,fun c=>by
  obtain ⟨g,g1,g2,g3⟩:=h.g c
  exact ⟨g,g1,g2,(hb.block (Array.getElem?_eq_some_iff.1 g3).1).trans g3⟩,h.tn,h.tg,h.ng⟩
theorem PreT.start (hB:B≤wl.heap.size):PreT wl B l root v us false false false false Y wl where
 calm:=Calm.refl _
 hB:=hB
 t h:=absurd h (by simp)
 n h:=absurd h (by simp)
 a h:=absurd h (by simp)
 g h:=absurd h (by simp)
 tn h:=absurd h (by simp)
 tg h:=absurd h (by simp)
 ng h:=absurd h (by simp)
theorem PreT.lt6 (h:PreT wl B l root v us c1 c4 c5 c6 Y w) (c:c6=true):∀ k,Y 6=.pointer (some ⟨k,0,none⟩)→k<w.heap.size:=fun k hk=>by
 obtain ⟨g,g1,g2,g3⟩:=h.g c
 rw [g1] at hk
 injection hk with hk;injection hk with hk;injection hk with hk
 subst hk
 exact (Array.getElem?_eq_some_iff.1 g3).1
theorem PreT.do1 (h:PreT wl B l root v us false c4 c5 c6 Y w) {v':Value} {us':List Nd} (hs:SameT l us') (ho:TOwn w.heap.size w' v' us') (hb:Calm w w'):PreT wl B l root v' us' true c4 c5 c6 (updV Y 1 (.agg #[.int .i64 root,v'])) w':=by
 have hw:=h.calm.size
 have hBw:=h.hB
 have h':=h.stay hb
 have hv:=fun k hk=>(ho.range k hk).1
 refine ⟨h'.calm,h'.hB,fun _=>⟨lkUpd_same _ _ _,hs,ho.mono (by omega)⟩,h'.n,fun c=>absurd (h.a c).1 (by simp),h'.g,fun _ c k hk hk2=>?_,fun _ c k hk hk2=>?_,h'.ng⟩
 ·rw [lkUpd_other _ _ (by decide)] at hk2
  have:=hv k hk;have:=((h.n c).lt k hk2).2;omega
 ·rw [lkUpd_other _ _ (by decide)] at hk2
  have:=hv k hk;have:=h.lt6 c k hk2;omega
theorem PreT.do4 (h:PreT wl B l root v us c1 false c5 c6 Y w):PreT wl B l root v us c1 true c5 c6 (updV Y 4 (.slice (some ⟨w.heap.size,0,none⟩) 1 1)) (w.alloc (.cells #[.int .i64 root] 3)):=by
 have hw:=h.calm.size
 have hBw:=h.hB
 have h':=h.stay ((Calm.refl w).alloc (.cells #[.int .i64 root] 3))
 have hv:∀ k,(Value.slice (some ⟨w.heap.size,0,none⟩) 1 1).ownBlock=some k→k=w.heap.size:=fun k hk=>by injection hk with hk;exact hk.symm
 refine ⟨h'.calm,h'.hB,fun c=>⟨by rw [lkUpd_other _ _ (by decide)];exact (h'.t c).1,(h'.t c).2⟩,fun _=>?_,fun c=>absurd (h.a c).2.1 (by simp),h'.g,fun c _ k hk hk2=>?_,h'.tg,fun _ c k hk hk2=>?_⟩
 ·rw [lkUpd_same];exact OwnI.one (by omega) (heap_new _ _)
 ·rw [lkUpd_same] at hk2
  have:=hv k hk2;have:=((h.t c).2.2.range k hk).2;omega
 ·rw [lkUpd_same] at hk
  rw [lkUpd_other _ _ (by decide)] at hk2
  have:=hv k hk;have:=h.lt6 c k hk2;omega
theorem PreT.do5 (h:PreT wl B l root v us true true false c6 Y w):PreT wl B l root v us true true true c6 (updV Y 5 (.agg #[.int .i64 root,v,Y 4])) w :=
 ⟨h.calm,h.hB,h.t,h.n,fun _=>⟨rfl,rfl,rfl⟩,h.g,h.tn,h.tg,h.ng⟩
theorem PreT.do6 (h:PreT wl B l root v us c1 c4 c5 false Y w):PreT wl B l root v us c1 c4 c5 true (updV Y 6 (.pointer (some ⟨w.heap.size,0,none⟩))) (w.alloc (.cells insZ 103)):=by
 have hw:=h.calm.size
 have hBw:=h.hB
 have h':=h.stay ((Calm.refl w).alloc (.cells insZ 103))
 have hne:∀ k,k<w.heap.size→(Value.pointer (some ⟨w.heap.size,0,none⟩))≠.pointer (some ⟨k,0,none⟩):=fun k hk he=>by
  injection he with he;injection he with he;injection he with he;omega
 refine ⟨h'.calm,h'.hB,h'.t,h'.n,h'.a,fun _=>⟨w.heap.size,lkUpd_same _ _ _,by omega,heap_new _ _⟩,h'.tn,fun c _ k hk=>?_,fun c _ k hk=>?_⟩
 ·rw [lkUpd_same];exact hne k ((h.t c).2.2.range k hk).2
 ·rw [lkUpd_same];exact hne k ((h.n c).lt k hk).2
def World.three (w:World) (g:Nat) (b0 b1 b2:Value):World:=((w.setCell ⟨g,0,none⟩ b0).setCell ⟨g,1,none⟩ b1).setCell ⟨g,2,none⟩ b2
theorem three_other {g:Nat} (b0 b1 b2:Value) {k:Nat} (hk:k≠g):(World.three w g b0 b1 b2).heap[k]?=w.heap[k]?:=by
 have ho:∀ (u:World) (j:Nat) (x:Value),(u.setCell ⟨g,j,none⟩ x).heap[k]?=u.heap[k]?:=fun u j x=>heap_setCell_other u ⟨g,j,none⟩ k x (fun e=>hk (by simpa using e))
 unfold World.three
 rw [ho,ho,ho]
theorem PreT.do7 (h : PreT wl B l root v us true true true true Y w) {g : Nat} (h6 : Y 6 = .pointer (some ⟨g, 0, none⟩)) (hBg : B ≤ g) (hg : w.heap[g]? = some (.cells insZ 103 (0, 0))) (hgl : wl.heap.size ≤ g) :
    Calm wl (World.three w g (.int .i64 root) v (Y 4)) ∧ InsOk B (World.three w g (.int .i64 root) v (Y 4)) g root v (Y 4) us [root] := by
  have n1 : ∀ k, TB v us k → k ≠ g := fun k hk he => by subst he; exact h.tg rfl rfl k hk h6
  have n4 : ∀ k, (Y 4).ownBlock = some k → k ≠ g := fun k hk he => by subst he; exact h.ng rfl rfl k hk h6
  refine ⟨((h.calm.setCell (p := ⟨g, 0, none⟩) hgl _).setCell (p := ⟨g, 1, none⟩) hgl _).setCell (p := ⟨g, 2, none⟩) hgl _, ⟨?_, (h.t rfl).2.2.same fun k hk => three_other _ _ _ (n1 k hk), rows_same (h.n rfl) fun k hk => three_other _ _ _ (n4 k hk), hBg, h.tn rfl rfl, fun hk => n1 g hk rfl, fun hk => n4 g hk rfl⟩⟩
  unfold World.three
  exact tag_of (box_set (box_set (box_set hg 0 _) 1 _) 2 _)
end
def StT (wl:World) (B:Nat) (l:List Nd) (root:Int):Stages:=fun bs Y w =>
 (∃ c1 c4 c5 c6 v us,bs=[c1,c4,c5,c6,false]∧PreT wl B l root v us c1 c4 c5 c6 Y w) ∨
 (bs=[true,true,true,true,true]∧Calm wl w∧∃ g v us,Y 6=.pointer (some ⟨g,0,none⟩)∧SameT l us∧InsOk B w g root v (Y 4) us [root])
theorem InsOk.calm {B:Nat} {w w':World} {g:Nat} {root:Int} {v vW:Value} {us:List Nd} {W:List Int} (h:InsOk B w g root v vW us W) (hb:Calm w w'):InsOk B w' g root v vW us W :=
 ⟨tag_of ((hb.block (Array.getElem?_eq_some_iff.1 h.box).1).trans h.box),h.t.calm hb,h.n.calm hb,h.ge,h.tn,h.tg,h.ng⟩
theorem StT.stay {wl:World} {B:Nat} {l:List Nd} {root:Int}:∀ bs Y w w',StT wl B l root bs Y w→Calm w w'→StT wl B l root bs Y w':=fun bs Y w w' h hb=>by
 rcases h with ⟨c1,c4,c5,c6,v,us,h1,h2⟩ | ⟨h1,h2,g,v,us,h3,h4,h5⟩
 ·exact .inl ⟨c1,c4,c5,c6,v,us,h1,h2.stay hb⟩
 ·exact .inr ⟨h1,h2.call hb,g,v,us,h3,h4,h5.calm hb⟩
theorem StT.calm {wl:World} {B:Nat} {l:List Nd} {root:Int} {bs:List Bool} {Y:Nat→Value} {w:World} (h:StT wl B l root bs Y w):Calm wl w:=by
 rcases h with ⟨_,_,_,_,_,_,_,h2⟩ | ⟨_,h2,_⟩
 ·exact h2.calm
 ·exact h2
theorem StT.pre {wl : World} {B : Nat} {l : List Nd} {root : Int} {L : Nat → Bool} {Y : Nat → Value} {w : World} (h : StT wl B l root ([1, 4, 5, 6, 7].map L) Y w) (hL : L 1 = false ∨ L 4 = false ∨ L 5 = false ∨ L 6 = false ∨ L 7 = false) :
    L 7 = false ∧ ∃ v us, PreT wl B l root v us (L 1) (L 4) (L 5) (L 6) Y w := by
  rcases h with ⟨c1, c4, c5, c6, v, us, h1, h2⟩ | ⟨h1, -⟩
  · simp only [List.map_cons, List.map_nil, List.cons.injEq, and_true] at h1
    obtain ⟨e1, e4, e5, e6, e7⟩ := h1
    subst e1; subst e4; subst e5; subst e6
    exact ⟨e7, v, us, h2⟩
  · simp only [List.map_cons, List.map_nil, List.cons.injEq, and_true] at h1
    obtain ⟨e1, e4, e5, e6, e7⟩ := h1
    rcases hL with h | h | h | h | h <;> simp_all
open Go.RowKit
def FromEnd (B:Nat) (w:World) (v:Value) (L:List El) (e:Ending) (w':World):Prop:=∃ v',e=.returned v'∧OwnR B w' v' L∧Grw w w' v v'
theorem fromR_take {s:Sp} {N:Nat} {L E:List El} {k:Nat} {e:El} (h:E[k]?=some e):fromR s N L (E.take (k+1))=if (fromR s N L (E.take k)).length<N∧¬ sL e.sp s then fromR s N L (E.take k)++[e] else fromR s N L (E.take k):=by
 rw [← takeSnoc' h,fromR_snoc]
theorem sL_scmp (a b:Sp):sL a b↔scmp a.p a.o a.f a.m b.p b.o b.f b.m<0:=(scmp_neg (p:=a.p) (o:=a.o) (f:=a.f) (m:=a.m) (p':=b.p) (o':=b.o) (f':=b.f) (m':=b.m)).symm
def FromOk (root : Int) (A : Option Addr) (c : Nat) (l : List Nd) (w0 : World) (p o f m : Int) (N : Nat) (d : Nat) : Prop := ∀ (x : Int) (lo hi : Sp) (_ : Deep l d x) (_ : OrdP l d x lo hi) (v : Value) (L : List El) (w : World)
    (_ : Calm w0 w) (_ : OwnR w0.heap.size w v L) (_ : L.length + (recsD l d x).length ≤ 1000000),
    Calls Try.prog 66 #[v, .agg #[.int .i64 root, .slice A l.length c], .int .i64 x, .agg #[.int .i64 p, .int .i64 o, .int .i64 f, .int .i64 m], .int .i64 (N : Int)] w (FromEnd w0.heap.size w v (fromR ⟨p, o, f, m⟩ N L (recsD l d x)))
set_option maxHeartbeats 16000000 in
theorem appendFrom_step (root : Int) (A : Option Addr) (c : Nat) (l : List Nd) (hok : NdsOk l) (hcap : ∀ n ∈ l, NdCaps n) (w0 : World) (h0 : TrAt w0 A l) (p o f m : Int) (N : Nat) (d : Nat) (ih : Hid (FromOk root A c l w0 p o f m N d)) : FromOk root A c l w0 p o f m N (d + 1) := by
    intro x lo hi hD hO v L w hc ho hlen
    obtain ⟨n, hn, hcase⟩ := id hD
    obtain ⟨i1, i2, i3⟩ := nd_of_in hn
    obtain ⟨XX, rfl⟩ : ∃ XX : Nat, x = (XX : Int) := ⟨x.toNat, by omega⟩
    rw [Int.toNat_natCast] at i3
    have hXl : XX < l.length := by omega
    have hFN := fromR_node hok hD hO hn ⟨p, o, f, m⟩ N L
    have hk0 := kid0_le (hok n (List.mem_of_getElem? i3)) ⟨p, o, f, m⟩
    have hsz := nd_sizes (hok n (List.mem_of_getElem? i3))
    have hz := hok n (List.mem_of_getElem? i3)
    have hcp := (hcap n (List.mem_of_getElem? i3)).2.1
    have hlR : L.length + (n.E.length + (n.K.flatMap (recsD l d)).length) ≤ 1000000 := by rw [recsD, hn] at hlen; simpa using hlen
    have hkid : ∀ (j : Nat) (y : Int), n.kd = 2 → n.K[j]? = some y → Deep l d y ∧ OrdP l d y (bdLo n.S lo j) (bdHi n.S hi j) := fun j y h2 hy =>
      ⟨by rcases hcase with ⟨h1, -⟩ | ⟨-, h3⟩
          · omega
          · exact h3 y (List.mem_of_getElem? hy), (hO n hn).2.2 j y hy⟩
    have hkd2 : n.kd = 1 ∨ n.kd = 2 := hcase.imp (·.1) (·.1)
    obtain ⟨b, q, kd, A1, A2, A3, A4, c1, c2, c3, c4, E, K, S, T, hA, hbb, HN, HA, n0, n1, n2, n3, n4⟩ := h0.get hXl
    cases hA
    have hnd : n = ⟨kd, A1, A2, A3, A4, c1, c2, c3, c4, E, K, S, T⟩ := by
      have := HN.out
      rw [i3] at this
      exact Option.some.inj this
    subst hnd
    simp only at hFN hk0 hsz hz hcp hlR hkid hkd2
    have cFK := fun u (hu : Calm w0 u) => firstKid_any kd A1 A2 A3 A4 c1 c2 c3 c4 E K S T p o f m u (HA.out.calm hu) hz
    have hko : kd = 1 → kid0 ⟨kd, A1, A2, A3, A4, c1, c2, c3, c4, E, K, S, T⟩ ⟨p, o, f, m⟩ = 0 := fun h1 => by unfold kid0; rw [if_neg (by simp only; omega)]
    have hkl : kd = 2 → E = [] ∧ kid0 ⟨kd, A1, A2, A3, A4, c1, c2, c3, c4, E, K, S, T⟩ ⟨p, o, f, m⟩ < K.length := fun h2 => by
      subst h2
      obtain ⟨g1, g2, g3, g4, -, -, -, -⟩ := inner_good hz
      refine ⟨List.eq_nil_of_length_eq_zero g1, ?_⟩
      have := pos_le (S.map Sp.el) (p, o, f) m
      rw [List.length_map] at this
      unfold kid0 ndKid
      rw [if_pos rfl]
      simp only
      omega
    generalize kid0 ⟨kd, A1, A2, A3, A4, c1, c2, c3, c4, E, K, S, T⟩ ⟨p, o, f, m⟩ = k0 at hFN hk0 cFK hko hkl
    have HFN := Lib.hid hFN
    have HSZ := Lib.hid hsz
    have HLR := Lib.hid hlR
    have HKID := Lib.hid hkid
    have HKO := Lib.hid hko
    have HKL := Lib.hid hkl
    have HKD := Lib.hid hkd2
    have hxl : (XX : Int) < (l.length : Int) := by omega
    clear hFN hsz hz hlR hkid hkd2 hko hkl hcase hlen hD hO hn
    have hx := heap_past (.cells #[.int .i64 p, .int .i64 o, .int .i64 f, .int .i64 m] 62) (heap_new w (.cells #[.int .i64 root, .slice (some ⟨b, q, none⟩) l.length c] 24))
    have hy := heap_new (w.alloc (.cells #[.int .i64 root, .slice (some ⟨b, q, none⟩) l.length c] 24)) (.cells #[.int .i64 p, .int .i64 o, .int .i64 f, .int .i64 m] 62)
    rw [World.size_alloc] at hy
    have hu := ((Calm.refl w).alloc (.cells #[.int .i64 root, .slice (some ⟨b, q, none⟩) l.length c] 24)).alloc (.cells #[.int .i64 p, .int .i64 o, .int .i64 f, .int .i64 m] 62)
    have hs1 : ((w.alloc (.cells #[.int .i64 root, .slice (some ⟨b, q, none⟩) l.length c] 24)).alloc (.cells #[.int .i64 p, .int .i64 o, .int .i64 f, .int .i64 m] 62)).heap.size = w.heap.size + 2 := by simp
    have hvlt : Hid (∀ k, v.ownBlock = some k → w0.heap.size ≤ k ∧ k < w.heap.size) := show ∀ _, _ from fun k hk => ho.lt k hk
    have hvb : Hid (∀ k, v.ownBlock = some k → w0.heap.size ≤ k) := show ∀ _, _ from fun k hk => (ho.lt k hk).1
    go_enter Try.func66, Try.ntmps66
    go_upto_region 1 with fail
    have hO1 := Lib.hid (ho.calm hu)
    generalize (w.alloc (.cells #[.int .i64 root, .slice (some ⟨b, q, none⟩) l.length c] 24)).alloc (.cells #[.int .i64 p, .int .i64 o, .int .i64 f, .int .i64 m] 62) = w1 at hx hy hu hs1 hO1 ⊢
    obtain ⟨x0, x1, hxs⟩ := rowT hx
    have hvc := (hc.call hu).facts.1
    replace n0 := (hvc _ _ hbb).trans n0; replace n1 := (hvc _ _ hbb).trans n1; replace n2 := (hvc _ _ hbb).trans n2; replace n3 := (hvc _ _ hbb).trans n3; replace n4 := (hvc _ _ hbb).trans n4
    have hbb1 : b < w1.heap.size := Nat.lt_of_lt_of_le hbb (hc.call hu).size
    have HS1 := Lib.hid hs1
    clear hvc hs1
    go_upto_region 2 with fail
    have hnb := heap_new w1 (.cells #[.int .i64 kd, .slice A1 E.length c1, .slice A2 K.length c2, .slice A3 S.length c3, .slice A4 T.length c4] 32)
    have hc3 := (Calm.refl w1).alloc (.cells #[.int .i64 kd, .slice A1 E.length c1, .slice A2 K.length c2, .slice A3 S.length c3, .slice A4 T.length c4] 32)
    have hs3 : (w1.alloc (.cells #[.int .i64 kd, .slice A1 E.length c1, .slice A2 K.length c2, .slice A3 S.length c3, .slice A4 T.length c4] 32)).heap.size = w1.heap.size + 1 := by simp
    generalize w1.alloc (.cells #[.int .i64 kd, .slice A1 E.length c1, .slice A2 K.length c2, .slice A3 S.length c3, .slice A4 T.length c4] 32) = w3 at hnb hc3 hs3 ⊢
    have hx3 := (hc3.block (rowT hx).2.2).trans hx
    have hy3 := (hc3.block (row4 hy).2.2.2.2).trans hy
    have hu3 := hu.call hc3
    have hO3 := Lib.hid (hO1.out.calm hc3)
    have HC3 := Lib.hid (hc.call hu3)
    have HS := Lib.hid (And.intro HS1.out hs3)
    have hvs : Hid (∀ k, v.ownBlock = some k → k < w.heap.size) := show ∀ _, _ from fun k hk => (hvlt.out k hk).2
    obtain ⟨m0, m1, m2, m3, m4, hms⟩ := row5 hnb
    clear hs3 hc3 x0 x1 hxs n0 n1 n2 n3 n4 hbb hbb1 hx hy hO1
    go_wp2_with fail
    go_loopw [0, 24] (fun a i wr => ∃ (k : Nat) (v' : Value), k ≤ E.length ∧ i = .int .i64 k ∧ a = v' ∧ Hid (OwnR w0.heap.size wr v' (fromR ⟨p, o, f, m⟩ N L (E.take k))) ∧ Hid (Grw w3 wr v v')) (fun _ i _ => E.length - (intOf i).toNat)
    case atStart => exact ⟨0, v, Nat.zero_le _, rfl, rfl, (show OwnR _ _ _ _ by rw [List.take_zero, fromR_nil]; exact hO3.out), Grw.refl _ _⟩
    clear m0 m1 m2 m3 m4 hms hO3
    case round =>
      obtain ⟨k, v', hkE, rfl, rfl, hO, hG⟩ := hrel
      have hcr := Lib.hid (Grw.calm HC3.out hG.out hvb.out)
      have hyr := (hG.out.block (k := w.heap.size + 1) (by have := HS.out; omega) (fun j hj => by have := hvs.out j hj; omega)).trans hy3
      have hxr := (hG.out.block (k := w.heap.size) (by have := HS.out; omega) (fun j hj => hvs.out j hj)).trans hx3
      have hnr := (hG.out.block (k := w1.heap.size) (by have := HS.out; omega) (fun j hj => by have := hvs.out j hj; have := HS.out; omega)).trans hnb
      obtain ⟨y0, y1, y2, y3, hys⟩ := row4 hyr
      obtain ⟨x0, x1, hxs⟩ := rowT hxr
      obtain ⟨m0, m1, m2, m3, m4, hms⟩ := row5 hnr
      obtain ⟨MM, hMM⟩ : ∃ MM, fromR ⟨p, o, f, m⟩ N L (E.take k) = MM := ⟨_, rfl⟩
      have hMl : MM.length ≤ 1000000 := by
        have := fromR_len ⟨p, o, f, m⟩ N L (E.take k)
        have h9 := HLR.out
        have h8 := List.length_take_le k E
        rw [hMM] at this; omega
      rw [hMM] at hO
      have HMM := Lib.hid hMM
      clear hMM
      obtain ⟨Av, cv, ev⟩ := hO.out.slice
      subst ev
      by_cases hlt : k < E.length
      · obtain ⟨be, qe, p', o', f', m', g', s', hAe, hbe, HE, hme, e0, e1, e2, e3, e4, e5⟩ := (HA.out.calm hcr.out).e.get hlt
        subst hAe
        have hstep : Hid (fromR ⟨p, o, f, m⟩ N L (E.take (k + 1)) = if MM.length < N ∧ ¬ sL ⟨p', o', f', m'⟩ ⟨p, o, f, m⟩ then MM ++ [⟨p', o', f', m', g', s'⟩] else MM) := show _ = _ by rw [fromR_take HE.out, HMM.out]; rfl
        have hE8 := HSZ.out.1
        have hbox := heap_new wr (.cells #[.int .i64 p', .int .i64 o', .int .i64 f', .int .i64 m', .int .i64 g', .string s'] 43)
        have hal := (Calm.refl wr).alloc (.cells #[.int .i64 p', .int .i64 o', .int .i64 f', .int .i64 m', .int .i64 g', .string s'] 43)
        go_upto_region 5 with fail
        have hy5 := (hal.block (row4 hyr).2.2.2.2).trans hyr
        generalize wr.alloc (.cells #[.int .i64 p', .int .i64 o', .int .i64 f', .int .i64 m', .int .i64 g', .string s'] 43) = w5 at hbox hal hy5 ⊢
        clear x0 x1 hxs m0 m1 m2 m3 m4 hms y0 y1 y2 y3 hys e0 e1 e2 e3 e4 e5
        obtain ⟨y0, y1, y2, y3, hys⟩ := row4 hy5
        obtain ⟨e0, e1, e2, e3, e4, e5, hes⟩ := row6 hbox
        have hO5 := Lib.hid (hO.out.calm hal)
        by_cases hMN : MM.length < N
        · have hMi : (MM.length : Int) < (N : Int) := by omega
          obtain ⟨C, hC⟩ : ∃ C, scmp p' o' f' m' p o f m = C := ⟨_, rfl⟩
          have cC := fun u => cmpSpot_any p' o' f' m' p o f m u
          rw [hC] at cC
          have HC := Lib.hid hC
          clear hC
          by_cases hC0 : C ≥ 0
          · have hs : Hid (MM ++ [⟨p', o', f', m', g', s'⟩] = fromR ⟨p, o, f, m⟩ N L (E.take (k + 1))) := show _ = _ by
              rw [hstep.out, if_pos ⟨hMN, fun h => by have := (sL_scmp _ _).1 h; simp only at this; rw [HC.out] at this; omega⟩]
            refine wp_region_plan [.val (.slice Av MM.length cv), .val (.int .i64 (MM.length)), .val (.int .i64 (N)), .val (.bool true), .val (.bool true), .val (.agg #[.int .i64 p', .int .i64 o', .int .i64 f', .int .i64 m', .int .i64 g', .string s']), .val (.agg #[.int .i64 p', .int .i64 o', .int .i64 f', .int .i64 m']), .val (.agg #[.int .i64 p, .int .i64 o, .int .i64 f, .int .i64 m]), .val (.int .i64 (C)), .val (.bool true), .val (.bool true)] (by kernel_rfl) (by kernel_rfl) (by kernel_rfl) ?_
            intro X
            iterate 11
              refine plan_val (by kernel_rfl) (fun u hu => ?_) ?_
              · obtain ⟨hc, hf, hz⟩ := hu.of_drew.facts
                go_simp
                all_goals first
                  | ((go_at_call 28; exact spot_any _ _ _ _ _ _ _))
                  | ((go_at_call 102; exact cC _))
              simp only [Act.put, List.setIfInBounds_toArray, List.set_cons_zero, List.set_cons_succ, Nat.reduceAdd]
            refine plan_end ?_
            intro w' hB
            have hk := hB.calm.of_drew
            clear hB
            have hbox6 := (hk.block (row6 hbox).2.2.2.2.2.2).trans hbox
            have hO6 := Lib.hid (hO5.out.calm hk)
            have hG6 := Lib.hid (hG.out.trans ((hal.call hk).grw _))
            clear y0 y1 y2 y3 hys e0 e1 e2 e3 e4 e5 hes
            obtain ⟨e0, e1, e2, e3, e4, e5, hes⟩ := row6 hbox6
            have hsz6 : w0.heap.size ≤ w'.heap.size := Nat.le_trans hcr.out.size (hal.call hk).size
            go_wp2_with (at_builtin; refine wpList_append_e1 rfl _ _ rfl w0.heap.size _ _ rfl (hO6.out.calm ((Calm.refl _).alloc _)) _ _ ⟨p', o', f', m', g', s'⟩ _ rfl (heap_new _ _) hMl (Nat.le_trans hsz6 (by simp)) ?_; intro v9 w9 ho9 hg9)
            have hO9 : Hid (OwnR w0.heap.size w9 v9 (fromR ⟨p, o, f, m⟩ N L (E.take (k + 1)))) := show OwnR _ _ _ _ from hs.out ▸ ho9
            have hG9 := Lib.hid ((hG6.out.trans (((Calm.refl w').alloc _).grw _)).trans hg9)
            clear ho9 hg9
            go_wp2_with fail
            go_roundw
            case rel => exact ⟨k + 1, v9, by omega, by go_num, rfl, hO9, hG9⟩
            case measure => simp [intOf]; omega
          · have hs : Hid (MM = fromR ⟨p, o, f, m⟩ N L (E.take (k + 1))) := show _ = _ by
              rw [hstep.out, if_neg (fun h => h.2 ((sL_scmp _ _).2 (by simp only; rw [HC.out]; omega)))]
            refine wp_region_plan [.val (.slice Av MM.length cv), .val (.int .i64 (MM.length)), .val (.int .i64 (N)), .val (.bool true), .val (.bool true), .val (.agg #[.int .i64 p', .int .i64 o', .int .i64 f', .int .i64 m', .int .i64 g', .string s']), .val (.agg #[.int .i64 p', .int .i64 o', .int .i64 f', .int .i64 m']), .val (.agg #[.int .i64 p, .int .i64 o, .int .i64 f, .int .i64 m]), .val (.int .i64 (C)), .val (.bool false), .val (.bool false)] (by kernel_rfl) (by kernel_rfl) (by kernel_rfl) ?_
            intro X
            iterate 11
              refine plan_val (by kernel_rfl) (fun u hu => ?_) ?_
              · obtain ⟨hc, hf, hz⟩ := hu.of_drew.facts
                go_simp
                all_goals first
                  | ((go_at_call 28; exact spot_any _ _ _ _ _ _ _))
                  | ((go_at_call 102; exact cC _))
              simp only [Act.put, List.setIfInBounds_toArray, List.set_cons_zero, List.set_cons_succ, Nat.reduceAdd]
            refine plan_end ?_
            intro w' hB
            have hk := hB.calm.of_drew
            clear hB
            have hO6 : Hid (OwnR w0.heap.size w' (.slice Av MM.length cv) (fromR ⟨p, o, f, m⟩ N L (E.take (k + 1)))) := show OwnR _ _ _ _ from hs.out ▸ hO5.out.calm hk
            have hG6 := Lib.hid (hG.out.trans ((hal.call hk).grw _))
            clear hk
            go_wp2_with fail
            go_roundw
            case rel => exact ⟨k + 1, _, by omega, by go_num, rfl, hO6, hG6⟩
            case measure => simp [intOf]; omega
        · have hMi : ¬ (MM.length : Int) < (N : Int) := by omega
          have hs : Hid (MM = fromR ⟨p, o, f, m⟩ N L (E.take (k + 1))) := show _ = _ by
            rw [hstep.out, if_neg (fun h => hMN h.1)]
          refine wp_region_plan [.val (.slice Av MM.length cv), .val (.int .i64 (MM.length)), .val (.int .i64 (N)), .val (.bool false), .val (.bool false), .idle, .idle, .idle, .idle, .idle, .val (.bool false)] (by kernel_rfl) (by kernel_rfl) (by kernel_rfl) ?_
          intro X
          iterate 5
            refine plan_val (by kernel_rfl) (fun u hu => ?_) ?_
            · obtain ⟨hc, hf, hz⟩ := hu.of_drew.facts
              go_simp
            simp only [Act.put, List.setIfInBounds_toArray, List.set_cons_zero, List.set_cons_succ, Nat.reduceAdd]
          iterate 5
            refine plan_idle (by kernel_rfl) ?_
            simp only [Act.put, List.setIfInBounds_toArray, List.set_cons_zero, List.set_cons_succ, Nat.reduceAdd]
          iterate 1
            refine plan_val (by kernel_rfl) (fun u hu => ?_) ?_
            · obtain ⟨hc, hf, hz⟩ := hu.of_drew.facts
              go_simp
            simp only [Act.put, List.setIfInBounds_toArray, List.set_cons_zero, List.set_cons_succ, Nat.reduceAdd]
          refine plan_end ?_
          intro w' hB
          have hk := hB.calm.of_drew
          clear hB
          have hO6 : Hid (OwnR w0.heap.size w' (.slice Av MM.length cv) (fromR ⟨p, o, f, m⟩ N L (E.take (k + 1)))) := show OwnR _ _ _ _ from hs.out ▸ hO5.out.calm hk
          have hG6 := Lib.hid (hG.out.trans ((hal.call hk).grw _))
          clear hk
          go_wp2_with fail
          go_roundw
          case rel => exact ⟨k + 1, _, by omega, by go_num, rfl, hO6, hG6⟩
          case measure => simp [intOf]; omega
      · have hkk : k = E.length := by omega
        have hkE2 : E.take k = E := by rw [hkk, List.take_length]
        rw [hkE2] at HMM
        have hli : ¬ (k : Int) < (E.length : Int) := by omega
        clear hkE2 hkk hlt hkE x0 x1 hxs y0 y1 y2 y3 hys m0 m1 m2 m3 m4 hms
        obtain ⟨m0, m1, m2, m3, m4, hms⟩ := row5 hnr
        obtain ⟨y0, y1, y2, y3, hys⟩ := row4 hyr
        rcases HKD.out with h1 | h2
        · obtain rfl := HKO.out h1
          obtain rfl := HSZ.out.2.2.2.2.2 h1
          have hfin : Hid (MM = fromR ⟨p, o, f, m⟩ N L (recsD l (d + 1) (XX : Int))) := show _ = _ by rw [HFN.out, HMM.out, List.drop_nil, List.flatMap_nil, fromR_nil]
          clear h1
          go_upto_region 8 with fail
          rcases A2 with _ | ⟨ab, ao, sp⟩
          · have hq0 : True := trivial
            refine wp_region_plan [.val (.pointer (some ⟨w1.heap.size, 2, none⟩)), .val (.slice none ([] : List Int).length c2), .val (.agg #[.int .i64 kd, .slice A1 E.length c1, .slice none ([] : List Int).length c2, .slice A3 S.length c3, .slice A4 T.length c4]), .val (.agg #[.int .i64 p, .int .i64 o, .int .i64 f, .int .i64 m]), .val (.int .i64 (0)), .val (.slice none 0 c2), .val (.int .i64 (0)), .val (.int .i64 (0))] (by kernel_rfl) (by kernel_rfl) (by kernel_rfl) ?_
            intro X
            iterate 8
              refine plan_val (by kernel_rfl) (fun u hu => ?_) ?_
              · obtain ⟨hc, hf, hz⟩ := hu.of_drew.facts
                go_simp
                all_goals first
                  | ((go_at_call 105; exact (cFK _ (hcr.out.call hu.of_drew))))
              simp only [Act.put, List.setIfInBounds_toArray, List.set_cons_zero, List.set_cons_succ, Nat.reduceAdd]
            refine plan_end ?_
            intro w' hB
            have hk := hB.calm.of_drew
            clear hB
            clear m0 m1 m2 m3 m4 hms y0 y1 y2 y3 hys
            have hG6 := Lib.hid (hG.out.trans (hk.grw _))
            have hO6 : Hid (OwnR w0.heap.size w' (.slice Av MM.length cv) (fromR ⟨p, o, f, m⟩ N L (recsD l (d + 1) (XX : Int)))) := show OwnR _ _ _ _ from hfin.out ▸ hO.out.calm hk
            clear hk
            go_wp2_with fail
            go_loopw [0, 51] (fun a i wr => i = .int .i64 0 ∧ a = .slice Av MM.length cv ∧ w' = wr) (fun _ _ _ => 0)
            case atStart => exact ⟨rfl, rfl, rfl⟩
            case round =>
              obtain ⟨rfl, rfl, rfl⟩ := hrel
              go_wp2_with fail
              go_ret
              exact ⟨_, rfl, hO6.out, (hu3.grw v).trans hG6.out⟩
          · have hq0 : True := trivial
            refine wp_region_plan [.val (.pointer (some ⟨w1.heap.size, 2, none⟩)), .val (.slice (some ⟨ab, ao, sp⟩) ([] : List Int).length c2), .val (.agg #[.int .i64 kd, .slice A1 E.length c1, .slice (some ⟨ab, ao, sp⟩) ([] : List Int).length c2, .slice A3 S.length c3, .slice A4 T.length c4]), .val (.agg #[.int .i64 p, .int .i64 o, .int .i64 f, .int .i64 m]), .val (.int .i64 (0)), .val (.slice (some ⟨ab, ao, sp⟩) 0 c2), .val (.int .i64 (0)), .val (.int .i64 (0))] (by kernel_rfl) (by kernel_rfl) (by kernel_rfl) ?_
            intro X
            iterate 8
              refine plan_val (by kernel_rfl) (fun u hu => ?_) ?_
              · obtain ⟨hc, hf, hz⟩ := hu.of_drew.facts
                go_simp
                all_goals first
                  | ((go_at_call 105; exact (cFK _ (hcr.out.call hu.of_drew))))
              simp only [Act.put, List.setIfInBounds_toArray, List.set_cons_zero, List.set_cons_succ, Nat.reduceAdd]
            refine plan_end ?_
            intro w' hB
            have hk := hB.calm.of_drew
            clear hB
            clear m0 m1 m2 m3 m4 hms y0 y1 y2 y3 hys
            have hG6 := Lib.hid (hG.out.trans (hk.grw _))
            have hO6 : Hid (OwnR w0.heap.size w' (.slice Av MM.length cv) (fromR ⟨p, o, f, m⟩ N L (recsD l (d + 1) (XX : Int)))) := show OwnR _ _ _ _ from hfin.out ▸ hO.out.calm hk
            clear hk
            go_wp2_with fail
            go_loopw [0, 51] (fun a i wr => i = .int .i64 0 ∧ a = .slice Av MM.length cv ∧ w' = wr) (fun _ _ _ => 0)
            case atStart => exact ⟨rfl, rfl, rfl⟩
            case round =>
              obtain ⟨rfl, rfl, rfl⟩ := hrel
              go_wp2_with fail
              go_ret
              exact ⟨_, rfl, hO6.out, (hu3.grw v).trans hG6.out⟩
        · obtain ⟨-, hk0l⟩ := HKL.out h2
          obtain ⟨bk, qk, yk, hAk, hbk, -, -⟩ := (HA.out.calm hcr.out).k.get hk0l
          subst hAk
          have hfin : Hid (fromR ⟨p, o, f, m⟩ N MM ((K.drop k0).flatMap (recsD l d)) = fromR ⟨p, o, f, m⟩ N L (recsD l (d + 1) (XX : Int))) := show _ = _ by rw [HFN.out, HMM.out]
          have hK8 := HSZ.out.2.1
          have hck : ¬ c2 = k0 := by omega
          have hk0i : (k0 : Int) ≤ (K.length : Int) := by omega
          have hMl9 : Hid (MM.length + ((K.drop k0).flatMap (recsD l d)).length ≤ 1000000) := show _ ≤ _ by
            have a := HLR.out
            have b := fromR_len ⟨p, o, f, m⟩ N L E
            rw [HMM.out] at b
            have e9 : (K.flatMap (recsD l d)).length = ((K.take k0).flatMap (recsD l d)).length + ((K.drop k0).flatMap (recsD l d)).length := by
              rw [← List.length_append, ← List.flatMap_append, List.take_append_drop]
            omega
          have H2 := Lib.hid h2
          clear h2
          go_upto_region 8 with fail
          refine wp_region_plan [.val (.pointer (some ⟨w1.heap.size, 2, none⟩)), .val (.slice (some ⟨bk, qk, none⟩) K.length c2), .val (.agg #[.int .i64 kd, .slice A1 E.length c1, .slice (some ⟨bk, qk, none⟩) K.length c2, .slice A3 S.length c3, .slice A4 T.length c4]), .val (.agg #[.int .i64 p, .int .i64 o, .int .i64 f, .int .i64 m]), .val (.int .i64 (k0 : Int)), .val (.slice (some ⟨bk, qk + k0, none⟩) (K.length - k0) (c2 - k0)), .val (.int .i64 ((K.length - k0 : Nat) : Int)), .val (.int .i64 0)] (by kernel_rfl) (by kernel_rfl) (by kernel_rfl) ?_
          intro X
          refine plan_val (by kernel_rfl) (fun u hu => ?_) ?_
          · obtain ⟨hc, hf, hz⟩ := hu.of_drew.facts
            go_simp
          simp only [Act.put, List.setIfInBounds_toArray, List.set_cons_zero, List.set_cons_succ, Nat.reduceAdd]
          refine plan_val (by kernel_rfl) (fun u hu => ?_) ?_
          · obtain ⟨hc, hf, hz⟩ := hu.of_drew.facts
            go_simp
          simp only [Act.put, List.setIfInBounds_toArray, List.set_cons_zero, List.set_cons_succ, Nat.reduceAdd]
          refine plan_val (by kernel_rfl) (fun u hu => ?_) ?_
          · obtain ⟨hc, hf, hz⟩ := hu.of_drew.facts
            go_simp
          simp only [Act.put, List.setIfInBounds_toArray, List.set_cons_zero, List.set_cons_succ, Nat.reduceAdd]
          refine plan_val (by kernel_rfl) (fun u hu => ?_) ?_
          · obtain ⟨hc, hf, hz⟩ := hu.of_drew.facts
            go_simp
          simp only [Act.put, List.setIfInBounds_toArray, List.set_cons_zero, List.set_cons_succ, Nat.reduceAdd]
          refine plan_val (by kernel_rfl) (fun u hu => ?_) ?_
          · obtain ⟨hc, hf, hz⟩ := hu.of_drew.facts
            go_simp
            all_goals (go_at_call 105; exact (cFK _ (hcr.out.call hu.of_drew)))
          simp only [Act.put, List.setIfInBounds_toArray, List.set_cons_zero, List.set_cons_succ, Nat.reduceAdd]
          refine plan_val (by kernel_rfl) (fun u hu => ?_) ?_
          · obtain ⟨hc, hf, hz⟩ := hu.of_drew.facts
            go_simp
          simp only [Act.put, List.setIfInBounds_toArray, List.set_cons_zero, List.set_cons_succ, Nat.reduceAdd]
          refine plan_val (by kernel_rfl) (fun u hu => ?_) ?_
          · obtain ⟨hc, hf, hz⟩ := hu.of_drew.facts
            go_simp
          simp only [Act.put, List.setIfInBounds_toArray, List.set_cons_zero, List.set_cons_succ, Nat.reduceAdd]
          refine plan_val (by kernel_rfl) (fun u hu => ?_) ?_
          · obtain ⟨hc, hf, hz⟩ := hu.of_drew.facts
            go_simp
          simp only [Act.put, List.setIfInBounds_toArray, List.set_cons_zero, List.set_cons_succ, Nat.reduceAdd]
          refine plan_end ?_
          intro w' hB
          have hk := hB.calm.of_drew
          clear hB
          have hG6 := Lib.hid (hG.out.trans (hk.grw _))
          have hO6 := Lib.hid (hO.out.calm hk)
          clear hk m0 m1 m2 m3 m4 hms y0 y1 y2 y3 hys
          obtain ⟨R, hR⟩ : ∃ R, K.length - k0 = R := ⟨_, rfl⟩
          rw [hR]
          have HR := Lib.hid hR
          have hR8 : R ≤ 8 := by omega
          clear hR
          go_wp2_with fail
          go_loopw [0, 51] (fun a i wx => ∃ (j : Nat) (v' : Value), j ≤ R ∧ i = .int .i64 j ∧ a = v' ∧ Hid (OwnR w0.heap.size wx v' (fromR ⟨p, o, f, m⟩ N MM (((K.drop k0).take j).flatMap (recsD l d)))) ∧ Hid (Grw w3 wx v v')) (fun _ i _ => R - (intOf i).toNat)
          case atStart => exact ⟨0, _, Nat.zero_le _, rfl, rfl, (show OwnR _ _ _ _ by rw [List.take_zero, List.flatMap_nil, fromR_nil]; exact hO6.out), hG6⟩
          clear hO6 hG6
          case round =>
            obtain ⟨j, v', hj, rfl, rfl, hO, hG⟩ := hrel
            have hcr2 := Lib.hid (Grw.calm HC3.out hG.out hvb.out)
            have hyr2 := (hG.out.block (k := w.heap.size + 1) (by have := HS.out; omega) (fun j hj => by have := hvs.out j hj; omega)).trans hy3
            have hxr2 := (hG.out.block (k := w.heap.size) (by have := HS.out; omega) (fun j hj => hvs.out j hj)).trans hx3
            obtain ⟨y0, y1, y2, y3, hys⟩ := row4 hyr2
            obtain ⟨x0, x1, hxs⟩ := rowT hxr2
            have hRl : Hid ((K.drop k0).length = R) := show _ = _ by rw [List.length_drop]; exact HR.out
            obtain ⟨NN, hNN⟩ : ∃ NN, fromR ⟨p, o, f, m⟩ N MM (((K.drop k0).take j).flatMap (recsD l d)) = NN := ⟨_, rfl⟩
            have hNl : Hid (NN.length ≤ MM.length + (((K.drop k0).take j).flatMap (recsD l d)).length) := show _ ≤ _ by rw [← hNN]; exact fromR_len _ _ _ _
            rw [hNN] at hO
            have HNN := Lib.hid hNN
            clear hNN
            obtain ⟨Aw, cw, ew⟩ := hO.out.slice
            subst ew
            by_cases hlt2 : j < R
            · obtain ⟨b9, q9, y, hA9, hb9, HY, cy⟩ := (HA.out.calm hcr2.out).k.get (k := k0 + j) (by have := HR.out; omega)
              injection hA9 with hA9
              injection hA9 with e91 e92 _
              subst e91; subst e92
              have cy2 : wr.cell? ⟨bk, qk + k0 + j, none⟩ = some (.int .i64 y) := by rw [Nat.add_assoc]; exact cy
              have hYd : Hid ((K.drop k0)[j]? = some y) := show _ = _ by rw [List.getElem?_drop]; exact HY.out
              have hFT : Hid (((K.drop k0).take (j + 1)).flatMap (recsD l d) = ((K.drop k0).take j).flatMap (recsD l d) ++ recsD l d y) := flat_take _ _ hYd.out
              have hstep : Hid (fromR ⟨p, o, f, m⟩ N MM (((K.drop k0).take (j + 1)).flatMap (recsD l d)) = fromR ⟨p, o, f, m⟩ N NN (recsD l d y)) := show _ = _ by rw [hFT.out, fromR_append, HNN.out]
              have hlen2 : Hid (NN.length + (recsD l d y).length ≤ 1000000) := show _ ≤ _ by
                have a := hNl.out
                have b := hMl9.out
                have e := flat_le (recsD l d) (K.drop k0) (j + 1)
                rw [hFT.out, List.length_append] at e
                omega
              clear cy
              by_cases hNn : NN.length < N
              · have hNi : (NN.length : Int) < (N : Int) := by omega
                obtain ⟨hDy, hOy⟩ := HKID.out (k0 + j) y H2.out HY.out
                have cF := fun u (hu : Calm w0 u) (hv : OwnR w0.heap.size u (.slice Aw NN.length cw) NN) => ih.out y _ _ hDy hOy _ NN u hu hv hlen2.out
                clear hDy hOy
                go_wp2_with (go_at_call 66; (with_reducible refine (cF _ hcr2.out hO.out).mono ?_); rintro e w9 ⟨v9, rfl, ho9, hg9⟩; have HO9 : Hid (OwnR w0.heap.size w9 v9 (fromR ⟨p, o, f, m⟩ N MM (((K.drop k0).take (j + 1)).flatMap (recsD l d)))) := (show OwnR _ _ _ _ from hstep.out ▸ ho9); have HG9 := Lib.hid (hG.out.trans hg9); clear ho9 hg9)
                go_roundw
                case rel => exact ⟨j + 1, v9, by omega, by go_num, rfl, HO9, HG9⟩
                case measure => simp [intOf]; omega
              · have hNi : ¬ (NN.length : Int) < (N : Int) := by omega
                have HO9 : Hid (OwnR w0.heap.size wr (.slice Aw NN.length cw) (fromR ⟨p, o, f, m⟩ N MM (((K.drop k0).take (j + 1)).flatMap (recsD l d)))) := show OwnR _ _ _ _ from by
                  rw [hstep.out, fromR_full (by omega)]; exact hO.out
                go_wp2_with fail
                go_roundw
                case rel => exact ⟨j + 1, _, by omega, by go_num, rfl, HO9, hG⟩
                case measure => simp [intOf]; omega
            · have hli2 : ¬ (j : Int) < (R : Int) := by omega
              have HO9 : Hid (OwnR w0.heap.size wr (.slice Aw NN.length cw) (fromR ⟨p, o, f, m⟩ N L (recsD l (d + 1) (XX : Int)))) := show OwnR _ _ _ _ from by
                rw [← hfin.out]
                have e9 : (K.drop k0).take j = K.drop k0 := List.take_of_length_le (by have := hRl.out; omega)
                have e8 := HNN.out
                rw [e9] at e8
                rw [e8]; exact hO.out
              go_wp2_with fail
              go_ret
              exact ⟨_, rfl, HO9.out, (hu3.grw v).trans hG.out⟩
theorem appendFrom_any (root:Int) (A:Option Addr) (c:Nat) (l:List Nd) (hok:NdsOk l) (hcap:∀ n∈l,NdCaps n) (w0:World) (h0:TrAt w0 A l) (p o f m:Int) (N:Nat):∀ (d:Nat),FromOk root A c l w0 p o f m N d
 | 0=>fun _ _ _ hD=>absurd hD id
 |d+1=>appendFrom_step root A c l hok hcap w0 h0 p o f m N d (appendFrom_any root A c l hok hcap w0 h0 p o f m N d)
open Go.RowKit
/-- What is known of a right tree. -/
theorem tree_good {l:List Nd} {root:Int} (hz:treeErr l root=0):l.length≤400∧NdsOk l∧∃ d,Deep l d root∧OrdP l d root ⟨0,0,0,0⟩ ⟨16,0,0,0⟩∧allOf l root=recsD l d root∧(allOf l root).length≤3200:=by
 obtain ⟨hl4,hok,hG⟩:=treeErr_zero.1 hz
 obtain ⟨e,-,-,-,hE,-,-,-,hlen⟩:=hG.1.all hok
 obtain ⟨d,hD,hO⟩:=hG.2.2.2
 have h1:allOf l root=recsD l d root:=by unfold allOf;rw [depthOf_eq hok hD]
 have h2:allOf l root=recsD l e root:=by unfold allOf;rw [depthOf_eq hok hE]
 refine ⟨hl4,hok,d,hD,hO,h1,?_⟩
 rw [h2];omega
noncomputable def fromErr (l:List Nd) (root n:Int):Int:=if treeErr l root≠0 then treeErr l root else if n<0 then 1 else 0
noncomputable def fromL (l:List Nd) (root:Int) (s:Sp) (n:Int):List El:=if fromErr l root n=0 then fromR s n.toNat [] (allOf l root) else []
set_option maxHeartbeats 8000000 in
theorem findFrom_any (root : Int) (A : Option Addr) (c : Nat) (l : List Nd) (w : World) (h : TrAt w A l) (hcap : ∀ n ∈ l, NdCaps n) (p o f m n : Int) :
    Calls Try.prog 37 #[.agg #[.int .i64 root, .slice A l.length c], .agg #[.int .i64 p, .int .i64 o, .int .i64 f, .int .i64 m], .int .i64 n] w fun e w' => ∃ v, e = .returned (.tuple #[v, .int .i64 (fromErr l root n)]) ∧ OwnR w.heap.size w' v (fromL l root ⟨p, o, f, m⟩ n) ∧ Calm w w' := by
  have hx := heap_past (.cells #[.int .i64 p, .int .i64 o, .int .i64 f, .int .i64 m] 62) (heap_new w (.cells #[.int .i64 root, .slice A l.length c] 24))
  have hy := heap_new (w.alloc (.cells #[.int .i64 root, .slice A l.length c] 24)) (.cells #[.int .i64 p, .int .i64 o, .int .i64 f, .int .i64 m] 62)
  rw [World.size_alloc] at hy
  have hu := ((Calm.refl w).alloc (.cells #[.int .i64 root, .slice A l.length c] 24)).alloc (.cells #[.int .i64 p, .int .i64 o, .int .i64 f, .int .i64 m] 62)
  have cC := fun u (hu : Calm w u) => treeCheck_any root A c l u (h.calm hu)
  obtain ⟨x0, x1, hxs⟩ := rowT hx
  obtain ⟨y0, y1, y2, y3, hys⟩ := row4 hy
  by_cases hz : treeErr l root = 0
  rotate_left
  · have b1 : (treeErr l root != 0) = true := by rw [bne_iff_ne]; exact hz
    have hfe : fromErr l root n = treeErr l root := by unfold fromErr; rw [if_pos hz]
    have hfl : fromL l root ⟨p, o, f, m⟩ n = [] := by unfold fromL; rw [hfe, if_neg hz]
    rw [hfe, hfl]
    clear h hz hfe hfl
    generalize treeErr l root = R at cC b1 ⊢
    go_enter Try.func37, Try.ntmps37
    go_wp2_with (go_at_call 11; (with_reducible refine (cC _ hu).mono ?_); rintro e w1 ⟨rfl, hb1⟩; have hu1 := hu.call hb1; clear hb1)
    go_ret2
    exact ⟨_, rfl, OwnR.nil _ _, hu1⟩
  obtain ⟨hl4, hok, d, hD, hO, hall, hlen⟩ := tree_good hz
  rw [hz] at cC
  by_cases hn : n < 0
  · have hfe : fromErr l root n = 1 := by unfold fromErr; rw [if_neg (by simpa using hz), if_pos hn]
    have hfl : fromL l root ⟨p, o, f, m⟩ n = [] := by unfold fromL; rw [hfe, if_neg (by decide)]
    rw [hfe, hfl]
    clear h hz hfe hfl hD hO hall hlen hok
    go_enter Try.func37, Try.ntmps37
    go_wp2_with (go_at_call 11; (with_reducible refine (cC _ hu).mono ?_); rintro e w1 ⟨rfl, hb1⟩; have hu1 := hu.call hb1; clear hb1)
    go_ret2
    exact ⟨_, rfl, OwnR.nil _ _, hu1⟩
  obtain ⟨N, rfl⟩ : ∃ N : Nat, n = (N : Int) := ⟨n.toNat, by omega⟩
  have hfe : fromErr l root (N : Int) = 0 := by unfold fromErr; rw [if_neg (by simpa using hz), if_neg hn]
  have hfl : fromL l root ⟨p, o, f, m⟩ (N : Int) = fromR ⟨p, o, f, m⟩ N [] (recsD l d root) := by unfold fromL; rw [hfe, if_pos rfl, hall, Int.toNat_natCast]
  rw [hfe, hfl]
  have cF := fun u (hu : Calm w u) => appendFrom_any root A c l hok hcap w h p o f m N d root _ _ hD hO (.slice none 0 0) [] u hu (OwnR.nil _ _) (by rw [← hall]; simp; omega)
  clear h hz hfe hfl hD hO hall hlen hok
  go_enter Try.func37, Try.ntmps37
  go_wp2_with first
    | (go_at_call 11; (with_reducible refine (cC _ hu).mono ?_); rintro e w1 ⟨rfl, hb1⟩; have hu1 := hu.call hb1; replace hx := (hb1.block (rowT hx).2.2).trans hx; replace hy := (hb1.block (row4 hy).2.2.2.2).trans hy; clear hb1 x0 x1 hxs y0 y1 y2 y3 hys; obtain ⟨x0, x1, hxs⟩ := rowT hx; obtain ⟨y0, y1, y2, y3, hys⟩ := row4 hy)
    | (go_at_call 66; (with_reducible refine (cF _ hu1).mono ?_); rintro e w2 ⟨v2, rfl, ho2, hg2⟩; have HO := Lib.hid ho2; have hu2 := Grw.calm hu1 hg2 (fun k hk => by simp [Value.ownBlock] at hk); clear ho2 hg2)
  go_ret2
  exact ⟨_, rfl, HO.out, hu2⟩
open Classical in
/-- The record with a spot. -/
noncomputable def spotAt (L:List El) (s:Sp):Option El:=L.find? fun e=>decide (e.sp=s)
noncomputable def spotErr (l:List Nd) (root:Int) (s:Sp):Int:=if treeErr l root≠0 then treeErr l root else if (spotAt (allOf l root) s).isSome then 0 else 4
noncomputable def spotEl (l:List Nd) (root:Int) (s:Sp):El:=if treeErr l root≠0 then zeroEl else (spotAt (allOf l root) s).getD zeroEl
/-- What From's one record says of it. -/
theorem first_spot (s:Sp):∀ {M:List El},M.Pairwise Rise→(fromR s 1 [] M=[]∧spotAt M s=none)∨∃ e,fromR s 1 [] M=[e]∧e∈M∧(e.sp=s→spotAt M s=some e)∧(e.sp≠s→spotAt M s=none)
 | [],_=>.inl ⟨fromR_nil _ _ _,rfl⟩
 |x::M,h=>by
  rw [List.pairwise_cons] at h
  rw [fromR_cons]
  by_cases hx:sL x.sp s
  ·rw [if_neg (fun h=>h.2 hx)]
   have hne:x.sp≠s:=fun e=>sL_irrefl (e ▸ hx)
   have e1:spotAt (x::M) s=spotAt M s:=by unfold spotAt;rw [List.find?_cons_of_neg (by simpa using hne)]
   rw [e1]
   rcases first_spot s h.2 with h1 | ⟨e,h1,h2,h3⟩
   ·exact .inl h1
   ·exact .inr ⟨e,h1,List.mem_cons_of_mem _ h2,h3⟩
  ·rw [if_pos ⟨by simp,hx⟩,fromR_full (by simp)]
   refine .inr ⟨x,rfl,List.mem_cons_self,fun he=>?_,fun he=>?_⟩
   ·unfold spotAt;rw [List.find?_cons_of_pos (by simpa using he)]
   ·unfold spotAt
    rw [List.find?_cons_of_neg (by simpa using he)]
    refine List.find?_eq_none.2 fun y hy=>?_
    simp only [decide_eq_true_eq]
    intro hys
    have h3:sL x.sp y.sp:=h.1 y hy
    rw [hys] at h3
    exact hx h3
theorem lies_one {w:World} {A:Option Addr} {e:El} (h:Lies w A [e]):∃ b q,A=some ⟨b,q,none⟩∧b<w.heap.size∧w.cell? ⟨b,q,none⟩=some (.int .i64 e.p)∧w.cell? ⟨b,q+1,none⟩=some (.int .i64 e.o)∧w.cell? ⟨b,q+2,none⟩=some (.int .i64 e.f)∧w.cell? ⟨b,q+3,none⟩=some (.int .i64 e.m)∧w.cell? ⟨b,q+4,none⟩=some (.int .i64 e.g)∧w.cell? ⟨b,q+5,none⟩=some (.string e.s):=by
 obtain ⟨b,q,hA,hb,hk⟩:=h.2 (by simp)
 have:=hk 0 e rfl
 simp only [Nat.zero_mul,Nat.add_zero] at this
 exact ⟨b,q,hA,hb,this⟩
def SpotEnd (b:El) (E:Int) (w:World) (e:Ending) (w':World):Prop:=e=.returned (.tuple #[.agg #[.int .i64 b.p,.int .i64 b.o,.int .i64 b.f,.int .i64 b.m,.int .i64 b.g,.string b.s],.int .i64 E])∧Calm w w'
set_option maxHeartbeats 8000000 in
theorem findSpot_any (root : Int) (A : Option Addr) (c : Nat) (l : List Nd) (w : World) (h : TrAt w A l) (hcap : ∀ n ∈ l, NdCaps n) (p o f m : Int) :
    Calls Try.prog 36 #[.agg #[.int .i64 root, .slice A l.length c], .agg #[.int .i64 p, .int .i64 o, .int .i64 f, .int .i64 m]] w (SpotEnd (spotEl l root ⟨p, o, f, m⟩) (spotErr l root ⟨p, o, f, m⟩) w) := by
  have hx := heap_past (.cells #[.int .i64 0, .int .i64 0, .int .i64 0, .int .i64 0, .int .i64 0, .string { data := #[] }] 43) (heap_past (.cells #[.int .i64 p, .int .i64 o, .int .i64 f, .int .i64 m] 62) (heap_new w (.cells #[.int .i64 root, .slice A l.length c] 24)))
  have hy := heap_past (.cells #[.int .i64 0, .int .i64 0, .int .i64 0, .int .i64 0, .int .i64 0, .string { data := #[] }] 43) (heap_new (w.alloc (.cells #[.int .i64 root, .slice A l.length c] 24)) (.cells #[.int .i64 p, .int .i64 o, .int .i64 f, .int .i64 m] 62))
  have hz := heap_new ((w.alloc (.cells #[.int .i64 root, .slice A l.length c] 24)).alloc (.cells #[.int .i64 p, .int .i64 o, .int .i64 f, .int .i64 m] 62)) (.cells #[.int .i64 0, .int .i64 0, .int .i64 0, .int .i64 0, .int .i64 0, .string { data := #[] }] 43)
  rw [World.size_alloc] at hy hz
  rw [World.size_alloc] at hz
  have hu := (((Calm.refl w).alloc (.cells #[.int .i64 root, .slice A l.length c] 24)).alloc (.cells #[.int .i64 p, .int .i64 o, .int .i64 f, .int .i64 m] 62)).alloc (.cells #[.int .i64 0, .int .i64 0, .int .i64 0, .int .i64 0, .int .i64 0, .string { data := #[] }] 43)
  have cF := fun u (hu : Calm w u) => findFrom_any root A c l u (h.calm hu) hcap p o f m 1
  have HW : Hid (∀ e ∈ fromL l root ⟨p, o, f, m⟩ 1, e.wf) := show ∀ e ∈ _, _ from fun e he => by
    unfold fromL at he
    split at he
    · rcases fromR_mem he with h1 | h1
      · exact absurd h1 List.not_mem_nil
      · exact recs_wf h _ _ e h1
    · exact absurd he List.not_mem_nil
  have hrise : treeErr l root = 0 → (fromR ⟨p, o, f, m⟩ 1 [] (allOf l root) = [] ∧ spotAt (allOf l root) ⟨p, o, f, m⟩ = none) ∨ ∃ e, fromR ⟨p, o, f, m⟩ 1 [] (allOf l root) = [e] ∧ e ∈ allOf l root ∧ (e.sp = ⟨p, o, f, m⟩ → spotAt (allOf l root) ⟨p, o, f, m⟩ = some e) ∧ (e.sp ≠ ⟨p, o, f, m⟩ → spotAt (allOf l root) ⟨p, o, f, m⟩ = none) := fun hz => first_spot _ (deep_ok hz).rise
  have hfe : fromErr l root 1 = treeErr l root := by unfold fromErr; split <;> simp_all
  have hfl : treeErr l root = 0 → fromL l root ⟨p, o, f, m⟩ 1 = fromR ⟨p, o, f, m⟩ 1 [] (allOf l root) := fun hz => by unfold fromL; rw [hfe, if_pos hz]; rfl
  have hEnd : Hid (∀ b E w', b = spotEl l root ⟨p, o, f, m⟩ → E = spotErr l root ⟨p, o, f, m⟩ → Calm w w' → SpotEnd (spotEl l root ⟨p, o, f, m⟩) (spotErr l root ⟨p, o, f, m⟩) w (.returned (.tuple #[.agg #[.int .i64 b.p, .int .i64 b.o, .int .i64 b.f, .int .i64 b.m, .int .i64 b.g, .string b.s], .int .i64 E])) w') := show ∀ _ _ _, _ from fun b E w' h1 h2 h3 => by subst h1; subst h2; exact ⟨rfl, h3⟩
  obtain ⟨x0, x1, hxs⟩ := rowT hx
  obtain ⟨y0, y1, y2, y3, hys⟩ := row4 hy
  by_cases hzr : treeErr l root = 0
  rotate_left
  · have b1 : (treeErr l root != 0) = true := by rw [bne_iff_ne]; exact hzr
    have hb9 : Hid (zeroEl = spotEl l root ⟨p, o, f, m⟩) := show _ = _ by unfold spotEl; rw [if_pos hzr]
    have hE9 : Hid (treeErr l root = spotErr l root ⟨p, o, f, m⟩) := show _ = _ by unfold spotErr; rw [if_pos hzr]
    rw [hfe] at cF
    generalize treeErr l root = R at cF b1 hE9
    generalize spotEl l root ⟨p, o, f, m⟩ = VB at hb9 hEnd ⊢
    generalize spotErr l root ⟨p, o, f, m⟩ = VE at hE9 hEnd ⊢
    generalize fromL l root ⟨p, o, f, m⟩ 1 = LF at cF HW
    clear hrise hfe hfl hzr h hcap
    go_enter Try.func36, Try.ntmps36
    generalize hQ0 : bodyPost Try.prog Try.f36 (SpotEnd VB VE w) = Q0
    have HRET : Hid (∀ a w', bodyPost Try.prog Try.f36 (SpotEnd VB VE w) .ret a w' → Q0 .ret a w') := show ∀ _ _, _ → _ from fun a w' h => by rw [← hQ0]; exact h
    clear hQ0
    go_wp2_with (go_at_call 37; (with_reducible refine (cF _ hu).mono ?_); rintro e9 w1 ⟨v, rfl, ho, hb1⟩; obtain ⟨A1, c1, hv1, hn1, hn2, hl1⟩ := ho.lies HW.out; subst hv1; have HL := Lib.hid hl1; have hu1 := hu.call hb1; have hz1 := (hb1.block (row6 hz).2.2.2.2.2.2).trans hz; have hy1 := (hb1.block (row4 hy).2.2.2.2).trans hy; clear hb1 ho hl1 x0 x1 hxs y0 y1 y2 y3 hys; obtain ⟨y0, y1, y2, y3, hys⟩ := row4 hy1; obtain ⟨z0, z1, z2, z3, z4, z5, hzs⟩ := row6 hz1; obtain ⟨f0, f1, f2, f3, f4, f5⟩ := free6 hz1)
    have h6 := set6 hz1 (.int .i64 0) (.int .i64 0) (.int .i64 0) (.int .i64 0) (.int .i64 0) (.string { data := #[] })
    exact HRET.out _ _ (end_two rfl rfl _ _ (w.heap.size + 2) _ _ _ (0, 0) rfl rfl rfl h6 rfl (hEnd.out _ _ _ hb9.out hE9.out (hu1.six (by omega) (.int .i64 0) (.int .i64 0) (.int .i64 0) (.int .i64 0) (.int .i64 0) (.string { data := #[] }))))
  rw [hfe, hfl hzr, hzr] at cF
  rw [hfl hzr] at HW
  have hSE : spotErr l root ⟨p, o, f, m⟩ = if (spotAt (allOf l root) ⟨p, o, f, m⟩).isSome then 0 else 4 := by unfold spotErr; rw [if_neg (by simpa using hzr)]
  have hSV : spotEl l root ⟨p, o, f, m⟩ = (spotAt (allOf l root) ⟨p, o, f, m⟩).getD zeroEl := by unfold spotEl; rw [if_neg (by simpa using hzr)]
  rcases hrise hzr with ⟨h1, h2⟩ | ⟨⟨p', o', f', m', g', s'⟩, h1, -, h3, h4⟩
  · rw [h1] at cF HW
    have hb9 : Hid (zeroEl = spotEl l root ⟨p, o, f, m⟩) := show _ = _ by rw [hSV, h2]; rfl
    have hE9 : Hid (4 = spotErr l root ⟨p, o, f, m⟩) := show _ = _ by rw [hSE, h2]; rfl
    generalize spotEl l root ⟨p, o, f, m⟩ = VB at hb9 hEnd ⊢
    generalize spotErr l root ⟨p, o, f, m⟩ = VE at hE9 hEnd ⊢
    clear hrise hfe hfl hzr h hcap hSE hSV h1 h2
    go_enter Try.func36, Try.ntmps36
    generalize hQ0 : bodyPost Try.prog Try.f36 (SpotEnd VB VE w) = Q0
    have HRET : Hid (∀ a w', bodyPost Try.prog Try.f36 (SpotEnd VB VE w) .ret a w' → Q0 .ret a w') := show ∀ _ _, _ → _ from fun a w' h => by rw [← hQ0]; exact h
    clear hQ0
    go_upto_region 4 with (go_at_call 37; (with_reducible refine (cF _ hu).mono ?_); rintro e9 w1 ⟨v, rfl, ho, hb1⟩; obtain ⟨A1, c1, hv1, hn1, hn2, hl1⟩ := ho.lies HW.out; subst hv1; have HL := Lib.hid hl1; have hu1 := hu.call hb1; have hz1 := (hb1.block (row6 hz).2.2.2.2.2.2).trans hz; have hy1 := (hb1.block (row4 hy).2.2.2.2).trans hy; clear hb1 ho hl1 x0 x1 hxs y0 y1 y2 y3 hys; obtain ⟨y0, y1, y2, y3, hys⟩ := row4 hy1; obtain ⟨z0, z1, z2, z3, z4, z5, hzs⟩ := row6 hz1; obtain ⟨f0, f1, f2, f3, f4, f5⟩ := free6 hz1)
    refine wp_region_plan [.val (.slice A1 ([] : List El).length c1), .val (.int .i64 (0)), .val (.bool true), .val (.bool true), .idle, .idle, .idle, .idle, .idle, .idle, .val (.bool true)] (by kernel_rfl) (by kernel_rfl) (by kernel_rfl) ?_
    intro X
    iterate 4
      refine plan_val (by kernel_rfl) (fun u hu => ?_) ?_
      · obtain ⟨hc, hf, hz⟩ := hu.of_drew.facts
        go_simp
      simp only [Act.put, List.setIfInBounds_toArray, List.set_cons_zero, List.set_cons_succ, Nat.reduceAdd]
    iterate 6
      refine plan_idle (by kernel_rfl) ?_
      simp only [Act.put, List.setIfInBounds_toArray, List.set_cons_zero, List.set_cons_succ, Nat.reduceAdd]
    iterate 1
      refine plan_val (by kernel_rfl) (fun u hu => ?_) ?_
      · obtain ⟨hc, hf, hz⟩ := hu.of_drew.facts
        go_simp
      simp only [Act.put, List.setIfInBounds_toArray, List.set_cons_zero, List.set_cons_succ, Nat.reduceAdd]
    refine plan_end ?_
    intro w' hB
    have hk := hB.calm.of_drew
    clear hB
    have hu2 := hu1.call hk
    have hz2 := (hk.block (row6 hz1).2.2.2.2.2.2).trans hz1
    clear z0 z1 z2 z3 z4 z5 hzs f0 f1 f2 f3 f4 f5
    obtain ⟨z0, z1, z2, z3, z4, z5, hzs⟩ := row6 hz2
    obtain ⟨f0, f1, f2, f3, f4, f5⟩ := free6 hz2
    go_wp2_with fail
    have h6 := set6 hz2 (.int .i64 0) (.int .i64 0) (.int .i64 0) (.int .i64 0) (.int .i64 0) (.string { data := #[] })
    exact HRET.out _ _ (end_two rfl rfl _ _ (w.heap.size + 2) _ _ _ (0, 0) rfl rfl rfl h6 rfl (hEnd.out _ _ _ hb9.out hE9.out (hu2.six (by omega) (.int .i64 0) (.int .i64 0) (.int .i64 0) (.int .i64 0) (.int .i64 0) (.string { data := #[] }))))
  by_cases hsp : (⟨p', o', f', m'⟩ : Sp) = ⟨p, o, f, m⟩
  rotate_left
  · rw [h1] at cF HW
    have hb9 : Hid (zeroEl = spotEl l root ⟨p, o, f, m⟩) := show _ = _ by rw [hSV, h4 hsp]; rfl
    have hE9 : Hid (4 = spotErr l root ⟨p, o, f, m⟩) := show _ = _ by rw [hSE, h4 hsp]; rfl
    generalize spotEl l root ⟨p, o, f, m⟩ = VB at hb9 hEnd ⊢
    generalize spotErr l root ⟨p, o, f, m⟩ = VE at hE9 hEnd ⊢
    clear hrise hfe hfl hzr h hcap hSE hSV h1 h3 h4
    have hne : Hid (¬ (p' = p ∧ o' = o ∧ f' = f ∧ m' = m)) := show ¬ _ from fun ⟨a1, a2, a3, a4⟩ => hsp (by rw [a1, a2, a3, a4])
    clear hsp
    go_enter Try.func36, Try.ntmps36
    generalize hQ0 : bodyPost Try.prog Try.f36 (SpotEnd VB VE w) = Q0
    have HRET : Hid (∀ a w', bodyPost Try.prog Try.f36 (SpotEnd VB VE w) .ret a w' → Q0 .ret a w') := show ∀ _ _, _ → _ from fun a w' h => by rw [← hQ0]; exact h
    clear hQ0
    go_upto_region 4 with (go_at_call 37; (with_reducible refine (cF _ hu).mono ?_); rintro e9 w1 ⟨v, rfl, ho, hb1⟩; obtain ⟨A1, c1, hv1, hn1, hn2, hl1⟩ := ho.lies HW.out; subst hv1; have HL := Lib.hid hl1; have hu1 := hu.call hb1; have hz1 := (hb1.block (row6 hz).2.2.2.2.2.2).trans hz; have hy1 := (hb1.block (row4 hy).2.2.2.2).trans hy; clear hb1 ho hl1 x0 x1 hxs y0 y1 y2 y3 hys; obtain ⟨y0, y1, y2, y3, hys⟩ := row4 hy1; obtain ⟨z0, z1, z2, z3, z4, z5, hzs⟩ := row6 hz1; obtain ⟨f0, f1, f2, f3, f4, f5⟩ := free6 hz1)
    obtain ⟨b9, q9, hA9, hb9', e0, e1, e2, e3, e4, e5⟩ := lies_one HL.out
    subst hA9
    simp only at e0 e1 e2 e3 e4 e5
    by_cases hd0 : p' = p
    rotate_left
    · have hq0 : True := trivial
      refine wp_region_plan [.val (.slice (some ⟨b9, q9, none⟩) ([(⟨p', o', f', m', g', s'⟩ : El)] : List El).length c1), .val (.int .i64 (1)), .val (.bool false), .val (.bool false), .val (.slice (some ⟨b9, q9, none⟩) ([(⟨p', o', f', m', g', s'⟩ : El)] : List El).length c1), .val (.pointer (some ⟨b9, q9, none⟩)), .val (.agg #[.int .i64 p', .int .i64 o', .int .i64 f', .int .i64 m', .int .i64 g', .string s']), .val (.agg #[.int .i64 p', .int .i64 o', .int .i64 f', .int .i64 m']), .val (.agg #[.int .i64 p, .int .i64 o, .int .i64 f, .int .i64 m]), .val (.bool true), .val (.bool true)] (by kernel_rfl) (by kernel_rfl) (by kernel_rfl) ?_
      intro X
      iterate 11
        refine plan_val (by kernel_rfl) (fun u hu => ?_) ?_
        · obtain ⟨hc, hf, hz⟩ := hu.of_drew.facts
          go_simp
          all_goals first
            | ((go_at_call 28; exact spot_any _ _ _ _ _ _ _))
        simp only [Act.put, List.setIfInBounds_toArray, List.set_cons_zero, List.set_cons_succ, Nat.reduceAdd]
      refine plan_end ?_
      intro w' hB
      have hk := hB.calm.of_drew
      clear hB
      have hu2 := hu1.call hk
      have hz2 := (hk.block (row6 hz1).2.2.2.2.2.2).trans hz1
      clear z0 z1 z2 z3 z4 z5 hzs f0 f1 f2 f3 f4 f5
      obtain ⟨z0, z1, z2, z3, z4, z5, hzs⟩ := row6 hz2
      obtain ⟨f0, f1, f2, f3, f4, f5⟩ := free6 hz2
      go_wp2_with fail
      have h6 := set6 hz2 (.int .i64 0) (.int .i64 0) (.int .i64 0) (.int .i64 0) (.int .i64 0) (.string { data := #[] })
      exact HRET.out _ _ (end_two rfl rfl _ _ (w.heap.size + 2) _ _ _ (0, 0) rfl rfl rfl h6 rfl (hEnd.out _ _ _ hb9.out hE9.out (hu2.six (by omega) (.int .i64 0) (.int .i64 0) (.int .i64 0) (.int .i64 0) (.int .i64 0) (.string { data := #[] }))))
    subst hd0
    by_cases hd1 : o' = o
    rotate_left
    · have hq0 : True := trivial
      refine wp_region_plan [.val (.slice (some ⟨b9, q9, none⟩) ([(⟨p', o', f', m', g', s'⟩ : El)] : List El).length c1), .val (.int .i64 (1)), .val (.bool false), .val (.bool false), .val (.slice (some ⟨b9, q9, none⟩) ([(⟨p', o', f', m', g', s'⟩ : El)] : List El).length c1), .val (.pointer (some ⟨b9, q9, none⟩)), .val (.agg #[.int .i64 p', .int .i64 o', .int .i64 f', .int .i64 m', .int .i64 g', .string s']), .val (.agg #[.int .i64 p', .int .i64 o', .int .i64 f', .int .i64 m']), .val (.agg #[.int .i64 p', .int .i64 o, .int .i64 f, .int .i64 m]), .val (.bool true), .val (.bool true)] (by kernel_rfl) (by kernel_rfl) (by kernel_rfl) ?_
      intro X
      iterate 11
        refine plan_val (by kernel_rfl) (fun u hu => ?_) ?_
        · obtain ⟨hc, hf, hz⟩ := hu.of_drew.facts
          go_simp
          all_goals first
            | ((go_at_call 28; exact spot_any _ _ _ _ _ _ _))
        simp only [Act.put, List.setIfInBounds_toArray, List.set_cons_zero, List.set_cons_succ, Nat.reduceAdd]
      refine plan_end ?_
      intro w' hB
      have hk := hB.calm.of_drew
      clear hB
      have hu2 := hu1.call hk
      have hz2 := (hk.block (row6 hz1).2.2.2.2.2.2).trans hz1
      clear z0 z1 z2 z3 z4 z5 hzs f0 f1 f2 f3 f4 f5
      obtain ⟨z0, z1, z2, z3, z4, z5, hzs⟩ := row6 hz2
      obtain ⟨f0, f1, f2, f3, f4, f5⟩ := free6 hz2
      go_wp2_with fail
      have h6 := set6 hz2 (.int .i64 0) (.int .i64 0) (.int .i64 0) (.int .i64 0) (.int .i64 0) (.string { data := #[] })
      exact HRET.out _ _ (end_two rfl rfl _ _ (w.heap.size + 2) _ _ _ (0, 0) rfl rfl rfl h6 rfl (hEnd.out _ _ _ hb9.out hE9.out (hu2.six (by omega) (.int .i64 0) (.int .i64 0) (.int .i64 0) (.int .i64 0) (.int .i64 0) (.string { data := #[] }))))
    subst hd1
    by_cases hd2 : f' = f
    rotate_left
    · have hq0 : True := trivial
      refine wp_region_plan [.val (.slice (some ⟨b9, q9, none⟩) ([(⟨p', o', f', m', g', s'⟩ : El)] : List El).length c1), .val (.int .i64 (1)), .val (.bool false), .val (.bool false), .val (.slice (some ⟨b9, q9, none⟩) ([(⟨p', o', f', m', g', s'⟩ : El)] : List El).length c1), .val (.pointer (some ⟨b9, q9, none⟩)), .val (.agg #[.int .i64 p', .int .i64 o', .int .i64 f', .int .i64 m', .int .i64 g', .string s']), .val (.agg #[.int .i64 p', .int .i64 o', .int .i64 f', .int .i64 m']), .val (.agg #[.int .i64 p', .int .i64 o', .int .i64 f, .int .i64 m]), .val (.bool true), .val (.bool true)] (by kernel_rfl) (by kernel_rfl) (by kernel_rfl) ?_
      intro X
      iterate 11
        refine plan_val (by kernel_rfl) (fun u hu => ?_) ?_
        · obtain ⟨hc, hf, hz⟩ := hu.of_drew.facts
          go_simp
          all_goals first
            | ((go_at_call 28; exact spot_any _ _ _ _ _ _ _))
        simp only [Act.put, List.setIfInBounds_toArray, List.set_cons_zero, List.set_cons_succ, Nat.reduceAdd]
      refine plan_end ?_
      intro w' hB
      have hk := hB.calm.of_drew
      clear hB
      have hu2 := hu1.call hk
      have hz2 := (hk.block (row6 hz1).2.2.2.2.2.2).trans hz1
      clear z0 z1 z2 z3 z4 z5 hzs f0 f1 f2 f3 f4 f5
      obtain ⟨z0, z1, z2, z3, z4, z5, hzs⟩ := row6 hz2
      obtain ⟨f0, f1, f2, f3, f4, f5⟩ := free6 hz2
      go_wp2_with fail
      have h6 := set6 hz2 (.int .i64 0) (.int .i64 0) (.int .i64 0) (.int .i64 0) (.int .i64 0) (.string { data := #[] })
      exact HRET.out _ _ (end_two rfl rfl _ _ (w.heap.size + 2) _ _ _ (0, 0) rfl rfl rfl h6 rfl (hEnd.out _ _ _ hb9.out hE9.out (hu2.six (by omega) (.int .i64 0) (.int .i64 0) (.int .i64 0) (.int .i64 0) (.int .i64 0) (.string { data := #[] }))))
    subst hd2
    by_cases hd3 : m' = m
    rotate_left
    · have hq0 : True := trivial
      refine wp_region_plan [.val (.slice (some ⟨b9, q9, none⟩) ([(⟨p', o', f', m', g', s'⟩ : El)] : List El).length c1), .val (.int .i64 (1)), .val (.bool false), .val (.bool false), .val (.slice (some ⟨b9, q9, none⟩) ([(⟨p', o', f', m', g', s'⟩ : El)] : List El).length c1), .val (.pointer (some ⟨b9, q9, none⟩)), .val (.agg #[.int .i64 p', .int .i64 o', .int .i64 f', .int .i64 m', .int .i64 g', .string s']), .val (.agg #[.int .i64 p', .int .i64 o', .int .i64 f', .int .i64 m']), .val (.agg #[.int .i64 p', .int .i64 o', .int .i64 f', .int .i64 m]), .val (.bool true), .val (.bool true)] (by kernel_rfl) (by kernel_rfl) (by kernel_rfl) ?_
      intro X
      iterate 11
        refine plan_val (by kernel_rfl) (fun u hu => ?_) ?_
        · obtain ⟨hc, hf, hz⟩ := hu.of_drew.facts
          go_simp
          all_goals first
            | ((go_at_call 28; exact spot_any _ _ _ _ _ _ _))
        simp only [Act.put, List.setIfInBounds_toArray, List.set_cons_zero, List.set_cons_succ, Nat.reduceAdd]
      refine plan_end ?_
      intro w' hB
      have hk := hB.calm.of_drew
      clear hB
      have hu2 := hu1.call hk
      have hz2 := (hk.block (row6 hz1).2.2.2.2.2.2).trans hz1
      clear z0 z1 z2 z3 z4 z5 hzs f0 f1 f2 f3 f4 f5
      obtain ⟨z0, z1, z2, z3, z4, z5, hzs⟩ := row6 hz2
      obtain ⟨f0, f1, f2, f3, f4, f5⟩ := free6 hz2
      go_wp2_with fail
      have h6 := set6 hz2 (.int .i64 0) (.int .i64 0) (.int .i64 0) (.int .i64 0) (.int .i64 0) (.string { data := #[] })
      exact HRET.out _ _ (end_two rfl rfl _ _ (w.heap.size + 2) _ _ _ (0, 0) rfl rfl rfl h6 rfl (hEnd.out _ _ _ hb9.out hE9.out (hu2.six (by omega) (.int .i64 0) (.int .i64 0) (.int .i64 0) (.int .i64 0) (.int .i64 0) (.string { data := #[] }))))
    subst hd3
    exact absurd ⟨rfl, rfl, rfl, rfl⟩ hne.out
  injection hsp with a1 a2 a3 a4
  subst a1; subst a2; subst a3; subst a4
  rw [h1] at cF HW
  have hb9 : Hid ((⟨p', o', f', m', g', s'⟩ : El) = spotEl l root ⟨p', o', f', m'⟩) := show _ = _ by rw [hSV, h3 rfl]; rfl
  have hE9 : Hid (0 = spotErr l root ⟨p', o', f', m'⟩) := show _ = _ by rw [hSE, h3 rfl]; rfl
  generalize spotEl l root ⟨p', o', f', m'⟩ = VB at hb9 hEnd ⊢
  generalize spotErr l root ⟨p', o', f', m'⟩ = VE at hE9 hEnd ⊢
  clear hrise hfe hfl hzr h hcap hSE hSV h1 h3 h4
  go_enter Try.func36, Try.ntmps36
  generalize hQ0 : bodyPost Try.prog Try.f36 (SpotEnd VB VE w) = Q0
  have HRET : Hid (∀ a w', bodyPost Try.prog Try.f36 (SpotEnd VB VE w) .ret a w' → Q0 .ret a w') := show ∀ _ _, _ → _ from fun a w' h => by rw [← hQ0]; exact h
  clear hQ0
  go_upto_region 4 with (go_at_call 37; (with_reducible refine (cF _ hu).mono ?_); rintro e9 w1 ⟨v, rfl, ho, hb1⟩; obtain ⟨A1, c1, hv1, hn1, hn2, hl1⟩ := ho.lies HW.out; subst hv1; have HL := Lib.hid hl1; have hu1 := hu.call hb1; have hz1 := (hb1.block (row6 hz).2.2.2.2.2.2).trans hz; have hy1 := (hb1.block (row4 hy).2.2.2.2).trans hy; clear hb1 ho hl1 x0 x1 hxs y0 y1 y2 y3 hys; obtain ⟨y0, y1, y2, y3, hys⟩ := row4 hy1; obtain ⟨z0, z1, z2, z3, z4, z5, hzs⟩ := row6 hz1; obtain ⟨f0, f1, f2, f3, f4, f5⟩ := free6 hz1)
  obtain ⟨b9, q9, hA9, hb9', e0, e1, e2, e3, e4, e5⟩ := lies_one HL.out
  subst hA9
  simp only at e0 e1 e2 e3 e4 e5
  refine wp_region_plan [.val (.slice (some ⟨b9, q9, none⟩) ([(⟨p', o', f', m', g', s'⟩ : El)] : List El).length c1), .val (.int .i64 (1)), .val (.bool false), .val (.bool false), .val (.slice (some ⟨b9, q9, none⟩) ([(⟨p', o', f', m', g', s'⟩ : El)] : List El).length c1), .val (.pointer (some ⟨b9, q9, none⟩)), .val (.agg #[.int .i64 p', .int .i64 o', .int .i64 f', .int .i64 m', .int .i64 g', .string s']), .val (.agg #[.int .i64 p', .int .i64 o', .int .i64 f', .int .i64 m']), .val (.agg #[.int .i64 p', .int .i64 o', .int .i64 f', .int .i64 m']), .val (.bool false), .val (.bool false)] (by kernel_rfl) (by kernel_rfl) (by kernel_rfl) ?_
  intro X
  iterate 11
    refine plan_val (by kernel_rfl) (fun u hu => ?_) ?_
    · obtain ⟨hc, hf, hz⟩ := hu.of_drew.facts
      go_simp
      all_goals first
        | ((go_at_call 28; exact spot_any _ _ _ _ _ _ _))
    simp only [Act.put, List.setIfInBounds_toArray, List.set_cons_zero, List.set_cons_succ, Nat.reduceAdd]
  refine plan_end ?_
  intro w' hB
  have hk := hB.calm.of_drew
  clear hB
  have hu2 := hu1.call hk
  have hz2 := (hk.block (row6 hz1).2.2.2.2.2.2).trans hz1
  have hfc := hk.facts.1
  replace e0 := (hfc _ _ hb9').trans e0; replace e1 := (hfc _ _ hb9').trans e1; replace e2 := (hfc _ _ hb9').trans e2; replace e3 := (hfc _ _ hb9').trans e3; replace e4 := (hfc _ _ hb9').trans e4; replace e5 := (hfc _ _ hb9').trans e5
  clear z0 z1 z2 z3 z4 z5 hzs f0 f1 f2 f3 f4 f5 hfc
  obtain ⟨z0, z1, z2, z3, z4, z5, hzs⟩ := row6 hz2
  obtain ⟨f0, f1, f2, f3, f4, f5⟩ := free6 hz2
  go_wp2_with fail
  have h6 := set6 hz2 (.int .i64 p') (.int .i64 o') (.int .i64 f') (.int .i64 m') (.int .i64 g') (.string s')
  exact HRET.out _ _ (end_two rfl rfl _ _ (w.heap.size + 2) _ _ _ (0, 0) rfl rfl rfl h6 rfl (hEnd.out _ _ _ hb9.out hE9.out (hu2.six (by omega) (.int .i64 p') (.int .i64 o') (.int .i64 f') (.int .i64 m') (.int .i64 g') (.string s'))))
open Go.RowKit
def wayOf (l:List Nd) (s:Sp):Nat→Int→List Int
 | 0,_=>[]
 |d+1,x=>match ndOf l x with
  |none=>[]
  |some n=>x::(if n.kd=2 then wayOf l s d ((n.K[kid0 n s]?).getD 0) else [])
theorem results_in {fn : Func} {p : Tmp} (h : fn.results = #[.cell p 103]) (tmps : Array Value) (w : World) (g : Nat) (t : TypeId) (cs : Array Value) (fr : Nat × Nat)
    (hp : tmps.getD p undef = .pointer (some ⟨g, 0, none⟩)) (hg : w.heap[g]? = some (.cells cs t fr)) (hsz : cs.size = 3) : (results fn tmps).run Try.prog w = .ok (.agg cs) w := by
  have hp' : tmps[p]?.getD undef = .pointer (some ⟨g, 0, none⟩) := by simpa using hp
  have hi : (Try.prog.info? 103).map (·.size) = some cs.size := by rw [hsz]; kernel_rfl
  simp [results, h, hp', asAddr, run_loadVar_row w g t 103 cs fr _ hg Try.underlying103 rfl hi]
theorem end_in {P : Program} {fn : Func} {p : Tmp} {Q : Ending → World → Prop} (hP : P = Try.prog) (h : fn.results = #[.cell p 103]) (a : Act) (w : World) (g : Nat) (t : TypeId) (cs : Array Value) (fr : Nat × Nat) (hd : a.defers = [])
    (hp : a.tmps.getD p undef = .pointer (some ⟨g, 0, none⟩)) (hg : w.heap[g]? = some (.cells cs t fr)) (hsz : cs.size = 3) (hQ : Q (.returned (.agg cs)) w) : bodyPost P fn Q .ret a w := by
  subst hP
  exact bodyPost_ret (v := .agg cs) (results_in h a.tmps w g t cs fr hp hg hsz) hd hQ
structure InsHalf (B:Nat) (w:World) (g:Nat) (root:Int) (v vW v9:Value) (us:List Nd) (W:List Int):Prop where
 box:w.heap[g]?=some (.cells #[.int .i64 root,v,vW] (tagAt w g) (0,0))
 t:TOwn B w v us
 n:OwnI B w v9 W
 ge:B≤g
 tn:∀ k,TB v us k→v9.ownBlock≠some k
 tg:¬ TB v us g
 ng:v9.ownBlock≠some g
theorem InsHalf.calm {B:Nat} {w w':World} {g:Nat} {root:Int} {v vW v9:Value} {us:List Nd} {W:List Int} (h:InsHalf B w g root v vW v9 us W) (hb:Calm w w'):InsHalf B w' g root v vW v9 us W :=
 ⟨tag_of ((hb.block (Array.getElem?_eq_some_iff.1 h.box).1).trans h.box),h.t.calm hb,h.n.calm hb,h.ge,h.tn,h.tg,h.ng⟩
theorem InsOk.half {B:Nat} {w w':World} {g:Nat} {root:Int} {v vW v9:Value} {us:List Nd} {W W2:List Int} (h:InsOk B w g root v vW us W) (h1:OwnI B w' v9 W2) (h2:w.grownBy w' vW.ownBlock) (h3:v9.ownBlock=vW.ownBlock∨v9.ownBlock=some w.heap.size):InsHalf B w' g root v vW v9 us W2:=by
 have hgl:g<w.heap.size:=(Array.getElem?_eq_some_iff.1 h.box).1
 refine ⟨tag_of ((h2.block g hgl fun e=>h.ng e.symm).trans h.box),h.t.same fun k hk=>h2.block k (h.t.range k hk).2 fun e=>h.tn k hk e.symm,h1,h.ge,fun k hk e=>?_,h.tg,fun e=>?_⟩
 ·rcases h3 with h3 | h3
  ·exact h.tn k hk (h3.symm.trans e)
  ·rw [h3] at e;injection e with e;have:=(h.t.range k hk).2;omega
 ·rcases h3 with h3 | h3
  ·exact h.ng (h3.symm.trans e)
  ·rw [h3] at e;injection e with e;omega
theorem InsHalf.done {B:Nat} {w:World} {g:Nat} {root:Int} {v vW v9:Value} {us:List Nd} {W:List Int} (h:InsHalf B w g root v vW v9 us W):InsOk B (w.setCell ⟨g,2,none⟩ v9) g root v v9 us W:=by
 have ho:∀ k,k≠g→(w.setCell ⟨g,2,none⟩ v9).heap[k]?=w.heap[k]?:=fun k hk=>heap_setCell_other w ⟨g,2,none⟩ k _ (fun e=>hk (by simpa using e))
 exact ⟨tag_of (box_set h.box 2 v9),h.t.same fun k hk=>ho k fun e=>h.tg (e ▸ hk),rows_same h.n fun k hk=>ho k fun e=>h.ng (e ▸ hk),h.ge,h.tn,h.tg,h.ng⟩
def PushS (w1:World) (B g:Nat) (root:Int) (v vW:Value) (us:List Nd) (W:List Int) (y:Int) (q:Nat) (nb:Obj):Nat→(Nat→Value)→World→Prop
 | 0,_,w=>InsOk B w g root v vW us W∧Calm w1 w∧w.heap[q]?=some nb
 | 1,Y,w=>(∃ gl,Y 7=.slice (some ⟨gl,0,none⟩) 1 1∧w.heap[gl]?=some (.cells #[.int .i64 y] 3 (0,0)))∧InsOk B w g root v vW us W∧Calm w1 w∧w.heap[q]?=some nb
 | 2,Y,w=>InsHalf B w g root v vW (Y 8) us (W++[y])∧Calm w1 w∧w.heap[q]?=some nb∧(Y 8).ownBlock≠some q
 |_,Y,w=>InsOk B w g root v (Y 8) us (W++[y])∧Calm w1 w∧w.heap[q]?=some nb∧(Y 8).ownBlock≠some q
theorem PushS.calm {w1:World} {B g:Nat} {root:Int} {v vW:Value} {us:List Nd} {W:List Int} {y:Int} {q:Nat} {nb:Obj}:∀ (m:Nat) (Y:Nat→Value) (w w':World),PushS w1 B g root v vW us W y q nb m Y w→Calm w w'→PushS w1 B g root v vW us W y q nb m Y w'
 | 0,_,_,_,⟨h1,h2,h3⟩,hb=>⟨h1.calm hb,h2.call hb,(hb.block (Array.getElem?_eq_some_iff.1 h3).1).trans h3⟩
 | 1,_,_,_,⟨⟨gl,a,b⟩,h1,h2,h3⟩,hb=>⟨⟨gl,a,(hb.block (Array.getElem?_eq_some_iff.1 b).1).trans b⟩,h1.calm hb,h2.call hb,(hb.block (Array.getElem?_eq_some_iff.1 h3).1).trans h3⟩
 | 2,_,_,_,⟨h1,h2,h3,h4⟩,hb=>⟨h1.calm hb,h2.call hb,(hb.block (Array.getElem?_eq_some_iff.1 h3).1).trans h3,h4⟩
 |_+3,_,_,_,⟨h1,h2,h3,h4⟩,hb=>⟨h1.calm hb,h2.call hb,(hb.block (Array.getElem?_eq_some_iff.1 h3).1).trans h3,h4⟩
theorem PushS.boxes {w1 w:World} {B g:Nat} {root:Int} {v vW:Value} {us:List Nd} {W:List Int} {y:Int} {q:Nat} {nb:Obj} {Y:Nat→Value}:∀ {m:Nat},m≤1→PushS w1 B g root v vW us W y q nb m Y w→w.heap[g]?=some (.cells #[.int .i64 root,v,vW] (tagAt w g) (0,0))∧Calm w1 w∧w.heap[q]?=some nb
 | 0,_,h=>⟨h.1.box,h.2.1,h.2.2⟩
 | 1,_,h=>⟨h.2.1.box,h.2.2.1,h.2.2.2⟩
theorem PushS.any {w1 w:World} {B g:Nat} {root:Int} {v vW:Value} {us:List Nd} {W:List Int} {y:Int} {q:Nat} {nb:Obj} {Y:Nat→Value}:∀ {m:Nat},PushS w1 B g root v vW us W y q nb m Y w→Calm w1 w∧w.heap[q]?=some nb
 | 0,h=>⟨h.2.1,h.2.2⟩
 | 1,h=>⟨h.2.2.1,h.2.2.2⟩
 | 2,h=>⟨h.2.1,h.2.2.1⟩
 |_+3,h=>⟨h.2.1,h.2.2.1⟩
theorem InsOk.off {B:Nat} {w w':World} {g q:Nat} {root:Int} {v vW:Value} {us:List Nd} {W:List Int} (h:InsOk B w g root v vW us W) (hg:g≠q) (ht:¬ TB v us q) (hv:vW.ownBlock≠some q) (hb:∀ k,k≠q→w'.heap[k]?=w.heap[k]?):InsOk B w' g root v vW us W :=
 ⟨tag_of ((hb g hg).trans h.box),h.t.same fun k hk=>hb k fun e=>ht (e ▸ hk),rows_same h.n fun k hk=>hb k fun e=>hv (e ▸ hk),h.ge,h.tn,h.tg,h.ng⟩
theorem five_other {w:World} {g:Nat} (b0 b1 b2 b3 b4:Value) {k:Nat} (hk:k≠g):(World.five w g b0 b1 b2 b3 b4).heap[k]?=w.heap[k]?:=by
 have ho:∀ (u:World) (j:Nat) (x:Value),(u.setCell ⟨g,j,none⟩ x).heap[k]?=u.heap[k]?:=fun u j x=>heap_setCell_other u ⟨g,j,none⟩ k x (fun e=>hk (by simpa using e))
 unfold World.five
 rw [ho,ho,ho,ho,ho]
def wayLen (w:World) (g:Nat):Nat:=match w.heap[g]? with | some (.cells cs _ _)=>(match cs.getD 2 undef with | .slice _ n _=>n | _=>0) | _=>0
theorem wayLen_eq {w:World} {g t:Nat} {a0 a1:Value} {A:Option Addr} {n c:Nat} {fr:Nat × Nat} (h:w.heap[g]?=some (.cells #[a0,a1,.slice A n c] t fr)):wayLen w g=n:=by unfold wayLen;rw [h];rfl
def ToEnd (B:Nat) (root:Int) (l:List Nd) (W:List Int) (w:World) (e:Ending) (w':World):Prop:=∃ v vW us,e=.returned (.agg #[.int .i64 root,v,vW])∧SameT l us∧TOwn B w' v us∧OwnI B w' vW W∧(∀ k,TB v us k→vW.ownBlock≠some k)∧Calm w w'
set_option maxHeartbeats 16000000 in
theorem to_any (root : Int) (A : Option Addr) (c : Nat) (l : List Nd) (w : World) (h : TrAt w A l) (hok : NdsOk l) (hl4 : l.length ≤ 400) (d : Nat) (hd4 : d ≤ 400) (hD : Deep l d root) (p o f m : Int) :
    Calls Try.prog 56 #[.agg #[.int .i64 root, .slice A l.length c], .agg #[.int .i64 p, .int .i64 o, .int .i64 f, .int .i64 m]] w (ToEnd w.heap.size root l (wayOf l ⟨p, o, f, m⟩ d root) w) := by
  have HT := Lib.hid h
  have hsz : ∀ n ∈ l, n.E.length ≤ 400 ∧ n.K.length ≤ 400 ∧ n.S.length ≤ 400 ∧ n.T.length ≤ 400 := fun n hn => by
    have := nd_sizes (hok n hn); omega
  have cC := fun u (hu : Calm w u) => copied_any root A c l u (h.calm hu) hsz hl4
  have hx := heap_past (.cells insZ 103) (heap_past (.cells #[.int .i64 p, .int .i64 o, .int .i64 f, .int .i64 m] 62) (heap_new w (.cells #[.int .i64 root, .slice A l.length c] 24)))
  have hy := heap_past (.cells insZ 103) (heap_new (w.alloc (.cells #[.int .i64 root, .slice A l.length c] 24)) (.cells #[.int .i64 p, .int .i64 o, .int .i64 f, .int .i64 m] 62))
  have hr := heap_new ((w.alloc (.cells #[.int .i64 root, .slice A l.length c] 24)).alloc (.cells #[.int .i64 p, .int .i64 o, .int .i64 f, .int .i64 m] 62)) (.cells insZ 103)
  rw [World.size_alloc] at hy hr
  rw [World.size_alloc] at hr
  have hu := (((Calm.refl w).alloc (.cells #[.int .i64 root, .slice A l.length c] 24)).alloc (.cells #[.int .i64 p, .int .i64 o, .int .i64 f, .int .i64 m] 62)).alloc (.cells insZ 103)
  have hs1 : (((w.alloc (.cells #[.int .i64 root, .slice A l.length c] 24)).alloc (.cells #[.int .i64 p, .int .i64 o, .int .i64 f, .int .i64 m] 62)).alloc (.cells insZ 103)).heap.size = w.heap.size + 3 := by simp
  obtain ⟨WW, hWW⟩ : ∃ WW, wayOf l ⟨p, o, f, m⟩ d root = WW := ⟨_, rfl⟩
  rw [hWW]
  have HWW := Lib.hid hWW
  have HOK := Lib.hid hok
  have HDD := Lib.hid hD
  clear h hsz hWW hok hD
  unfold insZ at hx hy hr hu hs1
  go_enter Try.func56, Try.ntmps56
  generalize hQ0 : bodyPost Try.prog Try.f56 (ToEnd w.heap.size root l WW w) = Q0
  have HRET : Hid (∀ a w', bodyPost Try.prog Try.f56 (ToEnd w.heap.size root l WW w) .ret a w' → Q0 .ret a w') := show ∀ _ _, _ → _ from fun a w' h => by rw [← hQ0]; exact h
  clear hQ0
  go_upto_region 1 with fail
  generalize ((w.alloc (.cells #[.int .i64 root, .slice A l.length c] 24)).alloc (.cells #[.int .i64 p, .int .i64 o, .int .i64 f, .int .i64 m] 62)).alloc (.cells #[.int .i64 0, .slice none 0 0, .slice none 0 0] 103) = w1 at hx hy hr hu hs1 ⊢
  have HS1 := Lib.hid hs1
  have HU1 := Lib.hid hu
  have hxl := (rowT hx).2.2
  clear hs1 hu
  refine wp_region_stages [.val (.agg #[.int .i64 root, .slice A l.length c]), .late, .val (.pointer (some ⟨w.heap.size, 0, none⟩)), .val (.int .i64 root), .late, .late [1, 4], .late, .late [5, 6]] [1, 4, 5, 6, 7]
    (StT w1 w1.heap.size l root) (by kernel_rfl) (by kernel_rfl) (by kernel_rfl) StT.stay (fun Y => .inl ⟨_, _, _, _, .slice none 0 0, [], rfl, (PreT.start (Nat.le_refl _)).stay ((Calm.refl _).drew)⟩) (fun Y => ?_)
  refine planS_val (by kernel_rfl) (fun L u hb hS => ?_) ?_
  · obtain ⟨x0, x1, hxs⟩ := rowT ((hS.calm.block hxl).trans hx)
    clear hS hb
    go_simp
  simp only [Act.put, List.setIfInBounds_toArray, List.set_cons_zero, List.set_cons_succ, Nat.reduceAdd]
  refine planS_late (fun L u hi hb hS => ?_) ?_
  · obtain ⟨h10, v, us, hP⟩ := hS.pre (by simp [hi])
    rw [hi] at hP
    have HP := Lib.hid hP
    have H10 := Lib.hid h10
    clear hS hP h10
    go_wp2_with (go_at_call 93; (with_reducible refine (cC _ (HU1.out.call HP.out.calm)).mono ?_); rintro e w9 ⟨v9, us9, rfl, hs9, ho9, hb9⟩)
    exact .inl ⟨true, L 4, L 5, L 6, v9, us9, by simp [updB, H10.out], HP.out.do1 hs9 ho9 hb9⟩
  simp only [Act.put, List.setIfInBounds_toArray, List.set_cons_zero, List.set_cons_succ, Nat.reduceAdd]
  refine planS_val (by kernel_rfl) (fun L u hb hS => ?_) ?_
  · clear hS hb
    go_simp
  simp only [Act.put, List.setIfInBounds_toArray, List.set_cons_zero, List.set_cons_succ, Nat.reduceAdd]
  refine planS_val (by kernel_rfl) (fun L u hb hS => ?_) ?_
  · obtain ⟨x0, x1, hxs⟩ := rowT ((hS.calm.block hxl).trans hx)
    clear hS hb
    go_simp
  simp only [Act.put, List.setIfInBounds_toArray, List.set_cons_zero, List.set_cons_succ, Nat.reduceAdd]
  refine planS_late (fun L u hi hb hS => ?_) ?_
  · obtain ⟨h10, v, us, hP⟩ := hS.pre (by simp [hi])
    rw [hi] at hP
    have HP := Lib.hid hP
    have H10 := Lib.hid h10
    clear hS hP h10
    go_wp2_with fail
    exact .inl ⟨L 1, true, L 5, L 6, v, us, by simp [updB, H10.out], HP.out.do4⟩
  simp only [Act.put, List.setIfInBounds_toArray, List.set_cons_zero, List.set_cons_succ, Nat.reduceAdd]
  refine planS_late (fun L u hi hb hS => ?_) ?_
  · obtain ⟨h10, v, us, hP⟩ := hS.pre (by simp [hi])
    rw [hi, hb 1 (by simp), hb 4 (by simp)] at hP
    have HP := Lib.hid hP
    have H10 := Lib.hid h10
    have H1 := Lib.hid (hb 1 (by simp))
    have H4 := Lib.hid (hb 4 (by simp))
    have e1 := (hP.t rfl).1
    obtain ⟨a4, b4, e4⟩ := (hP.n rfl).slice
    have hQ := HP.out.do5
    rw [e1, e4]
    rw [e4] at hQ
    have HQ := Lib.hid hQ
    clear hS hP h10 hb hQ e1 e4
    go_wp2_with fail
    exact .inl ⟨true, true, true, L 6, v, us, by simp [updB, H10.out, H1.out, H4.out], HQ.out⟩
  simp only [Act.put, List.setIfInBounds_toArray, List.set_cons_zero, List.set_cons_succ, Nat.reduceAdd]
  refine planS_late (fun L u hi hb hS => ?_) ?_
  · obtain ⟨h10, v, us, hP⟩ := hS.pre (by simp [hi])
    rw [hi] at hP
    have HP := Lib.hid hP
    have H10 := Lib.hid h10
    clear hS hP h10
    go_wp2_with fail
    exact .inl ⟨L 1, L 4, L 5, true, v, us, by simp [updB, H10.out], HP.out.do6⟩
  simp only [Act.put, List.setIfInBounds_toArray, List.set_cons_zero, List.set_cons_succ, Nat.reduceAdd]
  refine planS_late (fun L u hi hb hS => ?_) ?_
  · obtain ⟨h10, v, us, hP⟩ := hS.pre (by simp [hi])
    rw [hb 5 (by simp), hb 6 (by simp)] at hP
    obtain ⟨t1, t4, e5⟩ := hP.a rfl
    rw [t1, t4] at hP
    obtain ⟨g, e6, hBg, hg⟩ := hP.g rfl
    obtain ⟨a4, b4, e4⟩ := (hP.n rfl).slice
    obtain ⟨av, bv, ev⟩ := (hP.t rfl).2.2.row.slice
    have hSa := (hP.t rfl).2.1
    have hQ := hP.do7 e6 hBg hg hBg
    have H := Lib.hid (show [1, 4, 5, 6, 7].map (updB L 7) = [true, true, true, true, true] by simp [updB, t1, t4, hb 5 (by simp), hb 6 (by simp)])
    have HQ : Hid (∀ y, StT w1 w1.heap.size l root ([1, 4, 5, 6, 7].map (updB L 7)) (updV Y 7 y) (World.three u g (.int .i64 root) v (Y 4))) := show ∀ _, _ from fun y => .inr ⟨H.out, hQ.1, g, v, us, e6, hSa, hQ.2⟩
    unfold insZ at hg
    obtain ⟨z0, z1, z2, hzs⟩ := row3 hg
    obtain ⟨f0, f1, f2, f3, f4⟩ := free5 hg
    rw [e4, ev] at HQ e5
    rw [e5, e6]
    clear hS hP h10 hb hQ e4 e5 e6 ev H hg t1 t4 hSa
    go_wp2_with fail
    exact ⟨undef, HQ.out undef⟩
  simp only [Act.put, Nat.reduceAdd]
  refine planS_end ?_
  intro w4 hS
  obtain ⟨hu4, g, v, us, e6, hSa, hI⟩ : Calm w1 w4 ∧ ∃ g v us, Y 6 = .pointer (some ⟨g, 0, none⟩) ∧ SameT l us ∧ InsOk w1.heap.size w4 g root v (Y 4) us [root] := by
    rcases hS with ⟨_, _, _, _, _, _, h1, -⟩ | ⟨-, h2⟩
    · simp at h1
    · exact h2
  rw [e6]
  generalize Y 1 = y1
  generalize Y 4 = vW at hI ⊢
  generalize Y 5 = y5
  clear hS e6 Y
  obtain ⟨av, bv, ev⟩ := hI.t.row.slice
  subst ev
  have HC4 := Lib.hid hu4
  have HI := Lib.hid hI
  have HSa := Lib.hid hSa
  have HU4 := Lib.hid (HU1.out.call hu4)
  have hx4 := (hu4.block hxl).trans hx
  have hy4 := (hu4.block (row4 hy).2.2.2.2).trans hy
  have hr4 := (hu4.block (row3 hr).2.2.2).trans hr
  clear hu4 hI hSa cC
  cases d with
  | zero => exact absurd HDD.out id
  | succ d =>
    obtain ⟨n, hn, -⟩ := id HDD.out
    obtain ⟨i1, i2, i3⟩ := nd_of_in hn
    obtain ⟨RR, rfl⟩ : ∃ RR : Nat, root = (RR : Int) := ⟨root.toNat, by omega⟩
    rw [Int.toNat_natCast] at i3
    have hRl : RR < l.length := by omega
    have hRi : (RR : Int) < (l.length : Int) := by omega
    obtain ⟨b, q, kd, A1, A2, A3, A4, c1, c2, c3, c4, E, K, S, T, hA, hbb, HN, HA, n0, n1, n2, n3, n4⟩ := (HT.out.calm HU4.out).get hRl
    cases hA
    obtain ⟨x0, x1, hxs⟩ := rowT hx4
    have hbox := heap_new w4 (.cells #[.int .i64 kd, .slice A1 E.length c1, .slice A2 K.length c2, .slice A3 S.length c3, .slice A4 T.length c4] 32)
    have hal := (Calm.refl w4).alloc (.cells #[.int .i64 kd, .slice A1 E.length c1, .slice A2 K.length c2, .slice A3 S.length c3, .slice A4 T.length c4] 32)
    go_upto_region 3 with fail
    have HI5 := Lib.hid (HI.out.calm hal)
    have hx5 := (hal.block (rowT hx4).2.2).trans hx4
    have hy5 := (hal.block (row4 hy4).2.2.2.2).trans hy4
    have hr5 := (hal.block (row3 hr4).2.2.2).trans hr4
    have HU5 := Lib.hid (HU4.out.call hal)
    have HC5 := Lib.hid (HC4.out.call hal)
    have hvb : Hid (vW.ownBlock ≠ some w4.heap.size) := show _ ≠ _ from fun e => by have := (HI.out.n.lt _ e).2; omega
    have htb : Hid (∀ k, TB (.slice av us.length bv) us k → k < w4.heap.size) := show ∀ _, _ from fun k hk => (HI.out.t.range k hk).2
    have hgl : Hid (g < w4.heap.size) := (Array.getElem?_eq_some_iff.1 HI.out.box).1
    generalize w4.alloc (.cells #[.int .i64 kd, .slice A1 E.length c1, .slice A2 K.length c2, .slice A3 S.length c3, .slice A4 T.length c4] 32) = w5 at hbox hal HI5 hx5 hy5 hr5 HU5 HC5 ⊢
    have HBX : Hid (∃ n, ndOf l (RR : Int) = some n ∧ w5.heap[w4.heap.size]? = some (.cells n.cells.toArray 32 (0, 0))) := show ∃ _, _ from ⟨⟨kd, A1, A2, A3, A4, c1, c2, c3, c4, E, K, S, T⟩, by unfold ndOf; rw [if_pos (by omega), Int.toNat_natCast]; exact HN.out, hbox⟩
    clear n0 n1 n2 n3 n4 hbb x0 x1 hxs hbox hal HN HA
    go_loopw [7] (fun _ wr => ∃ (dd : Nat) (x : Int) (n : Nd) (pre : List Int) (vW' : Value), Hid (Deep l (dd + 1) x) ∧ Hid (ndOf l x = some n) ∧ Hid (WW = pre ++ wayOf l ⟨p, o, f, m⟩ (dd + 1) x) ∧ Hid (pre.length + dd = d) ∧ Hid (InsOk w1.heap.size wr g (RR : Int) (.slice av us.length bv) vW' us (pre ++ [x])) ∧ Hid (wr.heap[w4.heap.size]? = some (.cells n.cells.toArray 32 (0, 0))) ∧ Hid (Calm w1 wr) ∧ Hid (vW'.ownBlock ≠ some w4.heap.size) ∧ Hid (w4.heap.size < wr.heap.size)) (fun _ wr => d + 1 - wayLen wr g)
    case atStart =>
      obtain ⟨n0, h1, h2⟩ := HBX.out
      exact ⟨d, (RR : Int), n0, [], vW, HDD.out, h1, (show WW = [] ++ _ from HWW.out.symm), (show 0 + d = d by omega), HI5.out, h2, HC5.out, hvb.out, (Array.getElem?_eq_some_iff.1 h2).1⟩
    case round =>
      obtain ⟨dd, x, n, pre, vW', hDx, hnx, hWx, hpre, hI, hbn, hcw, hvn, hw4⟩ := hrel
      obtain ⟨kd, A1, A2, A3, A4, c1, c2, c3, c4, E, K, S, T⟩ := n
      have hvw := Lib.hid (HU1.out.call hcw.out)
      have hbn' : wr.heap[w4.heap.size]? = some (.cells #[.int .i64 kd, .slice A1 E.length c1, .slice A2 K.length c2, .slice A3 S.length c3, .slice A4 T.length c4] 32 (0, 0)) := hbn.out
      have hxr := (hcw.out.block hxl).trans hx
      have hyr := (hcw.out.block (row4 hy).2.2.2.2).trans hy
      have hrr := (hcw.out.block (row3 hr).2.2.2).trans hr
      have hmem := List.mem_of_getElem? (nd_of_in hnx.out).2.2
      have HA : Hid (NdAt wr A1 A2 A3 A4 E K S T) := (HT.out.calm hvw.out).nd _ hmem
      have hzn := HOK.out _ hmem
      simp only at hzn
      obtain ⟨m0, m1, m2, m3, m4, hms⟩ := row5 hbn'
      have hbi := hI.out.box
      obtain ⟨i0, i1', i2', his⟩ := row3 hbi
      obtain ⟨aw, LW, bw, ew, hLW⟩ : ∃ A n c, vW' = .slice A n c ∧ Hid (n = (pre ++ [x]).length) := by obtain ⟨A, c, h⟩ := hI.out.n.slice; exact ⟨A, _, c, h, rfl⟩
      subst ew
      by_cases hk2 : kd = 2
      rotate_left
      · have hW9 : Hid (WW = pre ++ [x]) := show _ = _ by rw [hWx.out, wayOf, hnx.out]; simp only; rw [if_neg hk2]
        have hlw : w.heap.size + 1 + 1 < w1.heap.size := by have := HS1.out; omega
        have hI2 : Hid (InsOk w1.heap.size wr g (RR : Int) (.slice av us.length bv) (.slice aw LW bw) us WW) := show InsOk _ _ _ _ _ _ _ _ from hW9.out ▸ hI.out
        obtain ⟨f0, f1, f2, f3, f4⟩ := free5 hrr
        obtain ⟨r0, r1, r2, hrs⟩ := row3 hrr
        have h3 := box_set (box_set (box_set hrr 0 (.int .i64 (RR : Int))) 1 (.slice av us.length bv)) 2 (.slice aw LW bw)
        have hEnd : Hid (ToEnd w.heap.size (RR : Int) l WW w (.returned (.agg #[.int .i64 (RR : Int), .slice av us.length bv, .slice aw LW bw])) (World.three wr (w.heap.size + 1 + 1) (.int .i64 (RR : Int)) (.slice av us.length bv) (.slice aw LW bw))) := show ToEnd _ _ _ _ _ _ _ from
          ⟨_, _, us, rfl, HSa.out, (((hI2.out.t.set hlw 0 _).set hlw 1 _).set hlw 2 _).mono (by omega), rows_weaken (rows_set (rows_set (rows_set hI2.out.n hlw 0 _) hlw 1 _) hlw 2 _) (by omega), hI2.out.tn, ((hvw.out.setCell (p := ⟨w.heap.size + 1 + 1, 0, none⟩) (by show _ ≤ w.heap.size + 1 + 1; omega) _).setCell (p := ⟨w.heap.size + 1 + 1, 1, none⟩) (by show _ ≤ w.heap.size + 1 + 1; omega) _).setCell (p := ⟨w.heap.size + 1 + 1, 2, none⟩) (by show _ ≤ w.heap.size + 1 + 1; omega) _⟩
        clear hI hI2 hWx hW9
        have H3 := Lib.hid h3
        clear h3
        go_wp2_with fail
        refine HRET.out _ _ ?_
        exact end_in rfl rfl _ _ (w.heap.size + 1 + 1) _ _ (0, 0) rfl rfl H3.out rfl hEnd.out
      subst hk2
      obtain ⟨g1, g2, g3, g4, -, -, -, -⟩ := inner_good hzn
      have hkid : kid0 ⟨2, A1, A2, A3, A4, c1, c2, c3, c4, E, K, S, T⟩ ⟨p, o, f, m⟩ < K.length := by
        have := pos_le (S.map Sp.el) (p, o, f) m
        rw [List.length_map] at this
        unfold kid0 ndKid
        rw [if_pos rfl]
        simp only
        omega
      have hkv := kidV (n := ⟨2, A1, A2, A3, A4, c1, c2, c3, c4, E, K, S, T⟩) hzn ⟨p, o, f, m⟩
      have hke : kidErr 2 E K S T = 0 := by unfold kidErr; rw [if_pos hzn, if_pos rfl]
      simp only at hkv
      have cK := fun u (hu : Calm wr u) => nodeKid_any 2 A1 A2 A3 A4 c1 c2 c3 c4 E K S T p o f m u (HA.out.calm hu)
      rw [hkv, hke] at cK
      have hWk : Hid (WW = pre ++ x :: wayOf l ⟨p, o, f, m⟩ dd ((K[kid0 ⟨2, A1, A2, A3, A4, c1, c2, c3, c4, E, K, S, T⟩ ⟨p, o, f, m⟩]?).getD 0)) := show _ = _ by rw [hWx.out, wayOf, hnx.out]; simp
      generalize kid0 ⟨2, A1, A2, A3, A4, c1, c2, c3, c4, E, K, S, T⟩ ⟨p, o, f, m⟩ = k0 at hkid cK hWk
      have hDk : Hid (∀ y ∈ K, Deep l dd y) := show ∀ y ∈ K, _ from by
        obtain ⟨n', hn', hc⟩ := hDx.out
        rw [hnx.out] at hn'
        obtain rfl := Option.some.inj hn'
        rcases hc with ⟨h1, -⟩ | ⟨-, h2⟩
        · exact absurd h1 (by simp)
        · exact h2
      obtain ⟨bk, qk, y, hAk, hbk, HY, cy⟩ := HA.out.k.get hkid
      subst hAk
      have hDy := hDk.out y (List.mem_of_getElem? HY.out)
      have hWy : Hid (WW = (pre ++ [x]) ++ wayOf l ⟨p, o, f, m⟩ dd y) := show _ = _ by rw [hWk.out, HY.out]; simp
      clear hWk hWx hkv hke g1 g2 g3 g4 hDk
      cases dd with
      | zero => exact absurd hDy id
      | succ dd =>
        obtain ⟨ny, hny, -⟩ := id hDy
        obtain ⟨j1, j2, j3⟩ := nd_of_in hny
        obtain ⟨YY, rfl⟩ : ∃ YY : Nat, y = (YY : Int) := ⟨y.toNat, by omega⟩
        rw [Int.toNat_natCast] at j3
        have hYl : YY < l.length := by omega
        have hYi : (YY : Int) < (l.length : Int) := by omega
        have HDY := Lib.hid hDy
        have HNY := Lib.hid hny
        have hki : (k0 : Int) < (K.length : Int) := by omega
        clear hDy hny j1 j2 hzn hmem
        obtain ⟨x0, x1, hxs⟩ := rowT hxr
        obtain ⟨y0, y1, y2, y3, hys⟩ := row4 hyr
        go_upto_region 5 with (go_at_call 94; (with_reducible refine (cK _ (Calm.refl _)).mono ?_); rintro e w6 ⟨rfl, hb6⟩; have HB6 := Lib.hid hb6; have hc6 := hb6.facts.1; have cy6 := (hc6 _ _ hbk).trans cy; have hbk6 : bk < w6.heap.size := Nat.lt_of_lt_of_le hbk hb6.size; have hbn6 := (hb6.block (row5 hbn').2.2.2.2.2).trans hbn'; have hxr6 := (hb6.block (rowT hxr).2.2).trans hxr; have HI6 := Lib.hid (hI.out.calm hb6); clear hb6 hc6 m0 m1 m2 m3 m4 hms i0 i1' i2' his x0 x1 hxs y0 y1 y2 y3 hys cy; obtain ⟨m0, m1, m2, m3, m4, hms⟩ := row5 hbn6; obtain ⟨i0, i1', i2', his⟩ := row3 HI6.out.box; obtain ⟨x0, x1, hxs⟩ := rowT hxr6)
        have HN6 := Lib.hid hbn6
        have HK0 := Lib.hid hnx.out
        have hln : (pre ++ [x]).length ≤ 1000000 := by have := hpre.out; rw [List.length_append]; simp; omega
        clear m0 m1 m2 m3 m4 hms i0 i1' i2' his x0 x1 hxs cy6 hbk6 hxr6
        refine wp_region_stages [.val (.pointer (some ⟨g, 2, none⟩)), .val (.slice aw LW bw) [8], .val (.pointer (some ⟨w4.heap.size, 2, none⟩)), .val (.slice (some ⟨bk, qk, none⟩) K.length c2), .val (.int .i64 (k0 : Int)), .val (.pointer (some ⟨bk, qk + k0, none⟩)), .val (.int .i64 (YY : Int)), .late, .late [7], .val (.pointer (some ⟨g, 2, none⟩)), .late [8]] [7, 8, 10]
            (ChainS 3 (PushS w1 w1.heap.size g (RR : Int) (.slice av us.length bv) (.slice aw LW bw) us (pre ++ [x]) (YY : Int) w4.heap.size (.cells #[.int .i64 2, .slice A1 E.length c1, .slice (some ⟨bk, qk, none⟩) K.length c2, .slice A3 S.length c3, .slice A4 T.length c4] 32 (0, 0)))) (by kernel_rfl) (by kernel_rfl) (by kernel_rfl) (ChainS.stay PushS.calm)
            (fun Y => ChainS.start (late := [7, 8, 10]) (PushS.calm 0 _ _ _ ⟨HI6.out, hcw.out.call HB6.out, HN6.out⟩ ((Calm.refl _).drew))) (fun Y => ?_)
        clear hbn6
        refine planS_val (by kernel_rfl) (fun L u hb hS => ?_) ?_
        · clear hS hb
          go_simp
        simp only [Act.put, List.setIfInBounds_toArray, List.set_cons_zero, List.set_cons_succ, Nat.reduceAdd]
        refine planS_val (by kernel_rfl) (fun L u hb hS => ?_) ?_
        · obtain ⟨m, hm, hA⟩ := ChainS.upto (late := [7, 8, 10]) (m := 1) hS rfl (hb 8 (by simp))
          obtain ⟨i0, i1', i2', his⟩ := row3 (PushS.boxes (by omega) hA).1
          clear hS hA hb
          go_simp
        simp only [Act.put, List.setIfInBounds_toArray, List.set_cons_zero, List.set_cons_succ, Nat.reduceAdd]
        refine planS_val (by kernel_rfl) (fun L u hb hS => ?_) ?_
        · clear hS hb
          go_simp
        simp only [Act.put, List.setIfInBounds_toArray, List.set_cons_zero, List.set_cons_succ, Nat.reduceAdd]
        refine planS_val (by kernel_rfl) (fun L u hb hS => ?_) ?_
        · obtain ⟨m, hm, hA⟩ := ChainS.any (late := [7, 8, 10]) hS
          obtain ⟨m0, m1, m2, m3, m4, hms⟩ := row5 (PushS.any hA).2
          clear hS hA hb
          go_simp
        simp only [Act.put, List.setIfInBounds_toArray, List.set_cons_zero, List.set_cons_succ, Nat.reduceAdd]
        refine planS_val (by kernel_rfl) (fun L u hb hS => ?_) ?_
        · clear hS hb
          go_simp
        simp only [Act.put, List.setIfInBounds_toArray, List.set_cons_zero, List.set_cons_succ, Nat.reduceAdd]
        refine planS_val (by kernel_rfl) (fun L u hb hS => ?_) ?_
        · clear hS hb
          go_simp
        simp only [Act.put, List.setIfInBounds_toArray, List.set_cons_zero, List.set_cons_succ, Nat.reduceAdd]
        refine planS_val (by kernel_rfl) (fun L u hb hS => ?_) ?_
        · obtain ⟨m, hm, hA⟩ := ChainS.any (late := [7, 8, 10]) hS
          obtain ⟨bk', qk', y', hAk', hbk', HY', cy'⟩ := ((HT.out.calm (HU1.out.call (PushS.any hA).1)).nd _ (List.mem_of_getElem? (nd_of_in HK0.out).2.2)).k.get hkid
          injection hAk' with hAk'
          injection hAk' with u1 u2 _
          subst u1; subst u2
          obtain rfl : y' = (YY : Int) := Option.some.inj (HY'.out.symm.trans HY.out)
          clear hS hA hb
          go_simp
        simp only [Act.put, List.setIfInBounds_toArray, List.set_cons_zero, List.set_cons_succ, Nat.reduceAdd]
        refine planS_late (fun L u hi hb hS => ?_) ?_
        · obtain ⟨hA, hn⟩ := ChainS.step (late := [7, 8, 10]) (m := 0) hS rfl hi (fun j h0 h => by exact absurd h0 (Nat.lt_irrefl _)) (by decide)
          clear hS hb hi
          obtain ⟨h1, h2, h3⟩ := hA
          have H1 := Lib.hid h1
          have H2 := Lib.hid h2
          have H3 := Lib.hid h3
          clear h1 h2 h3
          go_wp2_with fail
          exact hn _ _ ⟨⟨_, rfl, heap_new _ _⟩, H1.out.calm ((Calm.refl _).alloc _), H2.out.alloc _, heap_past _ H3.out⟩
        simp only [Act.put, List.setIfInBounds_toArray, List.set_cons_zero, List.set_cons_succ, Nat.reduceAdd]
        refine planS_late (fun L u hi hb hS => ?_) ?_
        · obtain ⟨hA, hn⟩ := ChainS.step (late := [7, 8, 10]) (m := 1) hS rfl hi (fun j _ h => by cases h; exact hb 7 (by simp)) (by decide)
          clear hS hb hi
          obtain ⟨⟨gl, hy7, hgl7⟩, h1, h2, h3⟩ := hA
          rw [hy7]
          refine wpList_append_iAt rfl _ _ rfl w1.heap.size _ _ rfl h1.n _ _ _ _ rfl hgl7 hln h2.size ?_
          intro v9 w9 ho9 hg9 hat9
          refine ⟨rfl, v9, rfl, hn v9 w9 ⟨h1.half ho9 hg9 hat9, Below.grown h2 hg9 h2.size (fun k hk => (h1.n.lt k hk).1), (hg9.block _ (Array.getElem?_eq_some_iff.1 h3).1 (fun e => hvn.out e.symm)).trans h3, fun e => ?_⟩⟩
          rcases hat9 with h | h
          · exact hvn.out (h.symm.trans e)
          · have e9 : v9.ownBlock = some w4.heap.size := e
            rw [h] at e9; injection e9 with e9; have := (Array.getElem?_eq_some_iff.1 h3).1; omega
        simp only [Act.put, List.setIfInBounds_toArray, List.set_cons_zero, List.set_cons_succ, Nat.reduceAdd]
        refine planS_val (by kernel_rfl) (fun L u hb hS => ?_) ?_
        · clear hS hb
          go_simp
        simp only [Act.put, List.setIfInBounds_toArray, List.set_cons_zero, List.set_cons_succ, Nat.reduceAdd]
        refine planS_late (fun L u hi hb hS => ?_) ?_
        · obtain ⟨hA, hn⟩ := ChainS.step (late := [7, 8, 10]) (m := 2) hS rfl hi (fun j _ h => by cases h; exact hb 8 (by simp)) (by decide)
          clear hS hb hi
          have hA : InsHalf _ _ _ _ _ _ _ _ _ ∧ _ ∧ _ ∧ _ := hA
          obtain ⟨h1, h2, h3, h4⟩ := hA
          obtain ⟨A9, n9, c9, hy⟩ : ∃ A n c, Y 8 = .slice A n c := by obtain ⟨A, c, h⟩ := h1.n.slice; exact ⟨_, _, _, h⟩
          have h9 := h1.done
          have hgw : g ≠ w4.heap.size := by have := hgl.out; omega
          have hn9 := hn undef (u.setCell ⟨g, 2, none⟩ (Y 8)) ⟨h9, h2.setCell (p := ⟨g, 2, none⟩) h1.ge _, (heap_setCell_other u ⟨g, 2, none⟩ w4.heap.size _ (fun e => hgw (by simpa using e.symm))).trans h3, h4⟩
          obtain ⟨i0, i1', i2', his⟩ := row3 h1.box
          obtain ⟨f0, f1, f2, f3, f4⟩ := free5 h1.box
          rw [hy]
          rw [hy] at hn9
          clear hn h9 h1 h2 h3 h4 hy hgw
          go_wp2_with fail
          exact ⟨undef, hn9⟩
        simp only [Act.put, Nat.reduceAdd]
        refine planS_end ?_
        intro w10 hS
        obtain ⟨hI10', hC10', hbn10, hv10'⟩ : InsOk w1.heap.size w10 g (RR : Int) (.slice av us.length bv) (Y 8) us (pre ++ [x] ++ [(YY : Int)]) ∧ Calm w1 w10 ∧ w10.heap[w4.heap.size]? = some (.cells #[.int .i64 2, .slice A1 E.length c1, .slice (some ⟨bk, qk, none⟩) K.length c2, .slice A3 S.length c3, .slice A4 T.length c4] 32 (0, 0)) ∧ (Y 8).ownBlock ≠ some w4.heap.size := ChainS.done (late := [7, 8, 10]) hS
        clear hS
        generalize Y 8 = v9 at hI10' hv10' ⊢
        generalize Y 7 = y7
        obtain ⟨A9, n9, c9, e9⟩ : ∃ A n c, v9 = .slice A n c := by obtain ⟨A, c, h⟩ := hI10'.n.slice; exact ⟨_, _, _, h⟩
        subst e9
        have hI10 := Lib.hid hI10'
        have hC10 := Lib.hid hC10'
        have hv10 := Lib.hid hv10'
        have hgw : g ≠ w4.heap.size := by have := hgl.out; omega
        clear hI10' hC10' hv10'
        go_upto_region 6 with fail
        have hn9 : Hid (n9 = (pre ++ [x]).length + 1) := show _ = _ by
          have h := hI10.out.n.slice
          obtain ⟨A, c, h⟩ := h
          injection h with _ h _
          rw [h, List.length_append]; rfl
        have hvw10 := Lib.hid (HU1.out.call hC10.out)
        have HA10 : Hid (NdAt w10 A1 (some ⟨bk, qk, none⟩) A3 A4 E K S T) := (HT.out.calm hvw10.out).nd _ (List.mem_of_getElem? (nd_of_in hnx.out).2.2)
        obtain ⟨bk', qk', y', hAk', hbk', HY', cy'⟩ := HA10.out.k.get hkid
        injection hAk' with hAk'
        injection hAk' with u1 u2 _
        subst u1; subst u2
        obtain rfl : y' = (YY : Int) := Option.some.inj (HY'.out.symm.trans HY.out)
        obtain ⟨b', q', kd', D1, D2, D3, D4, e1, e2, e3, e4, E', K', S', T', hA', hbb', HN', HA', n0, n1, n2, n3, n4⟩ := (HT.out.calm hvw10.out).get hYl
        injection hA' with hA'
        injection hA' with u1 u2 _
        subst u1; subst u2
        have hxr10 := (hC10.out.block hxl).trans hx
        obtain ⟨x0, x1, hxs⟩ := rowT hxr10
        obtain ⟨m0, m1, m2, m3, m4, hms⟩ := row5 hbn10
        refine wp_region_plan_tail 9 [.val (.pointer (some ⟨w.heap.size, 1, none⟩)), .val (.slice (some ⟨b, q, none⟩) l.length c), .val (.pointer (some ⟨w4.heap.size, 2, none⟩)), .val (.slice (some ⟨bk, qk, none⟩) K.length c2), .val (.int .i64 (k0)), .val (.pointer (some ⟨bk, qk+k0, none⟩)), .val (.int .i64 ((YY : Int))), .val (.pointer (some ⟨b, q+YY*5, none⟩)), .val (.agg #[.int .i64 kd', .slice D1 E'.length e1, .slice D2 K'.length e2, .slice D3 S'.length e3, .slice D4 T'.length e4])] (by kernel_rfl) (by kernel_rfl) (by kernel_rfl) (by kernel_rfl) ?_
        intro X
        simp only [List.take_succ_cons, List.take_zero, List.drop_succ_cons, List.drop_zero]
        iterate 9
          refine plan_val (by kernel_rfl) (fun u hu => ?_) ?_
          · obtain ⟨hc, hf, hz⟩ := hu.of_drew.facts
            go_simp
          simp only [Act.put, List.setIfInBounds_toArray, List.set_cons_zero, List.set_cons_succ, Nat.reduceAdd]
        refine plan_end ?_
        intro w' hB
        have hk := hB.calm.of_drew
        clear hB
        have hbn11 := (hk.block (row5 hbn10).2.2.2.2.2).trans hbn10
        have hI11 := Lib.hid (hI10.out.calm hk)
        have hC11 := Lib.hid (hC10.out.call hk)
        have hw11 : Hid (w4.heap.size < w'.heap.size) := (Array.getElem?_eq_some_iff.1 hbn11).1
        clear m0 m1 m2 m3 m4 hms x0 x1 hxs n0 n1 n2 n3 n4 hk hbn10
        obtain ⟨m0, m1, m2, m3, m4, hms⟩ := row5 hbn11
        obtain ⟨f0, f1, f2, f3, f4⟩ := free5 hbn11
        have hN5 : Hid ((World.five w' w4.heap.size (.int .i64 kd') (.slice D1 E'.length e1) (.slice D2 K'.length e2) (.slice D3 S'.length e3) (.slice D4 T'.length e4)).heap[w4.heap.size]? = some (.cells #[.int .i64 kd', .slice D1 E'.length e1, .slice D2 K'.length e2, .slice D3 S'.length e3, .slice D4 T'.length e4] 32 (0, 0))) := show _ = _ from set5 hbn11 _ _ _ _ _
        have hI5 := Lib.hid (hI11.out.off hgw (fun h => Nat.lt_irrefl _ (htb.out _ h)) hv10.out (fun k hk => five_other (w := w') (g := w4.heap.size) (.int .i64 kd') (.slice D1 E'.length e1) (.slice D2 K'.length e2) (.slice D3 S'.length e3) (.slice D4 T'.length e4) hk))
        have hC5 := Lib.hid (hC11.out.five (g := w4.heap.size) (HC4.out.size) (.int .i64 kd') (.slice D1 E'.length e1) (.slice D2 K'.length e2) (.slice D3 S'.length e3) (.slice D4 T'.length e4))
        have hw5 : Hid (w4.heap.size < (World.five w' w4.heap.size (.int .i64 kd') (.slice D1 E'.length e1) (.slice D2 K'.length e2) (.slice D3 S'.length e3) (.slice D4 T'.length e4)).heap.size) := (Array.getElem?_eq_some_iff.1 hN5.out).1
        have hNY : Hid (ndOf l (YY : Int) = some ⟨kd', D1, D2, D3, D4, e1, e2, e3, e4, E', K', S', T'⟩) := show _ = _ by unfold ndOf; rw [if_pos (by omega), Int.toNat_natCast]; exact HN'.out
        have hme : Hid (d + 1 - wayLen (World.five w' w4.heap.size (.int .i64 kd') (.slice D1 E'.length e1) (.slice D2 K'.length e2) (.slice D3 S'.length e3) (.slice D4 T'.length e4)) g < d + 1 - wayLen wr g) := show _ < _ by
          rw [wayLen_eq hI5.out.box, wayLen_eq hbi, hn9.out, hLW.out]
          have := hpre.out
          rw [List.length_append]; simp; omega
        have hpl : Hid ((pre ++ [x]).length + dd = d) := show _ = _ by have := hpre.out; rw [List.length_append]; simp; omega
        go_wp2_with fail
        go_roundw
        case rel => exact ⟨dd, (YY : Int), _, pre ++ [x], _, HDY.out, hNY, hWy, hpl, hI5, hN5, hC5, hv10, hw5⟩
        case measure => exact hme.out
open Go.RowKit
set_option maxHeartbeats 4000000 in
theorem size_any (kd:Int) (A1 A2 A3 A4:Option Addr) (c1 c2 c3 c4:Nat) (E:List El) (K:List Int) (S:List Sp) (T:List Int) (w:World) (hE:E.length≤100000) (hK:K.length≤100000):Calls Try.prog 129 #[.agg #[.int .i64 kd,.slice A1 E.length c1,.slice A2 K.length c2,.slice A3 S.length c3,.slice A4 T.length c4]] w fun e w'=>e=.returned (.int .i64 ((E.length+K.length:Nat):Int))∧Calm w w':=by
 have hx:=heap_new w (.cells #[.int .i64 kd,.slice A1 E.length c1,.slice A2 K.length c2,.slice A3 S.length c3,.slice A4 T.length c4] 32)
 have hu:=(Calm.refl w).alloc (.cells #[.int .i64 kd,.slice A1 E.length c1,.slice A2 K.length c2,.slice A3 S.length c3,.slice A4 T.length c4] 32)
 obtain ⟨x0,x1,x2,x3,x4,hxs⟩:=row5 hx
 have e9:IntKind.i64.wrap ((E.length:Int)+(K.length:Int))=((E.length+K.length:Nat):Int):=by rw [IntWalk.i64_in _ (by omega)];omega
 go_enter Try.func129,Try.ntmps129
 go_wp2_with fail
 go_ret
 exact ⟨by first | rfl | simp [e9] | (simp;omega),hu⟩
set_option maxHeartbeats 4000000 in
/-- The node on a level of the way. -/
theorem at_any (B g gN cN cW : Nat) (A : Option Addr) (root : Int) (us : List Nd) (W : List Int) (w : World) (h : InsOk B w g root (.slice (some ⟨gN, 0, none⟩) us.length cN) (.slice A W.length cW) us W) (j x : Nat) (hj : W[j]? = some (x : Int)) (hx : x < us.length) :
    Calls Try.prog 125 #[.pointer (some ⟨g, 0, none⟩), .int .i64 (j : Int)] w fun e w' => e = .returned (.pointer (some ⟨gN, x * 5, none⟩)) ∧ Calm w w' := by
  obtain ⟨hjl, he⟩ := List.getElem?_eq_some_iff.1 hj
  obtain ⟨A', c', e1, hL⟩ := h.n.lies
  injection e1 with e1 _ e2
  subst e1; subst e2
  obtain ⟨bw, qw, y, hA, hbw, HY, cy⟩ := hL.get hjl
  subst hA
  obtain rfl : y = (x : Int) := Option.some.inj (HY.out.symm.trans hj)
  obtain ⟨i0, i1, i2, his⟩ := row3 h.box
  have hji : (j : Int) < (W.length : Int) := by omega
  have hxi : (x : Int) < (us.length : Int) := by omega
  clear h hj he HY hL
  go_enter Try.func125, Try.ntmps125
  go_upto_region 1 with fail
  refine wp_region_plan [.val (.pointer (some ⟨g, 0, none⟩)), .val (.pointer (some ⟨g, 0, none⟩)), .val (.pointer (some ⟨g, 0, none⟩)), .val (.pointer (some ⟨g, 1, none⟩)), .val (.slice (some ⟨gN, 0, none⟩) us.length cN), .val (.pointer (some ⟨g, 0, none⟩)), .val (.pointer (some ⟨g, 0, none⟩)), .val (.pointer (some ⟨g, 2, none⟩)), .val (.slice (some ⟨bw, qw, none⟩) W.length cW), .val (.int .i64 (j)), .val (.pointer (some ⟨bw, qw+j, none⟩)), .val (.int .i64 ((x : Int))), .val (.pointer (some ⟨gN, x*5, none⟩)), .val (.pointer (some ⟨gN, x*5, none⟩))] (by kernel_rfl) (by kernel_rfl) (by kernel_rfl) ?_
  intro X
  iterate 14
    refine plan_val (by kernel_rfl) (fun u hu => ?_) ?_
    · obtain ⟨hc, hf, hz⟩ := hu.of_drew.facts
      go_simp
    simp only [Act.put, List.setIfInBounds_toArray, List.set_cons_zero, List.set_cons_succ, Nat.reduceAdd]
  refine plan_end ?_
  intro w' hB
  have hk := hB.calm.of_drew
  clear hB
  go_wp2_with fail
  go_ret
  exact ⟨rfl, hk⟩
set_option maxHeartbeats 4000000 in
/-- The leaf at the end of the way. -/
theorem leaf_any (B g gN cN cW : Nat) (A : Option Addr) (root : Int) (us : List Nd) (W : List Int) (w : World) (h : InsOk B w g root (.slice (some ⟨gN, 0, none⟩) us.length cN) (.slice A W.length cW) us W) (x : Nat) (hl : W.length ≤ 1000000) (h0 : 0 < W.length) (hj : W[W.length - 1]? = some (x : Int)) (hx : x < us.length) :
    Calls Try.prog 95 #[.pointer (some ⟨g, 0, none⟩)] w fun e w' => e = .returned (.pointer (some ⟨gN, x * 5, none⟩)) ∧ Calm w w' := by
  obtain ⟨i0, i1, i2, his⟩ := row3 h.box
  have cA := at_any B g gN cN cW A root us W w h (W.length - 1) x hj hx
  have e9 : IntKind.i64.wrap ((W.length : Int) - 1) = ((W.length - 1 : Nat) : Int) := by rw [IntWalk.i64_in _ (by omega)]; omega
  generalize ((W.length - 1 : Nat) : Int) = L1 at cA e9
  clear h hj
  go_enter Try.func95, Try.ntmps95
  go_wp2_with (go_at_call 125; (with_reducible refine cA.mono ?_); rintro e w1 ⟨rfl, hb1⟩)
  go_ret
  exact ⟨rfl, hb1⟩
open Go.RowKit
set_option maxHeartbeats 4000000 in
theorem pos1_any (p o f m g : Int) (s : ByteArray) (p' o' f' m' : Int) (w : World) :
    Calls Try.prog 127 #[.agg #[.int .i64 p, .int .i64 o, .int .i64 f, .int .i64 m, .int .i64 g, .string s], .agg #[.int .i64 p', .int .i64 o', .int .i64 f', .int .i64 m']] w fun e w' => e = .returned (.int .i64 (scmp p o f m p' o' f' m')) ∧ Calm w w' := by
  have hx := heap_past (.cells #[.int .i64 p', .int .i64 o', .int .i64 f', .int .i64 m'] 62) (heap_new w (.cells #[.int .i64 p, .int .i64 o, .int .i64 f, .int .i64 m, .int .i64 g, .string s] 43))
  have hy := heap_new (w.alloc (.cells #[.int .i64 p, .int .i64 o, .int .i64 f, .int .i64 m, .int .i64 g, .string s] 43)) (.cells #[.int .i64 p', .int .i64 o', .int .i64 f', .int .i64 m'] 62)
  rw [World.size_alloc] at hy
  have hu := ((Calm.refl w).alloc (.cells #[.int .i64 p, .int .i64 o, .int .i64 f, .int .i64 m, .int .i64 g, .string s] 43)).alloc (.cells #[.int .i64 p', .int .i64 o', .int .i64 f', .int .i64 m'] 62)
  obtain ⟨x0, x1, x2, x3, x4, x5, hxs⟩ := row6 hx
  obtain ⟨y0, y1, y2, y3, hys⟩ := row4 hy
  go_enter Try.func127, Try.ntmps127
  go_upto_region 1 with fail
  refine wp_region_plan [.val (.agg #[.int .i64 p, .int .i64 o, .int .i64 f, .int .i64 m, .int .i64 g, .string s]), .val (.agg #[.int .i64 p, .int .i64 o, .int .i64 f, .int .i64 m]), .val (.agg #[.int .i64 p', .int .i64 o', .int .i64 f', .int .i64 m']), .val (.int .i64 (scmp p o f m p' o' f' m')), .val (.int .i64 (scmp p o f m p' o' f' m'))] (by kernel_rfl) (by kernel_rfl) (by kernel_rfl) ?_
  intro X
  iterate 5
    refine plan_val (by kernel_rfl) (fun u hu => ?_) ?_
    · obtain ⟨hc, hf, hz⟩ := hu.of_drew.facts
      go_simp
      all_goals first
        | ((go_at_call 28; exact spot_any _ _ _ _ _ _ _))
        | ((go_at_call 102; exact cmpSpot_any _ _ _ _ _ _ _ _ _))
    simp only [Act.put, List.setIfInBounds_toArray, List.set_cons_zero, List.set_cons_succ, Nat.reduceAdd]
  refine plan_end ?_
  intro w' hB
  have hk := hB.calm.of_drew
  clear hB
  go_wp2_with fail
  go_ret
  exact ⟨rfl, hu.call hk⟩
def posE (l:List El) (s:Sp):Nat:=l.countP fun e=>decide (sL e.sp s)
def posB (l:List El) (s:Sp):Bool:=match l[posE l s]? with | some e=>scmp e.p e.o e.f e.m s.p s.o s.f s.m == 0 | none=>false
theorem posE_part {l:List El} {s:Sp} {c:Nat} (hc:c≤l.length) (h1:∀ i (h:i<l.length),i<c→sL l[i].sp s) (h2:∀ i (h:i<l.length),c≤i→¬ sL l[i].sp s):posE l s=c:=by
 unfold posE
 rw [← List.take_append_drop c l,List.countP_append]
 have a:(l.take c).countP (fun e=>decide (sL e.sp s))=c:=by
  rw [List.countP_eq_length.2 fun e he=>by
   obtain ⟨i,hi,rfl⟩:=List.getElem_of_mem he
   rw [List.length_take] at hi
   rw [List.getElem_take]
   exact decide_eq_true (h1 i (by omega) (by omega)),List.length_take]
  omega
 have b:(l.drop c).countP (fun e=>decide (sL e.sp s))=0:=by
  rw [List.countP_eq_zero.2 fun e he=>by
   obtain ⟨i,hi,rfl⟩:=List.getElem_of_mem he
   rw [List.length_drop] at hi
   rw [List.getElem_drop]
   simpa using h2 (c+i) (by omega) (by omega)]
 omega
set_option maxHeartbeats 8000000 in
theorem bsearch_any (A : Option Addr) (c : Nat) (l : List El) (p o f m : Int) (w : World) (hn : l.length ≤ 400) (hL : Lies w A l) (hS : l.Pairwise Rise) :
    Calls Try.prog 126 #[.slice A l.length c, .agg #[.int .i64 p, .int .i64 o, .int .i64 f, .int .i64 m], .func (.func 127) #[] #[]] w fun e w' => e = .returned (.tuple #[.int .i64 (posE l ⟨p, o, f, m⟩ : Nat), .bool (posB l ⟨p, o, f, m⟩)]) ∧ Calm w w' := by
  have hx := heap_new w (.cells #[.int .i64 p, .int .i64 o, .int .i64 f, .int .i64 m] 62)
  have hu := (Calm.refl w).alloc (.cells #[.int .i64 p, .int .i64 o, .int .i64 f, .int .i64 m] 62)
  have M : Hid (∀ i j (hi : i < l.length) (hj : j < l.length), i ≤ j → sL l[j].sp ⟨p, o, f, m⟩ → sL l[i].sp ⟨p, o, f, m⟩) := show ∀ _ _ _ _, _ from fun i j hi hj hij h => by
    rcases Nat.lt_or_eq_of_le hij with h1 | h1
    · exact sLt_trans (rise_sp.1 (List.pairwise_iff_getElem.1 hS i j hi hj h1)) h
    · subst h1; exact h
  have HL := Lib.hid hL
  clear hL hS
  go_enter Try.func126, Try.ntmps126
  go_wp2_with fail
  go_loopg [9, 10] l.length (fun kx s9 s10 wr => ∃ lo hi : Nat, s9 = .int .i64 lo ∧ s10 = .int .i64 hi ∧ lo ≤ hi ∧ hi ≤ l.length ∧ hi - lo ≤ kx ∧ Calm (w.alloc (.cells #[.int .i64 p, .int .i64 o, .int .i64 f, .int .i64 m] 62)) wr ∧
    Hid ((∀ t (h : t < l.length), t < lo → sL l[t].sp ⟨p, o, f, m⟩) ∧ (∀ t (h : t < l.length), hi ≤ t → ¬ sL l[t].sp ⟨p, o, f, m⟩)))
  case atStart => exact ⟨0, l.length, rfl, rfl, Nat.zero_le _, Nat.le_refl _, by omega, Calm.refl _, show _ ∧ _ from ⟨fun t h ht => absurd ht (Nat.not_lt_zero _), fun t h1 h2 => by omega⟩⟩
  case round =>
    obtain ⟨lo, hi, rfl, rfl, hlh, hin, hg, hv, I⟩ := hrel
    have hxr := (hv.block (by simp)).trans hx
    obtain ⟨x0, x1, x2, x3, hxs⟩ := row4 hxr
    have HLr := Lib.hid (HL.out.calm (hu.call hv))
    by_cases hlt : lo < hi
    · obtain ⟨mid, hmd⟩ : ∃ mid, (lo + hi) / 2 = mid := ⟨_, rfl⟩
      have hmid : mid < l.length := by omega
      have hmi : ((lo : Int) + (hi : Int)) / 2 = (mid : Int) := by omega
      obtain ⟨b, q, p', o', f', m', g', s', hAb, hb, HE, hme, e0, e1, e2, e3, e4, e5⟩ := HLr.out.get hmid
      subst hAb
      obtain ⟨C, hC⟩ : ∃ C, scmp p' o' f' m' p o f m = C := ⟨_, rfl⟩
      have hCs : Hid (sL (l[mid]).sp ⟨p, o, f, m⟩ ↔ C < 0) := show _ ↔ _ by
        rw [(List.getElem?_eq_some_iff.1 HE.out).2, ← hC]; exact sL_scmp _ _
      have cC := fun u => pos1_any p' o' f' m' g' s' p o f m u
      rw [hC] at cC
      have HMD := Lib.hid hmd
      clear hC hmd
      by_cases hC0 : C < 0
      · have I2 : Hid ((∀ t (h : t < l.length), t < mid + 1 → sL l[t].sp ⟨p, o, f, m⟩) ∧ (∀ t (h : t < l.length), hi ≤ t → ¬ sL l[t].sp ⟨p, o, f, m⟩)) := show _ ∧ _ from
          ⟨fun t h ht => M.out t mid h hmid (by omega) (hCs.out.2 hC0), I.out.2⟩
        go_upto_region 5 with fail
        refine wp_region_plan [.val (.func (.func 127) #[] #[]), .val (.slice (some ⟨b, q, none⟩) l.length c), .val (.int .i64 ((mid : Int))), .val (.pointer (some ⟨b, q+mid*6, none⟩)), .val (.agg #[.int .i64 p', .int .i64 o', .int .i64 f', .int .i64 m', .int .i64 g', .string s']), .val (.agg #[.int .i64 p, .int .i64 o, .int .i64 f, .int .i64 m]), .val (.int .i64 (C)), .val (.bool true)] (by kernel_rfl) (by kernel_rfl) (by kernel_rfl) ?_
        intro X
        iterate 8
          refine plan_val (by kernel_rfl) (fun u hu => ?_) ?_
          · obtain ⟨hc, hf, hz⟩ := hu.of_drew.facts
            go_simp
            all_goals first
              | ((go_at_call 127; exact cC _))
          simp only [Act.put, List.setIfInBounds_toArray, List.set_cons_zero, List.set_cons_succ, Nat.reduceAdd]
        refine plan_end ?_
        intro w' hB
        have hk := hB.calm.of_drew
        clear hB
        go_wp2_with fail
        go_roundg (hi - (mid + 1))
        case measure => have := HMD.out; omega
        case rel => exact ⟨mid + 1, hi, by first | rfl | go_num | (congr 1; omega), rfl, by have := HMD.out; omega, hin, Nat.le_refl _, hv.call hk, I2⟩
      · have I2 : Hid ((∀ t (h : t < l.length), t < lo → sL l[t].sp ⟨p, o, f, m⟩) ∧ (∀ t (h : t < l.length), mid ≤ t → ¬ sL l[t].sp ⟨p, o, f, m⟩)) := show _ ∧ _ from
          ⟨I.out.1, fun t h ht h2 => hC0 (hCs.out.1 (M.out mid t hmid h ht h2))⟩
        go_upto_region 5 with fail
        refine wp_region_plan [.val (.func (.func 127) #[] #[]), .val (.slice (some ⟨b, q, none⟩) l.length c), .val (.int .i64 ((mid : Int))), .val (.pointer (some ⟨b, q+mid*6, none⟩)), .val (.agg #[.int .i64 p', .int .i64 o', .int .i64 f', .int .i64 m', .int .i64 g', .string s']), .val (.agg #[.int .i64 p, .int .i64 o, .int .i64 f, .int .i64 m]), .val (.int .i64 (C)), .val (.bool false)] (by kernel_rfl) (by kernel_rfl) (by kernel_rfl) ?_
        intro X
        iterate 8
          refine plan_val (by kernel_rfl) (fun u hu => ?_) ?_
          · obtain ⟨hc, hf, hz⟩ := hu.of_drew.facts
            go_simp
            all_goals first
              | ((go_at_call 127; exact cC _))
          simp only [Act.put, List.setIfInBounds_toArray, List.set_cons_zero, List.set_cons_succ, Nat.reduceAdd]
        refine plan_end ?_
        intro w' hB
        have hk := hB.calm.of_drew
        clear hB
        go_wp2_with fail
        go_roundg (mid - lo)
        case measure => have := HMD.out; omega
        case rel => exact ⟨lo, mid, rfl, by first | rfl | go_num | (congr 1; omega), by have := HMD.out; omega, by omega, Nat.le_refl _, hv.call hk, I2⟩
    · obtain rfl : hi = lo := by omega
      have K1 : Hid (posE l ⟨p, o, f, m⟩ = hi) := posE_part hin (fun i h hi' => I.out.1 i h hi') (fun i h hi' => I.out.2 i h hi')
      by_cases hle : hi < l.length
      · have hli : (hi : Int) < (l.length : Int) := by omega
        obtain ⟨b, q, p', o', f', m', g', s', hAb, hb, HE, hme, e0, e1, e2, e3, e4, e5⟩ := HLr.out.get hle
        subst hAb
        have cC := fun u => pos1_any p' o' f' m' g' s' p o f m u
        have hB : Hid (posB l ⟨p, o, f, m⟩ = (scmp p' o' f' m' p o f m == 0)) := show _ = _ by unfold posB; rw [K1.out, HE.out]
        generalize scmp p' o' f' m' p o f m = C at cC hB
        obtain ⟨r, hr⟩ : ∃ r, (C == 0) = r := ⟨_, rfl⟩
        have HB : Hid (posB l ⟨p, o, f, m⟩ = r) := show _ = _ from hB.out.trans hr
        go_upto_region 8 with fail
        refine wp_region_plan [.val (.int .i64 ((hi : Int))), .val (.int .i64 ((hi : Int))), .val (.int .i64 ((l.length : Int))), .val (.bool true), .val (.bool true), .val (.func (.func 127) #[] #[]), .val (.slice (some ⟨b, q, none⟩) l.length c), .val (.int .i64 ((hi : Int))), .val (.pointer (some ⟨b, q+hi*6, none⟩)), .val (.agg #[.int .i64 p', .int .i64 o', .int .i64 f', .int .i64 m', .int .i64 g', .string s']), .val (.agg #[.int .i64 p, .int .i64 o, .int .i64 f, .int .i64 m]), .val (.int .i64 (C)), .val (.bool r), .val (.bool r), .val (.int .i64 ((hi : Int))), .val (.bool r)] (by kernel_rfl) (by kernel_rfl) (by kernel_rfl) ?_
        intro X
        iterate 16
          refine plan_val (by kernel_rfl) (fun u hu => ?_) ?_
          · obtain ⟨hc, hf, hz⟩ := hu.of_drew.facts
            go_simp
            all_goals first
              | ((go_at_call 127; exact cC _))
          simp only [Act.put, List.setIfInBounds_toArray, List.set_cons_zero, List.set_cons_succ, Nat.reduceAdd]
        refine plan_end ?_
        intro w' hB
        have hk := hB.calm.of_drew
        clear hB
        go_wp2_with fail
        go_ret2
        exact ⟨by rw [K1.out, HB.out]; rfl, (hu.call hv).call hk⟩
      · have hli : ¬ (hi : Int) < (l.length : Int) := by omega
        go_upto_region 8 with fail
        refine wp_region_plan [.val (.int .i64 ((hi : Int))), .val (.int .i64 ((hi : Int))), .val (.int .i64 ((l.length : Int))), .val (.bool false), .val (.bool false), .idle, .idle, .idle, .idle, .idle, .idle, .idle, .idle, .val (.bool false), .val (.int .i64 ((hi : Int))), .val (.bool false)] (by kernel_rfl) (by kernel_rfl) (by kernel_rfl) ?_
        intro X
        iterate 5
          refine plan_val (by kernel_rfl) (fun u hu => ?_) ?_
          · obtain ⟨hc, hf, hz⟩ := hu.of_drew.facts
            go_simp
          simp only [Act.put, List.setIfInBounds_toArray, List.set_cons_zero, List.set_cons_succ, Nat.reduceAdd]
        iterate 8
          refine plan_idle (by kernel_rfl) ?_
          simp only [Act.put, List.setIfInBounds_toArray, List.set_cons_zero, List.set_cons_succ, Nat.reduceAdd]
        iterate 3
          refine plan_val (by kernel_rfl) (fun u hu => ?_) ?_
          · obtain ⟨hc, hf, hz⟩ := hu.of_drew.facts
            go_simp
          simp only [Act.put, List.setIfInBounds_toArray, List.set_cons_zero, List.set_cons_succ, Nat.reduceAdd]
        refine plan_end ?_
        intro w' hB
        have hk := hB.calm.of_drew
        clear hB
        go_wp2_with fail
        go_ret2
        have HB : posB l ⟨p, o, f, m⟩ = false := by unfold posB; rw [K1.out, List.getElem?_eq_none (by omega)]
        exact ⟨by rw [K1.out, HB]; rfl, (hu.call hv).call hk⟩
set_option maxHeartbeats 8000000 in
/-- Where a record belongs in the leaf. -/
theorem position_any (B g gN cN cW : Nat) (A : Option Addr) (root : Int) (us : List Nd) (W : List Int) (w : World) (h : InsOk B w g root (.slice (some ⟨gN, 0, none⟩) us.length cN) (.slice A W.length cW) us W) (x : Nat) (n : Nd) (hul : us.length ≤ 1000000) (hl : W.length ≤ 1000000) (h0 : 0 < W.length) (hj : W[W.length - 1]? = some (x : Int)) (hx : us[x]? = some n)
    (hn : n.E.length ≤ 400) (hS : n.E.Pairwise Rise) (p o f m : Int) :
    Calls Try.prog 96 #[.pointer (some ⟨g, 0, none⟩), .agg #[.int .i64 p, .int .i64 o, .int .i64 f, .int .i64 m]] w fun e w' => e = .returned (.int .i64 (posE n.E ⟨p, o, f, m⟩ : Nat)) ∧ Calm w w' := by
  have hxl := (List.getElem?_eq_some_iff.1 hx).1
  have hb := (h.t.at_ (by omega)).row (by omega)
  obtain ⟨b, q, hA, hbb, hk⟩ := hb
  injection hA with hA
  injection hA with u1 u2 _
  subst u1; subst u2
  have hc1 := hk x n hx 1 (by omega)
  have hnd := (h.t.nd x n hx)
  obtain ⟨kd, A1, A2, A3, A4, c1, c2, c3, c4, E, K, S, T⟩ := n
  have hc1' : w.cell? ⟨gN, 0 + x * 5 + 1, none⟩ = some (.slice A1 E.length c1) := hc1
  rw [Nat.zero_add] at hc1'
  have HE : Hid (Lies w A1 E) := (NdOwn.at_ hnd).e
  have hu := (Calm.refl w).alloc (.cells #[.int .i64 p, .int .i64 o, .int .i64 f, .int .i64 m] 62)
  have hy := heap_new w (.cells #[.int .i64 p, .int .i64 o, .int .i64 f, .int .i64 m] 62)
  have cL := fun u (hu : Calm w u) => leaf_any B g gN cN cW A root us W u (h.calm hu) x hl h0 hj hxl
  have cB := fun u (hu : Calm w u) => bsearch_any A1 c1 E p o f m u hn (HE.out.calm hu) hS
  simp only
  generalize posE E ⟨p, o, f, m⟩ = P at cB ⊢
  generalize posB E ⟨p, o, f, m⟩ = Q at cB
  clear h hj hx hk hc1 hnd hS
  have hc2 := (hu.facts.1 _ _ hbb).trans hc1'
  go_enter Try.func96, Try.ntmps96
  go_upto_region 1 with fail
  generalize w.alloc (.cells #[.int .i64 p, .int .i64 o, .int .i64 f, .int .i64 m] 62) = w1 at hu hy hc2 ⊢
  have hb1 : gN < w1.heap.size := Nat.lt_of_lt_of_le hbb hu.size
  have HU := Lib.hid hu
  clear hc1' hbb hu
  obtain ⟨y0, y1, y2, y3, hys⟩ := row4 hy
  refine wp_region_plan [.val (.pointer (some ⟨g, 0, none⟩)), .val (.pointer (some ⟨gN, x * 5, none⟩)), .val (.pointer (some ⟨gN, x * 5, none⟩)), .val (.pointer (some ⟨gN, x*5+1, none⟩)), .val (.slice A1 E.length c1), .val (.agg #[.int .i64 p, .int .i64 o, .int .i64 f, .int .i64 m]), .val (.tuple #[.int .i64 (P : Int), .bool Q]), .val (.tuple #[.int .i64 (P : Int), .bool Q]), .val (.int .i64 ((P : Int))), .val (.bool Q), .val (.int .i64 ((P : Int))), .val (.bool Q)] (by kernel_rfl) (by kernel_rfl) (by kernel_rfl) ?_
  intro X
  iterate 12
    refine plan_val (by kernel_rfl) (fun u hu => ?_) ?_
    · obtain ⟨hc, hf, hz⟩ := hu.of_drew.facts
      go_simp
      all_goals first
        | ((go_at_call 95; exact (cL _ (HU.out.call hu.of_drew))))
        | ((go_at_call 126; exact (cB _ (HU.out.call hu.of_drew))))
    simp only [Act.put, List.setIfInBounds_toArray, List.set_cons_zero, List.set_cons_succ, Nat.reduceAdd]
  refine plan_end ?_
  intro w' hB
  have hk := hB.calm.of_drew
  clear hB
  go_wp2_with fail
  go_ret
  exact ⟨rfl, HU.out.call hk⟩
def bareN (kd:Int) (E:List El) (K:List Int) (S:List Sp) (T:List Int):Nd:=⟨kd,none,none,none,none,0,0,0,0,E,K,S,T⟩
def Nd.bare (n:Nd):Nd:=bareN n.kd n.E n.K n.S n.T
def Nd.size (n:Nd):Nat:=n.E.length+n.K.length
def NdOk (n:Nd):Prop:=ndErr n.kd n.E n.K n.S n.T=0
def Used (M:List Nd) (x:Int):Prop:=∃ n,ndOf M x=some n∧n.kd≠0
def Shape (n:Nd):Prop :=
 n.kd=1∧n.K=[]∧n.S=[]∧n.T=[]∧(∀ e∈n.E,e.err=0)∧n.E.Pairwise Rise ∨
 n.kd=2∧n.E=[]∧n.S.length+1=n.K.length∧n.T.length=n.K.length∧(∀ x∈n.K,0≤x∧x≤399)∧(∀ y∈n.T,0≤y∧y≤2147483647)∧(∀ s∈n.S,s.el.err=0)∧n.S.Pairwise sL
theorem seps_map {S:List Sp}:(S.map Sp.el).Pairwise Rise↔S.Pairwise sL:=by rw [List.pairwise_map];rfl
theorem shape_of {n:Nd} (h:NdOk n) (h0:n.kd≠0):Shape n∧n.size≤8∧(n.kd=2→2≤n.size):=by
 unfold NdOk at h
 unfold Shape Nd.size
 rcases nd_kinds h with hk | hk | hk
 ·exact absurd hk h0
 ·rw [hk] at h
  obtain ⟨h1,h2,h3,h4,h5,h6⟩:=leaf_good h
  exact ⟨.inl ⟨hk,List.eq_nil_of_length_eq_zero h1,List.eq_nil_of_length_eq_zero h2,List.eq_nil_of_length_eq_zero h3,h5,h6⟩,by omega,fun h=>by omega⟩
 ·rw [hk] at h
  have h9:=h
  obtain ⟨h1,h2,h3,h4,h5,h6,h7,h8⟩:=inner_good h
  rw [nd_inner] at h9
  unfold innerErr at h9
  split at h9
  ·cases h9
  split at h9
  ·cases h9
  split at h9
  ·rename_i hh;exact absurd h9 hh
  rename_i hh
  have hk9:kidsErr n.K n.T=0:=by simpa using hh
  have hkk:=((kidsErr_zero h5).1 hk9).1
  exact ⟨.inr ⟨hk,List.eq_nil_of_length_eq_zero h1,h4,h5,hkk,h6,fun s hs=>h7 _ (List.mem_map.2 ⟨s,hs,rfl⟩),seps_map.1 h8⟩,by omega,fun _=>by omega⟩
theorem shape_ok {n:Nd} (h:Shape n) (h8:n.size≤8) (h2:n.kd=2→2≤n.size):NdOk n:=by
 unfold Nd.size at h8 h2
 unfold NdOk
 rcases h with ⟨hk,h1,h3,h4,h5,h6⟩ | ⟨hk,h1,h3,h4,h5,h6,h7,h9⟩
 ·rw [hk,nd_leaf]
  unfold leafErr
  rw [h1,h3,h4]
  rw [if_neg (by simp),if_neg (by omega)]
  exact elsErr_zero.2 ⟨h5,h6⟩
 ·have:=h2 hk
  rw [hk,nd_inner]
  unfold innerErr
  rw [h1] at h8 this ⊢
  simp only [List.length_nil,Nat.zero_add] at h8 this
  rw [if_neg (by unfold formI;simp;omega),if_neg (by omega),if_neg (by rw [(kidsErr_zero h4).2 ⟨h5,h6⟩];simp)]
  exact elsErr_zero.2 ⟨fun e he=>by obtain ⟨s,hs,rfl⟩:=List.mem_map.1 he;exact h7 s hs,seps_map.2 h9⟩
theorem Shape.used {n:Nd} (h:Shape n):n.kd≠0:=by rcases h with h | h <;> (have:=h.1;omega)
def insL {α:Type} (l:List α) (i:Nat) (a:α):List α:=l.take i++a::l.drop i
section
variable {α β:Type}
theorem insL_len {l:List α} {i:Nat} (a:α) (hi:i≤l.length):(insL l i a).length=l.length+1:=by
 unfold insL;rw [List.length_append,List.length_cons,List.length_take,List.length_drop];omega
theorem insL_lt {l:List α} {i j:Nat} (a:α) (hj:j<i) (hi:i≤l.length):(insL l i a)[j]?=l[j]?:=by
 unfold insL;rw [List.getElem?_append_left (by rw [List.length_take];omega),List.getElem?_take,if_pos hj]
theorem insL_eq {l:List α} {i:Nat} (a:α) (hi:i≤l.length):(insL l i a)[i]?=some a:=by
 unfold insL;rw [List.getElem?_append_right (by rw [List.length_take];omega),List.length_take,Nat.min_eq_left hi,Nat.sub_self];rfl
theorem insL_gt {l:List α} {i j:Nat} (a:α) (hj:i≤j) (hi:i≤l.length):(insL l i a)[j+1]?=l[j]?:=by
 unfold insL
 rw [List.getElem?_append_right (by rw [List.length_take];omega),List.length_take,Nat.min_eq_left hi,show j+1 - i=(j - i)+1 by omega,List.getElem?_cons_succ,List.getElem?_drop,show i+(j - i)=j by omega]
theorem mem_insL {l:List α} {i:Nat} {a b:α} (h:b∈insL l i a):b=a∨b∈l:=by
 unfold insL at h
 rcases List.mem_append.1 h with h | h
 ·exact .inr (List.mem_of_mem_take h)
 ·rcases List.mem_cons.1 h with h | h
  ·exact .inl h
  ·exact .inr (List.mem_of_mem_drop h)
theorem flat_congr {f g:α→List β}:∀ {K:List α},(∀ y∈K,f y=g y)→K.flatMap f=K.flatMap g
 | [],_=>rfl
 |y::K,h=>by
  rw [List.flatMap_cons,List.flatMap_cons,h y List.mem_cons_self,flat_congr fun z hz=>h z (List.mem_cons_of_mem _ hz)]
theorem split_at {K:List α} {i:Nat} {y:α} (h:K[i]?=some y):K=K.take i++y::K.drop (i+1):=by
 have hi:i<K.length:=(List.getElem?_eq_some_iff.1 h).1
 have h2:=(List.getElem?_eq_some_iff.1 h).2
 conv=>lhs;rw [← List.take_append_drop i K]
 rw [List.drop_eq_getElem_cons hi,h2]
theorem flat_part {f:α→List β} {K:List α} {i:Nat} {y:α} (h:K[i]?=some y):K.flatMap f=(K.take i).flatMap f++f y++(K.drop (i+1)).flatMap f:=by
 conv=>lhs;rw [split_at h]
 rw [List.flatMap_append,List.flatMap_cons,List.append_assoc]
theorem at_take {K:List α} {i j:Nat} {u:α} (h:(K.take i)[j]?=some u):j<i∧K[j]?=some u:=by
 rw [List.getElem?_take] at h
 split at h
 ·exact ⟨by assumption,h⟩
 ·cases h
theorem mem_at {K:List α} {u:α} (h:u∈K):∃ j:Nat,K[j]?=some u:=List.getElem?_of_mem h
theorem mem_of_at {K:List α} {j:Nat} {u:α} (h:K[j]?=some u):u∈K:=List.mem_of_getElem? h
end
theorem nd_set {M:List Nd} {x:Int} {n:Nd} (h:ndOf M x=some n) (m:Nd) (z:Int):ndOf (M.set x.toNat m) z=if z=x then some m else ndOf M z:=by
 obtain ⟨h0,h1,-⟩:=nd_of_in h
 unfold ndOf
 by_cases hz:0≤z
 ·rw [if_pos hz,if_pos hz,List.getElem?_set]
  by_cases he:z=x
  ·subst he;rw [if_pos rfl,if_pos rfl,if_pos (by omega)]
  ·rw [if_neg (by omega),if_neg he]
 ·rw [if_neg hz,if_neg hz,if_neg (by omega)]
theorem nd_set_other {M:List Nd} {x:Int} {n:Nd} (h:ndOf M x=some n) (m:Nd) {z:Int} (hz:z≠x):ndOf (M.set x.toNat m) z=ndOf M z:=by rw [nd_set h,if_neg hz]
theorem recs_eq {M:List Nd} {d:Nat} {x:Int} {n:Nd} (h:ndOf M x=some n):recsD M (d+1) x=n.E++n.K.flatMap (recsD M d):=by rw [recsD,h]
theorem nodes_eq {M:List Nd} {d:Nat} {x:Int} {n:Nd} (h:ndOf M x=some n):nodesD M (d+1) x=x::n.K.flatMap (nodesD M d):=by rw [nodesD,h]
theorem seps_eq {M:List Nd} {d:Nat} {x:Int} {n:Nd} (h:ndOf M x=some n):sepsD M (d+1) x=n.S++n.K.flatMap (sepsD M d):=by rw [sepsD,h]
def KidP (M:List Nd) (d:Nat) (S:List Sp) (T:List Int) (j:Nat) (y:Int):Prop:=T[j]?=some (lateOf (recsD M d y))∧∀ s∈spotsD M d y,betw S j s
def Ok (M:List Nd):Nat→Int→Prop
 | 0,_=>False
 |d+1,x=>∃ n,ndOf M x=some n∧NdOk n∧4≤n.size∧(n.kd=1∧d=0∨n.kd=2∧∀ (j:Nat) (y:Int),n.K[j]?=some y→Ok M d y∧KidP M d n.S n.T j y)
structure Wide (M:List Nd) (d:Nat) (x:Int) (n:Nd):Prop where
 nd:ndOf M x=some n
 sh:Shape n
 kids:n.kd=1∧d=0∨n.kd=2∧∀ (j:Nat) (y:Int),n.K[j]?=some y→Ok M d y∧KidP M d n.S n.T j y
theorem Ok.wide {M:List Nd} {d:Nat} {x:Int} (h:Ok M (d+1) x):∃ n,Wide M d x n∧NdOk n∧4≤n.size:=by
 obtain ⟨n,h1,h2,h3,h4⟩:=h
 have h0:n.kd≠0:=by rcases h4 with h | h <;> (have:=h.1;omega)
 exact ⟨n,⟨h1,(shape_of h2 h0).1,h4⟩,h2,h3⟩
theorem Wide.ok {M:List Nd} {d:Nat} {x:Int} {n:Nd} (h:Wide M d x n) (h4:4≤n.size) (h8:n.size≤8):Ok M (d+1) x :=
 ⟨n,h.nd,shape_ok h.sh h8 fun _=>by omega,h4,h.kids⟩
theorem Wide.leaf {M:List Nd} {d:Nat} {x:Int} {n:Nd} (h:Wide M d x n) (hk:n.kd=1):d=0∧n.K=[]∧n.S=[]∧n.T=[]∧(∀ e∈n.E,e.err=0)∧n.E.Pairwise Rise:=by
 rcases h.sh with h1 | h1
 ·rcases h.kids with h2 | h2
  ·exact ⟨h2.2,h1.2⟩
  ·have:=h2.1;omega
 ·have:=h1.1;omega
theorem Wide.inner {M:List Nd} {d:Nat} {x:Int} {n:Nd} (h:Wide M d x n) (hk:n.kd=2):(n.E=[]∧n.S.length+1=n.K.length∧n.T.length=n.K.length∧(∀ x∈n.K,0≤x∧x≤399)∧(∀ y∈n.T,0≤y∧y≤2147483647)∧(∀ s∈n.S,s.el.err=0)∧n.S.Pairwise sL)∧∀ (j:Nat) (y:Int),n.K[j]?=some y→Ok M d y∧KidP M d n.S n.T j y:=by
 rcases h.sh with h1 | h1
 ·have:=h1.1;omega
 ·rcases h.kids with h2 | h2
  ·have:=h2.1;omega
  ·exact ⟨h1.2,h2.2⟩
theorem Wide.kd {M:List Nd} {d:Nat} {x:Int} {n:Nd} (h:Wide M d x n):n.kd=1∨n.kd=2:=by
 rcases h.sh with h1 | h1
 ·exact .inl h1.1
 ·exact .inr h1.1
theorem Wide.used {M:List Nd} {d:Nat} {x:Int} {n:Nd} (h:Wide M d x n):Used M x:=⟨n,h.nd,h.sh.used⟩
theorem Ok.frame {M M':List Nd}:∀ {d:Nat} {x:Int},Ok M d x→(∀ z∈nodesD M d x,ndOf M' z=ndOf M z)→Ok M' d x∧recsD M' d x=recsD M d x∧sepsD M' d x=sepsD M d x∧nodesD M' d x=nodesD M d x
 | 0,_,h,_=>absurd h id
 |d+1,x,⟨n,hn,h1,h2,h3⟩,hz=>by
  have hx:ndOf M' x=some n:=(hz x (by rw [nodes_eq hn];exact List.mem_cons_self)).trans hn
  have hkid:∀ y∈n.K,Ok M' d y∧recsD M' d y=recsD M d y∧sepsD M' d y=sepsD M d y∧nodesD M' d y=nodesD M d y:=fun y hy=>by
   rcases h3 with ⟨hk,-⟩ | ⟨hk,h3⟩
   ·rcases (shape_of h1 (by omega)).1 with g | g
    ·rw [g.2.1] at hy;exact absurd hy List.not_mem_nil
    ·have:=g.1;omega
   ·obtain ⟨j,hj⟩:=mem_at hy
    exact Ok.frame (h3 j y hj).1 fun z hz'=>hz z (by rw [nodes_eq hn];exact List.mem_cons_of_mem _ (List.mem_flatMap.2 ⟨y,hy,hz'⟩))
  rw [recs_eq hn,recs_eq hx,seps_eq hn,seps_eq hx,nodes_eq hn,nodes_eq hx,flat_congr fun y hy=>(hkid y hy).2.1,flat_congr fun y hy=>(hkid y hy).2.2.1,flat_congr fun y hy=>(hkid y hy).2.2.2]
  refine ⟨⟨n,hx,h1,h2,h3.imp id fun ⟨g1,g2⟩=>⟨g1,fun j y hj=>?_⟩⟩,rfl,rfl,rfl⟩
  obtain ⟨k1,k2,k3,-⟩:=hkid y (mem_of_at hj)
  refine ⟨k1,?_,?_⟩
  ·rw [k2];exact (g2 j y hj).2.1
  ·unfold spotsD
   rw [k2,k3];exact (g2 j y hj).2.2
theorem KidP.frame {M M':List Nd} {d:Nat} {S:List Sp} {T:List Int} {j:Nat} {y:Int} (h:KidP M d S T j y) (h1:recsD M' d y=recsD M d y) (h2:sepsD M' d y=sepsD M d y):KidP M' d S T j y:=by
 refine ⟨by rw [h1];exact h.1,?_⟩
 unfold spotsD
 rw [h1,h2];exact h.2
theorem spots_frame {M M':List Nd} {d:Nat} {y:Int} (h1:recsD M' d y=recsD M d y) (h2:sepsD M' d y=sepsD M d y):spotsD M' d y=spotsD M d y:=by unfold spotsD;rw [h1,h2]
theorem Wide.frame {M M':List Nd} {d:Nat} {x:Int} {n:Nd} (h:Wide M d x n) (hz:∀ z∈nodesD M (d+1) x,ndOf M' z=ndOf M z):Wide M' d x n∧recsD M' (d+1) x=recsD M (d+1) x∧sepsD M' (d+1) x=sepsD M (d+1) x∧nodesD M' (d+1) x=nodesD M (d+1) x:=by
 have hn:=h.nd
 have hx:ndOf M' x=some n:=(hz x (by rw [nodes_eq hn];exact List.mem_cons_self)).trans hn
 have hkid:∀ y∈n.K,Ok M' d y∧recsD M' d y=recsD M d y∧sepsD M' d y=sepsD M d y∧nodesD M' d y=nodesD M d y:=fun y hy=>by
  rcases h.kd with hk | hk
  ·rw [(h.leaf hk).2.1] at hy;exact absurd hy List.not_mem_nil
  ·obtain ⟨j,hj⟩:=mem_at hy
   exact Ok.frame ((h.inner hk).2 j y hj).1 fun z hz'=>hz z (by rw [nodes_eq hn];exact List.mem_cons_of_mem _ (List.mem_flatMap.2 ⟨y,hy,hz'⟩))
 rw [recs_eq hn,recs_eq hx,seps_eq hn,seps_eq hx,nodes_eq hn,nodes_eq hx,flat_congr fun y hy=>(hkid y hy).2.1,flat_congr fun y hy=>(hkid y hy).2.2.1,flat_congr fun y hy=>(hkid y hy).2.2.2]
 refine ⟨⟨hx,h.sh,h.kids.imp id fun ⟨g1,g2⟩=>⟨g1,fun j y hj=>?_⟩⟩,rfl,rfl,rfl⟩
 obtain ⟨k1,k2,k3,-⟩:=hkid y (mem_of_at hj)
 exact ⟨k1,(g2 j y hj).2.frame k2 k3⟩
theorem Ok.used {M:List Nd}:∀ {d:Nat} {x:Int},Ok M d x→∀ z∈nodesD M d x,Used M z
 | 0,_,h,_,_=>absurd h id
 |d+1,x,h,z,hz=>by
  obtain ⟨n,hw,-,-⟩:=h.wide
  rw [nodes_eq hw.nd] at hz
  rcases List.mem_cons.1 hz with rfl | hz
  ·exact hw.used
  ·obtain ⟨y,hy,hz⟩:=List.mem_flatMap.1 hz
   rcases hw.kd with hk | hk
   ·rw [(hw.leaf hk).2.1] at hy;exact absurd hy List.not_mem_nil
   ·obtain ⟨j,hj⟩:=mem_at hy
    exact Ok.used ((hw.inner hk).2 j y hj).1 z hz
theorem Ok.errs {M:List Nd}:∀ {d:Nat} {x:Int},Ok M d x→∀ e∈recsD M d x,e.err=0
 | 0,_,h,_,_=>absurd h id
 |d+1,x,h,e,he=>by
  obtain ⟨n,hw,-,-⟩:=h.wide
  rw [recs_eq hw.nd] at he
  rcases hw.kd with hk | hk
  ·have hl:=hw.leaf hk
   rw [hl.2.1] at he
   exact hl.2.2.2.2.1 e (by simpa using he)
  ·rw [(hw.inner hk).1.1] at he
   obtain ⟨y,hy,he⟩:=List.mem_flatMap.1 (by simpa using he)
   obtain ⟨j,hj⟩:=mem_at hy
   exact Ok.errs ((hw.inner hk).2 j y hj).1 e he
theorem Wide.errs {M:List Nd} {d:Nat} {x:Int} {n:Nd} (h:Wide M d x n):∀ e∈recsD M (d+1) x,e.err=0:=fun e he=>by
 rw [recs_eq h.nd] at he
 rcases h.kd with hk | hk
 ·have hl:=h.leaf hk
  rw [hl.2.1] at he
  exact hl.2.2.2.2.1 e (by simpa using he)
 ·rw [(h.inner hk).1.1] at he
  obtain ⟨y,hy,he⟩:=List.mem_flatMap.1 (by simpa using he)
  obtain ⟨j,hj⟩:=mem_at hy
  exact ((h.inner hk).2 j y hj).1.errs e he
theorem Wide.usedN {M:List Nd} {d:Nat} {x:Int} {n:Nd} (h:Wide M d x n):∀ z∈nodesD M (d+1) x,Used M z:=fun z hz=>by
 rw [nodes_eq h.nd] at hz
 rcases List.mem_cons.1 hz with rfl | hz
 ·exact h.used
 ·obtain ⟨y,hy,hz⟩:=List.mem_flatMap.1 hz
  rcases h.kd with hk | hk
  ·rw [(h.leaf hk).2.1] at hy;exact absurd hy List.not_mem_nil
  ·obtain ⟨j,hj⟩:=mem_at hy
   exact ((h.inner hk).2 j y hj).1.used z hz
theorem flat_count {f:Int→List El} {g:Int→List Int}:∀ {K:List Int},(∀ y∈K,3 * (g y).length+1≤(f y).length)→3 * (K.flatMap g).length+K.length≤(K.flatMap f).length
 | [],_=>by simp
 |y::K,h=>by
  have h1:=h y List.mem_cons_self
  have h2:=flat_count (K:=K) fun z hz=>h z (List.mem_cons_of_mem _ hz)
  rw [List.flatMap_cons,List.flatMap_cons,List.length_append,List.length_append,List.length_cons]
  omega
/-- Three nodes at most for each record less one. -/
theorem Ok.count {M:List Nd}:∀ {d:Nat} {x:Int},Ok M d x→3 * (nodesD M d x).length+1≤(recsD M d x).length
 | 0,_,h=>absurd h id
 |d+1,x,h=>by
  obtain ⟨n,hw,-,h4⟩:=h.wide
  unfold Nd.size at h4
  rw [nodes_eq hw.nd,recs_eq hw.nd]
  rcases hw.kd with hk | hk
  ·have hl:=hw.leaf hk
   rw [hl.2.1,List.length_nil] at h4
   rw [hl.2.1,List.flatMap_nil,List.flatMap_nil,List.append_nil,List.length_singleton]
   omega
  ·have hi:=(hw.inner hk)
   rw [hi.1.1] at h4 ⊢
   have:=flat_count (f:=recsD M d) (g:=nodesD M d) (K:=n.K) fun y hy=>by
    obtain ⟨j,hj⟩:=mem_at hy
    exact Ok.count (hi.2 j y hj).1
   rw [List.length_nil,Nat.zero_add] at h4
   rw [List.nil_append,List.length_cons]
   omega
theorem Ok.has {M:List Nd} {d:Nat} {x:Int} (h:Ok M d x):∃ e,e∈recsD M d x:=by
 have:=h.count
 exact List.exists_mem_of_length_pos (by omega)
theorem last_bounds {e:El} (h:e.err=0):1≤e.last∧e.last≤2147483647:=by
 unfold El.err elemErr at h
 split at h
 ·split at h
  ·rename_i h1
   unfold timeOk at h1
   unfold El.last lastOf
   split <;> omega
  ·cases h
 ·rename_i h1;exact absurd h h1
theorem late_bounds {R:List El} (h:∀ e∈R,e.err=0):0≤lateOf R∧lateOf R≤2147483647:=by
 unfold lateOf
 have h1:=(gMax_ge (R.map El.last) 0).1
 refine ⟨h1,?_⟩
 rcases gMax_or (R.map El.last) 0 with h2 | h2
 ·omega
 ·obtain ⟨e,he,h3⟩:=List.mem_map.1 h2
  rw [← h3];exact (last_bounds (h e he)).2
/-- The greatest time of such a node is the greatest beneath it. -/
theorem Wide.tid {M:List Nd} {d:Nat} {x:Int} {n:Nd} (h:Wide M d x n):ndTid n.E n.T=lateOf (recsD M (d+1) x):=by
 rw [recs_eq h.nd]
 unfold ndTid
 rcases h.kd with hk | hk
 ·have hl:=h.leaf hk
  rw [hl.2.1,hl.2.2.2.1]
  simp [lateOf]
 ·have hi:=h.inner hk
  rw [hi.1.1]
  simp only [List.map_nil,List.nil_append]
  rw [late_flat]
  congr 1
  exact list_eq_map hi.1.2.2.1 fun j y hy=>(hi.2 j y hy).2.1
/-- A spot is right if the record or the separator is. -/
theorem sp_err {e:El} (h:e.err=0):e.sp.el.err=0:=by
 unfold El.err elemErr at h
 split at h
 ·rename_i hk
  split at h
  ·rename_i h1
   unfold timeOk at h1
   unfold El.err elemErr El.sp Sp.el
   rw [if_pos hk,if_pos ⟨h1.1,h1.2.1,.inl rfl⟩,if_pos (by show ((0:Nat):Int)≤40;omega)]
  ·cases h
 ·rename_i h1;exact absurd h h1
theorem Ok.spots {M:List Nd}:∀ {d:Nat} {x:Int},Ok M d x→∀ s∈spotsD M d x,s.el.err=0
 | 0,_,h,_,_=>absurd h id
 |d+1,x,h,s,hs=>by
  obtain ⟨n,hw,-,-⟩:=h.wide
  rcases (mem_spots hw.nd).1 hs with hs | ⟨e,he,rfl⟩ | ⟨y,hy,hs⟩
  ·rcases hw.kd with hk | hk
   ·rw [(hw.leaf hk).2.2.1] at hs;exact absurd hs List.not_mem_nil
   ·exact (hw.inner hk).1.2.2.2.2.2.1 s hs
  ·rcases hw.kd with hk | hk
   ·exact sp_err ((hw.leaf hk).2.2.2.2.1 e he)
   ·rw [(hw.inner hk).1.1] at he;exact absurd he List.not_mem_nil
  ·rcases hw.kd with hk | hk
   ·rw [(hw.leaf hk).2.1] at hy;exact absurd hy List.not_mem_nil
   ·obtain ⟨j,hj⟩:=mem_at hy
    exact Ok.spots ((hw.inner hk).2 j y hj).1 s hs
open Go.RowKit
theorem spl_at {cur cs:List Value} {o:Nat} (h:o+cs.length≤cur.length) (j:Nat):(spl cur o cs)[j]?=if j<o then cur[j]? else if j<o+cs.length then cs[j - o]? else cur[j]?:=by
 unfold spl
 rw [List.append_assoc,List.getElem?_append,List.length_take,Nat.min_eq_left (by omega)]
 split
 ·rw [List.getElem?_take,if_pos (by assumption)]
 ·rw [List.getElem?_append]
  split
  ·rw [if_pos (by omega)]
  ·rw [if_neg (by omega),List.getElem?_drop];congr 1;omega
def insC (xs:List Value) (p:Nat) (nc:List Value):List Value:=xs.take p++nc++xs.drop p
theorem insC_len {xs nc:List Value} {p:Nat} (hp:p≤xs.length):(insC xs p nc).length=xs.length+nc.length:=by
 unfold insC;rw [List.length_append,List.length_append,List.length_take,List.length_drop];omega
theorem insC_at {xs nc:List Value} {p:Nat} (hp:p≤xs.length) (j:Nat):(insC xs p nc)[j]?=if j<p then xs[j]? else if j<p+nc.length then nc[j - p]? else xs[j - nc.length]?:=by
 unfold insC
 rw [List.append_assoc,List.getElem?_append,List.length_take,Nat.min_eq_left hp]
 split
 ·rw [List.getElem?_take,if_pos (by assumption)]
 ·rw [List.getElem?_append]
  split
  ·rw [if_pos (by omega)]
  ·rw [if_neg (by omega),List.getElem?_drop];congr 1;omega
theorem shift_row {cur xs nc : List Value} {p q N : Nat} (hx : xs.length = q) (hc : cur.take q = xs) (hp : p ≤ q) (hn : nc.length = N) (hs : q + N ≤ cur.length) :
    (spl (spl cur (p + N) (xs.drop p)) p nc).take (q + N) = insC xs p nc ∧ (spl (spl cur (p + N) (xs.drop p)) p nc).length = cur.length := by
  have hd : (xs.drop p).length = q - p := by rw [List.length_drop, hx]
  have h1 : (spl cur (p + N) (xs.drop p)).length = cur.length := spl_len (by omega)
  refine ⟨?_, by rw [spl_len (by omega), h1]⟩
  apply List.ext_getElem?
  intro j
  have hcj : ∀ k, k < q → cur[k]? = xs[k]? := fun k hk => by rw [← hc, List.getElem?_take, if_pos hk]
  rw [List.getElem?_take, insC_at (by omega), spl_at (by omega), spl_at (by omega)]
  by_cases hj : j < q + N
  · rw [if_pos hj]
    by_cases h1 : j < p
    · rw [if_pos h1, if_pos h1, if_pos (by omega)]; exact hcj j (by omega)
    · rw [if_neg h1, if_neg h1]
      by_cases h2 : j < p + nc.length
      · rw [if_pos h2, if_pos h2]
      · rw [if_neg h2, if_neg h2, if_neg (by omega), if_pos (by omega), List.getElem?_drop]; congr 1; omega
  · rw [if_neg hj, if_neg (by omega), if_neg (by omega), List.getElem?_eq_none (by omega)]
theorem fresh_row {cur xs nc : List Value} {p q N : Nat} (hx : xs.length = q) (hc : cur.take p = xs.take p) (hp : p ≤ q) (hn : nc.length = N) (hs : q + N ≤ cur.length) :
    (spl (spl cur p nc) (p + N) (xs.drop p)).take (q + N) = insC xs p nc ∧ (spl (spl cur p nc) (p + N) (xs.drop p)).length = cur.length := by
  have hd : (xs.drop p).length = q - p := by rw [List.length_drop, hx]
  have h1 : (spl cur p nc).length = cur.length := spl_len (by omega)
  refine ⟨?_, by rw [spl_len (by omega), h1]⟩
  apply List.ext_getElem?
  intro j
  have hcj : ∀ k, k < p → cur[k]? = xs[k]? := fun k hk => by
    have := congrArg (·[k]?) hc
    simp only [List.getElem?_take, if_pos hk] at this
    exact this
  rw [List.getElem?_take, insC_at (by omega), spl_at (by omega), spl_at (by omega)]
  by_cases hj : j < q + N
  · rw [if_pos hj]
    by_cases h1 : j < p
    · rw [if_pos (by omega), if_pos h1, if_pos h1]; exact hcj j (by omega)
    · rw [if_neg h1, if_neg h1]
      by_cases h2 : j < p + nc.length
      · rw [if_pos h2, if_pos (by omega), if_pos h2]
      · have a1 : ¬ j < p + N := by omega
        have a2 : j < p + N + (xs.drop p).length := by omega
        simp only [if_neg a1, if_pos a2, if_neg h2]
        rw [List.getElem?_drop]; congr 1; omega
  · rw [if_neg hj, if_neg (by omega), if_neg (by omega), List.getElem?_eq_none (by omega)]
def RowEnd (base:Nat) (T:TypeId) (N:Nat) (w:World) (v:Value) (n:Nat) (xs:List Value) (e:Ending) (w':World):Prop :=
 ∃ v',e=.returned v'∧w'.ownsRow base T N v' n xs∧w.grownBy w' v.ownBlock∧(v'.ownBlock=v.ownBlock∨∃ k,v'.ownBlock=some k∧w.heap.size≤k)
theorem iv_insC (l:List Int) (i:Nat) (x:Int):insC (iv l) i [.int .i64 x]=iv (insL l i x):=by
 unfold insC insL iv
 rw [List.map_append,List.map_cons,List.map_take,List.map_drop];simp
theorem sv_app (a b:List Sp):sv (a++b)=sv a++sv b:=by unfold sv;simp
theorem sv_take {l:List Sp} {i:Nat} (hi:i≤l.length):(sv l).take (i * 4)=sv (l.take i):=by
 have h:=sv_app (l.take i) (l.drop i)
 rw [List.take_append_drop] at h
 rw [h]
 exact List.take_left' (by rw [sv_length,List.length_take];congr 1;omega)
theorem sv_drop {l:List Sp} {i:Nat} (hi:i≤l.length):(sv l).drop (i * 4)=sv (l.drop i):=by
 have h:=sv_app (l.take i) (l.drop i)
 rw [List.take_append_drop] at h
 rw [h]
 exact List.drop_left' (by rw [sv_length,List.length_take];congr 1;omega)
theorem sv_insC (l:List Sp) (i:Nat) (s:Sp) (hi:i≤l.length):insC (sv l) (i * 4) (spCells s)=sv (insL l i s):=by
 unfold insC insL
 rw [sv_take hi,sv_drop hi,sv_app,List.append_assoc];rfl
end Go.Proofs.Ytbkafjffofaonaa
