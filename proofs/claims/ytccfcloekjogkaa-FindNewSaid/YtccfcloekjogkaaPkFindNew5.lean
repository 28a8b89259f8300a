/- Texts of one kind in one file. -/
import Derived.Lib.Hide
import Derived.Test.YtccfcloekjogkaaPkFindNew4
set_option maxRecDepth 100000
namespace Go.Proofs.Ytccfcloekjogkaa
open Go.RowKit
def sinceR (t : Int) (L M : List El) : List El := L ++ M.filter fun e => decide (t < e.last)
theorem sinceR_append (t : Int) (L M1 M2 : List El) : sinceR t L (M1 ++ M2) = sinceR t (sinceR t L M1) M2 := by simp [sinceR]
theorem sinceR_nil (t : Int) (L : List El) : sinceR t L [] = L := by simp [sinceR]
theorem sinceR_len (t : Int) (L M : List El) : (sinceR t L M).length ≤ L.length + M.length := by
 unfold sinceR
 rw [List.length_append]
 have := List.length_filter_le (fun e : El => decide (t < e.last)) M
 omega
theorem sinceR_skip {t : Int} {L M : List El} (h : lateOf M ≤ t) : sinceR t L M = L := by
 unfold sinceR
 rw [List.filter_eq_nil_iff.2 fun e he => by
  have := (gMax_ge (M.map El.last) 0).2 e.last (List.mem_map.2 ⟨e, he, rfl⟩)
  unfold lateOf at h
  simp; omega]
 simp
theorem sinceR_take {t : Int} {L E : List El} {k : Nat} {e : El} (h : E[k]? = some e) : sinceR t L (E.take (k + 1)) = if t < e.last then sinceR t L (E.take k) ++ [e] else sinceR t L (E.take k) := by
 rw [← takeSnoc' h, sinceR_append]
 by_cases h2 : t < e.last
 ·rw [if_pos h2]; simp [sinceR, h2]
 ·rw [if_neg h2]; simp [sinceR, h2]
def visD (l : List Nd) (t : Int) : Nat → Int → Nat
 | 0, _ => 0
 |d + 1, x => match ndOf l x with | none => 0 | some n => 1 + (n.K.map fun y => if t < tidOf l y then visD l t d y else 0).sum
theorem visD_le (l : List Nd) (t : Int) : ∀ (d : Nat) (x : Int), visD l t d x ≤ (nodesD l d x).length
 | 0, _ => by simp [visD, nodesD]
 |d + 1, x => by
  rw [visD, nodesD]
  cases ndOf l x with
  |none => simp
  |some n =>
   simp only [List.length_cons]
   have key : ∀ K : List Int, (K.map fun y => if t < tidOf l y then visD l t d y else 0).sum ≤ (K.flatMap (nodesD l d)).length := by
    intro K
    induction K with
    |nil => simp
    |cons y K ih =>
     simp only [List.map_cons, List.sum_cons, List.flatMap_cons, List.length_append]
     have := visD_le l t d y
     split <;> omega
   have := key n.K
   omega
theorem visK_le (l : List Nd) (t : Int) (d : Nat) : ∀ K : List Int, (K.map fun y => if t < tidOf l y then visD l t d y else 0).sum ≤ (K.flatMap (nodesD l d)).length
 | [] => by simp
 |y :: K => by
  simp only [List.map_cons, List.sum_cons, List.flatMap_cons, List.length_append]
  have := visD_le l t d y
  have := visK_le l t d K
  split <;> omega
def visK (l : List Nd) (t : Int) (d : Nat) (K : List Int) (j : Nat) : Nat := 1 + ((K.take j).map fun y => if t < tidOf l y then visD l t d y else 0).sum
theorem visK_step {l : List Nd} {t : Int} {d : Nat} {K : List Int} {j : Nat} {y : Int} (h : K[j]? = some y) : visK l t d K (j + 1) = visK l t d K j + (if t < tidOf l y then visD l t d y else 0) := by
 unfold visK
 rw [← takeSnoc' h, List.map_append, List.sum_append]
 simp; omega
theorem visK_max (l : List Nd) (t : Int) (d : Nat) (K : List Int) (j : Nat) : visK l t d K j ≤ 1 + (K.flatMap (nodesD l d)).length := by
 unfold visK
 have a := visK_le l t d (K.take j)
 have b := flat_le (nodesD l d) K j
 omega
def SinceEnd (B : Nat) (w : World) (v : Value) (L : List El) (n : Nat) (e : Ending) (w' : World) : Prop := ∃ v', e = .returned (.tuple #[v', .int .i64 (n : Int)]) ∧ OwnR B w' v' L ∧ Grw w w' v v'
def SinceOk (root : Int) (A : Option Addr) (c : Nat) (l : List Nd) (w0 : World) (t : Int) (d : Nat) : Prop := ∀ (x : Int) (_ : Deep l d x) (v : Value) (L : List El) (w : World)
    (_ : Calm w0 w) (_ : OwnR w0.heap.size w v L) (_ : L.length + (recsD l d x).length ≤ 1000000) (_ : (nodesD l d x).length ≤ 400),
    Calls Try.prog 61 #[v, .agg #[.int .i64 root, .slice A l.length c], .int .i64 x, .int .i64 t] w (SinceEnd w0.heap.size w v (sinceR t L (recsD l d x)) (visD l t d x))
set_option maxHeartbeats 16000000 in
theorem appendSince_step (root : Int) (A : Option Addr) (c : Nat) (l : List Nd) (hok : NdsOk l) (hT : TimeP l) (w0 : World) (h0 : TrAt w0 A l) (t : Int) (d : Nat) (ih : Hid (SinceOk root A c l w0 t d)) : SinceOk root A c l w0 t (d + 1) := by
    intro x hD v L w hc ho hlen hnod
    obtain ⟨n, hn, hcase⟩ := id hD
    obtain ⟨i1, i2, i3⟩ := nd_of_in hn
    obtain ⟨XX, rfl⟩ : ∃ XX : Nat, x = (XX : Int) := ⟨x.toNat, by omega⟩
    rw [Int.toNat_natCast] at i3
    have hXl : XX < l.length := by omega
    have hFN : sinceR t L (recsD l (d + 1) (XX : Int)) = sinceR t (sinceR t L n.E) (n.K.flatMap (recsD l d)) := by rw [recsD, hn]; simp only; rw [sinceR_append]
    have hVN : visD l t (d + 1) (XX : Int) = 1 + (n.K.map fun y => if t < tidOf l y then visD l t d y else 0).sum := by rw [visD, hn]
    have hsz := nd_sizes (hok n (List.mem_of_getElem? i3))
    have hlR : L.length + (n.E.length + (n.K.flatMap (recsD l d)).length) ≤ 1000000 := by rw [recsD, hn] at hlen; simpa using hlen
    have hnR : (n.K.flatMap (nodesD l d)).length ≤ 400 := by rw [nodesD, hn] at hnod; simp at hnod; simp; omega
    have hkid : ∀ (j : Nat) (y : Int), n.K[j]? = some y → Deep l d y ∧ n.T[j]? = some (tidOf l y) := fun j y hy =>
      ⟨by rcases hcase with ⟨h1, -⟩ | ⟨-, h3⟩
          · have := hsz.2.2.2.2.2 h1; rw [this] at hy; simp at hy
          · exact h3 y (List.mem_of_getElem? hy), hT XX n i3 j y hy⟩
    obtain ⟨b, q, kd, A1, A2, A3, A4, c1, c2, c3, c4, E, K, S, T, hA, hbb, HN, HA, n0, n1, n2, n3, n4⟩ := h0.get hXl
    cases hA
    have hnd : n = ⟨kd, A1, A2, A3, A4, c1, c2, c3, c4, E, K, S, T⟩ := by
      have := HN.out
      rw [i3] at this
      exact Option.some.inj this
    subst hnd
    simp only at hFN hVN hsz hlR hnR hkid
    have HFN := Lib.hid hFN
    have HVN := Lib.hid hVN
    have HSZ := Lib.hid hsz
    have HLR := Lib.hid hlR
    have HNR := Lib.hid hnR
    have HKID := Lib.hid hkid
    have hxl : (XX : Int) < (l.length : Int) := by omega
    clear hFN hVN hsz hlR hnR hkid hcase hlen hnod hD hn
    have hx := heap_new w (.cells #[.int .i64 root, .slice (some ⟨b, q, none⟩) l.length c] 25)
    have hu := (Calm.refl w).alloc (.cells #[.int .i64 root, .slice (some ⟨b, q, none⟩) l.length c] 25)
    have hs1 : (w.alloc (.cells #[.int .i64 root, .slice (some ⟨b, q, none⟩) l.length c] 25)).heap.size = w.heap.size + 1 := by simp
    have hvlt : Hid (∀ k, v.ownBlock = some k → w0.heap.size ≤ k ∧ k < w.heap.size) := show ∀ _, _ from fun k hk => ho.lt k hk
    have hvb : Hid (∀ k, v.ownBlock = some k → w0.heap.size ≤ k) := show ∀ _, _ from fun k hk => (ho.lt k hk).1
    go_enter Try.func61, Try.ntmps61
    go_upto_region 1 with fail
    have hO1 := Lib.hid (ho.calm hu)
    generalize w.alloc (.cells #[.int .i64 root, .slice (some ⟨b, q, none⟩) l.length c] 25) = w1 at hx hu hs1 hO1 ⊢
    obtain ⟨x0, x1, hxs⟩ := rowT hx
    have hvc := (hc.call hu).facts.1
    replace n0 := (hvc _ _ hbb).trans n0; replace n1 := (hvc _ _ hbb).trans n1; replace n2 := (hvc _ _ hbb).trans n2; replace n3 := (hvc _ _ hbb).trans n3; replace n4 := (hvc _ _ hbb).trans n4
    have hbb1 : b < w1.heap.size := Nat.lt_of_lt_of_le hbb (hc.call hu).size
    have HS1 := Lib.hid hs1
    clear hvc hs1
    go_upto_region 2 with fail
    have hnb := heap_new w1 (.cells #[.int .i64 kd, .slice A1 E.length c1, .slice A2 K.length c2, .slice A3 S.length c3, .slice A4 T.length c4] 59)
    have hc3 := (Calm.refl w1).alloc (.cells #[.int .i64 kd, .slice A1 E.length c1, .slice A2 K.length c2, .slice A3 S.length c3, .slice A4 T.length c4] 59)
    have hs3 : (w1.alloc (.cells #[.int .i64 kd, .slice A1 E.length c1, .slice A2 K.length c2, .slice A3 S.length c3, .slice A4 T.length c4] 59)).heap.size = w1.heap.size + 1 := by simp
    generalize w1.alloc (.cells #[.int .i64 kd, .slice A1 E.length c1, .slice A2 K.length c2, .slice A3 S.length c3, .slice A4 T.length c4] 59) = w3 at hnb hc3 hs3 ⊢
    have hx3 := (hc3.block (rowT hx).2.2).trans hx
    have hu3 := hu.call hc3
    have hO3 := Lib.hid (hO1.out.calm hc3)
    have HC3 := Lib.hid (hc.call hu3)
    have HS := Lib.hid (And.intro HS1.out hs3)
    have hvs : Hid (∀ k, v.ownBlock = some k → k < w.heap.size) := show ∀ _, _ from fun k hk => (hvlt.out k hk).2
    obtain ⟨m0, m1, m2, m3, m4, hms⟩ := row5 hnb
    clear hs3 hc3 x0 x1 hxs n0 n1 n2 n3 n4 hbb hbb1 hx hO1
    go_wp2_with fail
    go_loopw [0, 25] (fun a i wr => ∃ (k : Nat) (v' : Value), k ≤ E.length ∧ i = .int .i64 k ∧ a = v' ∧ Hid (OwnR w0.heap.size wr v' (sinceR t L (E.take k))) ∧ Hid (Grw w3 wr v v')) (fun _ i _ => E.length - (intOf i).toNat)
    case atStart => exact ⟨0, v, Nat.zero_le _, rfl, rfl, (show OwnR _ _ _ _ by rw [List.take_zero, sinceR_nil]; exact hO3.out), Grw.refl _ _⟩
    clear m0 m1 m2 m3 m4 hms hO3
    case round =>
      obtain ⟨k, v', hkE, rfl, rfl, hO, hG⟩ := hrel
      have hcr := Lib.hid (Grw.calm HC3.out hG.out hvb.out)
      have hxr := (hG.out.block (k := w.heap.size) (by have := HS.out; omega) (fun j hj => hvs.out j hj)).trans hx3
      have hnr := (hG.out.block (k := w1.heap.size) (by have := HS.out; omega) (fun j hj => by have := hvs.out j hj; have := HS.out; omega)).trans hnb
      obtain ⟨x0, x1, hxs⟩ := rowT hxr
      obtain ⟨m0, m1, m2, m3, m4, hms⟩ := row5 hnr
      obtain ⟨MM, hMM⟩ : ∃ MM, sinceR t L (E.take k) = MM := ⟨_, rfl⟩
      have hMl : MM.length ≤ 1000000 := by
        have := sinceR_len t L (E.take k)
        have h9 := HLR.out
        have h8 := List.length_take_le k E
        rw [hMM] at this; omega
      rw [hMM] at hO
      have HMM := Lib.hid hMM
      clear hMM
      obtain ⟨Av, cv, ev⟩ := hO.out.slice
      subst ev
      by_cases hlt : k < E.length
      · obtain ⟨be, qe, p', o', f', m', g', s', hAe, hbe, HE, hme, e0, e1, e2, e3, e4, e5⟩ := (HA.out.calm hcr.out).e.get hlt
        subst hAe
        have hstep : Hid (sinceR t L (E.take (k + 1)) = if t < lastOf m' g' then MM ++ [⟨p', o', f', m', g', s'⟩] else MM) := show _ = _ by rw [sinceR_take HE.out, HMM.out]; rfl
        have hE8 := HSZ.out.1
        have hbox := heap_new wr (.cells #[.int .i64 p', .int .i64 o', .int .i64 f', .int .i64 m', .int .i64 g', .string s'] 33)
        have hal := (Calm.refl wr).alloc (.cells #[.int .i64 p', .int .i64 o', .int .i64 f', .int .i64 m', .int .i64 g', .string s'] 33)
        go_upto_region 5 with fail
        generalize wr.alloc (.cells #[.int .i64 p', .int .i64 o', .int .i64 f', .int .i64 m', .int .i64 g', .string s'] 33) = w5 at hbox hal ⊢
        clear x0 x1 hxs m0 m1 m2 m3 m4 hms e0 e1 e2 e3 e4 e5
        obtain ⟨e0, e1, e2, e3, e4, e5, hes⟩ := row6 hbox
        have hO5 := Lib.hid (hO.out.calm hal)
        have cL := fun u => last_any p' o' f' m' g' s' u
        generalize lastOf m' g' = la at hstep cL
        by_cases hla : t < la
        · have hli : la > t := hla
          have hs : Hid (MM ++ [⟨p', o', f', m', g', s'⟩] = sinceR t L (E.take (k + 1))) := show _ = _ by rw [hstep.out, if_pos hla]
          have hsz6 : Hid (w0.heap.size ≤ w5.heap.size) := show _ ≤ _ from Nat.le_trans hcr.out.size hal.size
          go_wp2_with first
            | (go_at_call 30; (with_reducible refine (cL _).mono ?_); rintro e9 w6 ⟨rfl, hb6⟩; have hbox6 := (hb6.block (row6 hbox).2.2.2.2.2.2).trans hbox; have hO6 := Lib.hid (hO5.out.calm hb6); have hG6 := Lib.hid (hG.out.trans ((hal.call hb6).grw _)); have hz6 := Lib.hid hb6.size; clear hb6 e0 e1 e2 e3 e4 e5 hes; obtain ⟨e0, e1, e2, e3, e4, e5, hes⟩ := row6 hbox6)
            | (at_builtin; refine wpList_append_e1 rfl _ _ rfl w0.heap.size _ _ rfl (hO6.out.calm ((Calm.refl _).alloc _)) _ _ ⟨p', o', f', m', g', s'⟩ _ rfl (heap_new _ _) hMl (Nat.le_trans (Nat.le_trans hsz6.out hz6.out) (by simp)) ?_; intro v9 w9 ho9 hg9; have hO9 : Hid (OwnR w0.heap.size w9 v9 (sinceR t L (E.take (k + 1)))) := (show OwnR _ _ _ _ from hs.out ▸ ho9); have hG9 := Lib.hid ((hG6.out.trans (((Calm.refl _).alloc _).grw _)).trans hg9); clear ho9 hg9)
          go_roundw
          case rel => exact ⟨k + 1, v9, by omega, by go_num, rfl, hO9, hG9⟩
          case measure => simp [intOf]; omega
        · have hli : ¬ la > t := by omega
          have hs : Hid (MM = sinceR t L (E.take (k + 1))) := show _ = _ by rw [hstep.out, if_neg hla]
          go_wp2_with (go_at_call 30; (with_reducible refine (cL _).mono ?_); rintro e9 w6 ⟨rfl, hb6⟩; have hO6 : Hid (OwnR w0.heap.size w6 (.slice Av MM.length cv) (sinceR t L (E.take (k + 1)))) := (show OwnR _ _ _ _ from hs.out ▸ hO5.out.calm hb6); have hG6 := Lib.hid (hG.out.trans ((hal.call hb6).grw _)); clear hb6)
          go_roundw
          case rel => exact ⟨k + 1, _, by omega, by go_num, rfl, hO6, hG6⟩
          case measure => simp [intOf]; omega
      · have hkk : k = E.length := by omega
        have hkE2 : E.take k = E := by rw [hkk, List.take_length]
        rw [hkE2] at HMM
        have hli : ¬ (k : Int) < (E.length : Int) := by omega
        clear hkE2 hkk hlt hkE
        have hfin : Hid (sinceR t MM (K.flatMap (recsD l d)) = sinceR t L (recsD l (d + 1) (XX : Int))) := show _ = _ by rw [HFN.out, HMM.out]
        have hK8 := HSZ.out.2.1
        have hMl9 : Hid (MM.length + (K.flatMap (recsD l d)).length ≤ 1000000) := show _ ≤ _ by
          have a := HLR.out
          have b := sinceR_len t L E
          rw [HMM.out] at b
          omega
        go_wp2_with fail
        go_loopw [0, 13, 41] (fun a u i wx => ∃ (j : Nat) (v' : Value), j ≤ K.length ∧ i = .int .i64 j ∧ u = .int .i64 ((visK l t d K j : Nat) : Int) ∧ a = v' ∧ Hid (OwnR w0.heap.size wx v' (sinceR t MM ((K.take j).flatMap (recsD l d)))) ∧ Hid (Grw w3 wx v v')) (fun _ _ i _ => K.length - (intOf i).toNat)
        case atStart => exact ⟨0, _, Nat.zero_le _, rfl, rfl, rfl, (show OwnR _ _ _ _ by rw [List.take_zero, List.flatMap_nil, sinceR_nil]; exact hO.out), hG⟩
        clear hO hG x0 x1 hxs m0 m1 m2 m3 m4 hms hcr hxr hnr
        case round =>
          obtain ⟨j, v', hj, rfl, rfl, rfl, hO, hG⟩ := hrel
          have hcr2 := Lib.hid (Grw.calm HC3.out hG.out hvb.out)
          have hxr2 := (hG.out.block (k := w.heap.size) (by have := HS.out; omega) (fun j hj => hvs.out j hj)).trans hx3
          have hnr2 := (hG.out.block (k := w1.heap.size) (by have := HS.out; omega) (fun j hj => by have := hvs.out j hj; have := HS.out; omega)).trans hnb
          obtain ⟨x0, x1, hxs⟩ := rowT hxr2
          obtain ⟨m0, m1, m2, m3, m4, hms⟩ := row5 hnr2
          obtain ⟨NN, hNN⟩ : ∃ NN, sinceR t MM ((K.take j).flatMap (recsD l d)) = NN := ⟨_, rfl⟩
          have hNl : Hid (NN.length ≤ MM.length + ((K.take j).flatMap (recsD l d)).length) := show _ ≤ _ by rw [← hNN]; exact sinceR_len _ _ _
          rw [hNN] at hO
          have HNN := Lib.hid hNN
          have hvm := visK_max l t d K j
          have hvm2 := HNR.out
          obtain ⟨VJ, hVJ⟩ : ∃ VJ, visK l t d K j = VJ := ⟨_, rfl⟩
          have hV4 : VJ ≤ 401 := by omega
          rw [hVJ]
          have HVJ := Lib.hid hVJ
          clear hNN hVJ hvm hvm2
          obtain ⟨Aw, cw, ew⟩ := hO.out.slice
          subst ew
          by_cases hlt2 : j < K.length
          · obtain ⟨b9, q9, y, hA9, hb9, HY, cy⟩ := (HA.out.calm hcr2.out).k.get hlt2
            subst hA9
            have hjT : j < T.length := by have := HSZ.out.2.2.2.1; omega
            obtain ⟨b8, q8, tj, hA8, hb8, HTj, ct⟩ := (HA.out.calm hcr2.out).t.get hjT
            subst hA8
            obtain ⟨hDy, hTy⟩ := HKID.out j y HY.out
            have htj : Hid (tj = tidOf l y) := show _ = _ from Option.some.inj (HTj.out.symm.trans hTy)
            have hFT : Hid ((K.take (j + 1)).flatMap (recsD l d) = (K.take j).flatMap (recsD l d) ++ recsD l d y) := flat_take _ _ HY.out
            have hstep : Hid (sinceR t MM ((K.take (j + 1)).flatMap (recsD l d)) = sinceR t NN (recsD l d y)) := show _ = _ by rw [hFT.out, sinceR_append, HNN.out]
            have hvst : Hid (visK l t d K (j + 1) = VJ + (if t < tj then visD l t d y else 0)) := show _ = _ by rw [visK_step HY.out, HVJ.out, htj.out]
            have hlate : Hid (tj = lateOf (recsD l d y)) := show _ = _ by rw [htj.out, tid_late hok hT d y hDy]
            by_cases htt : t < tj
            · have hti : tj > t := htt
              have hlen2 : Hid (NN.length + (recsD l d y).length ≤ 1000000) := show _ ≤ _ by
                have a := hNl.out
                have b := hMl9.out
                have e := flat_le (recsD l d) K (j + 1)
                rw [hFT.out, List.length_append] at e
                omega
              have hnod2 : Hid ((nodesD l d y).length ≤ 400) := show _ ≤ _ by
                have a := HNR.out
                have e := flat_le (nodesD l d) K (j + 1)
                rw [flat_take _ _ HY.out, List.length_append] at e
                omega
              have cF := fun u (hu : Calm w0 u) (hv : OwnR w0.heap.size u (.slice Aw NN.length cw) NN) => ih.out y hDy _ NN u hu hv hlen2.out hnod2.out
              have hvd := visD_le l t d y
              have hv2 : Hid (visK l t d K (j + 1) = VJ + visD l t d y) := show _ = _ by rw [hvst.out, if_pos htt]
              obtain ⟨VY, hVY⟩ : ∃ VY, visD l t d y = VY := ⟨_, rfl⟩
              have hVY4 : VY ≤ 400 := by have := hnod2.out; omega
              rw [hVY] at cF hv2
              have hv3 : Hid (VJ + VY = visK l t d K (j + 1)) := hv2.out.symm
              clear hDy hTy hvd hVY hvst hv2
              go_wp2_with (go_at_call 61; (with_reducible refine (cF _ hcr2.out hO.out).mono ?_); rintro e w9 ⟨v9, rfl, ho9, hg9⟩; have HO9 : Hid (OwnR w0.heap.size w9 v9 (sinceR t MM ((K.take (j + 1)).flatMap (recsD l d)))) := (show OwnR _ _ _ _ from hstep.out ▸ ho9); have HG9 := Lib.hid (hG.out.trans hg9); clear ho9 hg9)
              go_roundw
              case rel => exact ⟨j + 1, v9, by omega, by go_num, by rw [← hv3.out]; go_num, rfl, HO9, HG9⟩
              case measure => simp [intOf]; omega
            · have hti : ¬ tj > t := by omega
              have hv3 : Hid (VJ = visK l t d K (j + 1)) := show _ = _ by rw [hvst.out, if_neg htt]; rfl
              have HO9 : Hid (OwnR w0.heap.size wr (.slice Aw NN.length cw) (sinceR t MM ((K.take (j + 1)).flatMap (recsD l d)))) := show OwnR _ _ _ _ from by
                rw [hstep.out, sinceR_skip (by rw [← hlate.out]; omega)]; exact hO.out
              clear hDy hTy hvst
              go_wp2_with fail
              go_roundw
              case rel => exact ⟨j + 1, _, by omega, by go_num, by rw [← hv3.out], rfl, HO9, hG⟩
              case measure => simp [intOf]; omega
          · have hli2 : ¬ (j : Int) < (K.length : Int) := by omega
            have hjj : K.take j = K := List.take_of_length_le (by omega)
            have HO9 : Hid (OwnR w0.heap.size wr (.slice Aw NN.length cw) (sinceR t L (recsD l (d + 1) (XX : Int)))) := show OwnR _ _ _ _ from by
              have e8 := HNN.out
              rw [hjj] at e8
              rw [← hfin.out, e8]; exact hO.out
            have hV9 : Hid (VJ = visD l t (d + 1) (XX : Int)) := show _ = _ by
              rw [HVN.out, ← HVJ.out]; unfold visK; rw [hjj]
            clear hjj
            go_wp2_with fail
            go_ret2
            exact ⟨_, by rw [hV9.out]; rfl, HO9.out, (hu3.grw v).trans hG.out⟩
theorem appendSince_any (root : Int) (A : Option Addr) (c : Nat) (l : List Nd) (hok : NdsOk l) (hT : TimeP l) (w0 : World) (h0 : TrAt w0 A l) (t : Int) : ∀ (d : Nat), SinceOk root A c l w0 t d
 | 0 => fun _ hD => absurd hD id
 |d + 1 => appendSince_step root A c l hok hT w0 h0 t d (appendSince_any root A c l hok hT w0 h0 t d)
open Go.RowKit
theorem nd_cells {w w' : World} {b o : Nat} {v0 v1 v2 v3 v4 : Value} (hc : Calm w w') (hb : b < w.heap.size) (h0 : w.cell? ⟨b, o, none⟩ = some v0) (h1 : w.cell? ⟨b, o + 1, none⟩ = some v1) (h2 : w.cell? ⟨b, o + 2, none⟩ = some v2) (h3 : w.cell? ⟨b, o + 3, none⟩ = some v3) (h4 : w.cell? ⟨b, o + 4, none⟩ = some v4) :
    w'.cell? ⟨b, o, none⟩ = some v0 ∧ w'.cell? ⟨b, o + 1, none⟩ = some v1 ∧ w'.cell? ⟨b, o + 2, none⟩ = some v2 ∧ w'.cell? ⟨b, o + 3, none⟩ = some v3 ∧ w'.cell? ⟨b, o + 4, none⟩ = some v4 :=
  ⟨(hc.facts.1 _ _ hb).trans h0, (hc.facts.1 _ _ hb).trans h1, (hc.facts.1 _ _ hb).trans h2, (hc.facts.1 _ _ hb).trans h3, (hc.facts.1 _ _ hb).trans h4⟩
noncomputable def sinceL (l : List Nd) (root t : Int) : List El := if treeErr l root = 0 then sinceR (max t 0) [] (allOf l root) else []
noncomputable def sinceN (l : List Nd) (root t : Int) : Nat := if treeErr l root = 0 then (if max t 0 < tidOf l root then visD l (max t 0) (depthOf l root) root else 0) else 0
set_option maxHeartbeats 8000000 in
theorem findSince_any (root : Int) (A : Option Addr) (c : Nat) (l : List Nd) (w : World) (h : TrAt w A l) (t : Int) :
    Calls Try.prog 28 #[.agg #[.int .i64 root, .slice A l.length c], .int .i64 t] w fun e w' => ∃ v, e = .returned (.tuple #[v, .int .i64 (sinceN l root t : Int), .int .i64 (treeErr l root)]) ∧ OwnR w.heap.size w' v (sinceL l root t) ∧ Calm w w' := by
  have hx := heap_new w (.cells #[.int .i64 root, .slice A l.length c] 25)
  have hu := (Calm.refl w).alloc (.cells #[.int .i64 root, .slice A l.length c] 25)
  have cC := fun u (hu : Calm w u) => treeCheck_any root A c l u (h.calm hu)
  obtain ⟨x0, x1, hxs⟩ := rowT hx
  by_cases hz : treeErr l root = 0
  rotate_left
  · have b1 : (treeErr l root != 0) = true := by rw [bne_iff_ne]; exact hz
    have hfe : sinceN l root t = 0 := by unfold sinceN; rw [if_neg hz]
    have hfl : sinceL l root t = [] := by unfold sinceL; rw [if_neg hz]
    rw [hfe, hfl]
    clear h hz hfe hfl
    generalize treeErr l root = R at cC b1 ⊢
    go_enter Try.func28, Try.ntmps28
    go_wp2_with (go_at_call 40; (with_reducible refine (cC _ hu).mono ?_); rintro e w1 ⟨rfl, hb1⟩; have hu1 := hu.call hb1; clear hb1)
    go_ret3
    exact ⟨_, rfl, OwnR.nil _ _, hu1⟩
  obtain ⟨hl4, hok, d, hD, hO, hall, hlen⟩ := tree_good hz
  have hG := (treeErr_zero.1 hz).2.2
  have hT : TimeP l := hG.2.2.1
  have hnod : (nodesD l d root).length ≤ 400 := by
    have h1 := (ref_good hz).2.1
    rw [depthOf_eq hok hD] at h1
    have h2 : usedOf l ≤ l.length := List.countP_le_length
    omega
  have hdd : depthOf l root = d := depthOf_eq hok hD
  have hlate := tid_late hok hT d root hD
  rw [hz] at cC ⊢
  have hN : sinceN l root t = if max t 0 < tidOf l root then visD l (max t 0) d root else 0 := by unfold sinceN; rw [if_pos hz, hdd]
  have hL : sinceL l root t = sinceR (max t 0) [] (recsD l d root) := by unfold sinceL; rw [if_pos hz, hall]
  rw [hN, hL]
  obtain ⟨t', ht'⟩ : ∃ t', max t 0 = t' := ⟨_, rfl⟩
  rw [ht']
  have hmax : Hid (max t 0 = t') := ht'
  cases d with
  | zero => exact absurd hD id
  | succ d =>
    obtain ⟨n, hn, -⟩ := id hD
    obtain ⟨i1, i2, i3⟩ := nd_of_in hn
    obtain ⟨RR, rfl⟩ : ∃ RR : Nat, root = (RR : Int) := ⟨root.toNat, by omega⟩
    rw [Int.toNat_natCast] at i3
    have hRl : RR < l.length := by omega
    have hzn := hok n (List.mem_of_getElem? i3)
    have htid : tidOf l (RR : Int) = ndTid n.E n.T := by unfold tidOf; rw [Int.toNat_natCast, i3]
    have cS := fun u (hu : Calm w u) => appendSince_any (RR : Int) A c l hok hT w h t' (d + 1) (RR : Int) hD (.slice none 0 0) [] u hu (OwnR.nil _ _) (by rw [← hall]; simp; omega) hnod
    obtain ⟨b, q, kd, A1, A2, A3, A4, c1, c2, c3, c4, E, K, S, T, hA, hbb, HN, HA, n0, n1, n2, n3, n4⟩ := h.get hRl
    cases hA
    have hnd : n = ⟨kd, A1, A2, A3, A4, c1, c2, c3, c4, E, K, S, T⟩ := by
      have := HN.out
      rw [i3] at this
      exact Option.some.inj this
    subst hnd
    simp only at hzn htid
    have cT := fun u (hu : Calm w u) => nodeTid_any kd A1 A2 A3 A4 c1 c2 c3 c4 E K S T u (HA.out.calm hu)
    rw [hzn, if_pos rfl] at cT
    rw [← htid] at cT
    have hxl : (RR : Int) < (l.length : Int) := by omega
    have HTL : Hid (tidOf l (RR : Int) = lateOf (recsD l (d + 1) (RR : Int))) := hlate
    have HW := Lib.hid h
    generalize tidOf l (RR : Int) = TT at cT HTL ⊢
    have hvc := hu.facts.1
    clear hz hl4 hok hD hO hall hlen hG hT hnod hdd hlate hN hL hn i1 i2 i3 hzn htid h
    replace n0 := (hvc _ _ hbb).trans n0; replace n1 := (hvc _ _ hbb).trans n1; replace n2 := (hvc _ _ hbb).trans n2; replace n3 := (hvc _ _ hbb).trans n3; replace n4 := (hvc _ _ hbb).trans n4
    have hb1' : b < (w.alloc (.cells #[.int .i64 (RR : Int), .slice (some ⟨b, q, none⟩) l.length c] 25)).heap.size := Nat.lt_of_lt_of_le hbb hu.size
    clear hvc
    have key : t = t' ∧ 0 ≤ t ∨ t < 0 ∧ t' = 0 := by have := hmax.out; omega
    rcases key with ⟨rfl, htp⟩ | ⟨htn, rfl⟩
    · by_cases hTt : TT ≤ t
      · have hTi : TT ≤ t := hTt
        rw [if_neg (by omega), sinceR_skip (by have := HTL.out; omega)]
        go_enter Try.func28, Try.ntmps28
        go_wp2_with first
          | (go_at_call 40; (with_reducible refine (cC _ hu).mono ?_); rintro e w1 ⟨rfl, hb1⟩; have hu1 := hu.call hb1; have hx1 := (hb1.block (rowT hx).2.2).trans hx; (obtain ⟨p0, p1, p2, p3, p4⟩ := nd_cells hb1 hb1' n0 n1 n2 n3 n4); clear x0 x1 hxs hb1; obtain ⟨x0, x1, hxs⟩ := rowT hx1)
          | (go_at_call 60; (with_reducible refine (cT _ hu1).mono ?_); rintro e w2 ⟨rfl, hb2⟩; have hu2 := hu1.call hb2; clear hb2)
        go_ret3
        exact ⟨_, rfl, OwnR.nil _ _, hu2⟩
      · have hTi : ¬ TT ≤ t := hTt
        rw [if_pos (by omega)]
        go_enter Try.func28, Try.ntmps28
        go_wp2_with first
          | (go_at_call 40; (with_reducible refine (cC _ hu).mono ?_); rintro e w1 ⟨rfl, hb1⟩; have hu1 := hu.call hb1; have hx1 := (hb1.block (rowT hx).2.2).trans hx; (obtain ⟨p0, p1, p2, p3, p4⟩ := nd_cells hb1 hb1' n0 n1 n2 n3 n4); clear x0 x1 hxs hb1; obtain ⟨x0, x1, hxs⟩ := rowT hx1)
          | (go_at_call 60; (with_reducible refine (cT _ hu1).mono ?_); rintro e w2 ⟨rfl, hb2⟩; have hu2 := hu1.call hb2; have hx2 := (hb2.block (rowT hx1).2.2).trans hx1; clear hb2 x0 x1 hxs; obtain ⟨x0, x1, hxs⟩ := rowT hx2)
          | (go_at_call 61; (with_reducible refine (cS _ hu2).mono ?_); rintro e w3 ⟨v3, rfl, ho3, hg3⟩; have HO := Lib.hid ho3; have hu3 := Grw.calm hu2 hg3 (fun k hk => by simp [Value.ownBlock] at hk); clear ho3 hg3)
        go_ret3
        exact ⟨_, rfl, HO.out, hu3⟩
    · by_cases hTt : TT ≤ 0
      · have hTi : TT ≤ 0 := hTt
        rw [if_neg (by omega), sinceR_skip (by have := HTL.out; omega)]
        go_enter Try.func28, Try.ntmps28
        go_wp2_with first
          | (go_at_call 40; (with_reducible refine (cC _ hu).mono ?_); rintro e w1 ⟨rfl, hb1⟩; have hu1 := hu.call hb1; have hx1 := (hb1.block (rowT hx).2.2).trans hx; (obtain ⟨p0, p1, p2, p3, p4⟩ := nd_cells hb1 hb1' n0 n1 n2 n3 n4); clear x0 x1 hxs hb1; obtain ⟨x0, x1, hxs⟩ := rowT hx1)
          | (go_at_call 60; (with_reducible refine (cT _ hu1).mono ?_); rintro e w2 ⟨rfl, hb2⟩; have hu2 := hu1.call hb2; clear hb2)
        go_ret3
        exact ⟨_, rfl, OwnR.nil _ _, hu2⟩
      · have hTi : ¬ TT ≤ 0 := hTt
        rw [if_pos (by omega)]
        go_enter Try.func28, Try.ntmps28
        go_wp2_with first
          | (go_at_call 40; (with_reducible refine (cC _ hu).mono ?_); rintro e w1 ⟨rfl, hb1⟩; have hu1 := hu.call hb1; have hx1 := (hb1.block (rowT hx).2.2).trans hx; (obtain ⟨p0, p1, p2, p3, p4⟩ := nd_cells hb1 hb1' n0 n1 n2 n3 n4); clear x0 x1 hxs hb1; obtain ⟨x0, x1, hxs⟩ := rowT hx1)
          | (go_at_call 60; (with_reducible refine (cT _ hu1).mono ?_); rintro e w2 ⟨rfl, hb2⟩; have hu2 := hu1.call hb2; have hx2 := (hb2.block (rowT hx1).2.2).trans hx1; clear hb2 x0 x1 hxs; obtain ⟨x0, x1, hxs⟩ := rowT hx2)
          | (go_at_call 61; (with_reducible refine (cS _ hu2).mono ?_); rintro e w3 ⟨v3, rfl, ho3, hg3⟩; have HO := Lib.hid ho3; have hu3 := Grw.calm hu2 hg3 (fun k hk => by simp [Value.ownBlock] at hk); clear ho3 hg3)
        go_ret3
        exact ⟨_, rfl, HO.out, hu3⟩
theorem visD_anti (l : List Nd) {t t' : Int} (h : t ≤ t') : ∀ (d : Nat) (x : Int), visD l t' d x ≤ visD l t d x
 | 0, _ => Nat.le_refl _
 |d + 1, x => by
  unfold visD
  split
  ·exact Nat.le_refl _
  ·refine Nat.add_le_add_left ?_ 1
   rename_i n _
   generalize n.K = K
   induction K with
   |nil => simp
   |cons y K ih =>
    rw [List.map_cons, List.sum_cons, List.map_cons, List.sum_cons]
    have h1 := visD_anti l h d y
    by_cases h2 : t' < tidOf l y
    ·rw [if_pos h2, if_pos (show t < tidOf l y by omega)]; omega
    ·rw [if_neg h2]; omega
structure NewOk (l : List Nd) (root a b : Int) : Prop where
 zero : sinceL l root 0 = allOf l root
 last : sinceL l root 2147483647 = [] ∧ sinceN l root 2147483647 = 0
 few : ∀ t, sinceN l root t ≤ usedOf l
 anti : ∀ t t', t ≤ t' → sinceN l root t' ≤ sinceN l root t ∧ ∀ e ∈ sinceL l root t', e ∈ sinceL l root t
 late : ∀ t, ∀ e ∈ sinceL l root t, t < e.last
theorem new_ok {l : List Nd} {root : Int} (hz : treeErr l root = 0) (a b : Int) : NewOk l root a b := by
 obtain ⟨d, n, hd, hw, hn, hg, hall⟩ := good_wide hz
 have herr : ∀ e ∈ allOf l root, e.err = 0 := by rw [hall]; exact hw.errs
 have hL : ∀ t, sinceL l root t = (allOf l root).filter fun e => decide (max t 0 < e.last) := fun t => by unfold sinceL sinceR; rw [if_pos hz]; rfl
 have hlast : ∀ e ∈ allOf l root, 1 ≤ e.last ∧ e.last ≤ 2147483647 := fun e he => by
  have h1 := err_time (herr e he)
  unfold timeOk at h1
  have h2 := last_ge e
  exact ⟨by omega, last_le (by omega) (by omega)⟩
 have htid : tidOf l root ≤ 2147483647 := by
  have e0 : tidOf l root = ndTid n.E n.T := by unfold tidOf; rw [(nd_of_in hw.nd).2.2]
  rw [e0]
  unfold ndTid
  rcases gMax_or (n.E.map El.last ++ n.T) 0 with h1 | h1
  ·omega
  ·rcases List.mem_append.1 h1 with h2 | h2
   ·obtain ⟨e, he, h3⟩ := List.mem_map.1 h2
    rw [← h3]
    exact (hlast e (by rw [hall, recs_eq hw.nd]; exact List.mem_append_left _ he)).2
   ·rcases hw.sh with h4 | h4
    ·rw [h4.2.2.2.1] at h2; exact absurd h2 List.not_mem_nil
    ·exact (h4.2.2.2.2.2.1 _ h2).2
 have hN : ∀ t, sinceN l root t = if max t 0 < tidOf l root then visD l (max t 0) (depthOf l root) root else 0 := fun t => by unfold sinceN; rw [if_pos hz]
 refine ⟨?_, ⟨?_, ?_⟩, fun t => ?_, fun t t' h => ⟨?_, fun e he => ?_⟩, fun t e he => ?_⟩
 ·rw [hL]
  exact List.filter_eq_self.2 fun e he => by have := (hlast e he).1; simp; omega
 ·rw [hL]
  exact List.filter_eq_nil_iff.2 fun e he => by have := (hlast e he).2; simp; omega
 ·rw [hN, if_neg (by omega)]
 ·rw [hN]
  obtain ⟨-, n1, -⟩ := ref_good hz
  split
  ·have := visD_le l (max t 0) (depthOf l root) root
   omega
  ·omega
 ·rw [hN, hN]
  by_cases h1 : max t' 0 < tidOf l root
  ·rw [if_pos h1, if_pos (show max t 0 < tidOf l root by omega)]
   exact visD_anti l (by omega) _ _
  ·rw [if_neg h1]; omega
 ·rw [hL, List.mem_filter] at he ⊢
  refine ⟨he.1, ?_⟩
  have := he.2
  simp at this ⊢
  omega
 ·rw [hL, List.mem_filter] at he
  have := he.2
  simp at this
  omega
theorem used_take {l : List Nd} {k : Nat} {n : Nd} (h : l[k]? = some n) : usedOf (l.take (k + 1)) = usedOf (l.take k) + (if n.kd ≠ 0 then 1 else 0) := by
 have hk := (List.getElem?_eq_some_iff.1 h).1
 unfold usedOf
 rw [List.take_succ_eq_append_getElem hk, (List.getElem?_eq_some_iff.1 h).2, List.countP_append, List.countP_singleton]
 by_cases h0 : n.kd ≠ 0
 ·simp [h0]
 ·simp [h0]
open Go.RowKit
def FIX {α : Type} (q : α → Bool) (l : List α) (r : Int) : Prop := (r = -1 ∧ ∀ e ∈ l, q e = false) ∨ (∃ (i : Nat) (h : i < l.length), r = i ∧ q l[i] = true ∧ ∀ j (hj : j < l.length), j < i → q l[j] = false)
theorem FIX_ex {α : Type} (q : α → Bool) (l : List α) : ∃ r, FIX q l r := by
 have E : ∀ n, n ≤ l.length → (∃ (i : Nat) (h : i < l.length), q l[i] = true ∧ ∀ j (hj : j < l.length), j < i → q l[j] = false) ∨ ∀ j (hj : j < l.length), j < n → q l[j] = false := fun n => by
  induction n with
  |zero => intro _; right; intro j hj h0; omega
  |succ n ih =>
   intro hn
   rcases ih (by omega) with h | h
   ·exact .inl h
   ·cases hp : q l[n]
    ·right; intro j hj h1
     rcases Nat.lt_or_ge j n with h2 | h2
     ·exact h j hj h2
     ·rw [show l[j] = l[n] from by congr 1; omega]; exact hp
    ·exact .inl ⟨n, by omega, hp, h⟩
 rcases E l.length (Nat.le_refl _) with ⟨i, h, h1, h2⟩ | h
 ·exact ⟨i, .inr ⟨i, h, rfl, h1, h2⟩⟩
 ·exact ⟨-1, .inl ⟨rfl, fun e he => by obtain ⟨j, hj, rfl⟩ := List.getElem_of_mem he; exact h j hj hj⟩⟩
def EBx (B1 : Nat) (p o f m g : Int) (s : ByteArray) (w : World) : Prop := w.heap[B1]? = some (.cells #[.int .i64 p, .int .i64 o, .int .i64 f, .int .i64 m, .int .i64 g, .string s] 33 (0, 0))
theorem EBx.calm {B1 : Nat} {p o f m g : Int} {s : ByteArray} {w w' : World} (h : EBx B1 p o f m g s w) (hb : Calm w w') : EBx B1 p o f m g s w' := (hb.block (Array.getElem?_eq_some_iff.1 h).1).trans h
open Go.RowKit
set_option maxHeartbeats 8000000 in
theorem indexE_any (A : Option Addr) (c : Nat) (l : List El) (p' o' f' m' g' r : Int) (s' : ByteArray) (w : World) (hn : l.length ≤ 9223372036854775807) (hL : Lies w A l) (hF : FIX (fun e => decide (e = ⟨p', o', f', m', g', s'⟩)) l r) :
    Calls Try.prog 62 #[.slice A l.length c, .agg #[.int .i64 p', .int .i64 o', .int .i64 f', .int .i64 m', .int .i64 g', .string s']] w fun e w' => e = .returned (.int .i64 r) ∧ Calm w w' := by
  have HF := Lib.hid hF
  have hx := heap_new w (.cells #[.int .i64 p', .int .i64 o', .int .i64 f', .int .i64 m', .int .i64 g', .string s'] 33)
  have hu := (Calm.refl w).alloc (.cells #[.int .i64 p', .int .i64 o', .int .i64 f', .int .i64 m', .int .i64 g', .string s'] 33)
  have HL := Lib.hid (hL.calm hu)
  have HX : Hid (EBx w.heap.size p' o' f' m' g' s' (w.alloc (.cells #[.int .i64 p', .int .i64 o', .int .i64 f', .int .i64 m', .int .i64 g', .string s'] 33))) := hx
  have HU := Lib.hid hu
  clear hF hx hL hu
  go_enter Try.func62, Try.ntmps62
  go_upto_region 1 with fail
  generalize w.alloc (.cells #[.int .i64 p', .int .i64 o', .int .i64 f', .int .i64 m', .int .i64 g', .string s'] 33) = w1 at HU HX HL ⊢
  go_wp2_with fail
  go_loopw [8] (fun i wr => ∃ k : Nat, k ≤ l.length ∧ i = .int .i64 k ∧ Calm w1 wr ∧ Hid (∀ j (hj : j < l.length), j < k → decide (l[j] = (⟨p', o', f', m', g', s'⟩ : El)) = false)) (fun i _ => l.length - (intOf i).toNat)
  case atStart => exact ⟨0, Nat.zero_le _, rfl, Calm.refl _, show ∀ _, _ from fun j hj h => absurd h (Nat.not_lt_zero _)⟩
  case round =>
    obtain ⟨k, hk, rfl, hu, hN⟩ := hrel
    by_cases hlt : k < l.length
    rotate_left
    · have K : Hid (r = -1) := by
        rcases HF.out with h | ⟨i, hi, _, h2, _⟩
        · exact h.1
        · have h2 : decide (l[i] = (⟨p', o', f', m', g', s'⟩ : El)) = true := h2
          rw [hN.out i hi (by omega)] at h2; cases h2
      go_wp2_with fail
      go_ret
      exact ⟨by rw [K.out]; rfl, HU.out.call hu⟩
    obtain ⟨b, q, p, o, f, m, g, s, rfl, hb, HE, hm, c0, c1, c2, c3, c4, c5⟩ := (HL.out.calm hu).get hlt
    have HE2 := (List.getElem?_eq_some_iff.1 HE.out).2
    have hx : wr.heap[w.heap.size]? = some (.cells #[.int .i64 p', .int .i64 o', .int .i64 f', .int .i64 m', .int .i64 g', .string s'] 33 (0, 0)) := HX.out.calm hu
    obtain ⟨x0, x1, x2, x3, x4, x5, hxs⟩ := row6 hx
    have hiz : (k : Int) < (l.length : Int) := by omega
    have hEq : (⟨p, o, f, m, g, s⟩ : El) = ⟨p', o', f', m', g', s'⟩ → Hid (r = k) := fun e => by
      have hp : decide (l[k] = (⟨p', o', f', m', g', s'⟩ : El)) = true := by rw [HE2]; exact decide_eq_true e
      rcases HF.out with h | ⟨i, hi, hr, h2, h3⟩
      · have : decide (l[k] = (⟨p', o', f', m', g', s'⟩ : El)) = false := h.2 _ (List.getElem_mem hlt)
        rw [hp] at this; cases this
      · rw [hr]
        rcases Nat.lt_trichotomy i k with h4 | h4 | h4
        · have h2 : decide (l[i] = (⟨p', o', f', m', g', s'⟩ : El)) = true := h2
          rw [hN.out i hi h4] at h2; cases h2
        · show _ = _; rw [h4]
        · have : decide (l[k] = (⟨p', o', f', m', g', s'⟩ : El)) = false := h3 k hlt h4
          rw [hp] at this; cases this
    have hN1 : (⟨p, o, f, m, g, s⟩ : El) ≠ ⟨p', o', f', m', g', s'⟩ → Hid (∀ j (hj : j < l.length), j < k + 1 → decide (l[j] = (⟨p', o', f', m', g', s'⟩ : El)) = false) := fun hne => show ∀ _, _ from fun j hj h => by
      rcases Nat.lt_or_ge j k with h2 | h2
      · exact hN.out j hj h2
      · rw [show l[j] = l[k] from by congr 1; omega, HE2]; exact decide_eq_false hne
    clear hx HE HE2 hm hN
    have hcs : ¬ p' = p ∨ (p' = p ∧ ¬ o' = o) ∨ (p' = p ∧ o' = o ∧ ¬ f' = f) ∨ (p' = p ∧ o' = o ∧ f' = f ∧ ¬ m' = m) ∨ (p' = p ∧ o' = o ∧ f' = f ∧ m' = m ∧ ¬ g' = g) ∨ (p' = p ∧ o' = o ∧ f' = f ∧ m' = m ∧ g' = g ∧ ¬ s' = s) ∨ (p' = p ∧ o' = o ∧ f' = f ∧ m' = m ∧ g' = g ∧ s' = s) := by
      by_cases e0 : p' = p <;> by_cases e1 : o' = o <;> by_cases e2 : f' = f <;> by_cases e3 : m' = m <;> by_cases e4 : g' = g <;> by_cases e5 : s' = s <;> simp [*]
    rcases hcs with h0 | ⟨h0, h1⟩ | ⟨h0, h1, h2⟩ | ⟨h0, h1, h2, h3⟩ | ⟨h0, h1, h2, h3, h4⟩ | ⟨h0, h1, h2, h3, h4, h5⟩ | ⟨h0, h1, h2, h3, h4, h5⟩
    · skip
      have hN2 := hN1 (fun e => by injection e with a0 a1 a2 a3 a4 a5; exact h0 a0.symm)
      clear hN1 hEq
      go_wp2_with fail
      refine wp_region_plan [.val (.agg #[.int .i64 p', .int .i64 o', .int .i64 f', .int .i64 m', .int .i64 g', .string s']), .val (.slice (some ⟨b, q, none⟩) l.length c), .val (.int .i64 ((k : Int))), .val (.pointer (some ⟨b, q + k * 6, none⟩)), .val (.agg #[.int .i64 p, .int .i64 o, .int .i64 f, .int .i64 m, .int .i64 g, .string s]), .val (.bool false)] (by kernel_rfl) (by kernel_rfl) (by kernel_rfl) ?_
      intro X
      iterate 6
        refine plan_val (by kernel_rfl) (fun u hu => ?_) ?_
        · obtain ⟨hc, hf, hz⟩ := hu.of_drew.facts
          go_simp
        simp only [Act.put, List.setIfInBounds_toArray, List.set_cons_zero, List.set_cons_succ, Nat.reduceAdd]
      refine plan_end ?_
      intro w' hB
      have hk := hB.calm.of_drew
      clear hB
      go_wp2_with fail
      go_roundw
      case rel => exact ⟨k + 1, by omega, by go_num, hu.call hk, hN2⟩
      case measure => simp [intOf]; omega
    · skip
      subst h0
      have hN2 := hN1 (fun e => by injection e with a0 a1 a2 a3 a4 a5; exact h1 a1.symm)
      clear hN1 hEq
      go_wp2_with fail
      refine wp_region_plan [.val (.agg #[.int .i64 p', .int .i64 o', .int .i64 f', .int .i64 m', .int .i64 g', .string s']), .val (.slice (some ⟨b, q, none⟩) l.length c), .val (.int .i64 ((k : Int))), .val (.pointer (some ⟨b, q + k * 6, none⟩)), .val (.agg #[.int .i64 p', .int .i64 o, .int .i64 f, .int .i64 m, .int .i64 g, .string s]), .val (.bool false)] (by kernel_rfl) (by kernel_rfl) (by kernel_rfl) ?_
      intro X
      iterate 6
        refine plan_val (by kernel_rfl) (fun u hu => ?_) ?_
        · obtain ⟨hc, hf, hz⟩ := hu.of_drew.facts
          go_simp
        simp only [Act.put, List.setIfInBounds_toArray, List.set_cons_zero, List.set_cons_succ, Nat.reduceAdd]
      refine plan_end ?_
      intro w' hB
      have hk := hB.calm.of_drew
      clear hB
      go_wp2_with fail
      go_roundw
      case rel => exact ⟨k + 1, by omega, by go_num, hu.call hk, hN2⟩
      case measure => simp [intOf]; omega
    · skip
      subst h0
      subst h1
      have hN2 := hN1 (fun e => by injection e with a0 a1 a2 a3 a4 a5; exact h2 a2.symm)
      clear hN1 hEq
      go_wp2_with fail
      refine wp_region_plan [.val (.agg #[.int .i64 p', .int .i64 o', .int .i64 f', .int .i64 m', .int .i64 g', .string s']), .val (.slice (some ⟨b, q, none⟩) l.length c), .val (.int .i64 ((k : Int))), .val (.pointer (some ⟨b, q + k * 6, none⟩)), .val (.agg #[.int .i64 p', .int .i64 o', .int .i64 f, .int .i64 m, .int .i64 g, .string s]), .val (.bool false)] (by kernel_rfl) (by kernel_rfl) (by kernel_rfl) ?_
      intro X
      iterate 6
        refine plan_val (by kernel_rfl) (fun u hu => ?_) ?_
        · obtain ⟨hc, hf, hz⟩ := hu.of_drew.facts
          go_simp
        simp only [Act.put, List.setIfInBounds_toArray, List.set_cons_zero, List.set_cons_succ, Nat.reduceAdd]
      refine plan_end ?_
      intro w' hB
      have hk := hB.calm.of_drew
      clear hB
      go_wp2_with fail
      go_roundw
      case rel => exact ⟨k + 1, by omega, by go_num, hu.call hk, hN2⟩
      case measure => simp [intOf]; omega
    · skip
      subst h0
      subst h1
      subst h2
      have hN2 := hN1 (fun e => by injection e with a0 a1 a2 a3 a4 a5; exact h3 a3.symm)
      clear hN1 hEq
      go_wp2_with fail
      refine wp_region_plan [.val (.agg #[.int .i64 p', .int .i64 o', .int .i64 f', .int .i64 m', .int .i64 g', .string s']), .val (.slice (some ⟨b, q, none⟩) l.length c), .val (.int .i64 ((k : Int))), .val (.pointer (some ⟨b, q + k * 6, none⟩)), .val (.agg #[.int .i64 p', .int .i64 o', .int .i64 f', .int .i64 m, .int .i64 g, .string s]), .val (.bool false)] (by kernel_rfl) (by kernel_rfl) (by kernel_rfl) ?_
      intro X
      iterate 6
        refine plan_val (by kernel_rfl) (fun u hu => ?_) ?_
        · obtain ⟨hc, hf, hz⟩ := hu.of_drew.facts
          go_simp
        simp only [Act.put, List.setIfInBounds_toArray, List.set_cons_zero, List.set_cons_succ, Nat.reduceAdd]
      refine plan_end ?_
      intro w' hB
      have hk := hB.calm.of_drew
      clear hB
      go_wp2_with fail
      go_roundw
      case rel => exact ⟨k + 1, by omega, by go_num, hu.call hk, hN2⟩
      case measure => simp [intOf]; omega
    · skip
      subst h0
      subst h1
      subst h2
      subst h3
      have hN2 := hN1 (fun e => by injection e with a0 a1 a2 a3 a4 a5; exact h4 a4.symm)
      clear hN1 hEq
      go_wp2_with fail
      refine wp_region_plan [.val (.agg #[.int .i64 p', .int .i64 o', .int .i64 f', .int .i64 m', .int .i64 g', .string s']), .val (.slice (some ⟨b, q, none⟩) l.length c), .val (.int .i64 ((k : Int))), .val (.pointer (some ⟨b, q + k * 6, none⟩)), .val (.agg #[.int .i64 p', .int .i64 o', .int .i64 f', .int .i64 m', .int .i64 g, .string s]), .val (.bool false)] (by kernel_rfl) (by kernel_rfl) (by kernel_rfl) ?_
      intro X
      iterate 6
        refine plan_val (by kernel_rfl) (fun u hu => ?_) ?_
        · obtain ⟨hc, hf, hz⟩ := hu.of_drew.facts
          go_simp
        simp only [Act.put, List.setIfInBounds_toArray, List.set_cons_zero, List.set_cons_succ, Nat.reduceAdd]
      refine plan_end ?_
      intro w' hB
      have hk := hB.calm.of_drew
      clear hB
      go_wp2_with fail
      go_roundw
      case rel => exact ⟨k + 1, by omega, by go_num, hu.call hk, hN2⟩
      case measure => simp [intOf]; omega
    · skip
      subst h0
      subst h1
      subst h2
      subst h3
      subst h4
      have hs1 : (s'.toList == s.toList) = false := str_ne h5
      have hN2 := hN1 (fun e => by injection e with a0 a1 a2 a3 a4 a5; exact h5 a5.symm)
      clear hN1 hEq
      go_wp2_with fail
      refine wp_region_plan [.val (.agg #[.int .i64 p', .int .i64 o', .int .i64 f', .int .i64 m', .int .i64 g', .string s']), .val (.slice (some ⟨b, q, none⟩) l.length c), .val (.int .i64 ((k : Int))), .val (.pointer (some ⟨b, q + k * 6, none⟩)), .val (.agg #[.int .i64 p', .int .i64 o', .int .i64 f', .int .i64 m', .int .i64 g', .string s]), .val (.bool false)] (by kernel_rfl) (by kernel_rfl) (by kernel_rfl) ?_
      intro X
      iterate 6
        refine plan_val (by kernel_rfl) (fun u hu => ?_) ?_
        · obtain ⟨hc, hf, hz⟩ := hu.of_drew.facts
          go_simp
        simp only [Act.put, List.setIfInBounds_toArray, List.set_cons_zero, List.set_cons_succ, Nat.reduceAdd]
      refine plan_end ?_
      intro w' hB
      have hk := hB.calm.of_drew
      clear hB
      clear hs1
      go_wp2_with fail
      go_roundw
      case rel => exact ⟨k + 1, by omega, by go_num, hu.call hk, hN2⟩
      case measure => simp [intOf]; omega
    · skip
      subst h0
      subst h1
      subst h2
      subst h3
      subst h4
      subst h5
      have K := hEq rfl
      clear hN1 hEq
      go_wp2_with fail
      refine wp_region_plan [.val (.agg #[.int .i64 p', .int .i64 o', .int .i64 f', .int .i64 m', .int .i64 g', .string s']), .val (.slice (some ⟨b, q, none⟩) l.length c), .val (.int .i64 ((k : Int))), .val (.pointer (some ⟨b, q + k * 6, none⟩)), .val (.agg #[.int .i64 p', .int .i64 o', .int .i64 f', .int .i64 m', .int .i64 g', .string s']), .val (.bool true)] (by kernel_rfl) (by kernel_rfl) (by kernel_rfl) ?_
      intro X
      iterate 6
        refine plan_val (by kernel_rfl) (fun u hu => ?_) ?_
        · obtain ⟨hc, hf, hz⟩ := hu.of_drew.facts
          go_simp
        simp only [Act.put, List.setIfInBounds_toArray, List.set_cons_zero, List.set_cons_succ, Nat.reduceAdd]
      refine plan_end ?_
      intro w' hB
      have hk := hB.calm.of_drew
      clear hB
      go_wp2_with fail
      go_ret
      exact ⟨by rw [K.out]; rfl, HU.out.call (hu.call hk)⟩
theorem FIX.mem {l : List El} {x : El} {r : Int} (h : FIX (fun e => decide (e = x)) l r) : (0 ≤ r ∧ x ∈ l) ∨ (r = -1 ∧ ¬ x ∈ l) := by
 rcases h with ⟨h1, h2⟩ | ⟨i, h1, h2, h3, -⟩
 ·exact .inr ⟨h1, fun h => by have := h2 x h; simp at this⟩
 ·have h3 : l[i] = x := of_decide_eq_true h3
  exact .inl ⟨by omega, by rw [← h3]; exact List.getElem_mem h1⟩
set_option maxHeartbeats 4000000 in
theorem containsE_any (A : Option Addr) (c : Nat) (l : List El) (p' o' f' m' g' : Int) (s' : ByteArray) (w : World) (hn : l.length ≤ 9223372036854775807) (hL : Lies w A l) :
    Calls Try.prog 29 #[.slice A l.length c, .agg #[.int .i64 p', .int .i64 o', .int .i64 f', .int .i64 m', .int .i64 g', .string s']] w fun e w' => e = .returned (.bool (decide ((⟨p', o', f', m', g', s'⟩ : El) ∈ l))) ∧ Calm w w' := by
  obtain ⟨r, hr⟩ := FIX_ex (fun e => decide (e = (⟨p', o', f', m', g', s'⟩ : El))) l
  have hx := heap_new w (.cells #[.int .i64 p', .int .i64 o', .int .i64 f', .int .i64 m', .int .i64 g', .string s'] 33)
  have hu := (Calm.refl w).alloc (.cells #[.int .i64 p', .int .i64 o', .int .i64 f', .int .i64 m', .int .i64 g', .string s'] 33)
  have cI := indexE_any A c l p' o' f' m' g' r s' _ hn (hL.calm hu) hr
  have hm := hr.mem
  obtain ⟨x0, x1, x2, x3, x4, x5, hxs⟩ := row6 hx
  clear hr hL hx
  rcases hm with ⟨h1, h2⟩ | ⟨rfl, h2⟩
  · rw [decide_eq_true h2]
    clear h2
    go_enter Try.func29, Try.ntmps29
    go_wp2_with (go_at_call 62; refine cI.mono ?_; rintro e w1 ⟨rfl, hb1⟩)
    go_ret
    exact ⟨ret_bool (by simp), hu.call hb1⟩
  · rw [decide_eq_false h2]
    clear h2
    go_enter Try.func29, Try.ntmps29
    go_wp2_with (go_at_call 62; refine cI.mono ?_; rintro e w1 ⟨rfl, hb1⟩)
    go_ret
    exact ⟨rfl, hu.call hb1⟩
open Go.RowKit
set_option maxHeartbeats 16000000 in
theorem findNew_walk (root : Int) (A : Option Addr) (c : Nat) (l : List Nd) (a b : Int) (w : World) (h : TrAt w A l) :
    Calls Try.prog 5 #[.agg #[.int .i64 root, .slice A l.length c], .int .i64 a, .int .i64 b] w fun e w' => e = .returned (.bool true) ∧ Calm w w' := by
  have hx := heap_new w (.cells #[.int .i64 root, .slice A l.length c] 25)
  have hu := (Calm.refl w).alloc (.cells #[.int .i64 root, .slice A l.length c] 25)
  have cF1 : ∀ r2 A2 c2 us2 u, treeErr us2 r2 = 0 → allOf us2 r2 = [eA] → us2.length = lvls [eA].length → depthOf us2 r2 = upD (partsN [eA].length) + 1 → TrAt u A2 us2 → Calls Try.prog 28 #[.agg #[.int .i64 r2, .slice A2 us2.length c2], .int .i64 0] u fun e w' => ∃ v, e = .returned (.tuple #[v, .int .i64 1, .int .i64 0]) ∧ OwnR u.heap.size w' v [eA] ∧ Calm u w' := fun r2 A2 c2 us2 u h1 h2 h3 h4 h5 => by
    have := findSince_any r2 A2 c2 us2 u h5 0
    have e1 := (new_ok h1 0 0).zero
    have e2 : sinceN us2 r2 0 = 1 := by
      obtain ⟨d, n, hd, hw, hn, hg, hall⟩ := good_wide h1
      have hd0 : depthOf us2 r2 = 1 := by rw [h4, show upD (partsN [eA].length) = 0 from upD_one (by decide)]
      have hd1 : d = 0 := by omega
      subst hd1
      have hlt : ndTid n.E n.T > 0 := by
        rcases hw.kd with hk | hk
        · have hlf := hw.leaf hk
          have hE : n.E = [eA] := by
            rw [← h2, hall, recs_eq hw.nd, hlf.2.1]; simp
          rw [hE, hlf.2.2.2.1]
          decide
        · have := (hw.inner hk).2
          rcases hw.kids with hk2 | hk2
          · have := hk2.1; omega
          · have h6 := shape_of hn hw.sh.used
            have h7 := h6.2.2 hk
            have h8 := (hw.inner hk).1
            unfold Nd.size at h7
            rw [h8.1] at h7
            simp only [List.length_nil, Nat.zero_add] at h7
            exact absurd (hk2.2 0 _ (List.getElem?_eq_getElem (by omega))).1 id
      unfold sinceN
      rw [if_pos h1, hd0]
      have e0 : tidOf us2 r2 = ndTid n.E n.T := by unfold tidOf; rw [(nd_of_in hw.nd).2.2]
      rw [e0, if_pos (by simpa using hlt)]
      unfold visD
      rw [hw.nd]
      simp only
      have : ∀ K : List Int, (K.map fun y => if max (0 : Int) 0 < tidOf us2 y then visD us2 (max 0 0) 0 y else 0).sum = 0 := fun K => by
        induction K with
        | nil => rfl
        | cons y K ih => rw [List.map_cons, List.sum_cons, ih]; simp [visD]
      rw [this]
    rw [e1, e2, h2, h1] at this
    exact this
  have cA := fun u (hu : Calm w u) => treeAll_any root A c l u (h.calm hu)
  by_cases hz0 : treeErr l root = 0
  rotate_left
  · rw [if_neg hz0] at cA
    have b1 : (treeErr l root != 0) = true := by rw [bne_iff_ne]; exact hz0
    generalize treeErr l root = R at cA b1
    clear h hz0
    go_enter Try.func5, Try.ntmps5
    go_upto_region 1 with fail
    generalize w.alloc (.cells #[.int .i64 root, .slice A l.length c] 25) = w0 at hx hu ⊢
    obtain ⟨x0, x1, hxs⟩ := rowT hx
    go_wp2_with (first
      | (go_at_call 22; (with_reducible refine (atk_any _ _ _).mono ?_); rintro e w1 ⟨rfl, hb1⟩; replace hx := (hb1.block (rowT hx).2.2).trans hx; obtain ⟨x0, x1, hxs⟩ := rowT hx; replace hu := hu.call hb1; clear hb1)
      | (go_at_call 21; (with_reducible refine (of_A _ _ (heap_new _ _)).mono ?_); rintro e w2 ⟨r2, A2, c2, us2, rfl, hT, k1, k2, k4, k3, hb1⟩; have hTr := hT.at_ (by rw [k3]; have := lvls_le (show [eA].length ≤ 400 by simp); omega); replace hx := (hb1.block (rowT (heap_past _ hx)).2.2).trans (heap_past _ hx); obtain ⟨x0, x1, hxs⟩ := rowT hx; replace hu := (hu.alloc _).call hb1; have K3 := Lib.hid k3; have K4 := Lib.hid k4; clear hb1 hT k3 k4)
      | (go_at_call 28; (with_reducible refine (cF1 _ _ _ _ _ k1 k2 K3.out K4.out hTr).mono ?_); rintro e w3 ⟨v3, rfl, ho3, hb1⟩; obtain ⟨A3, c3, rfl, -, -, -⟩ := ho3.lies (by simp [El.wf, eA]); replace hx := (hb1.block (rowT hx).2.2).trans hx; obtain ⟨x0, x1, hxs⟩ := rowT hx; replace hu := hu.call hb1; clear hb1 ho3 cF1 k1 k2 K3 K4 hTr)
      | (go_at_call 24; (with_reducible refine (cA _ hu).mono ?_); rintro e w5 ⟨v5, rfl, ho5, hb1⟩; obtain ⟨A5, c5, rfl, -, -, hL5⟩ := ho5.lies (by simp); have HL5 := Lib.hid hL5; replace hx := (hb1.block (rowT hx).2.2).trans hx; obtain ⟨x0, x1, hxs⟩ := rowT hx; replace hu := hu.call hb1; clear hb1 ho5 hL5 cA))
    go_ret
    exact ⟨rfl, hu⟩
  have hwfL : ∀ e ∈ allOf l root, e.wf := by unfold allOf; exact recs_wf h _ _
  have hlen : (allOf l root).length ≤ 3200 := by
    obtain ⟨-, -, d, -, -, -, hl⟩ := tree_good hz0
    exact hl
  have hl4 := (tree_good hz0).1
  have hsub : ∀ t, (∀ e ∈ sinceL l root t, e ∈ allOf l root) ∧ (sinceL l root t).length ≤ 3200 := fun t => by
    have e1 : sinceL l root t = (allOf l root).filter fun e => decide (max t 0 < e.last) := by unfold sinceL sinceR; rw [if_pos hz0]; rfl
    rw [e1]
    exact ⟨fun e he => (List.mem_filter.1 he).1, by have := List.length_filter_le (fun e : El => decide (max t 0 < e.last)) (allOf l root); omega⟩
  have hN := new_ok hz0 a b
  have cS : ∀ t u, Calm w u → Calls Try.prog 28 #[.agg #[.int .i64 root, .slice A l.length c], .int .i64 t] u fun e w' => ∃ v, e = .returned (.tuple #[v, .int .i64 (sinceN l root t : Int), .int .i64 0]) ∧ OwnR u.heap.size w' v (sinceL l root t) ∧ Calm u w' := fun t u hu => by
    have := findSince_any root A c l u (h.calm hu) t
    rw [hz0] at this
    exact this
  rw [if_pos hz0, hz0] at cA
  have HH := Lib.hid h
  obtain ⟨lo, hi, hlh0, hle⟩ : ∃ lo hi, (a < b ∧ a = lo ∧ b = hi ∨ (a = lo ∧ b = lo ∧ hi = lo) ∨ b < a ∧ b = lo ∧ a = hi) ∧ lo ≤ hi := by
    rcases Int.lt_trichotomy a b with hab | hab | hab
    · exact ⟨a, b, .inl ⟨hab, rfl, rfl⟩, by omega⟩
    · exact ⟨a, a, .inr (.inl ⟨rfl, hab.symm, rfl⟩), by omega⟩
    · exact ⟨b, a, .inr (.inr ⟨hab, rfl, rfl⟩), by omega⟩
  have cS0 := cS 0
  have cSM := cS 2147483647
  have cSl := cS lo
  have cSh := cS hi
  rw [hN.zero] at cS0
  rw [hN.last.1, hN.last.2] at cSM
  have hf0 := hN.few 0
  have hfh := hN.few hi
  have han := (hN.anti lo hi hle).1
  have HSS := Lib.hid (hN.anti lo hi hle).2
  have HLT := Lib.hid (hN.late hi)
  have hw3 : ∀ e ∈ sinceL l root lo, e.wf := fun e he => hwfL e ((hsub lo).1 e he)
  have hw4 : ∀ e ∈ sinceL l root hi, e.wf := fun e he => hwfL e ((hsub hi).1 e he)
  have hl3 := (hsub lo).2
  have hlh := (hsub hi).2
  clear h hz0 hN hsub cS
  have hw1 := hwfL
  generalize allOf l root = L at cA cS0 hwfL hw1 hlen
  generalize sinceN l root 0 = n0 at cS0 hf0
  generalize sinceN l root lo = nlo at cSl han
  generalize sinceN l root hi = nhi at cSh han hfh
  generalize sinceL l root lo = Llo at cSl HSS hw3 hl3
  generalize sinceL l root hi = Lhi at cSh HSS HLT hw4 hlh
  go_enter Try.func5, Try.ntmps5
  go_upto_region 1 with fail
  generalize w.alloc (.cells #[.int .i64 root, .slice A l.length c] 25) = w0 at hx hu ⊢
  obtain ⟨x0, x1, hxs⟩ := rowT hx
  go_wp2_with (first
    | (go_at_call 22; (with_reducible refine (atk_any _ _ _).mono ?_); rintro e w1 ⟨rfl, hb1⟩; replace hx := (hb1.block (rowT hx).2.2).trans hx; obtain ⟨x0, x1, hxs⟩ := rowT hx; replace hu := hu.call hb1; clear hb1)
    | (go_at_call 21; (with_reducible refine (of_A _ _ (heap_new _ _)).mono ?_); rintro e w2 ⟨r2, A2, c2, us2, rfl, hT, k1, k2, k4, k3, hb1⟩; have hTr := hT.at_ (by rw [k3]; have := lvls_le (show [eA].length ≤ 400 by simp); omega); replace hx := (hb1.block (rowT (heap_past _ hx)).2.2).trans (heap_past _ hx); obtain ⟨x0, x1, hxs⟩ := rowT hx; replace hu := (hu.alloc _).call hb1; have K3 := Lib.hid k3; have K4 := Lib.hid k4; clear hb1 hT k3 k4)
    | (go_at_call 28; (with_reducible refine (cF1 _ _ _ _ _ k1 k2 K3.out K4.out hTr).mono ?_); rintro e w3 ⟨v3, rfl, ho3, hb1⟩; obtain ⟨A3, c3, rfl, -, -, -⟩ := ho3.lies (by simp [El.wf, eA]); replace hx := (hb1.block (rowT hx).2.2).trans hx; obtain ⟨x0, x1, hxs⟩ := rowT hx; replace hu := hu.call hb1; clear hb1 ho3 cF1 k1 k2 K3 K4 hTr)
    | (go_at_call 24; (with_reducible refine (cA _ hu).mono ?_); rintro e w5 ⟨v5, rfl, ho5, hb1⟩; obtain ⟨A5, c5, rfl, -, -, hL5⟩ := ho5.lies hwfL; have HL5 := Lib.hid hL5; replace hx := (hb1.block (rowT hx).2.2).trans hx; obtain ⟨x0, x1, hxs⟩ := rowT hx; replace hu := hu.call hb1; clear hb1 ho5 hL5 cA))
  have HU := Lib.hid hu
  have hbase := Calm.refl w5
  clear hu x0 x1 hxs
  go_loopw [12, 57] (fun us i wr => ∃ k : Nat, k ≤ l.length ∧ i = .int .i64 k ∧ us = .int .i64 (usedOf (l.take k) : Int) ∧ Calm w5 wr) (fun _ i _ => l.length - (intOf i).toNat)
  case atStart => exact ⟨0, Nat.zero_le _, rfl, rfl, Calm.refl _⟩
  case round =>
    obtain ⟨k, hk, rfl, rfl, hv⟩ := hrel
    by_cases hlt : k < l.length
    · obtain ⟨bb, qq, kd, A1, B2, B3, B4, d1, d2, d3, d4, E, K, S, T, rfl, hb9, HN9, -, n0', n1', n2', n3', n4'⟩ := (HH.out.calm (HU.out.call hv)).get hlt
      have hut := used_take HN9.out
      simp only at hut
      have hule : usedOf (l.take k) ≤ 400 := by
        have : usedOf (l.take k) ≤ (l.take k).length := List.countP_le_length
        rw [List.length_take] at this; omega
      have hal := (Calm.refl wr).alloc (.cells #[.int .i64 kd, .slice A1 E.length d1, .slice B2 K.length d2, .slice B3 S.length d3, .slice B4 T.length d4] 59)
      have hbx := heap_new wr (.cells #[.int .i64 kd, .slice A1 E.length d1, .slice B2 K.length d2, .slice B3 S.length d3, .slice B4 T.length d4] 59)
      obtain ⟨y0, y1, y2, y3, y4, hys⟩ := row5 hbx
      by_cases hk0 : kd = 0
      · subst hk0
        rw [if_neg (by simp), Nat.add_zero] at hut
        generalize usedOf (l.take k) = U at hut hule ⊢
        have HUT := Lib.hid hut
        clear hut
        go_wp2_with fail
        go_roundw
        case rel => exact ⟨k + 1, by omega, by go_num, by rw [HUT.out]; rfl, hv.call hal⟩
        case measure => simp [intOf]; omega
      · rw [if_pos hk0] at hut
        have e1 : (kd != 0) = true := by simpa using hk0
        generalize usedOf (l.take k) = U at hut hule ⊢
        have HUT := Lib.hid hut
        have e2 : IntKind.i64.wrap ((U : Int) + 1) = ((U + 1 : Nat) : Int) := by rw [IntWalk.i64_in _ (by omega)]; omega
        obtain ⟨U2, hU2⟩ : ∃ U2, U2 = U + 1 := ⟨_, rfl⟩
        rw [← hU2] at e2
        have HU2 := Lib.hid hU2
        clear hut hU2
        go_wp2_with fail
        go_roundw
        case rel => exact ⟨k + 1, by omega, by go_num, by rw [HUT.out, ← HU2.out], hv.call hal⟩
        case measure => simp [intOf]; omega
    · obtain rfl : k = l.length := by omega
      rw [List.take_length]
      replace hx := (hv.block (rowT hx).2.2).trans hx
      obtain ⟨x0, x1, hxs⟩ := rowT hx
      have hU8 := Lib.hid (HU.out.call hv)
      have HL8 := Lib.hid (HL5.out.calm hv)
      generalize usedOf l = UL at hf0 hfh ⊢
      have i1 : ¬ (UL : Int) < (n0 : Int) := by omega
      have i2 : ¬ (nlo : Int) < (nhi : Int) := by omega
      have i3 : ¬ (UL : Int) < (nhi : Int) := by omega
      obtain ⟨wo, hwo⟩ : ∃ wo : World, wo = wr := ⟨_, rfl⟩
      subst hwo
      have hv := Calm.refl wo
      clear HL5 HU HH
      rcases hlh0 with ⟨hab, ha, hb⟩ | ⟨ha, hb, hh⟩ | ⟨hab, hb, ha⟩
      · subst ha
        subst hb
        go_wp2_with (first
          | (go_at_call 28; (with_reducible refine (cS0 _ (hU8.out.call hv)).mono ?_); rintro e w11 ⟨v11, rfl, ho11, hb1⟩; obtain ⟨B1, d1, rfl, -, -, hS1⟩ := ho11.lies hw1; replace hx := (hb1.block (rowT hx).2.2).trans hx; obtain ⟨x0, x1, hxs⟩ := rowT hx; replace hv := hv.call hb1; clear hb1 ho11 cS0)
          | (go_at_call 28; (with_reducible refine (cSM _ (hU8.out.call hv)).mono ?_); rintro e w12 ⟨v12, rfl, ho12, hb1⟩; obtain ⟨B2, d2, rfl, -, -, -⟩ := ho12.lies (by simp); replace hS1 := hS1.calm hb1; replace hx := (hb1.block (rowT hx).2.2).trans hx; obtain ⟨x0, x1, hxs⟩ := rowT hx; replace hv := hv.call hb1; clear hb1 ho12 cSM)
          | (go_at_call 28; (with_reducible refine (cSl _ (hU8.out.call hv)).mono ?_); rintro e w13 ⟨v13, rfl, ho13, hb1⟩; obtain ⟨B3, d3, rfl, -, -, hS3⟩ := ho13.lies hw3; replace hS1 := hS1.calm hb1; replace hx := (hb1.block (rowT hx).2.2).trans hx; obtain ⟨x0, x1, hxs⟩ := rowT hx; replace hv := hv.call hb1; clear hb1 ho13 cSl)
          | (go_at_call 28; (with_reducible refine (cSh _ (hU8.out.call hv)).mono ?_); rintro e w14 ⟨v14, rfl, ho14, hb1⟩; obtain ⟨B4, d4, rfl, -, -, hS4⟩ := ho14.lies hw4; replace hS1 := hS1.calm hb1; replace hS3 := hS3.calm hb1; have hv14 := Calm.refl w14; replace hx := (hb1.block (rowT hx).2.2).trans hx; obtain ⟨x0, x1, hxs⟩ := rowT hx; replace hv := hv.call hb1; clear hb1 ho14 cSh)
          | (go_at_call 23; (with_reducible refine (equal_self _ _ _ _ L _ (by omega) hS1 (HL8.out.calm hv)).mono ?_); rintro e w15 ⟨rfl, hb1⟩; replace hv := hv.call hb1; replace hv14 := hv14.call hb1; clear hb1))
        have HB4 := Lib.hid hS4
        have HB3 := Lib.hid hS3
        have HV := Lib.hid hv
        have HV14 := Lib.hid hv14
        (try clear x0 x1 hxs)
        have g1 : decide (UL < n0) = false := decide_eq_false (by omega)
        have g2 : decide (nlo < nhi) = false := decide_eq_false (by omega)
        have g3 : decide (UL < nhi) = false := decide_eq_false (by omega)
        simp only [g1, g2, g3, Bool.or_self]
        clear hS4 hS3 hv hv14 hx hS1 HL8 i1 i2 i3 hf0 hfh han g1 g2 g3
        go_loopw [143] (fun i wr => ∃ k : Nat, k ≤ Lhi.length ∧ i = .int .i64 k ∧ Calm w15 wr) (fun i _ => Lhi.length - (intOf i).toNat)
        case atStart => exact ⟨0, Nat.zero_le _, rfl, Calm.refl _⟩
        case round =>
          obtain ⟨k, hk, rfl, hq⟩ := hrel
          by_cases hlt : k < Lhi.length
          · obtain ⟨b9, q9, p, o, f, m, g, s, rfl, hb9, HE, hm, e0, e1, e2, e3, e4, e5⟩ := (HB4.out.calm (HV14.out.call hq)).get hlt
            have hin := HSS.out _ (List.mem_of_getElem? HE.out)
            have hla : b < lastOf m g := HLT.out _ (List.mem_of_getElem? HE.out)
            have cE : ∀ u, Calm wr u → Calls Try.prog 29 #[.slice B3 Llo.length d3, .agg #[.int .i64 p, .int .i64 o, .int .i64 f, .int .i64 m, .int .i64 g, .string s]] u fun e w' => e = .returned (.bool true) ∧ Calm u w' := fun u hu => by
              have := containsE_any B3 d3 Llo p o f m g s u (by omega) (HB3.out.calm (HV14.out.call (hq.call hu)))
              rw [decide_eq_true hin] at this
              exact this
            have cL := fun u => last_any p o f m g s u
            generalize lastOf m g = LA at hla cL
            have hal := (Calm.refl wr).alloc (.cells #[.int .i64 p, .int .i64 o, .int .i64 f, .int .i64 m, .int .i64 g, .string s] 33)
            have hbx := heap_new wr (.cells #[.int .i64 p, .int .i64 o, .int .i64 f, .int .i64 m, .int .i64 g, .string s] 33)
            have hnl : ¬ LA ≤ b := by omega
            clear hin HE hm
            go_upto_region 23 with fail
            generalize wr.alloc (.cells #[.int .i64 p, .int .i64 o, .int .i64 f, .int .i64 m, .int .i64 g, .string s] 33) = wc at hal hbx ⊢
            obtain ⟨y0, y1, y2, y3, y4, y5, hys⟩ := row6 hbx
            go_wp2_with (first
              | (go_at_call 29; (with_reducible refine (cE _ hal).mono ?_); rintro e w21 ⟨rfl, hb1⟩; replace hbx := (hb1.block (row6 hbx).2.2.2.2.2.2).trans hbx; replace hal := hal.call hb1; clear hb1; obtain ⟨y0, y1, y2, y3, y4, y5, hys⟩ := row6 hbx)
              | (go_at_call 30; (with_reducible refine (cL _).mono ?_); rintro e w22 ⟨rfl, hb1⟩; replace hal := hal.call hb1; clear hb1))
            go_roundw
            case rel => exact ⟨k + 1, by omega, by go_num, hq.call hal⟩
            case measure => simp [intOf]; omega
          · go_wp2_with fail
            go_ret
            exact ⟨rfl, hU8.out.call (HV.out.call hq)⟩
      · subst hh
        subst hb
        subst ha
        go_wp2_with (first
          | (go_at_call 28; (with_reducible refine (cS0 _ (hU8.out.call hv)).mono ?_); rintro e w11 ⟨v11, rfl, ho11, hb1⟩; obtain ⟨B1, d1, rfl, -, -, hS1⟩ := ho11.lies hw1; replace hx := (hb1.block (rowT hx).2.2).trans hx; obtain ⟨x0, x1, hxs⟩ := rowT hx; replace hv := hv.call hb1; clear hb1 ho11 cS0)
          | (go_at_call 28; (with_reducible refine (cSM _ (hU8.out.call hv)).mono ?_); rintro e w12 ⟨v12, rfl, ho12, hb1⟩; obtain ⟨B2, d2, rfl, -, -, -⟩ := ho12.lies (by simp); replace hS1 := hS1.calm hb1; replace hx := (hb1.block (rowT hx).2.2).trans hx; obtain ⟨x0, x1, hxs⟩ := rowT hx; replace hv := hv.call hb1; clear hb1 ho12 cSM)
          | (go_at_call 28; (with_reducible refine (cSl _ (hU8.out.call hv)).mono ?_); rintro e w13 ⟨v13, rfl, ho13, hb1⟩; obtain ⟨B3, d3, rfl, -, -, hS3⟩ := ho13.lies hw3; replace hS1 := hS1.calm hb1; replace hx := (hb1.block (rowT hx).2.2).trans hx; obtain ⟨x0, x1, hxs⟩ := rowT hx; replace hv := hv.call hb1; clear hb1 ho13 cSl)
          | (go_at_call 28; (with_reducible refine (cSh _ (hU8.out.call hv)).mono ?_); rintro e w14 ⟨v14, rfl, ho14, hb1⟩; obtain ⟨B4, d4, rfl, -, -, hS4⟩ := ho14.lies hw4; replace hS1 := hS1.calm hb1; replace hS3 := hS3.calm hb1; have hv14 := Calm.refl w14; replace hx := (hb1.block (rowT hx).2.2).trans hx; obtain ⟨x0, x1, hxs⟩ := rowT hx; replace hv := hv.call hb1; clear hb1 ho14 cSh)
          | (go_at_call 23; (with_reducible refine (equal_self _ _ _ _ L _ (by omega) hS1 (HL8.out.calm hv)).mono ?_); rintro e w15 ⟨rfl, hb1⟩; replace hv := hv.call hb1; replace hv14 := hv14.call hb1; clear hb1))
        have HB4 := Lib.hid hS4
        have HB3 := Lib.hid hS3
        have HV := Lib.hid hv
        have HV14 := Lib.hid hv14
        (try clear x0 x1 hxs)
        have g1 : decide (UL < n0) = false := decide_eq_false (by omega)
        have g2 : decide (nlo < nhi) = false := decide_eq_false (by omega)
        have g3 : decide (UL < nhi) = false := decide_eq_false (by omega)
        simp only [g1, g2, g3, Bool.or_self]
        clear hS4 hS3 hv hv14 hx hS1 HL8 i1 i2 i3 hf0 hfh han g1 g2 g3
        go_loopw [143] (fun i wr => ∃ k : Nat, k ≤ Lhi.length ∧ i = .int .i64 k ∧ Calm w15 wr) (fun i _ => Lhi.length - (intOf i).toNat)
        case atStart => exact ⟨0, Nat.zero_le _, rfl, Calm.refl _⟩
        case round =>
          obtain ⟨k, hk, rfl, hq⟩ := hrel
          by_cases hlt : k < Lhi.length
          · obtain ⟨b9, q9, p, o, f, m, g, s, rfl, hb9, HE, hm, e0, e1, e2, e3, e4, e5⟩ := (HB4.out.calm (HV14.out.call hq)).get hlt
            have hin := HSS.out _ (List.mem_of_getElem? HE.out)
            have hla : a < lastOf m g := HLT.out _ (List.mem_of_getElem? HE.out)
            have cE : ∀ u, Calm wr u → Calls Try.prog 29 #[.slice B3 Llo.length d3, .agg #[.int .i64 p, .int .i64 o, .int .i64 f, .int .i64 m, .int .i64 g, .string s]] u fun e w' => e = .returned (.bool true) ∧ Calm u w' := fun u hu => by
              have := containsE_any B3 d3 Llo p o f m g s u (by omega) (HB3.out.calm (HV14.out.call (hq.call hu)))
              rw [decide_eq_true hin] at this
              exact this
            have cL := fun u => last_any p o f m g s u
            generalize lastOf m g = LA at hla cL
            have hal := (Calm.refl wr).alloc (.cells #[.int .i64 p, .int .i64 o, .int .i64 f, .int .i64 m, .int .i64 g, .string s] 33)
            have hbx := heap_new wr (.cells #[.int .i64 p, .int .i64 o, .int .i64 f, .int .i64 m, .int .i64 g, .string s] 33)
            have hnl : ¬ LA ≤ a := by omega
            clear hin HE hm
            go_upto_region 23 with fail
            generalize wr.alloc (.cells #[.int .i64 p, .int .i64 o, .int .i64 f, .int .i64 m, .int .i64 g, .string s] 33) = wc at hal hbx ⊢
            obtain ⟨y0, y1, y2, y3, y4, y5, hys⟩ := row6 hbx
            go_wp2_with (first
              | (go_at_call 29; (with_reducible refine (cE _ hal).mono ?_); rintro e w21 ⟨rfl, hb1⟩; replace hbx := (hb1.block (row6 hbx).2.2.2.2.2.2).trans hbx; replace hal := hal.call hb1; clear hb1; obtain ⟨y0, y1, y2, y3, y4, y5, hys⟩ := row6 hbx)
              | (go_at_call 30; (with_reducible refine (cL _).mono ?_); rintro e w22 ⟨rfl, hb1⟩; replace hal := hal.call hb1; clear hb1))
            go_roundw
            case rel => exact ⟨k + 1, by omega, by go_num, hq.call hal⟩
            case measure => simp [intOf]; omega
          · go_wp2_with fail
            go_ret
            exact ⟨rfl, hU8.out.call (HV.out.call hq)⟩
      · subst ha
        subst hb
        go_wp2_with (first
          | (go_at_call 28; (with_reducible refine (cS0 _ (hU8.out.call hv)).mono ?_); rintro e w11 ⟨v11, rfl, ho11, hb1⟩; obtain ⟨B1, d1, rfl, -, -, hS1⟩ := ho11.lies hw1; replace hx := (hb1.block (rowT hx).2.2).trans hx; obtain ⟨x0, x1, hxs⟩ := rowT hx; replace hv := hv.call hb1; clear hb1 ho11 cS0)
          | (go_at_call 28; (with_reducible refine (cSM _ (hU8.out.call hv)).mono ?_); rintro e w12 ⟨v12, rfl, ho12, hb1⟩; obtain ⟨B2, d2, rfl, -, -, -⟩ := ho12.lies (by simp); replace hS1 := hS1.calm hb1; replace hx := (hb1.block (rowT hx).2.2).trans hx; obtain ⟨x0, x1, hxs⟩ := rowT hx; replace hv := hv.call hb1; clear hb1 ho12 cSM)
          | (go_at_call 28; (with_reducible refine (cSl _ (hU8.out.call hv)).mono ?_); rintro e w13 ⟨v13, rfl, ho13, hb1⟩; obtain ⟨B3, d3, rfl, -, -, hS3⟩ := ho13.lies hw3; replace hS1 := hS1.calm hb1; replace hx := (hb1.block (rowT hx).2.2).trans hx; obtain ⟨x0, x1, hxs⟩ := rowT hx; replace hv := hv.call hb1; clear hb1 ho13 cSl)
          | (go_at_call 28; (with_reducible refine (cSh _ (hU8.out.call hv)).mono ?_); rintro e w14 ⟨v14, rfl, ho14, hb1⟩; obtain ⟨B4, d4, rfl, -, -, hS4⟩ := ho14.lies hw4; replace hS1 := hS1.calm hb1; replace hS3 := hS3.calm hb1; have hv14 := Calm.refl w14; replace hx := (hb1.block (rowT hx).2.2).trans hx; obtain ⟨x0, x1, hxs⟩ := rowT hx; replace hv := hv.call hb1; clear hb1 ho14 cSh)
          | (go_at_call 23; (with_reducible refine (equal_self _ _ _ _ L _ (by omega) hS1 (HL8.out.calm hv)).mono ?_); rintro e w15 ⟨rfl, hb1⟩; replace hv := hv.call hb1; replace hv14 := hv14.call hb1; clear hb1))
        have HB4 := Lib.hid hS4
        have HB3 := Lib.hid hS3
        have HV := Lib.hid hv
        have HV14 := Lib.hid hv14
        (try clear x0 x1 hxs)
        have g1 : decide (UL < n0) = false := decide_eq_false (by omega)
        have g2 : decide (nlo < nhi) = false := decide_eq_false (by omega)
        have g3 : decide (UL < nhi) = false := decide_eq_false (by omega)
        simp only [g1, g2, g3, Bool.or_self]
        clear hS4 hS3 hv hv14 hx hS1 HL8 i1 i2 i3 hf0 hfh han g1 g2 g3
        go_loopw [143] (fun i wr => ∃ k : Nat, k ≤ Lhi.length ∧ i = .int .i64 k ∧ Calm w15 wr) (fun i _ => Lhi.length - (intOf i).toNat)
        case atStart => exact ⟨0, Nat.zero_le _, rfl, Calm.refl _⟩
        case round =>
          obtain ⟨k, hk, rfl, hq⟩ := hrel
          by_cases hlt : k < Lhi.length
          · obtain ⟨b9, q9, p, o, f, m, g, s, rfl, hb9, HE, hm, e0, e1, e2, e3, e4, e5⟩ := (HB4.out.calm (HV14.out.call hq)).get hlt
            have hin := HSS.out _ (List.mem_of_getElem? HE.out)
            have hla : a < lastOf m g := HLT.out _ (List.mem_of_getElem? HE.out)
            have cE : ∀ u, Calm wr u → Calls Try.prog 29 #[.slice B3 Llo.length d3, .agg #[.int .i64 p, .int .i64 o, .int .i64 f, .int .i64 m, .int .i64 g, .string s]] u fun e w' => e = .returned (.bool true) ∧ Calm u w' := fun u hu => by
              have := containsE_any B3 d3 Llo p o f m g s u (by omega) (HB3.out.calm (HV14.out.call (hq.call hu)))
              rw [decide_eq_true hin] at this
              exact this
            have cL := fun u => last_any p o f m g s u
            generalize lastOf m g = LA at hla cL
            have hal := (Calm.refl wr).alloc (.cells #[.int .i64 p, .int .i64 o, .int .i64 f, .int .i64 m, .int .i64 g, .string s] 33)
            have hbx := heap_new wr (.cells #[.int .i64 p, .int .i64 o, .int .i64 f, .int .i64 m, .int .i64 g, .string s] 33)
            have hnl : ¬ LA ≤ a := by omega
            clear hin HE hm
            go_upto_region 23 with fail
            generalize wr.alloc (.cells #[.int .i64 p, .int .i64 o, .int .i64 f, .int .i64 m, .int .i64 g, .string s] 33) = wc at hal hbx ⊢
            obtain ⟨y0, y1, y2, y3, y4, y5, hys⟩ := row6 hbx
            go_wp2_with (first
              | (go_at_call 29; (with_reducible refine (cE _ hal).mono ?_); rintro e w21 ⟨rfl, hb1⟩; replace hbx := (hb1.block (row6 hbx).2.2.2.2.2.2).trans hbx; replace hal := hal.call hb1; clear hb1; obtain ⟨y0, y1, y2, y3, y4, y5, hys⟩ := row6 hbx)
              | (go_at_call 30; (with_reducible refine (cL _).mono ?_); rintro e w22 ⟨rfl, hb1⟩; replace hal := hal.call hb1; clear hb1))
            go_roundw
            case rel => exact ⟨k + 1, by omega, by go_num, hq.call hal⟩
            case measure => simp [intOf]; omega
          · go_wp2_with fail
            go_ret
            exact ⟨rfl, hU8.out.call (HV.out.call hq)⟩
end Go.Proofs.Ytccfcloekjogkaa
