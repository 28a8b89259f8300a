/- Texts of one kind in one file. -/
import Derived.Test.YtjciklifiidecaaPkTopMirror5
set_option maxRecDepth 100000
namespace Go.Proofs.Ytjciklifiidecaa
open Go.RowKit
def sinceR (t : Int) (L M : List El) : List El := L ++ M.filter fun e => decide (t < e.last)
theorem sinceR_append (t : Int) (L M1 M2 : List El) : sinceR t L (M1 ++ M2) = sinceR t (sinceR t L M1) M2 := by simp [sinceR]
theorem sinceR_nil (t : Int) (L : List El) : sinceR t L [] = L := by simp [sinceR]
theorem sinceR_len (t : Int) (L M : List El) : (sinceR t L M).length ≤ L.length + M.length := by
 unfold sinceR
 rw [List.length_append]
 have := List.length_filter_le (fun e : El => decide (t < e.last)) M
 omega
theorem sinceR_skip {t : Int} {L M : List El} (h : lateOf M ≤ t) : sinceR t L M = L := by
 unfold sinceR
 rw [List.filter_eq_nil_iff.2 fun e he => by
  have := (gMax_ge (M.map El.last) 0).2 e.last (List.mem_map.2 ⟨e, he, rfl⟩)
  unfold lateOf at h
  simp; omega]
 simp
theorem sinceR_take {t : Int} {L E : List El} {k : Nat} {e : El} (h : E[k]? = some e) : sinceR t L (E.take (k + 1)) = if t < e.last then sinceR t L (E.take k) ++ [e] else sinceR t L (E.take k) := by
 rw [← takeSnoc' h, sinceR_append]
 by_cases h2 : t < e.last
 ·rw [if_pos h2]; simp [sinceR, h2]
 ·rw [if_neg h2]; simp [sinceR, h2]
def visD (l : List Nd) (t : Int) : Nat → Int → Nat
 | 0, _ => 0
 |d + 1, x => match ndOf l x with | none => 0 | some n => 1 + (n.K.map fun y => if t < tidOf l y then visD l t d y else 0).sum
theorem visD_le (l : List Nd) (t : Int) : ∀ (d : Nat) (x : Int), visD l t d x ≤ (nodesD l d x).length
 | 0, _ => by simp [visD, nodesD]
 |d + 1, x => by
  rw [visD, nodesD]
  cases ndOf l x with
  |none => simp
  |some n =>
   simp only [List.length_cons]
   have key : ∀ K : List Int, (K.map fun y => if t < tidOf l y then visD l t d y else 0).sum ≤ (K.flatMap (nodesD l d)).length := by
    intro K
    induction K with
    |nil => simp
    |cons y K ih =>
     simp only [List.map_cons, List.sum_cons, List.flatMap_cons, List.length_append]
     have := visD_le l t d y
     split <;> omega
   have := key n.K
   omega
theorem visK_le (l : List Nd) (t : Int) (d : Nat) : ∀ K : List Int, (K.map fun y => if t < tidOf l y then visD l t d y else 0).sum ≤ (K.flatMap (nodesD l d)).length
 | [] => by simp
 |y :: K => by
  simp only [List.map_cons, List.sum_cons, List.flatMap_cons, List.length_append]
  have := visD_le l t d y
  have := visK_le l t d K
  split <;> omega
def visK (l : List Nd) (t : Int) (d : Nat) (K : List Int) (j : Nat) : Nat := 1 + ((K.take j).map fun y => if t < tidOf l y then visD l t d y else 0).sum
theorem visK_step {l : List Nd} {t : Int} {d : Nat} {K : List Int} {j : Nat} {y : Int} (h : K[j]? = some y) : visK l t d K (j + 1) = visK l t d K j + (if t < tidOf l y then visD l t d y else 0) := by
 unfold visK
 rw [← takeSnoc' h, List.map_append, List.sum_append]
 simp; omega
theorem visK_max (l : List Nd) (t : Int) (d : Nat) (K : List Int) (j : Nat) : visK l t d K j ≤ 1 + (K.flatMap (nodesD l d)).length := by
 unfold visK
 have a := visK_le l t d (K.take j)
 have b := flat_le (nodesD l d) K j
 omega
def SinceEnd (B : Nat) (w : World) (v : Value) (L : List El) (n : Nat) (e : Ending) (w' : World) : Prop := ∃ v', e = .returned (.tuple #[v', .int .i64 (n : Int)]) ∧ OwnR B w' v' L ∧ Grw w w' v v'
def SinceOk (root : Int) (A : Option Addr) (c : Nat) (l : List Nd) (w0 : World) (t : Int) (d : Nat) : Prop := ∀ (x : Int) (_ : Deep l d x) (v : Value) (L : List El) (w : World)
    (_ : Calm w0 w) (_ : OwnR w0.heap.size w v L) (_ : L.length + (recsD l d x).length ≤ 1000000) (_ : (nodesD l d x).length ≤ 400),
    Calls Try.prog 37 #[v, .agg #[.int .i64 root, .slice A l.length c], .int .i64 x, .int .i64 t] w (SinceEnd w0.heap.size w v (sinceR t L (recsD l d x)) (visD l t d x))
set_option maxHeartbeats 16000000 in
theorem appendSince_step (root : Int) (A : Option Addr) (c : Nat) (l : List Nd) (hok : NdsOk l) (hT : TimeP l) (w0 : World) (h0 : TrAt w0 A l) (t : Int) (d : Nat) (ih : Hid (SinceOk root A c l w0 t d)) : SinceOk root A c l w0 t (d + 1) := by
    intro x hD v L w hc ho hlen hnod
    obtain ⟨n, hn, hcase⟩ := id hD
    obtain ⟨i1, i2, i3⟩ := nd_of_in hn
    obtain ⟨XX, rfl⟩ : ∃ XX : Nat, x = (XX : Int) := ⟨x.toNat, by omega⟩
    rw [Int.toNat_natCast] at i3
    have hXl : XX < l.length := by omega
    have hFN : sinceR t L (recsD l (d + 1) (XX : Int)) = sinceR t (sinceR t L n.E) (n.K.flatMap (recsD l d)) := by rw [recsD, hn]; simp only; rw [sinceR_append]
    have hVN : visD l t (d + 1) (XX : Int) = 1 + (n.K.map fun y => if t < tidOf l y then visD l t d y else 0).sum := by rw [visD, hn]
    have hsz := nd_sizes (hok n (List.mem_of_getElem? i3))
    have hlR : L.length + (n.E.length + (n.K.flatMap (recsD l d)).length) ≤ 1000000 := by rw [recsD, hn] at hlen; simpa using hlen
    have hnR : (n.K.flatMap (nodesD l d)).length ≤ 400 := by rw [nodesD, hn] at hnod; simp at hnod; simp; omega
    have hkid : ∀ (j : Nat) (y : Int), n.K[j]? = some y → Deep l d y ∧ n.T[j]? = some (tidOf l y) := fun j y hy =>
      ⟨by rcases hcase with ⟨h1, -⟩ | ⟨-, h3⟩
          · have := hsz.2.2.2.2.2 h1; rw [this] at hy; simp at hy
          · exact h3 y (List.mem_of_getElem? hy), hT XX n i3 j y hy⟩
    obtain ⟨b, q, kd, A1, A2, A3, A4, c1, c2, c3, c4, E, K, S, T, hA, hbb, HN, HA, n0, n1, n2, n3, n4⟩ := h0.get hXl
    cases hA
    have hnd : n = ⟨kd, A1, A2, A3, A4, c1, c2, c3, c4, E, K, S, T⟩ := by
      have := HN.out
      rw [i3] at this
      exact Option.some.inj this
    subst hnd
    simp only at hFN hVN hsz hlR hnR hkid
    have HFN := Lib.hid hFN
    have HVN := Lib.hid hVN
    have HSZ := Lib.hid hsz
    have HLR := Lib.hid hlR
    have HNR := Lib.hid hnR
    have HKID := Lib.hid hkid
    have hxl : (XX : Int) < (l.length : Int) := by omega
    clear hFN hVN hsz hlR hnR hkid hcase hlen hnod hD hn
    have hx := heap_new w (.cells #[.int .i64 root, .slice (some ⟨b, q, none⟩) l.length c] 24)
    have hu := (Calm.refl w).alloc (.cells #[.int .i64 root, .slice (some ⟨b, q, none⟩) l.length c] 24)
    have hs1 : (w.alloc (.cells #[.int .i64 root, .slice (some ⟨b, q, none⟩) l.length c] 24)).heap.size = w.heap.size + 1 := by simp
    have hvlt : Hid (∀ k, v.ownBlock = some k → w0.heap.size ≤ k ∧ k < w.heap.size) := show ∀ _, _ from fun k hk => ho.lt k hk
    have hvb : Hid (∀ k, v.ownBlock = some k → w0.heap.size ≤ k) := show ∀ _, _ from fun k hk => (ho.lt k hk).1
    go_enter Try.func37, Try.ntmps37
    go_upto_region 1 with fail
    have hO1 := Lib.hid (ho.calm hu)
    generalize w.alloc (.cells #[.int .i64 root, .slice (some ⟨b, q, none⟩) l.length c] 24) = w1 at hx hu hs1 hO1 ⊢
    obtain ⟨x0, x1, hxs⟩ := rowT hx
    have hvc := (hc.call hu).facts.1
    replace n0 := (hvc _ _ hbb).trans n0; replace n1 := (hvc _ _ hbb).trans n1; replace n2 := (hvc _ _ hbb).trans n2; replace n3 := (hvc _ _ hbb).trans n3; replace n4 := (hvc _ _ hbb).trans n4
    have hbb1 : b < w1.heap.size := Nat.lt_of_lt_of_le hbb (hc.call hu).size
    have HS1 := Lib.hid hs1
    clear hvc hs1
    go_upto_region 2 with fail
    have hnb := heap_new w1 (.cells #[.int .i64 kd, .slice A1 E.length c1, .slice A2 K.length c2, .slice A3 S.length c3, .slice A4 T.length c4] 36)
    have hc3 := (Calm.refl w1).alloc (.cells #[.int .i64 kd, .slice A1 E.length c1, .slice A2 K.length c2, .slice A3 S.length c3, .slice A4 T.length c4] 36)
    have hs3 : (w1.alloc (.cells #[.int .i64 kd, .slice A1 E.length c1, .slice A2 K.length c2, .slice A3 S.length c3, .slice A4 T.length c4] 36)).heap.size = w1.heap.size + 1 := by simp
    generalize w1.alloc (.cells #[.int .i64 kd, .slice A1 E.length c1, .slice A2 K.length c2, .slice A3 S.length c3, .slice A4 T.length c4] 36) = w3 at hnb hc3 hs3 ⊢
    have hx3 := (hc3.block (rowT hx).2.2).trans hx
    have hu3 := hu.call hc3
    have hO3 := Lib.hid (hO1.out.calm hc3)
    have HC3 := Lib.hid (hc.call hu3)
    have HS := Lib.hid (And.intro HS1.out hs3)
    have hvs : Hid (∀ k, v.ownBlock = some k → k < w.heap.size) := show ∀ _, _ from fun k hk => (hvlt.out k hk).2
    obtain ⟨m0, m1, m2, m3, m4, hms⟩ := row5 hnb
    clear hs3 hc3 x0 x1 hxs n0 n1 n2 n3 n4 hbb hbb1 hx hO1
    go_wp2_with fail
    go_loopw [0, 25] (fun a i wr => ∃ (k : Nat) (v' : Value), k ≤ E.length ∧ i = .int .i64 k ∧ a = v' ∧ Hid (OwnR w0.heap.size wr v' (sinceR t L (E.take k))) ∧ Hid (Grw w3 wr v v')) (fun _ i _ => E.length - (intOf i).toNat)
    case atStart => exact ⟨0, v, Nat.zero_le _, rfl, rfl, (show OwnR _ _ _ _ by rw [List.take_zero, sinceR_nil]; exact hO3.out), Grw.refl _ _⟩
    clear m0 m1 m2 m3 m4 hms hO3
    case round =>
      obtain ⟨k, v', hkE, rfl, rfl, hO, hG⟩ := hrel
      have hcr := Lib.hid (Grw.calm HC3.out hG.out hvb.out)
      have hxr := (hG.out.block (k := w.heap.size) (by have := HS.out; omega) (fun j hj => hvs.out j hj)).trans hx3
      have hnr := (hG.out.block (k := w1.heap.size) (by have := HS.out; omega) (fun j hj => by have := hvs.out j hj; have := HS.out; omega)).trans hnb
      obtain ⟨x0, x1, hxs⟩ := rowT hxr
      obtain ⟨m0, m1, m2, m3, m4, hms⟩ := row5 hnr
      obtain ⟨MM, hMM⟩ : ∃ MM, sinceR t L (E.take k) = MM := ⟨_, rfl⟩
      have hMl : MM.length ≤ 1000000 := by
        have := sinceR_len t L (E.take k)
        have h9 := HLR.out
        have h8 := List.length_take_le k E
        rw [hMM] at this; omega
      rw [hMM] at hO
      have HMM := Lib.hid hMM
      clear hMM
      obtain ⟨Av, cv, ev⟩ := hO.out.slice
      subst ev
      by_cases hlt : k < E.length
      · obtain ⟨be, qe, p', o', f', m', g', s', hAe, hbe, HE, hme, e0, e1, e2, e3, e4, e5⟩ := (HA.out.calm hcr.out).e.get hlt
        subst hAe
        have hstep : Hid (sinceR t L (E.take (k + 1)) = if t < lastOf m' g' then MM ++ [⟨p', o', f', m', g', s'⟩] else MM) := show _ = _ by rw [sinceR_take HE.out, HMM.out]; rfl
        have hE8 := HSZ.out.1
        have hbox := heap_new wr (.cells #[.int .i64 p', .int .i64 o', .int .i64 f', .int .i64 m', .int .i64 g', .string s'] 43)
        have hal := (Calm.refl wr).alloc (.cells #[.int .i64 p', .int .i64 o', .int .i64 f', .int .i64 m', .int .i64 g', .string s'] 43)
        go_upto_region 5 with fail
        generalize wr.alloc (.cells #[.int .i64 p', .int .i64 o', .int .i64 f', .int .i64 m', .int .i64 g', .string s'] 43) = w5 at hbox hal ⊢
        clear x0 x1 hxs m0 m1 m2 m3 m4 hms e0 e1 e2 e3 e4 e5
        obtain ⟨e0, e1, e2, e3, e4, e5, hes⟩ := row6 hbox
        have hO5 := Lib.hid (hO.out.calm hal)
        have cL := fun u => last_any p' o' f' m' g' s' u
        generalize lastOf m' g' = la at hstep cL
        by_cases hla : t < la
        · have hli : la > t := hla
          have hs : Hid (MM ++ [⟨p', o', f', m', g', s'⟩] = sinceR t L (E.take (k + 1))) := show _ = _ by rw [hstep.out, if_pos hla]
          have hsz6 : Hid (w0.heap.size ≤ w5.heap.size) := show _ ≤ _ from Nat.le_trans hcr.out.size hal.size
          go_wp2_with first
            | (go_at_call 27; (with_reducible refine (cL _).mono ?_); rintro e9 w6 ⟨rfl, hb6⟩; have hbox6 := (hb6.block (row6 hbox).2.2.2.2.2.2).trans hbox; have hO6 := Lib.hid (hO5.out.calm hb6); have hG6 := Lib.hid (hG.out.trans ((hal.call hb6).grw _)); have hz6 := Lib.hid hb6.size; clear hb6 e0 e1 e2 e3 e4 e5 hes; obtain ⟨e0, e1, e2, e3, e4, e5, hes⟩ := row6 hbox6)
            | (at_builtin; refine wpList_append_e1 rfl _ _ rfl w0.heap.size _ _ rfl (hO6.out.calm ((Calm.refl _).alloc _)) _ _ ⟨p', o', f', m', g', s'⟩ _ rfl (heap_new _ _) hMl (Nat.le_trans (Nat.le_trans hsz6.out hz6.out) (by simp)) ?_; intro v9 w9 ho9 hg9; have hO9 : Hid (OwnR w0.heap.size w9 v9 (sinceR t L (E.take (k + 1)))) := (show OwnR _ _ _ _ from hs.out ▸ ho9); have hG9 := Lib.hid ((hG6.out.trans (((Calm.refl _).alloc _).grw _)).trans hg9); clear ho9 hg9)
          go_roundw
          case rel => exact ⟨k + 1, v9, by omega, by go_num, rfl, hO9, hG9⟩
          case measure => simp [intOf]; omega
        · have hli : ¬ la > t := by omega
          have hs : Hid (MM = sinceR t L (E.take (k + 1))) := show _ = _ by rw [hstep.out, if_neg hla]
          go_wp2_with (go_at_call 27; (with_reducible refine (cL _).mono ?_); rintro e9 w6 ⟨rfl, hb6⟩; have hO6 : Hid (OwnR w0.heap.size w6 (.slice Av MM.length cv) (sinceR t L (E.take (k + 1)))) := (show OwnR _ _ _ _ from hs.out ▸ hO5.out.calm hb6); have hG6 := Lib.hid (hG.out.trans ((hal.call hb6).grw _)); clear hb6)
          go_roundw
          case rel => exact ⟨k + 1, _, by omega, by go_num, rfl, hO6, hG6⟩
          case measure => simp [intOf]; omega
      · have hkk : k = E.length := by omega
        have hkE2 : E.take k = E := by rw [hkk, List.take_length]
        rw [hkE2] at HMM
        have hli : ¬ (k : Int) < (E.length : Int) := by omega
        clear hkE2 hkk hlt hkE
        have hfin : Hid (sinceR t MM (K.flatMap (recsD l d)) = sinceR t L (recsD l (d + 1) (XX : Int))) := show _ = _ by rw [HFN.out, HMM.out]
        have hK8 := HSZ.out.2.1
        have hMl9 : Hid (MM.length + (K.flatMap (recsD l d)).length ≤ 1000000) := show _ ≤ _ by
          have a := HLR.out
          have b := sinceR_len t L E
          rw [HMM.out] at b
          omega
        go_wp2_with fail
        go_loopw [0, 13, 41] (fun a u i wx => ∃ (j : Nat) (v' : Value), j ≤ K.length ∧ i = .int .i64 j ∧ u = .int .i64 ((visK l t d K j : Nat) : Int) ∧ a = v' ∧ Hid (OwnR w0.heap.size wx v' (sinceR t MM ((K.take j).flatMap (recsD l d)))) ∧ Hid (Grw w3 wx v v')) (fun _ _ i _ => K.length - (intOf i).toNat)
        case atStart => exact ⟨0, _, Nat.zero_le _, rfl, rfl, rfl, (show OwnR _ _ _ _ by rw [List.take_zero, List.flatMap_nil, sinceR_nil]; exact hO.out), hG⟩
        clear hO hG x0 x1 hxs m0 m1 m2 m3 m4 hms hcr hxr hnr
        case round =>
          obtain ⟨j, v', hj, rfl, rfl, rfl, hO, hG⟩ := hrel
          have hcr2 := Lib.hid (Grw.calm HC3.out hG.out hvb.out)
          have hxr2 := (hG.out.block (k := w.heap.size) (by have := HS.out; omega) (fun j hj => hvs.out j hj)).trans hx3
          have hnr2 := (hG.out.block (k := w1.heap.size) (by have := HS.out; omega) (fun j hj => by have := hvs.out j hj; have := HS.out; omega)).trans hnb
          obtain ⟨x0, x1, hxs⟩ := rowT hxr2
          obtain ⟨m0, m1, m2, m3, m4, hms⟩ := row5 hnr2
          obtain ⟨NN, hNN⟩ : ∃ NN, sinceR t MM ((K.take j).flatMap (recsD l d)) = NN := ⟨_, rfl⟩
          have hNl : Hid (NN.length ≤ MM.length + ((K.take j).flatMap (recsD l d)).length) := show _ ≤ _ by rw [← hNN]; exact sinceR_len _ _ _
          rw [hNN] at hO
          have HNN := Lib.hid hNN
          have hvm := visK_max l t d K j
          have hvm2 := HNR.out
          obtain ⟨VJ, hVJ⟩ : ∃ VJ, visK l t d K j = VJ := ⟨_, rfl⟩
          have hV4 : VJ ≤ 401 := by omega
          rw [hVJ]
          have HVJ := Lib.hid hVJ
          clear hNN hVJ hvm hvm2
          obtain ⟨Aw, cw, ew⟩ := hO.out.slice
          subst ew
          by_cases hlt2 : j < K.length
          · obtain ⟨b9, q9, y, hA9, hb9, HY, cy⟩ := (HA.out.calm hcr2.out).k.get hlt2
            subst hA9
            have hjT : j < T.length := by have := HSZ.out.2.2.2.1; omega
            obtain ⟨b8, q8, tj, hA8, hb8, HTj, ct⟩ := (HA.out.calm hcr2.out).t.get hjT
            subst hA8
            obtain ⟨hDy, hTy⟩ := HKID.out j y HY.out
            have htj : Hid (tj = tidOf l y) := show _ = _ from Option.some.inj (HTj.out.symm.trans hTy)
            have hFT : Hid ((K.take (j + 1)).flatMap (recsD l d) = (K.take j).flatMap (recsD l d) ++ recsD l d y) := flat_take _ _ HY.out
            have hstep : Hid (sinceR t MM ((K.take (j + 1)).flatMap (recsD l d)) = sinceR t NN (recsD l d y)) := show _ = _ by rw [hFT.out, sinceR_append, HNN.out]
            have hvst : Hid (visK l t d K (j + 1) = VJ + (if t < tj then visD l t d y else 0)) := show _ = _ by rw [visK_step HY.out, HVJ.out, htj.out]
            have hlate : Hid (tj = lateOf (recsD l d y)) := show _ = _ by rw [htj.out, tid_late hok hT d y hDy]
            by_cases htt : t < tj
            · have hti : tj > t := htt
              have hlen2 : Hid (NN.length + (recsD l d y).length ≤ 1000000) := show _ ≤ _ by
                have a := hNl.out
                have b := hMl9.out
                have e := flat_le (recsD l d) K (j + 1)
                rw [hFT.out, List.length_append] at e
                omega
              have hnod2 : Hid ((nodesD l d y).length ≤ 400) := show _ ≤ _ by
                have a := HNR.out
                have e := flat_le (nodesD l d) K (j + 1)
                rw [flat_take _ _ HY.out, List.length_append] at e
                omega
              have cF := fun u (hu : Calm w0 u) (hv : OwnR w0.heap.size u (.slice Aw NN.length cw) NN) => ih.out y hDy _ NN u hu hv hlen2.out hnod2.out
              have hvd := visD_le l t d y
              have hv2 : Hid (visK l t d K (j + 1) = VJ + visD l t d y) := show _ = _ by rw [hvst.out, if_pos htt]
              obtain ⟨VY, hVY⟩ : ∃ VY, visD l t d y = VY := ⟨_, rfl⟩
              have hVY4 : VY ≤ 400 := by have := hnod2.out; omega
              rw [hVY] at cF hv2
              have hv3 : Hid (VJ + VY = visK l t d K (j + 1)) := hv2.out.symm
              clear hDy hTy hvd hVY hvst hv2
              go_wp2_with (go_at_call 37; (with_reducible refine (cF _ hcr2.out hO.out).mono ?_); rintro e w9 ⟨v9, rfl, ho9, hg9⟩; have HO9 : Hid (OwnR w0.heap.size w9 v9 (sinceR t MM ((K.take (j + 1)).flatMap (recsD l d)))) := (show OwnR _ _ _ _ from hstep.out ▸ ho9); have HG9 := Lib.hid (hG.out.trans hg9); clear ho9 hg9)
              go_roundw
              case rel => exact ⟨j + 1, v9, by omega, by go_num, by rw [← hv3.out]; go_num, rfl, HO9, HG9⟩
              case measure => simp [intOf]; omega
            · have hti : ¬ tj > t := by omega
              have hv3 : Hid (VJ = visK l t d K (j + 1)) := show _ = _ by rw [hvst.out, if_neg htt]; rfl
              have HO9 : Hid (OwnR w0.heap.size wr (.slice Aw NN.length cw) (sinceR t MM ((K.take (j + 1)).flatMap (recsD l d)))) := show OwnR _ _ _ _ from by
                rw [hstep.out, sinceR_skip (by rw [← hlate.out]; omega)]; exact hO.out
              clear hDy hTy hvst
              go_wp2_with fail
              go_roundw
              case rel => exact ⟨j + 1, _, by omega, by go_num, by rw [← hv3.out], rfl, HO9, hG⟩
              case measure => simp [intOf]; omega
          · have hli2 : ¬ (j : Int) < (K.length : Int) := by omega
            have hjj : K.take j = K := List.take_of_length_le (by omega)
            have HO9 : Hid (OwnR w0.heap.size wr (.slice Aw NN.length cw) (sinceR t L (recsD l (d + 1) (XX : Int)))) := show OwnR _ _ _ _ from by
              have e8 := HNN.out
              rw [hjj] at e8
              rw [← hfin.out, e8]; exact hO.out
            have hV9 : Hid (VJ = visD l t (d + 1) (XX : Int)) := show _ = _ by
              rw [HVN.out, ← HVJ.out]; unfold visK; rw [hjj]
            clear hjj
            go_wp2_with fail
            go_ret2
            exact ⟨_, by rw [hV9.out]; rfl, HO9.out, (hu3.grw v).trans hG.out⟩
theorem appendSince_any (root : Int) (A : Option Addr) (c : Nat) (l : List Nd) (hok : NdsOk l) (hT : TimeP l) (w0 : World) (h0 : TrAt w0 A l) (t : Int) : ∀ (d : Nat), SinceOk root A c l w0 t d
 | 0 => fun _ hD => absurd hD id
 |d + 1 => appendSince_step root A c l hok hT w0 h0 t d (appendSince_any root A c l hok hT w0 h0 t d)
open Go.RowKit
/-- What is known of a right tree. -/
theorem tree_good {l : List Nd} {root : Int} (hz : treeErr l root = 0) : l.length ≤ 400 ∧ NdsOk l ∧ ∃ d, Deep l d root ∧ OrdP l d root ⟨0, 0, 0, 0⟩ ⟨16, 0, 0, 0⟩ ∧ allOf l root = recsD l d root ∧ (allOf l root).length ≤ 3200 := by
 obtain ⟨hl4, hok, hG⟩ := treeErr_zero.1 hz
 obtain ⟨e, -, -, -, hE, -, -, -, hlen⟩ := hG.1.all hok
 obtain ⟨d, hD, hO⟩ := hG.2.2.2
 have h1 : allOf l root = recsD l d root := by unfold allOf; rw [depthOf_eq hok hD]
 have h2 : allOf l root = recsD l e root := by unfold allOf; rw [depthOf_eq hok hE]
 refine ⟨hl4, hok, d, hD, hO, h1, ?_⟩
 rw [h2]; omega
open Go.RowKit
theorem nd_cells {w w' : World} {b o : Nat} {v0 v1 v2 v3 v4 : Value} (hc : Calm w w') (hb : b < w.heap.size) (h0 : w.cell? ⟨b, o, none⟩ = some v0) (h1 : w.cell? ⟨b, o + 1, none⟩ = some v1) (h2 : w.cell? ⟨b, o + 2, none⟩ = some v2) (h3 : w.cell? ⟨b, o + 3, none⟩ = some v3) (h4 : w.cell? ⟨b, o + 4, none⟩ = some v4) :
    w'.cell? ⟨b, o, none⟩ = some v0 ∧ w'.cell? ⟨b, o + 1, none⟩ = some v1 ∧ w'.cell? ⟨b, o + 2, none⟩ = some v2 ∧ w'.cell? ⟨b, o + 3, none⟩ = some v3 ∧ w'.cell? ⟨b, o + 4, none⟩ = some v4 :=
  ⟨(hc.facts.1 _ _ hb).trans h0, (hc.facts.1 _ _ hb).trans h1, (hc.facts.1 _ _ hb).trans h2, (hc.facts.1 _ _ hb).trans h3, (hc.facts.1 _ _ hb).trans h4⟩
noncomputable def sinceL (l : List Nd) (root t : Int) : List El := if treeErr l root = 0 then sinceR (max t 0) [] (allOf l root) else []
noncomputable def sinceN (l : List Nd) (root t : Int) : Nat := if treeErr l root = 0 then (if max t 0 < tidOf l root then visD l (max t 0) (depthOf l root) root else 0) else 0
set_option maxHeartbeats 8000000 in
theorem findSince_any (root : Int) (A : Option Addr) (c : Nat) (l : List Nd) (w : World) (h : TrAt w A l) (t : Int) :
    Calls Try.prog 16 #[.agg #[.int .i64 root, .slice A l.length c], .int .i64 t] w fun e w' => ∃ v, e = .returned (.tuple #[v, .int .i64 (sinceN l root t : Int), .int .i64 (treeErr l root)]) ∧ OwnR w.heap.size w' v (sinceL l root t) ∧ Calm w w' := by
  have hx := heap_new w (.cells #[.int .i64 root, .slice A l.length c] 24)
  have hu := (Calm.refl w).alloc (.cells #[.int .i64 root, .slice A l.length c] 24)
  have cC := fun u (hu : Calm w u) => treeCheck_any root A c l u (h.calm hu)
  obtain ⟨x0, x1, hxs⟩ := rowT hx
  by_cases hz : treeErr l root = 0
  rotate_left
  · have b1 : (treeErr l root != 0) = true := by rw [bne_iff_ne]; exact hz
    have hfe : sinceN l root t = 0 := by unfold sinceN; rw [if_neg hz]
    have hfl : sinceL l root t = [] := by unfold sinceL; rw [if_neg hz]
    rw [hfe, hfl]
    clear h hz hfe hfl
    generalize treeErr l root = R at cC b1 ⊢
    go_enter Try.func16, Try.ntmps16
    go_wp2_with (go_at_call 28; (with_reducible refine (cC _ hu).mono ?_); rintro e w1 ⟨rfl, hb1⟩; have hu1 := hu.call hb1; clear hb1)
    go_ret3
    exact ⟨_, rfl, OwnR.nil _ _, hu1⟩
  obtain ⟨hl4, hok, d, hD, hO, hall, hlen⟩ := tree_good hz
  have hG := (treeErr_zero.1 hz).2.2
  have hT : TimeP l := hG.2.2.1
  have hnod : (nodesD l d root).length ≤ 400 := by
    have h1 := (ref_good hz).2.1
    rw [depthOf_eq hok hD] at h1
    have h2 : usedOf l ≤ l.length := List.countP_le_length
    omega
  have hdd : depthOf l root = d := depthOf_eq hok hD
  have hlate := tid_late hok hT d root hD
  rw [hz] at cC ⊢
  have hN : sinceN l root t = if max t 0 < tidOf l root then visD l (max t 0) d root else 0 := by unfold sinceN; rw [if_pos hz, hdd]
  have hL : sinceL l root t = sinceR (max t 0) [] (recsD l d root) := by unfold sinceL; rw [if_pos hz, hall]
  rw [hN, hL]
  obtain ⟨t', ht'⟩ : ∃ t', max t 0 = t' := ⟨_, rfl⟩
  rw [ht']
  have hmax : Hid (max t 0 = t') := ht'
  cases d with
  | zero => exact absurd hD id
  | succ d =>
    obtain ⟨n, hn, -⟩ := id hD
    obtain ⟨i1, i2, i3⟩ := nd_of_in hn
    obtain ⟨RR, rfl⟩ : ∃ RR : Nat, root = (RR : Int) := ⟨root.toNat, by omega⟩
    rw [Int.toNat_natCast] at i3
    have hRl : RR < l.length := by omega
    have hzn := hok n (List.mem_of_getElem? i3)
    have htid : tidOf l (RR : Int) = ndTid n.E n.T := by unfold tidOf; rw [Int.toNat_natCast, i3]
    have cS := fun u (hu : Calm w u) => appendSince_any (RR : Int) A c l hok hT w h t' (d + 1) (RR : Int) hD (.slice none 0 0) [] u hu (OwnR.nil _ _) (by rw [← hall]; simp; omega) hnod
    obtain ⟨b, q, kd, A1, A2, A3, A4, c1, c2, c3, c4, E, K, S, T, hA, hbb, HN, HA, n0, n1, n2, n3, n4⟩ := h.get hRl
    cases hA
    have hnd : n = ⟨kd, A1, A2, A3, A4, c1, c2, c3, c4, E, K, S, T⟩ := by
      have := HN.out
      rw [i3] at this
      exact Option.some.inj this
    subst hnd
    simp only at hzn htid
    have cT := fun u (hu : Calm w u) => nodeTid_any kd A1 A2 A3 A4 c1 c2 c3 c4 E K S T u (HA.out.calm hu)
    rw [hzn, if_pos rfl] at cT
    rw [← htid] at cT
    have hxl : (RR : Int) < (l.length : Int) := by omega
    have HTL : Hid (tidOf l (RR : Int) = lateOf (recsD l (d + 1) (RR : Int))) := hlate
    have HW := Lib.hid h
    generalize tidOf l (RR : Int) = TT at cT HTL ⊢
    have hvc := hu.facts.1
    clear hz hl4 hok hD hO hall hlen hG hT hnod hdd hlate hN hL hn i1 i2 i3 hzn htid h
    replace n0 := (hvc _ _ hbb).trans n0; replace n1 := (hvc _ _ hbb).trans n1; replace n2 := (hvc _ _ hbb).trans n2; replace n3 := (hvc _ _ hbb).trans n3; replace n4 := (hvc _ _ hbb).trans n4
    have hb1' : b < (w.alloc (.cells #[.int .i64 (RR : Int), .slice (some ⟨b, q, none⟩) l.length c] 24)).heap.size := Nat.lt_of_lt_of_le hbb hu.size
    clear hvc
    have key : t = t' ∧ 0 ≤ t ∨ t < 0 ∧ t' = 0 := by have := hmax.out; omega
    rcases key with ⟨rfl, htp⟩ | ⟨htn, rfl⟩
    · by_cases hTt : TT ≤ t
      · have hTi : TT ≤ t := hTt
        rw [if_neg (by omega), sinceR_skip (by have := HTL.out; omega)]
        go_enter Try.func16, Try.ntmps16
        go_wp2_with first
          | (go_at_call 28; (with_reducible refine (cC _ hu).mono ?_); rintro e w1 ⟨rfl, hb1⟩; have hu1 := hu.call hb1; have hx1 := (hb1.block (rowT hx).2.2).trans hx; (obtain ⟨p0, p1, p2, p3, p4⟩ := nd_cells hb1 hb1' n0 n1 n2 n3 n4); clear x0 x1 hxs hb1; obtain ⟨x0, x1, hxs⟩ := rowT hx1)
          | (go_at_call 36; (with_reducible refine (cT _ hu1).mono ?_); rintro e w2 ⟨rfl, hb2⟩; have hu2 := hu1.call hb2; clear hb2)
        go_ret3
        exact ⟨_, rfl, OwnR.nil _ _, hu2⟩
      · have hTi : ¬ TT ≤ t := hTt
        rw [if_pos (by omega)]
        go_enter Try.func16, Try.ntmps16
        go_wp2_with first
          | (go_at_call 28; (with_reducible refine (cC _ hu).mono ?_); rintro e w1 ⟨rfl, hb1⟩; have hu1 := hu.call hb1; have hx1 := (hb1.block (rowT hx).2.2).trans hx; (obtain ⟨p0, p1, p2, p3, p4⟩ := nd_cells hb1 hb1' n0 n1 n2 n3 n4); clear x0 x1 hxs hb1; obtain ⟨x0, x1, hxs⟩ := rowT hx1)
          | (go_at_call 36; (with_reducible refine (cT _ hu1).mono ?_); rintro e w2 ⟨rfl, hb2⟩; have hu2 := hu1.call hb2; have hx2 := (hb2.block (rowT hx1).2.2).trans hx1; clear hb2 x0 x1 hxs; obtain ⟨x0, x1, hxs⟩ := rowT hx2)
          | (go_at_call 37; (with_reducible refine (cS _ hu2).mono ?_); rintro e w3 ⟨v3, rfl, ho3, hg3⟩; have HO := Lib.hid ho3; have hu3 := Grw.calm hu2 hg3 (fun k hk => by simp [Value.ownBlock] at hk); clear ho3 hg3)
        go_ret3
        exact ⟨_, rfl, HO.out, hu3⟩
    · by_cases hTt : TT ≤ 0
      · have hTi : TT ≤ 0 := hTt
        rw [if_neg (by omega), sinceR_skip (by have := HTL.out; omega)]
        go_enter Try.func16, Try.ntmps16
        go_wp2_with first
          | (go_at_call 28; (with_reducible refine (cC _ hu).mono ?_); rintro e w1 ⟨rfl, hb1⟩; have hu1 := hu.call hb1; have hx1 := (hb1.block (rowT hx).2.2).trans hx; (obtain ⟨p0, p1, p2, p3, p4⟩ := nd_cells hb1 hb1' n0 n1 n2 n3 n4); clear x0 x1 hxs hb1; obtain ⟨x0, x1, hxs⟩ := rowT hx1)
          | (go_at_call 36; (with_reducible refine (cT _ hu1).mono ?_); rintro e w2 ⟨rfl, hb2⟩; have hu2 := hu1.call hb2; clear hb2)
        go_ret3
        exact ⟨_, rfl, OwnR.nil _ _, hu2⟩
      · have hTi : ¬ TT ≤ 0 := hTt
        rw [if_pos (by omega)]
        go_enter Try.func16, Try.ntmps16
        go_wp2_with first
          | (go_at_call 28; (with_reducible refine (cC _ hu).mono ?_); rintro e w1 ⟨rfl, hb1⟩; have hu1 := hu.call hb1; have hx1 := (hb1.block (rowT hx).2.2).trans hx; (obtain ⟨p0, p1, p2, p3, p4⟩ := nd_cells hb1 hb1' n0 n1 n2 n3 n4); clear x0 x1 hxs hb1; obtain ⟨x0, x1, hxs⟩ := rowT hx1)
          | (go_at_call 36; (with_reducible refine (cT _ hu1).mono ?_); rintro e w2 ⟨rfl, hb2⟩; have hu2 := hu1.call hb2; have hx2 := (hb2.block (rowT hx1).2.2).trans hx1; clear hb2 x0 x1 hxs; obtain ⟨x0, x1, hxs⟩ := rowT hx2)
          | (go_at_call 37; (with_reducible refine (cS _ hu2).mono ?_); rintro e w3 ⟨v3, rfl, ho3, hg3⟩; have HO := Lib.hid ho3; have hu3 := Grw.calm hu2 hg3 (fun k hk => by simp [Value.ownBlock] at hk); clear ho3 hg3)
        go_ret3
        exact ⟨_, rfl, HO.out, hu3⟩
open Go.ChangeShapes Go.WideShapes Go.ChangeAt Go.RowKit
def pIs (p : Int) (e : El) : Bool := decide (e.p = p)
def lateB (f : Int) (e : El) : Bool := decide (f < e.last)
theorem upto_latest {l : List El} (h : Good l) (p : Int) : uptoL l p (latest l) = l.filter (pIs p) := by
 unfold uptoL
 have h1 : l.filter (inU p (latest l)) = l.filter (pIs p) := by
  apply List.filter_congr
  intro e he
  have := mem_bounds h he
  unfold inU pIs
  rw [decide_eq_decide]
  exact ⟨fun h => h.1, fun h => ⟨h, this.2.1⟩⟩
 rw [h1]
 have h2 : ∀ e ∈ l.filter (pIs p), cutGone (latest l) e = e := fun e he => by
  have := mem_bounds h ((List.mem_filter.1 he).1)
  exact cut_same (by omega)
 rw [List.map_congr_left h2, List.map_id']
theorem count_new {l : List El} (h : Good l) (p f : Int) : (l.filter (lateB f)).countP (pIs p) = (uptoL l p (latest l)).countP (lateB f) := by
 rw [upto_latest h, List.countP_filter, List.countP_filter]
 congr 1
 funext e
 exact Bool.and_comm _ _
theorem count_take {l : List El} {q : El → Bool} {k : Nat} {e : El} (h : l[k]? = some e) : (l.take (k + 1)).countP q = (l.take k).countP q + if q e = true then 1 else 0 := by
 rw [take_snoc3 h, List.countP_append]
 congr 1
 cases hq : q e <;> simp [hq]
set_option maxHeartbeats 4000000 in
theorem begunT_any (w : World) : Calls Try.prog 21 #[] w fun e w' => e = .returned (.bool true) ∧ Calm w w' := by
 have cP : ∀ u, Calls Try.prog 39 #[.slice none 0 0, .agg #[.int .i64 0, .int .i64 0, .int .i64 0], .string { data := #[97] }, .int .i64 1] u fun e w' => ∃ A c, e = .returned (.tuple #[.slice A 1 c, .int .i64 0]) ∧ Lies w' A [⟨0, 0, 0, 1, 0, { data := #[97] }⟩] ∧ Calm u w' := fun u => by
  have := runPut_any none 0 [] 0 0 0 { data := #[97] } 1 u (by simp) lies_none
  have e1 : putErr [] (0, 0, 0) { data := #[97] } 1 = 0 := by decide +kernel
  have e2 : putR [] (0, 0, 0) { data := #[97] } 1 = [⟨0, 0, 0, 1, 0, { data := #[97] }⟩] := by decide +kernel
  rw [e1, if_pos rfl, e2] at this
  refine this.mono ?_
  rintro e w' ⟨v, rfl, ⟨A, c, rfl, -, hL⟩, hc⟩
  exact ⟨A, c, rfl, hL, hc⟩
 go_enter Try.func21, Try.ntmps21
 go_wp2_with (go_at_call 39; refine (cP _).mono ?_; rintro e w1 ⟨A, c, rfl, hL, hb1⟩; obtain ⟨b, q, p, o, f, m, g, s, rfl, hb, HE, hm, c0, c1, c2, c3, c4, c5⟩ := hL.get (k := 0) (by simp); have hs : s = { data := #[97] } := (by have h1 := HE.out; simp only [List.getElem?_cons_zero, Option.some.injEq, El.mk.injEq] at h1; exact h1.2.2.2.2.2.symm); subst hs; simp only [Nat.zero_mul, Nat.add_zero] at c0 c1 c2 c3 c4 c5)
 go_ret
 exact ⟨rfl, hb1⟩
theorem all_fp (root : Int) (A : Option Addr) (c : Nat) (l : List Nd) (w : World) (h : TrAt w A l) (R : List El) (hR : (if treeErr l root = 0 then allOf l root else []) = R) (hw : ∀ e ∈ R, e.wf) :
    Calls Try.prog 7 #[.agg #[.int .i64 root, .slice A l.length c]] w (FpEnd R (treeErr l root) w) := by
  have := treeAll_any root A c l w h
  rw [hR] at this
  refine this.mono ?_
  rintro e w' ⟨v, rfl, ho, hc⟩
  exact OwEnd.fp ⟨v, rfl, ho, hc⟩ hw
set_option maxHeartbeats 16000000 in
theorem topMirror_walk (root : Int) (A : Option Addr) (c : Nat) (l : List Nd) (p f : Int) (w : World) (h : TrAt w A l) :
    Calls Try.prog 5 #[.agg #[.int .i64 root, .slice A l.length c], .int .i64 p, .int .i64 f] w fun e w' => e = .returned (.bool true) ∧ Calm w w' := by
  have hx := heap_new w (.cells #[.int .i64 root, .slice A l.length c] 24)
  have hu := (Calm.refl w).alloc (.cells #[.int .i64 root, .slice A l.length c] 24)
  have cB := begunT_any
  by_cases hz : treeErr l root = 0
  rotate_left
  · have cA := fun u (hu : Calm w u) => all_fp root A c l u (h.calm hu) [] (if_neg hz) (by simp)
    have b1 : (treeErr l root != 0) = true := by rw [bne_iff_ne]; exact hz
    generalize treeErr l root = R at cA b1
    clear h hz
    go_enter Try.func5, Try.ntmps5
    go_wp2_with (first
      | (go_at_call 7; (with_reducible refine (cA _ hu).mono ?_); rintro e w3 ⟨A9, c9, rfl, -, hl9, hb1⟩; replace hu := hu.call hb1; clear hb1 hl9)
      | (go_at_call 21; (with_reducible refine (cB _).mono ?_); rintro e w4 ⟨rfl, hb1⟩; replace hu := hu.call hb1; clear hb1))
    go_ret
    exact ⟨rfl, hu⟩
  have HW : ∀ e ∈ allOf l root, e.wf := recs_wf h _ _
  have cA := fun u (hu : Calm w u) => all_fp root A c l u (h.calm hu) (allOf l root) (if_pos hz) HW
  obtain ⟨-, -, dd, -, -, -, hlen⟩ := tree_good hz
  rw [hz] at cA
  have hn : (allOf l root).length ≤ 9223372036854775807 := by omega
  have cC := fun (B : Option Addr) d u (hl : Lies u B (allOf l root)) => runCheck_any B d (allOf l root) u hn hl
  by_cases hr : runErr (allOf l root) = 0
  rotate_left
  · have b1 := ne_true hr
    generalize runErr (allOf l root) = R at cC b1
    generalize allOf l root = M at cA cC
    clear h hz hr HW hn
    go_enter Try.func5, Try.ntmps5
    go_wp2_with (first
      | (go_at_call 7; (with_reducible refine (cA _ hu).mono ?_); rintro e w3 ⟨A9, c9, rfl, -, hl9, hb1⟩; have HL9 := Lib.hid hl9; replace hu := hu.call hb1; clear hb1 hl9)
      | (go_at_call 21; (with_reducible refine (cB _).mono ?_); rintro e w4 ⟨rfl, hb1⟩; (try replace HL9 := Lib.hid (HL9.out.calm hb1)); replace hu := hu.call hb1; clear hb1)
      | (go_at_call 22; (with_reducible refine (cC _ _ _ HL9.out).mono ?_); rintro e w5 ⟨rfl, hb1⟩; replace hu := hu.call hb1; clear hb1))
    go_ret
    exact ⟨rfl, hu⟩
  have hG := runErr_zero.1 hr
  rw [hr] at cC
  have cS := fun u (hu : Calm w u) (t : Int) => findSince_any root A c l u (h.calm hu) t
  rw [hz] at cS
  have hsn : ∀ t, 0 ≤ t → sinceL l root t = (allOf l root).filter (lateB t) := fun t ht => by
    unfold sinceL sinceR
    rw [if_pos hz, List.nil_append, Int.max_eq_left ht]
    rfl
  have hsd : ∀ t, ∃ n : Int, (sinceN l root t : Int) = n := fun t => ⟨_, rfl⟩
  generalize allOf l root = M at cA cC hG hn HW hsn
  have cT := fun (B : Option Addr) d u (hl : Lies u B M) => runLast_any B d M u hn hl
  rw [runErr_zero.2 hG, if_pos rfl] at cT
  have hla := latest_max hG
  have hl0 := latest_nonneg M
  obtain ⟨P, hP, hWp⟩ := within_lit p 16 16 rfl (by omega) (by omega)
  obtain ⟨N, hN⟩ : ∃ N : Nat, latest M = (N : Int) := ⟨(latest M).toNat, by omega⟩
  obtain ⟨F, hF, hWf⟩ := within_lit f (N + 1) ((N : Int) + 1) (by omega) (by omega) (by omega)
  rw [hN] at cT
  have s1 : spanErr (P : Int) (F : Int) (N : Int) = 0 := spanErr_zero.2 (by omega)
  have s2 : spanErr (P : Int) 0 (F : Int) = 0 := spanErr_zero.2 (by omega)
  have s3 : spanErr (P : Int) 0 (N : Int) = 0 := spanErr_zero.2 (by omega)
  have cR := fun (B : Option Addr) d u (hl : Lies u B M) => read_good B d (P : Int) (F : Int) (N : Int) u hG hl s1
  have cU1 := fun (B : Option Addr) d u (hl : Lies u B M) => upto_sp B d (P : Int) (F : Int) u hG hl s2
  have cU2 := fun (B : Option Addr) d u (hl : Lies u B M) => upto_sp B d (P : Int) (N : Int) u hG hl s3
  have g1 := upto_good hG (P : Int) (F : Int)
  have g2 := upto_good hG (P : Int) (N : Int)
  have cF := fun B d u (hc : (uptoL M (P : Int) (F : Int)).length ≤ d) (hl : Lies u B (uptoL M (P : Int) (F : Int))) => feed_good B d (P : Int) (F : Int) (N : Int) u hG s1 g1 hc hl (fed_parts hG (P : Int) (show (F : Int) ≤ (N : Int) by omega)) g2
  have hU4 : (uptoL M (P : Int) (N : Int)).length ≤ 400 := g2.1
  have cE := fun (A1 A2 : Option Addr) (c1 c2 : Nat) (u : World) h1 h2 => equal_self A1 A2 c1 c2 (uptoL M (P : Int) (N : Int)) u (by omega) h1 h2
  have hct : Hid ((M.filter (lateB (F : Int))).countP (pIs (P : Int)) = (uptoL M (P : Int) (N : Int)).countP (lateB (F : Int))) := show _ = _ by rw [← hN]; exact count_new hG _ _
  have hfl : (M.filter (lateB (F : Int))).length ≤ 400 := Nat.le_trans (List.length_filter_le _ _) hG.1
  have hfw : Hid (∀ e ∈ M.filter (lateB (F : Int)), e.wf) := show ∀ e ∈ _, _ from fun e he => HW e ((List.mem_filter.1 he).1)
  have cSF := fun u (hu : Calm w u) => cS u hu (F : Int)
  simp only [hsn (F : Int) (by omega)] at cSF
  have i1 : IntKind.i64.wrap ((N : Int) + 1) = (N : Int) + 1 := IntWalk.i64_in _ (by omega)
  generalize (sinceN l root (F : Int) : Int) = SN at cSF
  generalize (⟨(strB (P : Int) (F : Int) (N : Int) (freshL M (P : Int) (F : Int) (N : Int))).toArray⟩ : ByteArray) = S at cR cF
  generalize uptoL M (P : Int) (N : Int) = U2 at cU2 cF cE hct hU4
  generalize uptoL M (P : Int) (F : Int) = U1 at cU1 cF
  generalize M.filter (lateB (F : Int)) = FR at cSF hct hfl hfw
  clear hr hz h hsn hsd cS hla hl0 hN s1 s2 s3 g1 g2 hG HW hn hlen
  go_enter Try.func5, Try.ntmps5
  go_wp2_with (first
    | (go_at_call 7; (with_reducible refine (cA _ hu).mono ?_); rintro e w3 ⟨A9, c9, rfl, -, hl9, hb1⟩; have HL9 := Lib.hid hl9; replace hx := (hb1.block (rowT hx).2.2).trans hx; replace hu := hu.call hb1; clear hb1 hl9; obtain ⟨x0, x1, hxs⟩ := rowT hx)
    | (go_at_call 21; (with_reducible refine (cB _).mono ?_); rintro e w4 ⟨rfl, hb1⟩; replace HL9 := Lib.hid (HL9.out.calm hb1); replace hx := (hb1.block (rowT hx).2.2).trans hx; replace hu := hu.call hb1; clear hb1 x0 x1 hxs; obtain ⟨x0, x1, hxs⟩ := rowT hx)
    | (go_at_call 22; (with_reducible refine (cC _ _ _ HL9.out).mono ?_); rintro e w5 ⟨rfl, hb1⟩; replace HL9 := Lib.hid (HL9.out.calm hb1); replace hx := (hb1.block (rowT hx).2.2).trans hx; replace hu := hu.call hb1; clear hb1 x0 x1 hxs; obtain ⟨x0, x1, hxs⟩ := rowT hx)
    | (go_at_call 17; (with_reducible refine (hWp _).mono ?_); rintro e w1 ⟨rfl, rfl⟩)
    | (go_at_call 23; (with_reducible refine (cT _ _ _ HL9.out).mono ?_); rintro e w5 ⟨rfl, hb1⟩; replace HL9 := Lib.hid (HL9.out.calm hb1); replace hx := (hb1.block (rowT hx).2.2).trans hx; replace hu := hu.call hb1; clear hb1 x0 x1 hxs; obtain ⟨x0, x1, hxs⟩ := rowT hx)
    | (go_at_call 17; (with_reducible refine (hWf _).mono ?_); rintro e w1 ⟨rfl, rfl⟩)
    | (go_at_call 16; (with_reducible refine (cSF _ hu).mono ?_); rintro e w6 ⟨v, rfl, ho, hb1⟩; obtain ⟨A5, n5, c5, rfl⟩ := slice_of ho; obtain ⟨rfl, hl5⟩ := ho.reads hfw.out; have HL5 := Lib.hid hl5; replace HL9 := Lib.hid (HL9.out.calm hb1); replace hu := hu.call hb1; clear hb1 ho hl5 hx x0 x1 hxs)
    | (go_at_call 24; (with_reducible refine (cR _ _ _ HL9.out).mono ?_); rintro e w7 ⟨rfl, hb1⟩; replace HL9 := Lib.hid (HL9.out.calm hb1); replace HL5 := Lib.hid (HL5.out.calm hb1); replace hu := hu.call hb1; clear hb1))
  obtain ⟨wa, hwa⟩ : ∃ wa : World, wa = w7 := ⟨_, rfl⟩
  subst hwa
  go_loopw [15, 79] (fun v i wr => ∃ (k n : Nat), k ≤ FR.length ∧ i = .int .i64 k ∧ v = .int .i64 n ∧ n ≤ k ∧ Hid (n = (FR.take k).countP (pIs (P : Int))) ∧ Calm wa wr) (fun _ i _ => FR.length - (intOf i).toNat)
  case atStart => exact ⟨0, 0, Nat.zero_le _, rfl, rfl, Nat.le_refl _, show _ = _ from (by simp), Calm.refl _⟩
  case round =>
    obtain ⟨k, n, hk, rfl, rfl, hnk, hn, hur⟩ := hrel
    by_cases hlt : k < FR.length
    · obtain ⟨b, q, p', o', f', m', g', s', rfl, hb, HE, hm, c0, c1, c2, c3, c4, c5'⟩ := (HL5.out.calm hur).get hlt
      have hT := count_take (q := pIs (P : Int)) HE.out
      have hni : (n : Int) ≤ 400 := by omega
      by_cases hp : p' = (P : Int)
      · rw [if_pos (by unfold pIs; exact decide_eq_true hp), ← hn.out] at hT
        have HT := Lib.hid hT.symm
        clear HE hT
        go_wp2_with fail
        go_roundw
        case rel => exact ⟨k + 1, n + 1, by omega, by go_num, by go_num, by omega, HT, hur.alloc _⟩
        case measure => simp [intOf]; omega
      · rw [if_neg (by unfold pIs; rw [decide_eq_true_eq]; exact hp), Nat.add_zero, ← hn.out] at hT
        have HT := Lib.hid hT.symm
        clear HE hT
        go_wp2_with fail
        go_roundw
        case rel => exact ⟨k + 1, n, by omega, by go_num, rfl, by omega, HT, hur.alloc _⟩
        case measure => simp [intOf]; omega
    · have hke : FR.take k = FR := List.take_of_length_le (by omega)
      rw [hke] at hn
      replace HL9 := Lib.hid (HL9.out.calm hur)
      replace hu := hu.call hur
      have hn4 : n ≤ 400 := by omega
      clear hke HL5 hnk
      go_wp2_with (first
        | (go_at_call 25; (with_reducible refine (cU1 _ _ _ HL9.out).mono ?_); rintro e w8 ⟨A1, c1, rfl, hc1, hl1, hb1⟩; have HL1 := Lib.hid hl1; have HC1 := Lib.hid hc1; replace HL9 := Lib.hid (HL9.out.calm hb1); replace hu := hu.call hb1; clear hb1 hl1 hc1)
        | (go_at_call 26; (with_reducible refine (cF _ _ _ HC1.out HL1.out).mono ?_); rintro e w9 ⟨A2, c2, rfl, -, hl2, hb1⟩; have HL2 := Lib.hid hl2; replace HL9 := Lib.hid (HL9.out.calm hb1); replace hu := hu.call hb1; clear hb1 hl2)
        | (go_at_call 25; (with_reducible refine (cU2 _ _ _ HL9.out).mono ?_); rintro e w10 ⟨A3, c3, rfl, -, hl3, hb1⟩; have HL3 := Lib.hid hl3; replace HL2 := Lib.hid (HL2.out.calm hb1); replace hu := hu.call hb1; clear hb1 hl3)
        | (go_at_call 11; (with_reducible refine (cE _ _ _ _ _ HL2.out HL3.out).mono ?_); rintro e w11 ⟨rfl, hb1⟩; replace HL3 := Lib.hid (HL3.out.calm hb1); replace hu := hu.call hb1; clear hb1))
      obtain ⟨wb, hwb⟩ : ∃ wb : World, wb = w11 := ⟨_, rfl⟩
      subst hwb
      go_loopw [21, 129] (fun v i wr => ∃ (j m : Nat), j ≤ U2.length ∧ i = .int .i64 j ∧ v = .int .i64 m ∧ m ≤ j ∧ Hid (m = (U2.take j).countP (lateB (F : Int))) ∧ Calm wb wr) (fun _ i _ => U2.length - (intOf i).toNat)
      case atStart => exact ⟨0, 0, Nat.zero_le _, rfl, rfl, Nat.le_refl _, show _ = _ from (by simp), Calm.refl _⟩
      case round =>
        obtain ⟨j, mm, hj, rfl, rfl, hmj, hmm, hub⟩ := hrel
        by_cases hlj : j < U2.length
        · obtain ⟨b, q, p', o', f', m', g', s', rfl, hb, HE, hm, d0, d1, d2, d3, d4, d5⟩ := (HL3.out.calm hub).get hlj
          have hT := count_take (q := lateB (F : Int)) HE.out
          have hmi : (mm : Int) ≤ 400 := by omega
          have cLa := fun u => last_any p' o' f' m' g' s' u
          have hlB : lateB (F : Int) ⟨p', o', f', m', g', s'⟩ = decide ((F : Int) < lastOf m' g') := rfl
          rw [hlB] at hT
          generalize lastOf m' g' = LA at cLa hT
          by_cases hq : (F : Int) < LA
          · rw [if_pos (decide_eq_true hq), ← hmm.out] at hT
            have HT := Lib.hid hT.symm
            clear HE hT hlB
            go_wp2_with (go_at_call 27; refine (cLa _).mono ?_; rintro e w12 ⟨rfl, hb1⟩; have hu12 := (hub.alloc _).call hb1; clear hb1)
            go_roundw
            case rel => exact ⟨j + 1, mm + 1, by omega, by go_num, by go_num, by omega, HT, hu12⟩
            case measure => simp [intOf]; omega
          · rw [if_neg (by rw [decide_eq_true_eq]; exact hq), Nat.add_zero, ← hmm.out] at hT
            have HT := Lib.hid hT.symm
            clear HE hT hlB
            go_wp2_with (go_at_call 27; refine (cLa _).mono ?_; rintro e w12 ⟨rfl, hb1⟩; have hu12 := (hub.alloc _).call hb1; clear hb1)
            go_roundw
            case rel => exact ⟨j + 1, mm, by omega, by go_num, rfl, by omega, HT, hu12⟩
            case measure => simp [intOf]; omega
        · have hke : U2.take j = U2 := List.take_of_length_le (by omega)
          rw [hke] at hmm
          obtain rfl : mm = n := by rw [hmm.out, hn.out]; exact hct.out.symm
          clear hke hmm hn hct
          replace hu := hu.call hub
          go_wp2_with fail
          go_ret
          exact ⟨rfl, hu⟩
end Go.Proofs.Ytjciklifiidecaa
