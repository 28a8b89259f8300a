/- annalref.inner. -/
import Derived.Test.YtccfcloekjogkaaRefN1
namespace Go.Proofs.Ytccfcloekjogkaa
open Go.RowKit

set_option maxRecDepth 100000 in
theorem between_calm (x n : Int) (r : Bool) (h : decide (0 ≤ x ∧ x ≤ n) = r) (w : World) : Calls Try.prog 86 #[.int .i64 x, .int .i64 n] w fun e w' => e = .returned (.bool r) ∧ w = w' := h ▸ between_any x n w
set_option maxRecDepth 100000 in
set_option maxHeartbeats 4000000 in
theorem refInner_any (kd : Int) (A1 A2 A3 A4 : Option Addr) (c1 c2 c3 c4 : Nat) (E : List El) (K : List Int) (S : List Sp) (T : List Int) (w : World) (h : NdAt w A1 A2 A3 A4 E K S T) (hm : S.length ≤ 1125899906842624) :
    Calls Try.prog 88 #[.agg #[.int .i64 kd, .slice A1 E.length c1, .slice A2 K.length c2, .slice A3 S.length c3, .slice A4 T.length c4]] w fun e w' => e = .returned (.int .i64 (innerErr E K S T)) ∧ Calm w w' := by
  have hx := heap_new w (.cells #[.int .i64 kd, .slice A1 E.length c1, .slice A2 K.length c2, .slice A3 S.length c3, .slice A4 T.length c4] 59)
  have hu := (Calm.refl w).alloc (.cells #[.int .i64 kd, .slice A1 E.length c1, .slice A2 K.length c2, .slice A3 S.length c3, .slice A4 T.length c4] 59)
  obtain ⟨hne, hnk, hns, hnt⟩ : _ ∧ _ ∧ _ ∧ _ := ⟨h.ne, h.nk, h.ns, h.nt⟩
  by_cases hF : formI E K S T
  · have hG : Hid (3 = innerErr E K S T) := (if_pos hF).symm
    unfold formI at hF
    generalize innerErr E K S T = R at hG ⊢
    generalize E.length = ne at *
    generalize K.length = nk at *
    generalize S.length = ns at *
    generalize T.length = nt at *
    obtain ⟨x0, x1, x2, x3, x4, hxs⟩ := row5 hx
    clear hx h
    have h4 : (0 : Int) < ne ∨ ((ne : Int) ≤ 0 ∧ (nk : Int) < 2) ∨ ((ne : Int) ≤ 0 ∧ (2 : Int) ≤ nk ∧ ns + 1 ≠ nk) ∨ ((ne : Int) ≤ 0 ∧ (2 : Int) ≤ nk ∧ ns + 1 = nk ∧ nt ≠ nk) := by omega
    clear hF
    have hm' : (ns : Int) ≤ 1125899906842624 := by omega
    rcases h4 with h4 | ⟨h4, h5⟩ | ⟨h4, h5, h6⟩ | ⟨h4, h5, h6, h7⟩
    · go_enter Try.func88, Try.ntmps88
      go_wp2_with fail
      go_ret
      exact ⟨ret_int hG.out, hu⟩
    · obtain rfl : ne = 0 := by omega
      clear h4
      go_enter Try.func88, Try.ntmps88
      go_wp2_with fail
      go_ret
      exact ⟨ret_int hG.out, hu⟩
    · obtain rfl : ne = 0 := by omega
      have b1 : ((ns : Int) + 1 != (nk : Int)) = true := by rw [bne_iff_ne]; omega
      clear h4 h6
      go_enter Try.func88, Try.ntmps88
      go_wp2_with fail
      go_ret
      exact ⟨ret_int hG.out, hu⟩
    · obtain rfl : ne = 0 := by omega
      have b1 : ((ns : Int) + 1 != (nk : Int)) = false := by rw [bne_eq_false_iff_eq]; omega
      have b2 : ((nt : Int) != (nk : Int)) = true := by rw [bne_iff_ne]; omega
      clear h4 h6 h7
      go_enter Try.func88, Try.ntmps88
      go_wp2_with fail
      go_ret
      exact ⟨ret_int hG.out, hu⟩
  have hF2 : E.length = 0 ∧ 2 ≤ K.length ∧ S.length + 1 = K.length ∧ T.length = K.length := by unfold formI at hF; omega
  obtain ⟨hE0, hK2, hSK, hTK⟩ := hF2
  have b1 : ((S.length : Int) + 1 != (K.length : Int)) = false := by rw [bne_eq_false_iff_eq]; omega
  have b2 : ((T.length : Int) != (K.length : Int)) = false := by rw [bne_eq_false_iff_eq]; omega
  have hK2' : (2 : Int) ≤ (K.length : Int) := by omega
  have hm' : (S.length : Int) ≤ 1125899906842624 := by omega
  by_cases h8 : 8 < K.length
  · have hG : Hid (2 = innerErr E K S T) := by show _ = _; unfold innerErr; rw [if_neg hF, if_pos h8]
    have h8' : (8 : Int) < (K.length : Int) := by omega
    rw [hE0] at hx hu ⊢
    obtain ⟨x0, x1, x2, x3, x4, hxs⟩ := row5 hx
    clear hF hSK hTK h8
    go_enter Try.func88, Try.ntmps88
    go_wp2_with fail
    go_ret
    exact ⟨ret_int hG.out, hu⟩
  have h8' : (K.length : Int) ≤ 8 := by omega
  have hG : innerErr E K S T = if kidsErr K T ≠ 0 then kidsErr K T else elsErr (S.map Sp.el) := by unfold innerErr; rw [if_neg hF, if_neg h8]
  generalize innerErr E K S T = R at hG ⊢
  have HG := Lib.hid hG
  rw [hE0] at hx hu ⊢
  obtain ⟨hLK, hLS, hLT⟩ : Hid (LiesI w A2 K) ∧ Hid (LiesS w A3 S) ∧ Hid (LiesI w A4 T) := ⟨h.k, h.s, h.t⟩
  obtain ⟨x0, x1, x2, x3, x4, hxs⟩ := row5 hx
  have hTK' := Lib.hid hTK
  have hSK' := Lib.hid hSK
  have hS8 : S.length ≤ 400 := by omega
  clear hF hG h hE0 hSK hTK h8
  go_enter Try.func88, Try.ntmps88
  go_wp2_with fail
  go_loopw [37] (fun i wr => ∃ k : Nat, k ≤ K.length ∧ i = .int .i64 k ∧ Calm w wr ∧ wr.heap[w.heap.size]? = some (.cells #[.int .i64 kd, .slice A1 0 c1, .slice A2 K.length c2, .slice A3 S.length c3, .slice A4 T.length c4] 59 (0, 0)) ∧ NoKid K T k) (fun i _ => K.length - (intOf i).toNat)
  case atStart => exact ⟨0, Nat.zero_le _, rfl, hu, hx, NoKid.zero K T⟩
  case round =>
    obtain ⟨k, hk, rfl, hv, hy, hN⟩ := hrel
    clear x0 x1 x2 x3 x4 hxs hx hu
    obtain ⟨x0, x1, x2, x3, x4, hxs⟩ := row5 hy
    by_cases hlt : k < K.length
    rotate_left
    · have hK0 := hN.good (by omega)
      have K0 : Hid (R = elsErr (S.map Sp.el)) := HG.out.trans (by rw [hK0, if_neg (by simp)])
      clear hK0
      have hBy : w.heap.size < wr.heap.size := hxs
      go_wp2_with fail
      go_loopw [58] (fun i wr' => ∃ k' : Nat, k' ≤ S.length ∧ i = .int .i64 k' ∧ Calm w wr' ∧ wr'.heap[w.heap.size]? = some (.cells #[.int .i64 kd, .slice A1 0 c1, .slice A2 K.length c2, .slice A3 S.length c3, .slice A4 T.length c4] 59 (0, 0)) ∧ NoStep (S.map Sp.el) k') (fun i _ => S.length - (intOf i).toNat)
      case atStart => exact ⟨0, Nat.zero_le _, rfl, hv, hy, NoStep.zero _⟩
      case round =>
        obtain ⟨k', hk', rfl, hz, hy2, hNS⟩ := hrel
        clear x0 x1 x2 x3 x4 hxs hy hv
        by_cases hlt' : k' < S.length
        rotate_left
        · have K1 := Lib.hid (hNS.good (by simp; omega))
          go_wp2_with fail
          go_ret
          exact ⟨ret_int (K1.out.trans K0.out.symm), hz⟩
        obtain ⟨b, q, p, o, f, m, rfl, hb, HE, hm0, d0, d1, d2, d3⟩ := (hLS.out.calm hz).get hlt'
        have HE2 : Hid ((S.map Sp.el)[k']? = some ⟨p, o, f, m, 0, { data := #[] }⟩) := by show _ = _; rw [List.getElem?_map, HE.out]; rfl
        have cE := fun u => refElem_any p o f m 0 { data := #[] } u hm0
        by_cases he : elemErr p o f m 0 (({ data := #[] } : ByteArray).size) = 0
        rotate_left
        · have b1 : (elemErr p o f m 0 (({ data := #[] } : ByteArray).size) != 0) = true := by simpa using he
          have K1 : Hid (elemErr p o f m 0 (({ data := #[] } : ByteArray).size) = R) := by
            have h1 := sStep_err HE2.out (show El.err ⟨p, o, f, m, 0, { data := #[] }⟩ ≠ 0 from he)
            show _ = _
            rw [K0.out, ← hNS.bad (by rw [h1]; exact he) (by simpa using hlt'), h1]; rfl
          generalize elemErr p o f m 0 (({ data := #[] } : ByteArray).size) = X at cE b1 K1
          clear he
          go_wp2_with (go_at_call 13; (with_reducible refine (cE _).mono ?_); rintro e w1 ⟨rfl, hb1⟩)
          go_ret
          exact ⟨ret_int K1.out, (hz.alloc _).call hb1⟩
        have b1 : (elemErr p o f m 0 (({ data := #[] } : ByteArray).size) != 0) = false := by simpa using he
        have HE0 : Hid (elemErr p o f m 0 (({ data := #[] } : ByteArray).size) = 0) := he
        rw [he] at cE
        clear he
        by_cases hk0 : k' = 0
        · subst hk0
          have hN1 : NoStep (S.map Sp.el) 1 := hNS.succ (sStep_first HE2.out HE0.out)
          simp only [Nat.zero_mul, Nat.add_zero] at d0 d1 d2 d3
          go_wp2_with (go_at_call 13; (with_reducible refine (cE _).mono ?_); rintro e w1 ⟨rfl, hb1⟩)
          refine wp_region_plan [.val (.int .i64 (0)), .val (.bool false), .val (.bool false), .idle, .idle, .idle, .idle, .idle, .idle, .idle, .idle, .idle, .val (.bool false)] (by kernel_rfl) (by kernel_rfl) (by kernel_rfl) ?_
          intro X
          iterate 3
            refine plan_val (by kernel_rfl) (fun u hu => ?_) ?_
            · obtain ⟨hc, hf, hz⟩ := hu.of_drew.facts
              go_simp
            simp only [Act.put, List.setIfInBounds_toArray, List.set_cons_zero, List.set_cons_succ, Nat.reduceAdd]
          iterate 9
            refine plan_idle (by kernel_rfl) ?_
            simp only [Act.put, List.setIfInBounds_toArray, List.set_cons_zero, List.set_cons_succ, Nat.reduceAdd]
          iterate 1
            refine plan_val (by kernel_rfl) (fun u hu => ?_) ?_
            · obtain ⟨hc, hf, hz⟩ := hu.of_drew.facts
              go_simp
            simp only [Act.put, List.setIfInBounds_toArray, List.set_cons_zero, List.set_cons_succ, Nat.reduceAdd]
          refine plan_end ?_
          intro w' hB
          have hk := hB.calm.of_drew
          clear hB
          go_wp2_with fail
          have hg9 := (row5 hy2).2.2.2.2.2
          have hy3 := (hk.block (by have h9 := hb1.size; simp only [World.size_alloc] at h9; omega)).trans ((hb1.block (by simp; omega)).trans (heap_past _ hy2))
          exact ⟨⟨1, by omega, rfl, ((hz.alloc _).call hb1).call hk, hy3, hN1⟩, by simp [intOf]; omega⟩
        obtain ⟨p', o', f', m', HE', hm1, g0, g1, g2, g3⟩ := (hLS.out.calm hz).get2 (k := k' - 1) (by omega)
        have HE2' : Hid ((S.map Sp.el)[k' - 1]? = some ⟨p', o', f', m', 0, { data := #[] }⟩) := by show _ = _; rw [List.getElem?_map, HE'.out]; rfl
        have hS := sStep_form HE2.out HE0.out (by omega) HE2'.out
        have hk1 : 1 ≤ k' := by omega
        have hge := ahead_rise p' o' f' m' 0 { data := #[] } p o f m 0 { data := #[] }
        have cA := fun u => aheadSpot_any p' o' f' m' p o f m u
        rw [hge] at cA
        by_cases hF : Rise ⟨p', o', f', m', 0, { data := #[] }⟩ ⟨p, o, f, m, 0, { data := #[] }⟩
        · rw [if_pos hF] at hS
          rw [decide_eq_true hF] at cA
          have hN1 : NoStep (S.map Sp.el) (k' + 1) := hNS.succ hS
          clear hF hge
          clear hS hk0
          go_wp2_with (go_at_call 13; (with_reducible refine (cE _).mono ?_); rintro e w1 ⟨rfl, hb1⟩)
          have hx := (hb1.block (k := wr.heap.size) (by simp)).trans (heap_new wr _)
          obtain ⟨y0, y1, y2, y3, hys⟩ := row4 hx
          have hv := ((Calm.refl wr).alloc _).call hb1
          have hv1 := hz.call hv
          have hy3 := (hv.block (row5 hy2).2.2.2.2.2).trans hy2
          obtain ⟨x0, x1, x2, x3, x4, hxs⟩ := row5 hy3
          have hb2 : b < w1.heap.size := Nat.lt_of_lt_of_le hb hv.size
          have hvc := hv.facts.1
          replace g0 := (hvc _ _ hb).trans g0; replace g1 := (hvc _ _ hb).trans g1; replace g2 := (hvc _ _ hb).trans g2; replace g3 := (hvc _ _ hb).trans g3
          clear hvc hv hb1 hx d0 d1 d2 d3 b1
          have z0 : 0 < k' := hk1
          have z1 : IntKind.i64.wrap ((k' : Int) - 1) = (k' : Int) - 1 := IntWalk.i64_in _ (by omega)
          have z2 : ((k' : Int) - 1).toNat = k' - 1 := by omega
          have z3 : 0 ≤ (k' : Int) - 1 := by omega
          have z4 : (k' : Int) - 1 < S.length := by omega
          have z5 : 1 ≤ (k' : Int) := by omega
          refine wp_region_plan [.val (.int .i64 (k')), .val (.bool true), .val (.bool true), .val (.pointer (some ⟨w.heap.size, 3, none⟩)), .val (.slice (some ⟨b, q, none⟩) S.length c3), .val (.int .i64 (k')), .val (.int .i64 ((k' : Int) - 1)), .val (.pointer (some ⟨b, q + (k' - 1) * 4, none⟩)), .val (.agg #[.int .i64 p', .int .i64 o', .int .i64 f', .int .i64 m']), .val (.agg #[.int .i64 p, .int .i64 o, .int .i64 f, .int .i64 m]), .val (.bool true), .val (.bool false), .val (.bool false)] (by kernel_rfl) (by kernel_rfl) (by kernel_rfl) ?_
          intro X
          iterate 13
            refine plan_val (by kernel_rfl) (fun u hu => ?_) ?_
            · obtain ⟨hc, hf, hz⟩ := hu.of_drew.facts
              go_simp
              all_goals first
                | ((go_at_call 52; exact cA _))
            simp only [Act.put, List.setIfInBounds_toArray, List.set_cons_zero, List.set_cons_succ, Nat.reduceAdd]
          refine plan_end ?_
          intro w' hB
          have hk := hB.calm.of_drew
          clear hB
          clear z0 z1 z2 z3 z4 z5
          go_wp2_with fail
          have hy4 := (hk.block (row5 hy3).2.2.2.2.2).trans hy3
          go_roundw
          case rel => exact ⟨k' + 1, by omega, by go_num, hv1.call hk, hy4, hN1⟩
          case measure => simp [intOf]; omega
        · rw [if_neg hF] at hS
          rw [decide_eq_false hF] at cA
          have K1 : Hid (3 = R) := (hS.symm.trans (hNS.bad (by rw [hS]; decide) (by simpa using hlt'))).trans K0.out.symm
          clear hF hge
          clear hS hk0
          go_wp2_with (go_at_call 13; (with_reducible refine (cE _).mono ?_); rintro e w1 ⟨rfl, hb1⟩)
          have hx := (hb1.block (k := wr.heap.size) (by simp)).trans (heap_new wr _)
          obtain ⟨y0, y1, y2, y3, hys⟩ := row4 hx
          have hv := ((Calm.refl wr).alloc _).call hb1
          have hv1 := hz.call hv
          have hy3 := (hv.block (row5 hy2).2.2.2.2.2).trans hy2
          obtain ⟨x0, x1, x2, x3, x4, hxs⟩ := row5 hy3
          have hb2 : b < w1.heap.size := Nat.lt_of_lt_of_le hb hv.size
          have hvc := hv.facts.1
          replace g0 := (hvc _ _ hb).trans g0; replace g1 := (hvc _ _ hb).trans g1; replace g2 := (hvc _ _ hb).trans g2; replace g3 := (hvc _ _ hb).trans g3
          clear hvc hv hb1 hx d0 d1 d2 d3 b1
          have z0 : 0 < k' := hk1
          have z1 : IntKind.i64.wrap ((k' : Int) - 1) = (k' : Int) - 1 := IntWalk.i64_in _ (by omega)
          have z2 : ((k' : Int) - 1).toNat = k' - 1 := by omega
          have z3 : 0 ≤ (k' : Int) - 1 := by omega
          have z4 : (k' : Int) - 1 < S.length := by omega
          have z5 : 1 ≤ (k' : Int) := by omega
          refine wp_region_plan [.val (.int .i64 (k')), .val (.bool true), .val (.bool true), .val (.pointer (some ⟨w.heap.size, 3, none⟩)), .val (.slice (some ⟨b, q, none⟩) S.length c3), .val (.int .i64 (k')), .val (.int .i64 ((k' : Int) - 1)), .val (.pointer (some ⟨b, q + (k' - 1) * 4, none⟩)), .val (.agg #[.int .i64 p', .int .i64 o', .int .i64 f', .int .i64 m']), .val (.agg #[.int .i64 p, .int .i64 o, .int .i64 f, .int .i64 m]), .val (.bool false), .val (.bool true), .val (.bool true)] (by kernel_rfl) (by kernel_rfl) (by kernel_rfl) ?_
          intro X
          iterate 13
            refine plan_val (by kernel_rfl) (fun u hu => ?_) ?_
            · obtain ⟨hc, hf, hz⟩ := hu.of_drew.facts
              go_simp
              all_goals first
                | ((go_at_call 52; exact cA _))
            simp only [Act.put, List.setIfInBounds_toArray, List.set_cons_zero, List.set_cons_succ, Nat.reduceAdd]
          refine plan_end ?_
          intro w' hB
          have hk := hB.calm.of_drew
          clear hB
          clear z0 z1 z2 z3 z4 z5
          go_wp2_with fail
          go_ret
          exact ⟨ret_int K1.out, hv1.call hk⟩
    obtain ⟨b, q, x, rfl, hb, HX, cx⟩ := (hLK.out.calm hv).get hlt
    obtain ⟨b', q', y, rfl, hb', HY, cy⟩ := (hLT.out.calm hv).get (k := k) (by rw [hTK'.out]; exact hlt)
    have hst := kStep_at HX.out HY.out
    have hkT : (k : Int) < (T.length : Int) := by have := hTK'.out; omega
    by_cases hx1 : 0 ≤ x ∧ x ≤ 399
    rotate_left
    · rw [if_neg hx1] at hst
      have hR := hN.bad (by rw [hst]; decide) hlt
      have K1 : Hid (R = 1) := HG.out.trans (by rw [← hR, hst, if_pos (by decide)])
      have cX := fun u => between_calm x 399 false (decide_eq_false hx1) u
      clear hx1 hst hR
      go_wp2_with (go_at_call 86; (with_reducible refine (cX _).mono ?_); rintro e w1 ⟨rfl, rfl⟩)
      go_ret
      exact ⟨ret_int K1.out.symm, hv⟩
    rw [if_pos hx1] at hst
    have cX := fun u => between_calm x 399 true (decide_eq_true hx1) u
    by_cases hy1 : 0 ≤ y ∧ y ≤ 2147483647
    rotate_left
    · rw [if_neg hy1] at hst
      have hR := hN.bad (by rw [hst]; decide) hlt
      have K1 : Hid (R = 9) := HG.out.trans (by rw [← hR, hst, if_pos (by decide)])
      have cY := fun u => between_calm y 2147483647 false (decide_eq_false hy1) u
      clear hy1 hx1 hst hR
      go_wp2_with (go_at_call 86; first | (with_reducible refine (cX _).mono ?_; rintro e w1 ⟨rfl, rfl⟩) | (with_reducible refine (cY _).mono ?_; rintro e w1 ⟨rfl, rfl⟩))
      go_ret
      exact ⟨ret_int K1.out.symm, hv⟩
    rw [if_pos hy1] at hst
    have hN1 := hN.succ hst
    have cY := fun u => between_calm y 2147483647 true (decide_eq_true hy1) u
    clear hy1 hx1 hst hN
    go_wp2_with (go_at_call 86; first | (with_reducible refine (cX _).mono ?_; rintro e w1 ⟨rfl, rfl⟩) | (with_reducible refine (cY _).mono ?_; rintro e w1 ⟨rfl, rfl⟩))
    go_roundw
    case rel => exact ⟨k + 1, by omega, by go_num, hv, hy, hN1⟩
    case measure => simp [intOf]; omega
end Go.Proofs.Ytccfcloekjogkaa
