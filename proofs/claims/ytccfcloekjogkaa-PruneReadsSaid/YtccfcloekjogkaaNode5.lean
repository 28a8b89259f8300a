/- node.checkInner. -/
import Derived.Test.YtccfcloekjogkaaNode4
namespace Go.Proofs.Ytccfcloekjogkaa
open Go.RowKit

set_option maxRecDepth 100000 in
set_option maxHeartbeats 4000000 in
theorem checkInner_any (kd : Int) (A1 A2 A3 A4 : Option Addr) (c1 c2 c3 c4 : Nat) (E : List El) (K : List Int) (S : List Sp) (T : List Int) (w : World) (h : NdAt w A1 A2 A3 A4 E K S T) :
    Calls Try.prog 101 #[.agg #[.int .i64 kd, .slice A1 E.length c1, .slice A2 K.length c2, .slice A3 S.length c3, .slice A4 T.length c4]] w fun e w' => e = .returned (.int .i64 (innerErr E K S T)) ∧ Calm w w' := by
  have hx := heap_new w (.cells #[.int .i64 kd, .slice A1 E.length c1, .slice A2 K.length c2, .slice A3 S.length c3, .slice A4 T.length c4] 59)
  have hu := (Calm.refl w).alloc (.cells #[.int .i64 kd, .slice A1 E.length c1, .slice A2 K.length c2, .slice A3 S.length c3, .slice A4 T.length c4] 59)
  obtain ⟨hne, hnk, hns, hnt⟩ : _ ∧ _ ∧ _ ∧ _ := ⟨h.ne, h.nk, h.ns, h.nt⟩
  by_cases hF : formI E K S T
  · have hG : Hid (3 = innerErr E K S T) := (if_pos hF).symm
    unfold formI at hF
    generalize innerErr E K S T = R at hG ⊢
    generalize E.length = ne at *
    generalize K.length = nk at *
    generalize S.length = ns at *
    generalize T.length = nt at *
    obtain ⟨x0, x1, x2, x3, x4, hxs⟩ := row5 hx
    clear hx h
    have h4 : (0 : Int) < ne ∨ ((ne : Int) ≤ 0 ∧ (nk : Int) < 2) ∨ ((ne : Int) ≤ 0 ∧ (2 : Int) ≤ nk ∧ ns + 1 ≠ nk) ∨ ((ne : Int) ≤ 0 ∧ (2 : Int) ≤ nk ∧ ns + 1 = nk ∧ nt ≠ nk) := by omega
    clear hF
    rcases h4 with h4 | ⟨h4, h5⟩ | ⟨h4, h5, h6⟩ | ⟨h4, h5, h6, h7⟩
    · go_enter Try.func101, Try.ntmps101
      go_wp2_with fail
      go_ret
      exact ⟨ret_int hG.out, hu⟩
    · obtain rfl : ne = 0 := by omega
      clear h4
      go_enter Try.func101, Try.ntmps101
      go_wp2_with fail
      go_ret
      exact ⟨ret_int hG.out, hu⟩
    · obtain rfl : ne = 0 := by omega
      have b1 : ((ns : Int) != (nk : Int) - 1) = true := by rw [bne_iff_ne]; omega
      clear h4
      go_enter Try.func101, Try.ntmps101
      go_wp2_with fail
      go_ret
      exact ⟨ret_int hG.out, hu⟩
    · obtain rfl : ne = 0 := by omega
      have b1 : ((ns : Int) != (nk : Int) - 1) = false := by rw [bne_eq_false_iff_eq]; omega
      have b2 : ((nt : Int) != (nk : Int)) = true := by rw [bne_iff_ne]; omega
      clear h4 h6 h7
      go_enter Try.func101, Try.ntmps101
      go_wp2_with fail
      go_ret
      exact ⟨ret_int hG.out, hu⟩
  have hF2 : E.length = 0 ∧ 2 ≤ K.length ∧ S.length + 1 = K.length ∧ T.length = K.length := by unfold formI at hF; omega
  obtain ⟨hE0, hK2, hSK, hTK⟩ := hF2
  have b1 : ((S.length : Int) != (K.length : Int) - 1) = false := by rw [bne_eq_false_iff_eq]; omega
  have b2 : ((T.length : Int) != (K.length : Int)) = false := by rw [bne_eq_false_iff_eq]; omega
  have hK2' : (2 : Int) ≤ (K.length : Int) := by omega
  by_cases h8 : 8 < K.length
  · have hG : Hid (2 = innerErr E K S T) := by show _ = _; unfold innerErr; rw [if_neg hF, if_pos h8]
    have h8' : (8 : Int) < (K.length : Int) := by omega
    rw [hE0] at hx hu ⊢
    obtain ⟨x0, x1, x2, x3, x4, hxs⟩ := row5 hx
    clear hF hSK hTK h8
    go_enter Try.func101, Try.ntmps101
    go_wp2_with fail
    go_ret
    exact ⟨ret_int hG.out, hu⟩
  have h8' : (K.length : Int) ≤ 8 := by omega
  have hG : innerErr E K S T = if kidsErr K T ≠ 0 then kidsErr K T else elsErr (S.map Sp.el) := by unfold innerErr; rw [if_neg hF, if_neg h8]
  generalize innerErr E K S T = R at hG ⊢
  have HG := Lib.hid hG
  rw [hE0] at hx hu ⊢
  obtain ⟨hLK, hLS, hLT⟩ : Hid (LiesI w A2 K) ∧ Hid (LiesS w A3 S) ∧ Hid (LiesI w A4 T) := ⟨h.k, h.s, h.t⟩
  obtain ⟨x0, x1, x2, x3, x4, hxs⟩ := row5 hx
  have hTK' := Lib.hid hTK
  have hSK' := Lib.hid hSK
  have hS8 : S.length ≤ 400 := by omega
  clear hF hG h hE0 hSK hTK h8
  go_enter Try.func101, Try.ntmps101
  go_wp2_with fail
  go_loopw [38] (fun i wr => ∃ k : Nat, k ≤ K.length ∧ i = .int .i64 k ∧ Calm w wr ∧ wr.heap[w.heap.size]? = some (.cells #[.int .i64 kd, .slice A1 0 c1, .slice A2 K.length c2, .slice A3 S.length c3, .slice A4 T.length c4] 59 (0, 0)) ∧ NoKid K T k) (fun i _ => K.length - (intOf i).toNat)
  case atStart => exact ⟨0, Nat.zero_le _, rfl, hu, hx, NoKid.zero K T⟩
  case round =>
    obtain ⟨k, hk, rfl, hv, hy, hN⟩ := hrel
    clear x0 x1 x2 x3 x4 hxs hx hu
    obtain ⟨x0, x1, x2, x3, x4, hxs⟩ := row5 hy
    by_cases hlt : k < K.length
    rotate_left
    · have hK0 := hN.good (by omega)
      have K0 : Hid (R = elsErr (S.map Sp.el)) := HG.out.trans (by rw [hK0, if_neg (by simp)])
      clear hK0
      go_wp2_with (first
        | (go_at_call 128; refine (records_any _ _ S _ hS8 (hLS.out.calm hv)).mono ?_; rintro e w1 ⟨g, rfl, hL1, hb1⟩; replace hv := hv.call hb1; clear hb1; have HL1 := Lib.hid hL1; clear hL1)
        | (go_at_call 127; rw [show S.length = (S.map Sp.el).length from by simp]; refine (checkElems_any _ _ (S.map Sp.el) _ (by simp; omega) HL1.out).mono ?_; rintro e w1 ⟨rfl, hb1⟩; replace hv := hv.call hb1; clear hb1))
      go_ret
      exact ⟨ret_int K0.out.symm, hv⟩
    obtain ⟨b, q, x, rfl, hb, HX, cx⟩ := (hLK.out.calm hv).get hlt
    obtain ⟨b', q', y, rfl, hb', HY, cy⟩ := (hLT.out.calm hv).get (k := k) (by rw [hTK'.out]; exact hlt)
    have hst := kStep_at HX.out HY.out
    have hkT : (k : Int) < (T.length : Int) := by have := hTK'.out; omega
    by_cases hx1 : 0 ≤ x ∧ x ≤ 399
    rotate_left
    · rw [if_neg hx1] at hst
      have hR := hN.bad (by rw [hst]; decide) hlt
      have K1 : Hid (R = 1) := HG.out.trans (by rw [← hR, hst, if_pos (by decide)])
      have h2 : x < 0 ∨ 0 ≤ x ∧ 400 ≤ x := by omega
      clear hx1 hst hR
      rcases h2 with h2 | ⟨h2, h3⟩
      · go_wp2_with fail
        go_ret
        exact ⟨ret_int K1.out.symm, hv⟩
      · go_wp2_with fail
        go_ret
        exact ⟨ret_int K1.out.symm, hv⟩
    rw [if_pos hx1] at hst
    have h2 : 0 ≤ x := hx1.1
    have h3 : x < 400 := by omega
    by_cases hy1 : 0 ≤ y ∧ y ≤ 2147483647
    rotate_left
    · rw [if_neg hy1] at hst
      have hR := hN.bad (by rw [hst]; decide) hlt
      have K1 : Hid (R = 9) := HG.out.trans (by rw [← hR, hst, if_pos (by decide)])
      have h4 : y < 0 ∨ 0 ≤ y ∧ 2147483647 < y := by omega
      clear hy1 hx1 hst hR
      rcases h4 with h4 | ⟨h4, h5⟩
      · go_wp2_with fail
        go_ret
        exact ⟨ret_int K1.out.symm, hv⟩
      · go_wp2_with fail
        go_ret
        exact ⟨ret_int K1.out.symm, hv⟩
    rw [if_pos hy1] at hst
    have hN1 := hN.succ hst
    have h4 : 0 ≤ y := hy1.1
    have h5 : y ≤ 2147483647 := hy1.2
    clear hy1 hx1 hst hN
    go_wp2_with fail
    go_roundw
    case rel => exact ⟨k + 1, by omega, by go_num, hv, hy, hN1⟩
    case measure => simp [intOf]; omega
end Go.Proofs.Ytccfcloekjogkaa
