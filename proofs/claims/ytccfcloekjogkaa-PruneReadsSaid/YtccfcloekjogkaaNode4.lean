/- node.checkLeaf, node.checkInner. -/
import Derived.Test.YtccfcloekjogkaaNode3
namespace Go.Proofs.Ytccfcloekjogkaa
open Go.RowKit

set_option maxRecDepth 100000 in
set_option maxHeartbeats 4000000 in
theorem checkLeaf_any (kd : Int) (A1 A2 A3 A4 : Option Addr) (c1 c2 c3 c4 : Nat) (E : List El) (K : List Int) (S : List Sp) (T : List Int) (w : World) (h : NdAt w A1 A2 A3 A4 E K S T) :
    Calls Try.prog 100 #[.agg #[.int .i64 kd, .slice A1 E.length c1, .slice A2 K.length c2, .slice A3 S.length c3, .slice A4 T.length c4]] w fun e w' => e = .returned (.int .i64 (leafErr E K S T)) ∧ Calm w w' := by
  have cH := fun u => hasKids_any kd A1 A2 A3 A4 c1 c2 c3 c4 E K S T u h.nk h.ns h.nt
  have hx := heap_new w (.cells #[.int .i64 kd, .slice A1 E.length c1, .slice A2 K.length c2, .slice A3 S.length c3, .slice A4 T.length c4] 59)
  have hu := (Calm.refl w).alloc (.cells #[.int .i64 kd, .slice A1 E.length c1, .slice A2 K.length c2, .slice A3 S.length c3, .slice A4 T.length c4] 59)
  have hne := h.ne
  by_cases hB : 0 < K.length ∨ 0 < S.length ∨ 0 < T.length
  · have hG : Hid (3 = leafErr E K S T) := (if_pos hB).symm
    rw [decide_eq_true hB] at cH
    clear hB
    go_enter Try.func100, Try.ntmps100
    go_wp2_with (go_at_call 126; (with_reducible refine (cH _).mono ?_); rintro e w1 ⟨rfl, hb1⟩; replace hu := hu.call hb1; clear hb1)
    go_ret
    exact ⟨ret_int hG.out, hu⟩
  rw [decide_eq_false hB] at cH
  by_cases h8 : 8 < E.length
  · have hG : Hid (2 = leafErr E K S T) := by show _ = _; unfold leafErr; rw [if_neg hB, if_pos h8]
    have h8' : (8 : Int) < E.length := by omega
    clear hB h8
    go_enter Try.func100, Try.ntmps100
    go_wp2_with (go_at_call 126; (with_reducible refine (cH _).mono ?_); rintro e w1 ⟨rfl, hb1⟩; replace hu := hu.call hb1; replace hx := (hb1.block (row5 hx).2.2.2.2.2).trans hx; clear hb1; obtain ⟨x0, x1, x2, x3, x4, hxs⟩ := row5 hx)
    go_ret
    exact ⟨ret_int hG.out, hu⟩
  have hG : Hid (elsErr E = leafErr E K S T) := by show _ = _; unfold leafErr; rw [if_neg hB, if_neg h8]
  have h8' : (E.length : Int) ≤ 8 := by omega
  have hL : Hid (Lies w A1 E) := h.e
  clear hB h8
  go_enter Try.func100, Try.ntmps100
  go_wp2_with (first
    | (go_at_call 126; (with_reducible refine (cH _).mono ?_); rintro e w1 ⟨rfl, hb1⟩; replace hu := hu.call hb1; replace hx := (hb1.block (row5 hx).2.2.2.2.2).trans hx; clear hb1; obtain ⟨x0, x1, x2, x3, x4, hxs⟩ := row5 hx)
    | (go_at_call 127; refine (checkElems_any _ _ E _ hne (hL.out.calm hu)).mono ?_; rintro e w1 ⟨rfl, hb1⟩; replace hu := hu.call hb1; clear hb1))
  go_ret
  exact ⟨ret_int hG.out, hu⟩
end Go.Proofs.Ytccfcloekjogkaa
