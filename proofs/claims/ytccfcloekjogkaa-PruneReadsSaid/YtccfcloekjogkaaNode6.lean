/- node.Check. -/
import Derived.Test.YtccfcloekjogkaaNode5
namespace Go.Proofs.Ytccfcloekjogkaa
open Go.RowKit

set_option maxRecDepth 100000 in
theorem nd_free (E : List El) (K : List Int) (S : List Sp) (T : List Int) : ndErr 0 E K S T = freeErr E K S T := if_pos rfl
set_option maxRecDepth 100000 in
theorem nd_leaf (E : List El) (K : List Int) (S : List Sp) (T : List Int) : ndErr 1 E K S T = leafErr E K S T := by unfold ndErr; rw [if_neg (by decide), if_pos rfl]
set_option maxRecDepth 100000 in
theorem nd_inner (E : List El) (K : List Int) (S : List Sp) (T : List Int) : ndErr 2 E K S T = innerErr E K S T := by unfold ndErr; rw [if_neg (by decide), if_neg (by decide), if_pos rfl]
set_option maxRecDepth 100000 in
theorem nd_other {kd : Int} (h0 : kd ≠ 0) (h1 : kd ≠ 1) (h2 : kd ≠ 2) (E : List El) (K : List Int) (S : List Sp) (T : List Int) : ndErr kd E K S T = 3 := by unfold ndErr; rw [if_neg h0, if_neg h1, if_neg h2]

set_option maxRecDepth 100000 in
set_option maxHeartbeats 4000000 in
theorem nodeCheck_any (kd : Int) (A1 A2 A3 A4 : Option Addr) (c1 c2 c3 c4 : Nat) (E : List El) (K : List Int) (S : List Sp) (T : List Int) (w : World) (h : NdAt w A1 A2 A3 A4 E K S T) :
    Calls Try.prog 72 #[.agg #[.int .i64 kd, .slice A1 E.length c1, .slice A2 K.length c2, .slice A3 S.length c3, .slice A4 T.length c4]] w fun e w' => e = .returned (.int .i64 (ndErr kd E K S T)) ∧ Calm w w' := by
  have hx := heap_new w (.cells #[.int .i64 kd, .slice A1 E.length c1, .slice A2 K.length c2, .slice A3 S.length c3, .slice A4 T.length c4] 59)
  have hu := (Calm.refl w).alloc (.cells #[.int .i64 kd, .slice A1 E.length c1, .slice A2 K.length c2, .slice A3 S.length c3, .slice A4 T.length c4] 59)
  have cF := fun u => checkFree_any kd A1 A2 A3 A4 c1 c2 c3 c4 E K S T u h.ne h.nk h.ns h.nt
  have cL := fun u (hu : Calm w u) => checkLeaf_any kd A1 A2 A3 A4 c1 c2 c3 c4 E K S T u (h.calm hu)
  have cI := fun u (hu : Calm w u) => checkInner_any kd A1 A2 A3 A4 c1 c2 c3 c4 E K S T u (h.calm hu)
  clear h
  by_cases h0 : kd = 0
  · subst h0
    rw [nd_free]
    clear cL cI
    obtain ⟨x0, x1, x2, x3, x4, hxs⟩ := row5 hx
    go_enter Try.func72, Try.ntmps72
    go_wp2_with (go_at_call 99; (with_reducible refine (cF _).mono ?_); rintro e w1 ⟨rfl, hb1⟩; replace hu := hu.call hb1; clear hb1)
    go_ret
    exact ⟨rfl, hu⟩
  by_cases h1 : kd = 1
  · subst h1
    rw [nd_leaf]
    clear cF cI
    obtain ⟨x0, x1, x2, x3, x4, hxs⟩ := row5 hx
    go_enter Try.func72, Try.ntmps72
    go_wp2_with (go_at_call 100; (with_reducible refine (cL _ hu).mono ?_); rintro e w1 ⟨rfl, hb1⟩; replace hu := hu.call hb1; clear hb1)
    go_ret
    exact ⟨rfl, hu⟩
  by_cases h2 : kd = 2
  · subst h2
    rw [nd_inner]
    clear cF cL
    obtain ⟨x0, x1, x2, x3, x4, hxs⟩ := row5 hx
    go_enter Try.func72, Try.ntmps72
    go_wp2_with (go_at_call 101; (with_reducible refine (cI _ hu).mono ?_); rintro e w1 ⟨rfl, hb1⟩; replace hu := hu.call hb1; clear hb1)
    go_ret
    exact ⟨rfl, hu⟩
  rw [nd_other h0 h1 h2]
  have b0 : (kd == 0) = false := by rw [beq_eq_false_iff_ne]; exact h0
  have b1 : (kd == 1) = false := by rw [beq_eq_false_iff_ne]; exact h1
  have b2 : (kd == 2) = false := by rw [beq_eq_false_iff_ne]; exact h2
  clear cF cL cI h0 h1 h2
  obtain ⟨x0, x1, x2, x3, x4, hxs⟩ := row5 hx
  go_enter Try.func72, Try.ntmps72
  go_wp2_with fail
  go_ret
  exact ⟨rfl, hu⟩
end Go.Proofs.Ytccfcloekjogkaa
