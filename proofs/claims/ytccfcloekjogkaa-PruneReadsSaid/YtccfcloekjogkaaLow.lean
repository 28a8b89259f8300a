/- What each function of packages key and elem, and of annalref beside them, answers: walked once each. No conditions but the ranges of int64 where they are named. -/
import Derived.Test.YtccfcloekjogkaaRows
import Derived.Test.YtccfcloekjogkaaPure
import Derived.Test.YtccfcloekjogkaaRegion
import Derived.WalkSpells
import Derived.WalkLawsBesides
import Derived.Lib.Hide
namespace Go.Proofs.Ytccfcloekjogkaa
open Go.RowKit

set_option maxRecDepth 100000 in
theorem ret_int {a b : Int} (h : a = b) : Ending.returned (.int .i64 a) = .returned (.int .i64 b) := by rw [h]
set_option maxRecDepth 100000 in
theorem ret_bool {a b : Bool} (h : a = b) : Ending.returned (.bool a) = .returned (.bool b) := by rw [h]

/-! ### key -/
set_option maxRecDepth 100000 in
set_option maxHeartbeats 400000 in
theorem components_any (p o f : Int) (w : World) :
    Calls Try.prog 96 #[.agg #[.int .i64 p, .int .i64 o, .int .i64 f]] w fun e w' => e = .returned (.agg #[.int .i64 p, .int .i64 o, .int .i64 f]) ∧ Calm w w' := by
  go_enter Try.func96, Try.ntmps96
  go_wp2
  go_returns
  exact ⟨rfl, by repeat (first | exact Calm.refl _ | refine Calm.alloc ?_ _)⟩

set_option maxRecDepth 100000 in
theorem index3 (x y z : Value) (w : World) : (Instr.index 135 (.agg #[x, y, z]) (.int .i64 0)).run Try.prog w = .ok x w ∧ (Instr.index 135 (.agg #[x, y, z]) (.int .i64 1)).run Try.prog w = .ok y w ∧ (Instr.index 135 (.agg #[x, y, z]) (.int .i64 2)).run Try.prog w = .ok z w :=
  ⟨by kernel_rfl, by kernel_rfl, by kernel_rfl⟩

set_option maxRecDepth 100000 in
set_option maxHeartbeats 1000000 in
theorem keyCheck_any (p o f : Int) (w : World) :
    Calls Try.prog 65 #[.agg #[.int .i64 p, .int .i64 o, .int .i64 f]] w fun e w' => e = .returned (.int .i64 (keyErr p o f)) ∧ Calm w w' := by
  have i0 := fun x y z w => (index3 x y z w).1
  have i1 := fun x y z w => (index3 x y z w).2.1
  have i2 := fun x y z w => (index3 x y z w).2.2
  by_cases h1 : p < 0
  rotate_left
  by_cases h2 : 15 < p
  rotate_left
  by_cases h3 : o < 0
  rotate_left
  by_cases h4 : 1048576 < o
  rotate_left
  by_cases h5 : f < 0
  rotate_left
  by_cases h6 : 1073741824 < f
  rotate_left
  all_goals
    first | rw [keyErr_no (by omega)] | rw [keyErr_ok (by omega) (by omega) (by omega) (by omega) (by omega) (by omega)]
    go_enter Try.func65, Try.ntmps65
    go_wp2_with (go_at_call 96; refine (components_any _ _ _ _).mono ?_; rintro e w1 ⟨rfl, hb1⟩; obtain ⟨hc1, hf1, hz1⟩ := hb1.facts)
    refine wp_loop_rounds 4 ?_
    rw [rounds_succ]
    go_wp2
    repeat (rw [rounds_succ]; go_wp2)
    go_returns
    exact ⟨rfl, by repeat (first | (with_reducible exact Calm.refl _) | (with_reducible refine Calm.alloc ?_ _) | (refine Calm.call ?_ (by with_reducible assumption)))⟩

end Go.Proofs.Ytccfcloekjogkaa
