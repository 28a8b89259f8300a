/- SumSays, SumNought: the laws' own walks. -/
import Derived.Test.YtmianlnpaiebhaaSum2
import Derived.Test.YtmianlnpaiebhaaRead
namespace Go.Proofs.Ytmianlnpaiebhaa
open Go.ChangeShapes Go.WideShapes Go.ChangeAt Go.RowKit

theorem sumOf_at (s : ByteArray) (n : Int) (w : World) (hs : s.size ≤ maxLen) (h : ((crc s.data.toList).toNat : Int) = n) : Calls Try.prog 23 #[.string s] w fun e w' => e = .returned (.int .i64 n) ∧ w = w' :=
  h ▸ sumOf_any s w hs
theorem sumOf_check (w : World) : Calls Try.prog 23 #[.string { data := #[49, 50, 51, 52, 53, 54, 55, 56, 57] }] w fun e w' => e = .returned (.int .i64 12739) ∧ w = w' :=
  sumOf_at _ _ w (by decide) (by decide +kernel)
theorem sumOf_check0 (w : World) : Calls Try.prog 23 #[.string { data := #[49, 50, 51, 52, 53, 54, 55, 56, 57, 49, 195] }] w fun e w' => e = .returned (.int .i64 0) ∧ w = w' :=
  sumOf_at _ _ w (by decide) (by decide +kernel)

set_option maxHeartbeats 1000000 in
theorem sumSays_walk (s : ByteArray) (w : World) (hs : s.size ≤ 140737488351232) : Calls Try.prog 4 #[.string s] w fun e w' => e = .returned (.bool true) ∧ Calm w w' := by
  have c1 := fun w => sumOf_any s w (by unfold maxLen; omega)
  have c2 := fun w => refSum_any s w hs
  generalize ((crc s.data.toList).toNat : Int) = x at c1 c2
  go_enter Try.func4, Try.ntmps4
  go_wp2_with (first
    | (go_at_call 24; refine (c2 _).mono ?_; rintro e w1 ⟨rfl, rfl⟩)
    | (go_at_call 23; (with_reducible refine (c1 _).mono ?_); rintro e w1 ⟨rfl, rfl⟩)
    | (go_at_call 23; refine (sumOf_check _).mono ?_; rintro e w1 ⟨rfl, rfl⟩))
  go_ret
  exact ⟨rfl, Calm.refl _⟩

end Go.Proofs.Ytmianlnpaiebhaa
