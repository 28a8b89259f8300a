/- SumBursts: the law's own walk. -/
import Derived.Test.YtimfjjnlbfcccaaLawS2
import Derived.Test.YtimfjjnlbfcccaaBytes
namespace Go.Proofs.Ytimfjjnlbfcccaa
open Go.ChangeShapes Go.WideShapes Go.ChangeAt Go.RowKit

theorem sumOf_nil (w : World) : Calls Try.prog 26 #[.string { data := #[] }] w fun e w' => e = .returned (.int .i64 0) ∧ w = w' :=
  sumOf_at _ _ w (by decide) (by decide +kernel)
theorem sumOf_a (w : World) : Calls Try.prog 26 #[.string { data := #[97] }] w fun e w' => e = .returned (.int .i64 31879) ∧ w = w' :=
  sumOf_at _ _ w (by decide) (by decide +kernel)
theorem sumOf_b (w : World) : Calls Try.prog 26 #[.string { data := #[98] }] w fun e w' => e = .returned (.int .i64 19684) ∧ w = w' :=
  sumOf_at _ _ w (by decide) (by decide +kernel)

theorem bit_u16 (t j : Nat) (ht : t < 65536) : (bits .and .u16 ((t : Int) / 2 ^ j) 1 == 1) = t.testBit j := by
  have e : (t : Int) / 2 ^ j = ((t / 2 ^ j : Nat) : Int) := by push_cast; rfl
  have hl : t / 2 ^ j ≤ t := Nat.div_le_self _ _
  have := Go.u16_and_nat (t / 2 ^ j) 1 (by omega) (by omega)
  rw [e, show (1 : Int) = ((1 : Nat) : Int) from rfl, this, Go.nat_mask1, Nat.testBit_eq_decide_div_mod_eq]
  generalize t / 2 ^ j % 2 = x
  by_cases h : x = 1
  · subst h; rfl
  · have h' : ¬ ((x : Int) = 1) := by omega
    simp [h]; omega
theorem mask_of (m : Nat) (hm : m < 8) : (128 : Int) / 2 ^ m = ((UInt8.ofNat (128 >>> m)).toNat : Int) := by
  have : ∀ m : Fin 8, (128 : Int) / 2 ^ m.val = ((UInt8.ofNat (128 >>> m.val)).toNat : Int) := by decide +kernel
  exact this ⟨m, hm⟩

end Go.Proofs.Ytimfjjnlbfcccaa
