/- SumSays, SumNought: the laws' own walks. -/
import Derived.Test.YtimfjjnlbfcccaaSum2
import Derived.Test.YtimfjjnlbfcccaaRead
namespace Go.Proofs.Ytimfjjnlbfcccaa
open Go.ChangeShapes Go.WideShapes Go.ChangeAt Go.RowKit

theorem sumOf_at (s : ByteArray) (n : Int) (w : World) (hs : s.size ≤ maxLen) (h : ((crc s.data.toList).toNat : Int) = n) : Calls Try.prog 26 #[.string s] w fun e w' => e = .returned (.int .i64 n) ∧ w = w' :=
  h ▸ sumOf_any s w hs
theorem sumOf_check (w : World) : Calls Try.prog 26 #[.string { data := #[49, 50, 51, 52, 53, 54, 55, 56, 57] }] w fun e w' => e = .returned (.int .i64 12739) ∧ w = w' :=
  sumOf_at _ _ w (by decide) (by decide +kernel)
theorem sumOf_check0 (w : World) : Calls Try.prog 26 #[.string { data := #[49, 50, 51, 52, 53, 54, 55, 56, 57, 49, 195] }] w fun e w' => e = .returned (.int .i64 0) ∧ w = w' :=
  sumOf_at _ _ w (by decide) (by decide +kernel)

end Go.Proofs.Ytimfjjnlbfcccaa
