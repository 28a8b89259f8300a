/- Bits of int64 numbers that are not negative, as naturals'. -/
import Derived.Test.YtimfjjnlbfcccaaPure
import Derived.Test.YtimfjjnlbfcccaaPureS
import Derived.Laws.BitsAll
import Derived.IntWalk
namespace Go.Proofs.Ytimfjjnlbfcccaa
open Go.RowKit

theorem ofInt_64 (a : Nat) (ha : a < 18446744073709551616) : (BitVec.ofInt 64 (a : Int)).toNat = a := by
  rw [BitVec.ofInt_natCast, BitVec.toNat_ofNat]; exact Nat.mod_eq_of_lt (by omega)
theorem i64_and (a b : Nat) (ha : a < 9223372036854775808) (hb : b < 9223372036854775808) : bits .and .i64 (a : Int) (b : Int) = ((a &&& b : Nat) : Int) := by
  have hx : a &&& b < 2 ^ 63 := Nat.and_lt_two_pow _ (by omega)
  show IntKind.i64.wrap ((BitVec.ofInt 64 (a : Int) &&& BitVec.ofInt 64 (b : Int)).toNat : Int) = _
  rw [BitVec.toNat_and, ofInt_64 a (by omega), ofInt_64 b (by omega)]
  exact IntWalk.i64_in _ (by omega)
theorem i64_or (a b : Nat) (ha : a < 9223372036854775808) (hb : b < 9223372036854775808) : bits .or .i64 (a : Int) (b : Int) = ((a ||| b : Nat) : Int) := by
  have hx : a ||| b < 2 ^ 63 := Nat.or_lt_two_pow (by omega) (by omega)
  show IntKind.i64.wrap ((BitVec.ofInt 64 (a : Int) ||| BitVec.ofInt 64 (b : Int)).toNat : Int) = _
  rw [BitVec.toNat_or, ofInt_64 a (by omega), ofInt_64 b (by omega)]
  exact IntWalk.i64_in _ (by omega)
theorem i64_xor (a b : Nat) (ha : a < 9223372036854775808) (hb : b < 9223372036854775808) : bits .xor .i64 (a : Int) (b : Int) = ((a ^^^ b : Nat) : Int) := by
  have hx : a ^^^ b < 2 ^ 63 := Nat.xor_lt_two_pow (by omega) (by omega)
  show IntKind.i64.wrap ((BitVec.ofInt 64 (a : Int) ^^^ BitVec.ofInt 64 (b : Int)).toNat : Int) = _
  rw [BitVec.toNat_xor, ofInt_64 a (by omega), ofInt_64 b (by omega)]
  exact IntWalk.i64_in _ (by omega)

/-- One bit of a byte. -/
theorem bit_of (c : UInt8) (n : Nat) : bits .and .i64 (wrap64 ((c.toNat : Int) / 2 ^ n)) 1 = ((c.toNat >>> n % 2 : Nat) : Int) := by
  have hc := c.toNat_lt
  have e : (c.toNat : Int) / 2 ^ n = ((c.toNat >>> n : Nat) : Int) := by
    rw [Nat.shiftRight_eq_div_pow]; push_cast; rfl
  have hs : c.toNat >>> n ≤ c.toNat := by rw [Nat.shiftRight_eq_div_pow]; exact Nat.div_le_self _ _
  rw [e]
  generalize c.toNat >>> n = x at *
  rw [IntWalk.wrap64_in _ (by omega)]
  have := i64_and x 1 (by omega) (by omega)
  rw [Go.nat_mask1] at this
  exact this

/-- The reference's step. -/
theorem ref_low (r : BitVec 16) (b : Nat) (hb : b < 2) (h : wrap64 ((r.toNat : Int) * 2 + (b : Int)) < 65536) : wrap64 ((r.toNat : Int) * 2 + (b : Int)) = ((shB r ^^^ BitVec.ofNat 16 b).toNat : Int) := by
  have hr := r.isLt
  rw [IntWalk.wrap64_in _ (by omega)] at h ⊢
  rw [ref_step r b hb, if_neg (by omega)]; push_cast; rfl
theorem ref_top (r : BitVec 16) (b : Nat) (hb : b < 2) (h : 65536 ≤ wrap64 ((r.toNat : Int) * 2 + (b : Int))) : bits .xor .i64 (wrap64 (wrap64 ((r.toNat : Int) * 2 + (b : Int)) - 65536)) 4129 = ((shB r ^^^ BitVec.ofNat 16 b).toNat : Int) := by
  have hr := r.isLt
  have e := IntWalk.wrap64_in ((r.toNat : Int) * 2 + (b : Int)) (by omega)
  rw [e] at h ⊢
  rw [IntWalk.wrap64_in _ (by omega)]
  rw [ref_step r b hb, if_pos (by omega)]
  have := i64_xor (r.toNat * 2 + b - 65536) 4129 (by omega) (by omega)
  rw [← this]
  congr 1
  omega
theorem ref_low0 (r : BitVec 16) (h : wrap64 (wrap64 ((r.toNat : Int) * 2)) < 65536) : wrap64 (wrap64 ((r.toNat : Int) * 2)) = ((shB r).toNat : Int) := by
  have hr := r.isLt
  have e := IntWalk.wrap64_in ((r.toNat : Int) * 2) (by omega)
  rw [e, e] at h ⊢
  rw [shB_low r (by omega)]; push_cast; rfl
theorem ref_top0 (r : BitVec 16) (h : 65536 ≤ wrap64 (wrap64 ((r.toNat : Int) * 2))) : bits .xor .i64 (wrap64 (wrap64 (wrap64 ((r.toNat : Int) * 2)) - 65536)) 4129 = ((shB r).toNat : Int) := by
  have hr := r.isLt
  have e := IntWalk.wrap64_in ((r.toNat : Int) * 2) (by omega)
  rw [e, e] at h ⊢
  rw [IntWalk.wrap64_in _ (by omega), shB_top r (by omega)]
  have := i64_xor (r.toNat * 2 % 65536) 4129 (by omega) (by omega)
  rw [← this]
  congr 1
  omega
end Go.Proofs.Ytimfjjnlbfcccaa
