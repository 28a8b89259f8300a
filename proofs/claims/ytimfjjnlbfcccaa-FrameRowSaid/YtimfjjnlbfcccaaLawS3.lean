/- SumTogether: the law's own walk. -/
import Derived.Test.YtimfjjnlbfcccaaLawS2
import Derived.Test.YtimfjjnlbfcccaaBytes
namespace Go.Proofs.Ytimfjjnlbfcccaa
open Go.ChangeShapes Go.WideShapes Go.ChangeAt Go.RowKit

/-- The bytes of the two strings after j rounds. -/
def xorNow (a b : List UInt8) (k j : Nat) : List UInt8 := List.zipWith (· ^^^ ·) (a.take j) (b.take j) ++ List.replicate (k - j) 0
theorem xorNow_length {a b : List UInt8} {k j : Nat} (ha : k ≤ a.length) (hb : k ≤ b.length) (hj : j ≤ k) : (xorNow a b k j).length = k := by
  simp [xorNow]; omega
theorem xorNow_succ {a b : List UInt8} {k j : Nat} (ha : k ≤ a.length) (hb : k ≤ b.length) (hj : j < k) : (xorNow a b k j).set j (a[j] ^^^ b[j]) = xorNow a b k (j + 1) := by
  have hl : (List.zipWith (· ^^^ ·) (a.take j) (b.take j)).length = j := by simp; omega
  unfold xorNow
  rw [List.set_append_right _ _ (by omega), hl, Nat.sub_self, show k - j = (k - (j + 1)) + 1 from by omega, List.replicate_succ, List.set_cons_zero,
    List.take_succ_eq_append_getElem (by omega), List.take_succ_eq_append_getElem (by omega), List.zipWith_append (by simp; omega)]
  simp
theorem xorNow_end {a b : List UInt8} {k : Nat} : xorNow a b k k = List.zipWith (· ^^^ ·) (a.take k) (b.take k) := by simp [xorNow]

theorem sumOf_calm (s : ByteArray) (n : Int) (hs : s.size ≤ maxLen) (h : ((crc s.data.toList).toNat : Int) = n) (w : World) : Calls Try.prog 26 #[.string s] w fun e w' => e = .returned (.int .i64 n) ∧ Calm w w' :=
  (sumOf_at s n w hs h).mono fun _ _ ⟨h1, h2⟩ => ⟨h1, h2 ▸ Calm.refl _⟩
theorem i64_xor16 (x y : BitVec 16) : bits .xor .i64 (x.toNat : Int) (y.toNat : Int) = ((x ^^^ y).toNat : Int) := by
  have h1 := x.isLt; have h2 := y.isLt
  rw [i64_xor _ _ (by omega) (by omega), BitVec.toNat_xor]
theorem extract_take (s : ByteArray) (k : Nat) : (s.extract 0 k).data.toList = s.data.toList.take k := by
  simp [ByteArray.data_extract]
/-- The five sums of the law's last line. -/
theorem sums5 (a b : ByteArray) (k x : Nat) (ha : a.size ≤ 140737488351232) (hka : k ≤ a.size) (hkb : k ≤ b.size) (hx : x < 40) : ∃ cx ca cb cz : Int, bits .xor .i64 ca cb = cx ∧
    (∀ w, Calls Try.prog 26 #[.string ⟨(xorNow a.data.toList b.data.toList k k).toArray⟩] w fun e w' => e = .returned (.int .i64 cx) ∧ Calm w w') ∧
    (∀ w, Calls Try.prog 26 #[.string (a.extract 0 k)] w fun e w' => e = .returned (.int .i64 ca) ∧ Calm w w') ∧
    (∀ w, Calls Try.prog 26 #[.string (b.extract 0 k)] w fun e w' => e = .returned (.int .i64 cb) ∧ Calm w w') ∧
    (∀ w, Calls Try.prog 26 #[.string (⟨(List.replicate x 0).toArray⟩ ++ a)] w fun e w' => e = .returned (.int .i64 cz) ∧ Calm w w') ∧
    (∀ w, Calls Try.prog 26 #[.string a] w fun e w' => e = .returned (.int .i64 cz) ∧ Calm w w') := by
  have hla : a.data.toList.length = a.size := by simp
  have hlb : b.data.toList.length = b.size := by simp
  have hea : (a.extract 0 k).size = k := by rw [ByteArray.size_extract]; omega
  have heb : (b.extract 0 k).size = k := by rw [ByteArray.size_extract]; omega
  refine ⟨_, _, _, _, i64_xor16 (crc (a.data.toList.take k)) (crc (b.data.toList.take k)), sumOf_calm _ _ ?_ ?_, sumOf_calm _ _ ?_ ?_, sumOf_calm _ _ ?_ ?_, sumOf_calm _ _ ?_ ?_, sumOf_calm _ _ ?_ rfl⟩
  · show (xorNow a.data.toList b.data.toList k k).toArray.size ≤ _
    rw [List.size_toArray, xorNow_length (by omega) (by omega) (Nat.le_refl _)]; simp only [maxLen]; omega
  · rw [← crc_both _ _ (by simp; omega)]
    show ((crc (xorNow a.data.toList b.data.toList k k)).toNat : Int) = _
    rw [xorNow_end]
  · rw [hea]; simp only [maxLen]; omega
  · rw [extract_take]
  · rw [heb]; simp only [maxLen]; omega
  · rw [extract_take]
  · rw [ByteArray.size_append]
    show (List.replicate x (0 : UInt8)).toArray.size + _ ≤ _
    simp only [maxLen, List.size_toArray, List.length_replicate]; omega
  · rw [ByteArray.data_append, Array.toList_append]
    show ((crc (List.replicate x 0 ++ _)).toNat : Int) = _
    rw [crc_noughts]
  · simp only [maxLen]; omega

end Go.Proofs.Ytimfjjnlbfcccaa
