/- FrameOne: the law's own walk. -/
import Derived.Test.YtimfjjnlbfcccaaLawF1
namespace Go.Proofs.Ytimfjjnlbfcccaa
open Go.ChangeShapes Go.WideShapes Go.ChangeAt Go.RowKit

theorem fget_bad (s : ByteArray) (n : Int) (hd : unErr s.data.toList = n) (hn : n ≠ 0) (w : World) : Calls Try.prog 13 #[.string s] w fun e w' => e = .returned (.tuple #[.agg #[.int .i64 0, .string { data := #[] }], .int .i64 0, .int .i64 n]) ∧ Calm w w' := by
  have h := frameGet_any s w
  rw [FGetEnd.bad hd hn] at h
  exact h
theorem fget_good (s : ByteArray) (K : Int) (B : ByteArray) (L : Nat) (hd : unErr s.data.toList = 0) (hK : (unKind s.data.toList : Int) = K) (hB : unBody s.data.toList = B.data.toList) (hL : 5 + unSize s.data.toList = L) (w : World) :
    Calls Try.prog 13 #[.string s] w fun e w' => e = .returned (.tuple #[.agg #[.int .i64 K, .string B], .int .i64 (L : Int), .int .i64 0]) ∧ Calm w w' := by
  have h := frameGet_any s w
  rw [FGetEnd.good hd, hK, hB, hL] at h
  exact h
theorem fput_good (k : Int) (s W : ByteArray) (h : frErr k s.size = 0) (hW : encF k.toNat s.data.toList = W.data.toList) (w : World) : Calls Try.prog 11 #[.agg #[.int .i64 k, .string s]] w fun e w' => e = .returned (.tuple #[.string W, .int .i64 0]) ∧ Calm w w' := by
  have h2 := framePut_any k s w
  unfold FPutEnd at h2
  rw [h, frS, if_pos h, hW] at h2
  exact h2
theorem fput_bad (k : Int) (s : ByteArray) (n : Int) (h : frErr k s.size = n) (hn : n ≠ 0) (w : World) : Calls Try.prog 11 #[.agg #[.int .i64 k, .string s]] w fun e w' => e = .returned (.tuple #[.string { data := #[] }, .int .i64 n]) ∧ Calm w w' := by
  have h2 := framePut_any k s w
  unfold FPutEnd at h2
  rw [frS, h, if_neg hn] at h2
  exact h2
theorem frErr_ok {k : Int} {n : Nat} (h1 : 1 ≤ k) (h2 : k ≤ 255) (h3 : n ≤ 3000) : frErr k n = 0 := by
  unfold frErr; rw [if_neg (by omega), if_neg (by omega)]
theorem fget_x (w : World) : Calls Try.prog 13 #[.string { data := #[1, 0, 0, 16, 33] }] w fun e w' => e = .returned (.tuple #[.agg #[.int .i64 0, .string { data := #[] }], .int .i64 0, .int .i64 6]) ∧ Calm w w' :=
  fget_bad _ 6 (by decide +kernel) (by decide) w

set_option maxRecDepth 100000 in
set_option maxHeartbeats 4000000 in
theorem frameOne_walk (s : ByteArray) (w : World) : Calls Try.prog 8 #[.string s] w fun e w' => e = .returned (.bool true) ∧ Calm w w' := by
  have hu := Calm.refl w
  by_cases hd : unErr s.data.toList = 0
  · obtain ⟨h1, h2, h3, h4, h5⟩ := unErr_zero hd
    have hE := enc_un hd
    have hbl := unBody_length h1
    rw [bytes_len] at h1
    obtain ⟨K, hK⟩ : ∃ K, unKind s.data.toList = K := ⟨_, rfl⟩
    obtain ⟨B, hB⟩ : ∃ B : ByteArray, unBody s.data.toList = B.data.toList := ⟨⟨(unBody s.data.toList).toArray⟩, by simp⟩
    obtain ⟨L, hL⟩ : ∃ L, 5 + unSize s.data.toList = L := ⟨_, rfl⟩
    have cG := fun u => fget_good s (K : Int) B L hd (by rw [hK]) hB hL u
    have hBl : B.size = unSize s.data.toList := by rw [← bytes_len, ← hB, hbl]
    have cW := fun u => fput_good (K : Int) B (s.extract 0 L) (frErr_ok (by omega) (by omega) (by omega)) (by rw [Int.toNat_natCast, ← hK, ← hB, hE, part_extract, ← hL]; simp [part]) u
    have hN : (L : Int) ≤ (s.size : Int) := by omega
    have nN : L ≤ s.size := by omega
    clear hE hbl h1 h2 h3 h4 h5 hK hB hL hBl hd
    go_enter Try.func8, Try.ntmps8
    go_wp2_with (first
      | (go_at_call 13; (with_reducible refine (fget_x _).mono ?_); rintro e w1 ⟨rfl, hb1⟩; replace hu := hu.call hb1; clear hb1)
      | (go_at_call 13; (with_reducible refine (cG _).mono ?_); rintro e w1 ⟨rfl, hb1⟩; replace hu := (hu.alloc _).call hb1; clear hb1)
      | (go_at_call 11; (with_reducible refine (cW _).mono ?_); rintro e w1 ⟨rfl, hb1⟩; replace hu := (hu.alloc _).call hb1; clear hb1))
    go_ret
    exact ⟨rfl, hu⟩
  · have cG := fun u => fget_bad s _ rfl hd u
    have b1 : (unErr s.data.toList != 0) = true := by simpa using hd
    generalize unErr s.data.toList = E at cG b1
    clear hd
    go_enter Try.func8, Try.ntmps8
    go_wp2_with (first
      | (go_at_call 13; (with_reducible refine (fget_x _).mono ?_); rintro e w1 ⟨rfl, hb1⟩; replace hu := hu.call hb1; clear hb1)
      | (go_at_call 13; (with_reducible refine (cG _).mono ?_); rintro e w1 ⟨rfl, hb1⟩; replace hu := (hu.alloc _).call hb1; clear hb1))
    go_ret
    exact ⟨rfl, hu.alloc _⟩
end Go.Proofs.Ytimfjjnlbfcccaa
