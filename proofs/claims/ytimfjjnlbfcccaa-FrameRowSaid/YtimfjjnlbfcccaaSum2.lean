/- What annalref.Sum answers. -/
import Derived.Test.YtimfjjnlbfcccaaSum
import Derived.Test.YtimfjjnlbfcccaaBits
namespace Go.Proofs.Ytimfjjnlbfcccaa
open Go.RowKit

theorem bitN_in (s : ByteArray) (k : Nat) (h : k < 8 * s.size) : (s[k / 8]'(by omega)).toNat >>> (7 - k % 8) % 2 = bitN s.data.toList k := by
  unfold bitN
  have hl : s.data.toList.length = s.size := by simp
  rw [if_pos (by omega), List.getElem?_eq_getElem (by omega)]
  rfl
theorem bitN_out (s : ByteArray) (k : Nat) (h : ¬ k < 8 * s.size) : bitN s.data.toList k = 0 := by
  unfold bitN
  have hl : s.data.toList.length = s.size := by simp
  rw [if_neg (by omega)]

set_option maxHeartbeats 1000000 in
theorem refSum_any (s : ByteArray) (w : World) (hs : s.size ≤ 140737488351232) : Calls Try.prog 28 #[.string s] w fun e w' => e = .returned (.int .i64 ((crc s.data.toList).toNat : Int)) ∧ w = w' := by
  go_enter Try.func28, Try.ntmps28
  go_wp2
  go_loop [3, 10] (fun r i => ∃ k : Nat, k ≤ 8 * (s.size + 2) ∧ i = .int .i64 k ∧ r = .int .i64 ((refS s.data.toList k).toNat)) (fun _ i => 8 * (s.size + 2) - (intOf i).toNat)
  case atStart => exact ⟨0, Nat.zero_le _, rfl, rfl⟩
  case round =>
    obtain ⟨k, hk, rfl, rfl⟩ := hrel
    have hr := (refS s.data.toList k).isLt
    have hb := bitN_lt s.data.toList k
    by_cases hlt : k < 8 * (s.size + 2)
    · by_cases hin : k < 8 * s.size
      · have hkd : k / 8 < s.size := by omega
        have B : Hid (_ = _) := Lib.hid ((bit_of s[k / 8] (7 - k % 8)).trans (congrArg Int.ofNat (bitN_in s k hin)))
        go_wp2
        all_goals
          rename_i htest
          rw [B.out] at htest
          go_round
          case rel => exact ⟨k + 1, by omega, by go_num, by rw [B.out]; first | (congr 1; exact ref_low _ _ hb htest) | (congr 1; exact ref_top _ _ hb htest)⟩
          case measure => simp [intOf]; omega
      · have hrs : refS s.data.toList (k + 1) = shB (refS s.data.toList k) := by rw [refS, bitN_out s k hin]; simp
        have B := Lib.hid hrs
        have hin' : 8 * s.size ≤ k := by omega
        clear hin hr hrs hb
        have E := Lib.hid (rfl : (refS s.data.toList k).toNat = (refS s.data.toList k).toNat)
        revert E
        generalize hn : (refS s.data.toList k).toNat = n
        intro E
        rw [← hn] at E
        have E' : Hid ((refS s.data.toList k).toNat = n) := Lib.hid hn
        clear hn E
        go_wp2
        all_goals
          rename_i htest
          rw [← E'.out] at htest ⊢
          go_round
          case rel => exact ⟨k + 1, by omega, by go_num, by rw [B.out]; first | (congr 1; exact ref_low0 _ htest) | (congr 1; exact ref_top0 _ htest)⟩
          case measure => simp [intOf]; omega
    · obtain rfl : k = 8 * (s.size + 2) := by omega
      go_wp2
      go_ret
      have hl : s.data.toList.length = s.size := by simp
      exact ⟨ret_int (by rw [← hl, refS_crc]), rfl⟩

end Go.Proofs.Ytimfjjnlbfcccaa
