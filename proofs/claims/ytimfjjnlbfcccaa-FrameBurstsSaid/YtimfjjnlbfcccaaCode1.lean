/- Numbers in bytes: code.number, annalref.Big, annalref.big. -/
import Derived.Test.YtimfjjnlbfcccaaBytes
import Derived.Test.YtimfjjnlbfcccaaBits
import Derived.Test.YtimfjjnlbfcccaaPureC
import Derived.Deep.RegionWith
namespace Go.Proofs.Ytimfjjnlbfcccaa
open Go.RowKit

theorem num_take (s : ByteArray) (k : Nat) (h : k < s.size) : num (s.data.toList.take (k + 1)) = 256 * num (s.data.toList.take k) + s[k].toNat := by
  rw [List.take_succ_eq_append_getElem (by simpa using h), num_snoc]; rfl
theorem num_take_lt (s : ByteArray) (k : Nat) (h : k < s.size) (h4 : s.size ≤ 4) : num (s.data.toList.take k) < 16777216 := by
  have h1 := num_lt _ (s.data.toList.take k) rfl
  have h2 : (s.data.toList.take k).length ≤ 3 := by rw [List.length_take]; omega
  have h3 : 256 ^ (s.data.toList.take k).length ≤ 256 ^ 3 := Nat.pow_le_pow_right (by omega) h2
  omega
theorem or_byte (n : Nat) (c : UInt8) (h : n < 16777216) : bits .or .i64 ((n : Int) * 256) (wrap64 (c.toNat : Int)) = ((256 * n + c.toNat : Nat) : Int) := by
  have hc := c.toNat_lt
  rw [IntWalk.wrap64_in _ (by omega)]
  have h1 := i64_or (n * 256) c.toNat (by omega) (by omega)
  rw [Go.nat_join 8 (n * 256) c.toNat (by omega) (by omega)] at h1
  rw [show 256 * n + c.toNat = n * 256 + c.toNat from by omega, ← h1]
  congr 1

set_option maxHeartbeats 2000000 in
theorem refBig_any (s : ByteArray) (w : World) (hs : s.size ≤ 4) : Calls Try.prog 30 #[.string s] w fun e w' => e = .returned (.int .i64 (num s.data.toList : Int)) ∧ w = w' := by
  go_enter Try.func30, Try.ntmps30
  go_wp2
  go_loop [3, 7] (fun r i => ∃ k : Nat, k ≤ s.size ∧ i = .int .i64 k ∧ r = .int .i64 (num (s.data.toList.take k) : Int)) (fun _ i => s.size - (intOf i).toNat)
  case atStart => exact ⟨0, Nat.zero_le _, rfl, rfl⟩
  case round =>
    obtain ⟨k, hk, rfl, rfl⟩ := hrel
    by_cases hlt : k < s.size
    · have hn := num_take_lt s k hlt hs
      have HT := Lib.hid (num_take s k hlt)
      have hc := s[k].toNat_lt
      have hc' : (s[k].toNat : Int) < 256 := by omega
      generalize num (s.data.toList.take k) = n at hn HT ⊢
      have hn' : (n : Int) < 16777216 := by omega
      clear hn hc
      go_wp2
      go_round
      case rel => exact ⟨k + 1, by omega, by go_num, by rw [HT.out]; go_num⟩
      case measure => simp [intOf]; omega
    · go_wp2
      go_ret
      exact ⟨ret_int (by rw [List.take_of_length_le (by simp; omega)]), rfl⟩

theorem convOne (u : World) (g : Nat) (x : Int) (h : u.cell? ⟨g, 0, none⟩ = some (.int .u8 x)) : (convert 49 9 (.slice (some ⟨g, 0, none⟩) 1 1)).run Try.prog u = .ok (.string (strOfNums [x])) u := by
  refine run_convert_bytes_arg _ _ 5 Try.underlying49 Try.underlying5 _ _ 1 1 [x] rfl ?_ _ Try.underlying9
  intro i hi
  match i, hi with
  | 0, _ => exact h

set_option maxRecDepth 100000 in
set_option maxHeartbeats 4000000 in
theorem big_any : ∀ (k n : Nat) (w : World), k ≤ 4 → n < 4294967296 → Calls Try.prog 27 #[.int .i64 (n : Int), .int .i64 (k : Int)] w fun e w' => e = .returned (.string ⟨(be k n).toArray⟩) ∧ Calm w w'
  | 0, n, w, _, _ => by
    go_enter Try.func27, Try.ntmps27
    go_wp2
    go_ret
    exact ⟨rfl, Calm.refl _⟩
  | k + 1, n, w, hk, hn => by
    have ih := fun u => big_any k (n / 256) u (by omega) (by omega)
    obtain ⟨q, hq⟩ : ∃ q, q = n / 256 := ⟨_, rfl⟩
    obtain ⟨m, hm⟩ : ∃ m, m = n % 256 := ⟨_, rfl⟩
    obtain ⟨k1, hk1⟩ : ∃ k1, k1 = k + 1 := ⟨_, rfl⟩
    have E : Hid ((⟨(be k q).toArray⟩ : ByteArray) ++ strOfNums [(m : Int)] = ⟨(be (k + 1) n).toArray⟩) := by
      show _ = _
      rw [be, ← hq, ← hm]
      apply ByteArray.ext
      rw [ByteArray.data_append]
      apply Array.toList_inj.1
      simp [strOfNums]
    have hB : (⟨(be k q).toArray⟩ : ByteArray).size = k := by show (be k q).toArray.size = k; rw [List.size_toArray, be_length]
    have hS : (strOfNums [(m : Int)]).size = 1 := strOfNums_size _
    have hcv := fun u g => convOne u g (m : Int)
    rw [← hq] at ih
    generalize (⟨(be k q).toArray⟩ : ByteArray) = B at ih E hB
    generalize strOfNums [(m : Int)] = S at hcv E hS
    have e1 : IntKind.i64.wrap ((n : Int).tdiv 256) = (q : Int) := by rw [Int.tdiv_eq_ediv_of_nonneg (by omega), IntWalk.i64_in _ (by omega)]; omega
    have e2 : IntKind.i64.wrap ((n : Int).tmod 256) = (m : Int) := by rw [Int.tmod_eq_emod_of_nonneg (by omega), IntWalk.i64_in _ (by omega)]; omega
    have e1' : IntKind.i64.wrap ((n : Int) / 256) = (q : Int) := by rw [IntWalk.i64_in _ (by omega)]; omega
    have e2' : (n : Int).tmod 256 = (m : Int) := by rw [Int.tmod_eq_emod_of_nonneg (by omega)]; omega
    have e4 : IntKind.u8.wrap (m : Int) = (m : Int) := IntWalk.u8_in _ (by omega)
    have e3 : IntKind.i64.wrap ((k1 : Int) - 1) = (k : Int) := by rw [IntWalk.i64_in _ (by omega)]; omega
    have hm8 : (m : Int) < 256 := by omega
    have b0 : ((k1 : Int) == 0) = false := by rw [beq_eq_false_iff_ne]; omega
    have hk9 : k ≤ 3 := by omega
    rw [show ((k + 1 : Nat) : Int) = (k1 : Int) from by omega]
    clear hq hm hk1 hk hn
    go_enter Try.func27, Try.ntmps27
    go_wp2_with fail
    refine wp_region_plan [.val (.int .i64 (n)), .val (.int .i64 (q)), .val (.int .i64 (k1)), .val (.int .i64 (k)), .val (.string B), .val (.int .i64 (n)), .val (.int .i64 (m)), .val (.int .u8 (m : Int)), .new #[.int .u8 (m : Int)] 5 (some 1), .look 8 (.string S), .val (.string (B ++ S)), .val (.string (B ++ S))] (by kernel_rfl) (by kernel_rfl) (by kernel_rfl) ?_
    intro X
    iterate 8
      refine plan_val (by kernel_rfl) (fun u hu => ?_) ?_
      · obtain ⟨hc, hf, hz⟩ := hu.of_drew.facts
        go_simp
        all_goals first
          | ((go_at_call 27; exact ih _))
          | (exact e1')
          | (exact e2')
          | (exact e4)
          | ((rw [hcv _ _ c0]; go_simp))
          | ((rw [if_neg (by omega)]; go_simp))
      simp only [Act.put, List.setIfInBounds_toArray, List.set_cons_zero, List.set_cons_succ, Nat.reduceAdd]
    refine plan_lit (by kernel_rfl) (fun u => ?_) ?_
    · go_simp
    simp only [Act.put, List.setIfInBounds_toArray, List.set_cons_zero, List.set_cons_succ, Nat.reduceAdd]
    refine plan_look (by kernel_rfl) (by kernel_rfl) rfl (by kernel_rfl) (fun u hu hr => ?_) ?_
    · obtain ⟨hc, hf, hz⟩ := hu.of_drew.facts
      have c0 := cell_of_row _ _ 0 _ _ _ hr
      go_simp
      all_goals first
        | ((go_at_call 27; exact ih _))
        | (exact e1')
        | (exact e2')
        | (exact e4)
        | ((rw [hcv _ _ c0]; go_simp))
        | ((rw [if_neg (by omega)]; go_simp))
    simp only [Act.put, List.setIfInBounds_toArray, List.set_cons_zero, List.set_cons_succ, Nat.reduceAdd]
    iterate 2
      refine plan_val (by kernel_rfl) (fun u hu => ?_) ?_
      · obtain ⟨hc, hf, hz⟩ := hu.of_drew.facts
        go_simp
        all_goals first
          | ((go_at_call 27; exact ih _))
          | (exact e1')
          | (exact e2')
          | (exact e4)
          | ((rw [hcv _ _ c0]; go_simp))
          | ((rw [if_neg (by omega)]; go_simp))
      simp only [Act.put, List.setIfInBounds_toArray, List.set_cons_zero, List.set_cons_succ, Nat.reduceAdd]
    refine plan_end ?_
    intro w' hB
    have hk := hB.calm.of_drew
    clear hB
    go_wp2
    go_ret
    exact ⟨congrArg (fun x => Ending.returned (.string x)) E.out, hk⟩

end Go.Proofs.Ytimfjjnlbfcccaa
