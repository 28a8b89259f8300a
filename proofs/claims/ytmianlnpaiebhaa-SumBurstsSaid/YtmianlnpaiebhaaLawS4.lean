/- SumBursts: the law's own walk. -/
import Derived.Test.YtmianlnpaiebhaaLawS2
import Derived.Test.YtmianlnpaiebhaaBytes
namespace Go.Proofs.Ytmianlnpaiebhaa
open Go.ChangeShapes Go.WideShapes Go.ChangeAt Go.RowKit

theorem sumOf_nil (w : World) : Calls Try.prog 23 #[.string { data := #[] }] w fun e w' => e = .returned (.int .i64 0) ∧ w = w' :=
  sumOf_at _ _ w (by decide) (by decide +kernel)
theorem sumOf_a (w : World) : Calls Try.prog 23 #[.string { data := #[97] }] w fun e w' => e = .returned (.int .i64 31879) ∧ w = w' :=
  sumOf_at _ _ w (by decide) (by decide +kernel)
theorem sumOf_b (w : World) : Calls Try.prog 23 #[.string { data := #[98] }] w fun e w' => e = .returned (.int .i64 19684) ∧ w = w' :=
  sumOf_at _ _ w (by decide) (by decide +kernel)

theorem bit_u16 (t j : Nat) (ht : t < 65536) : (bits .and .u16 ((t : Int) / 2 ^ j) 1 == 1) = t.testBit j := by
  have e : (t : Int) / 2 ^ j = ((t / 2 ^ j : Nat) : Int) := by push_cast; rfl
  have hl : t / 2 ^ j ≤ t := Nat.div_le_self _ _
  have := Go.u16_and_nat (t / 2 ^ j) 1 (by omega) (by omega)
  rw [e, show (1 : Int) = ((1 : Nat) : Int) from rfl, this, Go.nat_mask1, Nat.testBit_eq_decide_div_mod_eq]
  generalize t / 2 ^ j % 2 = x
  by_cases h : x = 1
  · subst h; rfl
  · have h' : ¬ ((x : Int) = 1) := by omega
    simp [h]; omega
theorem mask_of (m : Nat) (hm : m < 8) : (128 : Int) / 2 ^ m = ((UInt8.ofNat (128 >>> m)).toNat : Int) := by
  have : ∀ m : Fin 8, (128 : Int) / 2 ^ m.val = ((UInt8.ofNat (128 >>> m.val)).toNat : Int) := by decide +kernel
  exact this ⟨m, hm⟩

set_option maxRecDepth 100000 in
set_option maxHeartbeats 4000000 in
theorem sumBursts_walk (s : ByteArray) (k : Int) (t : Nat) (w : World) (hs : s.size ≤ 140737488351232) (ht : t < 65536) : Calls Try.prog 8 #[.string s, .int .i64 k, .int .u16 (t : Int)] w fun e w' => e = .returned (.bool true) ∧ Calm w w' := by
  by_cases h0 : t = 0
  · subst h0
    go_enter Try.func8, Try.ntmps8
    go_wp2_with (go_at_call 23; first | (with_reducible refine (sumOf_nil _).mono ?_; rintro e w1 ⟨rfl, rfl⟩) | (with_reducible refine (sumOf_a _).mono ?_; rintro e w1 ⟨rfl, rfl⟩) | (with_reducible refine (sumOf_b _).mono ?_; rintro e w1 ⟨rfl, rfl⟩))
    go_ret
    exact ⟨rfl, Calm.refl _⟩
  have b0 : ((t : Int) == 0) = false := by rw [beq_eq_false_iff_ne]; omega
  by_cases h2 : s.size < 2
  · have h2' : (s.size : Int) < 2 := by omega
    go_enter Try.func8, Try.ntmps8
    go_wp2_with (go_at_call 23; first | (with_reducible refine (sumOf_nil _).mono ?_; rintro e w1 ⟨rfl, rfl⟩) | (with_reducible refine (sumOf_a _).mono ?_; rintro e w1 ⟨rfl, rfl⟩) | (with_reducible refine (sumOf_b _).mono ?_; rintro e w1 ⟨rfl, rfl⟩))
    go_ret
    exact ⟨rfl, Calm.refl _⟩
  have h2' : (2 : Int) ≤ s.size := by omega
  obtain ⟨x, hx, hW⟩ := within_any k (8 * s.size - 15) (by omega) (by omega)
  rw [show ((8 * s.size - 15 : Nat) : Int) = 8 * (s.size : Int) - 15 from by omega] at hW
  have hconv := fun w : World => run_bytes_of_string (P := Try.prog) w 9 51 5 s Try.underlying9 Try.underlying51 Try.underlying5
  have hd : decide ((s.size : Int) < 2) = false := by simp; omega
  clear h2
  go_enter Try.func8, Try.ntmps8
  go_wp2_with (first
    | (go_at_call 32; refine (hW _).mono ?_; rintro e w1 ⟨rfl, rfl⟩)
    | (go_at_call 23; first | (with_reducible refine (sumOf_nil _).mono ?_; rintro e w1 ⟨rfl, rfl⟩) | (with_reducible refine (sumOf_a _).mono ?_; rintro e w1 ⟨rfl, rfl⟩) | (with_reducible refine (sumOf_b _).mono ?_; rintro e w1 ⟨rfl, rfl⟩)))
  generalize hcap : grownCap w s.size 0 5 = cap
  go_loopw [8, 31] (fun _ i wr => ∃ j : Nat, j ≤ 16 ∧ i = .int .i64 j ∧ BAt wr w.heap.size (flips s.data.toList x t j) (List.replicate (cap - s.size) (.int .u8 0)) ((bytesRow s cap).size, (bytesRow s cap).size + 1) ∧ Calm w wr) (fun _ i _ => 16 - (intOf i).toNat)
  case atStart =>
    exact ⟨0, Nat.zero_le _, rfl, (bytesRow_at_ w s cap).calm (Calm.refl _).drew, ((Calm.refl _).alloc _).drew⟩
  case round =>
    obtain ⟨j, hj, rfl, hBy, hC⟩ := hrel
    have hL : (flips s.data.toList x t j).length = s.size := by rw [flips_length]; simp
    by_cases hlt : j < 16
    · cases hbit : t.testBit j with
      | true =>
        obtain ⟨y, hy⟩ : ∃ y, y = x + j := ⟨_, rfl⟩
        obtain ⟨q, hq⟩ : ∃ q, q = y / 8 := ⟨_, rfl⟩
        obtain ⟨m, hm⟩ : ∃ m, m = y % 8 := ⟨_, rfl⟩
        have hq8 : q < s.size := by omega
        have e7 : IntKind.i64.wrap ((x : Int) + (j : Int)) = (y : Int) := by rw [IntWalk.i64_in _ (by omega)]; omega
        have e8 : IntKind.i64.wrap ((y : Int).tdiv 8) = (q : Int) := by rw [Int.tdiv_eq_ediv_of_nonneg (by omega), IntWalk.i64_in _ (by omega)]; omega
        have e8' : IntKind.i64.wrap ((y : Int) / 8) = (q : Int) := by rw [IntWalk.i64_in _ (by omega)]; omega
        have e9' : (y : Int).tmod 8 = (m : Int) := by rw [Int.tmod_eq_emod_of_nonneg (by omega)]; omega
        have e9 : IntKind.i64.wrap ((y : Int).tmod 8) = (m : Int) := by rw [Int.tmod_eq_emod_of_nonneg (by omega), IntWalk.i64_in _ (by omega)]; omega
        have hm8 : (m : Int) < 8 := by omega
        have b1 := bit_u16 t j ht
        rw [hbit] at b1
        have hM := mask_of m (by omega)
        have hfl : Hid (flips s.data.toList x t (j + 1) = (flips s.data.toList x t j).set q ((flips s.data.toList x t j)[q] ^^^ UInt8.ofNat (128 >>> m))) := by
          show _ = _
          rw [flips, if_pos hbit, ← hy, ← hq, ← hm, List.getElem?_eq_getElem (by omega)]; rfl
        have f2 := hBy.cell (j := q) (by omega)
        generalize (flips s.data.toList x t j)[q] = c at f2 hfl
        generalize UInt8.ofNat (128 >>> m) = M at hM hfl
        have hX := xor_u8 c M
        have hg := hBy.lt
        clear hq hm hy
        go_wp2_with fail
        refine wp_region_plan_tail 14 [.val (.slice (some ⟨w.heap.size, 0, none⟩) s.size cap), .val (.int .i64 (x)), .val (.int .i64 (j)), .val (.int .i64 (y)), .val (.int .i64 (q)), .val (.pointer (some ⟨w.heap.size, q, none⟩)), .val (.int .u8 (c.toNat : Int)), .val (.int .i64 (x)), .val (.int .i64 (j)), .val (.int .i64 (y)), .val (.int .i64 (m)), .val (.int .u8 (M.toNat : Int)), .val (.int .u8 ((c ^^^ M).toNat : Int)), .val (.pointer (some ⟨w.heap.size, q, none⟩))] (by kernel_rfl) (by kernel_rfl) (by kernel_rfl) (by kernel_rfl) ?_
        intro X
        simp only [List.take_succ_cons, List.take_zero, List.drop_succ_cons, List.drop_zero]
        iterate 14
          refine plan_val (by kernel_rfl) (fun u hu => ?_) ?_
          · obtain ⟨hc, hf, hz⟩ := hu.of_drew.facts
            go_simp
            all_goals first
              | (exact e8')
              | (exact e9')
              | (exact hM)
          simp only [Act.put, List.setIfInBounds_toArray, List.set_cons_zero, List.set_cons_succ, Nat.reduceAdd]
        refine plan_end ?_
        intro w' hB
        have hk := hB.calm.of_drew
        clear hB
        have hB2 := hBy.calm hk
        have f1 := hB2.free (j := q) (by omega)
        have f2 := hB2.cell (j := q) (by omega)
        generalize (flips s.data.toList x t j)[q] = c' at f2
        have hB3 := hB2.set (j := q) (by omega) (c ^^^ M)
        have hC2 := (hC.call hk).setCell (p := ⟨w.heap.size, q, none⟩) (Nat.le_refl _) (.int .u8 ((c ^^^ M).toNat : Int))
        clear hk hBy hB2 hX hM e7 e8 e9 e8' e9'
        go_wp2
        go_roundw
        case rel => exact ⟨j + 1, by omega, by go_num, by rw [hfl.out]; exact hB3, hC2⟩
        case measure => simp [intOf]; omega
      | false =>
        have b1 := bit_u16 t j ht
        rw [hbit] at b1
        have hfl : Hid (flips s.data.toList x t (j + 1) = flips s.data.toList x t j) := by
          show _ = _
          rw [flips, if_neg (by rw [hbit]; simp)]
        go_wp2
        go_roundw
        case rel => exact ⟨j + 1, by omega, by go_num, by rw [hfl.out]; exact hBy, hC⟩
        case measure => simp [intOf]; omega
    · obtain rfl : j = 16 := by omega
      have hcv := hBy.strAt hL cap
      obtain ⟨n1, n2, hne, c1, c2⟩ : ∃ n1 n2 : Int, (n1 != n2) = true ∧ (∀ w, Calls Try.prog 23 #[.string ⟨(flips s.data.toList x t 16).toArray⟩] w fun e w' => e = .returned (.int .i64 n1) ∧ w = w') ∧ (∀ w, Calls Try.prog 23 #[.string s] w fun e w' => e = .returned (.int .i64 n2) ∧ w = w') := by
        have hne := crc_burst s.data.toList x t (by omega) ht (by simp; omega)
        refine ⟨_, _, ?_, fun w => sumOf_at _ _ w ?_ rfl, fun w => sumOf_at _ _ w ?_ rfl⟩
        · rw [bne_iff_ne]
          intro h
          exact hne (BitVec.eq_of_toNat_eq (Int.ofNat.inj h))
        · show (flips s.data.toList x t 16).toArray.size ≤ _
          rw [List.size_toArray, hL]; simp only [maxLen]; omega
        · simp only [maxLen]; omega
      go_wp2_with (go_at_call 23; first | (with_reducible refine (c1 _).mono ?_; rintro e w1 ⟨rfl, rfl⟩) | (with_reducible refine (c2 _).mono ?_; rintro e w1 ⟨rfl, rfl⟩))
      go_ret
      exact ⟨rfl, hC⟩

end Go.Proofs.Ytmianlnpaiebhaa
