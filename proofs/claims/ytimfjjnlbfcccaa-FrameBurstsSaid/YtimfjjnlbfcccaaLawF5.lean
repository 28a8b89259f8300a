/- FrameBursts: the law's own walk. -/
import Derived.Test.YtimfjjnlbfcccaaLawF3
import Derived.Test.YtimfjjnlbfcccaaLawS4
namespace Go.Proofs.Ytimfjjnlbfcccaa
open Go.ChangeShapes Go.WideShapes Go.ChangeAt Go.RowKit

theorem fget_0 (w : World) : Calls Try.prog 13 #[.string { data := #[3, 0, 0, 0, 0] }] w fun e w' => e = .returned (.tuple #[.agg #[.int .i64 0, .string { data := #[] }], .int .i64 0, .int .i64 6]) ∧ Calm w w' :=
  fget_bad _ 6 (by decide +kernel) (by decide) w

set_option maxRecDepth 100000 in
set_option maxHeartbeats 4000000 in
theorem frameBursts_walk (k : Int) (s : ByteArray) (n : Int) (t : Nat) (w : World) (ht : t < 65536) : Calls Try.prog 6 #[.agg #[.int .i64 k, .string s], .int .i64 n, .int .u16 (t : Int)] w fun e w' => e = .returned (.bool true) ∧ Calm w w' := by
  have hxa := heap_new w (.cells #[.int .i64 k, .string s] 23)
  have hu := (Calm.refl w).alloc (.cells #[.int .i64 k, .string s] 23)
  by_cases hd : frErr k s.size = 0
  rotate_left
  · have cW := fun u => fput_bad k s _ rfl hd u
    have b1 : (frErr k s.size != 0) = true := by simpa using hd
    have b2 : (frErr k s.size == 0) = false := by simpa using hd
    generalize frErr k s.size = E at cW b1 b2
    clear hd
    go_enter Try.func6, Try.ntmps6
    go_wp2_with (first
      | (go_at_call 13; (with_reducible refine (fget_0 _).mono ?_); rintro e w1 ⟨rfl, hb1⟩; replace hxa := (hb1.block (row2 hxa).2.2).trans hxa; replace hu := hu.call hb1; clear hb1; replace hxa := heap_past (.cells #[.int .i64 0, .string { data := #[] }] 23) hxa; replace hu := hu.alloc (.cells #[.int .i64 0, .string { data := #[] }] 23); obtain ⟨a0, a1, has⟩ := row2 hxa)
      | (go_at_call 11; (with_reducible refine (cW _).mono ?_); rintro e w1 ⟨rfl, hb1⟩; replace hu := hu.call hb1; clear hb1))
    go_ret
    exact ⟨rfl, hu⟩
  obtain ⟨h1, h2, h3⟩ := frErr_zero hd
  obtain ⟨K, rfl⟩ : ∃ K : Nat, k = (K : Int) := ⟨k.toNat, by omega⟩
  obtain ⟨W, hW⟩ : ∃ W : ByteArray, encF K s.data.toList = W.data.toList := ⟨⟨(encF K s.data.toList).toArray⟩, by simp⟩
  have cW := fun u => fput_good (K : Int) s W hd hW u
  have hWl : W.size = 5 + s.size := by rw [← bytes_len, ← hW, encF_length, bytes_len]
  by_cases h0 : t = 0
  · subst h0
    clear hd hW hWl
    go_enter Try.func6, Try.ntmps6
    go_wp2_with (first
      | (go_at_call 13; (with_reducible refine (fget_0 _).mono ?_); rintro e w1 ⟨rfl, hb1⟩; replace hxa := (hb1.block (row2 hxa).2.2).trans hxa; replace hu := hu.call hb1; clear hb1; replace hxa := heap_past (.cells #[.int .i64 0, .string { data := #[] }] 23) hxa; replace hu := hu.alloc (.cells #[.int .i64 0, .string { data := #[] }] 23); obtain ⟨a0, a1, has⟩ := row2 hxa)
      | (go_at_call 11; (with_reducible refine (cW _).mono ?_); rintro e w1 ⟨rfl, hb1⟩; replace hu := hu.call hb1; clear hb1))
    go_ret
    exact ⟨rfl, hu⟩
  have b0 : ((t : Int) == 0) = false := by rw [beq_eq_false_iff_ne]; omega
  obtain ⟨x0, hx0, hWi⟩ := within_any n (8 * (W.size - 3) - 15) (by omega) (by omega)
  obtain ⟨x, hx⟩ : ∃ x, x = 24 + x0 := ⟨_, rfl⟩
  have hun := un_flips (k := K) (b := s.data.toList) (by omega) (by rw [bytes_len]; omega) (by omega) x0 t (by omega) ht (by rw [bytes_len]; omega)
  rw [hW, ← hx] at hun
  rw [show ((8 * (W.size - 3) - 15 : Nat) : Int) = 8 * ((W.size : Int) - 3) - 15 from by omega] at hWi
  have hxe : (24 : Int) + (x0 : Int) = (x : Int) := by omega
  have hx9 : (x0 : Int) ≤ 30000 := by omega
  have hxW : x + 16 ≤ 8 * W.size := by omega
  have hW5 : (5 : Int) ≤ (W.size : Int) := by omega
  have hWM : (W.size : Int) ≤ 3005 := by omega
  have hconv := fun w : World => run_bytes_of_string (P := Try.prog) w 9 49 5 W Try.underlying9 Try.underlying49 Try.underlying5
  clear hd hW hWl h3 hx
  go_enter Try.func6, Try.ntmps6
  go_wp2_with (first
    | (go_at_call 13; (with_reducible refine (fget_0 _).mono ?_); rintro e w1 ⟨rfl, hb1⟩; replace hxa := (hb1.block (row2 hxa).2.2).trans hxa; replace hu := hu.call hb1; clear hb1; replace hxa := heap_past (.cells #[.int .i64 0, .string { data := #[] }] 23) hxa; replace hu := hu.alloc (.cells #[.int .i64 0, .string { data := #[] }] 23); obtain ⟨a0, a1, has⟩ := row2 hxa)
    | (go_at_call 11; (with_reducible refine (cW _).mono ?_); rintro e w1 ⟨rfl, hb1⟩; replace hu := hu.call hb1; clear hb1)
    | (go_at_call 21; refine (hWi _).mono ?_; rintro e w1 ⟨rfl, rfl⟩))
  generalize hcap : grownCap _ W.size 0 5 = cap
  clear hWi hxe hx9 hx0
  go_loopw [13, 48] (fun _ i wr => ∃ j : Nat, j ≤ 16 ∧ i = .int .i64 j ∧ BAt wr w1.heap.size (flips W.data.toList x t j) (List.replicate (cap - W.size) (.int .u8 0)) ((bytesRow W cap).size, (bytesRow W cap).size + 1) ∧ Calm w wr) (fun _ i _ => 16 - (intOf i).toNat)
  case atStart =>
    exact ⟨0, Nat.zero_le _, rfl, (bytesRow_at_ w1 W cap).calm (Calm.refl _).drew, (hu.alloc _).drew⟩
  case round =>
    obtain ⟨j, hj, rfl, hBy, hC⟩ := hrel
    have hL : (flips W.data.toList x t j).length = W.size := by rw [flips_length]; simp
    by_cases hlt : j < 16
    · cases hbit : t.testBit j with
      | true =>
        obtain ⟨y, hy⟩ : ∃ y, y = x + j := ⟨_, rfl⟩
        obtain ⟨q, hq⟩ : ∃ q, q = y / 8 := ⟨_, rfl⟩
        obtain ⟨m, hm⟩ : ∃ m, m = y % 8 := ⟨_, rfl⟩
        have hq8 : q < W.size := by omega
        have e7 : IntKind.i64.wrap ((x : Int) + (j : Int)) = (y : Int) := by rw [IntWalk.i64_in _ (by omega)]; omega
        have e8 : IntKind.i64.wrap ((y : Int).tdiv 8) = (q : Int) := by rw [Int.tdiv_eq_ediv_of_nonneg (by omega), IntWalk.i64_in _ (by omega)]; omega
        have e8' : IntKind.i64.wrap ((y : Int) / 8) = (q : Int) := by rw [IntWalk.i64_in _ (by omega)]; omega
        have e9' : (y : Int).tmod 8 = (m : Int) := by rw [Int.tmod_eq_emod_of_nonneg (by omega)]; omega
        have e9 : IntKind.i64.wrap ((y : Int).tmod 8) = (m : Int) := by rw [Int.tmod_eq_emod_of_nonneg (by omega), IntWalk.i64_in _ (by omega)]; omega
        have hm8 : (m : Int) < 8 := by omega
        have b1 := bit_u16 t j ht
        rw [hbit] at b1
        have hM := mask_of m (by omega)
        have hfl : Hid (flips W.data.toList x t (j + 1) = (flips W.data.toList x t j).set q ((flips W.data.toList x t j)[q] ^^^ UInt8.ofNat (128 >>> m))) := by
          show _ = _
          rw [flips, if_pos hbit, ← hy, ← hq, ← hm, List.getElem?_eq_getElem (by omega)]; rfl
        have f2 := hBy.cell (j := q) (by omega)
        generalize (flips W.data.toList x t j)[q] = c at f2 hfl
        generalize UInt8.ofNat (128 >>> m) = M at hM hfl
        have hX := xor_u8 c M
        have hg := hBy.lt
        clear hq hm hy
        go_wp2_with fail
        refine wp_region_plan_tail 14 [.val (.slice (some ⟨w1.heap.size, 0, none⟩) W.size cap), .val (.int .i64 (x)), .val (.int .i64 (j)), .val (.int .i64 (y)), .val (.int .i64 (q)), .val (.pointer (some ⟨w1.heap.size, q, none⟩)), .val (.int .u8 (c.toNat : Int)), .val (.int .i64 (x)), .val (.int .i64 (j)), .val (.int .i64 (y)), .val (.int .i64 (m)), .val (.int .u8 (M.toNat : Int)), .val (.int .u8 ((c ^^^ M).toNat : Int)), .val (.pointer (some ⟨w1.heap.size, q, none⟩))] (by kernel_rfl) (by kernel_rfl) (by kernel_rfl) (by kernel_rfl) ?_
        intro X
        simp only [List.take_succ_cons, List.take_zero, List.drop_succ_cons, List.drop_zero]
        iterate 14
          refine plan_val (by kernel_rfl) (fun u hu => ?_) ?_
          · obtain ⟨hc, hf, hz⟩ := hu.of_drew.facts
            go_simp
            all_goals first
              | (exact e8')
              | (exact e9')
              | (exact hM)
          simp only [Act.put, List.setIfInBounds_toArray, List.set_cons_zero, List.set_cons_succ, Nat.reduceAdd]
        refine plan_end ?_
        intro w' hB
        have hk := hB.calm.of_drew
        clear hB
        have hB2 := hBy.calm hk
        have f1 := hB2.free (j := q) (by omega)
        have f2 := hB2.cell (j := q) (by omega)
        generalize (flips W.data.toList x t j)[q] = c' at f2
        have hB3 := hB2.set (j := q) (by omega) (c ^^^ M)
        have hC2 := (hC.call hk).setCell (p := ⟨w1.heap.size, q, none⟩) hu.size (.int .u8 ((c ^^^ M).toNat : Int))
        clear hk hBy hB2 hX hM e7 e8 e9 e8' e9'
        go_wp2
        go_roundw
        case rel => exact ⟨j + 1, by omega, by go_num, by rw [hfl.out]; exact hB3, hC2⟩
        case measure => simp [intOf]; omega
      | false =>
        have b1 := bit_u16 t j ht
        rw [hbit] at b1
        have hfl : Hid (flips W.data.toList x t (j + 1) = flips W.data.toList x t j) := by
          show _ = _
          rw [flips, if_neg (by rw [hbit]; simp)]
        go_wp2
        go_roundw
        case rel => exact ⟨j + 1, by omega, by go_num, by rw [hfl.out]; exact hBy, hC⟩
        case measure => simp [intOf]; omega
    · obtain rfl : j = 16 := by omega
      have hcv := hBy.strAt hL cap
      have cR := fun u => fget_bad ⟨(flips W.data.toList x t 16).toArray⟩ 6 (by rw [bytes_list]; exact hun) (by decide) u
      go_wp2_with (go_at_call 13; refine (cR _).mono ?_; rintro e w9 ⟨rfl, hb9⟩; replace hC := hC.call hb9; clear hb9)
      go_ret
      exact ⟨rfl, hC⟩
end Go.Proofs.Ytimfjjnlbfcccaa
