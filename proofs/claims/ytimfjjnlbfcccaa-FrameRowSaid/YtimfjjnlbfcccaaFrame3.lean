/- Writing a frame, the reference: annalref.Frame. -/
import Derived.Test.YtimfjjnlbfcccaaFrame2
namespace Go.Proofs.Ytimfjjnlbfcccaa
open Go.RowKit

theorem big_at (k n : Nat) (z : Int) (hz : (k : Int) = z) (B : ByteArray) (hB : (⟨(be k n).toArray⟩ : ByteArray) = B) (hk : k ≤ 4) (hn : n < 4294967296) (w : World) : Calls Try.prog 27 #[.int .i64 (n : Int), .int .i64 z] w fun e w' => e = .returned (.string B) ∧ Calm w w' :=
  hz ▸ hB ▸ big_any k n w hk hn
set_option maxRecDepth 100000 in
set_option maxHeartbeats 8000000 in
theorem refFrame_any (k : Int) (s : ByteArray) (w : World) : Calls Try.prog 12 #[.agg #[.int .i64 k, .string s]] w (FPutEnd k s w) := by
  have hx := heap_new w (.cells #[.int .i64 k, .string s] 23)
  have hu := (Calm.refl w).alloc (.cells #[.int .i64 k, .string s] 23)
  by_cases h1 : k < 1 ∨ 255 < k
  · have e1 : frErr k s.size = 1 := if_pos h1
    have e2 : FPutEnd k s w = fun e w' => e = .returned (.tuple #[.string { data := #[] }, .int .i64 1]) ∧ Calm w w' := by
      funext e w'; simp [FPutEnd, frS, e1]
    rw [e2]
    clear e1 e2
    rcases h1 with h1 | h1
    · obtain ⟨x0, x1, hxs⟩ := row2 hx
      go_enter Try.func12, Try.ntmps12
      go_wp2
      go_ret2
      exact ⟨rfl, hu⟩
    · obtain ⟨x0, x1, hxs⟩ := row2 hx
      have h1' : (1 : Int) ≤ k := by omega
      go_enter Try.func12, Try.ntmps12
      go_wp2
      go_ret2
      exact ⟨rfl, hu⟩
  have h1' : (1 : Int) ≤ k := by omega
  have h2' : k ≤ (255 : Int) := by omega
  by_cases h3 : 3000 < s.size
  · have e1 : frErr k s.size = 2 := by unfold frErr; rw [if_neg h1, if_pos h3]
    have e2 : FPutEnd k s w = fun e w' => e = .returned (.tuple #[.string { data := #[] }, .int .i64 2]) ∧ Calm w w' := by
      funext e w'; simp [FPutEnd, frS, e1]
    rw [e2]
    clear e1 e2 h1
    have h3' : (3000 : Int) < s.size := by omega
    obtain ⟨x0, x1, hxs⟩ := row2 hx
    go_enter Try.func12, Try.ntmps12
    go_wp2
    go_ret2
    exact ⟨rfl, hu⟩
  have h3' : (s.size : Int) ≤ 3000 := by omega
  have e1 : frErr k s.size = 0 := by unfold frErr; rw [if_neg h1, if_neg h3]
  have hW : Hid (frS k s = ⟨(encF k.toNat s.data.toList).toArray⟩) := by show _ = _; unfold frS; exact if_pos e1
  have G : FPutEnd k s w = fun e w' => e = .returned (.tuple #[.string (frS k s), .int .i64 0]) ∧ Calm w w' := by
    funext e w'; simp [FPutEnd, e1]
  rw [G]
  generalize frS k s = W at hW ⊢
  clear G e1 h1
  obtain ⟨K, rfl⟩ : ∃ n : Nat, k = (n : Int) := ⟨k.toNat, by omega⟩
  have hsl : s.data.toList.length = s.size := by simp
  obtain ⟨x0, x1, hxs⟩ := row2 hx
  obtain ⟨H, hH⟩ : ∃ H, (⟨(frHead K s.data.toList).toArray⟩ : ByteArray) = H := ⟨_, rfl⟩
  obtain ⟨C, hC⟩ : ∃ C, (crc (frHead K s.data.toList)).toNat = C := ⟨_, rfl⟩
  have hC6 : C < 65536 := by rw [← hC]; exact (crc (frHead K s.data.toList)).isLt
  have hHl : H.size = 3 + s.size := by rw [← hH, bytes_size, frHead_length, hsl]
  have hHd : H.data.toList = frHead K s.data.toList := by rw [← hH]
  have cS := fun u => calls_calm (refSum_any H u (by omega))
  rw [hHd, hC] at cS
  obtain ⟨B1, hB1⟩ : ∃ B, (⟨(be 1 K).toArray⟩ : ByteArray) = B := ⟨_, rfl⟩
  obtain ⟨B2, hB2⟩ : ∃ B, (⟨(be 2 s.size).toArray⟩ : ByteArray) = B := ⟨_, rfl⟩
  obtain ⟨B3, hB3⟩ : ∃ B, (⟨(be 2 C).toArray⟩ : ByteArray) = B := ⟨_, rfl⟩
  have c1 := fun u => big_at 1 K 1 rfl B1 hB1 (by omega) (by omega) u
  have c2 := fun u => big_at 2 s.size 2 rfl B2 hB2 (by omega) (by omega) u
  have c3 := fun u => big_at 2 C 2 rfl B3 hB3 (by omega) (by omega) u
  have z1 : B1.size = 1 := by rw [← hB1, bytes_size, be_length]
  have z2 : B2.size = 2 := by rw [← hB2, bytes_size, be_length]
  have z3 : B3.size = 2 := by rw [← hB3, bytes_size, be_length]
  have hj : B1 ++ B2 ++ s = H := by
    rw [← hB1, ← hB2, ← hH]
    apply ByteArray.ext
    rw [ByteArray.data_append, ByteArray.data_append]
    apply Array.toList_inj.1
    simp [frHead]
  have hE : Hid (H ++ B3 = W) := by
    show _ = _
    rw [hW.out, ← hH, ← hB3]
    apply ByteArray.ext
    rw [ByteArray.data_append]
    apply Array.toList_inj.1
    simp [encF, hC]
  clear hW hB1 hB2 hB3 hH hC hHd
  go_enter Try.func12, Try.ntmps12
  go_wp2_with fail
  refine wp_region_plan [.val (.pointer (some ⟨w.heap.size, 0, none⟩)), .val (.int .i64 (K)), .val (.string B1), .val (.pointer (some ⟨w.heap.size, 1, none⟩)), .val (.string s), .val (.int .i64 ((s.size : Int))), .val (.string B2), .val (.string (B1 ++ B2)), .val (.pointer (some ⟨w.heap.size, 1, none⟩)), .val (.string s), .val (.string H), .val (.string H)] (by kernel_rfl) (by kernel_rfl) (by kernel_rfl) ?_
  intro X
  iterate 12
    refine plan_val (by kernel_rfl) (fun u hu => ?_) ?_
    · obtain ⟨hc, hf, hz⟩ := hu.of_drew.facts
      go_simp
      all_goals first
        | ((go_at_call 27; first | (with_reducible exact c1 _) | (with_reducible exact c2 _)))
        | ((rw [if_neg (by omega)]; go_simp))
    simp only [Act.put, List.setIfInBounds_toArray, List.set_cons_zero, List.set_cons_succ, Nat.reduceAdd]
  refine plan_end ?_
  intro w' hB
  have hk := hB.calm.of_drew
  clear hB
  replace hu := hu.call hk
  have hsm : ¬ 140737488355328 ≤ H.size + B3.size := by omega
  go_wp2_with (first
    | (go_at_call 28; refine (cS _).mono ?_; rintro e w1 ⟨rfl, hb1⟩; replace hu := hu.call hb1; clear hb1)
    | (go_at_call 27; refine (c3 _).mono ?_; rintro e w1 ⟨rfl, hb1⟩; replace hu := hu.call hb1; clear hb1))
  go_ret2
  exact ⟨by rw [← hE.out]; rfl, hu⟩
end Go.Proofs.Ytimfjjnlbfcccaa
