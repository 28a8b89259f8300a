/- Reading a frame, the reference: annalref.Unframe. -/
import Derived.Test.YtimfjjnlbfcccaaFrame4
import Derived.Test.YtimfjjnlbfcccaaRegion2
namespace Go.Proofs.Ytimfjjnlbfcccaa
open Go.RowKit

set_option maxRecDepth 100000 in
set_option maxHeartbeats 4000000 in
theorem unframe_any (s : ByteArray) (w : World) : Calls Try.prog 14 #[.string s] w (FGetEnd s.data.toList w) := by
  have hl := bytes_len s
  by_cases h5 : s.size < 5
  · have e1 : unErr s.data.toList = 7 := by unfold unErr; rw [if_pos (by omega)]
    rw [FGetEnd.bad e1 (by decide)]
    have h5' : (s.size : Int) < 5 := by omega
    clear e1 hl h5
    go_enter Try.func14, Try.ntmps14
    go_wp2
    exact end_fr rfl rfl _ _ w.heap.size _ _ _ _ (0, 0) rfl rfl rfl rfl (heap_new _ _) rfl ⟨rfl, (Calm.refl _).alloc _⟩
  have h5' : (5 : Int) ≤ s.size := by omega
  have i0 : 0 < s.size := by omega
  have i3 : (3 : Int) ≤ s.size := by omega
  obtain ⟨K, hK⟩ : ∃ K, unKind s.data.toList = K := ⟨_, rfl⟩
  obtain ⟨N, hN⟩ : ∃ N, unSize s.data.toList = N := ⟨_, rfl⟩
  have hk0 : s[0].toNat = K := by rw [← hK, unKind, head_at s i0]
  have hK8 : K < 256 := by rw [← hk0]; exact s[0].toNat_lt
  have hN16 : N < 65536 := by rw [← hN]; exact num_lt 2 _ (part_length (by omega))
  have cB := fun u => calls_calm (refBig_any (s.extract 1 3) u (by rw [ByteArray.size_extract]; omega))
  rw [part_extract, show num (part s.data.toList 1 (3 - 1)) = N from hN] at cB
  have cK := fun u => (refBig_any (s.extract 0 1) u (by rw [ByteArray.size_extract]; omega))
  rw [part_extract, show num (part s.data.toList 0 (1 - 0)) = K from hK] at cK
  by_cases hB : K = 0 ∨ 3000 < N
  · have e1 : unErr s.data.toList = 3 := by unfold unErr; rw [if_neg (by omega), hK, hN, if_pos hB]
    rw [FGetEnd.bad e1 (by decide)]
    clear e1 hl h5 hK hN cK
    rcases hB with hB | hB
    · have b0 : ((K : Int) == 0) = true := by rw [beq_iff_eq]; omega
      clear hB
      have hz := heap_new w (.cells #[.int .i64 0, .string { data := #[] }] 23)
      have hu := (Calm.refl w).alloc (.cells #[.int .i64 0, .string { data := #[] }] 23)
      obtain ⟨z0, z1, hzs⟩ := row2 hz
      obtain ⟨f0, f1⟩ := free2 hz
      go_enter Try.func14, Try.ntmps14
      go_wp2_with (go_at_call 30; refine (cB _).mono ?_; rintro e w1 ⟨rfl, hb1⟩; replace hz := (hb1.block (row2 hz).2.2).trans hz; replace hu := hu.call hb1; clear hb1; obtain ⟨z0, z1, hzs⟩ := row2 hz; obtain ⟨f0, f1⟩ := free2 hz)
      have hr := set2 hz (.int .i64 0) (.string { data := #[] })
      have hu2 := hu.two (g := w.heap.size) (Nat.le_refl _) (.int .i64 0) (.string { data := #[] })
      exact end_fr rfl rfl _ _ _ _ _ _ _ _ rfl rfl rfl rfl hr rfl ⟨rfl, hu2⟩
    · have h3 : (3000 : Int) < (N : Int) := by omega
      clear hB
      have hz := heap_new w (.cells #[.int .i64 0, .string { data := #[] }] 23)
      have hu := (Calm.refl w).alloc (.cells #[.int .i64 0, .string { data := #[] }] 23)
      obtain ⟨z0, z1, hzs⟩ := row2 hz
      obtain ⟨f0, f1⟩ := free2 hz
      go_enter Try.func14, Try.ntmps14
      go_wp2_with (go_at_call 30; refine (cB _).mono ?_; rintro e w1 ⟨rfl, hb1⟩; replace hz := (hb1.block (row2 hz).2.2).trans hz; replace hu := hu.call hb1; clear hb1; obtain ⟨z0, z1, hzs⟩ := row2 hz; obtain ⟨f0, f1⟩ := free2 hz)
      all_goals
        have hr := set2 hz (.int .i64 0) (.string { data := #[] })
        have hu2 := hu.two (g := w.heap.size) (Nat.le_refl _) (.int .i64 0) (.string { data := #[] })
        exact end_fr rfl rfl _ _ _ _ _ _ _ _ rfl rfl rfl rfl hr rfl ⟨rfl, hu2⟩
  have b0 : ((K : Int) == 0) = false := by rw [beq_eq_false_iff_ne]; omega
  have hK1 : (1 : Int) ≤ (K : Int) := by omega
  have hN1 : (N : Int) ≤ 3000 := by omega
  obtain ⟨E, hE⟩ : ∃ E, E = 3 + N := ⟨_, rfl⟩
  obtain ⟨L, hL⟩ : ∃ L, L = 5 + N := ⟨_, rfl⟩
  have eE : (3 : Int) + (N : Int) = (E : Int) := by omega
  have eL : (5 : Int) + (N : Int) = (L : Int) := by omega
  have eEw : IntKind.i64.wrap (E : Int) = (E : Int) := IntWalk.i64_in _ (by omega)
  have eLw : IntKind.i64.wrap (L : Int) = (L : Int) := IntWalk.i64_in _ (by omega)
  have i1 : (1 : Int) ≤ s.size := by omega
  by_cases hn : s.size < 5 + N
  · have e1 : unErr s.data.toList = 7 := by unfold unErr; rw [if_neg (by omega), hK, hN, if_neg hB, if_pos (by omega)]
    rw [FGetEnd.bad e1 (by decide)]
    have hn' : (s.size : Int) < (L : Int) := by omega
    clear e1 hl h5 hK hN hB hn hE hL cK
    have hz := heap_new w (.cells #[.int .i64 0, .string { data := #[] }] 23)
    have hu := (Calm.refl w).alloc (.cells #[.int .i64 0, .string { data := #[] }] 23)
    obtain ⟨z0, z1, hzs⟩ := row2 hz
    obtain ⟨f0, f1⟩ := free2 hz
    go_enter Try.func14, Try.ntmps14
    go_wp2_with (go_at_call 30; refine (cB _).mono ?_; rintro e w1 ⟨rfl, hb1⟩; replace hz := (hb1.block (row2 hz).2.2).trans hz; replace hu := hu.call hb1; clear hb1; obtain ⟨z0, z1, hzs⟩ := row2 hz; obtain ⟨f0, f1⟩ := free2 hz)
    have hr := set2 hz (.int .i64 0) (.string { data := #[] })
    have hu2 := hu.two (g := w.heap.size) (Nat.le_refl _) (.int .i64 0) (.string { data := #[] })
    exact end_fr rfl rfl _ _ _ _ _ _ _ _ rfl rfl rfl rfl hr rfl ⟨rfl, hu2⟩
  have hn' : (L : Int) ≤ (s.size : Int) := by omega
  have hEL : (E : Int) ≤ (L : Int) := by omega
  have nE : E ≤ s.size := by omega
  have hE3 : (3 : Int) ≤ (E : Int) := by omega
  obtain ⟨C, hC⟩ : ∃ C, (crc (s.data.toList.take E)).toNat = C := ⟨_, rfl⟩
  obtain ⟨M, hM⟩ : ∃ M, num (part s.data.toList E 2) = M := ⟨_, rfl⟩
  have cS := fun u => calls_calm (refSum_any (s.extract 0 E) u (by rw [ByteArray.size_extract]; omega))
  rw [extract_take, hC] at cS
  have cQ := fun u => calls_calm (refBig_any (s.extract E L) u (by rw [ByteArray.size_extract]; omega))
  rw [part_extract, show L - E = 2 from by omega, hM] at cQ
  by_cases hCM : C = M
  rotate_left
  · have e1 : unErr s.data.toList = 6 := by unfold unErr; rw [if_neg (by omega), hK, hN, if_neg hB, if_neg (by omega), ← hE, hC, hM, if_pos hCM]
    rw [FGetEnd.bad e1 (by decide)]
    have b1 : ((M : Int) != (C : Int)) = true := by rw [bne_iff_ne]; omega
    clear e1 hl h5 hK hN hB hn hE hL hC hM hCM cK
    have hz := heap_new w (.cells #[.int .i64 0, .string { data := #[] }] 23)
    have hu := (Calm.refl w).alloc (.cells #[.int .i64 0, .string { data := #[] }] 23)
    obtain ⟨z0, z1, hzs⟩ := row2 hz
    obtain ⟨f0, f1⟩ := free2 hz
    go_enter Try.func14, Try.ntmps14
    go_wp2_with (go_at_call 30; refine (cB _).mono ?_; rintro e w1 ⟨rfl, hb1⟩; replace hz := (hb1.block (row2 hz).2.2).trans hz; replace hu := hu.call hb1; clear hb1; obtain ⟨z0, z1, hzs⟩ := row2 hz; obtain ⟨f0, f1⟩ := free2 hz)
    refine wp_region_plan [.val (.string s), .val (.int .i64 (N)), .val (.int .i64 (E)), .val (.int .i64 (N)), .val (.int .i64 (L)), .val (.string (s.extract E L)), .val (.int .i64 (M)), .val (.string s), .val (.int .i64 (N)), .val (.int .i64 (E)), .val (.string (s.extract 0 E)), .val (.int .i64 (C)), .val (.bool true)] (by kernel_rfl) (by kernel_rfl) (by kernel_rfl) ?_
    intro X
    iterate 13
      refine plan_val (by kernel_rfl) (fun u hu => ?_) ?_
      · obtain ⟨hc, hf, hz⟩ := hu.of_drew.facts
        go_simp
        all_goals first
          | ((go_at_call 30; exact cQ _))
          | ((go_at_call 28; exact cS _))
          | (exact eEw)
          | (exact eLw)
      simp only [Act.put, List.setIfInBounds_toArray, List.set_cons_zero, List.set_cons_succ, Nat.reduceAdd]
    refine plan_end ?_
    intro w' hB
    have hk := hB.calm.of_drew
    clear hB
    replace hz := (hk.block (row2 hz).2.2).trans hz
    replace hu := hu.call hk
    clear hk
    obtain ⟨z0, z1, hzs⟩ := row2 hz
    obtain ⟨f0, f1⟩ := free2 hz
    go_wp2
    have hr := set2 hz (.int .i64 0) (.string { data := #[] })
    have hu2 := hu.two (g := w.heap.size) (Nat.le_refl _) (.int .i64 0) (.string { data := #[] })
    exact end_fr rfl rfl _ _ _ _ _ _ _ _ rfl rfl rfl rfl hr rfl ⟨rfl, hu2⟩
  have e1 : unErr s.data.toList = 0 := by unfold unErr; rw [if_neg (by omega), hK, hN, if_neg hB, if_neg (by omega), ← hE, hC, hM, if_neg (by simpa using hCM)]
  obtain ⟨B, hBy⟩ : ∃ B, s.extract 3 E = B := ⟨_, rfl⟩
  have hBy2 : (⟨(unBody s.data.toList).toArray⟩ : ByteArray) = B := by rw [← hBy, part_bytes, unBody, hN, hE, Nat.add_sub_cancel_left]
  rw [FGetEnd.good e1, hBy2, hK, hN, ← hL]
  subst hCM
  have b2 : ((C : Int) != (C : Int)) = false := by simp
  clear e1 hl h5 hK hN hB hn hE hL hC hM hBy2
  have hz := heap_new w (.cells #[.int .i64 0, .string { data := #[] }] 23)
  have hu := (Calm.refl w).alloc (.cells #[.int .i64 0, .string { data := #[] }] 23)
  obtain ⟨z0, z1, hzs⟩ := row2 hz
  obtain ⟨f0, f1⟩ := free2 hz
  go_enter Try.func14, Try.ntmps14
  go_wp2_with (go_at_call 30; refine (cB _).mono ?_; rintro e w1 ⟨rfl, hb1⟩; replace hz := (hb1.block (row2 hz).2.2).trans hz; replace hu := hu.call hb1; clear hb1; obtain ⟨z0, z1, hzs⟩ := row2 hz; obtain ⟨f0, f1⟩ := free2 hz)
  refine wp_region_plan [.val (.string s), .val (.int .i64 (N)), .val (.int .i64 (E)), .val (.int .i64 (N)), .val (.int .i64 (L)), .val (.string (s.extract E L)), .val (.int .i64 (C)), .val (.string s), .val (.int .i64 (N)), .val (.int .i64 (E)), .val (.string (s.extract 0 E)), .val (.int .i64 (C)), .val (.bool false)] (by kernel_rfl) (by kernel_rfl) (by kernel_rfl) ?_
  intro X
  iterate 13
    refine plan_val (by kernel_rfl) (fun u hu => ?_) ?_
    · obtain ⟨hc, hf, hz⟩ := hu.of_drew.facts
      go_simp
      all_goals first
        | ((go_at_call 30; exact cQ _))
        | ((go_at_call 28; exact cS _))
        | (exact eEw)
        | (exact eLw)
    simp only [Act.put, List.setIfInBounds_toArray, List.set_cons_zero, List.set_cons_succ, Nat.reduceAdd]
  refine plan_end ?_
  intro w' hB
  have hk := hB.calm.of_drew
  clear hB
  replace hz := (hk.block (row2 hz).2.2).trans hz
  replace hu := hu.call hk
  clear hk
  obtain ⟨z0, z1, hzs⟩ := row2 hz
  obtain ⟨f0, f1⟩ := free2 hz
  go_wp2_with fail
  refine wp_region_plan_old [.val (.string s), .val (.string (s.extract 0 1)), .val (.int .i64 (K)), .val (.string s), .val (.int .i64 (N)), .val (.int .i64 (E)), .val (.string B), .val (.agg #[.int .i64 (K : Int), .string B]), .val (.int .i64 (N)), .val (.int .i64 (L)), .fill 0 #[.int .i64 (K : Int), .string B], .val (.int .i64 (L)), .val (.int .i64 (0))] (w.heap.size) (w.heap.size) 10 #[.int .i64 0, .string { data := #[] }] #[.int .i64 (K : Int), .string B] 23 (by kernel_rfl) (by kernel_rfl) (by kernel_rfl) rfl (hu.size) (Nat.le_refl _) hz ?_
  iterate 10
    refine planO_val (by kernel_rfl) (fun u hu => ?_) ?_
    · obtain ⟨hc, hf⟩ := low_facts hu
      go_simp
      all_goals first
        | ((go_at_call 30; exact calls_calm (cK _)))
        | (exact eEw)
        | (exact eLw)
    simp only [Act.put, List.setIfInBounds_toArray, List.set_cons_zero, List.set_cons_succ, Nat.reduceAdd]
  refine planO_row rfl rfl rfl rfl rfl (by kernel_rfl) rfl (by simp [Value.oneCell']) ?_
  simp only [Act.put]
  iterate 2
    refine planO_val (by kernel_rfl) (fun u hu => ?_) ?_
    · obtain ⟨hc, hf⟩ := low_facts hu
      go_simp
      all_goals first
        | ((go_at_call 30; exact calls_calm (cK _)))
        | (exact eEw)
        | (exact eLw)
    simp only [Act.put, List.setIfInBounds_toArray, List.set_cons_zero, List.set_cons_succ, Nat.reduceAdd]
  refine planO_end ?_
  intro w' hk hr
  replace hu : Calm w w' := hu.low hk
  go_wp2
  exact end_fr rfl rfl _ _ _ _ _ _ _ _ rfl rfl rfl rfl hr rfl ⟨rfl, hu⟩
end Go.Proofs.Ytimfjjnlbfcccaa
