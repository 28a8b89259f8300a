/- Texts of one kind in one file. -/
import Derived.Lib.SliceRun
import Derived.Lib.Hide
import Derived.OwnWalk
import Derived.Laws.Externs
import Derived.Deep.AppendSrc
import Derived.Deep.RegionLaw
import Derived.Test.YtmpgikplpohjnaaPkUndoWhole1
set_option maxRecDepth 100000
namespace Go.Proofs.Ytmpgikplpohjnaa
open Go.RowKit
set_option maxHeartbeats 4000000 in
theorem unframe_any (s : ByteArray) (w : World) : Calls Try.prog 58 #[.string s] w (FGetEnd s.data.toList w) := by
 have hl := bytes_len s
 by_cases h5 : s.size < 5
 ·have e1 : unErr s.data.toList = 7 := by unfold unErr; rw [if_pos (by omega)]
  rw [FGetEnd.bad e1 (by decide)]
  have h5' : (s.size : Int) < 5 := by omega
  clear e1 hl h5
  go_enter Try.func58, Try.ntmps58
  go_wp2
  exact end_fr rfl rfl _ _ w.heap.size _ _ _ _ (0, 0) rfl rfl rfl rfl (heap_new _ _) rfl ⟨rfl, (Calm.refl _).alloc _⟩
 have h5' : (5 : Int) ≤ s.size := by omega
 have i0 : 0 < s.size := by omega
 have i3 : (3 : Int) ≤ s.size := by omega
 obtain ⟨K, hK⟩ : ∃ K, unKind s.data.toList = K := ⟨_, rfl⟩
 obtain ⟨N, hN⟩ : ∃ N, unSize s.data.toList = N := ⟨_, rfl⟩
 have hk0 : s[0].toNat = K := by rw [← hK, unKind, head_at s i0]
 have hK8 : K < 256 := by rw [← hk0]; exact s[0].toNat_lt
 have hN16 : N < 65536 := by rw [← hN]; exact num_lt 2 _ (part_length (by omega))
 have cB := fun u => calls_calm (refBig_any (s.extract 1 3) u (by rw [ByteArray.size_extract]; omega))
 rw [part_extract, show num (part s.data.toList 1 (3 - 1)) = N from hN] at cB
 have cK := fun u => (refBig_any (s.extract 0 1) u (by rw [ByteArray.size_extract]; omega))
 rw [part_extract, show num (part s.data.toList 0 (1 - 0)) = K from hK] at cK
 by_cases hB : K = 0 ∨ 3000 < N
 ·have e1 : unErr s.data.toList = 3 := by unfold unErr; rw [if_neg (by omega), hK, hN, if_pos hB]
  rw [FGetEnd.bad e1 (by decide)]
  clear e1 hl h5 hK hN cK
  rcases hB with hB | hB
  ·have b0 : ((K : Int) == 0) = true := by rw [beq_iff_eq]; omega
   clear hB
   have hz := heap_new w (.cells #[.int .i64 0, .string { data := #[] }] 87)
   have hu := (Calm.refl w).alloc (.cells #[.int .i64 0, .string { data := #[] }] 87)
   obtain ⟨z0, z1, hzs⟩ := row2 hz
   obtain ⟨f0, f1⟩ := free2 hz
   go_enter Try.func58, Try.ntmps58
   go_wp2_with (go_at_call 60; refine (cB _).mono ?_; rintro e w1 ⟨rfl, hb1⟩; replace hz := (hb1.block (row2 hz).2.2).trans hz; replace hu := hu.call hb1; clear hb1; obtain ⟨z0, z1, hzs⟩ := row2 hz; obtain ⟨f0, f1⟩ := free2 hz)
   have hr := set2 hz (.int .i64 0) (.string { data := #[] })
   have hu2 := hu.two (g := w.heap.size) (Nat.le_refl _) (.int .i64 0) (.string { data := #[] })
   exact end_fr rfl rfl _ _ _ _ _ _ _ _ rfl rfl rfl rfl hr rfl ⟨rfl, hu2⟩
  ·have h3 : (3000 : Int) < (N : Int) := by omega
   clear hB
   have hz := heap_new w (.cells #[.int .i64 0, .string { data := #[] }] 87)
   have hu := (Calm.refl w).alloc (.cells #[.int .i64 0, .string { data := #[] }] 87)
   obtain ⟨z0, z1, hzs⟩ := row2 hz
   obtain ⟨f0, f1⟩ := free2 hz
   go_enter Try.func58, Try.ntmps58
   go_wp2_with (go_at_call 60; refine (cB _).mono ?_; rintro e w1 ⟨rfl, hb1⟩; replace hz := (hb1.block (row2 hz).2.2).trans hz; replace hu := hu.call hb1; clear hb1; obtain ⟨z0, z1, hzs⟩ := row2 hz; obtain ⟨f0, f1⟩ := free2 hz)
   all_goals
    have hr := set2 hz (.int .i64 0) (.string { data := #[] })
    have hu2 := hu.two (g := w.heap.size) (Nat.le_refl _) (.int .i64 0) (.string { data := #[] })
    exact end_fr rfl rfl _ _ _ _ _ _ _ _ rfl rfl rfl rfl hr rfl ⟨rfl, hu2⟩
 have b0 : ((K : Int) == 0) = false := by rw [beq_eq_false_iff_ne]; omega
 have hK1 : (1 : Int) ≤ (K : Int) := by omega
 have hN1 : (N : Int) ≤ 3000 := by omega
 obtain ⟨E, hE⟩ : ∃ E, E = 3 + N := ⟨_, rfl⟩
 obtain ⟨L, hL⟩ : ∃ L, L = 5 + N := ⟨_, rfl⟩
 have eE : (3 : Int) + (N : Int) = (E : Int) := by omega
 have eL : (5 : Int) + (N : Int) = (L : Int) := by omega
 have eEw : IntKind.i64.wrap (E : Int) = (E : Int) := IntWalk.i64_in _ (by omega)
 have eLw : IntKind.i64.wrap (L : Int) = (L : Int) := IntWalk.i64_in _ (by omega)
 have i1 : (1 : Int) ≤ s.size := by omega
 by_cases hn : s.size < 5 + N
 ·have e1 : unErr s.data.toList = 7 := by unfold unErr; rw [if_neg (by omega), hK, hN, if_neg hB, if_pos (by omega)]
  rw [FGetEnd.bad e1 (by decide)]
  have hn' : (s.size : Int) < (L : Int) := by omega
  clear e1 hl h5 hK hN hB hn hE hL cK
  have hz := heap_new w (.cells #[.int .i64 0, .string { data := #[] }] 87)
  have hu := (Calm.refl w).alloc (.cells #[.int .i64 0, .string { data := #[] }] 87)
  obtain ⟨z0, z1, hzs⟩ := row2 hz
  obtain ⟨f0, f1⟩ := free2 hz
  go_enter Try.func58, Try.ntmps58
  go_wp2_with (go_at_call 60; refine (cB _).mono ?_; rintro e w1 ⟨rfl, hb1⟩; replace hz := (hb1.block (row2 hz).2.2).trans hz; replace hu := hu.call hb1; clear hb1; obtain ⟨z0, z1, hzs⟩ := row2 hz; obtain ⟨f0, f1⟩ := free2 hz)
  have hr := set2 hz (.int .i64 0) (.string { data := #[] })
  have hu2 := hu.two (g := w.heap.size) (Nat.le_refl _) (.int .i64 0) (.string { data := #[] })
  exact end_fr rfl rfl _ _ _ _ _ _ _ _ rfl rfl rfl rfl hr rfl ⟨rfl, hu2⟩
 have hn' : (L : Int) ≤ (s.size : Int) := by omega
 have hEL : (E : Int) ≤ (L : Int) := by omega
 have nE : E ≤ s.size := by omega
 have hE3 : (3 : Int) ≤ (E : Int) := by omega
 obtain ⟨C, hC⟩ : ∃ C, (crc (s.data.toList.take E)).toNat = C := ⟨_, rfl⟩
 obtain ⟨M, hM⟩ : ∃ M, num (part s.data.toList E 2) = M := ⟨_, rfl⟩
 have cS := fun u => calls_calm (refSum_any (s.extract 0 E) u (by rw [ByteArray.size_extract]; omega))
 rw [extract_take, hC] at cS
 have cQ := fun u => calls_calm (refBig_any (s.extract E L) u (by rw [ByteArray.size_extract]; omega))
 rw [part_extract, show L - E = 2 from by omega, hM] at cQ
 by_cases hCM : C = M
 rotate_left
 ·have e1 : unErr s.data.toList = 6 := by unfold unErr; rw [if_neg (by omega), hK, hN, if_neg hB, if_neg (by omega), ← hE, hC, hM, if_pos hCM]
  rw [FGetEnd.bad e1 (by decide)]
  have b1 : ((M : Int) != (C : Int)) = true := by rw [bne_iff_ne]; omega
  clear e1 hl h5 hK hN hB hn hE hL hC hM hCM cK
  have hz := heap_new w (.cells #[.int .i64 0, .string { data := #[] }] 87)
  have hu := (Calm.refl w).alloc (.cells #[.int .i64 0, .string { data := #[] }] 87)
  obtain ⟨z0, z1, hzs⟩ := row2 hz
  obtain ⟨f0, f1⟩ := free2 hz
  go_enter Try.func58, Try.ntmps58
  go_wp2_with (go_at_call 60; refine (cB _).mono ?_; rintro e w1 ⟨rfl, hb1⟩; replace hz := (hb1.block (row2 hz).2.2).trans hz; replace hu := hu.call hb1; clear hb1; obtain ⟨z0, z1, hzs⟩ := row2 hz; obtain ⟨f0, f1⟩ := free2 hz)
  refine wp_region_plan [.val (.string s), .val (.int .i64 (N)), .val (.int .i64 (E)), .val (.int .i64 (N)), .val (.int .i64 (L)), .val (.string (s.extract E L)), .val (.int .i64 (M)), .val (.string s), .val (.int .i64 (N)), .val (.int .i64 (E)), .val (.string (s.extract 0 E)), .val (.int .i64 (C)), .val (.bool true)] (by kernel_rfl) (by kernel_rfl) (by kernel_rfl) ?_
  intro X
  iterate 13
   refine plan_val (by kernel_rfl) (fun u hu => ?_) ?_
   ·obtain ⟨hc, hf, hz⟩ := hu.of_drew.facts
    go_simp
    all_goals first
     |((go_at_call 60; exact cQ _))
     |((go_at_call 89; exact cS _))
     |(exact eEw)
     |(exact eLw)
   simp only [Act.put, List.setIfInBounds_toArray, List.set_cons_zero, List.set_cons_succ, Nat.reduceAdd]
  refine plan_end ?_
  intro w' hB
  have hk := hB.calm.of_drew
  clear hB
  replace hz := (hk.block (row2 hz).2.2).trans hz
  replace hu := hu.call hk
  clear hk
  obtain ⟨z0, z1, hzs⟩ := row2 hz
  obtain ⟨f0, f1⟩ := free2 hz
  go_wp2
  have hr := set2 hz (.int .i64 0) (.string { data := #[] })
  have hu2 := hu.two (g := w.heap.size) (Nat.le_refl _) (.int .i64 0) (.string { data := #[] })
  exact end_fr rfl rfl _ _ _ _ _ _ _ _ rfl rfl rfl rfl hr rfl ⟨rfl, hu2⟩
 have e1 : unErr s.data.toList = 0 := by unfold unErr; rw [if_neg (by omega), hK, hN, if_neg hB, if_neg (by omega), ← hE, hC, hM, if_neg (by simpa using hCM)]
 obtain ⟨B, hBy⟩ : ∃ B, s.extract 3 E = B := ⟨_, rfl⟩
 have hBy2 : (⟨(unBody s.data.toList).toArray⟩ : ByteArray) = B := by rw [← hBy, part_bytes, unBody, hN, hE, Nat.add_sub_cancel_left]
 rw [FGetEnd.good e1, hBy2, hK, hN, ← hL]
 subst hCM
 have b2 : ((C : Int) != (C : Int)) = false := by simp
 clear e1 hl h5 hK hN hB hn hE hL hC hM hBy2
 have hz := heap_new w (.cells #[.int .i64 0, .string { data := #[] }] 87)
 have hu := (Calm.refl w).alloc (.cells #[.int .i64 0, .string { data := #[] }] 87)
 obtain ⟨z0, z1, hzs⟩ := row2 hz
 obtain ⟨f0, f1⟩ := free2 hz
 go_enter Try.func58, Try.ntmps58
 go_wp2_with (go_at_call 60; refine (cB _).mono ?_; rintro e w1 ⟨rfl, hb1⟩; replace hz := (hb1.block (row2 hz).2.2).trans hz; replace hu := hu.call hb1; clear hb1; obtain ⟨z0, z1, hzs⟩ := row2 hz; obtain ⟨f0, f1⟩ := free2 hz)
 refine wp_region_plan [.val (.string s), .val (.int .i64 (N)), .val (.int .i64 (E)), .val (.int .i64 (N)), .val (.int .i64 (L)), .val (.string (s.extract E L)), .val (.int .i64 (C)), .val (.string s), .val (.int .i64 (N)), .val (.int .i64 (E)), .val (.string (s.extract 0 E)), .val (.int .i64 (C)), .val (.bool false)] (by kernel_rfl) (by kernel_rfl) (by kernel_rfl) ?_
 intro X
 iterate 13
  refine plan_val (by kernel_rfl) (fun u hu => ?_) ?_
  ·obtain ⟨hc, hf, hz⟩ := hu.of_drew.facts
   go_simp
   all_goals first
    |((go_at_call 60; exact cQ _))
    |((go_at_call 89; exact cS _))
    |(exact eEw)
    |(exact eLw)
  simp only [Act.put, List.setIfInBounds_toArray, List.set_cons_zero, List.set_cons_succ, Nat.reduceAdd]
 refine plan_end ?_
 intro w' hB
 have hk := hB.calm.of_drew
 clear hB
 replace hz := (hk.block (row2 hz).2.2).trans hz
 replace hu := hu.call hk
 clear hk
 obtain ⟨z0, z1, hzs⟩ := row2 hz
 obtain ⟨f0, f1⟩ := free2 hz
 go_wp2_with fail
 refine wp_region_plan_old [.val (.string s), .val (.string (s.extract 0 1)), .val (.int .i64 (K)), .val (.string s), .val (.int .i64 (N)), .val (.int .i64 (E)), .val (.string B), .val (.agg #[.int .i64 (K : Int), .string B]), .val (.int .i64 (N)), .val (.int .i64 (L)), .fill 0 #[.int .i64 (K : Int), .string B], .val (.int .i64 (L)), .val (.int .i64 (0))] (w.heap.size) (w.heap.size) 10 #[.int .i64 0, .string { data := #[] }] #[.int .i64 (K : Int), .string B] 87 (by kernel_rfl) (by kernel_rfl) (by kernel_rfl) rfl (hu.size) (Nat.le_refl _) hz ?_
 iterate 10
  refine planO_val (by kernel_rfl) (fun u hu => ?_) ?_
  ·obtain ⟨hc, hf⟩ := low_facts hu
   go_simp
   all_goals first
    |((go_at_call 60; exact calls_calm (cK _)))
    |(exact eEw)
    |(exact eLw)
  simp only [Act.put, List.setIfInBounds_toArray, List.set_cons_zero, List.set_cons_succ, Nat.reduceAdd]
 refine planO_row rfl rfl rfl rfl rfl (by kernel_rfl) rfl (by simp [Value.oneCell']) ?_
 simp only [Act.put]
 iterate 2
  refine planO_val (by kernel_rfl) (fun u hu => ?_) ?_
  ·obtain ⟨hc, hf⟩ := low_facts hu
   go_simp
   all_goals first
    |((go_at_call 60; exact calls_calm (cK _)))
    |(exact eEw)
    |(exact eLw)
  simp only [Act.put, List.setIfInBounds_toArray, List.set_cons_zero, List.set_cons_succ, Nat.reduceAdd]
 refine planO_end ?_
 intro w' hk hr
 replace hu : Calm w w' := hu.low hk
 go_wp2
 exact end_fr rfl rfl _ _ _ _ _ _ _ _ rfl rfl rfl rfl hr rfl ⟨rfl, hu⟩
open Go.RowKit
set_option maxHeartbeats 2000000 in
theorem encode_any (n : Nat) (hn : n < 4294967296) (w : World) : Calls Try.prog 49 #[.int .i64 (n : Int)] w fun e w' => e = .returned (.string ⟨(be 4 n).toArray⟩) ∧ Calm w w' := by
 have cN := Lib.hid (appendNum4_any w.heap.size _ _ n w hn (OwnB.nil _ _) (by simp) (Nat.le_refl _))
 go_enter Try.func49, Try.ntmps49
 go_wp2_with (go_at_call 87; refine cN.out.mono ?_; rintro e w9 ⟨v9, rfl, ho9, hc9⟩; have C9 := Lib.hid (hc9 w (Nat.le_refl _) (Calm.refl _)); have hcv := ho9.str (by simp [be_length]); clear ho9 hc9)
 go_ret
 exact ⟨rfl, C9.out⟩
set_option maxHeartbeats 2000000 in
theorem decode_any (s : ByteArray) (w : World) (hs : 4 ≤ s.size) : Calls Try.prog 56 #[.string s] w fun e w' => e = .returned (.int .i64 (num (s.data.toList.take 4) : Int)) ∧ Calm w w' := by
 have cN := fun u => calls_calm (number_any (s.extract 0 4) u (by rw [ByteArray.size_extract]; omega))
 rw [part_extract, show part s.data.toList 0 (4 - 0) = s.data.toList.take 4 from by simp [part]] at cN
 have h4 : (4 : Int) ≤ s.size := by omega
 generalize num (s.data.toList.take 4) = M at cN ⊢
 clear hs
 go_enter Try.func56, Try.ntmps56
 go_wp2_with (go_at_call 91; refine (cN _).mono ?_; rintro e w1 ⟨rfl, hk⟩)
 go_ret
 exact ⟨rfl, hk⟩
open Go.RowKit
def hdE (n : Int) (k : Nat) : Int := if n < 0 ∨ 2147483647 < n then 1 else if 2900 < k then 2 else 0
def hdS (n : Int) (s : ByteArray) : ByteArray := if hdE n s.size = 0 then frS 8 ((⟨(be 4 n.toNat).toArray⟩ : ByteArray) ++ s) else { data := #[] }
def HdEnd (n : Int) (s : ByteArray) (w : World) (e : Ending) (w' : World) : Prop := e = .returned (.tuple #[.string (hdS n s), .int .i64 (hdE n s.size)]) ∧ Calm w w'
theorem HdEnd.bad {n : Int} {s : ByteArray} {E : Int} (h : hdE n s.size = E) (h0 : E ≠ 0) (w : World) : HdEnd n s w = fun e w' => e = .returned (.tuple #[.string { data := #[] }, .int .i64 E]) ∧ Calm w w' := by
 unfold HdEnd hdS
 rw [h, if_neg h0]
theorem HdEnd.good {n : Nat} {s : ByteArray} (h : hdE (n : Int) s.size = 0) (w : World) : HdEnd (n : Int) s w = fun e w' => e = .returned (.tuple #[.string (frS 8 ((⟨(be 4 n).toArray⟩ : ByteArray) ++ s)), .int .i64 0]) ∧ Calm w w' := by
 unfold HdEnd hdS
 rw [h, if_pos rfl, Int.toNat_natCast]
theorem hd_put {B s : ByteArray} (hB : B.size = 4) (hs : s.size ≤ 2900) (w : World) : FPutEnd 8 (B ++ s) w = fun e w' => e = .returned (.tuple #[.string (frS 8 (B ++ s)), .int .i64 0]) ∧ Calm w w' := by
 unfold FPutEnd
 have : frErr 8 (B ++ s).size = 0 := by unfold frErr; rw [ByteArray.size_append, if_neg (by omega), if_neg (by omega)]
 rw [this]
theorem undoHead_any (n : Int) (s : ByteArray) (w : World) : Calls Try.prog 12 #[.int .i64 n, .string s] w (HdEnd n s w) := by
 by_cases h0 : n < 0
 ·rw [HdEnd.bad (E := 1) (by unfold hdE; rw [if_pos (Or.inl h0)]) (by decide)]
  go_enter Try.func12, Try.ntmps12
  go_wp2_with fail
  go_ret2
  exact ⟨rfl, Calm.refl _⟩
 have h0' : 0 ≤ n := by omega
 by_cases h1 : 2147483647 < n
 ·rw [HdEnd.bad (E := 1) (by unfold hdE; rw [if_pos (Or.inr h1)]) (by decide)]
  go_enter Try.func12, Try.ntmps12
  go_wp2_with fail
  go_ret2
  exact ⟨rfl, Calm.refl _⟩
 have h1' : n ≤ 2147483647 := by omega
 by_cases h2 : 2900 < s.size
 ·rw [HdEnd.bad (E := 2) (by unfold hdE; rw [if_neg (by omega), if_pos h2]) (by decide)]
  have h2' : (2900 : Int) < s.size := by omega
  clear h2
  go_enter Try.func12, Try.ntmps12
  go_wp2_with fail
  go_ret2
  exact ⟨rfl, Calm.refl _⟩
 obtain ⟨k, rfl⟩ : ∃ k : Nat, n = (k : Int) := ⟨n.toNat, by omega⟩
 have h2' : (s.size : Int) ≤ 2900 := by omega
 rw [HdEnd.good (by unfold hdE; rw [if_neg (by omega), if_neg h2])]
 have cE := fun u => encode_any k (by omega) u
 have hB : (⟨(be 4 k).toArray⟩ : ByteArray).size = 4 := by rw [bytes_size, be_length]
 generalize (⟨(be 4 k).toArray⟩ : ByteArray) = B at cE hB ⊢
 have cF := fun u => framePut_any 8 (B ++ s) u
 simp only [hd_put hB (by omega : s.size ≤ 2900)] at cF
 clear h0 h1 h2
 go_enter Try.func12, Try.ntmps12
 go_wp2_with (first
  |(go_at_call 49; (with_reducible refine (cE _).mono ?_); rintro e w1 ⟨rfl, hu⟩)
  |(go_at_call 48; (with_reducible refine (cF _).mono ?_); rintro e w2 ⟨rfl, hk⟩; replace hu := hu.call hk; clear hk))
 go_ret2
 exact ⟨rfl, hu⟩
theorem refHead_any (n : Int) (s : ByteArray) (w : World) : Calls Try.prog 13 #[.int .i64 n, .string s] w (HdEnd n s w) := by
 have cW := fun u => calls_calm (between_any n 2147483647 u)
 by_cases h0 : 0 ≤ n ∧ n ≤ 2147483647
 rotate_left
 ·rw [HdEnd.bad (E := 1) (by unfold hdE; rw [if_pos (by omega)]) (by decide)]
  rw [decide_eq_false h0] at cW
  clear h0
  go_enter Try.func13, Try.ntmps13
  go_wp2_with (go_at_call 50; (with_reducible refine (cW _).mono ?_); rintro e w1 ⟨rfl, hu⟩)
  go_ret2
  exact ⟨rfl, hu⟩
 rw [decide_eq_true h0] at cW
 by_cases h2 : 2900 < s.size
 ·rw [HdEnd.bad (E := 2) (by unfold hdE; rw [if_neg (by omega), if_pos h2]) (by decide)]
  have h2' : (2900 : Int) < s.size := by omega
  clear h2 h0
  go_enter Try.func13, Try.ntmps13
  go_wp2_with (go_at_call 50; (with_reducible refine (cW _).mono ?_); rintro e w1 ⟨rfl, hu⟩)
  go_ret2
  exact ⟨rfl, hu⟩
 obtain ⟨k, rfl⟩ : ∃ k : Nat, n = (k : Int) := ⟨n.toNat, by omega⟩
 have h2' : (s.size : Int) ≤ 2900 := by omega
 rw [HdEnd.good (by unfold hdE; rw [if_neg (by omega), if_neg h2])]
 have cE := fun u => big_any 4 k u (by omega) (by omega)
 have hB : (⟨(be 4 k).toArray⟩ : ByteArray).size = 4 := by rw [bytes_size, be_length]
 generalize (⟨(be 4 k).toArray⟩ : ByteArray) = B at cE hB ⊢
 have cF := fun u => refFrame_any 8 (B ++ s) u
 simp only [hd_put hB (by omega : s.size ≤ 2900)] at cF
 clear h0 h2
 go_enter Try.func13, Try.ntmps13
 go_wp2_with (first
  |(go_at_call 50; (with_reducible refine (cW _).mono ?_); rintro e w1 ⟨rfl, hu⟩)
  |(go_at_call 52; refine (cE _).mono ?_; rintro e w2 ⟨rfl, hk⟩; replace hu := hu.call hk; clear hk)
  |(go_at_call 51; (with_reducible refine (cF _).mono ?_); rintro e w2 ⟨rfl, hk⟩; replace hu := hu.call hk; clear hk))
 go_ret2
 exact ⟨rfl, hu⟩
def bdOk (L : List UInt8) (k : Int) (n : Nat) : Prop := unErr L = 0 ∧ gK L = k ∧ n * 4 ≤ (gB L).size
theorem body_ok (s : ByteArray) (k : Int) (n : Nat) (hn : n ≤ 2) (w : World) (h : bdOk s.data.toList k n) : Calls Try.prog 55 #[.string s, .int .i64 k, .int .i64 (n : Int)] w fun e w' => e = .returned (.tuple #[.string (gB s.data.toList), .bool true]) ∧ Calm w w' := by
 obtain ⟨h1, h2, h3⟩ := h
 have cG := fun u => frameGet_any s u
 unfold FGetEnd at cG
 rw [h1, h2] at cG
 generalize gB s.data.toList = B at cG h3 ⊢
 generalize gN s.data.toList = N at cG
 have hn' : (n : Int) ≤ 2 := by omega
 have h3' : (n : Int) * 4 ≤ (B.size : Int) := by omega
 clear h1 h2 h3 hn
 go_enter Try.func55, Try.ntmps55
 go_wp2_with (go_at_call 90; (with_reducible refine (cG _).mono ?_); rintro e w1 ⟨rfl, hu⟩; replace hu := hu.alloc (.cells #[.int .i64 k, .string B] 87); have hx := heap_new w1 (.cells #[.int .i64 k, .string B] 87); obtain ⟨x0, x1, hxs⟩ := row2 hx)
 go_ret2
 exact ⟨rfl, hu⟩
theorem body_no (s : ByteArray) (k : Int) (n : Nat) (hn : n ≤ 2) (w : World) (h : ¬ bdOk s.data.toList k n) : Calls Try.prog 55 #[.string s, .int .i64 k, .int .i64 (n : Int)] w fun e w' => e = .returned (.tuple #[.string { data := #[] }, .bool false]) ∧ Calm w w' := by
 have cG := fun u => frameGet_any s u
 unfold FGetEnd at cG
 have hn' : (n : Int) ≤ 2 := by omega
 by_cases h1 : unErr s.data.toList = 0
 rotate_left
 ·have b1 : (unErr s.data.toList != 0) = true := by rw [bne_iff_ne]; exact h1
  generalize unErr s.data.toList = E at cG b1
  generalize gB s.data.toList = B at cG
  generalize gN s.data.toList = N at cG
  generalize gK s.data.toList = K at cG
  clear h h1 hn
  go_enter Try.func55, Try.ntmps55
  go_wp2_with (go_at_call 90; (with_reducible refine (cG _).mono ?_); rintro e w1 ⟨rfl, hu⟩; replace hu := hu.alloc (.cells #[.int .i64 K, .string B] 87); have hx := heap_new w1 (.cells #[.int .i64 K, .string B] 87); obtain ⟨x0, x1, hxs⟩ := row2 hx)
  go_ret2
  exact ⟨rfl, hu⟩
 rw [h1] at cG
 by_cases h2 : gK s.data.toList = k
 rotate_left
 ·have b1 : (gK s.data.toList != k) = true := by rw [bne_iff_ne]; exact h2
  generalize gB s.data.toList = B at cG
  generalize gN s.data.toList = N at cG
  clear h h1 h2
  generalize gK s.data.toList = K at cG b1
  clear hn
  go_enter Try.func55, Try.ntmps55
  go_wp2_with (go_at_call 90; (with_reducible refine (cG _).mono ?_); rintro e w1 ⟨rfl, hu⟩; replace hu := hu.alloc (.cells #[.int .i64 K, .string B] 87); have hx := heap_new w1 (.cells #[.int .i64 K, .string B] 87); obtain ⟨x0, x1, hxs⟩ := row2 hx)
  go_ret2
  exact ⟨rfl, hu⟩
 have h3 : ¬ n * 4 ≤ (gB s.data.toList).size := fun h3 => h ⟨h1, h2, h3⟩
 rw [h2] at cG
 clear h h1 h2
 generalize gB s.data.toList = B at cG h3
 generalize gN s.data.toList = N at cG
 have h3' : (B.size : Int) < (n : Int) * 4 := by omega
 clear h3 hn
 go_enter Try.func55, Try.ntmps55
 go_wp2_with (go_at_call 90; (with_reducible refine (cG _).mono ?_); rintro e w1 ⟨rfl, hu⟩; replace hu := hu.alloc (.cells #[.int .i64 k, .string B] 87); have hx := heap_new w1 (.cells #[.int .i64 k, .string B] 87); obtain ⟨x0, x1, hxs⟩ := row2 hx)
 go_ret2
 exact ⟨rfl, hu⟩
open Go.RowKit
section
variable {α : Type} {cv : α → List Value} {N : Nat}
def LiesG (cv : α → List Value) (N : Nat) (w : World) (A : Option Addr) (l : List α) : Prop :=
 0 < l.length → ∃ b q, A = some ⟨b, q, none⟩ ∧ b < w.heap.size ∧ ∀ (k : Nat) (x : α), l[k]? = some x → ∀ j, j < N → w.cell? ⟨b, q + k * N + j, none⟩ = (cv x)[j]?
def cvs (cv : α → List Value) (l : List α) : List Value := l.flatMap cv
def OwnG (t : TypeId) (cv : α → List Value) (N : Nat) (base : Nat) (w : World) (v : Value) (l : List α) : Prop := w.ownsRow base t N v l.length (cvs cv l)
theorem LiesG.calm {w w' : World} {A : Option Addr} {l : List α} (h : LiesG cv N w A l) (hb : Calm w w') : LiesG cv N w' A l := fun hl => by
 obtain ⟨b, q, hA, hlt, hk⟩ := h hl
 exact ⟨b, q, hA, Nat.lt_of_lt_of_le hlt hb.size, fun k x hx j hj => (hb.facts.1 b _ hlt).trans (hk k x hx j hj)⟩
theorem LiesG.nil_ {w : World} {A : Option Addr} : LiesG cv N w A ([] : List α) := fun h => absurd h (by simp)
theorem cvs_len (hN : ∀ x, (cv x).length = N) (l : List α) : (cvs cv l).length = l.length * N := by
 unfold cvs
 induction l with
 |nil => simp
 |cons e l ih => rw [List.flatMap_cons, List.length_append, ih, hN, List.length_cons, Nat.succ_mul]; omega
theorem cvs_at (hN : ∀ x, (cv x).length = N) : ∀ (l : List α) (k j : Nat) (e : α), l[k]? = some e → j < N → (cvs cv l)[k * N + j]? = (cv e)[j]?
 | [], k, j, e, h, _ => by simp at h
 |x :: l, 0, j, e, h, hj => by
  simp at h; subst h
  show (cv x ++ cvs cv l)[0 * N + j]? = _
  rw [Nat.zero_mul, Nat.zero_add, List.getElem?_append_left (by rw [hN]; exact hj)]
 |x :: l, k + 1, j, e, h, hj => by
  show (cv x ++ cvs cv l)[(k + 1) * N + j]? = _
  rw [Nat.succ_mul, List.getElem?_append_right (by rw [hN]; omega), hN]
  rw [show k * N + N + j - N = k * N + j by omega]
  exact cvs_at hN l k j e (by simpa using h) hj
theorem cvs_snoc (l : List α) (e : α) : cvs cv (l ++ [e]) = cvs cv l ++ cv e := by unfold cvs; simp
theorem cvs_one (h1 : ∀ x, ∀ u ∈ cv x, u.oneCell' = true) (l : List α) : ∀ u ∈ cvs cv l, u.oneCell' = true := by
 intro u hu
 obtain ⟨e, _, h⟩ := List.mem_flatMap.1 hu
 exact h1 e u h
theorem cvs_set (hN : ∀ x, (cv x).length = N) : ∀ {l : List α} {i j : Nat} {u : Value} {x : α} (hi : i < l.length) (_ : j < N) (_ : cv x = (cv l[i]).set j u), (cvs cv l).set (i * N + j) u = cvs cv (l.set i x)
 | [], _, _, _, _, hi, _, _ => absurd hi (by simp)
 |y :: l, 0, j, u, x, hi, hj, hx => by
  show (cv y ++ cvs cv l).set (0 * N + j) u = cv x ++ cvs cv l
  rw [Nat.zero_mul, Nat.zero_add, List.set_append_left _ _ (by rw [hN]; exact hj), hx]
  rfl
 |y :: l, i + 1, j, u, x, hi, hj, hx => by
  show (cv y ++ cvs cv l).set ((i + 1) * N + j) u = cv y ++ cvs cv (l.set i x)
  rw [List.set_append_right _ _ (by rw [hN, Nat.succ_mul]; omega), hN, show (i + 1) * N + j - N = i * N + j by rw [Nat.succ_mul]; omega]
  congr 1
  exact cvs_set hN (l := l) (i := i) (by simpa using hi) hj hx
/-- Each cell of a row that stands in memory. -/
theorem LiesG.cells (hN : ∀ x, (cv x).length = N) (h0 : 0 < N) {w : World} {b q : Nat} {l : List α} (h : LiesG cv N w (some ⟨b, q, none⟩) l) : ∀ j v, (cvs cv l)[j]? = some v → b < w.heap.size ∧ w.cell? ⟨b, q + j, none⟩ = some v := fun j v hj => by
 have hlt : j < l.length * N := by rw [← cvs_len hN]; exact (List.getElem?_eq_some_iff.1 hj).1
 have hk : j / N < l.length := (Nat.div_lt_iff_lt_mul h0).2 hlt
 have hm : j % N < N := Nat.mod_lt _ h0
 have he := Nat.div_add_mod j N
 rw [Nat.mul_comm] at he
 have hel := List.getElem?_eq_getElem hk
 obtain ⟨b', q', hA, hb, hat⟩ := h (Nat.lt_of_le_of_lt (Nat.zero_le _) hk)
 injection hA with hA
 injection hA with h1 h2
 subst h1; subst h2
 have h6 := hat _ _ hel _ hm
 have hj2 := cvs_at hN l (j / N) (j % N) _ hel hm
 rw [he] at hj2
 rw [Nat.add_assoc, he] at h6
 rw [h6, ← hj2, hj]
 exact ⟨hb, rfl⟩
section
variable {t : TypeId} {base : Nat} {w w' : World} {v : Value} {l : List α}
theorem OwnG.lt (h : OwnG t cv N base w v l) : ∀ k, v.ownBlock = some k → base ≤ k ∧ k < w.heap.size := World.ownsRow.lt h
theorem OwnG.calm (h : OwnG t cv N base w v l) (hb : Calm w w') : OwnG t cv N base w' v l := World.ownsRow.kept h (hb.grownBy none) (by
 rcases v.ownBlock with _ | k
 ·exact .inl rfl
 ·exact .inr (by simp))
theorem OwnG.nil (t : TypeId) (cv : α → List Value) (N : Nat) (base : Nat) (w : World) : OwnG t cv N base w (.slice none 0 0) [] := World.ownsRow_nil _ _ _ _
theorem OwnG.weaken {base' : Nat} (h : OwnG t cv N base w v l) (hb : base' ≤ base) : OwnG t cv N base' w v l := ⟨h.1, h.2.imp id fun ⟨g, cap, cur, h1, h2, h3⟩ => ⟨g, cap, cur, h1, Nat.le_trans hb h2, h3⟩⟩
theorem OwnG.same (h : OwnG t cv N base w v l) (hb : ∀ k, v.ownBlock = some k → w'.heap[k]? = w.heap[k]?) : OwnG t cv N base w' v l :=
 ⟨h.1, h.2.imp id fun ⟨g, cap, cur, h1, h2, h3, h4⟩ => ⟨g, cap, cur, h1, h2, (hb g (by rw [h1]; rfl)).trans h3, h4⟩⟩
theorem Calm.grownG {a : World} (h : Calm a w) (hb : a.heap.size ≤ base) (ho : OwnG t cv N base w v l) (hg : w.grownBy w' v.ownBlock) : Calm a w' :=
 Below.grown h hg h.size fun k hk => Nat.le_trans hb (ho.lt k hk).1
theorem OwnG.slice (h : OwnG t cv N base w v l) : ∃ A c, v = .slice A l.length c ∧ l.length ≤ c ∧ c ≤ 9223372036854775807 := by
 rcases h.2 with ⟨rfl, hl⟩ | ⟨g, cap, cur, rfl, _, _, hnc, hcm, _⟩
 ·exact ⟨none, 0, by rw [hl], by omega, by omega⟩
 ·exact ⟨some ⟨g, 0, none⟩, cap, rfl, hnc, by simp only [maxLen] at hcm; omega⟩
theorem OwnG.lies (hN : ∀ x, (cv x).length = N) (h : OwnG t cv N base w v l) : ∃ A c, v = .slice A l.length c ∧ l.length ≤ c ∧ c ≤ 9223372036854775807 ∧ LiesG cv N w A l := by
 rcases h.2 with ⟨rfl, hl⟩ | ⟨g, cap, cur, rfl, _, hg, hnc, hcm, _, ht⟩
 ·have : l = [] := List.eq_nil_of_length_eq_zero hl
  subst this
  exact ⟨none, 0, rfl, Nat.le_refl _, by omega, LiesG.nil_⟩
 ·refine ⟨some ⟨g, 0, none⟩, cap, rfl, hnc, by simp only [maxLen] at hcm; omega, fun hpos => ⟨g, 0, rfl, (Array.getElem?_eq_some_iff.1 hg).1, fun k e he j hj => ?_⟩⟩
  have hk : k < l.length := (List.getElem?_eq_some_iff.1 he).1
  have hkn : k * N + j < l.length * N := by
   have := Nat.mul_le_mul_right N (show k + 1 ≤ l.length from hk)
   rw [Nat.succ_mul] at this
   omega
  rw [Nat.zero_add, cell_of_row w g _ cur _ (0, 0) hg, ← cvs_at hN l k j e he hj, ← ht, List.getElem?_take, if_pos hkn, Array.getElem?_toList]
theorem OwnG.at_ (hN : ∀ x, (cv x).length = N) {A : Option Addr} {n c : Nat} (h : OwnG t cv N base w (.slice A n c) l) : n = l.length ∧ LiesG cv N w A l := by
 obtain ⟨A', c', hv, _, _, hL⟩ := h.lies hN
 injection hv with h1 h2 h3
 subst h1
 exact ⟨h2, hL⟩
theorem OwnG.some_ (h : OwnG t cv N base w v l) (hl : 0 < l.length) : ∃ g cap, v = .slice (some ⟨g, 0, none⟩) l.length cap := by
 rcases h.2 with ⟨_, h1⟩ | ⟨g', cap', cur, h1, _⟩
 ·omega
 ·exact ⟨g', cap', h1⟩
/-- One cell of an element is stored in an owned row. -/
theorem OwnG.set (hN : ∀ x, (cv x).length = N) {g n cap i j : Nat} {u : Value} {x : α} (h : OwnG t cv N base w (.slice (some ⟨g, 0, none⟩) n cap) l) (hi : i < l.length) (hj : j < N) (hx : cv x = (cv l[i]).set j u) :
    OwnG t cv N base (w.setCell ⟨g, i * N + j, none⟩ u) (.slice (some ⟨g, 0, none⟩) n cap) (l.set i x) := by
  have hn : n = l.length := by
    rcases h.2 with ⟨h1, _⟩ | ⟨g', cap', cur, h1, _⟩
    · cases h1
    · injection h1
  subst hn
  have h1 := (World.ownsRow.stored h (i * N + j) u).1
  unfold OwnG
  rw [List.length_set, ← cvs_set hN hi hj hx]
  exact h1
theorem OwnG.frozen {g n cap : Nat} (h : OwnG t cv N base w (.slice (some ⟨g, 0, none⟩) n cap) l) (j : Nat) : w.frozen? ⟨g, j, none⟩ = false := by
 have hn : n = l.length := by
  rcases h.2 with ⟨h1, _⟩ | ⟨g', cap', cur, h1, _⟩
  ·cases h1
  ·injection h1
 subst hn
 exact World.ownsRow.frozenAt h j
theorem OwnG.cell (hN : ∀ x, (cv x).length = N) {g n cap i : Nat} (h : OwnG t cv N base w (.slice (some ⟨g, 0, none⟩) n cap) l) (hi : i < l.length) : (∀ j, j < N → w.cell? ⟨g, i * N + j, none⟩ = (cv l[i])[j]?) ∧ base ≤ g ∧ g < w.heap.size ∧ n = l.length ∧ n ≤ cap := by
 have hn : n = l.length ∧ n ≤ cap := by
  rcases h.2 with ⟨h1, _⟩ | ⟨g', cap', cur, h1, _, _, h2, _⟩
  ·cases h1
  ·injection h1 with h3 h4 h5
   exact ⟨h4, by omega⟩
 obtain ⟨hn, hnc⟩ := hn
 subst hn
 have hlt := h.lt g rfl
 refine ⟨fun j hj => ?_, hlt.1, hlt.2, rfl, hnc⟩
 have := Nat.mul_le_mul_right N (show i + 1 ≤ l.length from hi)
 rw [Nat.succ_mul] at this
 rw [World.ownsRow.cellAt h (i * N + j) (by omega), cvs_at hN l i j _ (List.getElem?_eq_getElem hi) hj]
end
end
open Go.RowKit
structure Wr where
 i : Int
 s : ByteArray
instance : DecidableEq Wr := fun a b => decidable_of_iff (a.i = b.i ∧ a.s = b.s) (by cases a; cases b; simp)
def stC (s : ByteArray) : List Value := [.string s]
def wrC (x : Wr) : List Value := [.int .i64 x.i, .string x.s]
theorem stC_len (s : ByteArray) : (stC s).length = 1 := rfl
theorem wrC_len (x : Wr) : (wrC x).length = 2 := rfl
theorem stC_one (s : ByteArray) : ∀ u ∈ stC s, u.oneCell' = true := by
 intro u hu
 simp only [stC, List.mem_cons, List.not_mem_nil, or_false] at hu
 subst hu; rfl
theorem wrC_one (x : Wr) : ∀ u ∈ wrC x, u.oneCell' = true := by
 intro u hu
 simp only [wrC, List.mem_cons, List.not_mem_nil, or_false] at hu
 rcases hu with rfl | rfl <;> rfl
def LiesP (w : World) (A : Option Addr) (l : List ByteArray) : Prop := LiesG stC 1 w A l
def LiesW (w : World) (A : Option Addr) (l : List Wr) : Prop := LiesG wrC 2 w A l
theorem LiesP.calm {w w' : World} {A : Option Addr} {l : List ByteArray} (h : LiesP w A l) (hb : Calm w w') : LiesP w' A l := LiesG.calm h hb
theorem LiesW.calm {w w' : World} {A : Option Addr} {l : List Wr} (h : LiesW w A l) (hb : Calm w w') : LiesW w' A l := LiesG.calm h hb
theorem LiesP.get {w : World} {A : Option Addr} {l : List ByteArray} (h : LiesP w A l) {k : Nat} (hk : k < l.length) : ∃ (b q : Nat) (s : ByteArray), A = some ⟨b, q, none⟩ ∧ b < w.heap.size ∧ Hid (l[k]? = some s) ∧ w.cell? ⟨b, q + k, none⟩ = some (.string s) := by
 obtain ⟨b, q, hA, hlt, h2⟩ := h (by omega)
 have := h2 k _ (List.getElem?_eq_getElem hk) 0 (by omega)
 rw [Nat.mul_one, Nat.add_zero] at this
 exact ⟨b, q, l[k], hA, hlt, List.getElem?_eq_getElem hk, this⟩
theorem LiesW.get {w : World} {A : Option Addr} {l : List Wr} (h : LiesW w A l) {k : Nat} (hk : k < l.length) : ∃ (b q : Nat) (i : Int) (s : ByteArray), A = some ⟨b, q, none⟩ ∧ b < w.heap.size ∧ Hid (l[k]? = some ⟨i, s⟩) ∧ w.cell? ⟨b, q + k * 2, none⟩ = some (.int .i64 i) ∧ w.cell? ⟨b, q + k * 2 + 1, none⟩ = some (.string s) := by
 obtain ⟨b, q, hA, hlt, h2⟩ := h (by omega)
 have h3 := h2 k _ (List.getElem?_eq_getElem hk)
 exact ⟨b, q, l[k].i, l[k].s, hA, hlt, List.getElem?_eq_getElem hk, h3 0 (by omega), h3 1 (by omega)⟩
def wrE (n : Nat) (x : Wr) : Int := if x.i < 0 ∨ (n : Int) ≤ x.i then 1 else if 3500 < x.s.size then 2 else 0
def wrsE (n : Nat) : List Wr → Int
 | [] => 0
 |x :: l => if wrE n x = 0 then wrsE n l else wrE n x
def dkErr (ps : List ByteArray) (ws : List Wr) : Int := if 201 < ps.length ∨ 400 < ws.length then 2 else if ps.any (fun s => decide (3500 < s.size)) = true then 2 else wrsE ps.length ws
theorem wrsE_drop {n : Nat} {ws : List Wr} {j : Nat} {x : Wr} (h : ws[j]? = some x) : wrsE n (ws.drop j) = if wrE n x = 0 then wrsE n (ws.drop (j + 1)) else wrE n x := by
 have hj := (List.getElem?_eq_some_iff.1 h).1
 rw [List.drop_eq_getElem_cons hj, (List.getElem?_eq_some_iff.1 h).2]; rfl
theorem wrsE_zero {n : Nat} : ∀ {ws : List Wr}, wrsE n ws = 0 ↔ ∀ x ∈ ws, wrE n x = 0
 | [] => by simp [wrsE]
 |x :: l => by
  unfold wrsE
  split
  ·rename_i h; rw [wrsE_zero]; simp [h]
  ·rename_i h; simp [h]
theorem wrE_zero {n : Nat} {x : Wr} : wrE n x = 0 ↔ 0 ≤ x.i ∧ x.i < n ∧ x.s.size ≤ 3500 := by
 unfold wrE
 split
 ·omega
 ·split <;> omega
theorem dkErr_zero {ps : List ByteArray} {ws : List Wr} : dkErr ps ws = 0 ↔ ps.length ≤ 201 ∧ ws.length ≤ 400 ∧ (∀ s ∈ ps, s.size ≤ 3500) ∧ ∀ x ∈ ws, wrE ps.length x = 0 := by
 unfold dkErr
 constructor
 ·intro h
  split at h
  ·omega
  ·split at h
   ·omega
   ·rename_i h1 h2
    refine ⟨by omega, by omega, fun s hs => ?_, wrsE_zero.1 h⟩
    rw [List.any_eq_true] at h2
    rcases Nat.lt_or_ge 3500 s.size with h3 | h3
    ·exact absurd ⟨s, hs, by simpa using h3⟩ h2
    ·exact h3
 ·rintro ⟨h1, h2, h3, h4⟩
  rw [if_neg (by omega), if_neg, wrsE_zero.2 h4]
  rw [List.any_eq_true]
  rintro ⟨s, hs, h5⟩
  have := h3 s hs
  simp at h5
  omega
def doneL (f : Nat → Bool) : Nat → List Wr → List ByteArray → List ByteArray
 |_, [], ps => ps
 |k, x :: ws, ps => doneL f (k + 1) ws (if f k = true then ps.set x.i.toNat x.s else ps)
def rdL (i : Int) : List Wr → ByteArray → ByteArray
 | [], s => s
 |x :: ws, s => rdL i ws (if x.i = i then x.s else s)
theorem doneL_snoc (f : Nat → Bool) : ∀ (ws : List Wr) (k : Nat) (x : Wr) (ps : List ByteArray), doneL f k (ws ++ [x]) ps = if f (k + ws.length) = true then (doneL f k ws ps).set x.i.toNat x.s else doneL f k ws ps
 | [], k, x, ps => rfl
 |y :: ws, k, x, ps => by
  show doneL f (k + 1) (ws ++ [x]) _ = _
  rw [doneL_snoc f ws, List.length_cons, show k + 1 + ws.length = k + (ws.length + 1) by omega]
  rfl
theorem doneL_take {f : Nat → Bool} {ws : List Wr} {j : Nat} {x : Wr} {ps : List ByteArray} (h : ws[j]? = some x) : doneL f 0 (ws.take (j + 1)) ps = if f j = true then (doneL f 0 (ws.take j) ps).set x.i.toNat x.s else doneL f 0 (ws.take j) ps := by
 obtain ⟨hj, he⟩ := List.getElem?_eq_some_iff.1 h
 rw [List.take_succ_eq_append_getElem hj, he, doneL_snoc, List.length_take, Nat.min_eq_left (by omega), Nat.zero_add]
theorem doneL_len (f : Nat → Bool) : ∀ (ws : List Wr) (k : Nat) (ps : List ByteArray), (doneL f k ws ps).length = ps.length
 | [], _, _ => rfl
 |x :: ws, k, ps => by
  show (doneL f (k + 1) ws _).length = _
  rw [doneL_len f ws]
  split
  ·rw [List.length_set]
  ·rfl
theorem rdL_snoc (i : Int) : ∀ (ws : List Wr) (x : Wr) (s : ByteArray), rdL i (ws ++ [x]) s = if x.i = i then x.s else rdL i ws s
 | [], _, _ => rfl
 |y :: ws, x, s => by
  show rdL i (ws ++ [x]) _ = _
  rw [rdL_snoc i ws]; rfl
theorem rdL_take {i : Int} {ws : List Wr} {j : Nat} {x : Wr} {s : ByteArray} (h : ws[j]? = some x) : rdL i (ws.take (j + 1)) s = if x.i = i then x.s else rdL i (ws.take j) s := by
 obtain ⟨hj, he⟩ := List.getElem?_eq_some_iff.1 h
 rw [List.take_succ_eq_append_getElem hj, he, rdL_snoc]
/-- All writes, in order: what a page reads as. -/
theorem done_read {n : Nat} : ∀ {ws : List Wr} {k : Nat} {ps : List ByteArray}, ps.length = n → (∀ x ∈ ws, wrE n x = 0) → ∀ (i : Nat) (s : ByteArray), ps[i]? = some s → (doneL (fun _ => true) k ws ps)[i]? = some (rdL i ws s)
 | [], _, ps, _, _, i, s, h => h
 |x :: ws, k, ps, hn, hw, i, s, h => by
  have hx := wrE_zero.1 (hw x List.mem_cons_self)
  have hi := (List.getElem?_eq_some_iff.1 h).1
  show (doneL (fun _ => true) (k + 1) ws (ps.set x.i.toNat x.s))[i]? = some (rdL i ws (if x.i = i then x.s else s))
  refine done_read (ws := ws) (by rw [List.length_set]; exact hn) (fun y hy => hw y (List.mem_cons_of_mem _ hy)) i _ ?_
  rw [List.getElem?_set]
  by_cases he : x.i = (i : Int)
  ·rw [if_pos (by omega), if_pos (by omega), if_pos he]
  ·rw [if_neg (by omega), if_neg he]; exact h
/-- The pages are as short as they must be, whichever writes are done. -/
theorem done_ok {n : Nat} {f : Nat → Bool} : ∀ {ws : List Wr} {k : Nat} {ps : List ByteArray}, (∀ x ∈ ws, wrE n x = 0) → (∀ s ∈ ps, s.size ≤ 3500) → ∀ s ∈ doneL f k ws ps, s.size ≤ 3500
 | [], _, _, _, h => h
 |x :: ws, k, ps, hw, h => by
  refine done_ok (ws := ws) (fun y hy => hw y (List.mem_cons_of_mem _ hy)) ?_
  split
  ·intro s hs
   rcases List.mem_or_eq_of_mem_set hs with h1 | h1
   ·exact h s h1
   ·rw [h1]; exact (wrE_zero.1 (hw x List.mem_cons_self)).2.2
  ·exact h
def rdE (ps : List ByteArray) (ws : List Wr) (i : Int) : Int := if dkErr ps ws = 0 then (if i < 0 ∨ (ps.length : Int) ≤ i then 1 else 0) else dkErr ps ws
def rdS (ps : List ByteArray) (ws : List Wr) (i : Int) : ByteArray := if rdE ps ws i = 0 then rdL i ws (ps.getD i.toNat { data := #[] }) else { data := #[] }
def ptE (ps : List ByteArray) (ws : List Wr) (x : Wr) : Int := if dkErr ps ws = 0 then (if wrE ps.length x = 0 then (if ws.length = 400 then 8 else 0) else wrE ps.length x) else dkErr ps ws
def curP (ps : List ByteArray) (ws : List Wr) : List ByteArray := doneL (fun _ => true) 0 ws ps
theorem doneL_ext {f g : Nat → Bool} : ∀ {ws : List Wr} {k : Nat} {ps : List ByteArray}, (∀ j, j < ws.length → f (k + j) = g (k + j)) → doneL f k ws ps = doneL g k ws ps
 | [], _, _, _ => rfl
 |x :: ws, k, ps, h => by
  show doneL f (k + 1) ws _ = doneL g (k + 1) ws _
  rw [show f k = g k from h 0 (by simp)]
  exact doneL_ext fun j hj => by
   have := h (j + 1) (by simpa using hj)
   rw [show k + 1 + j = k + (j + 1) by omega]; exact this
theorem doneL_none {f : Nat → Bool} : ∀ {ws : List Wr} {k : Nat} {ps : List ByteArray}, (∀ j, j < ws.length → f (k + j) = false) → doneL f k ws ps = ps
 | [], _, _, _ => rfl
 |x :: ws, k, ps, h => by
  show doneL f (k + 1) ws _ = _
  rw [show f k = false from h 0 (by simp), if_neg (by simp)]
  exact doneL_none fun j hj => by
   have := h (j + 1) (by simpa using hj)
   rw [show k + 1 + j = k + (j + 1) by omega]; exact this
/-- Behind any of the writes the disk is a right one again, with nothing pending. -/
theorem done_err {ps : List ByteArray} {ws : List Wr} (f : Nat → Bool) (h : dkErr ps ws = 0) : dkErr (doneL f 0 ws ps) [] = 0 := by
 obtain ⟨h1, h2, h3, h4⟩ := dkErr_zero.1 h
 exact dkErr_zero.2 ⟨by rw [doneL_len]; exact h1, by simp, done_ok h4 h3, by simp⟩
open Go.RowKit
theorem infoP : (Try.prog.info? 9).map (fun i => (i.zero, i.size, i.bytes)) = some (some (.string ByteArray.empty), 1, 16) := by kernel_rfl
def OwnP (base : Nat) (w : World) (v : Value) (l : List ByteArray) : Prop := OwnG 9 stC 1 base w v l
theorem OwnP.calm {base : Nat} {w w' : World} {v : Value} {l : List ByteArray} (h : OwnP base w v l) (hb : Calm w w') : OwnP base w' v l := OwnG.calm h hb
theorem OwnP.slice {base : Nat} {w : World} {v : Value} {l : List ByteArray} (h : OwnP base w v l) : ∃ A c, v = .slice A l.length c ∧ l.length ≤ c ∧ c ≤ 9223372036854775807 := OwnG.slice h
theorem OwnP.at_ {base : Nat} {w : World} {l : List ByteArray} {A : Option Addr} {n c : Nat} (h : OwnP base w (.slice A n c) l) : n = l.length ∧ LiesP w A l := OwnG.at_ stC_len h
theorem OwnP.nil (base : Nat) (w : World) : OwnP base w (.slice none 0 0) [] := OwnG.nil _ _ _ _ _
set_option maxHeartbeats 4000000 in
theorem cloneP_any (A : Option Addr) (c : Nat) (l : List ByteArray) (w : World) (hn : l.length ≤ 1000000) (hL : LiesP w A l) :
    Calls Try.prog 26 #[.slice A l.length c] w fun e w' => ∃ v, e = .returned v ∧ OwnP w.heap.size w' v l ∧ Calm w w' := by
  rcases A with _ | ⟨b, q, sp⟩
  · have h0 : l = [] := by
      rcases Nat.eq_zero_or_pos l.length with h | h
      · exact List.eq_nil_of_length_eq_zero h
      · obtain ⟨_, _, h1, _⟩ := hL h; cases h1
    subst h0
    have q22 : ∀ (w : World) (n c n' c' : Nat), (binOp .eql 22 (.slice none n c) (.slice none n' c')).run Try.prog w = .ok (.bool true) w := fun w n c n' c' => Lib.run_eql_slice_nil w _ _ none n c n' c' Try.underlying22
    go_enter Try.func26, Try.ntmps26
    go_wp2_with fail
    go_ret
    exact ⟨_, rfl, OwnP.nil _ _, Calm.refl _⟩
  · obtain ⟨i0, hi, hz0, hz1, hz2⟩ := info_parts infoP
    have q22 : ∀ (w : World) (a : Addr) (n c n' c' : Nat), (binOp .eql 22 (.slice (some a) n c) (.slice none n' c')).run Try.prog w = .ok (.bool false) w := fun w a n c n' c' => Lib.run_eql_slice_nil w _ _ (some a) n c n' c' Try.underlying22
    have hsrc : Hid (∀ j v, (cvs stC l)[j]? = some v → (w.alloc (.cells #[] 9)).cell? ((⟨b, q, sp⟩ : Addr).add j) = some v) := show ∀ _, _ from fun j v hj => by
      have hlt : j < l.length * 1 := by rw [← cvs_len stC_len]; exact (List.getElem?_eq_some_iff.1 hj).1
      obtain ⟨b', q', hA, hb, _⟩ := hL (by omega)
      injection hA with hA
      injection hA with h1 h2 h3
      subst h1; subst h2; subst h3
      have := (LiesG.cells stC_len (by omega) hL j v hj).2
      have e : (⟨b, q, none⟩ : Addr).add j = ⟨b, q + j, none⟩ := by unfold Addr.add; split <;> simp_all
      rw [e, World.cell?_alloc_lt _ _ _ hb]; exact this
    have HLEN := Lib.hid (cvs_len stC_len l)
    have hone : Hid (∀ u ∈ cvs stC l, u.oneCell' = true) := cvs_one stC_one l
    have hbig : l.length * 16 ≤ 140737488355328 := by omega
    have hmax : l.length ≤ maxLen := by unfold maxLen; omega
    clear hL
    go_enter Try.func26, Try.ntmps26
    go_wp2_with (at_builtin; refine wpList_append_own _ rfl _ _ 22 rfl w.heap.size 9 i0 _ 1 16 Try.underlying22 hi hz0 hz1 hz2 rfl (by decide) _ _ _ rfl (World.ownsRow_made w #[] 0 (Nat.le_refl _) (Nat.zero_le _) (by simp)) ⟨b, q, sp⟩ l.length c (cvs stC l) rfl HLEN.out hsrc.out hone.out (by rw [Nat.zero_add]; exact hmax) (by rw [Nat.zero_add]; exact hbig) (by simp) ?_; intro v' w1 hown hgrow _)
    have hO : OwnP w.heap.size w1 v' l := by unfold OwnP OwnG; simpa using hown
    have hC : Calm w w1 := Below.grown ((Calm.refl w).alloc _) hgrow (by simp) (by intro k hk; cases hk; exact Nat.le_refl _)
    clear hown hgrow
    go_wp2_with fail
    go_ret
    exact ⟨_, rfl, hO, hC⟩
theorem infoW : (Try.prog.info? 45).map (fun i => (i.zero, i.size, i.bytes)) = some (some (.agg #[.int .i64 0, .string ByteArray.empty]), 2, 24) := by kernel_rfl
def OwnW (base : Nat) (w : World) (v : Value) (l : List Wr) : Prop := OwnG 45 wrC 2 base w v l
theorem OwnW.calm {base : Nat} {w w' : World} {v : Value} {l : List Wr} (h : OwnW base w v l) (hb : Calm w w') : OwnW base w' v l := OwnG.calm h hb
theorem OwnW.slice {base : Nat} {w : World} {v : Value} {l : List Wr} (h : OwnW base w v l) : ∃ A c, v = .slice A l.length c ∧ l.length ≤ c ∧ c ≤ 9223372036854775807 := OwnG.slice h
theorem OwnW.at_ {base : Nat} {w : World} {l : List Wr} {A : Option Addr} {n c : Nat} (h : OwnW base w (.slice A n c) l) : n = l.length ∧ LiesW w A l := OwnG.at_ wrC_len h
theorem OwnW.nil (base : Nat) (w : World) : OwnW base w (.slice none 0 0) [] := OwnG.nil _ _ _ _ _
set_option maxHeartbeats 4000000 in
theorem cloneW_any (A : Option Addr) (c : Nat) (l : List Wr) (w : World) (hn : l.length ≤ 1000000) (hL : LiesW w A l) :
    Calls Try.prog 34 #[.slice A l.length c] w fun e w' => ∃ v, e = .returned v ∧ OwnW w.heap.size w' v l ∧ Calm w w' := by
  rcases A with _ | ⟨b, q, sp⟩
  · have h0 : l = [] := by
      rcases Nat.eq_zero_or_pos l.length with h | h
      · exact List.eq_nil_of_length_eq_zero h
      · obtain ⟨_, _, h1, _⟩ := hL h; cases h1
    subst h0
    have q22 : ∀ (w : World) (n c n' c' : Nat), (binOp .eql 23 (.slice none n c) (.slice none n' c')).run Try.prog w = .ok (.bool true) w := fun w n c n' c' => Lib.run_eql_slice_nil w _ _ none n c n' c' Try.underlying23
    go_enter Try.func34, Try.ntmps34
    go_wp2_with fail
    go_ret
    exact ⟨_, rfl, OwnW.nil _ _, Calm.refl _⟩
  · obtain ⟨i0, hi, hz0, hz1, hz2⟩ := info_parts infoW
    have q22 : ∀ (w : World) (a : Addr) (n c n' c' : Nat), (binOp .eql 23 (.slice (some a) n c) (.slice none n' c')).run Try.prog w = .ok (.bool false) w := fun w a n c n' c' => Lib.run_eql_slice_nil w _ _ (some a) n c n' c' Try.underlying23
    have hsrc : Hid (∀ j v, (cvs wrC l)[j]? = some v → (w.alloc (.cells #[] 45)).cell? ((⟨b, q, sp⟩ : Addr).add j) = some v) := show ∀ _, _ from fun j v hj => by
      have hlt : j < l.length * 2 := by rw [← cvs_len wrC_len]; exact (List.getElem?_eq_some_iff.1 hj).1
      obtain ⟨b', q', hA, hb, _⟩ := hL (by omega)
      injection hA with hA
      injection hA with h1 h2 h3
      subst h1; subst h2; subst h3
      have := (LiesG.cells wrC_len (by omega) hL j v hj).2
      have e : (⟨b, q, none⟩ : Addr).add j = ⟨b, q + j, none⟩ := by unfold Addr.add; split <;> simp_all
      rw [e, World.cell?_alloc_lt _ _ _ hb]; exact this
    have HLEN := Lib.hid (cvs_len wrC_len l)
    have hone : Hid (∀ u ∈ cvs wrC l, u.oneCell' = true) := cvs_one wrC_one l
    have hbig : l.length * 24 ≤ 140737488355328 := by omega
    have hmax : l.length ≤ maxLen := by unfold maxLen; omega
    clear hL
    go_enter Try.func34, Try.ntmps34
    go_wp2_with (at_builtin; refine wpList_append_own _ rfl _ _ 23 rfl w.heap.size 45 i0 _ 2 24 Try.underlying23 hi hz0 hz1 hz2 rfl (by decide) _ _ _ rfl (World.ownsRow_made w #[] 0 (Nat.le_refl _) (Nat.zero_le _) (by simp)) ⟨b, q, sp⟩ l.length c (cvs wrC l) rfl HLEN.out hsrc.out hone.out (by rw [Nat.zero_add]; exact hmax) (by rw [Nat.zero_add]; exact hbig) (by simp) ?_; intro v' w1 hown hgrow _)
    have hO : OwnW w.heap.size w1 v' l := by unfold OwnW OwnG; simpa using hown
    have hC : Calm w w1 := Below.grown ((Calm.refl w).alloc _) hgrow (by simp) (by intro k hk; cases hk; exact Nat.le_refl _)
    clear hown hgrow
    go_wp2_with fail
    go_ret
    exact ⟨_, rfl, hO, hC⟩
set_option maxHeartbeats 8000000 in
theorem equalP_any (A A' : Option Addr) (c c' : Nat) (l l' : List ByteArray) (w : World) (hn : l.length ≤ 9223372036854775807) (hL : LiesP w A l) (hL' : LiesP w A' l') :
    Calls Try.prog 22 #[.slice A l.length c, .slice A' l'.length c'] w fun e w' => e = .returned (.bool (decide (l = l'))) ∧ Calm w w' := by
  by_cases hll : l.length = l'.length
  rotate_left
  · have hd : decide (l = l') = false := decide_eq_false fun h => hll (by rw [h])
    have hz : ¬ (l.length : Int) = (l'.length : Int) := by omega
    rw [hd]
    clear hd hll hL hL'
    go_enter Try.func22, Try.ntmps22
    go_wp2_with fail
    go_ret
    exact ⟨rfl, Calm.refl _⟩
  generalize hr : decide (l = l') = r
  have HR : Hid (decide (l = l') = r) := hr
  clear hr
  obtain ⟨n, hn1⟩ : ∃ n, n = l.length := ⟨_, rfl⟩
  have hn2 : n = l'.length := hn1.trans hll
  rw [← hn1, ← hn2]
  rw [← hn1] at hn
  have HN1 : Hid (n = l.length) := hn1
  have HN2 : Hid (n = l'.length) := hn2
  clear hn1 hn2 hll
  go_enter Try.func22, Try.ntmps22
  go_wp2_with fail
  go_loopw [13] (fun i wr => ∃ k : Nat, k ≤ n ∧ i = .int .i64 k ∧ Calm w wr ∧ Hid (∀ j, j < k → l[j]? = l'[j]?)) (fun i _ => n - (intOf i).toNat)
  case atStart => exact ⟨0, Nat.zero_le _, rfl, Calm.refl _, show ∀ _, _ from fun j h => absurd h (Nat.not_lt_zero _)⟩
  case round =>
    obtain ⟨k, hk, rfl, hu, hN⟩ := hrel
    by_cases hlt : k < n
    rotate_left
    · have K : Hid (r = true) := by
        rw [← HR.out]
        refine decide_eq_true (List.ext_getElem? fun j => ?_)
        rcases Nat.lt_or_ge j k with h | h
        · exact hN.out j h
        · rw [List.getElem?_eq_none (by rw [← HN1.out]; omega), List.getElem?_eq_none (by rw [← HN2.out]; omega)]
      clear HR
      go_wp2_with fail
      go_ret
      exact ⟨by rw [K.out]; rfl, hu⟩
    obtain ⟨b, q, s, rfl, hb, HE, c0⟩ := (hL.calm hu).get (by rw [← HN1.out]; exact hlt)
    obtain ⟨b', q', s', rfl, hb', HE', d0⟩ := (hL'.calm hu).get (by rw [← HN2.out]; exact hlt)
    have hiz : (k : Int) < (n : Int) := by omega
    have hDF : (s : ByteArray) ≠ s' → l ≠ l' := fun h h2 => by
      have h3 := HE.out; rw [h2, HE'.out] at h3; injection h3 with h3; exact h h3.symm
    have hN1 : (s : ByteArray) = s' → Hid (∀ j, j < k + 1 → l[j]? = l'[j]?) := fun h => show ∀ _, _ from fun j hj => by
      rcases Nat.lt_or_ge j k with h2 | h2
      · exact hN.out j h2
      · rw [show j = k by omega, HE.out, HE'.out, h]
    have HR2 := HR.out
    clear hL hL' HE HE'
    by_cases h0 : s = s'
    rotate_left
    · have hs1 : (s.toList == s'.toList) = false := str_ne h0
      go_wp2_with fail
      refine wp_region_plan [.val (.slice (some ⟨b, q, none⟩) n c), .val (.int .i64 ((k : Int))), .val (.pointer (some ⟨b, q + k, none⟩)), .val (.string s), .val (.slice (some ⟨b', q', none⟩) n c'), .val (.int .i64 ((k : Int))), .val (.pointer (some ⟨b', q' + k, none⟩)), .val (.string s'), .val (.bool true)] (by kernel_rfl) (by kernel_rfl) (by kernel_rfl) ?_
      intro X
      iterate 9
        refine plan_val (by kernel_rfl) (fun u hu => ?_) ?_
        · obtain ⟨hc, hf, hz⟩ := hu.of_drew.facts
          go_simp
        simp only [Act.put, List.setIfInBounds_toArray, List.set_cons_zero, List.set_cons_succ, Nat.reduceAdd]
      refine plan_end ?_
      intro w' hB
      have hk := hB.calm.of_drew
      clear hB
      clear hs1
      go_wp2_with fail
      go_ret
      exact ⟨ret_bool ((decide_eq_false (hDF (by simp [*]))).symm.trans HR2), hu.call hk⟩
    · subst h0
      have hN2 := hN1 rfl
      clear hN1 hDF
      go_wp2_with fail
      refine wp_region_plan [.val (.slice (some ⟨b, q, none⟩) n c), .val (.int .i64 ((k : Int))), .val (.pointer (some ⟨b, q + k, none⟩)), .val (.string s), .val (.slice (some ⟨b', q', none⟩) n c'), .val (.int .i64 ((k : Int))), .val (.pointer (some ⟨b', q' + k, none⟩)), .val (.string s), .val (.bool false)] (by kernel_rfl) (by kernel_rfl) (by kernel_rfl) ?_
      intro X
      iterate 9
        refine plan_val (by kernel_rfl) (fun u hu => ?_) ?_
        · obtain ⟨hc, hf, hz⟩ := hu.of_drew.facts
          go_simp
        simp only [Act.put, List.setIfInBounds_toArray, List.set_cons_zero, List.set_cons_succ, Nat.reduceAdd]
      refine plan_end ?_
      intro w' hB
      have hk := hB.calm.of_drew
      clear hB
      go_wp2_with fail
      go_roundw
      case rel => exact ⟨k + 1, by omega, by go_num, hu.call hk, hN2⟩
      case measure => simp [intOf]; omega
/-- append(out, x): one write more in a row of the call's own. -/
theorem wpList_append_w {ops : Array Oper} {rest : List Oper} {o : Oper} {a : Act} {w : World} {Q : Exit → Act → World → Prop} (hgd : o.guard = none) (s x : Operand)
    (ho : o.op = .call { callee := .builtin .append, args := #[s, x], argTypes := #[23, 23] })
    (base : Nat) (v : Value) (l : List Wr) (hs : a.eval s = v) (hown : OwnW base w v l) (g t : Nat) (i : Int) (sv : ByteArray) (fr : Nat × Nat)
    (hx : a.eval x = .slice (some ⟨g, 0, none⟩) 1 1) (hg : w.heap[g]? = some (.cells #[.int .i64 i, .string sv] t fr)) (hl : l.length ≤ 1000000) (hbase : base ≤ w.heap.size)
    (h : ∀ v' w', OwnW base w' v' (l ++ [⟨i, sv⟩]) → (∀ w0 : World, w0.heap.size ≤ base → Calm w0 w → Calm w0 w') → w.grownBy w' v.ownBlock → wpList Try.prog ops Q rest (a.put o.dst v') w') : wpList Try.prog ops Q (o :: rest) a w := by
  obtain ⟨i0, hi, hz0, hz1, hz2⟩ := info_parts infoW
  refine wpList_append_own w hgd s x _ ho base 45 i0 _ 2 24 Try.underlying23 hi hz0 hz1 hz2 rfl (by decide) v _ _ hs hown ⟨g, 0, none⟩ 1 1 (wrC ⟨i, sv⟩) hx rfl (fun j u hj => ?_) (wrC_one _) (by unfold maxLen; omega) (by omega) hbase fun v' w' h1 h2 _ => ?_
  · have : (⟨g, 0, none⟩ : Addr).add j = ⟨g, j, none⟩ := by unfold Addr.add; split <;> simp_all
    rw [this, cell_of_row w g j _ t fr hg, ← hj]
    simp [wrC]
  · refine h v' w' ?_ (fun w0 h0 hc => hc.grownG h0 hown h2) h2
    unfold OwnW OwnG
    rw [List.length_append, cvs_snoc]
    exact h1
open Go.RowKit
theorem rowD {w : World} {g t : Nat} {a b : Value} {fr : Nat × Nat} (h : w.heap[g]? = some (.cells #[a, b] t fr)) : w.cell? ⟨g, 0, none⟩ = some a ∧ w.cell? ⟨g, 1, none⟩ = some b ∧ g < w.heap.size :=
 ⟨cell_of_row _ _ 0 _ _ _ h, cell_of_row _ _ 1 _ _ _ h, (Array.getElem?_eq_some_iff.1 h).1⟩
theorem setD2 {w : World} {g t : Nat} {a0 a1 : Value} (h : w.heap[g]? = some (.cells #[a0, a1] t (0, 0))) (b0 b1 : Value) :
    ((w.setCell ⟨g, 0, none⟩ b0).setCell ⟨g, 1, none⟩ b1).heap[g]? = some (.cells #[b0, b1] t (0, 0)) := by
  have h1 := heap_setCell_same w g 0 _ t b0 h
  exact heap_setCell_same _ g 1 _ t b1 h1
theorem Calm.twoD {a w : World} (h : Calm a w) {g : Nat} (hg : a.heap.size ≤ g) (b0 b1 : Value) : Calm a ((w.setCell ⟨g, 0, none⟩ b0).setCell ⟨g, 1, none⟩ b1) :=
 (h.setCell (p := ⟨g, 0, none⟩) hg b0).setCell (p := ⟨g, 1, none⟩) hg b1
theorem freeD2 {w : World} {g t : Nat} {cs : Array Value} (h : w.heap[g]? = some (.cells cs t (0, 0))) : w.frozen? ⟨g, 0, none⟩ = false ∧ w.frozen? ⟨g, 1, none⟩ = false :=
 ⟨frozen_of_row _ _ _ _ _ h, frozen_of_row _ _ _ _ _ h⟩
/-- Two results: a disk that lies in memory, and a temporary. -/
theorem results_dkE {fn : Func} {p q : Tmp} (h : fn.results = #[.cell p 25, .tmp q]) (tmps : Array Value) (w : World) (g : Nat) (t : TypeId) (cs : Array Value) (v : Value) (fr : Nat × Nat)
    (hp : tmps.getD p undef = .pointer (some ⟨g, 0, none⟩)) (hq : tmps.getD q undef = v) (hg : w.heap[g]? = some (.cells cs t fr)) (hsz : cs.size = 2) :
    (results fn tmps).run Try.prog w = .ok (.tuple #[.agg cs, v]) w := by
  have hp' : tmps[p]?.getD undef = .pointer (some ⟨g, 0, none⟩) := by simpa using hp
  have hq' : tmps[q]?.getD undef = v := by simpa using hq
  have hi : (Try.prog.info? 25).map (·.size) = some cs.size := by rw [hsz]; kernel_rfl
  simp [results, h, hp', hq', asAddr, run_loadVar_row w g t 25 cs fr _ hg Try.underlying25 rfl hi]
theorem end_dkE {P : Program} {fn : Func} {p q : Tmp} {Q : Ending → World → Prop} (hP : P = Try.prog) (h : fn.results = #[.cell p 25, .tmp q]) (a : Act) (w : World) (g : Nat) (t : TypeId) (cs : Array Value) (v : Value) (fr : Nat × Nat) (hd : a.defers = [])
    (hp : a.tmps.getD p undef = .pointer (some ⟨g, 0, none⟩)) (hq : a.tmps.getD q undef = v) (hg : w.heap[g]? = some (.cells cs t fr)) (hsz : cs.size = 2) (hQ : Q (.returned (.tuple #[.agg cs, v])) w) : bodyPost P fn Q .ret a w := by
  subst hP
  exact bodyPost_ret (v := .tuple #[.agg cs, v]) (results_dkE h a.tmps w g t cs v fr hp hq hg hsz) hd hQ
set_option maxHeartbeats 4000000 in
theorem checkW_any (P Q : Option Addr) (n cp m cq : Nat) (i : Int) (s : ByteArray) (w : World) :
    Calls Try.prog 72 #[.agg #[.slice P n cp, .slice Q m cq], .agg #[.int .i64 i, .string s]] w fun e w' => e = .returned (.int .i64 (wrE n ⟨i, s⟩)) ∧ Calm w w' := by
  have hx := heap_past (.cells #[.int .i64 i, .string s] 45) (heap_new w (.cells #[.slice P n cp, .slice Q m cq] 25))
  have hy := heap_new (w.alloc (.cells #[.slice P n cp, .slice Q m cq] 25)) (.cells #[.int .i64 i, .string s] 45)
  rw [World.size_alloc] at hy
  obtain ⟨x0, x1, hxs⟩ := rowD hx
  obtain ⟨y0, y1, hys⟩ := rowD hy
  have hu : Calm w ((w.alloc (.cells #[.slice P n cp, .slice Q m cq] 25)).alloc (.cells #[.int .i64 i, .string s] 45)) := by repeat (first | (with_reducible exact Calm.refl _) | (with_reducible refine Calm.alloc ?_ _) | (with_reducible refine Calm.drew ?_) | (with_reducible refine Calm.drewN ?_ _) | (refine Calm.call ?_ (by with_reducible assumption)))
  by_cases h1 : i < 0
  · have hr : wrE n ⟨i, s⟩ = 1 := by unfold wrE; rw [if_pos (.inl h1)]
    rw [hr]
    clear hr
    go_enter Try.func72, Try.ntmps72
    go_wp2_with fail
    go_ret
    exact ⟨rfl, hu⟩
  by_cases h2 : (n : Int) ≤ i
  · have hr : wrE n ⟨i, s⟩ = 1 := by unfold wrE; rw [if_pos (.inr h2)]
    rw [hr]
    clear hr
    go_enter Try.func72, Try.ntmps72
    go_wp2_with fail
    go_ret
    exact ⟨rfl, hu⟩
  by_cases h3 : 3500 < s.size
  · have hr : wrE n ⟨i, s⟩ = 2 := by unfold wrE; rw [if_neg (show ¬ (i < 0 ∨ (n : Int) ≤ i) by omega), if_pos h3]
    rw [hr]
    clear hr
    go_enter Try.func72, Try.ntmps72
    go_wp2_with fail
    go_ret
    exact ⟨rfl, hu⟩
  · have hr : wrE n ⟨i, s⟩ = 0 := by unfold wrE; rw [if_neg (show ¬ (i < 0 ∨ (n : Int) ≤ i) by omega), if_neg h3]
    rw [hr]
    clear hr
    go_enter Try.func72, Try.ntmps72
    go_wp2_with fail
    go_ret
    exact ⟨rfl, hu⟩
set_option maxHeartbeats 8000000 in
theorem diskCheck_any (P Q : Option Addr) (cp cq : Nat) (l : List ByteArray) (m : List Wr) (w : World) (hP : LiesP w P l) (hQ : LiesW w Q m) (hn : l.length ≤ 9223372036854775807) (hm : m.length ≤ 9223372036854775807) :
    Calls Try.prog 53 #[.agg #[.slice P l.length cp, .slice Q m.length cq]] w fun e w' => e = .returned (.int .i64 (dkErr l m)) ∧ Calm w w' := by
  have hx := heap_new w (.cells #[.slice P l.length cp, .slice Q m.length cq] 25)
  have hu := (Calm.refl w).alloc (.cells #[.slice P l.length cp, .slice Q m.length cq] 25)
  obtain ⟨x0, x1, hxs⟩ := rowD hx
  by_cases hz : 201 < l.length ∨ 400 < m.length
  · have hr : dkErr l m = 2 := by unfold dkErr; rw [if_pos hz]
    rw [hr]
    clear hP hQ hr
    go_enter Try.func53, Try.ntmps53
    rcases hz with hz | hz
    · go_wp2_with fail
      go_ret
      exact ⟨rfl, hu⟩
    · by_cases h1 : 201 < l.length
      · go_wp2_with fail
        go_ret
        exact ⟨rfl, hu⟩
      · go_wp2_with fail
        go_ret
        exact ⟨rfl, hu⟩
  have HR := Lib.hid (show dkErr l m = if l.any (fun s => decide (3500 < s.size)) = true then 2 else wrsE l.length m by unfold dkErr; rw [if_neg hz])
  generalize dkErr l m = r at HR ⊢
  have HX := Lib.hid hx
  have HP := Lib.hid hP
  have HQ := Lib.hid hQ
  have hl1 : l.length ≤ 201 := by omega
  have hm1 : m.length ≤ 400 := by omega
  clear hP hQ hz hn hm
  go_enter Try.func53, Try.ntmps53
  go_upto_region 1 with fail
  generalize w.alloc (.cells #[.slice P l.length cp, .slice Q m.length cq] 25) = w0 at hx hu HX x0 x1 hxs ⊢
  go_wp2_with fail
  go_loopw [21, 4] (fun i _ wr => ∃ k : Nat, k ≤ l.length ∧ i = .int .i64 k ∧ Calm w wr ∧ Calm w0 wr ∧ Hid (∀ j (h : j < l.length), j < k → ¬ 3500 < l[j].size)) (fun i _ _ => l.length - (intOf i).toNat)
  case atStart => exact ⟨0, Nat.zero_le _, rfl, hu, Calm.refl _, show ∀ _, _ from fun j _ h => absurd h (Nat.not_lt_zero _)⟩
  case round =>
    obtain ⟨k, hk, rfl, hv, hv0, hN⟩ := hrel
    by_cases hlt : k < l.length
    · obtain ⟨b, q, s, rfl, hb, HE, c0⟩ := (HP.out.calm hv).get hlt
      have HE2 := Lib.hid (List.getElem?_eq_some_iff.1 HE.out).2
      by_cases hs : 3500 < s.size
      · have HR2 := Lib.hid (show r = 2 by
          rw [HR.out, if_pos]
          rw [List.any_eq_true]
          exact ⟨s, List.mem_of_getElem? HE.out, by simpa using hs⟩)
        clear HR
        go_wp2_with fail
        go_ret
        exact ⟨by rw [HR2.out]; rfl, hv⟩
      · have hN2 := Lib.hid (show ∀ j (h : j < l.length), j < k + 1 → ¬ 3500 < l[j].size from fun j hj h => by
          rcases Nat.lt_or_ge j k with h2 | h2
          · exact hN.out j hj h2
          · rw [show l[j] = l[k] from by congr 1; omega, HE2.out]; exact hs)
        go_wp2_with fail
        go_roundw
        case rel => exact ⟨k + 1, by omega, by go_num, hv, hv0, hN2⟩
        case measure => simp [intOf]; omega
    have HR2 := Lib.hid (show r = wrsE l.length m by
      rw [HR.out, if_neg]
      rw [List.any_eq_true]
      rintro ⟨s, hs, h2⟩
      obtain ⟨j, hj, rfl⟩ := List.getElem_of_mem hs
      exact hN.out j hj (by omega) (by simpa using h2))
    replace hx := (hv0.block (rowD HX.out).2.2).trans HX.out
    obtain ⟨x0, x1, hxs⟩ := rowD hx
    have HX2 := Lib.hid hx
    clear HR hN
    go_wp2_with fail
    generalize wr = w1 at hx hv HX2 hxs x0 x1 ⊢
    go_loopw [32, 6, 7] (fun i _ _ wr => ∃ k : Nat, k ≤ m.length ∧ i = .int .i64 k ∧ Calm w wr ∧ Calm w1 wr ∧ Hid (r = wrsE l.length (m.drop k))) (fun i _ _ _ => m.length - (intOf i).toNat)
    case atStart => exact ⟨0, Nat.zero_le _, rfl, hv, Calm.refl _, HR2⟩
    case round =>
      obtain ⟨k, hk, rfl, hv, hv1, hN⟩ := hrel
      by_cases hlt : k < m.length
      · obtain ⟨b, q, i, s, rfl, hb, HE, c0, c1⟩ := (HQ.out.calm hv).get hlt
        replace hx := (hv1.block (rowD HX2.out).2.2).trans HX2.out
        obtain ⟨x0, x1, hxs⟩ := rowD hx
        have HN2 := Lib.hid (hN.out.trans (wrsE_drop HE.out))
        have cW := checkW_any P (some ⟨b, q, none⟩) l.length cp m.length cq i s
        by_cases hE : wrE l.length ⟨i, s⟩ = 0
        · have HN3 := Lib.hid (show r = wrsE l.length (m.drop (k + 1)) by rw [HN2.out, if_pos hE])
          rw [hE] at cW
          clear hE HN2 hN
          go_wp2_with (go_at_call 72; (with_reducible refine (cW _).mono ?_); rintro e w2 ⟨rfl, hb2⟩)
          go_roundw
          case rel => exact ⟨k + 1, by omega, by go_num, (hv.alloc _).call hb2, (hv1.alloc _).call hb2, HN3⟩
          case measure => simp [intOf]; omega
        · have HN3 := Lib.hid (show r = wrE l.length ⟨i, s⟩ by rw [HN2.out, if_neg hE])
          have b1 : (wrE l.length ⟨i, s⟩ != 0) = true := by rw [bne_iff_ne]; exact hE
          clear hE HN2 hN
          generalize wrE l.length ⟨i, s⟩ = E at cW HN3 b1
          go_wp2_with (go_at_call 72; (with_reducible refine (cW _).mono ?_); rintro e w2 ⟨rfl, hb2⟩)
          go_ret
          exact ⟨by rw [HN3.out]; rfl, (hv.alloc _).call hb2⟩
      have HR3 := Lib.hid (show r = 0 by rw [hN.out, List.drop_eq_nil_of_le (by omega)]; rfl)
      clear hN
      go_wp2_with fail
      go_ret
      exact ⟨by rw [HR3.out]; rfl, hv⟩
open Go.RowKit
set_option maxHeartbeats 8000000 in
theorem diskRead_any (P Q : Option Addr) (cp cq : Nat) (l : List ByteArray) (m : List Wr) (i : Int) (w : World) (hP : LiesP w P l) (hQ : LiesW w Q m) (hn : l.length ≤ 9223372036854775807) (hm : m.length ≤ 9223372036854775807) :
    Calls Try.prog 54 #[.agg #[.slice P l.length cp, .slice Q m.length cq], .int .i64 i] w fun e w' => e = .returned (.tuple #[.string (rdS l m i), .int .i64 (rdE l m i)]) ∧ Calm w w' := by
  have hx := heap_new w (.cells #[.slice P l.length cp, .slice Q m.length cq] 25)
  have hu := (Calm.refl w).alloc (.cells #[.slice P l.length cp, .slice Q m.length cq] 25)
  have cC := fun u (hu : Calm w u) => diskCheck_any P Q cp cq l m u (hP.calm hu) (hQ.calm hu) hn hm
  have cW := fun u => checkW_any P Q l.length cp m.length cq i { data := #[] } u
  obtain ⟨x0, x1, hxs⟩ := rowD hx
  by_cases hz : dkErr l m = 0
  rotate_left
  · have e1 : rdE l m i = dkErr l m := by unfold rdE; rw [if_neg hz]
    have e2 : rdS l m i = { data := #[] } := by unfold rdS; rw [e1, if_neg hz]
    rw [e1, e2]
    have b1 : (dkErr l m != 0) = true := by rw [bne_iff_ne]; exact hz
    clear e1 e2 hz hP hQ cW
    generalize dkErr l m = E at cC b1 ⊢
    go_enter Try.func54, Try.ntmps54
    go_wp2_with (go_at_call 53; (with_reducible refine (cC _ hu).mono ?_); rintro e w1 ⟨rfl, hb1⟩)
    go_ret2
    exact ⟨rfl, hu.call hb1⟩
  rw [hz] at cC
  by_cases hi : i < 0 ∨ (l.length : Int) ≤ i
  · have e1 : rdE l m i = 1 := by unfold rdE; rw [if_pos hz, if_pos hi]
    have e2 : rdS l m i = { data := #[] } := by unfold rdS; rw [e1, if_neg (by decide)]
    have e3 : wrE l.length ⟨i, { data := #[] }⟩ = 1 := by unfold wrE; rw [if_pos hi]
    rw [e1, e2]
    rw [e3] at cW
    clear e1 e2 e3 hz hP hQ hi
    go_enter Try.func54, Try.ntmps54
    go_wp2_with first
      | (go_at_call 53; (with_reducible refine (cC _ hu).mono ?_); rintro e w1 ⟨rfl, hb1⟩; replace hx := (hb1.block hxs).trans hx; obtain ⟨x0, x1, hxs⟩ := rowD hx; replace hu := hu.call hb1; clear hb1)
      | (go_at_call 72; (with_reducible refine (cW _).mono ?_); rintro e w1 ⟨rfl, hb1⟩; replace hu := hu.call hb1; clear hb1)
    go_ret2
    exact ⟨rfl, hu⟩
  have e3 : wrE l.length ⟨i, { data := #[] }⟩ = 0 := wrE_zero.2 ⟨by simp only; omega, by simp only; omega, Nat.zero_le _⟩
  have e1 : rdE l m i = 0 := by unfold rdE; rw [if_pos hz, if_neg hi]
  have e2 : rdS l m i = rdL i m (l.getD i.toNat { data := #[] }) := by unfold rdS; rw [e1, if_pos rfl]
  rw [e1, e2]
  rw [e3] at cW
  obtain ⟨k0, rfl⟩ : ∃ k : Nat, i = (k : Int) := ⟨i.toNat, by omega⟩
  have hk0 : k0 < l.length := by omega
  rw [Int.toNat_natCast]
  have HX := Lib.hid hx
  have HQ := Lib.hid hQ
  obtain ⟨b0, q0, s0, rfl, hb0, HE0, z0⟩ := hP.get hk0
  have hg : l.getD k0 { data := #[] } = s0 := by rw [List.getD_eq_getElem?_getD, HE0.out]; rfl
  rw [hg]
  have hP0 := Lib.hid hP
  have hm1 : m.length ≤ 400 := (dkErr_zero.1 hz).2.1
  clear e1 e2 e3 hz hi hg z0 hb0
  go_enter Try.func54, Try.ntmps54
  go_upto_region 7 with first
    | (go_at_call 53; (with_reducible refine (cC _ hu).mono ?_); rintro e w1 ⟨rfl, hb1⟩; replace hx := (hb1.block hxs).trans hx; obtain ⟨x0, x1, hxs⟩ := rowD hx; replace hu := hu.call hb1; clear hb1)
    | (go_at_call 72; (with_reducible refine (cW _).mono ?_); rintro e w2 ⟨rfl, hb1⟩; replace hx := (hb1.block hxs).trans hx; obtain ⟨x0, x1, hxs⟩ := rowD hx; replace hu := hu.call hb1; clear hb1)
  obtain ⟨b1, q1, s1, hA1, hb1, HE1, z0⟩ := (hP0.out.calm hu).get hk0
  obtain ⟨rfl, rfl⟩ : b0 = b1 ∧ q0 = q1 := by simpa using hA1
  obtain rfl : s0 = s1 := by have := HE0.out; rw [HE1.out] at this; exact (Option.some.inj this).symm
  have hz0 : (k0 : Int) < (l.length : Int) := by omega
  go_wp2_with fail
  clear x0 x1 hxs z0 hx hz0 hP hQ
  generalize w2 = w3 at hu hb1 ⊢
  go_loopw [31, 8, 10] (fun i t _ wr => ∃ k : Nat, k ≤ m.length ∧ i = .int .i64 k ∧ t = .string (rdL (k0 : Int) (m.take k) s0) ∧ Calm w wr) (fun i _ _ _ => m.length - (intOf i).toNat)
  case atStart => exact ⟨0, Nat.zero_le _, rfl, rfl, hu⟩
  case round =>
    obtain ⟨k, hk, rfl, rfl, hv⟩ := hrel
    by_cases hlt : k < m.length
    · obtain ⟨b, q, i, s, rfl, hb, HE, c0, c1⟩ := (HQ.out.calm hv).get hlt
      have HT := Lib.hid (rdL_take (i := (k0 : Int)) (s := s0) HE.out)
      by_cases hik : i = (k0 : Int)
      · have HT2 := Lib.hid (show rdL (k0 : Int) (m.take (k + 1)) s0 = s by rw [HT.out, if_pos hik])
        clear HT
        subst hik
        generalize rdL (k0 : Int) (m.take k) s0 = T
        go_wp2_with fail
        go_roundw
        case rel => exact ⟨k + 1, by omega, by go_num, by rw [HT2.out], hv.alloc _⟩
        case measure => simp [intOf]; omega
      · have HT2 := Lib.hid (show rdL (k0 : Int) (m.take (k + 1)) s0 = rdL (k0 : Int) (m.take k) s0 by rw [HT.out, if_neg hik])
        have e9 : decide (i = (k0 : Int)) = false := decide_eq_false hik
        generalize rdL (k0 : Int) (m.take k) s0 = T at HT2 ⊢
        clear HT
        go_wp2_with fail
        go_roundw
        case rel => exact ⟨k + 1, by omega, by go_num, by rw [HT2.out], hv.alloc _⟩
        case measure => simp [intOf]; omega
    have HT := Lib.hid (show rdL (k0 : Int) (m.take k) s0 = rdL (k0 : Int) m s0 by rw [List.take_of_length_le (by omega)])
    generalize rdL (k0 : Int) (m.take k) s0 = T at HT ⊢
    go_wp2_with fail
    go_ret2
    exact ⟨by rw [← HT.out]; rfl, hv⟩
open Go.RowKit
def PutEnd (l : List ByteArray) (m : List Wr) (x : Wr) (w : World) (e : Ending) (w' : World) : Prop :=
 (ptE l m x ≠ 0 ∧ e = .returned (.tuple #[.agg #[.slice none 0 0, .slice none 0 0], .int .i64 (ptE l m x)]) ∧ Calm w w') ∨
 (ptE l m x = 0 ∧ ∃ v u, e = .returned (.tuple #[.agg #[v, u], .int .i64 0]) ∧ OwnP w.heap.size w' v l ∧ OwnW w.heap.size w' u (m ++ [x]) ∧ Calm w w')
open Go.RowKit
/-- A store into a block below the row's base leaves the row alone. -/
theorem rowsG_set {α : Type} {cv : α → List Value} {N B g : Nat} {t : TypeId} {w : World} {v : Value} {l : List α} (h : OwnG t cv N B w v l) (hg : g < B) (j : Nat) (u : Value) : OwnG t cv N B (w.setCell ⟨g, j, none⟩ u) v l :=
 h.same fun k hk => by
  have := (h.lt k hk).1
  exact heap_setCell_other w ⟨g, j, none⟩ k u (by show k ≠ g; omega)
structure PuS (w w3 : World) (l : List ByteArray) (m : List Wr) (i : Int) (s : ByteArray) (f : Nat → Bool) (Y : Nat → Value) (u : World) : Prop where
 cw : Calm w u
 c3 : f 10 = false → Calm w3 u
 hi : w3.heap.size ≤ u.heap.size
 ord : (f 5 = true → f 2 = true) ∧ (f 8 = true → f 5 = true) ∧ (f 9 = true → f 8 = true) ∧ (f 10 = true → f 9 = true)
 o8 : f 8 = true → f 7 = true
 ap : f 2 = true → f 5 = true → f 8 = false → ∀ k, (Y 2).ownBlock = some k → (Y 5).ownBlock ≠ some k
 s2 : f 2 = true → OwnP w3.heap.size u (Y 2) l
 s5 : f 5 = true → f 8 = false → OwnW w3.heap.size u (Y 5) m
 s7 : f 7 = true → f 8 = false → (∃ g, (Y 7) = Value.slice (some ⟨g, 0, none⟩) 1 1 ∧ u.heap[g]? = some (.cells #[.int .i64 i, .string s] 45 (0, 0)))
 s8 : f 8 = true → OwnW w3.heap.size u (Y 8) (m ++ [⟨i, s⟩])
 s9 : f 9 = true → (Y 9) = Value.agg #[Y 2, Y 8]
 s10 : f 10 = true → u.heap[w.heap.size + 1]? = some (.cells #[Y 2, Y 8] 25 (0, 0))
theorem PuS.stay {w w3 : World} {l : List ByteArray} {m : List Wr} {i : Int} {s : ByteArray} {f : Nat → Bool} {Y : Nat → Value} {u u' : World} (h : PuS w w3 l m i s f Y u) (hb : Calm u u') : PuS w w3 l m i s f Y u' where
 cw := h.cw.call hb
 c3 a := (h.c3 a).call hb
 hi := Nat.le_trans h.hi hb.size
 ord := h.ord
 o8 := h.o8
 ap := h.ap
 s2 a := (h.s2 a).calm hb
 s5 a b := (h.s5 a b).calm hb
 s7 a b := by
  obtain ⟨g, e, hg⟩ := h.s7 a b
  exact ⟨g, e, (hb.block (rowD hg).2.2).trans hg⟩
 s8 a := (h.s8 a).calm hb
 s9 := h.s9
 s10 a := (hb.block (rowD (h.s10 a)).2.2).trans (h.s10 a)
theorem PuS.do2 {w w3 : World} {l : List ByteArray} {m : List Wr} {i : Int} {s : ByteArray} {f : Nat → Bool} {Y : Nat → Value} {u u' : World} (h : PuS w w3 l m i s f Y u) (y : Value) (hb : Calm u u') (h5 : f 5 = false) (h8 : f 8 = false) (h9 : f 9 = false) (h10 : f 10 = false) (hn : OwnP w3.heap.size u' y l) : PuS w w3 l m i s (updB f 2) (updV Y 2 y) u' where
 cw := h.cw.call hb
 c3 _ := (h.c3 h10).call hb
 hi := Nat.le_trans h.hi hb.size
 ord := by simp [updB, h5, h8, h9, h10]
 o8 a := by simp [updB, h8] at a
 ap _ a := by simp [updB, h5] at a
 s2 _ := by simpa [updV] using hn
 s5 a := by simp [updB, h5] at a
 s7 a b := by
  have := (h.stay hb).s7 (by simpa [updB] using a) h8
  simpa [updV] using this
 s8 a := by simp [updB, h8] at a
 s9 a := by simp [updB, h9] at a
 s10 a := by simp [updB, h10] at a
theorem PuS.do5 {w w3 : World} {l : List ByteArray} {m : List Wr} {i : Int} {s : ByteArray} {f : Nat → Bool} {Y : Nat → Value} {u u' : World} (h : PuS w w3 l m i s f Y u) (y : Value) (hb : Calm u u') (h2 : f 2 = true) (h8 : f 8 = false) (h9 : f 9 = false) (h10 : f 10 = false) (hn : OwnW u.heap.size u' y m) : PuS w w3 l m i s (updB f 5) (updV Y 5 y) u' where
 cw := h.cw.call hb
 c3 _ := (h.c3 h10).call hb
 hi := Nat.le_trans h.hi hb.size
 ord := by simp [updB, h2, h8, h9, h10]
 o8 a := by simp [updB, h8] at a
 ap _ _ _ k e := by
  have h1 := ((h.s2 h2).lt k (by simpa [updV] using e)).2
  intro e2
  have h3 := (OwnG.lt hn k (by simpa [updV] using e2)).1
  omega
 s2 _ := by simpa [updV] using (h.stay hb).s2 h2
 s5 _ _ := by simpa [updV] using (show OwnW w3.heap.size u' y m from OwnG.weaken hn h.hi)
 s7 a b := by
  have := (h.stay hb).s7 (by simpa [updB] using a) h8
  simpa [updV] using this
 s8 a := by simp [updB, h8] at a
 s9 a := by simp [updB, h9] at a
 s10 a := by simp [updB, h10] at a
theorem PuS.do7 {w w3 : World} {l : List ByteArray} {m : List Wr} {i : Int} {s : ByteArray} {f : Nat → Bool} {Y : Nat → Value} {u : World} (h : PuS w w3 l m i s f Y u) (h8 : f 8 = false) (h9 : f 9 = false) (h10 : f 10 = false) : PuS w w3 l m i s (updB f 7) (updV Y 7 (.slice (some ⟨u.heap.size, 0, none⟩) 1 1)) (u.alloc (.cells #[.int .i64 i, .string s] 45)) where
 cw := h.cw.alloc _
 c3 _ := (h.c3 h10).alloc _
 hi := by have := h.hi; simp; omega
 ord := by simpa [updB] using h.ord
 o8 _ := by simp [updB]
 ap a b c := by simpa [updV, updB] using h.ap (by simpa [updB] using a) (by simpa [updB] using b) h8
 s2 a := by simpa [updV] using (h.s2 (by simpa [updB] using a)).calm ((Calm.refl _).alloc _)
 s5 a _ := by simpa [updV] using (h.s5 (by simpa [updB] using a) h8).calm ((Calm.refl _).alloc _)
 s7 _ _ := ⟨u.heap.size, by simp [updV], heap_new _ _⟩
 s8 a := by simp [updB, h8] at a
 s9 a := by simp [updB, h9] at a
 s10 a := by simp [updB, h10] at a
theorem PuS.do8 {w w3 : World} {l : List ByteArray} {m : List Wr} {i : Int} {s : ByteArray} {f : Nat → Bool} {Y : Nat → Value} {u u' : World} (h : PuS w w3 l m i s f Y u) (y : Value) (hcw : ∀ w0 : World, w0.heap.size ≤ w3.heap.size → Calm w0 u → Calm w0 u') (hg : u.grownBy u' (Y 5).ownBlock) (hw : w.heap.size ≤ w3.heap.size) (h5 : f 5 = true) (h7 : f 7 = true) (h8 : f 8 = false) (h9 : f 9 = false) (h10 : f 10 = false) (hn : OwnW w3.heap.size u' y (m ++ [⟨i, s⟩])) : PuS w w3 l m i s (updB f 8) (updV Y 8 y) u' where
 cw := hcw _ hw h.cw
 c3 _ := hcw _ (Nat.le_refl _) (h.c3 h10)
 hi := Nat.le_trans h.hi hg.size
 ord := by have := h.ord.1; simp [updB, h5, h9, h10, this]
 o8 _ := by simpa [updB] using h7
 ap _ _ a := by simp [updB] at a
 s2 _ := by
  have h2 := h.ord.1 h5
  have h3 := h.s2 h2
  have : OwnP w3.heap.size u' (Y 2) l := OwnG.same h3 fun k hk => hg.block k (h3.lt k hk).2 fun e => h.ap h2 h5 h8 k hk e.symm
  simpa [updV] using this
 s5 _ a := by simp [updB] at a
 s7 _ a := by simp [updB] at a
 s8 _ := by simpa [updV] using hn
 s9 a := by simp [updB, h9] at a
 s10 a := by simp [updB, h10] at a
theorem PuS.do9 {w w3 : World} {l : List ByteArray} {m : List Wr} {i : Int} {s : ByteArray} {f : Nat → Bool} {Y : Nat → Value} {u : World} (h : PuS w w3 l m i s f Y u) (h8 : f 8 = true) (h10 : f 10 = false) : PuS w w3 l m i s (updB f 9) (updV Y 9 (.agg #[Y 2, Y 8])) u where
 cw := h.cw
 c3 _ := h.c3 h10
 hi := h.hi
 ord := by have h1 := h.ord.1; have h2 := h.ord.2.1; simp [updB, h8, h10] at h1 h2 ⊢; exact ⟨h1, h2⟩
 o8 a := by simpa [updB] using h.o8 (by simpa [updB] using a)
 ap a b c := by simpa [updV, updB] using h.ap (by simpa [updB] using a) (by simpa [updB] using b) (by simpa [updB] using c)
 s2 a := by simpa [updV] using h.s2 (by simpa [updB] using a)
 s5 a b := by simpa [updV] using h.s5 (by simpa [updB] using a) (by simpa [updB] using b)
 s7 a b := by simpa [updV] using h.s7 (by simpa [updB] using a) (by simpa [updB] using b)
 s8 a := by simpa [updV] using h.s8 (by simpa [updB] using a)
 s9 _ := by simp [updV]
 s10 a := by simp [updB, h10] at a
theorem PuS.do10 {w w3 : World} {l : List ByteArray} {m : List Wr} {i : Int} {s : ByteArray} {f : Nat → Bool} {Y : Nat → Value} {u : World} (h : PuS w w3 l m i s f Y u) (y : Value) (hR : w.heap.size + 1 < w3.heap.size) (hr : w3.heap[w.heap.size + 1]? = some (.cells #[.slice none 0 0, .slice none 0 0] 25 (0, 0))) (h9 : f 9 = true) (h8 : f 8 = true) (h2 : f 2 = true) (h10 : f 10 = false) : PuS w w3 l m i s (updB f 10) (updV Y 10 y) ((u.setCell ⟨w.heap.size + 1, 0, none⟩ (Y 2)).setCell ⟨w.heap.size + 1, 1, none⟩ (Y 8)) where
 cw := h.cw.twoD (by omega) _ _
 c3 a := by simp [updB] at a
 hi := by have := h.hi; simpa using this
 ord := by have := h.ord; simp [updB, h9, h8, h2] at this ⊢; exact this
 o8 a := by simpa [updB] using h.o8 (by simpa [updB] using a)
 ap _ _ a := by simp [updB, h8] at a
 s2 _ := by
  have : OwnP w3.heap.size ((u.setCell ⟨w.heap.size + 1, 0, none⟩ (Y 2)).setCell ⟨w.heap.size + 1, 1, none⟩ (Y 8)) (Y 2) l := rowsG_set (rowsG_set (h.s2 h2) hR 0 (Y 2)) hR 1 (Y 8)
  simpa [updV] using this
 s5 _ a := by simp [updB, h8] at a
 s7 _ a := by simp [updB, h8] at a
 s8 _ := by
  have : OwnW w3.heap.size ((u.setCell ⟨w.heap.size + 1, 0, none⟩ (Y 2)).setCell ⟨w.heap.size + 1, 1, none⟩ (Y 8)) (Y 8) (m ++ [⟨i, s⟩]) := rowsG_set (rowsG_set (h.s8 h8) hR 0 (Y 2)) hR 1 (Y 8)
  simpa [updV] using this
 s9 _ := by simpa [updV] using h.s9 h9
 s10 _ := by
  have := setD2 (((h.c3 h10).block hR).trans hr) (Y 2) (Y 8)
  simpa [updV] using this
def PuSt (w w3 : World) (l : List ByteArray) (m : List Wr) (i : Int) (s : ByteArray) : Stages := fun bs Y u => ∃ f, bs = [2, 5, 7, 8, 9, 10].map f ∧ PuS w w3 l m i s f Y u
theorem PuSt.stay {w w3 : World} {l : List ByteArray} {m : List Wr} {i : Int} {s : ByteArray} : ∀ bs Y u u', PuSt w w3 l m i s bs Y u → Calm u u' → PuSt w w3 l m i s bs Y u' := fun _ _ _ _ ⟨f, h1, h2⟩ hb => ⟨f, h1, h2.stay hb⟩
theorem PuSt.start {w w3 : World} {l : List ByteArray} {m : List Wr} {i : Int} {s : ByteArray} {u : World} (Y : Nat → Value) (h : Calm w3 u) (hw : Calm w u) : PuSt w w3 l m i s ([2, 5, 7, 8, 9, 10].map fun _ => false) Y u := ⟨fun _ => false, rfl, hw, fun _ => h, h.size, by simp, nofun, nofun, nofun, nofun, nofun, nofun, nofun, nofun⟩
theorem PuSt.get {w w3 : World} {l : List ByteArray} {m : List Wr} {i : Int} {s : ByteArray} {u : World} {L : Nat → Bool} {Y : Nat → Value} (h : PuSt w w3 l m i s ([2, 5, 7, 8, 9, 10].map L) Y u) : PuS w w3 l m i s L Y u := by
 obtain ⟨f, hf, h⟩ := h
 simp only [List.map_cons, List.map_nil, List.cons.injEq, and_true] at hf
 obtain ⟨e2, e5, e7, e8, e9, e10⟩ := hf
 exact ⟨h.cw, by rw [e10]; exact h.c3, h.hi, by rw [e2, e5, e8, e9, e10]; exact h.ord, by rw [e7, e8]; exact h.o8, by rw [e2, e5, e8]; exact h.ap, by rw [e2]; exact h.s2, by rw [e5, e8]; exact h.s5, by rw [e7, e8]; exact h.s7, by rw [e8]; exact h.s8, by rw [e9]; exact h.s9, by rw [e10]; exact h.s10⟩
open Go.RowKit
set_option maxHeartbeats 8000000 in
theorem diskPut_ok (P Q : Option Addr) (cp cq : Nat) (l : List ByteArray) (m : List Wr) (i : Int) (s : ByteArray) (w : World) (hP : LiesP w P l) (hQ : LiesW w Q m) (hn : l.length ≤ 9223372036854775807) (hm : m.length ≤ 9223372036854775807) (hE : ptE l m ⟨i, s⟩ = 0) :
    Calls Try.prog 29 #[.agg #[.slice P l.length cp, .slice Q m.length cq], .int .i64 i, .string s] w (PutEnd l m ⟨i, s⟩ w) := by
  have hx := heap_past (.cells #[.slice none 0 0, .slice none 0 0] 25) (heap_new w (.cells #[.slice P l.length cp, .slice Q m.length cq] 25))
  have hr := heap_new (w.alloc (.cells #[.slice P l.length cp, .slice Q m.length cq] 25)) (.cells #[.slice none 0 0, .slice none 0 0] 25)
  rw [World.size_alloc] at hr
  have hu := ((Calm.refl w).alloc (.cells #[.slice P l.length cp, .slice Q m.length cq] 25)).alloc (.cells #[.slice none 0 0, .slice none 0 0] 25)
  have cC := fun u (hu : Calm w u) => diskCheck_any P Q cp cq l m u (hP.calm hu) (hQ.calm hu) hn hm
  have cW := fun u => checkW_any P Q l.length cp m.length cq i s u
  have hz : dkErr l m = 0 := by
    by_cases hz : dkErr l m = 0
    · exact hz
    · unfold ptE at hE; rw [if_neg hz] at hE; exact absurd hE hz
  have hw : wrE l.length ⟨i, s⟩ = 0 := by
    by_cases hw : wrE l.length ⟨i, s⟩ = 0
    · exact hw
    · unfold ptE at hE; rw [if_pos hz, if_neg hw] at hE; exact absurd hE hw
  have h4 : ¬ m.length = 400 := fun h4 => by
    unfold ptE at hE; rw [if_pos hz, if_pos hw, if_pos h4] at hE; cases hE
  have h5 : m.length ≤ 400 := (dkErr_zero.1 hz).2.1
  have h6 : l.length ≤ 201 := (dkErr_zero.1 hz).1
  have HE : Hid (∀ w' v u, OwnP w.heap.size w' v l → OwnW w.heap.size w' u (m ++ [⟨i, s⟩]) → Calm w w' → PutEnd l m ⟨i, s⟩ w (.returned (.tuple #[.agg #[v, u], .int .i64 0])) w') := show ∀ _, _ from fun w' v u h1 h2 hw => .inr ⟨hE, v, u, rfl, h1, h2, hw⟩
  have cP := fun u (hu : Calm w u) => cloneP_any P cp l u (by omega) (hP.calm hu)
  have cQ := fun u (hu : Calm w u) => cloneW_any Q cq m u (by omega) (hQ.calm hu)
  rw [hz] at cC
  rw [hw] at cW
  obtain ⟨x0, x1, hxs⟩ := rowD hx
  obtain ⟨r0, r1, hrs⟩ := rowD hr
  obtain ⟨f0, f1⟩ := freeD2 hr
  generalize PutEnd l m ⟨i, s⟩ w = PE at HE ⊢
  have b9 : ¬ (m.length : Int) = 400 := by omega
  clear hE hz hw h4 hP hQ hn hm
  go_enter Try.func29, Try.ntmps29
  generalize hQ0 : bodyPost Try.prog Try.f29 PE = Q0
  have HRET : Hid (∀ a w', bodyPost Try.prog Try.f29 PE .ret a w' → Q0 .ret a w') := show ∀ _ _, _ from fun a w' h => by rw [← hQ0]; exact h
  clear hQ0
  go_upto_region 5 with first
    | (go_at_call 53; (with_reducible refine (cC _ hu).mono ?_); rintro e w1 ⟨rfl, hb1⟩; replace hx := (hb1.block hxs).trans hx; replace hr := (hb1.block hrs).trans hr; replace hu := hu.call hb1; clear hb1; obtain ⟨x0, x1, hxs⟩ := rowD hx; obtain ⟨r0, r1, hrs⟩ := rowD hr; obtain ⟨f0, f1⟩ := freeD2 hr)
  have hy := heap_new w1 (.cells #[.int .i64 i, .string s] 45)
  replace hx := heap_past (.cells #[.int .i64 i, .string s] 45) hx
  replace hr := heap_past (.cells #[.int .i64 i, .string s] 45) hr
  replace hu := hu.alloc (.cells #[.int .i64 i, .string s] 45)
  generalize hgy : w1.heap.size = gy at hy ⊢
  have hgy2 : w.heap.size ≤ gy := by have := hu.size; have := hrs; omega
  generalize w1.alloc (.cells #[.int .i64 i, .string s] 45) = w2 at hx hr hu hy ⊢
  clear x0 x1 hxs r0 r1 hrs f0 f1 hgy
  obtain ⟨x0, x1, hxs⟩ := rowD hx
  obtain ⟨r0, r1, hrs⟩ := rowD hr
  obtain ⟨f0, f1⟩ := freeD2 hr
  obtain ⟨y0, y1, hys⟩ := rowD hy
  go_upto_region 10 with first
    | (go_at_call 72; (with_reducible refine (cW _).mono ?_); rintro e w3 ⟨rfl, hb1⟩; replace hx := (hb1.block hxs).trans hx; replace hr := (hb1.block hrs).trans hr; replace hy := (hb1.block hys).trans hy; replace hu := hu.call hb1; clear hb1; obtain ⟨x0, x1, hxs⟩ := rowD hx; obtain ⟨r0, r1, hrs⟩ := rowD hr; obtain ⟨f0, f1⟩ := freeD2 hr; obtain ⟨y0, y1, hys⟩ := rowD hy)
  have hR : w.heap.size + 1 < w3.heap.size := hrs
  have hxs2 := Lib.hid hxs
  have HX := Lib.hid hx
  have HR := Lib.hid hr
  have HY := Lib.hid hy
  have HU := Lib.hid hu
  clear hx hr hy hu x0 x1 hxs r0 r1 hrs f0 f1 y0 y1 hys cC cW
  refine wp_region_stages [.val (.pointer (some ⟨w.heap.size, 0, none⟩)), .val (.slice P l.length cp) [10], .late, .val (.pointer (some ⟨w.heap.size, 1, none⟩)), .val (.slice Q m.length cq) [10], .late [2], .val (.agg #[.int .i64 i, .string s]) [10], .late, .late [5, 7], .late [2, 8], .late [9, 8, 2], .val (.int .i64 0)] [2, 5, 7, 8, 9, 10]
    (PuSt w w3 l m i s) (by kernel_rfl) (by kernel_rfl) (by kernel_rfl) PuSt.stay (fun Y => PuSt.start Y (Calm.refl _).drew HU.out.drew) (fun Y => ?_)
  refine planS_val (by kernel_rfl) (fun L9 u hb hS => ?_) ?_
  · clear hS hb
    go_simp
  simp only [Act.put, List.setIfInBounds_toArray, List.set_cons_zero, List.set_cons_succ, Nat.reduceAdd]
  refine planS_val (by kernel_rfl) (fun L9 u hb hS => ?_) ?_
  · have hc := (PuSt.get hS).c3 (hb 10 (by simp))
    obtain ⟨x0, x1, hxs⟩ := rowD ((hc.block (rowD HX.out).2.2).trans HX.out)
    clear hS hb hc
    go_simp
  simp only [Act.put, List.setIfInBounds_toArray, List.set_cons_zero, List.set_cons_succ, Nat.reduceAdd]
  refine planS_late (fun L9 u hi hb hS => ?_) ?_
  · have h := PuSt.get hS
    have h5 : L9 5 = false := by cases e : L9 5 with | false => rfl | true => rw [h.ord.1 e] at hi; cases hi
    have h8 : L9 8 = false := by cases e : L9 8 with | false => rfl | true => rw [h.ord.2.1 e] at h5; cases h5
    have h9 : L9 9 = false := by cases e : L9 9 with | false => rfl | true => rw [h.ord.2.2.1 e] at h8; cases h8
    have h10 : L9 10 = false := by cases e : L9 10 with | false => rfl | true => rw [h.ord.2.2.2 e] at h9; cases h9
    have H := Lib.hid (fun y u' (hb : Calm u u') (hn : OwnP u.heap.size u' y l) => (⟨_, rfl, h.do2 y hb h5 h8 h9 h10 (OwnG.weaken hn h.hi)⟩ : PuSt w w3 l m i s ([2, 5, 7, 8, 9, 10].map (updB L9 2)) (updV Y 2 y) u'))
    have c1 := cP u h.cw
    clear h hS hb hi h5 h8 h9 h10 cP cQ
    go_wp2_with (go_at_call 26; (with_reducible refine c1.mono ?_); rintro e w4 ⟨v4, rfl, ho4, hb4⟩; have HO4 := Lib.hid ho4; have HB4 := Lib.hid hb4; clear ho4 hb4 c1)
    exact H.out v4 w4 HB4.out HO4.out
  simp only [Act.put, List.setIfInBounds_toArray, List.set_cons_zero, List.set_cons_succ, Nat.reduceAdd]
  refine planS_val (by kernel_rfl) (fun L9 u hb hS => ?_) ?_
  · clear hS hb
    go_simp
  simp only [Act.put, List.setIfInBounds_toArray, List.set_cons_zero, List.set_cons_succ, Nat.reduceAdd]
  refine planS_val (by kernel_rfl) (fun L9 u hb hS => ?_) ?_
  · have hc := (PuSt.get hS).c3 (hb 10 (by simp))
    obtain ⟨x0, x1, hxs⟩ := rowD ((hc.block (rowD HX.out).2.2).trans HX.out)
    clear hS hb hc
    go_simp
  simp only [Act.put, List.setIfInBounds_toArray, List.set_cons_zero, List.set_cons_succ, Nat.reduceAdd]
  refine planS_late (fun L9 u hi hb hS => ?_) ?_
  · have h := PuSt.get hS
    have h2 : L9 2 = true := hb 2 (by simp)
    have h8 : L9 8 = false := by cases e : L9 8 with | false => rfl | true => rw [h.ord.2.1 e] at hi; cases hi
    have h9 : L9 9 = false := by cases e : L9 9 with | false => rfl | true => rw [h.ord.2.2.1 e] at h8; cases h8
    have h10 : L9 10 = false := by cases e : L9 10 with | false => rfl | true => rw [h.ord.2.2.2 e] at h9; cases h9
    have H := Lib.hid (fun y u' (hb : Calm u u') (hn : OwnW u.heap.size u' y m) => (⟨_, rfl, h.do5 y hb h2 h8 h9 h10 hn⟩ : PuSt w w3 l m i s ([2, 5, 7, 8, 9, 10].map (updB L9 5)) (updV Y 5 y) u'))
    have c1 := cQ u h.cw
    clear h hS hb hi h2 h8 h9 h10 cP cQ
    go_wp2_with (go_at_call 34; (with_reducible refine c1.mono ?_); rintro e w4 ⟨v4, rfl, ho4, hb4⟩; have HO4 := Lib.hid ho4; have HB4 := Lib.hid hb4; clear ho4 hb4 c1)
    exact H.out v4 w4 HB4.out HO4.out
  simp only [Act.put, List.setIfInBounds_toArray, List.set_cons_zero, List.set_cons_succ, Nat.reduceAdd]
  refine planS_val (by kernel_rfl) (fun L9 u hb hS => ?_) ?_
  · have hc := (PuSt.get hS).c3 (hb 10 (by simp))
    obtain ⟨y0, y1, hys⟩ := rowD ((hc.block (rowD HY.out).2.2).trans HY.out)
    clear hS hb hc
    go_simp
  simp only [Act.put, List.setIfInBounds_toArray, List.set_cons_zero, List.set_cons_succ, Nat.reduceAdd]
  refine planS_late (fun L9 u hi hb hS => ?_) ?_
  · have h := PuSt.get hS
    have h8 : L9 8 = false := by cases e : L9 8 with | false => rfl | true => exact absurd (h.o8 e) (by rw [hi]; decide)
    have h9 : L9 9 = false := by cases e : L9 9 with | false => rfl | true => rw [h.ord.2.2.1 e] at h8; cases h8
    have h10 : L9 10 = false := by cases e : L9 10 with | false => rfl | true => rw [h.ord.2.2.2 e] at h9; cases h9
    have H := Lib.hid (⟨_, rfl, h.do7 h8 h9 h10⟩ : PuSt w w3 l m i s ([2, 5, 7, 8, 9, 10].map (updB L9 7)) (updV Y 7 (.slice (some ⟨u.heap.size, 0, none⟩) 1 1)) (u.alloc (.cells #[.int .i64 i, .string s] 45)))
    clear h hS hb hi h8 h9 h10 cP cQ
    go_wp2_with fail
    exact H.out
  simp only [Act.put, List.setIfInBounds_toArray, List.set_cons_zero, List.set_cons_succ, Nat.reduceAdd]
  refine planS_late (fun L9 u hi hb hS => ?_) ?_
  · have h := PuSt.get hS
    have h5 : L9 5 = true := hb 5 (by simp)
    have h7 : L9 7 = true := hb 7 (by simp)
    have h9 : L9 9 = false := by cases e : L9 9 with | false => rfl | true => rw [h.ord.2.2.1 e] at hi; cases hi
    have h10 : L9 10 = false := by cases e : L9 10 with | false => rfl | true => rw [h.ord.2.2.2 e] at h9; cases h9
    have H := Lib.hid (fun y u' (hcw : ∀ w0 : World, w0.heap.size ≤ w3.heap.size → Calm w0 u → Calm w0 u') (hg : u.grownBy u' (Y 5).ownBlock) (hn : OwnW w3.heap.size u' y (m ++ [⟨i, s⟩])) => (⟨_, rfl, h.do8 y hcw hg HU.out.size h5 h7 hi h9 h10 hn⟩ : PuSt w w3 l m i s ([2, 5, 7, 8, 9, 10].map (updB L9 8)) (updV Y 8 y) u'))
    have ho := h.s5 h5 hi
    obtain ⟨g, eY, hgl⟩ := h.s7 h7 hi
    have HH := h.hi
    have HC := Lib.hid (h.c3 h10)
    rw [eY]
    clear hS hb hi h5 h7 h9 h10 cP cQ h eY
    go_wp2_with (at_builtin; refine wpList_append_w rfl _ _ rfl w3.heap.size _ m rfl ho g _ i s _ rfl hgl (by omega) HH ?_; intro v6 w6 ho6 hc6 hg6; have HO6 := Lib.hid ho6; have HC6 := Lib.hid hc6; have HG6 := Lib.hid hg6; clear ho6 hc6 hg6)
    exact H.out v6 w6 HC6.out HG6.out HO6.out
  simp only [Act.put, List.setIfInBounds_toArray, List.set_cons_zero, List.set_cons_succ, Nat.reduceAdd]
  refine planS_late (fun L9 u hi hb hS => ?_) ?_
  · have h := PuSt.get hS
    have h8 : L9 8 = true := hb 8 (by simp)
    have h10 : L9 10 = false := by cases e : L9 10 with | false => rfl | true => rw [h.ord.2.2.2 e] at hi; cases hi
    have h5 := h.ord.2.1 h8
    obtain ⟨A2, c2, e2, -, -⟩ := (h.s2 (h.ord.1 h5)).slice
    obtain ⟨A8, c8, e8, -, -⟩ := (h.s8 h8).slice
    rw [List.length_append, List.length_singleton] at e8
    have H0 := (⟨_, rfl, h.do9 h8 h10⟩ : PuSt w w3 l m i s ([2, 5, 7, 8, 9, 10].map (updB L9 9)) (updV Y 9 (.agg #[Y 2, Y 8])) u)
    rw [e2, e8] at H0 ⊢
    have H := Lib.hid H0
    clear h hS hb hi h8 h10 cP cQ H0 e2 e8 h5
    go_wp2_with fail
    exact H.out
  simp only [Act.put, List.setIfInBounds_toArray, List.set_cons_zero, List.set_cons_succ, Nat.reduceAdd]
  refine planS_late (fun L9 u hi hb hS => ?_) ?_
  · have h := PuSt.get hS
    have h9 : L9 9 = true := hb 9 (by simp)
    have h8 : L9 8 = true := hb 8 (by simp)
    have h2 : L9 2 = true := hb 2 (by simp)
    have eY := h.s9 h9
    obtain ⟨A2, c2, e2, -, -⟩ := (h.s2 h2).slice
    obtain ⟨A8, c8, e8, -, -⟩ := (h.s8 h8).slice
    rw [List.length_append, List.length_singleton] at e8
    have H0 := (fun y => (⟨_, rfl, h.do10 y hR HR.out h9 h8 h2 hi⟩ : PuSt w w3 l m i s ([2, 5, 7, 8, 9, 10].map (updB L9 10)) (updV Y 10 y) ((u.setCell ⟨w.heap.size + 1, 0, none⟩ (Y 2)).setCell ⟨w.heap.size + 1, 1, none⟩ (Y 8))))
    have hrr := ((h.c3 hi).block hR).trans HR.out
    obtain ⟨r0, r1, hrs⟩ := rowD hrr
    obtain ⟨f0, f1⟩ := freeD2 hrr
    rw [eY]
    rw [e2, e8] at H0 ⊢
    have H := Lib.hid H0
    clear h hS hb hi h9 h8 h2 cP cQ eY H0 e2 e8
    go_wp2_with fail
    exact ⟨_, H.out (.bool true)⟩
  simp only [Act.put, Nat.reduceAdd]
  refine planS_val (by kernel_rfl) (fun L9 u hb hS => ?_) ?_
  · clear hS hb
    go_simp
  simp only [Act.put, Nat.reduceAdd]
  refine planS_end ?_
  intro w8 hS
  have h := PuSt.get hS
  have h10 := h.s10 rfl
  have hEE := HE.out w8 (Y 2) (Y 8) (OwnG.weaken (h.s2 rfl) (by have := HU.out.size; omega)) (OwnG.weaken (h.s8 rfl) (by have := HU.out.size; omega)) h.cw
  clear h hS
  go_wp2_with fail
  exact HRET.out _ _ (end_dkE (p := 6) (q := 7) rfl rfl _ _ _ _ _ _ _ rfl rfl rfl h10 rfl hEE)
open Go.ChangeShapes Go.WideShapes Go.ChangeAt Go.RowKit
section
variable {H : Type} {enc : TypeId × Value → H} {w : World} {base : Nat} {spare : Nat → Bool} {held : Bool}
def boC (b : Bool) : List Value := [.bool b]
def LiesO (w : World) (A : Option Addr) (l : List Bool) : Prop := LiesG boC 1 w A l
theorem LiesO.calm {w w' : World} {A : Option Addr} {l : List Bool} (h : LiesO w A l) (hb : Calm w w') : LiesO w' A l := LiesG.calm h hb
theorem LiesO.get {w : World} {A : Option Addr} {l : List Bool} (h : LiesO w A l) {k : Nat} (hk : k < l.length) : ∃ (b q : Nat) (s : Bool), A = some ⟨b, q, none⟩ ∧ b < w.heap.size ∧ Hid (l[k]? = some s) ∧ w.cell? ⟨b, q + k, none⟩ = some (.bool s) := by
 obtain ⟨b, q, hA, hlt, h2⟩ := h (by omega)
 have := h2 k _ (List.getElem?_eq_getElem hk) 0 (by omega)
 rw [Nat.mul_one, Nat.add_zero] at this
 exact ⟨b, q, l[k], hA, hlt, List.getElem?_eq_getElem hk, this⟩
theorem cellsBo : Try.prog.cellsOf 4 = 1 := by kernel_rfl
theorem cellsWr : Try.prog.cellsOf 45 = 2 := by kernel_rfl
theorem cellsSlSt : Try.prog.cellsOf 22 = 1 := by kernel_rfl
theorem cellsSlWr : Try.prog.cellsOf 23 = 1 := by kernel_rfl
theorem cellsDisk : Try.prog.cellsOf 25 = 2 := by kernel_rfl
theorem write_cells {fuel : Nat} {cs : List Value} {x : DataW H × List MemPlace} (h : DataW.trod enc Try.prog w base spare held fuel 45 cs = some x) : ∃ y : Wr, cs = wrC y ∧ True := by
 obtain ⟨y0, y1, n, _, hl, h0, h1⟩ := trod_struct2 Try.underlying45 h
 obtain ⟨k, e0, _, w0⟩ := DataW.trod_int Try.underlying3 h0
 obtain ⟨s, e1, _, w1⟩ := DataW.trod_string Try.underlying9 h1
 simp only [cellsInt, cellsStr, cellsWr] at e0 e1 hl
 match cs, hl with
 | [c0, c1], _ =>
  simp at e0 e1
  exact ⟨⟨k, s⟩, by rw [e0, e1]; rfl, trivial⟩
theorem str_cells {fuel : Nat} {cs : List Value} {x : DataW H × List MemPlace} (h : DataW.trod enc Try.prog w base spare held fuel 9 cs = some x) : ∃ y : ByteArray, cs = stC y ∧ True := by
 obtain ⟨s, e1, _, w1⟩ := DataW.trod_string Try.underlying9 h
 exact ⟨s, e1, trivial⟩
variable {r : Reach} {b0 : Nat} {v : Value} {d : DataW H} {ps : List MemPlace}
theorem open_bools (hv : Value.okWide Try.prog w r b0 36 v) (h : DataW.Trod enc Try.prog w base spare held 36 v d ps) :
    ∃ (A : Option Addr) (c : Nat) (l : List Bool), v = .slice A l.length c ∧ l.length ≤ 9223372036854775807 ∧ LiesO w A l := by
  obtain ⟨A0, len, cap, rfl⟩ := okWide_slice Try.underlying36 hv
  obtain ⟨fuel, hf⟩ := h
  obtain ⟨A, c, l, e1, le1, -, -, at1, -⟩ := rows_open (α := Bool) boC (fun _ => True) 1 Try.underlying36 cellsBo (by omega) (fun fuel cs x hx => by
    obtain ⟨p, e, _⟩ := DataW.trod_bool Try.underlying4 hx
    exact ⟨p, e, trivial⟩) hf
  have e2 : Value.slice A0 len cap = .slice A l.length c := by simpa [Value.cells] using e1
  rw [e2]
  exact ⟨A, c, l, rfl, le1, at1⟩
theorem open_disk (hv : Value.okWide Try.prog w r b0 25 v) (h : DataW.Trod enc Try.prog w base spare held 25 v d ps) :
    ∃ (P : Option Addr) (cp : Nat) (l : List ByteArray) (Q : Option Addr) (cq : Nat) (m : List Wr), v = .agg #[.slice P l.length cp, .slice Q m.length cq] ∧ LiesP w P l ∧ LiesW w Q m ∧ l.length ≤ 9223372036854775807 ∧ m.length ≤ 9223372036854775807 ∧ l.length ≤ cp ∧ m.length ≤ cq := by
  obtain ⟨cs, rfl, _⟩ := okWide_struct Try.underlying25 hv
  obtain ⟨fuel, hf⟩ := h
  obtain ⟨y0, y1, n, hd, hl, h0, h1⟩ := trod_struct2 Try.underlying25 hf
  obtain ⟨P, cp, l, e0, le0, lc0, -, at0, -⟩ := rows_open (α := ByteArray) stC (fun _ => True) 1 Try.underlying22 cellsStr (by omega) (fun fuel cs x hx => str_cells hx) h0
  obtain ⟨Q, cq, m, e1, le1, lc1, -, at1, -⟩ := rows_open (α := Wr) wrC (fun _ => True) 2 Try.underlying23 cellsWr (by omega) (fun fuel cs x hx => write_cells hx) h1
  simp only [cellsSlSt, cellsSlWr, cellsDisk, Value.cells] at e0 e1 hl
  have hcs : cs.toList = [.slice P l.length cp, .slice Q m.length cq] := by
    match hm : cs.toList, hl with
    | [a0, a1], _ =>
      rw [hm] at e0 e1
      simp at e0 e1
      rw [e0, e1]
  exact ⟨P, cp, l, Q, cq, m, by rw [show cs = _ from Array.toList_inj.1 hcs], at0, at1, le0, le1, lc0, lc1⟩
end
open Go.RowKit
def PerfEnd (l : List ByteArray) (m : List Wr) (f : Nat → Bool) (w : World) (e : Ending) (w' : World) : Prop :=
 (dkErr l m ≠ 0 ∧ e = .returned (.tuple #[.agg #[.slice none 0 0, .slice none 0 0], .int .i64 (dkErr l m)]) ∧ Calm w w') ∨
 (dkErr l m = 0 ∧ ∃ v, e = .returned (.tuple #[.agg #[v, .slice none 0 0], .int .i64 0]) ∧ OwnP w.heap.size w' v (doneL f 0 m l) ∧ Calm w w')
def selK (K : List Bool) (j : Nat) : Bool := decide (j < K.length) && K.getD j false
def KBx (B : Nat) (A : Option Addr) (n c : Nat) (w : World) : Prop := w.heap[B]? = some (.cells #[.slice A n c] 36 (0, 0))
theorem KBx.calm {B n c : Nat} {A : Option Addr} {w w' : World} (h : KBx B A n c w) (hb : Calm w w') : KBx B A n c w' := (hb.block (Array.getElem?_eq_some_iff.1 h).1).trans h
theorem row1 {w : World} {g t : Nat} {a : Value} {fr : Nat × Nat} (h : w.heap[g]? = some (.cells #[a] t fr)) : w.cell? ⟨g, 0, none⟩ = some a ∧ g < w.heap.size :=
 ⟨cell_of_row _ _ 0 _ _ _ h, (Array.getElem?_eq_some_iff.1 h).1⟩
theorem sync1_any (k : Nat) (w : World) : Calls Try.prog 69 #[.int .i64 k] w fun e w' => e = .returned (.bool true) ∧ Calm w w' := by
 go_enter Try.func69, Try.ntmps69
 go_wp2_with fail
 go_ret
 exact ⟨rfl, Calm.refl _⟩
set_option maxHeartbeats 4000000 in
theorem crash1_any (B : Nat) (A : Option Addr) (c : Nat) (K : List Bool) (k : Nat) (w : World) (hB : KBx B A K.length c w) (hK : LiesO w A K) :
    Calls Try.prog 64 #[.int .i64 k, .pointer (some ⟨B, 0, none⟩)] w fun e w' => e = .returned (.bool (selK K k)) ∧ Calm w w' := by
  obtain ⟨x0, hxs⟩ := row1 hB
  by_cases hk : k < K.length
  · obtain ⟨b, q, s, rfl, hb, HE, c0⟩ := hK.get hk
    have hs : selK K k = s := by unfold selK; rw [decide_eq_true hk, List.getD_eq_getElem?_getD, HE.out]; rfl
    have hz : (k : Int) < (K.length : Int) := by omega
    rw [hs]
    clear hs hK hB
    go_enter Try.func64, Try.ntmps64
    go_wp2_with fail
    go_ret
    exact ⟨rfl, Calm.refl _⟩
  · have hs : selK K k = false := by unfold selK; rw [decide_eq_false hk]; rfl
    have hz : ¬ (k : Int) < (K.length : Int) := by omega
    rw [hs]
    clear hs hK hB
    go_enter Try.func64, Try.ntmps64
    go_wp2_with fail
    go_ret
    exact ⟨rfl, Calm.refl _⟩
set_option maxHeartbeats 8000000 in
theorem perfSync_any (P Q : Option Addr) (cp cq : Nat) (l : List ByteArray) (m : List Wr) (w : World) (hP : LiesP w P l) (hQ : LiesW w Q m) (hn : l.length ≤ 9223372036854775807) (hm : m.length ≤ 9223372036854775807) :
    Calls Try.prog 63 #[.agg #[.slice P l.length cp, .slice Q m.length cq], .func (.func 69) #[] #[]] w (PerfEnd l m (fun _ => true) w) := by
  have hx := heap_past (.cells #[.slice none 0 0, .slice none 0 0] 25) (heap_new w (.cells #[.slice P l.length cp, .slice Q m.length cq] 25))
  have hr := heap_new (w.alloc (.cells #[.slice P l.length cp, .slice Q m.length cq] 25)) (.cells #[.slice none 0 0, .slice none 0 0] 25)
  rw [World.size_alloc] at hr
  have hu := ((Calm.refl w).alloc (.cells #[.slice P l.length cp, .slice Q m.length cq] 25)).alloc (.cells #[.slice none 0 0, .slice none 0 0] 25)
  have cC := fun u (hu : Calm w u) => diskCheck_any P Q cp cq l m u (hP.calm hu) (hQ.calm hu) hn hm
  have cF : ∀ (k : Nat) u, Calm w u → Calls Try.prog 69 #[.int .i64 k] u fun e w' => e = .returned (.bool ((fun _ => true) k)) ∧ Calm u w' := fun k u _ => sync1_any k u
  obtain ⟨x0, x1, hxs⟩ := rowD hx
  obtain ⟨r0, r1, hrs⟩ := rowD hr
  obtain ⟨f0, f1⟩ := freeD2 hr
  by_cases hz : dkErr l m = 0
  rotate_left
  · have HE : Hid (∀ w', Calm w w' → PerfEnd l m (fun _ => true) w (.returned (.tuple #[.agg #[.slice none 0 0, .slice none 0 0], .int .i64 (dkErr l m)])) w') := show ∀ _, _ from fun w' hw => .inl ⟨hz, rfl, hw⟩
    have b1 : (dkErr l m != 0) = true := by rw [bne_iff_ne]; exact hz
    generalize PerfEnd l m (fun _ => true) w = PE at HE ⊢
    clear hz hP hQ
    generalize dkErr l m = E at cC b1 HE ⊢
    go_enter Try.func63, Try.ntmps63
    generalize hQ0 : bodyPost Try.prog Try.f63 PE = Q0
    have HRET : Hid (∀ a w', bodyPost Try.prog Try.f63 PE .ret a w' → Q0 .ret a w') := show ∀ _ _, _ from fun a w' h => by rw [← hQ0]; exact h
    clear hQ0
    go_wp2_with (go_at_call 53; (with_reducible refine (cC _ hu).mono ?_); rintro e w1 ⟨rfl, hb1⟩; replace hx := (hb1.block hxs).trans hx; replace hr := (hb1.block hrs).trans hr; replace hu := hu.call hb1; clear hb1; obtain ⟨x0, x1, hxs⟩ := rowD hx; obtain ⟨r0, r1, hrs⟩ := rowD hr; obtain ⟨f0, f1⟩ := freeD2 hr)
    have hr9 := setD2 hr (.slice none 0 0) (.slice none 0 0)
    have hu9 := hu.twoD (g := w.heap.size + 1) (by omega) (.slice none 0 0) (.slice none 0 0)
    exact HRET.out _ _ (end_dkE (p := 4) (q := 5) rfl rfl _ _ _ _ _ _ _ rfl rfl rfl hr9 rfl (HE.out _ hu9))
  have HE : Hid (∀ w' v, OwnP w.heap.size w' v (doneL (fun _ => true) 0 m l) → Calm w w' → PerfEnd l m (fun _ => true) w (.returned (.tuple #[.agg #[v, .slice none 0 0], .int .i64 0])) w') := show ∀ _, _ from fun w' v h1 hw => .inr ⟨hz, v, rfl, h1, hw⟩
  generalize PerfEnd l m (fun _ => true) w = PE at HE ⊢
  obtain ⟨h6, h5, -, hWS⟩ := dkErr_zero.1 hz
  have HWS := Lib.hid hWS
  have cP := fun u (hu : Calm w u) => cloneP_any P cp l u (by omega) (hP.calm hu)
  have HQ := Lib.hid hQ
  rw [hz] at cC
  clear hz hP hQ hWS hn hm
  go_enter Try.func63, Try.ntmps63
  generalize hQ0 : bodyPost Try.prog Try.f63 PE = Q0
  have HRET : Hid (∀ a w', bodyPost Try.prog Try.f63 PE .ret a w' → Q0 .ret a w') := show ∀ _ _, _ from fun a w' h => by rw [← hQ0]; exact h
  clear hQ0
  go_upto_region 5 with first
    | (go_at_call 53; (with_reducible refine (cC _ hu).mono ?_); rintro e w1 ⟨rfl, hb1⟩; replace hx := (hb1.block hxs).trans hx; replace hr := (hb1.block hrs).trans hr; replace hu := hu.call hb1; clear hb1; obtain ⟨x0, x1, hxs⟩ := rowD hx; obtain ⟨r0, r1, hrs⟩ := rowD hr; obtain ⟨f0, f1⟩ := freeD2 hr)
    | (go_at_call 26; (with_reducible refine (cP _ hu).mono ?_); rintro e w4 ⟨v4, rfl, ho4, hb1⟩; have hRl := hrs; replace hx := (hb1.block hxs).trans hx; replace hr := (hb1.block hrs).trans hr; replace hu := hu.call hb1; obtain ⟨x0, x1, hxs⟩ := rowD hx)
  obtain ⟨A4, c4, rfl, hc4, -⟩ := ho4.slice
  have hB4 := (Calm.size hb1)
  generalize w1.heap.size = B4 at ho4 hRl hB4
  have HO := Lib.hid ho4
  have HU := Lib.hid hu
  clear ho4 hb1 r0 r1 hrs f0 f1 cC cP
  go_wp2_with fail
  go_loopw [22, 8, 9] (fun i _ _ wr => ∃ k : Nat, k ≤ m.length ∧ i = .int .i64 k ∧ Calm w wr ∧ B4 ≤ wr.heap.size ∧ Hid (OwnP B4 wr (.slice A4 l.length c4) (doneL (fun _ => true) 0 (m.take k) l)) ∧ wr.heap[w.heap.size + 1]? = some (.cells #[.slice none 0 0, .slice none 0 0] 25 (0, 0))) (fun i _ _ _ => m.length - (intOf i).toNat)
  case atStart => exact ⟨0, Nat.zero_le _, rfl, hu, hB4, HO, hr⟩
  case round =>
    obtain ⟨k, hk, rfl, hv, hBv, HOk, hr⟩ := hrel
    by_cases hlt : k < m.length
    rotate_left
    · have hkl : m.take k = m := List.take_of_length_le (by omega)
      rw [hkl] at HOk
      have HO8 := HOk
      obtain ⟨r0, r1, hrs⟩ := rowD hr
      obtain ⟨f0, f1⟩ := freeD2 hr
      clear HOk hkl
      go_wp2_with fail
      have hr9 := setD2 hr (.slice A4 l.length c4) (.slice none 0 0)
      have HO9 := Lib.hid HO8.out
      have hu9 := hv.twoD (g := w.heap.size + 1) (by omega) (.slice A4 l.length c4) (.slice none 0 0)
      exact HRET.out _ _ (end_dkE (p := 4) (q := 5) rfl rfl _ _ _ _ _ _ _ rfl rfl rfl hr9 rfl (HE.out _ (.slice A4 l.length c4) (OwnG.weaken (rowsG_set (rowsG_set HO9.out hRl 0 (.slice A4 l.length c4)) hRl 1 (.slice none 0 0)) (by omega)) hu9))
    obtain ⟨b, q, i, s, rfl, hb, HEw, c0, c1⟩ := (HQ.out.calm hv).get hlt
    have hW := wrE_zero.1 (HWS.out _ (List.mem_of_getElem? HEw.out))
    obtain ⟨p, rfl⟩ : ∃ p : Nat, i = (p : Int) := ⟨i.toNat, by have := hW.1; simp only at this; omega⟩
    have hpl : p < l.length := by have := hW.2.1; simp only at this; omega
    have hdl := doneL_len (fun _ => true) (m.take k) 0 l
    obtain ⟨bk, hbk⟩ : ∃ bk : Bool, bk = (fun _ => true) k := ⟨_, rfl⟩
    have HT := Lib.hid (show doneL (fun _ => true) 0 (m.take (k + 1)) l = if bk = true then (doneL (fun _ => true) 0 (m.take k) l).set p s else doneL (fun _ => true) 0 (m.take k) l by rw [hbk]; exact doneL_take (f := (fun _ => true)) (ps := l) HEw.out)
    have cFk : ∀ u, Calm w u → Calls Try.prog 69 #[.int .i64 k] u fun e w' => e = .returned (.bool bk) ∧ Calm u w' := fun u hu => by rw [hbk]; exact cF k u hu
    have hak := (hv.alloc (.cells #[.int .i64 (p : Int), .string s] 45))
    have hyk := heap_new wr (.cells #[.int .i64 (p : Int), .string s] 45)
    have HO1 := Lib.hid (OwnP.calm HOk.out ((Calm.refl wr).alloc (.cells #[.int .i64 (p : Int), .string s] 45)))
    have hr1 := heap_past (.cells #[.int .i64 (p : Int), .string s] 45) hr
    clear hr HOk hW hbk HEw
    generalize doneL (fun _ => true) 0 (m.take k) l = L at HO1 HT hdl
    obtain ⟨g4, cap4, hA4⟩ := OwnG.some_ HO1.out (by omega)
    obtain rfl : A4 = some ⟨g4, 0, none⟩ := by injection hA4
    have hg4 := (HO1.out.lt g4 rfl).1
    clear hA4 cap4
    cases bk
    · have HT := Lib.hid (HT.out.trans (if_neg (by simp)))
      go_wp2_with (go_at_call 69; (with_reducible refine (cFk _ hak).mono ?_); rintro e w9 ⟨rfl, hb9⟩)
      go_roundw
      case rel => exact ⟨k + 1, by omega, by go_num, hak.call hb9, by have := hb9.size; simp at this; omega, by rw [HT.out]; exact HO1.out.calm hb9, (hb9.block (rowD hr1).2.2).trans hr1⟩
      case measure => simp [intOf]; omega
    · have HT := Lib.hid (HT.out.trans (if_pos rfl))
      go_wp2_with (go_at_call 69; (with_reducible refine (cFk _ hak).mono ?_); rintro e w9 ⟨rfl, hb9⟩; have hyk2 := (hb9.block (rowD hyk).2.2).trans hyk; obtain ⟨y0, y1, hys⟩ := rowD hyk2; have HO9 := Lib.hid (HO1.out.calm hb9); have hcell : w9.cell? ⟨g4, p, none⟩ = some (.string (L[p]'(by omega))) := (by have := (OwnG.cell stC_len HO9.out (show p < L.length by omega)).1 0 (by omega); rw [Nat.mul_one, Nat.add_zero] at this; exact this); have hfz := OwnG.frozen HO9.out p; have hpz : (p : Int) < (l.length : Int) := by omega)
      have HO10 : OwnP B4 (w9.setCell ⟨g4, p, none⟩ (.string s)) (.slice (some ⟨g4, 0, none⟩) l.length c4) (L.set p s) := by
        have := OwnG.set stC_len (i := p) (j := 0) (u := .string s) (x := s) HO9.out (by omega) (by omega) rfl
        rw [Nat.mul_one, Nat.add_zero] at this
        exact this
      go_roundw
      case rel => exact ⟨k + 1, by omega, by go_num, (hak.call hb9).setCell (p := ⟨g4, p, none⟩) (show w.heap.size ≤ g4 by omega) _, by have := hb9.size; simp at this ⊢; omega, by rw [HT.out]; exact HO10, (heap_setCell_other _ _ _ _ (by show w.heap.size + 1 ≠ g4; omega)).trans ((hb9.block (rowD hr1).2.2).trans hr1)⟩
      case measure => simp [intOf]; omega
set_option maxHeartbeats 8000000 in
theorem perfCrash_any (P Q : Option Addr) (cp cq : Nat) (l : List ByteArray) (m : List Wr) (B : Nat) (AK : Option Addr) (cK : Nat) (K : List Bool) (w : World) (hP : LiesP w P l) (hQ : LiesW w Q m) (hn : l.length ≤ 9223372036854775807) (hm : m.length ≤ 9223372036854775807) (hB : KBx B AK K.length cK w) (hK : LiesO w AK K) :
    Calls Try.prog 63 #[.agg #[.slice P l.length cp, .slice Q m.length cq], .func (.func 64) #[] #[.pointer (some ⟨B, 0, none⟩)]] w (PerfEnd l m (selK K) w) := by
  have hx := heap_past (.cells #[.slice none 0 0, .slice none 0 0] 25) (heap_new w (.cells #[.slice P l.length cp, .slice Q m.length cq] 25))
  have hr := heap_new (w.alloc (.cells #[.slice P l.length cp, .slice Q m.length cq] 25)) (.cells #[.slice none 0 0, .slice none 0 0] 25)
  rw [World.size_alloc] at hr
  have hu := ((Calm.refl w).alloc (.cells #[.slice P l.length cp, .slice Q m.length cq] 25)).alloc (.cells #[.slice none 0 0, .slice none 0 0] 25)
  have cC := fun u (hu : Calm w u) => diskCheck_any P Q cp cq l m u (hP.calm hu) (hQ.calm hu) hn hm
  have cF : ∀ (k : Nat) u, Calm w u → Calls Try.prog 64 #[.int .i64 k, .pointer (some ⟨B, 0, none⟩)] u fun e w' => e = .returned (.bool (selK K k)) ∧ Calm u w' := fun k u hu => crash1_any B AK cK K k u (hB.calm hu) (hK.calm hu)
  clear hB hK
  obtain ⟨x0, x1, hxs⟩ := rowD hx
  obtain ⟨r0, r1, hrs⟩ := rowD hr
  obtain ⟨f0, f1⟩ := freeD2 hr
  by_cases hz : dkErr l m = 0
  rotate_left
  · have HE : Hid (∀ w', Calm w w' → PerfEnd l m (selK K) w (.returned (.tuple #[.agg #[.slice none 0 0, .slice none 0 0], .int .i64 (dkErr l m)])) w') := show ∀ _, _ from fun w' hw => .inl ⟨hz, rfl, hw⟩
    have b1 : (dkErr l m != 0) = true := by rw [bne_iff_ne]; exact hz
    generalize PerfEnd l m (selK K) w = PE at HE ⊢
    clear hz hP hQ
    generalize dkErr l m = E at cC b1 HE ⊢
    go_enter Try.func63, Try.ntmps63
    generalize hQ0 : bodyPost Try.prog Try.f63 PE = Q0
    have HRET : Hid (∀ a w', bodyPost Try.prog Try.f63 PE .ret a w' → Q0 .ret a w') := show ∀ _ _, _ from fun a w' h => by rw [← hQ0]; exact h
    clear hQ0
    go_wp2_with (go_at_call 53; (with_reducible refine (cC _ hu).mono ?_); rintro e w1 ⟨rfl, hb1⟩; replace hx := (hb1.block hxs).trans hx; replace hr := (hb1.block hrs).trans hr; replace hu := hu.call hb1; clear hb1; obtain ⟨x0, x1, hxs⟩ := rowD hx; obtain ⟨r0, r1, hrs⟩ := rowD hr; obtain ⟨f0, f1⟩ := freeD2 hr)
    have hr9 := setD2 hr (.slice none 0 0) (.slice none 0 0)
    have hu9 := hu.twoD (g := w.heap.size + 1) (by omega) (.slice none 0 0) (.slice none 0 0)
    exact HRET.out _ _ (end_dkE (p := 4) (q := 5) rfl rfl _ _ _ _ _ _ _ rfl rfl rfl hr9 rfl (HE.out _ hu9))
  have HE : Hid (∀ w' v, OwnP w.heap.size w' v (doneL (selK K) 0 m l) → Calm w w' → PerfEnd l m (selK K) w (.returned (.tuple #[.agg #[v, .slice none 0 0], .int .i64 0])) w') := show ∀ _, _ from fun w' v h1 hw => .inr ⟨hz, v, rfl, h1, hw⟩
  generalize PerfEnd l m (selK K) w = PE at HE ⊢
  obtain ⟨h6, h5, -, hWS⟩ := dkErr_zero.1 hz
  have HWS := Lib.hid hWS
  have cP := fun u (hu : Calm w u) => cloneP_any P cp l u (by omega) (hP.calm hu)
  have HQ := Lib.hid hQ
  rw [hz] at cC
  clear hz hP hQ hWS hn hm
  go_enter Try.func63, Try.ntmps63
  generalize hQ0 : bodyPost Try.prog Try.f63 PE = Q0
  have HRET : Hid (∀ a w', bodyPost Try.prog Try.f63 PE .ret a w' → Q0 .ret a w') := show ∀ _ _, _ from fun a w' h => by rw [← hQ0]; exact h
  clear hQ0
  go_upto_region 5 with first
    | (go_at_call 53; (with_reducible refine (cC _ hu).mono ?_); rintro e w1 ⟨rfl, hb1⟩; replace hx := (hb1.block hxs).trans hx; replace hr := (hb1.block hrs).trans hr; replace hu := hu.call hb1; clear hb1; obtain ⟨x0, x1, hxs⟩ := rowD hx; obtain ⟨r0, r1, hrs⟩ := rowD hr; obtain ⟨f0, f1⟩ := freeD2 hr)
    | (go_at_call 26; (with_reducible refine (cP _ hu).mono ?_); rintro e w4 ⟨v4, rfl, ho4, hb1⟩; have hRl := hrs; replace hx := (hb1.block hxs).trans hx; replace hr := (hb1.block hrs).trans hr; replace hu := hu.call hb1; obtain ⟨x0, x1, hxs⟩ := rowD hx)
  obtain ⟨A4, c4, rfl, hc4, -⟩ := ho4.slice
  have hB4 := (Calm.size hb1)
  generalize w1.heap.size = B4 at ho4 hRl hB4
  have HO := Lib.hid ho4
  have HU := Lib.hid hu
  clear ho4 hb1 r0 r1 hrs f0 f1 cC cP
  go_wp2_with fail
  go_loopw [22, 8, 9] (fun i _ _ wr => ∃ k : Nat, k ≤ m.length ∧ i = .int .i64 k ∧ Calm w wr ∧ B4 ≤ wr.heap.size ∧ Hid (OwnP B4 wr (.slice A4 l.length c4) (doneL (selK K) 0 (m.take k) l)) ∧ wr.heap[w.heap.size + 1]? = some (.cells #[.slice none 0 0, .slice none 0 0] 25 (0, 0))) (fun i _ _ _ => m.length - (intOf i).toNat)
  case atStart => exact ⟨0, Nat.zero_le _, rfl, hu, hB4, HO, hr⟩
  case round =>
    obtain ⟨k, hk, rfl, hv, hBv, HOk, hr⟩ := hrel
    by_cases hlt : k < m.length
    rotate_left
    · have hkl : m.take k = m := List.take_of_length_le (by omega)
      rw [hkl] at HOk
      have HO8 := HOk
      obtain ⟨r0, r1, hrs⟩ := rowD hr
      obtain ⟨f0, f1⟩ := freeD2 hr
      clear HOk hkl
      go_wp2_with fail
      have hr9 := setD2 hr (.slice A4 l.length c4) (.slice none 0 0)
      have HO9 := Lib.hid HO8.out
      have hu9 := hv.twoD (g := w.heap.size + 1) (by omega) (.slice A4 l.length c4) (.slice none 0 0)
      exact HRET.out _ _ (end_dkE (p := 4) (q := 5) rfl rfl _ _ _ _ _ _ _ rfl rfl rfl hr9 rfl (HE.out _ (.slice A4 l.length c4) (OwnG.weaken (rowsG_set (rowsG_set HO9.out hRl 0 (.slice A4 l.length c4)) hRl 1 (.slice none 0 0)) (by omega)) hu9))
    obtain ⟨b, q, i, s, rfl, hb, HEw, c0, c1⟩ := (HQ.out.calm hv).get hlt
    have hW := wrE_zero.1 (HWS.out _ (List.mem_of_getElem? HEw.out))
    obtain ⟨p, rfl⟩ : ∃ p : Nat, i = (p : Int) := ⟨i.toNat, by have := hW.1; simp only at this; omega⟩
    have hpl : p < l.length := by have := hW.2.1; simp only at this; omega
    have hdl := doneL_len (selK K) (m.take k) 0 l
    obtain ⟨bk, hbk⟩ : ∃ bk : Bool, bk = (selK K) k := ⟨_, rfl⟩
    have HT := Lib.hid (show doneL (selK K) 0 (m.take (k + 1)) l = if bk = true then (doneL (selK K) 0 (m.take k) l).set p s else doneL (selK K) 0 (m.take k) l by rw [hbk]; exact doneL_take (f := (selK K)) (ps := l) HEw.out)
    have cFk : ∀ u, Calm w u → Calls Try.prog 64 #[.int .i64 k, .pointer (some ⟨B, 0, none⟩)] u fun e w' => e = .returned (.bool bk) ∧ Calm u w' := fun u hu => by rw [hbk]; exact cF k u hu
    have hak := (hv.alloc (.cells #[.int .i64 (p : Int), .string s] 45))
    have hyk := heap_new wr (.cells #[.int .i64 (p : Int), .string s] 45)
    have HO1 := Lib.hid (OwnP.calm HOk.out ((Calm.refl wr).alloc (.cells #[.int .i64 (p : Int), .string s] 45)))
    have hr1 := heap_past (.cells #[.int .i64 (p : Int), .string s] 45) hr
    clear hr HOk hW hbk HEw
    generalize doneL (selK K) 0 (m.take k) l = L at HO1 HT hdl
    obtain ⟨g4, cap4, hA4⟩ := OwnG.some_ HO1.out (by omega)
    obtain rfl : A4 = some ⟨g4, 0, none⟩ := by injection hA4
    have hg4 := (HO1.out.lt g4 rfl).1
    clear hA4 cap4
    cases bk
    · have HT := Lib.hid (HT.out.trans (if_neg (by simp)))
      go_wp2_with (go_at_call 64; (with_reducible refine (cFk _ hak).mono ?_); rintro e w9 ⟨rfl, hb9⟩)
      go_roundw
      case rel => exact ⟨k + 1, by omega, by go_num, hak.call hb9, by have := hb9.size; simp at this; omega, by rw [HT.out]; exact HO1.out.calm hb9, (hb9.block (rowD hr1).2.2).trans hr1⟩
      case measure => simp [intOf]; omega
    · have HT := Lib.hid (HT.out.trans (if_pos rfl))
      go_wp2_with (go_at_call 64; (with_reducible refine (cFk _ hak).mono ?_); rintro e w9 ⟨rfl, hb9⟩; have hyk2 := (hb9.block (rowD hyk).2.2).trans hyk; obtain ⟨y0, y1, hys⟩ := rowD hyk2; have HO9 := Lib.hid (HO1.out.calm hb9); have hcell : w9.cell? ⟨g4, p, none⟩ = some (.string (L[p]'(by omega))) := (by have := (OwnG.cell stC_len HO9.out (show p < L.length by omega)).1 0 (by omega); rw [Nat.mul_one, Nat.add_zero] at this; exact this); have hfz := OwnG.frozen HO9.out p; have hpz : (p : Int) < (l.length : Int) := by omega)
      have HO10 : OwnP B4 (w9.setCell ⟨g4, p, none⟩ (.string s)) (.slice (some ⟨g4, 0, none⟩) l.length c4) (L.set p s) := by
        have := OwnG.set stC_len (i := p) (j := 0) (u := .string s) (x := s) HO9.out (by omega) (by omega) rfl
        rw [Nat.mul_one, Nat.add_zero] at this
        exact this
      go_roundw
      case rel => exact ⟨k + 1, by omega, by go_num, (hak.call hb9).setCell (p := ⟨g4, p, none⟩) (show w.heap.size ≤ g4 by omega) _, by have := hb9.size; simp at this ⊢; omega, by rw [HT.out]; exact HO10, (heap_setCell_other _ _ _ _ (by show w.heap.size + 1 ≠ g4; omega)).trans ((hb9.block (rowD hr1).2.2).trans hr1)⟩
      case measure => simp [intOf]; omega
set_option maxHeartbeats 8000000 in
theorem diskSync_any (P Q : Option Addr) (cp cq : Nat) (l : List ByteArray) (m : List Wr) (w : World) (hP : LiesP w P l) (hQ : LiesW w Q m) (hn : l.length ≤ 9223372036854775807) (hm : m.length ≤ 9223372036854775807) :
    Calls Try.prog 21 #[.agg #[.slice P l.length cp, .slice Q m.length cq]] w (PerfEnd l m (fun _ => true) w) := by
  have hx := heap_past (.cells #[.slice none 0 0, .slice none 0 0] 25) (heap_new w (.cells #[.slice P l.length cp, .slice Q m.length cq] 25))
  have hr := heap_new (w.alloc (.cells #[.slice P l.length cp, .slice Q m.length cq] 25)) (.cells #[.slice none 0 0, .slice none 0 0] 25)
  rw [World.size_alloc] at hr
  have hu := ((Calm.refl w).alloc (.cells #[.slice P l.length cp, .slice Q m.length cq] 25)).alloc (.cells #[.slice none 0 0, .slice none 0 0] 25)
  obtain ⟨x0, x1, hxs⟩ := rowD hx
  obtain ⟨r0, r1, hrs⟩ := rowD hr
  obtain ⟨f0, f1⟩ := freeD2 hr
  have cC := fun u (hu : Calm w u) => perfSync_any P Q cp cq l m u (hP.calm hu) (hQ.calm hu) hn hm
  by_cases hz : dkErr l m = 0
  · have HE0 : Hid (∀ w' v, OwnP w.heap.size w' v (doneL (fun _ => true) 0 m l) → Calm w w' → PerfEnd l m (fun _ => true) w (.returned (.tuple #[.agg #[v, .slice none 0 0], .int .i64 0])) w') := show ∀ _, _ from fun w' v h1 hw => .inr ⟨hz, v, rfl, h1, hw⟩
    have cC2 := fun u (hu : Calm w u) => (cC u hu).mono (fun e w' h => (show ∃ A c, e = .returned (.tuple #[.agg #[.slice A (doneL (fun _ => true) 0 m l).length c, .slice none 0 0], .int .i64 0]) ∧ OwnP u.heap.size w' (.slice A (doneL (fun _ => true) 0 m l).length c) (doneL (fun _ => true) 0 m l) ∧ Calm u w' by
      rcases h with ⟨h, -⟩ | ⟨h1, v, h2, h3, h4⟩
      · exact absurd hz h
      · obtain ⟨A, c, rfl, -, -⟩ := h3.slice
        exact ⟨A, c, h2, h3, h4⟩))
    generalize PerfEnd l m (fun _ => true) w = PE at HE0 ⊢
    clear cC hz hP hQ hn hm
    generalize doneL (fun _ => true) 0 m l = L at HE0 cC2
    go_enter Try.func21, Try.ntmps21
    generalize hQ0 : bodyPost Try.prog Try.f21 PE = Q0
    have HRET : Hid (∀ a w', bodyPost Try.prog Try.f21 PE .ret a w' → Q0 .ret a w') := show ∀ _ _, _ from fun a w' h => by rw [← hQ0]; exact h
    clear hQ0
    go_wp2_with (go_at_call 63; (with_reducible refine (cC2 _ hu).mono ?_); rintro e w1 ⟨A9, c9, rfl, ho9, hb1⟩; have HO9 := Lib.hid ho9; clear ho9; replace hr := (hb1.block hrs).trans hr; replace hu := hu.call hb1; have hs1 := hrs; clear hb1 r0 r1 hrs f0 f1 x0 x1 hxs; obtain ⟨r0, r1, hrs⟩ := rowD hr; obtain ⟨f0, f1⟩ := freeD2 hr)
    have hr9 := setD2 hr (.slice A9 L.length c9) (.slice none 0 0)
    have hu9 := hu.twoD (g := w.heap.size + 1) (by omega) (.slice A9 L.length c9) (.slice none 0 0)
    exact HRET.out _ _ (end_dkE (p := 2) (q := 3) rfl rfl _ _ _ _ _ _ _ rfl rfl rfl hr9 rfl (HE0.out _ _ (OwnG.weaken (rowsG_set (rowsG_set HO9.out hs1 0 (.slice A9 L.length c9)) hs1 1 (.slice none 0 0)) (by omega)) hu9))
  · have HE : Hid (∀ w', Calm w w' → PerfEnd l m (fun _ => true) w (.returned (.tuple #[.agg #[.slice none 0 0, .slice none 0 0], .int .i64 (dkErr l m)])) w') := show ∀ _, _ from fun w' hw => .inl ⟨hz, rfl, hw⟩
    have cC2 := fun u (hu : Calm w u) => (cC u hu).mono (fun e w' h => (show e = .returned (.tuple #[.agg #[.slice none 0 0, .slice none 0 0], .int .i64 (dkErr l m)]) ∧ Calm u w' by
      rcases h with ⟨-, h⟩ | ⟨h1, -⟩
      · exact h
      · exact absurd h1 hz))
    generalize PerfEnd l m (fun _ => true) w = PE at HE ⊢
    clear cC hz hP hQ hn hm
    generalize dkErr l m = E at HE cC2
    go_enter Try.func21, Try.ntmps21
    generalize hQ0 : bodyPost Try.prog Try.f21 PE = Q0
    have HRET : Hid (∀ a w', bodyPost Try.prog Try.f21 PE .ret a w' → Q0 .ret a w') := show ∀ _ _, _ from fun a w' h => by rw [← hQ0]; exact h
    clear hQ0
    go_wp2_with (go_at_call 63; (with_reducible refine (cC2 _ hu).mono ?_); rintro e w1 ⟨rfl, hb1⟩; replace hr := (hb1.block hrs).trans hr; replace hu := hu.call hb1; have hs1 := hrs; clear hb1 r0 r1 hrs f0 f1 x0 x1 hxs; obtain ⟨r0, r1, hrs⟩ := rowD hr; obtain ⟨f0, f1⟩ := freeD2 hr)
    have hr9 := setD2 hr (.slice none 0 0) (.slice none 0 0)
    have hu9 := hu.twoD (g := w.heap.size + 1) (by omega) (.slice none 0 0) (.slice none 0 0)
    exact HRET.out _ _ (end_dkE (p := 2) (q := 3) rfl rfl _ _ _ _ _ _ _ rfl rfl rfl hr9 rfl (HE.out _ hu9))
set_option maxHeartbeats 8000000 in
theorem diskCrash_any (P Q : Option Addr) (cp cq : Nat) (l : List ByteArray) (m : List Wr) (AK : Option Addr) (cK : Nat) (K : List Bool) (w : World) (hP : LiesP w P l) (hQ : LiesW w Q m) (hn : l.length ≤ 9223372036854775807) (hm : m.length ≤ 9223372036854775807) (hK : LiesO w AK K) :
    Calls Try.prog 19 #[.agg #[.slice P l.length cp, .slice Q m.length cq], .slice AK K.length cK] w (PerfEnd l m (selK K) w) := by
  have hx := heap_past (.cells #[.slice none 0 0, .slice none 0 0] 25) (heap_past (.cells #[.slice AK K.length cK] 36) (heap_new w (.cells #[.slice P l.length cp, .slice Q m.length cq] 25)))
  have hk := heap_past (.cells #[.slice none 0 0, .slice none 0 0] 25) (heap_new (w.alloc (.cells #[.slice P l.length cp, .slice Q m.length cq] 25)) (.cells #[.slice AK K.length cK] 36))
  have hr := heap_new ((w.alloc (.cells #[.slice P l.length cp, .slice Q m.length cq] 25)).alloc (.cells #[.slice AK K.length cK] 36)) (.cells #[.slice none 0 0, .slice none 0 0] 25)
  rw [World.size_alloc] at hk hr
  rw [World.size_alloc] at hr
  have hu := (((Calm.refl w).alloc (.cells #[.slice P l.length cp, .slice Q m.length cq] 25)).alloc (.cells #[.slice AK K.length cK] 36)).alloc (.cells #[.slice none 0 0, .slice none 0 0] 25)
  obtain ⟨k0, hks⟩ := row1 hk
  replace hk : KBx (w.heap.size + 1) AK K.length cK _ := hk
  obtain ⟨x0, x1, hxs⟩ := rowD hx
  obtain ⟨r0, r1, hrs⟩ := rowD hr
  obtain ⟨f0, f1⟩ := freeD2 hr
  have cC := fun u (hu : Calm w u) (hk : KBx (w.heap.size + 1) AK K.length cK u) => perfCrash_any P Q cp cq l m (w.heap.size + 1) AK cK K u (hP.calm hu) (hQ.calm hu) hn hm hk (hK.calm hu)
  clear hK
  by_cases hz : dkErr l m = 0
  · have HE0 : Hid (∀ w' v, OwnP w.heap.size w' v (doneL (selK K) 0 m l) → Calm w w' → PerfEnd l m (selK K) w (.returned (.tuple #[.agg #[v, .slice none 0 0], .int .i64 0])) w') := show ∀ _, _ from fun w' v h1 hw => .inr ⟨hz, v, rfl, h1, hw⟩
    have cC2 := fun u (hu : Calm w u) (hk : KBx (w.heap.size + 1) AK K.length cK u) => (cC u hu hk).mono (fun e w' h => (show ∃ A c, e = .returned (.tuple #[.agg #[.slice A (doneL (selK K) 0 m l).length c, .slice none 0 0], .int .i64 0]) ∧ OwnP u.heap.size w' (.slice A (doneL (selK K) 0 m l).length c) (doneL (selK K) 0 m l) ∧ Calm u w' by
      rcases h with ⟨h, -⟩ | ⟨h1, v, h2, h3, h4⟩
      · exact absurd hz h
      · obtain ⟨A, c, rfl, -, -⟩ := h3.slice
        exact ⟨A, c, h2, h3, h4⟩))
    generalize PerfEnd l m (selK K) w = PE at HE0 ⊢
    clear cC hz hP hQ hn hm
    generalize doneL (selK K) 0 m l = L at HE0 cC2
    go_enter Try.func19, Try.ntmps19
    generalize hQ0 : bodyPost Try.prog Try.f19 PE = Q0
    have HRET : Hid (∀ a w', bodyPost Try.prog Try.f19 PE .ret a w' → Q0 .ret a w') := show ∀ _ _, _ from fun a w' h => by rw [← hQ0]; exact h
    clear hQ0
    go_wp2_with (go_at_call 63; (with_reducible refine (cC2 _ hu hk).mono ?_); rintro e w1 ⟨A9, c9, rfl, ho9, hb1⟩; have HO9 := Lib.hid ho9; clear ho9; replace hr := (hb1.block hrs).trans hr; replace hu := hu.call hb1; have hs1 := hrs; clear hb1 k0 hks hk r0 r1 hrs f0 f1 x0 x1 hxs; obtain ⟨r0, r1, hrs⟩ := rowD hr; obtain ⟨f0, f1⟩ := freeD2 hr)
    have hr9 := setD2 hr (.slice A9 L.length c9) (.slice none 0 0)
    have hu9 := hu.twoD (g := w.heap.size + 1 + 1) (by omega) (.slice A9 L.length c9) (.slice none 0 0)
    exact HRET.out _ _ (end_dkE (p := 4) (q := 5) rfl rfl _ _ _ _ _ _ _ rfl rfl rfl hr9 rfl (HE0.out _ _ (OwnG.weaken (rowsG_set (rowsG_set HO9.out hs1 0 (.slice A9 L.length c9)) hs1 1 (.slice none 0 0)) (by omega)) hu9))
  · have HE : Hid (∀ w', Calm w w' → PerfEnd l m (selK K) w (.returned (.tuple #[.agg #[.slice none 0 0, .slice none 0 0], .int .i64 (dkErr l m)])) w') := show ∀ _, _ from fun w' hw => .inl ⟨hz, rfl, hw⟩
    have cC2 := fun u (hu : Calm w u) (hk : KBx (w.heap.size + 1) AK K.length cK u) => (cC u hu hk).mono (fun e w' h => (show e = .returned (.tuple #[.agg #[.slice none 0 0, .slice none 0 0], .int .i64 (dkErr l m)]) ∧ Calm u w' by
      rcases h with ⟨-, h⟩ | ⟨h1, -⟩
      · exact h
      · exact absurd h1 hz))
    generalize PerfEnd l m (selK K) w = PE at HE ⊢
    clear cC hz hP hQ hn hm
    generalize dkErr l m = E at HE cC2
    go_enter Try.func19, Try.ntmps19
    generalize hQ0 : bodyPost Try.prog Try.f19 PE = Q0
    have HRET : Hid (∀ a w', bodyPost Try.prog Try.f19 PE .ret a w' → Q0 .ret a w') := show ∀ _ _, _ from fun a w' h => by rw [← hQ0]; exact h
    clear hQ0
    go_wp2_with (go_at_call 63; (with_reducible refine (cC2 _ hu hk).mono ?_); rintro e w1 ⟨rfl, hb1⟩; replace hr := (hb1.block hrs).trans hr; replace hu := hu.call hb1; have hs1 := hrs; clear hb1 k0 hks hk r0 r1 hrs f0 f1 x0 x1 hxs; obtain ⟨r0, r1, hrs⟩ := rowD hr; obtain ⟨f0, f1⟩ := freeD2 hr)
    have hr9 := setD2 hr (.slice none 0 0) (.slice none 0 0)
    have hu9 := hu.twoD (g := w.heap.size + 1 + 1) (by omega) (.slice none 0 0) (.slice none 0 0)
    exact HRET.out _ _ (end_dkE (p := 4) (q := 5) rfl rfl _ _ _ _ _ _ _ rfl rfl rfl hr9 rfl (HE.out _ hu9))
open Go.RowKit
def FIX {α : Type} (q : α → Bool) (l : List α) (r : Int) : Prop := (r = -1 ∧ ∀ e ∈ l, q e = false) ∨ (∃ (i : Nat) (h : i < l.length), r = i ∧ q l[i] = true ∧ ∀ j (hj : j < l.length), j < i → q l[j] = false)
theorem FIX_ex {α : Type} (q : α → Bool) (l : List α) : ∃ r, FIX q l r := by
 have E : ∀ n, n ≤ l.length → (∃ (i : Nat) (h : i < l.length), q l[i] = true ∧ ∀ j (hj : j < l.length), j < i → q l[j] = false) ∨ ∀ j (hj : j < l.length), j < n → q l[j] = false := fun n => by
  induction n with
  |zero => intro _; right; intro j hj h0; omega
  |succ n ih =>
   intro hn
   rcases ih (by omega) with h | h
   ·exact .inl h
   ·cases hp : q l[n]
    ·right; intro j hj h1
     rcases Nat.lt_or_ge j n with h2 | h2
     ·exact h j hj h2
     ·rw [show l[j] = l[n] from by congr 1; omega]; exact hp
    ·exact .inl ⟨n, by omega, hp, h⟩
 rcases E l.length (Nat.le_refl _) with ⟨i, h, h1, h2⟩ | h
 ·exact ⟨i, .inr ⟨i, h, rfl, h1, h2⟩⟩
 ·exact ⟨-1, .inl ⟨rfl, fun e he => by obtain ⟨j, hj, rfl⟩ := List.getElem_of_mem he; exact h j hj hj⟩⟩
theorem FIX.any {α : Type} {q : α → Bool} {l : List α} {r : Int} (h : FIX q l r) : (0 ≤ r ∧ l.any q = true) ∨ (r = -1 ∧ l.any q = false) := by
 rcases h with ⟨h1, h2⟩ | ⟨i, h1, h2, h3, -⟩
 ·exact .inr ⟨h1, List.any_eq_false.2 fun e he => by simp [h2 e he]⟩
 ·exact .inl ⟨by omega, List.any_eq_true.2 ⟨_, List.getElem_mem h1, h3⟩⟩
open Go.RowKit
theorem refDisk1_any (s : ByteArray) (w : World) : Calls Try.prog 92 #[.string s] w fun e w' => e = .returned (.bool (decide (3500 < s.size))) ∧ Calm w w' := by
 by_cases h : 3500 < s.size
 ·rw [decide_eq_true h]
  go_enter Try.func92, Try.ntmps92
  go_wp2_with fail
  go_ret
  exact ⟨ret_bool (by simp; omega), Calm.refl _⟩
 ·rw [decide_eq_false h]
  go_enter Try.func92, Try.ntmps92
  go_wp2_with fail
  go_ret
  exact ⟨ret_bool (by simp; omega), Calm.refl _⟩
set_option maxHeartbeats 4000000 in
theorem idxL_any (A : Option Addr) (c : Nat) (l : List ByteArray) (r : Int) (w : World) (hn : l.length ≤ 9223372036854775807) (hL : LiesP w A l) (hF : FIX (fun s : ByteArray => decide (3500 < s.size)) l r) :
    Calls Try.prog 73 #[.slice A l.length c, .func (.func 92) #[] #[]] w fun e w' => e = .returned (.int .i64 r) ∧ Calm w w' := by
  have HF := Lib.hid hF
  have C : ∀ (u : World) (s : ByteArray), Calls Try.prog 92 (#[.string s] ++ #[]) u fun e w' => e = .returned (.bool (decide (3500 < s.size))) ∧ Calm u w' := fun u s => refDisk1_any s u
  clear hF
  go_enter Try.func73, Try.ntmps73
  go_wp2_with fail
  go_loopw [8, 5] (fun i _ wr => ∃ k : Nat, k ≤ l.length ∧ i = .int .i64 k ∧ Calm w wr ∧ Hid (∀ j (hj : j < l.length), j < k → decide (3500 < l[j].size) = false)) (fun i _ _ => l.length - (intOf i).toNat)
  case atStart => exact ⟨0, Nat.zero_le _, rfl, Calm.refl _, show ∀ _, _ from fun j hj h => absurd h (Nat.not_lt_zero _)⟩
  case round =>
    obtain ⟨k, hk, rfl, hu, hN⟩ := hrel
    by_cases hlt : k < l.length
    rotate_left
    · have K : Hid (r = -1) := by
        rcases HF.out with h | ⟨i, hi, _, h2, _⟩
        · exact h.1
        · have h2 : decide (3500 < l[i].size) = true := h2
          rw [hN.out i hi (by omega)] at h2; cases h2
      clear C
      go_wp2_with fail
      go_ret
      exact ⟨by rw [K.out]; rfl, hu⟩
    obtain ⟨b, q, t, rfl, hb, HE, c0⟩ := (hL.calm hu).get hlt
    have HE2 := (List.getElem?_eq_some_iff.1 HE.out).2
    have hc := C wr t
    cases hp : decide (3500 < t.size)
    · rw [hp] at hc
      have hN2 : Hid (∀ j (hj : j < l.length), j < k + 1 → decide (3500 < l[j].size) = false) := show ∀ _, _ from fun j hj h => by
        rcases Nat.lt_or_ge j k with h2 | h2
        · exact hN.out j hj h2
        · rw [show l[j] = l[k] from by congr 1; omega, HE2]; exact hp
      clear hp C HE2
      go_wp2_with (go_at_call 92; refine hc.mono ?_; rintro e w1 ⟨rfl, hb1⟩)
      go_roundw
      case rel => exact ⟨k + 1, by omega, by go_num, hu.call hb1, hN2⟩
      case measure => simp [intOf]; omega
    · rw [hp] at hc
      have K : Hid (r = k) := by
        rcases HF.out with h | ⟨i, hi, hr, h2, h3⟩
        · have : decide (3500 < l[k].size) = false := h.2 _ (List.getElem_mem hlt)
          rw [HE2, hp] at this; cases this
        · rw [hr]
          rcases Nat.lt_trichotomy i k with h4 | h4 | h4
          · have h2 : decide (3500 < l[i].size) = true := h2
            rw [hN.out i hi h4] at h2; cases h2
          · show _ = _; rw [h4]
          · have : decide (3500 < l[k].size) = false := h3 k hlt h4
            rw [HE2, hp] at this; cases this
      clear hp C HE2
      go_wp2_with (go_at_call 92; refine hc.mono ?_; rintro e w1 ⟨rfl, hb1⟩)
      go_ret
      exact ⟨by rw [K.out]; rfl, hu.call hb1⟩
set_option maxHeartbeats 4000000 in
theorem hasL_any (A : Option Addr) (c : Nat) (l : List ByteArray) (w : World) (hn : l.length ≤ 9223372036854775807) (hL : LiesP w A l) :
    Calls Try.prog 30 #[.slice A l.length c, .func (.func 92) #[] #[]] w fun e w' => e = .returned (.bool (l.any fun s => decide (3500 < s.size))) ∧ Calm w w' := by
  obtain ⟨r, hr⟩ := FIX_ex (fun s : ByteArray => decide (3500 < s.size)) l
  have cI := idxL_any A c l r w hn hL hr
  have hany := hr.any
  generalize (l.any fun s : ByteArray => decide (3500 < s.size)) = R at hany ⊢
  clear hr hL
  rcases hany with ⟨h1, rfl⟩ | ⟨rfl, rfl⟩
  · go_enter Try.func30, Try.ntmps30
    go_wp2_with (go_at_call 73; refine cI.mono ?_; rintro e w1 ⟨rfl, hb1⟩)
    go_ret
    exact ⟨ret_bool (by simp), hb1⟩
  · go_enter Try.func30, Try.ntmps30
    go_wp2_with (go_at_call 73; refine cI.mono ?_; rintro e w1 ⟨rfl, hb1⟩)
    go_ret
    exact ⟨rfl, hb1⟩
set_option maxHeartbeats 8000000 in
theorem refDisk_any (P Q : Option Addr) (cp cq : Nat) (l : List ByteArray) (m : List Wr) (w : World) (hP : LiesP w P l) (hQ : LiesW w Q m) (hn : l.length ≤ 9223372036854775807) (hm : m.length ≤ 9223372036854775807) :
    Calls Try.prog 57 #[.agg #[.slice P l.length cp, .slice Q m.length cq]] w fun e w' => e = .returned (.int .i64 (dkErr l m)) ∧ Calm w w' := by
  have hx := heap_new w (.cells #[.slice P l.length cp, .slice Q m.length cq] 25)
  have hu := (Calm.refl w).alloc (.cells #[.slice P l.length cp, .slice Q m.length cq] 25)
  obtain ⟨x0, x1, hxs⟩ := rowD hx
  by_cases hz : 201 < l.length ∨ 400 < m.length
  · have hr : dkErr l m = 2 := by unfold dkErr; rw [if_pos hz]
    rw [hr]
    clear hP hQ hr
    go_enter Try.func57, Try.ntmps57
    rcases hz with hz | hz
    · go_wp2_with fail
      go_ret
      exact ⟨rfl, hu⟩
    · by_cases h1 : 201 < l.length
      · go_wp2_with fail
        go_ret
        exact ⟨rfl, hu⟩
      · go_wp2_with fail
        go_ret
        exact ⟨rfl, hu⟩
  have HR := Lib.hid (show dkErr l m = if l.any (fun s => decide (3500 < s.size)) = true then 2 else wrsE l.length m by unfold dkErr; rw [if_neg hz])
  have cL := fun u (hu : Calm w u) => hasL_any P cp l u hn (hP.calm hu)
  generalize dkErr l m = r at HR ⊢
  generalize (l.any fun s => decide (3500 < s.size)) = R at HR cL
  have HX := Lib.hid hx
  have HQ := Lib.hid hQ
  have hl1 : l.length ≤ 201 := by omega
  have hm1 : m.length ≤ 400 := by omega
  clear hP hQ hz hn hm
  cases R
  rotate_left
  · have HR2 := Lib.hid (show r = 2 from HR.out.trans (if_pos rfl))
    clear HR
    go_enter Try.func57, Try.ntmps57
    go_wp2_with (go_at_call 30; (with_reducible refine (cL _ hu).mono ?_); rintro e w1 ⟨rfl, hb1⟩)
    go_ret
    exact ⟨by rw [HR2.out]; rfl, hu.call hb1⟩
  have HR2 := Lib.hid (show r = wrsE l.length m from HR.out.trans (if_neg (by simp)))
  clear HR
  go_enter Try.func57, Try.ntmps57
  go_wp2_with (go_at_call 30; (with_reducible refine (cL _ hu).mono ?_); rintro e w1 ⟨rfl, hb1⟩; replace hx := (hb1.block hxs).trans hx; replace hu := hu.call hb1; clear hb1; obtain ⟨x0, x1, hxs⟩ := rowD hx)
  have HX2 := Lib.hid hx
  go_loopw [21, 4] (fun i _ wr => ∃ k : Nat, k ≤ m.length ∧ i = .int .i64 k ∧ Calm w wr ∧ Calm w1 wr ∧ Hid (r = wrsE l.length (m.drop k))) (fun i _ _ => m.length - (intOf i).toNat)
  case atStart => exact ⟨0, Nat.zero_le _, rfl, hu, Calm.refl _, HR2⟩
  case round =>
    obtain ⟨k, hk, rfl, hv, hv1, hN⟩ := hrel
    by_cases hlt : k < m.length
    · obtain ⟨b, q, i, s, rfl, hb, HE, c0, c1⟩ := (HQ.out.calm hv).get hlt
      replace hx := (hv1.block (rowD HX2.out).2.2).trans HX2.out
      obtain ⟨x0, x1, hxs⟩ := rowD hx
      have HN2 := Lib.hid (hN.out.trans (wrsE_drop HE.out))
      have hUW : wrE l.length ⟨i, s⟩ = if i < 0 ∨ (l.length : Int) ≤ i then 1 else if 3500 < s.size then 2 else 0 := rfl
      by_cases h1 : i < 0 ∨ (l.length : Int) ≤ i
      · have HN3 := Lib.hid (show r = 1 by rw [HN2.out, hUW, if_pos h1]; exact if_neg (by decide))
        clear hUW HN2 hN
        by_cases h0 : i < 0
        · go_wp2_with fail
          go_ret
          exact ⟨by rw [HN3.out]; rfl, hv.alloc _⟩
        · have h2 : (l.length : Int) ≤ i := by omega
          clear h1
          go_wp2_with fail
          go_ret
          exact ⟨by rw [HN3.out]; rfl, hv.alloc _⟩
      by_cases h3 : 3500 < s.size
      · have HN3 := Lib.hid (show r = 2 by rw [HN2.out, hUW, if_neg h1, if_pos h3]; exact if_neg (by decide))
        have h4 : ¬ i < 0 := by omega
        have h5 : ¬ (l.length : Int) ≤ i := by omega
        clear hUW HN2 hN h1
        go_wp2_with fail
        go_ret
        exact ⟨by rw [HN3.out]; rfl, hv.alloc _⟩
      · have HN3 := Lib.hid (show r = wrsE l.length (m.drop (k + 1)) by rw [HN2.out, hUW, if_neg h1, if_neg h3]; rfl)
        have h4 : ¬ i < 0 := by omega
        have h5 : ¬ (l.length : Int) ≤ i := by omega
        clear hUW HN2 hN h1
        go_wp2_with fail
        go_roundw
        case rel => exact ⟨k + 1, by omega, by go_num, hv.alloc _, hv1.alloc _, HN3⟩
        case measure => simp [intOf]; omega
    have HR3 := Lib.hid (show r = 0 by rw [hN.out, List.drop_eq_nil_of_le (by omega)]; rfl)
    clear hN
    go_wp2_with fail
    go_ret
    exact ⟨by rw [HR3.out]; rfl, hv⟩
open Go.RowKit
theorem results_dk {fn : Func} {p : Tmp} (h : fn.results = #[.cell p 25]) (tmps : Array Value) (w : World) (g : Nat) (t : TypeId) (cs : Array Value) (fr : Nat × Nat)
    (hp : tmps.getD p undef = .pointer (some ⟨g, 0, none⟩)) (hg : w.heap[g]? = some (.cells cs t fr)) (hsz : cs.size = 2) : (results fn tmps).run Try.prog w = .ok (.agg cs) w := by
  have hp' : tmps[p]?.getD undef = .pointer (some ⟨g, 0, none⟩) := by simpa using hp
  have hi : (Try.prog.info? 25).map (·.size) = some cs.size := by rw [hsz]; kernel_rfl
  simp [results, h, hp', asAddr, run_loadVar_row w g t 25 cs fr _ hg Try.underlying25 rfl hi]
theorem end_dk {P : Program} {fn : Func} {p : Tmp} {Q : Ending → World → Prop} (hP : P = Try.prog) (h : fn.results = #[.cell p 25]) (a : Act) (w : World) (g : Nat) (t : TypeId) (cs : Array Value) (fr : Nat × Nat) (hd : a.defers = [])
    (hp : a.tmps.getD p undef = .pointer (some ⟨g, 0, none⟩)) (hg : w.heap[g]? = some (.cells cs t fr)) (hsz : cs.size = 2) (hQ : Q (.returned (.agg cs)) w) : bodyPost P fn Q .ret a w := by
  subst hP
  exact bodyPost_ret (v := .agg cs) (results_dk h a.tmps w g t cs fr hp hg hsz) hd hQ
def DoneEnd (l : List ByteArray) (m : List Wr) (f : Nat → Bool) (w : World) (e : Ending) (w' : World) : Prop := ∃ A c, e = .returned (.agg #[.slice A l.length c, .slice none 0 0]) ∧ OwnP w.heap.size w' (.slice A l.length c) (doneL f 0 m l) ∧ Calm w w'
theorem synced1_any (k : Nat) (w : World) : Calls Try.prog 94 #[.int .i64 k] w fun e w' => e = .returned (.bool true) ∧ Calm w w' := by
 go_enter Try.func94, Try.ntmps94
 go_wp2_with fail
 go_ret
 exact ⟨rfl, Calm.refl _⟩
set_option maxHeartbeats 8000000 in
theorem doneSync_any (P Q : Option Addr) (cp cq : Nat) (l : List ByteArray) (m : List Wr) (w : World) (hP : LiesP w P l) (hQ : LiesW w Q m) (hz : dkErr l m = 0) :
    Calls Try.prog 93 #[.agg #[.slice P l.length cp, .slice Q m.length cq], .func (.func 94) #[] #[]] w (DoneEnd l m (fun _ => true) w) := by
  have hx := heap_past (.cells #[.slice none 0 0, .slice none 0 0] 25) (heap_new w (.cells #[.slice P l.length cp, .slice Q m.length cq] 25))
  have hr := heap_new (w.alloc (.cells #[.slice P l.length cp, .slice Q m.length cq] 25)) (.cells #[.slice none 0 0, .slice none 0 0] 25)
  rw [World.size_alloc] at hr
  have hu := ((Calm.refl w).alloc (.cells #[.slice P l.length cp, .slice Q m.length cq] 25)).alloc (.cells #[.slice none 0 0, .slice none 0 0] 25)
  have cF : ∀ (k : Nat) u, Calm w u → Calls Try.prog 94 #[.int .i64 k] u fun e w' => e = .returned (.bool ((fun _ => true) k)) ∧ Calm u w' := fun k u _ => synced1_any k u
  obtain ⟨x0, x1, hxs⟩ := rowD hx
  obtain ⟨r0, r1, hrs⟩ := rowD hr
  have HE : Hid (∀ w' A c, OwnP w.heap.size w' (.slice A l.length c) (doneL (fun _ => true) 0 m l) → Calm w w' → DoneEnd l m (fun _ => true) w (.returned (.agg #[.slice A l.length c, .slice none 0 0])) w') := show ∀ _, _ from fun w' A c h1 hw => ⟨A, c, rfl, h1, hw⟩
  generalize DoneEnd l m (fun _ => true) w = PE at HE ⊢
  obtain ⟨h6, h5, -, hWS⟩ := dkErr_zero.1 hz
  have HWS := Lib.hid hWS
  have cP := fun u (hu : Calm w u) => cloneP_any P cp l u (by omega) (hP.calm hu)
  have HQ := Lib.hid hQ
  clear hz hP hQ hWS
  go_enter Try.func93, Try.ntmps93
  generalize hQ0 : bodyPost Try.prog Try.f93 PE = Q0
  have HRET : Hid (∀ a w', bodyPost Try.prog Try.f93 PE .ret a w' → Q0 .ret a w') := show ∀ _ _, _ from fun a w' h => by rw [← hQ0]; exact h
  clear hQ0
  go_upto_region 2 with
    (go_at_call 26; (with_reducible refine (cP _ hu).mono ?_); rintro e w4 ⟨v4, rfl, ho4, hb1⟩; have hsz4 := hb1.size; replace hx := (hb1.block hxs).trans hx; replace hr := (hb1.block hrs).trans hr; replace hu := hu.call hb1; obtain ⟨x0, x1, hxs⟩ := rowD hx; obtain ⟨A4, c4, rfl, hc4, -⟩ := ho4.slice; clear cP hb1)
  rw [World.size_alloc, World.size_alloc] at ho4 hsz4
  have hO := heap_new w4 (.cells #[.slice A4 l.length c4, .slice none 0 0] 25)
  replace hx := heap_past (.cells #[.slice A4 l.length c4, .slice none 0 0] 25) hx
  replace hr := heap_past (.cells #[.slice A4 l.length c4, .slice none 0 0] 25) hr
  replace hu := hu.alloc (.cells #[.slice A4 l.length c4, .slice none 0 0] 25)
  have hOl : ∀ g, Value.ownBlock (.slice A4 l.length c4) = some g → g < w4.heap.size := fun g hg => (ho4.lt g hg).2
  replace ho4 := ho4.calm ((Calm.refl _).alloc (.cells #[.slice A4 l.length c4, .slice none 0 0] 25))
  generalize w4.heap.size = O4 at hO hOl hsz4 ⊢
  generalize w4.alloc (.cells #[.slice A4 l.length c4, .slice none 0 0] 25) = w5 at hO hx hr hu ho4 ⊢
  have HO := Lib.hid ho4
  have HOl := Lib.hid hOl
  clear ho4 r0 r1 hrs x0 x1 hxs hOl
  obtain ⟨x0, x1, hxs⟩ := rowD hx
  go_wp2_with fail
  go_loopw [15, 6, 7] (fun i _ _ wr => ∃ k : Nat, k ≤ m.length ∧ i = .int .i64 k ∧ Calm w wr ∧ Hid (OwnP (w.heap.size + 1 + 1) wr (.slice A4 l.length c4) (doneL (fun _ => true) 0 (m.take k) l)) ∧ wr.heap[w.heap.size + 1]? = some (.cells #[.slice none 0 0, .slice none 0 0] 25 (0, 0)) ∧ wr.heap[O4]? = some (.cells #[.slice A4 l.length c4, .slice none 0 0] 25 (0, 0))) (fun i _ _ _ => m.length - (intOf i).toNat)
  case atStart => exact ⟨0, Nat.zero_le _, rfl, hu, HO, hr, hO⟩
  case round =>
    obtain ⟨k, hk, rfl, hv, HOk, hr, hO⟩ := hrel
    obtain ⟨o0, o1, hos⟩ := rowD hO
    by_cases hlt : k < m.length
    rotate_left
    · have hkl : m.take k = m := List.take_of_length_le (by omega)
      rw [hkl] at HOk
      have HO8 := HOk
      obtain ⟨r0, r1, hrs⟩ := rowD hr
      obtain ⟨f0, f1⟩ := freeD2 hr
      clear HOk hkl
      go_wp2_with fail
      have hr9 := setD2 hr (.slice A4 l.length c4) (.slice none 0 0)
      have hu9 := hv.twoD (g := w.heap.size + 1) (by omega) (.slice A4 l.length c4) (.slice none 0 0)
      exact HRET.out _ _ (end_dk (p := 4) rfl rfl _ _ _ _ _ _ rfl rfl hr9 rfl (HE.out _ A4 c4 (OwnG.weaken (rowsG_set (rowsG_set HO8.out (Nat.lt_succ_self _) 0 (.slice A4 l.length c4)) (Nat.lt_succ_self _) 1 (.slice none 0 0)) (by omega)) hu9))
    obtain ⟨b, q, i, s, rfl, hb, HEw, c0, c1⟩ := (HQ.out.calm hv).get hlt
    have hW := wrE_zero.1 (HWS.out _ (List.mem_of_getElem? HEw.out))
    obtain ⟨p, rfl⟩ : ∃ p : Nat, i = (p : Int) := ⟨i.toNat, by have := hW.1; simp only at this; omega⟩
    have hpl : p < l.length := by have := hW.2.1; simp only at this; omega
    have hdl := doneL_len (fun _ => true) (m.take k) 0 l
    obtain ⟨bk, hbk⟩ : ∃ bk : Bool, bk = (fun _ => true) k := ⟨_, rfl⟩
    have HT := Lib.hid (show doneL (fun _ => true) 0 (m.take (k + 1)) l = if bk = true then (doneL (fun _ => true) 0 (m.take k) l).set p s else doneL (fun _ => true) 0 (m.take k) l by rw [hbk]; exact doneL_take (f := (fun _ => true)) (ps := l) HEw.out)
    have cFk : ∀ u, Calm w u → Calls Try.prog 94 #[.int .i64 k] u fun e w' => e = .returned (.bool bk) ∧ Calm u w' := fun u hu => by rw [hbk]; exact cF k u hu
    have hak := (hv.alloc (.cells #[.int .i64 (p : Int), .string s] 45))
    have hyk := heap_new wr (.cells #[.int .i64 (p : Int), .string s] 45)
    have HO1 := Lib.hid (OwnP.calm HOk.out ((Calm.refl wr).alloc (.cells #[.int .i64 (p : Int), .string s] 45)))
    have hr1 := heap_past (.cells #[.int .i64 (p : Int), .string s] 45) hr
    have hO1 := heap_past (.cells #[.int .i64 (p : Int), .string s] 45) hO
    clear hr HOk hW hbk HEw hO o0 o1 hos
    generalize doneL (fun _ => true) 0 (m.take k) l = L at HO1 HT hdl
    obtain ⟨g4, cap4, hA4⟩ := OwnG.some_ HO1.out (by omega)
    obtain rfl : A4 = some ⟨g4, 0, none⟩ := by injection hA4
    have hg4 := (HO1.out.lt g4 rfl).1
    have hg5 := HOl.out g4 rfl
    clear hA4 cap4
    cases bk
    · have HT := Lib.hid (HT.out.trans (if_neg (by simp)))
      go_wp2_with (go_at_call 94; (with_reducible refine (cFk _ hak).mono ?_); rintro e w9 ⟨rfl, hb9⟩)
      go_roundw
      case rel => exact ⟨k + 1, by omega, by go_num, hak.call hb9, by rw [HT.out]; exact HO1.out.calm hb9, (hb9.block (rowD hr1).2.2).trans hr1, (hb9.block (rowD hO1).2.2).trans hO1⟩
      case measure => simp [intOf]; omega
    · have HT := Lib.hid (HT.out.trans (if_pos rfl))
      go_wp2_with (go_at_call 94; (with_reducible refine (cFk _ hak).mono ?_); rintro e w9 ⟨rfl, hb9⟩; have hyk2 := (hb9.block (rowD hyk).2.2).trans hyk; obtain ⟨y0, y1, hys⟩ := rowD hyk2; have hO2 := (hb9.block (rowD hO1).2.2).trans hO1; obtain ⟨o0, o1, hos⟩ := rowD hO2; have HO9 := Lib.hid (HO1.out.calm hb9); have hcell : w9.cell? ⟨g4, p, none⟩ = some (.string (L[p]'(by omega))) := (by have := (OwnG.cell stC_len HO9.out (show p < L.length by omega)).1 0 (by omega); rw [Nat.mul_one, Nat.add_zero] at this; exact this); have hfz := OwnG.frozen HO9.out p; have hpz : (p : Int) < (l.length : Int) := by omega)
      have HO10 : OwnP (w.heap.size + 1 + 1) (w9.setCell ⟨g4, p, none⟩ (.string s)) (.slice (some ⟨g4, 0, none⟩) l.length c4) (L.set p s) := by
        have := OwnG.set stC_len (i := p) (j := 0) (u := .string s) (x := s) HO9.out (by omega) (by omega) rfl
        rw [Nat.mul_one, Nat.add_zero] at this
        exact this
      go_roundw
      case rel => exact ⟨k + 1, by omega, by go_num, (hak.call hb9).setCell (p := ⟨g4, p, none⟩) (show w.heap.size ≤ g4 by omega) _, by rw [HT.out]; exact HO10, (heap_setCell_other _ _ _ _ (by show w.heap.size + 1 ≠ g4; omega)).trans ((hb9.block (rowD hr1).2.2).trans hr1), (heap_setCell_other _ _ _ _ (by show O4 ≠ g4; omega)).trans hO2⟩
      case measure => simp [intOf]; omega
set_option maxHeartbeats 4000000 in
theorem synced_any (P Q : Option Addr) (cp cq : Nat) (l : List ByteArray) (m : List Wr) (w : World) (hP : LiesP w P l) (hQ : LiesW w Q m) (hz : dkErr l m = 0) :
    Calls Try.prog 59 #[.agg #[.slice P l.length cp, .slice Q m.length cq]] w (DoneEnd l m (fun _ => true) w) := by
  have hx := heap_past (.cells #[.slice none 0 0, .slice none 0 0] 25) (heap_new w (.cells #[.slice P l.length cp, .slice Q m.length cq] 25))
  have hr := heap_new (w.alloc (.cells #[.slice P l.length cp, .slice Q m.length cq] 25)) (.cells #[.slice none 0 0, .slice none 0 0] 25)
  rw [World.size_alloc] at hr
  have hu := ((Calm.refl w).alloc (.cells #[.slice P l.length cp, .slice Q m.length cq] 25)).alloc (.cells #[.slice none 0 0, .slice none 0 0] 25)
  have cD := fun u (hu : Calm w u) => doneSync_any P Q cp cq l m u (hP.calm hu) (hQ.calm hu) hz
  unfold DoneEnd at cD
  have HE : Hid (∀ w' A c, OwnP w.heap.size w' (.slice A l.length c) (doneL (fun _ => true) 0 m l) → Calm w w' → DoneEnd l m (fun _ => true) w (.returned (.agg #[.slice A l.length c, .slice none 0 0])) w') := show ∀ _, _ from fun w' A c h1 hw => ⟨A, c, rfl, h1, hw⟩
  generalize DoneEnd l m (fun _ => true) w = PE at HE ⊢
  generalize doneL (fun _ => true) 0 m l = L at HE cD
  obtain ⟨x0, x1, hxs⟩ := rowD hx
  obtain ⟨r0, r1, hrs⟩ := rowD hr
  obtain ⟨f0, f1⟩ := freeD2 hr
  clear hP hQ hz
  go_enter Try.func59, Try.ntmps59
  generalize hQ0 : bodyPost Try.prog Try.f59 PE = Q0
  have HRET : Hid (∀ a w', bodyPost Try.prog Try.f59 PE .ret a w' → Q0 .ret a w') := show ∀ _ _, _ from fun a w' h => by rw [← hQ0]; exact h
  clear hQ0
  go_wp2_with (go_at_call 93; (with_reducible refine (cD _ hu).mono ?_); rintro e w1 ⟨A9, c9, rfl, ho9, hb1⟩; have HO9 := Lib.hid ho9; clear ho9; replace hr := (hb1.block hrs).trans hr; replace hu := hu.call hb1; have hs1 := hrs; clear hb1 r0 r1 hrs f0 f1 x0 x1 hxs; obtain ⟨r0, r1, hrs⟩ := rowD hr; obtain ⟨f0, f1⟩ := freeD2 hr)
  have hr9 := setD2 hr (.slice A9 l.length c9) (.slice none 0 0)
  have hu9 := hu.twoD (g := w.heap.size + 1) (by omega) (.slice A9 l.length c9) (.slice none 0 0)
  exact HRET.out _ _ (end_dk (p := 2) rfl rfl _ _ _ _ _ _ rfl rfl hr9 rfl (HE.out _ A9 c9 (OwnG.weaken (rowsG_set (rowsG_set HO9.out hs1 0 (.slice A9 l.length c9)) hs1 1 (.slice none 0 0)) (by omega)) hu9))
open Go.RowKit
structure HasD (w : World) (P Q : Option Addr) (l : List ByteArray) (m : List Wr) : Prop where
 p : LiesP w P l
 q : LiesW w Q m
structure DkO (B : Nat) (w : World) (P Q : Option Addr) (cp cq : Nat) (l : List ByteArray) (m : List Wr) : Prop where
 p : OwnP B w (.slice P l.length cp) l
 q : OwnW B w (.slice Q m.length cq) m
section
variable {w w' : World} {P Q : Option Addr} {l : List ByteArray} {m : List Wr} {B cp cq : Nat}
theorem HasD.calm (h : HasD w P Q l m) (hb : Calm w w') : HasD w' P Q l m := ⟨h.p.calm hb, h.q.calm hb⟩
theorem DkO.calm (h : DkO B w P Q cp cq l m) (hb : Calm w w') : DkO B w' P Q cp cq l m := ⟨h.p.calm hb, h.q.calm hb⟩
theorem DkO.has (h : DkO B w P Q cp cq l m) : HasD w P Q l m := ⟨(OwnP.at_ h.p).2, (OwnW.at_ h.q).2⟩
end
theorem dk_len {l : List ByteArray} {m : List Wr} (h : dkErr l m = 0) : l.length ≤ 9223372036854775807 ∧ m.length ≤ 9223372036854775807 := by
 have := dkErr_zero.1 h
 omega
def NoDisk (E : Int) (w : World) (e : Ending) (w' : World) : Prop := e = .returned (.tuple #[.agg #[.slice none 0 0, .slice none 0 0], .int .i64 E]) ∧ Calm w w'
def ADisk (l : List ByteArray) (m : List Wr) (w : World) (e : Ending) (w' : World) : Prop := ∃ P cp Q cq, e = .returned (.tuple #[.agg #[.slice P l.length cp, .slice Q m.length cq], .int .i64 0]) ∧ DkO w.heap.size w' P Q cp cq l m ∧ Calm w w'
section
variable {w : World} {P Q : Option Addr} {l : List ByteArray} {m : List Wr}
theorem HasD.put_ok (h : HasD w P Q l m) (cp cq : Nat) {i : Int} {s : ByteArray} (hE : ptE l m ⟨i, s⟩ = 0) : Calls Try.prog 29 #[.agg #[.slice P l.length cp, .slice Q m.length cq], .int .i64 i, .string s] w (ADisk l (m ++ [⟨i, s⟩]) w) := by
 have hz : dkErr l m = 0 := by
  by_cases hz : dkErr l m = 0
  ·exact hz
  ·unfold ptE at hE; rw [if_neg hz] at hE; exact absurd hE hz
 have hn := dk_len hz
 refine (diskPut_ok P Q cp cq l m i s w h.p h.q hn.1 hn.2 hE).mono fun e w' he => ?_
 rcases he with ⟨h2, -⟩ | ⟨-, v, u, h2, h3, h4, h5⟩
 ·exact absurd hE h2
 ·obtain ⟨P', cp', rfl, -, -⟩ := h3.slice
  obtain ⟨Q', cq', rfl, -, -⟩ := h4.slice
  exact ⟨P', cp', Q', cq', h2, ⟨h3, h4⟩, h5⟩
theorem HasD.rd (h : HasD w P Q l m) (cp cq : Nat) (hz : dkErr l m = 0) {k : Nat} {x : ByteArray} (hk : l[k]? = some x) : Calls Try.prog 54 #[.agg #[.slice P l.length cp, .slice Q m.length cq], .int .i64 k] w fun e w' => e = .returned (.tuple #[.string (rdL k m x), .int .i64 0]) ∧ Calm w w' := by
 have hn := dk_len hz
 have h1 := diskRead_any P Q cp cq l m k w h.p h.q hn.1 hn.2
 have hkl := (List.getElem?_eq_some_iff.1 hk).1
 have e1 : rdE l m k = 0 := by unfold rdE; rw [if_pos hz, if_neg (by omega)]
 have e2 : rdS l m k = rdL k m x := by
  unfold rdS
  rw [e1, if_pos rfl, Int.toNat_natCast, List.getD_eq_getElem?_getD, hk]; rfl
 rw [e1, e2] at h1
 exact h1
theorem HasD.sync_ok (h : HasD w P Q l m) (cp cq : Nat) (hz : dkErr l m = 0) : Calls Try.prog 21 #[.agg #[.slice P l.length cp, .slice Q m.length cq]] w (ADisk (curP l m) [] w) := by
 have hn := dk_len hz
 refine (diskSync_any P Q cp cq l m w h.p h.q hn.1 hn.2).mono fun e w' he => ?_
 rcases he with ⟨h2, -⟩ | ⟨-, v, h2, h3, h5⟩
 ·exact absurd hz h2
 ·obtain ⟨P', cp', rfl, -, -⟩ := OwnG.slice h3
  exact ⟨P', cp', none, 0, h2, ⟨h3, OwnW.nil _ _⟩, h5⟩
theorem HasD.sync_bad (h : HasD w P Q l m) (cp cq : Nat) (hn : l.length ≤ 9223372036854775807) (hm : m.length ≤ 9223372036854775807) {E : Int} (hE : dkErr l m = E) (h0 : E ≠ 0) : Calls Try.prog 21 #[.agg #[.slice P l.length cp, .slice Q m.length cq]] w (NoDisk E w) :=
 (diskSync_any P Q cp cq l m w h.p h.q hn hm).mono fun e w' he => by
  rcases he with ⟨-, h2, h3⟩ | ⟨h2, -⟩
  ·rw [hE] at h2; exact ⟨h2, h3⟩
  ·rw [hE] at h2; exact absurd h2 h0
end
def ASync (L : List ByteArray) (n : Nat) (w : World) (e : Ending) (w' : World) : Prop := ∃ P cp, e = .returned (.tuple #[.agg #[.slice P n cp, .slice none 0 0], .int .i64 0]) ∧ OwnP w.heap.size w' (.slice P n cp) L ∧ Calm w w'
section
variable {w : World} {P Q : Option Addr} {l : List ByteArray} {m : List Wr}
theorem HasD.sync (h : HasD w P Q l m) (cp cq : Nat) (hz : dkErr l m = 0) : Calls Try.prog 21 #[.agg #[.slice P l.length cp, .slice Q m.length cq]] w (ASync (curP l m) l.length w) := by
 have hn := dk_len hz
 refine (diskSync_any P Q cp cq l m w h.p h.q hn.1 hn.2).mono fun e w' he => ?_
 rcases he with ⟨h2, -⟩ | ⟨-, v, h2, h3, h5⟩
 ·exact absurd hz h2
 ·obtain ⟨P', cp', rfl, -, -⟩ := OwnG.slice h3
  rw [doneL_len] at h2 h3
  exact ⟨P', cp', h2, h3, h5⟩
theorem HasD.crash (h : HasD w P Q l m) (cp cq : Nat) (hz : dkErr l m = 0) (A : Option Addr) (c : Nat) (K : List Bool) (hK : LiesO w A K) : Calls Try.prog 19 #[.agg #[.slice P l.length cp, .slice Q m.length cq], .slice A K.length c] w (ASync (doneL (selK K) 0 m l) l.length w) := by
 have hn := dk_len hz
 refine (diskCrash_any P Q cp cq l m A c K w h.p h.q hn.1 hn.2 hK).mono fun e w' he => ?_
 rcases he with ⟨h2, -⟩ | ⟨-, v, h2, h3, h5⟩
 ·exact absurd hz h2
 ·obtain ⟨P', cp', rfl, -, -⟩ := OwnG.slice h3
  rw [doneL_len] at h2 h3
  exact ⟨P', cp', h2, h3, h5⟩
end
/-- Of a page: what was safe, or a write of it that was done. -/
theorem done_val {f : Nat → Bool} {n : Nat} : ∀ {ws : List Wr} {k0 : Nat} {ps : List ByteArray} {p T : ByteArray}, (∀ x ∈ ws, wrE ps.length x = 0) → ps[n]? = some p → (doneL f k0 ws ps)[n]? = some T → T = p ∨ ∃ j x, ws[j]? = some x ∧ x.i = (n : Int) ∧ T = x.s ∧ f (k0 + j) = true
 | [], k0, ps, p, T, _, h1, h2 => .inl (by have h2 : ps[n]? = some T := h2; rw [h1] at h2; exact (Option.some.inj h2).symm)
 |y :: ws, k0, ps, p, T, hw, h1, h2 => by
  have hy := wrE_zero.1 (hw y List.mem_cons_self)
  have h2 : (doneL f (k0 + 1) ws (if f k0 = true then ps.set y.i.toNat y.s else ps))[n]? = some T := h2
  have hn := (List.getElem?_eq_some_iff.1 h1).1
  by_cases hf : f k0 = true
  ·rw [if_pos hf] at h2
   by_cases hi : y.i = (n : Int)
   ·have h3 : (ps.set y.i.toNat y.s)[n]? = some y.s := by rw [List.getElem?_set, if_pos (by omega), if_pos (by omega)]
    rcases done_val (ws := ws) (fun x hx => by rw [List.length_set]; exact hw x (List.mem_cons_of_mem _ hx)) h3 h2 with h4 | ⟨j, x, h4, h5, h6, h7⟩
    ·exact .inr ⟨0, y, rfl, hi, h4, hf⟩
    ·exact .inr ⟨j + 1, x, h4, h5, h6, by rw [show k0 + (j + 1) = k0 + 1 + j by omega]; exact h7⟩
   ·have h3 : (ps.set y.i.toNat y.s)[n]? = some p := by rw [List.getElem?_set, if_neg (by omega)]; exact h1
    rcases done_val (ws := ws) (fun x hx => by rw [List.length_set]; exact hw x (List.mem_cons_of_mem _ hx)) h3 h2 with h4 | ⟨j, x, h4, h5, h6, h7⟩
    ·exact .inl h4
    ·exact .inr ⟨j + 1, x, h4, h5, h6, by rw [show k0 + (j + 1) = k0 + 1 + j by omega]; exact h7⟩
  ·rw [if_neg hf] at h2
   rcases done_val (ws := ws) (fun x hx => hw x (List.mem_cons_of_mem _ hx)) h1 h2 with h4 | ⟨j, x, h4, h5, h6, h7⟩
   ·exact .inl h4
   ·exact .inr ⟨j + 1, x, h4, h5, h6, by rw [show k0 + (j + 1) = k0 + 1 + j by omega]; exact h7⟩
theorem rdL_none {i : Int} : ∀ {ws : List Wr} {s : ByteArray}, (∀ x ∈ ws, x.i ≠ i) → rdL i ws s = s
 | [], _, _ => rfl
 |x :: ws, s, h => by
  show rdL i ws (if x.i = i then x.s else s) = s
  rw [if_neg (h x List.mem_cons_self)]
  exact rdL_none fun y hy => h y (List.mem_cons_of_mem _ hy)
end Go.Proofs.Ytmpgikplpohjnaa
