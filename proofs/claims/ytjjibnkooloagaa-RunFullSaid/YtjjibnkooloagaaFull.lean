/- annalkeep.Within, annalkeep.full. -/
import Derived.Test.YtjjibnkooloagaaLit
import Derived.Test.YtjjibnkooloagaaPure8
import Derived.Test.YtjjibnkooloagaaRange
namespace Go.Proofs.Ytjjibnkooloagaa
open Go.ChangeShapes Go.WideShapes Go.ChangeAt Go.RowKit

set_option maxHeartbeats 2000000 in
theorem within_any (k : Int) : (∃ x : Nat, x < 400 ∧ ∀ w, Calls Try.prog 33 #[.int .i64 k, .int .i64 400] w fun e w' => e = .returned (.int .i64 x) ∧ w = w') ∧ ∃ x : Int, 0 ≤ x ∧ x < 9 ∧ ∀ w, Calls Try.prog 33 #[.int .i64 k, .int .i64 9] w fun e w' => e = .returned (.int .i64 x) ∧ w = w' := by
  have h0 : 0 ≤ IntKind.u64.wrap k := by
    show 0 ≤ k % 18446744073709551616
    omega
  constructor
  · refine ⟨(IntKind.u64.wrap k % 400).toNat, by omega, fun w => ?_⟩
    go_enter Try.func33, Try.ntmps33
    go_wp2_with fail
    go_returns
    refine ⟨?_, rfl⟩
    have h1 : (IntKind.u64.wrap k).tmod 400 = IntKind.u64.wrap k % 400 := Int.tmod_eq_emod_of_nonneg h0
    have h2 : wrap64 (IntKind.u64.wrap k % 400) = IntKind.u64.wrap k % 400 := by unfold wrap64; omega
    show Ending.returned (.int .i64 (IntKind.u64.wrap k % 400)) = _
    rw [Int.toNat_of_nonneg (by omega)]
  · refine ⟨IntKind.u64.wrap k % 9, by omega, by omega, fun w => ?_⟩
    go_enter Try.func33, Try.ntmps33
    go_wp2_with fail
    go_returns
    refine ⟨?_, rfl⟩
    have h1 : (IntKind.u64.wrap k).tmod 9 = IntKind.u64.wrap k % 9 := Int.tmod_eq_emod_of_nonneg h0
    have h2 : wrap64 (IntKind.u64.wrap k % 9) = IntKind.u64.wrap k % 9 := by unfold wrap64; omega
    rfl

theorem fullN_wf (n : Nat) : ∀ e ∈ fullN n, e.wf := fun e he => by
  obtain ⟨i, _, rfl⟩ := fullN_mem.1 he
  unfold El.wf rec1; simp only; omega

set_option maxRecDepth 100000 in
set_option maxHeartbeats 8000000 in
theorem full_mk (w : World) : Calls Try.prog 37 #[] w (Sl1End (fullN 400) w) := by
  obtain ⟨N, hN⟩ : ∃ N, N = 400 := ⟨_, rfl⟩
  rw [show fullN 400 = fullN N by rw [hN]]
  go_enter Try.func37, Try.ntmps37
  go_wp2_with fail
  go_loopw [1, 3] (fun v i wr => ∃ k : Nat, k ≤ 400 ∧ i = .int .i64 k ∧ Calm w wr ∧ Hid (OwnR w.heap.size wr v (fullN k))) (fun _ i _ => 400 - (intOf i).toNat)
  case atStart => exact ⟨0, Nat.zero_le _, rfl, Calm.refl _, show OwnR _ _ _ _ from OwnR.nil _ _⟩
  case round =>
    obtain ⟨k, hk, rfl, hur, ho⟩ := hrel
    by_cases hlt : k < 400
    rotate_left
    · have K : k = N := by omega
      subst K
      have hS := ho.out.sl (fullN_wf _)
      go_wp2_with fail
      go_ret
      exact ⟨_, rfl, hS, hur⟩
    have HT := Lib.hid (fullN_snoc k)
    have hlk := fullN_length k
    go_wp2_with (first
      | (go_at_call 29; refine (at1k_any _ _ _).mono ?_; rintro e w1 ⟨rfl, hb1⟩; replace ho := Lib.hid (ho.out.calm hb1); replace hur := hur.call hb1; clear hb1)
      | (at_builtin; refine wpList_append_el rfl _ _ rfl _ _ _ rfl (ho.out.calm ((Calm.refl _).alloc _)) _ _ 0 0 k 1 0 { data := #[] } _ rfl (heap_new _ _) (by omega) (by simp; exact Nat.le_succ_of_le hur.size) ?_; intro v' w9 ho9 hc9; have hur9 := hc9 _ (Nat.le_refl _) (hur.alloc _); rw [show fullN k ++ [⟨0, 0, (k : Int), 1, 0, { data := #[] }⟩] = fullN (k + 1) from HT.out.symm] at ho9))
    have HO := Lib.hid ho9
    clear ho9 HT hc9
    go_roundw
    case rel => exact ⟨k + 1, by omega, by go_num, hur9, HO⟩
    case measure => simp [intOf]; omega
end Go.Proofs.Ytjjibnkooloagaa
