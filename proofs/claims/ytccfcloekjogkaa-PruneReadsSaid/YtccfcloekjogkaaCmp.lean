import Derived.Test.YtccfcloekjogkaaLow
import Derived.Deep.RegionWith
import Derived.Deep.RegionHeld3
import Derived.Deep.DeepCutAuto
import Derived.Deep.QuietTactic
import Derived.BigQuiet
namespace Go.Proofs.Ytccfcloekjogkaa
open Go.RowKit

set_option maxRecDepth 100000 in
set_option maxHeartbeats 400000 in
theorem isNaN_any (a : Int) (w : World) : Calls Try.prog 106 #[.int .i64 a] w fun e w' => e = .returned (.bool false) ∧ w = w' := by
  go_enter Try.func106, Try.ntmps106
  go_wp2
  go_ret
  simp

set_option maxRecDepth 100000 in
set_option maxHeartbeats 400000 in
theorem compare_any (a b : Int) (w : World) : Calls Try.prog 78 #[.int .i64 a, .int .i64 b] w fun e w' => e = .returned (.int .i64 (icmp a b)) ∧ w = w' := by
  by_cases h1 : a < b
  rotate_left
  by_cases h2 : b < a
  rotate_left
  all_goals
    unfold icmp
    first | rw [if_pos (by assumption)] | rw [if_neg (by assumption), if_pos (by assumption)] | rw [if_neg (by assumption), if_neg (by assumption)]
    go_enter Try.func78, Try.ntmps78
    go_wp2_with (go_at_call 106; refine (isNaN_any _ _).mono ?_; rintro e w1 ⟨rfl, rfl⟩)
    go_ret
    exact ⟨rfl, rfl⟩

/-- Two keys in memory. -/
def KeysAt (w : World) (x y : Nat) (p o f p' o' f' : Int) (wx : World) : Prop :=
  wx.cell? ⟨x, 0, none⟩ = some (.int .i64 p) ∧ wx.cell? ⟨x, 1, none⟩ = some (.int .i64 o) ∧ wx.cell? ⟨x, 2, none⟩ = some (.int .i64 f) ∧
    wx.cell? ⟨y, 0, none⟩ = some (.int .i64 p') ∧ wx.cell? ⟨y, 1, none⟩ = some (.int .i64 o') ∧ wx.cell? ⟨y, 2, none⟩ = some (.int .i64 f') ∧ x < wx.heap.size ∧ y < wx.heap.size ∧ Calm w wx
set_option maxRecDepth 100000 in
theorem KeysAt.drewN {w wx : World} {x y : Nat} {p o f p' o' f' : Int} (h : KeysAt w x y p o f p' o' f' wx) (n : Nat) : KeysAt w x y p o f p' o' f' (wx.drewN n) := by
  obtain ⟨h1, h2, h3, h4, h5, h6, h7, h8, h9⟩ := h
  exact ⟨h1, h2, h3, h4, h5, h6, h7, h8, h9.drewN n⟩
/-- What two boxed keys leave. -/
def TwoKeys (w : World) (p o f p' o' f' : Int) (s2 s3 : Value) (wx : World) : Prop :=
  ∃ x y : Nat, s2 = .pointer (some ⟨x, 0, none⟩) ∧ s3 = .pointer (some ⟨y, 0, none⟩) ∧ KeysAt w x y p o f p' o' f' wx

set_option maxRecDepth 100000 in
set_option maxHeartbeats 4000000 in
theorem cmp_any (p o f p' o' f' : Int) (w : World) :
    Calls Try.prog 67 #[.agg #[.int .i64 p, .int .i64 o, .int .i64 f], .agg #[.int .i64 p', .int .i64 o', .int .i64 f']] w fun e w' => e = .returned (.int .i64 (kcmp p o f p' o' f')) ∧ Calm w w' := by
  go_enter Try.func67, Try.ntmps67
  go_upto_region 0 with fail
  go_cut [2, 3, 4] (fun s2 s3 s4 wx => TwoKeys w p o f p' o' f' s2 s3 wx ∧ s4 = .int .i64 0)
  case first =>
    go_wp2_with fail
    go_meet
    refine ⟨⟨_, _, rfl, rfl, ?_, ?_, ?_, ?_, ?_, ?_, ?_, ?_, ?_⟩, rfl⟩
    all_goals first | (with_reducible exact ((Calm.refl _).alloc _).alloc _) | go_simp
  case rest =>
  obtain ⟨⟨x, y, rfl, rfl, x0, x1, x2, y0, y1, y2, hx, hy, hu⟩, rfl⟩ := hcut
  go_upto_region 1 with fail
  go_cut [5, 6] (fun s5 s6 wx => TwoKeys w p o f p' o' f' s5 s6 wx)
  case first =>
    refine wp_region_plan [.val (.agg #[.int .i64 p, .int .i64 o, .int .i64 f]), .val (.agg #[.int .i64 p, .int .i64 o, .int .i64 f]), .val (.agg #[.int .i64 p', .int .i64 o', .int .i64 f']), .val (.agg #[.int .i64 p', .int .i64 o', .int .i64 f']),
      .new #[.int .i64 0, .int .i64 0, .int .i64 0] 135, .new #[.int .i64 0, .int .i64 0, .int .i64 0] 135, .fill 4 #[.int .i64 p, .int .i64 o, .int .i64 f], .fill 5 #[.int .i64 p', .int .i64 o', .int .i64 f']] (by kernel_rfl) (by kernel_rfl) (by kernel_rfl) ?_
    intro X
    refine plan_val (by kernel_rfl) (fun u hu => ?_) ?_
    · obtain ⟨hc, hf, hz⟩ := hu.of_drew.facts
      go_simp
    simp only [Act.put, List.setIfInBounds_toArray, List.set_cons_zero, List.set_cons_succ]
    refine plan_val (by kernel_rfl) (fun u hu => ?_) ?_
    · go_simp
      exact components_any _ _ _ _
    simp only [Act.put, List.setIfInBounds_toArray, List.set_cons_zero, List.set_cons_succ]
    refine plan_val (by kernel_rfl) (fun u hu => ?_) ?_
    · obtain ⟨hc, hf, hz⟩ := hu.of_drew.facts
      go_simp
    simp only [Act.put, List.setIfInBounds_toArray, List.set_cons_zero, List.set_cons_succ]
    refine plan_val (by kernel_rfl) (fun u hu => ?_) ?_
    · go_simp
      exact components_any _ _ _ _
    simp only [Act.put, List.setIfInBounds_toArray, List.set_cons_zero, List.set_cons_succ]
    refine plan_new (by kernel_rfl) (fun u => ?_) ?_
    · go_simp
    simp only [Act.put, List.setIfInBounds_toArray, List.set_cons_zero, List.set_cons_succ]
    refine plan_new (by kernel_rfl) (fun u => ?_) ?_
    · go_simp
    simp only [Act.put, List.setIfInBounds_toArray, List.set_cons_zero, List.set_cons_succ]
    refine plan_fill_row rfl rfl rfl (by kernel_rfl) rfl rfl rfl (by kernel_rfl) rfl (by simp [Value.oneCell']) ?_
    refine plan_fill_row rfl rfl rfl (by kernel_rfl) rfl rfl rfl (by kernel_rfl) rfl (by simp [Value.oneCell']) ?_
    refine plan_end ?_
    intro w' hB
    have r4 : w'.heap[X 4]? = some (.cells #[.int .i64 p, .int .i64 o, .int .i64 f] 135) := (hB.row 4 _ _ rfl).2
    have r5 : w'.heap[X 5]? = some (.cells #[.int .i64 p', .int .i64 o', .int .i64 f'] 135) := (hB.row 5 _ _ rfl).2
    go_wp2_with fail
    go_meet
    exact ⟨X 4, X 5, rfl, rfl, cell_of_row _ _ 0 _ _ _ r4, cell_of_row _ _ 1 _ _ _ r4, cell_of_row _ _ 2 _ _ _ r4, cell_of_row _ _ 0 _ _ _ r5, cell_of_row _ _ 1 _ _ _ r5, cell_of_row _ _ 2 _ _ _ r5, (Array.getElem?_eq_some_iff.1 r4).1, (Array.getElem?_eq_some_iff.1 r5).1, hu.call hB.calm.of_drew⟩
  case rest =>
  obtain ⟨x, y, rfl, rfl, hK⟩ := hcut
  obtain ⟨x0, x1, x2, y0, y1, y2, hx, hy, hu⟩ := id hK
  go_wp2_with fail
  by_cases e1 : icmp p p' = 0
  rotate_left
  · have b1 : (icmp p p' != 0) = true := by simpa using e1
    have K : Hid (icmp p p' = kcmp p o f p' o' f') := by show _ = _; simp [kcmp, e1]
    clear e1
    refine wp_loop_rounds 4 ?_
    rw [rounds_succ]
    go_wp2_with fail
    go_quiet ((go_at_call 78; exact quiet_same (compare_any _ _ _) ⟨_, rfl⟩))
    go_wp2_with fail
    go_ret
    exact ⟨ret_int K.out, hu.drewN _⟩
  have b1 : (icmp p p' != 0) = false := by simpa using e1
  by_cases e2 : icmp o o' = 0
  rotate_left
  · have b2 : (icmp o o' != 0) = true := by simpa using e2
    have K : Hid (icmp o o' = kcmp p o f p' o' f') := by show _ = _; simp [kcmp, e1, e2]
    clear e1 e2
    refine wp_loop_rounds 4 ?_
    rw [rounds_succ]
    go_wp2_with fail
    go_quiet ((go_at_call 78; exact quiet_same (compare_any _ _ _) ⟨_, rfl⟩))
    replace hK := hK.drewN nq
    generalize wc.drewN nq = wd at hK ⊢
    clear hx hy hu x0 x1 x2 y0 y1 y2 wc
    obtain ⟨x0, x1, x2, y0, y1, y2, hx, hy, hu⟩ := id hK
    rename World => wc
    go_wp2_with fail
    rw [rounds_succ]
    go_wp2_with fail
    go_quiet ((go_at_call 78; exact quiet_same (compare_any _ _ _) ⟨_, rfl⟩))
    go_wp2_with fail
    go_ret
    exact ⟨ret_int K.out, hu.drewN _⟩
  have b2 : (icmp o o' != 0) = false := by simpa using e2
  by_cases e3 : icmp f f' = 0
  all_goals
    have b3 : (icmp f f' != 0) = !decide (icmp f f' = 0) := by by_cases h : icmp f f' = 0 <;> simp [h]
    have e4 : kcmp p o f p' o' f' = icmp f f' := by simp [kcmp, e1, e2]
    first
      | (have e5 : decide (icmp f f' = 0) = true := decide_eq_true e3
         rw [e5] at b3
         have K : Hid (0 = kcmp p o f p' o' f') := by show _ = _; rw [e4, e3]
         clear e1 e2 e3 e4 e5)
      | (have e5 : decide (icmp f f' = 0) = false := decide_eq_false e3
         rw [e5] at b3
         have K : Hid (icmp f f' = kcmp p o f p' o' f') := by show _ = _; rw [e4]
         clear e1 e2 e3 e4 e5)
    refine wp_loop_rounds 4 ?_
    rw [rounds_succ]
    go_wp2_with fail
    go_quiet ((go_at_call 78; exact quiet_same (compare_any _ _ _) ⟨_, rfl⟩))
    replace hK := hK.drewN nq
    generalize wc.drewN nq = wd at hK ⊢
    clear hx hy hu x0 x1 x2 y0 y1 y2 wc
    obtain ⟨x0, x1, x2, y0, y1, y2, hx, hy, hu⟩ := id hK
    rename World => wc
    go_wp2_with fail
    rw [rounds_succ]
    go_wp2_with fail
    go_quiet ((go_at_call 78; exact quiet_same (compare_any _ _ _) ⟨_, rfl⟩))
    replace hK := hK.drewN nq
    generalize wc.drewN nq = wd at hK ⊢
    clear hx hy hu x0 x1 x2 y0 y1 y2 wc
    obtain ⟨x0, x1, x2, y0, y1, y2, hx, hy, hu⟩ := id hK
    rename World => wc
    go_wp2_with fail
    rw [rounds_succ]
    go_wp2_with fail
    go_quiet ((go_at_call 78; exact quiet_same (compare_any _ _ _) ⟨_, rfl⟩))
    go_wp2_with fail
    try (rw [rounds_succ]; go_wp2_with fail)
    go_ret
    exact ⟨ret_int K.out, hu.drewN _⟩

end Go.Proofs.Ytccfcloekjogkaa
