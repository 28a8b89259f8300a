/- MC: texts of one kind in one file. -/
import Derived.Test.YtgebilpdinbfgaaRows
import Derived.WalkSpells
import Derived.WalkLawsBesides
import Derived.Lib.Hide
import Derived.Deep.RegionWith
import Derived.Deep.RegionHeld3
import Derived.Deep.DeepCutAuto
import Derived.Deep.QuietTactic
import Derived.BigQuiet
import Derived.Laws.OwnMore
import Derived.Deep.AppendLies
import Derived.Deep.Draws
import Derived.Laws.BytesArg
import Derived.Laws.MakeOwn
import Derived.Laws.IdiomStrings
import Derived.IntWalk
import Derived.Laws.BitsAll
import Derived.OwnWalk
import Derived.Lib.AppendStr
import Derived.Deep.Slices
import Derived.ProofKit
import Derived.OpenShut
import Derived.Lib.SmallJoins
import Derived.SizedLaws
import Derived.Test.YtgebilpdinbfgaaMA
import Derived.Test.YtgebilpdinbfgaaMB
/- What each function of packages key and elem, and of annalref beside them, answers: walked once each. No conditions but the ranges of int64 where they are named. -/
namespace Go.Proofs.Ytgebilpdinbfgaa
open Go.RowKit

set_option maxRecDepth 100000 in
theorem ret_int {a b : Int} (h : a = b) : Ending.returned (.int .i64 a) = .returned (.int .i64 b) := by rw [h]
set_option maxRecDepth 100000 in
theorem ret_bool {a b : Bool} (h : a = b) : Ending.returned (.bool a) = .returned (.bool b) := by rw [h]

/-! ### key -/
set_option maxRecDepth 100000 in
set_option maxHeartbeats 400000 in
theorem components_any (p o f : Int) (w : World) :
    Calls Try.prog 75 #[.agg #[.int .i64 p, .int .i64 o, .int .i64 f]] w fun e w' => e = .returned (.agg #[.int .i64 p, .int .i64 o, .int .i64 f]) ∧ Calm w w' := by
  go_enter Try.func75, Try.ntmps75
  go_wp2
  go_returns
  exact ⟨rfl, by repeat (first | exact Calm.refl _ | refine Calm.alloc ?_ _)⟩

set_option maxRecDepth 100000 in
theorem index3 (x y z : Value) (w : World) : (Instr.index 117 (.agg #[x, y, z]) (.int .i64 0)).run Try.prog w = .ok x w ∧ (Instr.index 117 (.agg #[x, y, z]) (.int .i64 1)).run Try.prog w = .ok y w ∧ (Instr.index 117 (.agg #[x, y, z]) (.int .i64 2)).run Try.prog w = .ok z w :=
  ⟨by kernel_rfl, by kernel_rfl, by kernel_rfl⟩

set_option maxRecDepth 100000 in
set_option maxHeartbeats 1000000 in
theorem keyCheck_any (p o f : Int) (w : World) :
    Calls Try.prog 46 #[.agg #[.int .i64 p, .int .i64 o, .int .i64 f]] w fun e w' => e = .returned (.int .i64 (keyErr p o f)) ∧ Calm w w' := by
  have i0 := fun x y z w => (index3 x y z w).1
  have i1 := fun x y z w => (index3 x y z w).2.1
  have i2 := fun x y z w => (index3 x y z w).2.2
  by_cases h1 : p < 0
  rotate_left
  by_cases h2 : 15 < p
  rotate_left
  by_cases h3 : o < 0
  rotate_left
  by_cases h4 : 1048576 < o
  rotate_left
  by_cases h5 : f < 0
  rotate_left
  by_cases h6 : 1073741824 < f
  rotate_left
  all_goals
    first | rw [keyErr_no (by omega)] | rw [keyErr_ok (by omega) (by omega) (by omega) (by omega) (by omega) (by omega)]
    go_enter Try.func46, Try.ntmps46
    go_wp2_with (go_at_call 75; refine (components_any _ _ _ _).mono ?_; rintro e w1 ⟨rfl, hb1⟩; obtain ⟨hc1, hf1, hz1⟩ := hb1.facts)
    refine wp_loop_rounds 4 ?_
    rw [rounds_succ]
    go_wp2
    repeat (rw [rounds_succ]; go_wp2)
    go_returns
    exact ⟨rfl, by repeat (first | (with_reducible exact Calm.refl _) | (with_reducible refine Calm.alloc ?_ _) | (refine Calm.call ?_ (by with_reducible assumption)))⟩

end Go.Proofs.Ytgebilpdinbfgaa

namespace Go.Proofs.Ytgebilpdinbfgaa
open Go.RowKit

set_option maxRecDepth 100000 in
set_option maxHeartbeats 400000 in
theorem isNaN_any (a : Int) (w : World) : Calls Try.prog 113 #[.int .i64 a] w fun e w' => e = .returned (.bool false) ∧ w = w' := by
  go_enter Try.func113, Try.ntmps113
  go_wp2
  go_ret
  simp

set_option maxRecDepth 100000 in
set_option maxHeartbeats 400000 in
theorem compare_any (a b : Int) (w : World) : Calls Try.prog 89 #[.int .i64 a, .int .i64 b] w fun e w' => e = .returned (.int .i64 (icmp a b)) ∧ w = w' := by
  by_cases h1 : a < b
  rotate_left
  by_cases h2 : b < a
  rotate_left
  all_goals
    unfold icmp
    first | rw [if_pos (by assumption)] | rw [if_neg (by assumption), if_pos (by assumption)] | rw [if_neg (by assumption), if_neg (by assumption)]
    go_enter Try.func89, Try.ntmps89
    go_wp2_with (go_at_call 113; refine (isNaN_any _ _).mono ?_; rintro e w1 ⟨rfl, rfl⟩)
    go_ret
    exact ⟨rfl, rfl⟩

/-- Two keys in memory. -/
def KeysAt (w : World) (x y : Nat) (p o f p' o' f' : Int) (wx : World) : Prop :=
  wx.cell? ⟨x, 0, none⟩ = some (.int .i64 p) ∧ wx.cell? ⟨x, 1, none⟩ = some (.int .i64 o) ∧ wx.cell? ⟨x, 2, none⟩ = some (.int .i64 f) ∧
    wx.cell? ⟨y, 0, none⟩ = some (.int .i64 p') ∧ wx.cell? ⟨y, 1, none⟩ = some (.int .i64 o') ∧ wx.cell? ⟨y, 2, none⟩ = some (.int .i64 f') ∧ x < wx.heap.size ∧ y < wx.heap.size ∧ Calm w wx
set_option maxRecDepth 100000 in
theorem KeysAt.drewN {w wx : World} {x y : Nat} {p o f p' o' f' : Int} (h : KeysAt w x y p o f p' o' f' wx) (n : Nat) : KeysAt w x y p o f p' o' f' (wx.drewN n) := by
  obtain ⟨h1, h2, h3, h4, h5, h6, h7, h8, h9⟩ := h
  exact ⟨h1, h2, h3, h4, h5, h6, h7, h8, h9.drewN n⟩
/-- What two boxed keys leave. -/
def TwoKeys (w : World) (p o f p' o' f' : Int) (s2 s3 : Value) (wx : World) : Prop :=
  ∃ x y : Nat, s2 = .pointer (some ⟨x, 0, none⟩) ∧ s3 = .pointer (some ⟨y, 0, none⟩) ∧ KeysAt w x y p o f p' o' f' wx

set_option maxRecDepth 100000 in
set_option maxHeartbeats 4000000 in
theorem cmp_any (p o f p' o' f' : Int) (w : World) :
    Calls Try.prog 56 #[.agg #[.int .i64 p, .int .i64 o, .int .i64 f], .agg #[.int .i64 p', .int .i64 o', .int .i64 f']] w fun e w' => e = .returned (.int .i64 (kcmp p o f p' o' f')) ∧ Calm w w' := by
  go_enter Try.func56, Try.ntmps56
  go_upto_region 0 with fail
  go_cut [2, 3, 4] (fun s2 s3 s4 wx => TwoKeys w p o f p' o' f' s2 s3 wx ∧ s4 = .int .i64 0)
  case first =>
    go_wp2_with fail
    go_meet
    refine ⟨⟨_, _, rfl, rfl, ?_, ?_, ?_, ?_, ?_, ?_, ?_, ?_, ?_⟩, rfl⟩
    all_goals first | (with_reducible exact ((Calm.refl _).alloc _).alloc _) | go_simp
  case rest =>
  obtain ⟨⟨x, y, rfl, rfl, x0, x1, x2, y0, y1, y2, hx, hy, hu⟩, rfl⟩ := hcut
  go_upto_region 1 with fail
  go_cut [5, 6] (fun s5 s6 wx => TwoKeys w p o f p' o' f' s5 s6 wx)
  case first =>
    refine wp_region_plan [.val (.agg #[.int .i64 p, .int .i64 o, .int .i64 f]), .val (.agg #[.int .i64 p, .int .i64 o, .int .i64 f]), .val (.agg #[.int .i64 p', .int .i64 o', .int .i64 f']), .val (.agg #[.int .i64 p', .int .i64 o', .int .i64 f']),
      .new #[.int .i64 0, .int .i64 0, .int .i64 0] 117, .new #[.int .i64 0, .int .i64 0, .int .i64 0] 117, .fill 4 #[.int .i64 p, .int .i64 o, .int .i64 f], .fill 5 #[.int .i64 p', .int .i64 o', .int .i64 f']] (by kernel_rfl) (by kernel_rfl) (by kernel_rfl) ?_
    intro X
    refine plan_val (by kernel_rfl) (fun u hu => ?_) ?_
    · obtain ⟨hc, hf, hz⟩ := hu.of_drew.facts
      go_simp
    simp only [Act.put, List.setIfInBounds_toArray, List.set_cons_zero, List.set_cons_succ]
    refine plan_val (by kernel_rfl) (fun u hu => ?_) ?_
    · go_simp
      exact components_any _ _ _ _
    simp only [Act.put, List.setIfInBounds_toArray, List.set_cons_zero, List.set_cons_succ]
    refine plan_val (by kernel_rfl) (fun u hu => ?_) ?_
    · obtain ⟨hc, hf, hz⟩ := hu.of_drew.facts
      go_simp
    simp only [Act.put, List.setIfInBounds_toArray, List.set_cons_zero, List.set_cons_succ]
    refine plan_val (by kernel_rfl) (fun u hu => ?_) ?_
    · go_simp
      exact components_any _ _ _ _
    simp only [Act.put, List.setIfInBounds_toArray, List.set_cons_zero, List.set_cons_succ]
    refine plan_new (by kernel_rfl) (fun u => ?_) ?_
    · go_simp
    simp only [Act.put, List.setIfInBounds_toArray, List.set_cons_zero, List.set_cons_succ]
    refine plan_new (by kernel_rfl) (fun u => ?_) ?_
    · go_simp
    simp only [Act.put, List.setIfInBounds_toArray, List.set_cons_zero, List.set_cons_succ]
    refine plan_fill_row rfl rfl rfl (by kernel_rfl) rfl rfl rfl (by kernel_rfl) rfl (by simp [Value.oneCell']) ?_
    refine plan_fill_row rfl rfl rfl (by kernel_rfl) rfl rfl rfl (by kernel_rfl) rfl (by simp [Value.oneCell']) ?_
    refine plan_end ?_
    intro w' hB
    have r4 : w'.heap[X 4]? = some (.cells #[.int .i64 p, .int .i64 o, .int .i64 f] 117) := (hB.row 4 _ _ rfl).2
    have r5 : w'.heap[X 5]? = some (.cells #[.int .i64 p', .int .i64 o', .int .i64 f'] 117) := (hB.row 5 _ _ rfl).2
    go_wp2_with fail
    go_meet
    exact ⟨X 4, X 5, rfl, rfl, cell_of_row _ _ 0 _ _ _ r4, cell_of_row _ _ 1 _ _ _ r4, cell_of_row _ _ 2 _ _ _ r4, cell_of_row _ _ 0 _ _ _ r5, cell_of_row _ _ 1 _ _ _ r5, cell_of_row _ _ 2 _ _ _ r5, (Array.getElem?_eq_some_iff.1 r4).1, (Array.getElem?_eq_some_iff.1 r5).1, hu.call hB.calm.of_drew⟩
  case rest =>
  obtain ⟨x, y, rfl, rfl, hK⟩ := hcut
  obtain ⟨x0, x1, x2, y0, y1, y2, hx, hy, hu⟩ := id hK
  go_wp2_with fail
  by_cases e1 : icmp p p' = 0
  rotate_left
  · have b1 : (icmp p p' != 0) = true := by simpa using e1
    have K : Hid (icmp p p' = kcmp p o f p' o' f') := by show _ = _; simp [kcmp, e1]
    clear e1
    refine wp_loop_rounds 4 ?_
    rw [rounds_succ]
    go_wp2_with fail
    go_quiet ((go_at_call 89; exact quiet_same (compare_any _ _ _) ⟨_, rfl⟩))
    go_wp2_with fail
    go_ret
    exact ⟨ret_int K.out, hu.drewN _⟩
  have b1 : (icmp p p' != 0) = false := by simpa using e1
  by_cases e2 : icmp o o' = 0
  rotate_left
  · have b2 : (icmp o o' != 0) = true := by simpa using e2
    have K : Hid (icmp o o' = kcmp p o f p' o' f') := by show _ = _; simp [kcmp, e1, e2]
    clear e1 e2
    refine wp_loop_rounds 4 ?_
    rw [rounds_succ]
    go_wp2_with fail
    go_quiet ((go_at_call 89; exact quiet_same (compare_any _ _ _) ⟨_, rfl⟩))
    replace hK := hK.drewN nq
    generalize wc.drewN nq = wd at hK ⊢
    clear hx hy hu x0 x1 x2 y0 y1 y2 wc
    obtain ⟨x0, x1, x2, y0, y1, y2, hx, hy, hu⟩ := id hK
    rename World => wc
    go_wp2_with fail
    rw [rounds_succ]
    go_wp2_with fail
    go_quiet ((go_at_call 89; exact quiet_same (compare_any _ _ _) ⟨_, rfl⟩))
    go_wp2_with fail
    go_ret
    exact ⟨ret_int K.out, hu.drewN _⟩
  have b2 : (icmp o o' != 0) = false := by simpa using e2
  by_cases e3 : icmp f f' = 0
  all_goals
    have b3 : (icmp f f' != 0) = !decide (icmp f f' = 0) := by by_cases h : icmp f f' = 0 <;> simp [h]
    have e4 : kcmp p o f p' o' f' = icmp f f' := by simp [kcmp, e1, e2]
    first
      | (have e5 : decide (icmp f f' = 0) = true := decide_eq_true e3
         rw [e5] at b3
         have K : Hid (0 = kcmp p o f p' o' f') := by show _ = _; rw [e4, e3]
         clear e1 e2 e3 e4 e5)
      | (have e5 : decide (icmp f f' = 0) = false := decide_eq_false e3
         rw [e5] at b3
         have K : Hid (icmp f f' = kcmp p o f p' o' f') := by show _ = _; rw [e4]
         clear e1 e2 e3 e4 e5)
    refine wp_loop_rounds 4 ?_
    rw [rounds_succ]
    go_wp2_with fail
    go_quiet ((go_at_call 89; exact quiet_same (compare_any _ _ _) ⟨_, rfl⟩))
    replace hK := hK.drewN nq
    generalize wc.drewN nq = wd at hK ⊢
    clear hx hy hu x0 x1 x2 y0 y1 y2 wc
    obtain ⟨x0, x1, x2, y0, y1, y2, hx, hy, hu⟩ := id hK
    rename World => wc
    go_wp2_with fail
    rw [rounds_succ]
    go_wp2_with fail
    go_quiet ((go_at_call 89; exact quiet_same (compare_any _ _ _) ⟨_, rfl⟩))
    replace hK := hK.drewN nq
    generalize wc.drewN nq = wd at hK ⊢
    clear hx hy hu x0 x1 x2 y0 y1 y2 wc
    obtain ⟨x0, x1, x2, y0, y1, y2, hx, hy, hu⟩ := id hK
    rename World => wc
    go_wp2_with fail
    rw [rounds_succ]
    go_wp2_with fail
    go_quiet ((go_at_call 89; exact quiet_same (compare_any _ _ _) ⟨_, rfl⟩))
    go_wp2_with fail
    try (rw [rounds_succ]; go_wp2_with fail)
    go_ret
    exact ⟨ret_int K.out, hu.drewN _⟩

end Go.Proofs.Ytgebilpdinbfgaa

/- What the functions of package elem, the spots of package key, and annalref beside them, answer. -/
namespace Go.Proofs.Ytgebilpdinbfgaa
open Go.RowKit

set_option maxRecDepth 100000 in
set_option maxHeartbeats 1000000 in
theorem cmpSpot_any (p o f m p' o' f' m' : Int) (w : World) :
    Calls Try.prog 66 #[.agg #[.int .i64 p, .int .i64 o, .int .i64 f, .int .i64 m], .agg #[.int .i64 p', .int .i64 o', .int .i64 f', .int .i64 m']] w fun e w' => e = .returned (.int .i64 (scmp p o f m p' o' f' m')) ∧ Calm w w' := by
  by_cases e1 : kcmp p o f p' o' f' = 0
  · have b1 : (kcmp p o f p' o' f' != 0) = false := by simpa using e1
    have K : Hid (icmp m m' = scmp p o f m p' o' f' m') := by show _ = _; simp [scmp, e1]
    clear e1
    go_enter Try.func66, Try.ntmps66
    go_wp2_with (first
      | (go_at_call 56; refine (cmp_any _ _ _ _ _ _ _).mono ?_; rintro e w1 ⟨rfl, hb1⟩; obtain ⟨hc1, hf1, hz1⟩ := hb1.facts; (try simp only [World.size_drew] at hc1 hf1 hz1); (try simp only [World.size_alloc] at hc1 hf1 hz1))
      | (go_at_call 89; refine (compare_any _ _ _).mono ?_; rintro e w1 ⟨rfl, rfl⟩))
    go_ret
    exact ⟨ret_int K.out, by repeat (first | (with_reducible exact Calm.refl _) | (with_reducible refine Calm.alloc ?_ _) | (with_reducible refine Calm.drew ?_) | (with_reducible refine Calm.drewN ?_ _) | (refine Calm.call ?_ (by with_reducible assumption)))⟩
  · have b1 : (kcmp p o f p' o' f' != 0) = true := by simpa using e1
    have K : Hid (kcmp p o f p' o' f' = scmp p o f m p' o' f' m') := by show _ = _; simp [scmp, e1]
    clear e1
    go_enter Try.func66, Try.ntmps66
    go_wp2_with (first
      | (go_at_call 56; refine (cmp_any _ _ _ _ _ _ _).mono ?_; rintro e w1 ⟨rfl, hb1⟩; obtain ⟨hc1, hf1, hz1⟩ := hb1.facts; (try simp only [World.size_drew] at hc1 hf1 hz1); (try simp only [World.size_alloc] at hc1 hf1 hz1))
      | (go_at_call 89; refine (compare_any _ _ _).mono ?_; rintro e w1 ⟨rfl, rfl⟩))
    go_ret
    exact ⟨ret_int K.out, by repeat (first | (with_reducible exact Calm.refl _) | (with_reducible refine Calm.alloc ?_ _) | (with_reducible refine Calm.drew ?_) | (with_reducible refine Calm.drewN ?_ _) | (refine Calm.call ?_ (by with_reducible assumption)))⟩

set_option maxRecDepth 100000 in
set_option maxHeartbeats 400000 in
theorem between_any (x n : Int) (w : World) : Calls Try.prog 35 #[.int .i64 x, .int .i64 n] w fun e w' => e = .returned (.bool (decide (0 ≤ x ∧ x ≤ n))) ∧ w = w' := by
  go_enter Try.func35, Try.ntmps35
  go_wp2
  all_goals
    go_ret
    exact ⟨ret_bool (Bool.eq_iff_iff.2 (by simp; omega)), rfl⟩

set_option maxRecDepth 100000 in
set_option maxHeartbeats 400000 in
theorem isTime_any (x : Int) (w : World) : Calls Try.prog 76 #[.int .i64 x] w fun e w' => e = .returned (.bool (decide (1 ≤ x ∧ x ≤ 2147483647))) ∧ w = w' := by
  go_enter Try.func76, Try.ntmps76
  go_wp2
  all_goals
    go_ret
    exact ⟨ret_bool (Bool.eq_iff_iff.2 (by simp; omega)), rfl⟩

set_option maxRecDepth 100000 in
set_option maxHeartbeats 1000000 in
theorem refKey_any (p o f : Int) (w : World) : Calls Try.prog 11 #[.agg #[.int .i64 p, .int .i64 o, .int .i64 f]] w fun e w' => e = .returned (.int .i64 (keyErr p o f)) ∧ Calm w w' := by
  go_enter Try.func11, Try.ntmps11
  go_wp2_with (go_at_call 35; refine (between_any _ _ _).mono ?_; rintro e w1 ⟨rfl, rfl⟩)
  all_goals
    go_ret
    exact ⟨ret_int (by first | rw [keyErr_ok (by omega) (by omega) (by omega) (by omega) (by omega) (by omega)] | rw [keyErr_no (by omega)]), by repeat (first | (with_reducible exact Calm.refl _) | (with_reducible refine Calm.alloc ?_ _) | (with_reducible refine Calm.drew ?_) | (with_reducible refine Calm.drewN ?_ _) | (refine Calm.call ?_ (by with_reducible assumption)))⟩

set_option maxRecDepth 100000 in
set_option maxHeartbeats 1000000 in
theorem ahead_any (p o f p' o' f' : Int) (w : World) : Calls Try.prog 36 #[.agg #[.int .i64 p, .int .i64 o, .int .i64 f], .agg #[.int .i64 p', .int .i64 o', .int .i64 f']] w fun e w' => e = .returned (.bool (aheadB p o f p' o' f')) ∧ Calm w w' := by
  go_enter Try.func36, Try.ntmps36
  go_wp2
  all_goals
    go_ret
    exact ⟨ret_bool (Bool.eq_iff_iff.2 (by rw [aheadB_iff]; simp_all; try omega)), by repeat (first | (with_reducible exact Calm.refl _) | (with_reducible refine Calm.alloc ?_ _) | (with_reducible refine Calm.drew ?_) | (with_reducible refine Calm.drewN ?_ _) | (refine Calm.call ?_ (by with_reducible assumption)))⟩

set_option maxRecDepth 100000 in
set_option maxHeartbeats 1000000 in
theorem aheadSpot_any (p o f m p' o' f' m' : Int) (w : World) : Calls Try.prog 27 #[.agg #[.int .i64 p, .int .i64 o, .int .i64 f, .int .i64 m], .agg #[.int .i64 p', .int .i64 o', .int .i64 f', .int .i64 m']] w fun e w' => e = .returned (.bool (aheadS p o f m p' o' f' m')) ∧ Calm w w' := by
  cases hA : aheadB p o f p' o' f'
  all_goals
    go_enter Try.func27, Try.ntmps27
    go_wp2_with (go_at_call 36; refine (ahead_any _ _ _ _ _ _ _).mono ?_; rintro e w1 ⟨rfl, hb1⟩; obtain ⟨hc1, hf1, hz1⟩ := hb1.facts; (try simp only [World.size_drew] at hc1 hf1 hz1); (try simp only [World.size_alloc] at hc1 hf1 hz1))
    all_goals
      go_ret
      exact ⟨ret_bool (Bool.eq_iff_iff.2 (by rw [aheadS_iff, hA]; simp_all)), by repeat (first | (with_reducible exact Calm.refl _) | (with_reducible refine Calm.alloc ?_ _) | (with_reducible refine Calm.drew ?_) | (with_reducible refine Calm.drewN ?_ _) | (refine Calm.call ?_ (by with_reducible assumption)))⟩

/-! ### elem -/
set_option maxRecDepth 100000 in
set_option maxHeartbeats 1000000 in
theorem timesFit_any (m g : Int) (w : World) : Calls Try.prog 47 #[.int .i64 m, .int .i64 g] w fun e w' => e = .returned (.bool (decide (timeOk m g))) ∧ w = w' := by
  go_enter Try.func47, Try.ntmps47
  go_wp2_with (go_at_call 76; refine (isTime_any _ _).mono ?_; rintro e w1 ⟨rfl, rfl⟩)
  all_goals
    go_ret
    exact ⟨ret_bool (Bool.eq_iff_iff.2 (by rw [decide_eq_true_eq]; unfold timeOk; simp at * <;> omega)), rfl⟩


set_option maxRecDepth 100000 in
set_option maxHeartbeats 1000000 in
theorem elemCheck_any (p o f m g : Int) (s : ByteArray) (w : World) : Calls Try.prog 21 #[.agg #[.int .i64 p, .int .i64 o, .int .i64 f, .int .i64 m, .int .i64 g, .string s]] w fun e w' => e = .returned (.int .i64 (elemErr p o f m g s.size)) ∧ Calm w w' := by
  by_cases h1 : keyErr p o f = 0
  rotate_left
  · have b1 : (keyErr p o f != 0) = true := by simpa using h1
    have K : Hid (keyErr p o f = elemErr p o f m g s.size) := (elemErr_key h1).symm
    clear h1
    go_enter Try.func21, Try.ntmps21
    go_wp2_with (go_at_call 46; refine (keyCheck_any _ _ _ _).mono ?_; rintro e w1 ⟨rfl, hb1⟩; obtain ⟨hc1, hf1, hz1⟩ := hb1.facts; (try simp only [World.size_drew] at hc1 hf1 hz1); (try simp only [World.size_alloc] at hc1 hf1 hz1))
    go_ret
    exact ⟨ret_int K.out, by repeat (first | (with_reducible exact Calm.refl _) | (with_reducible refine Calm.alloc ?_ _) | (with_reducible refine Calm.drew ?_) | (with_reducible refine Calm.drewN ?_ _) | (refine Calm.call ?_ (by with_reducible assumption)))⟩
  have b1 : (keyErr p o f != 0) = false := by simpa using h1
  by_cases h2 : timeOk m g
  rotate_left
  · have b2 : decide (timeOk m g) = false := by simpa using h2
    have K : Hid (9 = elemErr p o f m g s.size) := (elemErr_time h1 h2).symm
    clear h1 h2
    go_enter Try.func21, Try.ntmps21
    go_wp2_with (first
      | (go_at_call 46; refine (keyCheck_any _ _ _ _).mono ?_; rintro e w1 ⟨rfl, hb1⟩; obtain ⟨hc1, hf1, hz1⟩ := hb1.facts; (try simp only [World.size_drew] at hc1 hf1 hz1); (try simp only [World.size_alloc] at hc1 hf1 hz1))
      | (go_at_call 47; refine (timesFit_any _ _ _).mono ?_; rintro e w1 ⟨rfl, rfl⟩))
    go_ret
    exact ⟨ret_int K.out, by repeat (first | (with_reducible exact Calm.refl _) | (with_reducible refine Calm.alloc ?_ _) | (with_reducible refine Calm.drew ?_) | (with_reducible refine Calm.drewN ?_ _) | (refine Calm.call ?_ (by with_reducible assumption)))⟩
  have b2 : decide (timeOk m g) = true := by simpa using h2
  by_cases h3 : (40 : Int) < s.size
  · have K : Hid (2 = elemErr p o f m g s.size) := (elemErr_long h1 h2 h3).symm
    clear h1 h2
    go_enter Try.func21, Try.ntmps21
    go_wp2_with (first
      | (go_at_call 46; refine (keyCheck_any _ _ _ _).mono ?_; rintro e w1 ⟨rfl, hb1⟩; obtain ⟨hc1, hf1, hz1⟩ := hb1.facts; (try simp only [World.size_drew] at hc1 hf1 hz1); (try simp only [World.size_alloc] at hc1 hf1 hz1))
      | (go_at_call 47; refine (timesFit_any _ _ _).mono ?_; rintro e w1 ⟨rfl, rfl⟩))
    go_ret
    exact ⟨ret_int K.out, by repeat (first | (with_reducible exact Calm.refl _) | (with_reducible refine Calm.alloc ?_ _) | (with_reducible refine Calm.drew ?_) | (with_reducible refine Calm.drewN ?_ _) | (refine Calm.call ?_ (by with_reducible assumption)))⟩
  · have K : Hid (0 = elemErr p o f m g s.size) := (elemErr_ok h1 h2 (by omega)).symm
    clear h1 h2
    go_enter Try.func21, Try.ntmps21
    go_wp2_with (first
      | (go_at_call 46; refine (keyCheck_any _ _ _ _).mono ?_; rintro e w1 ⟨rfl, hb1⟩; obtain ⟨hc1, hf1, hz1⟩ := hb1.facts; (try simp only [World.size_drew] at hc1 hf1 hz1); (try simp only [World.size_alloc] at hc1 hf1 hz1))
      | (go_at_call 47; refine (timesFit_any _ _ _).mono ?_; rintro e w1 ⟨rfl, rfl⟩))
    go_ret
    exact ⟨ret_int K.out, by repeat (first | (with_reducible exact Calm.refl _) | (with_reducible refine Calm.alloc ?_ _) | (with_reducible refine Calm.drew ?_) | (with_reducible refine Calm.drewN ?_ _) | (refine Calm.call ?_ (by with_reducible assumption)))⟩


set_option maxRecDepth 100000 in
set_option maxHeartbeats 2000000 in
theorem refElem_any (p o f m g : Int) (s : ByteArray) (w : World) (hm : -9223372036854775808 ≤ m) : Calls Try.prog 26 #[.agg #[.int .i64 p, .int .i64 o, .int .i64 f, .int .i64 m, .int .i64 g, .string s]] w fun e w' => e = .returned (.int .i64 (elemErr p o f m g s.size)) ∧ Calm w w' := by
  by_cases h1 : keyErr p o f = 0
  rotate_left
  · have b1 : (keyErr p o f != 0) = true := by simpa using h1
    have K : Hid (keyErr p o f = elemErr p o f m g s.size) := (elemErr_key h1).symm
    clear h1
    go_enter Try.func26, Try.ntmps26
    go_wp2_with (go_at_call 11; refine (refKey_any _ _ _ _).mono ?_; rintro e w1 ⟨rfl, hb1⟩; obtain ⟨hc1, hf1, hz1⟩ := hb1.facts; (try simp only [World.size_drew] at hc1 hf1 hz1); (try simp only [World.size_alloc] at hc1 hf1 hz1))
    go_ret
    exact ⟨ret_int K.out, by repeat (first | (with_reducible exact Calm.refl _) | (with_reducible refine Calm.alloc ?_ _) | (with_reducible refine Calm.drew ?_) | (with_reducible refine Calm.drewN ?_ _) | (refine Calm.call ?_ (by with_reducible assumption)))⟩
  have b1 : (keyErr p o f != 0) = false := by simpa using h1
  have H1 : Hid (keyErr p o f = 0) := h1
  clear h1
  go_enter Try.func26, Try.ntmps26
  go_wp2_with (go_at_call 11; refine (refKey_any _ _ _ _).mono ?_; rintro e w1 ⟨rfl, hb1⟩; obtain ⟨hc1, hf1, hz1⟩ := hb1.facts; (try simp only [World.size_drew] at hc1 hf1 hz1); (try simp only [World.size_alloc] at hc1 hf1 hz1))
  all_goals
    go_ret
    exact ⟨ret_int (by
      first
        | (rw [elemErr_time H1.out]; (unfold timeOk; simp at *; omega))
        | (rw [elemErr_long H1.out (by unfold timeOk; simp at *; omega) (by omega)])
        | (rw [elemErr_ok H1.out (by unfold timeOk; simp at *; omega) (by omega)])), by repeat (first | (with_reducible exact Calm.refl _) | (with_reducible refine Calm.alloc ?_ _) | (with_reducible refine Calm.drew ?_) | (with_reducible refine Calm.drewN ?_ _) | (refine Calm.call ?_ (by with_reducible assumption)))⟩

set_option maxRecDepth 100000 in
set_option maxHeartbeats 1000000 in
theorem spot_any (p o f m g : Int) (s : ByteArray) (w : World) : Calls Try.prog 42 #[.agg #[.int .i64 p, .int .i64 o, .int .i64 f, .int .i64 m, .int .i64 g, .string s]] w fun e w' => e = .returned (.agg #[.int .i64 p, .int .i64 o, .int .i64 f, .int .i64 m]) ∧ Calm w w' := by
  go_enter Try.func42, Try.ntmps42
  go_wp2
  go_returns
  exact ⟨rfl, by repeat (first | (with_reducible exact Calm.refl _) | (with_reducible refine Calm.alloc ?_ _) | (with_reducible refine Calm.drew ?_) | (with_reducible refine Calm.drewN ?_ _) | (refine Calm.call ?_ (by with_reducible assumption)))⟩
set_option maxRecDepth 100000 in
set_option maxHeartbeats 1000000 in
theorem refSpot_any (p o f m g : Int) (s : ByteArray) (w : World) : Calls Try.prog 28 #[.agg #[.int .i64 p, .int .i64 o, .int .i64 f, .int .i64 m, .int .i64 g, .string s]] w fun e w' => e = .returned (.agg #[.int .i64 p, .int .i64 o, .int .i64 f, .int .i64 m]) ∧ Calm w w' := by
  go_enter Try.func28, Try.ntmps28
  go_wp2
  go_returns
  exact ⟨rfl, by repeat (first | (with_reducible exact Calm.refl _) | (with_reducible refine Calm.alloc ?_ _) | (with_reducible refine Calm.drew ?_) | (with_reducible refine Calm.drewN ?_ _) | (refine Calm.call ?_ (by with_reducible assumption)))⟩



set_option maxRecDepth 100000 in
set_option maxHeartbeats 1000000 in
theorem live_any (p o f m g t : Int) (s : ByteArray) (w : World) : Calls Try.prog 57 #[.agg #[.int .i64 p, .int .i64 o, .int .i64 f, .int .i64 m, .int .i64 g, .string s], .int .i64 t] w fun e w' => e = .returned (.bool (decide (liveP m g t))) ∧ Calm w w' := by
  go_enter Try.func57, Try.ntmps57
  go_wp2
  all_goals
    go_ret
    exact ⟨ret_bool (Bool.eq_iff_iff.2 (by rw [decide_eq_true_eq]; unfold liveP; simp at * <;> omega)), by repeat (first | (with_reducible exact Calm.refl _) | (with_reducible refine Calm.alloc ?_ _) | (with_reducible refine Calm.drew ?_) | (with_reducible refine Calm.drewN ?_ _) | (refine Calm.call ?_ (by with_reducible assumption)))⟩
set_option maxRecDepth 100000 in
set_option maxHeartbeats 1000000 in
theorem refLive_any (p o f m g t : Int) (s : ByteArray) (w : World) : Calls Try.prog 34 #[.agg #[.int .i64 p, .int .i64 o, .int .i64 f, .int .i64 m, .int .i64 g, .string s], .int .i64 t] w fun e w' => e = .returned (.bool (decide (liveP m g t))) ∧ Calm w w' := by
  go_enter Try.func34, Try.ntmps34
  go_wp2
  all_goals
    go_ret
    exact ⟨ret_bool (Bool.eq_iff_iff.2 (by rw [decide_eq_true_eq]; unfold liveP; simp at * <;> omega)), by repeat (first | (with_reducible exact Calm.refl _) | (with_reducible refine Calm.alloc ?_ _) | (with_reducible refine Calm.drew ?_) | (with_reducible refine Calm.drewN ?_ _) | (refine Calm.call ?_ (by with_reducible assumption)))⟩
set_option maxRecDepth 100000 in
set_option maxHeartbeats 1000000 in
theorem last_any (p o f m g : Int) (s : ByteArray) (w : World) : Calls Try.prog 68 #[.agg #[.int .i64 p, .int .i64 o, .int .i64 f, .int .i64 m, .int .i64 g, .string s]] w fun e w' => e = .returned (.int .i64 (lastOf m g)) ∧ Calm w w' := by
  go_enter Try.func68, Try.ntmps68
  go_wp2
  all_goals
    go_ret
    exact ⟨ret_int (by unfold lastOf; split <;> omega), by repeat (first | (with_reducible exact Calm.refl _) | (with_reducible refine Calm.alloc ?_ _) | (with_reducible refine Calm.drew ?_) | (with_reducible refine Calm.drewN ?_ _) | (refine Calm.call ?_ (by with_reducible assumption)))⟩
set_option maxRecDepth 100000 in
set_option maxHeartbeats 1000000 in
theorem refLast_any (p o f m g : Int) (s : ByteArray) (w : World) : Calls Try.prog 52 #[.agg #[.int .i64 p, .int .i64 o, .int .i64 f, .int .i64 m, .int .i64 g, .string s]] w fun e w' => e = .returned (.int .i64 (lastOf m g)) ∧ Calm w w' := by
  go_enter Try.func52, Try.ntmps52
  go_wp2
  all_goals
    go_ret
    exact ⟨ret_int (by unfold lastOf; split <;> omega), by repeat (first | (with_reducible exact Calm.refl _) | (with_reducible refine Calm.alloc ?_ _) | (with_reducible refine Calm.drew ?_) | (with_reducible refine Calm.drewN ?_ _) | (refine Calm.call ?_ (by with_reducible assumption)))⟩
end Go.Proofs.Ytgebilpdinbfgaa

/- Records in memory: a slice that reads as a list of records, nil and empty ones too. -/
namespace Go.Proofs.Ytgebilpdinbfgaa
open Go.RowKit

def El.cells (e : El) : List Value := [.int .i64 e.p, .int .i64 e.o, .int .i64 e.f, .int .i64 e.m, .int .i64 e.g, .string e.s]
def El.wf (e : El) : Prop := -9223372036854775808 ≤ e.m

/-- The six cells of a record. -/
def ElAt (w : World) (b q : Nat) (e : El) : Prop :=
  w.cell? ⟨b, q, none⟩ = some (.int .i64 e.p) ∧ w.cell? ⟨b, q + 1, none⟩ = some (.int .i64 e.o) ∧ w.cell? ⟨b, q + 2, none⟩ = some (.int .i64 e.f) ∧ w.cell? ⟨b, q + 3, none⟩ = some (.int .i64 e.m) ∧ w.cell? ⟨b, q + 4, none⟩ = some (.int .i64 e.g) ∧ w.cell? ⟨b, q + 5, none⟩ = some (.string e.s)

/-- The records l stand from the address A on. -/
def Lies (w : World) (A : Option Addr) (l : List El) : Prop :=
  (∀ e ∈ l, e.wf) ∧ (0 < l.length → ∃ b q, A = some ⟨b, q, none⟩ ∧ b < w.heap.size ∧ ∀ k e, l[k]? = some e → ElAt w b (q + k * 6) e)

def Sl (w : World) (v : Value) (l : List El) : Prop := ∃ A c, v = .slice A l.length c ∧ l.length ≤ 9223372036854775807 ∧ Lies w A l

set_option maxRecDepth 100000 in
theorem ElAt.calm {w w' : World} {b q : Nat} {e : El} (h : ElAt w b q e) (hb : Calm w w') (hlt : b < w.heap.size) : ElAt w' b q e := by
  obtain ⟨h0, h1, h2, h3, h4, h5⟩ := h
  have hc := hb.facts.1
  exact ⟨(hc b _ hlt).trans h0, (hc b _ hlt).trans h1, (hc b _ hlt).trans h2, (hc b _ hlt).trans h3, (hc b _ hlt).trans h4, (hc b _ hlt).trans h5⟩
set_option maxRecDepth 100000 in
theorem Lies.calm {w w' : World} {A : Option Addr} {l : List El} (h : Lies w A l) (hb : Calm w w') : Lies w' A l :=
  ⟨h.1, fun hl => by
    obtain ⟨b, q, hA, hlt, hk⟩ := h.2 hl
    exact ⟨b, q, hA, Nat.lt_of_lt_of_le hlt hb.size, fun k e he => (hk k e he).calm hb hlt⟩⟩
set_option maxRecDepth 100000 in
theorem Sl.calm {w w' : World} {v : Value} {l : List El} (h : Sl w v l) (hb : Calm w w') : Sl w' v l := by
  obtain ⟨A, c, hv, hl, h⟩ := h
  exact ⟨A, c, hv, hl, h.calm hb⟩
set_option maxRecDepth 100000 in
theorem Sl.nil (w : World) (c : Nat) (A : Option Addr) : Sl w (.slice A 0 c) [] := ⟨A, c, rfl, by simp, by simp, fun h => absurd h (by simp)⟩
set_option maxRecDepth 100000 in
theorem Lies.at_ {w : World} {A : Option Addr} {l : List El} (h : Lies w A l) {k : Nat} (hk : k < l.length) : ∃ b q e, A = some ⟨b, q, none⟩ ∧ b < w.heap.size ∧ l[k]? = some e ∧ e.wf ∧ ElAt w b (q + k * 6) e := by
  obtain ⟨b, q, hA, hlt, h2⟩ := h.2 (by omega)
  exact ⟨b, q, l[k], hA, hlt, List.getElem?_eq_getElem hk, h.1 _ (List.getElem_mem _), h2 _ _ (List.getElem?_eq_getElem hk)⟩
set_option maxRecDepth 100000 in
theorem free6 {w : World} {g t : Nat} {cs : Array Value} (h : w.heap[g]? = some (.cells cs t (0, 0))) : w.frozen? ⟨g, 0, none⟩ = false ∧ w.frozen? ⟨g, 1, none⟩ = false ∧ w.frozen? ⟨g, 2, none⟩ = false ∧ w.frozen? ⟨g, 3, none⟩ = false ∧ w.frozen? ⟨g, 4, none⟩ = false ∧ w.frozen? ⟨g, 5, none⟩ = false :=
  ⟨frozen_of_row _ _ _ _ _ h, frozen_of_row _ _ _ _ _ h, frozen_of_row _ _ _ _ _ h, frozen_of_row _ _ _ _ _ h, frozen_of_row _ _ _ _ _ h, frozen_of_row _ _ _ _ _ h⟩
set_option maxRecDepth 100000 in
theorem heap_new (w : World) (o : Obj) : (w.alloc o).heap[w.heap.size]? = some o := by show (w.heap.push o)[w.heap.size]? = _; simp
set_option maxRecDepth 100000 in
theorem heap_past {w : World} {g : Nat} {c : Obj} (o : Obj) (h : w.heap[g]? = some c) : (w.alloc o).heap[g]? = some c := by
  rw [Below.heap_alloc _ _ _ (Array.getElem?_eq_some_iff.1 h).1, h]
set_option maxRecDepth 100000 in
/-- What a walk reads of a record: its cells' numbers. -/
theorem Lies.get {w : World} {A : Option Addr} {l : List El} (h : Lies w A l) {k : Nat} (hk : k < l.length) : ∃ (b q : Nat) (p o f m g : Int) (s : ByteArray), A = some ⟨b, q, none⟩ ∧ b < w.heap.size ∧ Hid (l[k]? = some ⟨p, o, f, m, g, s⟩) ∧ -9223372036854775808 ≤ m ∧
    w.cell? ⟨b, q + k * 6, none⟩ = some (.int .i64 p) ∧ w.cell? ⟨b, q + k * 6 + 1, none⟩ = some (.int .i64 o) ∧ w.cell? ⟨b, q + k * 6 + 2, none⟩ = some (.int .i64 f) ∧ w.cell? ⟨b, q + k * 6 + 3, none⟩ = some (.int .i64 m) ∧ w.cell? ⟨b, q + k * 6 + 4, none⟩ = some (.int .i64 g) ∧ w.cell? ⟨b, q + k * 6 + 5, none⟩ = some (.string s) := by
  obtain ⟨b, q, ⟨p, o, f, m, g, s⟩, hA, hlt, he, hw, h0, h1, h2, h3, h4, h5⟩ := h.at_ hk
  exact ⟨b, q, p, o, f, m, g, s, hA, hlt, he, hw, h0, h1, h2, h3, h4, h5⟩
set_option maxRecDepth 100000 in
/-- The same of a record and the one ahead of it. -/
theorem Lies.get2 {w : World} {b q : Nat} {l : List El} (h : Lies w (some ⟨b, q, none⟩) l) {k : Nat} (hk : k < l.length) : ∃ (p o f m g : Int) (s : ByteArray), Hid (l[k]? = some ⟨p, o, f, m, g, s⟩) ∧ -9223372036854775808 ≤ m ∧
    w.cell? ⟨b, q + k * 6, none⟩ = some (.int .i64 p) ∧ w.cell? ⟨b, q + k * 6 + 1, none⟩ = some (.int .i64 o) ∧ w.cell? ⟨b, q + k * 6 + 2, none⟩ = some (.int .i64 f) ∧ w.cell? ⟨b, q + k * 6 + 3, none⟩ = some (.int .i64 m) ∧ w.cell? ⟨b, q + k * 6 + 4, none⟩ = some (.int .i64 g) ∧ w.cell? ⟨b, q + k * 6 + 5, none⟩ = some (.string s) := by
  obtain ⟨b', q', p, o, f, m, g, s, hA, hlt, he, hw, h0, h1, h2, h3, h4, h5⟩ := h.get hk
  injection hA with hA
  injection hA with h6 h7
  subst h6; subst h7
  exact ⟨p, o, f, m, g, s, he, hw, h0, h1, h2, h3, h4, h5⟩
set_option maxRecDepth 100000 in
theorem row3 {w : World} {g t : Nat} {a b c : Value} {fr : Nat × Nat} (h : w.heap[g]? = some (.cells #[a, b, c] t fr)) : w.cell? ⟨g, 0, none⟩ = some a ∧ w.cell? ⟨g, 1, none⟩ = some b ∧ w.cell? ⟨g, 2, none⟩ = some c ∧ g < w.heap.size :=
  ⟨cell_of_row _ _ 0 _ _ _ h, cell_of_row _ _ 1 _ _ _ h, cell_of_row _ _ 2 _ _ _ h, (Array.getElem?_eq_some_iff.1 h).1⟩
set_option maxRecDepth 100000 in
theorem row4 {w : World} {g t : Nat} {a b c d : Value} {fr : Nat × Nat} (h : w.heap[g]? = some (.cells #[a, b, c, d] t fr)) : w.cell? ⟨g, 0, none⟩ = some a ∧ w.cell? ⟨g, 1, none⟩ = some b ∧ w.cell? ⟨g, 2, none⟩ = some c ∧ w.cell? ⟨g, 3, none⟩ = some d ∧ g < w.heap.size :=
  ⟨cell_of_row _ _ 0 _ _ _ h, cell_of_row _ _ 1 _ _ _ h, cell_of_row _ _ 2 _ _ _ h, cell_of_row _ _ 3 _ _ _ h, (Array.getElem?_eq_some_iff.1 h).1⟩
set_option maxRecDepth 100000 in
theorem row6 {w : World} {g t : Nat} {a b c d e f : Value} {fr : Nat × Nat} (h : w.heap[g]? = some (.cells #[a, b, c, d, e, f] t fr)) : w.cell? ⟨g, 0, none⟩ = some a ∧ w.cell? ⟨g, 1, none⟩ = some b ∧ w.cell? ⟨g, 2, none⟩ = some c ∧ w.cell? ⟨g, 3, none⟩ = some d ∧ w.cell? ⟨g, 4, none⟩ = some e ∧ w.cell? ⟨g, 5, none⟩ = some f ∧ g < w.heap.size :=
  ⟨cell_of_row _ _ 0 _ _ _ h, cell_of_row _ _ 1 _ _ _ h, cell_of_row _ _ 2 _ _ _ h, cell_of_row _ _ 3 _ _ _ h, cell_of_row _ _ 4 _ _ _ h, cell_of_row _ _ 5 _ _ _ h, (Array.getElem?_eq_some_iff.1 h).1⟩

set_option maxRecDepth 100000 in
/-- Two results: a record that lies in memory, and a temporary. -/
theorem results_two {fn : Func} {p q : Tmp} (h : fn.results = #[.cell p 33, .tmp q]) (tmps : Array Value) (w : World) (g : Nat) (t : TypeId) (cs : Array Value) (v : Value) (fr : Nat × Nat)
    (hp : tmps.getD p undef = .pointer (some ⟨g, 0, none⟩)) (hq : tmps.getD q undef = v) (hg : w.heap[g]? = some (.cells cs t fr)) (hsz : cs.size = 6) :
    (results fn tmps).run Try.prog w = .ok (.tuple #[.agg cs, v]) w := by
  have hp' : tmps[p]?.getD undef = .pointer (some ⟨g, 0, none⟩) := by simpa using hp
  have hq' : tmps[q]?.getD undef = v := by simpa using hq
  have hi : (Try.prog.info? 33).map (·.size) = some cs.size := by rw [hsz]; kernel_rfl
  simp [results, h, hp', hq', asAddr, run_loadVar_row w g t 33 cs fr _ hg Try.underlying33 rfl hi]
set_option maxRecDepth 100000 in
theorem end_two {P : Program} {fn : Func} {p q : Tmp} {Q : Ending → World → Prop} (hP : P = Try.prog) (h : fn.results = #[.cell p 33, .tmp q]) (a : Act) (w : World) (g : Nat) (t : TypeId) (cs : Array Value) (v : Value) (fr : Nat × Nat) (hd : a.defers = [])
    (hp : a.tmps.getD p undef = .pointer (some ⟨g, 0, none⟩)) (hq : a.tmps.getD q undef = v) (hg : w.heap[g]? = some (.cells cs t fr)) (hsz : cs.size = 6) (hQ : Q (.returned (.tuple #[.agg cs, v])) w) : bodyPost P fn Q .ret a w := by
  subst hP
  exact bodyPost_ret (v := .tuple #[.agg cs, v]) (results_two h a.tmps w g t cs v fr hp hq hg hsz) hd hQ

/-- Six cells stored into a block that is known whole. -/
def World.six (w : World) (g : Nat) (b0 b1 b2 b3 b4 b5 : Value) : World :=
  (((((w.setCell ⟨g, 0, none⟩ b0).setCell ⟨g, 1, none⟩ b1).setCell ⟨g, 2, none⟩ b2).setCell ⟨g, 3, none⟩ b3).setCell ⟨g, 4, none⟩ b4).setCell ⟨g, 5, none⟩ b5
set_option maxRecDepth 100000 in
theorem set6 {w : World} {g t : Nat} {a0 a1 a2 a3 a4 a5 : Value} (h : w.heap[g]? = some (.cells #[a0, a1, a2, a3, a4, a5] t (0, 0))) (b0 b1 b2 b3 b4 b5 : Value) :
    (World.six w g b0 b1 b2 b3 b4 b5).heap[g]? = some (.cells #[b0, b1, b2, b3, b4, b5] t (0, 0)) := by
  have h1 := heap_setCell_same w g 0 _ t b0 h
  have h2 := heap_setCell_same _ g 1 _ t b1 h1
  have h3 := heap_setCell_same _ g 2 _ t b2 h2
  have h4 := heap_setCell_same _ g 3 _ t b3 h3
  have h5 := heap_setCell_same _ g 4 _ t b4 h4
  exact heap_setCell_same _ g 5 _ t b5 h5
set_option maxRecDepth 100000 in
theorem Calm.six {a w : World} (h : Calm a w) {g : Nat} (hg : a.heap.size ≤ g) (b0 b1 b2 b3 b4 b5 : Value) : Calm a (World.six w g b0 b1 b2 b3 b4 b5) :=
  (((((h.setCell (p := ⟨g, 0, none⟩) hg b0).setCell (p := ⟨g, 1, none⟩) hg b1).setCell (p := ⟨g, 2, none⟩) hg b2).setCell (p := ⟨g, 3, none⟩) hg b3).setCell (p := ⟨g, 4, none⟩) hg b4).setCell (p := ⟨g, 5, none⟩) hg b5
end Go.Proofs.Ytgebilpdinbfgaa

/- Bytes in memory: a block that begins with the bytes l; annalkeep.Within. -/
namespace Go.Proofs.Ytgebilpdinbfgaa
open Go.RowKit

def bv (l : List UInt8) : List Value := l.map fun b => Value.int .u8 (b.toNat : Int)
set_option maxRecDepth 100000 in
theorem bv_length (l : List UInt8) : (bv l).length = l.length := by simp [bv]
set_option maxRecDepth 100000 in
theorem bv_append (a b : List UInt8) : bv (a ++ b) = bv a ++ bv b := by simp [bv]
/-- The block g begins with the bytes l, and none of them is frozen. -/
def BAt (w : World) (g : Nat) (l : List UInt8) (rest : List Value) (fr : Nat × Nat) : Prop := w.heap[g]? = some (.cells (bv l ++ rest).toArray 5 fr) ∧ (fr = (0, 0) ∨ l.length ≤ fr.1)
variable {w : World} {g : Nat} {l : List UInt8} {rest : List Value} {fr : Nat × Nat}
set_option maxRecDepth 100000 in
theorem BAt.lt (h : BAt w g l rest fr) : g < w.heap.size := (Array.getElem?_eq_some_iff.1 h.1).1
set_option maxRecDepth 100000 in
theorem BAt.cell (h : BAt w g l rest fr) {j : Nat} (hj : j < l.length) : w.cell? ⟨g, j, none⟩ = some (.int .u8 (l[j].toNat : Int)) := by
  rw [cell_of_row _ _ _ _ _ _ h.1, List.getElem?_toArray, List.getElem?_append_left (by rw [bv_length]; exact hj)]
  simp [bv, List.getElem?_eq_getElem hj]
set_option maxRecDepth 100000 in
theorem BAt.free (h : BAt w g l rest fr) {j : Nat} (hj : j < l.length) : w.frozen? ⟨g, j, none⟩ = false := by
  obtain ⟨h1, h2⟩ := h
  rcases h2 with rfl | h2
  · exact frozen_of_row _ _ _ _ _ h1
  · obtain ⟨lo, hi⟩ := fr
    have : ¬ lo ≤ j := by simp only at h2; omega
    simp [World.frozen?, h1, this]
set_option maxRecDepth 100000 in
theorem BAt.set (h : BAt w g l rest fr) {j : Nat} (hj : j < l.length) (c : UInt8) : BAt (w.setCell ⟨g, j, none⟩ (.int .u8 (c.toNat : Int))) g (l.set j c) rest fr := by
  obtain ⟨h1, h2⟩ := h
  refine ⟨?_, by simpa using h2⟩
  have : (w.setCell ⟨g, j, none⟩ (.int .u8 (c.toNat : Int))).heap[g]? = some (.cells ((bv l ++ rest).toArray.setIfInBounds j (.int .u8 (c.toNat : Int))) 5 fr) := by
    simp [World.setCell, Array.getElem?_modify, h1]
  rw [this]
  congr 2
  rw [List.setIfInBounds_toArray, List.set_append_left _ _ (by rw [bv_length]; exact hj)]
  simp [bv, List.map_set]
set_option maxRecDepth 100000 in
theorem BAt.calm {w' : World} (h : BAt w g l rest fr) (hb : Calm w w') : BAt w' g l rest fr := ⟨(hb.block h.lt).trans h.1, h.2⟩
set_option maxRecDepth 100000 in
theorem heap_alloc_row (w : World) (cs : Array Value) (t : TypeId) : (w.alloc (.cells cs t)).heap[w.heap.size]? = some (.cells cs t (0, 0)) := heap_new _ _

set_option maxRecDepth 100000 in
theorem xor_u8 (x y : UInt8) : bits .xor .u8 (x.toNat : Int) (y.toNat : Int) = ((x ^^^ y).toNat : Int) := by
  rw [Go.u8_xor_nat _ _ x.toNat_lt y.toNat_lt, UInt8.toNat_xor]
set_option maxRecDepth 100000 in
/-- []byte(s). -/
theorem bytesRow_at_ (w : World) (s : ByteArray) (cap : Nat) : BAt (w.alloc (.cells (bytesRow s cap) 5 ((bytesRow s cap).size, (bytesRow s cap).size + 1))) w.heap.size s.data.toList (List.replicate (cap - s.size) (.int .u8 0)) ((bytesRow s cap).size, (bytesRow s cap).size + 1) := by
  refine ⟨?_, Or.inr ?_⟩
  · rw [heap_new]
    congr 2
    apply Array.toList_inj.1
    simp [bytesRow, bv]
  · simp [bytesRow]
end Go.Proofs.Ytgebilpdinbfgaa

/- Slices of records that a call makes: append, and what they read as. -/
namespace Go.Proofs.Ytgebilpdinbfgaa
open Go.RowKit

def cellsOf (l : List El) : List Value := l.flatMap El.cells
/-- The slice v is nil or owns its row in a block from base on, and reads as l. -/
def OwnR (base : Nat) (w : World) (v : Value) (l : List El) : Prop := w.ownsRow base 33 6 v l.length (cellsOf l)

set_option maxRecDepth 100000 in
theorem cells_len (e : El) : e.cells.length = 6 := rfl
set_option maxRecDepth 100000 in
theorem cellsOf_len (l : List El) : (cellsOf l).length = l.length * 6 := by
  unfold cellsOf
  induction l with
  | nil => rfl
  | cons e l ih => rw [List.flatMap_cons, List.length_append, ih, cells_len, List.length_cons]; omega
set_option maxRecDepth 100000 in
theorem cellsOf_at : ∀ (l : List El) (k j : Nat) (e : El), l[k]? = some e → j < 6 → (cellsOf l)[k * 6 + j]? = e.cells[j]?
  | [], k, j, e, h, _ => by simp at h
  | x :: l, 0, j, e, h, hj => by
    simp at h; subst h
    show (x.cells ++ cellsOf l)[0 * 6 + j]? = _
    rw [Nat.zero_mul, Nat.zero_add, List.getElem?_append_left (by rw [cells_len]; exact hj)]
  | x :: l, k + 1, j, e, h, hj => by
    show (x.cells ++ cellsOf l)[(k + 1) * 6 + j]? = _
    rw [List.getElem?_append_right (by rw [cells_len]; omega), cells_len]
    rw [show (k + 1) * 6 + j - 6 = k * 6 + j by omega]
    exact cellsOf_at l k j e (by simpa using h) hj
set_option maxRecDepth 100000 in
theorem cellsOf_snoc (l : List El) (e : El) : cellsOf (l ++ [e]) = cellsOf l ++ e.cells := by unfold cellsOf; simp

set_option maxRecDepth 100000 in
theorem Calm.grownBy {w w' : World} (h : Calm w w') (row : Option Nat) : w.grownBy w' row := ⟨Below.os h, Below.tape h, Below.output h, Below.size h, fun _ hk _ => h.block hk⟩
set_option maxRecDepth 100000 in
theorem OwnR.lt {base : Nat} {w : World} {v : Value} {l : List El} (h : OwnR base w v l) : ∀ k, v.ownBlock = some k → base ≤ k ∧ k < w.heap.size := World.ownsRow.lt h
set_option maxRecDepth 100000 in
theorem OwnR.calm {base : Nat} {w w' : World} {v : Value} {l : List El} (h : OwnR base w v l) (hb : Calm w w') : OwnR base w' v l := World.ownsRow.kept h (hb.grownBy none) (by
  rcases v.ownBlock with _ | k
  · exact .inl rfl
  · exact .inr (by simp))
set_option maxRecDepth 100000 in
theorem OwnR.nil (base : Nat) (w : World) : OwnR base w (.slice none 0 0) [] := World.ownsRow_nil _ _ _ _
set_option maxRecDepth 100000 in
theorem Calm.grown {a w w' : World} {base : Nat} {v : Value} {l : List El} (h : Calm a w) (hb : a.heap.size ≤ base) (ho : OwnR base w v l) (hg : w.grownBy w' v.ownBlock) : Calm a w' :=
  Below.grown h hg h.size fun k hk => Nat.le_trans hb (ho.lt k hk).1
set_option maxRecDepth 100000 in
/-- What a call owns reads as its list. -/
theorem OwnR.lies {base : Nat} {w : World} {v : Value} {l : List El} (h : OwnR base w v l) (hw : ∀ e ∈ l, e.wf) : ∃ A c, v = .slice A l.length c ∧ l.length ≤ c ∧ c ≤ 9223372036854775807 ∧ Lies w A l := by
  rcases h.2 with ⟨rfl, hl⟩ | ⟨g, cap, cur, rfl, _, hg, hnc, hcm, _, ht⟩
  · have : l = [] := List.eq_nil_of_length_eq_zero hl
    subst this
    exact ⟨none, 0, rfl, Nat.le_refl _, by omega, by simp, fun h => absurd h (by simp)⟩
  · refine ⟨some ⟨g, 0, none⟩, cap, rfl, hnc, by simp only [maxLen] at hcm; omega, hw, fun hpos => ⟨g, 0, rfl, (Array.getElem?_eq_some_iff.1 hg).1, fun k e he => ?_⟩⟩
    have hk : k < l.length := (List.getElem?_eq_some_iff.1 he).1
    have key : ∀ j, j < 6 → w.cell? ⟨g, 0 + k * 6 + j, none⟩ = e.cells[j]? := fun j hj => by
      rw [cell_of_row w g _ cur _ (0, 0) hg, ← cellsOf_at l k j e he hj, ← ht, List.getElem?_take, if_pos (by omega), Nat.zero_add, Array.getElem?_toList]
    exact ⟨key 0 (by omega), key 1 (by omega), key 2 (by omega), key 3 (by omega), key 4 (by omega), key 5 (by omega)⟩

set_option maxRecDepth 100000 in
theorem infoElem : (Try.prog.info? 33).map (fun i => (i.zero, i.size, i.bytes)) = some (some (.agg #[.int .i64 0, .int .i64 0, .int .i64 0, .int .i64 0, .int .i64 0, .string ByteArray.empty]), 6, 56) := by kernel_rfl

set_option maxRecDepth 100000 in
theorem cells_one (e : El) : ∀ u ∈ e.cells, u.oneCell' = true := by
  intro u hu
  simp only [El.cells, List.mem_cons, List.not_mem_nil, or_false] at hu
  rcases hu with rfl | rfl | rfl | rfl | rfl | rfl <;> rfl
set_option maxRecDepth 100000 in
theorem cellsOf_one (l : List El) : ∀ u ∈ cellsOf l, u.oneCell' = true := by
  intro u hu
  obtain ⟨e, _, h⟩ := List.mem_flatMap.1 hu
  exact cells_one e u h

set_option maxRecDepth 100000 in
/-- append(out, e): one record more in a row of the call's own. -/
theorem wpList_append_el {ops : Array Oper} {rest : List Oper} {o : Oper} {a : Act} {w : World} {Q : Exit → Act → World → Prop} (hgd : o.guard = none) (s x : Operand)
    (ho : o.op = .call { callee := .builtin .append, args := #[s, x], argTypes := #[27, 27] })
    (base : Nat) (v : Value) (l : List El) (hs : a.eval s = v) (hown : OwnR base w v l) (g t : Nat) (p o' f m gg : Int) (sv : ByteArray) (fr : Nat × Nat)
    (hx : a.eval x = .slice (some ⟨g, 0, none⟩) 1 1) (hg : w.heap[g]? = some (.cells #[.int .i64 p, .int .i64 o', .int .i64 f, .int .i64 m, .int .i64 gg, .string sv] t fr)) (hl : l.length ≤ 1000000) (hbase : base ≤ w.heap.size)
    (h : ∀ v' w', OwnR base w' v' (l ++ [⟨p, o', f, m, gg, sv⟩]) → (∀ w0 : World, w0.heap.size ≤ base → Calm w0 w → Calm w0 w') → wpList Try.prog ops Q rest (a.put o.dst v') w') : wpList Try.prog ops Q (o :: rest) a w := by
  obtain ⟨i0, hi, hz0, hz1, hz2⟩ := info_parts infoElem
  refine wpList_append_own w hgd s x _ ho base 33 i0 _ 6 56 Try.underlying27 hi hz0 hz1 hz2 rfl (by decide) v _ _ hs hown ⟨g, 0, none⟩ 1 1 (El.cells ⟨p, o', f, m, gg, sv⟩) hx rfl (fun j u hj => ?_) (cells_one _) (by unfold maxLen; omega) (by omega) hbase fun v' w' h1 h2 _ => ?_
  · have : (⟨g, 0, none⟩ : Addr).add j = ⟨g, j, none⟩ := by unfold Addr.add; split <;> simp_all
    rw [this, cell_of_row w g j _ t fr hg, ← hj]
    simp [El.cells]
  · refine h v' w' ?_ fun w0 h0 hc => hc.grown h0 hown h2
    unfold OwnR
    rw [List.length_append, cellsOf_snoc]
    exact h1
set_option maxRecDepth 100000 in
/-- The same, up to what a row may hold. -/
theorem wpList_append_elB {ops : Array Oper} {rest : List Oper} {o : Oper} {a : Act} {w : World} {Q : Exit → Act → World → Prop} (hgd : o.guard = none) (s x : Operand)
    (ho : o.op = .call { callee := .builtin .append, args := #[s, x], argTypes := #[27, 27] })
    (base : Nat) (v : Value) (l : List El) (hs : a.eval s = v) (hown : OwnR base w v l) (g t : Nat) (p o' f m gg : Int) (sv : ByteArray) (fr : Nat × Nat)
    (hx : a.eval x = .slice (some ⟨g, 0, none⟩) 1 1) (hg : w.heap[g]? = some (.cells #[.int .i64 p, .int .i64 o', .int .i64 f, .int .i64 m, .int .i64 gg, .string sv] t fr)) (hl : (l.length + 1) * 56 ≤ 140737488355328) (hbase : base ≤ w.heap.size)
    (h : ∀ v' w', OwnR base w' v' (l ++ [⟨p, o', f, m, gg, sv⟩]) → (∀ w0 : World, w0.heap.size ≤ base → Calm w0 w → Calm w0 w') → wpList Try.prog ops Q rest (a.put o.dst v') w') : wpList Try.prog ops Q (o :: rest) a w := by
  obtain ⟨i0, hi, hz0, hz1, hz2⟩ := info_parts infoElem
  refine wpList_append_own w hgd s x _ ho base 33 i0 _ 6 56 Try.underlying27 hi hz0 hz1 hz2 rfl (by decide) v _ _ hs hown ⟨g, 0, none⟩ 1 1 (El.cells ⟨p, o', f, m, gg, sv⟩) hx rfl (fun j u hj => ?_) (cells_one _) (by unfold maxLen; omega) (by omega) hbase fun v' w' h1 h2 _ => ?_
  · have : (⟨g, 0, none⟩ : Addr).add j = ⟨g, j, none⟩ := by unfold Addr.add; split <;> simp_all
    rw [this, cell_of_row w g j _ t fr hg, ← hj]
    simp [El.cells]
  · refine h v' w' ?_ fun w0 h0 hc => hc.grown h0 hown h2
    unfold OwnR
    rw [List.length_append, cellsOf_snoc]
    exact h1
end Go.Proofs.Ytgebilpdinbfgaa

/- Slices of bytes that a call makes: append. -/
namespace Go.Proofs.Ytgebilpdinbfgaa
open Go.RowKit

def OwnB (base : Nat) (w : World) (v : Value) (l : List UInt8) : Prop := w.ownsRow base 5 1 v l.length (bv l)
set_option maxRecDepth 100000 in
theorem OwnB.lt {base : Nat} {w : World} {v : Value} {l : List UInt8} (h : OwnB base w v l) : ∀ k, v.ownBlock = some k → base ≤ k ∧ k < w.heap.size := World.ownsRow.lt h
set_option maxRecDepth 100000 in
theorem OwnB.calm {base : Nat} {w w' : World} {v : Value} {l : List UInt8} (h : OwnB base w v l) (hb : Calm w w') : OwnB base w' v l := World.ownsRow.kept h (hb.grownBy none) (by
  rcases v.ownBlock with _ | k
  · exact .inl rfl
  · exact .inr (by simp))
set_option maxRecDepth 100000 in
theorem Calm.grownB {a w w' : World} {base : Nat} {v : Value} {l : List UInt8} (h : Calm a w) (hb : a.heap.size ≤ base) (ho : OwnB base w v l) (hg : w.grownBy w' v.ownBlock) : Calm a w' :=
  Below.grown h hg h.size fun k hk => Nat.le_trans hb (ho.lt k hk).1
set_option maxRecDepth 100000 in
theorem infoByte : (Try.prog.info? 5).map (fun i => (i.zero, i.size, i.bytes)) = some (some (.int .u8 0), 1, 1) := by kernel_rfl
set_option maxRecDepth 100000 in
theorem OwnB.made (base : Nat) (w : World) (k : Nat) (hb : base ≤ w.heap.size) (hk : k ≤ 281474976710656) : OwnB base (w.alloc (.cells (bv (List.replicate k 0)).toArray 5)) (.slice (some ⟨w.heap.size, 0, none⟩) 0 k) [] :=
  ⟨rfl, .inr ⟨w.heap.size, k, _, rfl, hb, heap_alloc_row _ _ _, Nat.zero_le _, by simp only [maxLen]; omega, by simp [bv], rfl⟩⟩

end Go.Proofs.Ytgebilpdinbfgaa

/- Nodes in memory: slices that read as numbers and as spots. -/
namespace Go.Proofs.Ytgebilpdinbfgaa
open Go.RowKit

/-- The numbers l stand from the address A on. -/
def LiesI (w : World) (A : Option Addr) (l : List Int) : Prop :=
  0 < l.length → ∃ b q, A = some ⟨b, q, none⟩ ∧ b < w.heap.size ∧ ∀ (k : Nat) (x : Int), l[k]? = some x → w.cell? ⟨b, q + k, none⟩ = some (.int .i64 x)
def SpAt (w : World) (b q : Nat) (s : Sp) : Prop :=
  w.cell? ⟨b, q, none⟩ = some (.int .i64 s.p) ∧ w.cell? ⟨b, q + 1, none⟩ = some (.int .i64 s.o) ∧ w.cell? ⟨b, q + 2, none⟩ = some (.int .i64 s.f) ∧ w.cell? ⟨b, q + 3, none⟩ = some (.int .i64 s.m)
/-- The spots l stand from the address A on. -/
def LiesS (w : World) (A : Option Addr) (l : List Sp) : Prop :=
  (∀ s ∈ l, -9223372036854775808 ≤ s.m) ∧ (0 < l.length → ∃ b q, A = some ⟨b, q, none⟩ ∧ b < w.heap.size ∧ ∀ (k : Nat) (s : Sp), l[k]? = some s → SpAt w b (q + k * 4) s)
set_option maxRecDepth 100000 in
theorem LiesI.calm {w w' : World} {A : Option Addr} {l : List Int} (h : LiesI w A l) (hb : Calm w w') : LiesI w' A l := fun hl => by
  obtain ⟨b, q, hA, hlt, hk⟩ := h hl
  exact ⟨b, q, hA, Nat.lt_of_lt_of_le hlt hb.size, fun k x hx => (hb.facts.1 b _ hlt).trans (hk k x hx)⟩
set_option maxRecDepth 100000 in
theorem LiesS.calm {w w' : World} {A : Option Addr} {l : List Sp} (h : LiesS w A l) (hb : Calm w w') : LiesS w' A l := ⟨h.1, fun hl => by
  obtain ⟨b, q, hA, hlt, hk⟩ := h.2 hl
  have hc := hb.facts.1
  refine ⟨b, q, hA, Nat.lt_of_lt_of_le hlt hb.size, fun k s hs => ?_⟩
  obtain ⟨h0, h1, h2, h3⟩ := hk k s hs
  exact ⟨(hc b _ hlt).trans h0, (hc b _ hlt).trans h1, (hc b _ hlt).trans h2, (hc b _ hlt).trans h3⟩⟩
set_option maxRecDepth 100000 in
theorem LiesI.get {w : World} {A : Option Addr} {l : List Int} (h : LiesI w A l) {k : Nat} (hk : k < l.length) : ∃ (b q : Nat) (x : Int), A = some ⟨b, q, none⟩ ∧ b < w.heap.size ∧ Hid (l[k]? = some x) ∧ w.cell? ⟨b, q + k, none⟩ = some (.int .i64 x) := by
  obtain ⟨b, q, hA, hlt, h2⟩ := h (by omega)
  exact ⟨b, q, l[k], hA, hlt, List.getElem?_eq_getElem hk, h2 _ _ (List.getElem?_eq_getElem hk)⟩
set_option maxRecDepth 100000 in
theorem LiesS.get {w : World} {A : Option Addr} {l : List Sp} (h : LiesS w A l) {k : Nat} (hk : k < l.length) : ∃ (b q : Nat) (p o f m : Int), A = some ⟨b, q, none⟩ ∧ b < w.heap.size ∧ Hid (l[k]? = some ⟨p, o, f, m⟩) ∧ -9223372036854775808 ≤ m ∧
    w.cell? ⟨b, q + k * 4, none⟩ = some (.int .i64 p) ∧ w.cell? ⟨b, q + k * 4 + 1, none⟩ = some (.int .i64 o) ∧ w.cell? ⟨b, q + k * 4 + 2, none⟩ = some (.int .i64 f) ∧ w.cell? ⟨b, q + k * 4 + 3, none⟩ = some (.int .i64 m) := by
  obtain ⟨b, q, hA, hlt, h2⟩ := h.2 (by omega)
  obtain ⟨h0, h1, h3, h4⟩ := h2 _ _ (List.getElem?_eq_getElem hk)
  exact ⟨b, q, l[k].p, l[k].o, l[k].f, l[k].m, hA, hlt, List.getElem?_eq_getElem hk, h.1 _ (List.getElem_mem _), h0, h1, h3, h4⟩
set_option maxRecDepth 100000 in
theorem LiesS.get2 {w : World} {b q : Nat} {l : List Sp} (h : LiesS w (some ⟨b, q, none⟩) l) {k : Nat} (hk : k < l.length) : ∃ (p o f m : Int), Hid (l[k]? = some ⟨p, o, f, m⟩) ∧ -9223372036854775808 ≤ m ∧
    w.cell? ⟨b, q + k * 4, none⟩ = some (.int .i64 p) ∧ w.cell? ⟨b, q + k * 4 + 1, none⟩ = some (.int .i64 o) ∧ w.cell? ⟨b, q + k * 4 + 2, none⟩ = some (.int .i64 f) ∧ w.cell? ⟨b, q + k * 4 + 3, none⟩ = some (.int .i64 m) := by
  obtain ⟨b', q', p, o, f, m, hA, hlt, he, hw, h0, h1, h2, h3⟩ := h.get hk
  injection hA with hA
  injection hA with h6 h7
  subst h6; subst h7
  exact ⟨p, o, f, m, he, hw, h0, h1, h2, h3⟩
set_option maxRecDepth 100000 in
theorem row5 {w : World} {g t : Nat} {a b c d e : Value} {fr : Nat × Nat} (h : w.heap[g]? = some (.cells #[a, b, c, d, e] t fr)) : w.cell? ⟨g, 0, none⟩ = some a ∧ w.cell? ⟨g, 1, none⟩ = some b ∧ w.cell? ⟨g, 2, none⟩ = some c ∧ w.cell? ⟨g, 3, none⟩ = some d ∧ w.cell? ⟨g, 4, none⟩ = some e ∧ g < w.heap.size :=
  ⟨cell_of_row _ _ 0 _ _ _ h, cell_of_row _ _ 1 _ _ _ h, cell_of_row _ _ 2 _ _ _ h, cell_of_row _ _ 3 _ _ _ h, cell_of_row _ _ 4 _ _ _ h, (Array.getElem?_eq_some_iff.1 h).1⟩

/-- What stands behind a node's four slices. -/
structure NdAt (w : World) (A1 A2 A3 A4 : Option Addr) (E : List El) (K : List Int) (S : List Sp) (T : List Int) : Prop where
  e : Lies w A1 E
  k : LiesI w A2 K
  s : LiesS w A3 S
  t : LiesI w A4 T
  ne : E.length ≤ 9223372036854775807
  nk : K.length ≤ 9223372036854775807
  ns : S.length ≤ 9223372036854775807
  nt : T.length ≤ 9223372036854775807
set_option maxRecDepth 100000 in
theorem NdAt.calm {w w' : World} {A1 A2 A3 A4 : Option Addr} {E : List El} {K : List Int} {S : List Sp} {T : List Int} (h : NdAt w A1 A2 A3 A4 E K S T) (hb : Calm w w') : NdAt w' A1 A2 A3 A4 E K S T :=
  ⟨h.e.calm hb, h.k.calm hb, h.s.calm hb, h.t.calm hb, h.ne, h.nk, h.ns, h.nt⟩
end Go.Proofs.Ytgebilpdinbfgaa

/- Trees in memory: a slice that reads as a list of nodes. -/
namespace Go.Proofs.Ytgebilpdinbfgaa
open Go.RowKit

/-- A node as it lies: its kind, where its four slices lie, and what they read as. -/
structure Nd where
  kd : Int
  A1 : Option Addr
  A2 : Option Addr
  A3 : Option Addr
  A4 : Option Addr
  c1 : Nat
  c2 : Nat
  c3 : Nat
  c4 : Nat
  E : List El
  K : List Int
  S : List Sp
  T : List Int
def Nd.cells (n : Nd) : List Value := [.int .i64 n.kd, .slice n.A1 n.E.length n.c1, .slice n.A2 n.K.length n.c2, .slice n.A3 n.S.length n.c3, .slice n.A4 n.T.length n.c4]
def Nd.at_ (w : World) (n : Nd) : Prop := NdAt w n.A1 n.A2 n.A3 n.A4 n.E n.K n.S n.T
/-- The nodes l stand from the address A on. -/
structure TrAt (w : World) (A : Option Addr) (l : List Nd) : Prop where
  nd : ∀ n ∈ l, n.at_ w
  row : 0 < l.length → ∃ b q, A = some ⟨b, q, none⟩ ∧ b < w.heap.size ∧ ∀ (k : Nat) (n : Nd), l[k]? = some n → ∀ j, j < 5 → w.cell? ⟨b, q + k * 5 + j, none⟩ = n.cells[j]?
  len : l.length ≤ 9223372036854775807
set_option maxRecDepth 100000 in
theorem TrAt.calm {w w' : World} {A : Option Addr} {l : List Nd} (h : TrAt w A l) (hb : Calm w w') : TrAt w' A l :=
  ⟨fun n hn => (h.nd n hn).calm hb, fun hl => by
    obtain ⟨b, q, hA, hlt, hk⟩ := h.row hl
    exact ⟨b, q, hA, Nat.lt_of_lt_of_le hlt hb.size, fun k n hn j hj => (hb.facts.1 b _ hlt).trans (hk k n hn j hj)⟩, h.len⟩
set_option maxRecDepth 100000 in
theorem TrAt.get {w : World} {A : Option Addr} {l : List Nd} (h : TrAt w A l) {k : Nat} (hk : k < l.length) : ∃ (b q : Nat) (kd : Int) (A1 A2 A3 A4 : Option Addr) (c1 c2 c3 c4 : Nat) (E : List El) (K : List Int) (S : List Sp) (T : List Int), A = some ⟨b, q, none⟩ ∧ b < w.heap.size ∧
    Hid (l[k]? = some ⟨kd, A1, A2, A3, A4, c1, c2, c3, c4, E, K, S, T⟩) ∧ Hid (NdAt w A1 A2 A3 A4 E K S T) ∧
    w.cell? ⟨b, q + k * 5, none⟩ = some (.int .i64 kd) ∧ w.cell? ⟨b, q + k * 5 + 1, none⟩ = some (.slice A1 E.length c1) ∧ w.cell? ⟨b, q + k * 5 + 2, none⟩ = some (.slice A2 K.length c2) ∧ w.cell? ⟨b, q + k * 5 + 3, none⟩ = some (.slice A3 S.length c3) ∧ w.cell? ⟨b, q + k * 5 + 4, none⟩ = some (.slice A4 T.length c4) := by
  obtain ⟨b, q, hA, hlt, h2⟩ := h.row (by omega)
  have hg : l[k]? = some l[k] := List.getElem?_eq_getElem hk
  have hc := h2 k _ hg
  have hn := h.nd _ (List.getElem_mem hk)
  exact ⟨b, q, l[k].kd, l[k].A1, l[k].A2, l[k].A3, l[k].A4, l[k].c1, l[k].c2, l[k].c3, l[k].c4, l[k].E, l[k].K, l[k].S, l[k].T, hA, hlt, hg, hn, hc 0 (by omega), hc 1 (by omega), hc 2 (by omega), hc 3 (by omega), hc 4 (by omega)⟩
end Go.Proofs.Ytgebilpdinbfgaa

/- From what a law's call leaves to the row: the answer is true, and every argument reads as it did. How keys, spots and records read. -/
namespace Go.Proofs.Ytgebilpdinbfgaa
open Go.ChangeShapes Go.WideShapes Go.ChangeAt Go.RowKit

set_option maxRecDepth 100000 in
theorem own : ownKnob Try.prog.godebug = none := by kernel_rfl
set_option maxRecDepth 100000 in
theorem laidOut : laidOutB Try.prog = true := by kernel_rfl

section
variable {H : Type} {enc : TypeId × Value → H} {P : Program}
set_option maxRecDepth 100000 in
theorem trodAll_stays (hl : laidOutB P = true) {W W' : World} (hb : Calm W W') : ∀ (ts : List TypeId) (vs : List Value) (ds : List (DataW H)) (ps : List MemPlace), ts.all (fun t => P.readableRec t && decide (t < P.types.size)) = true →
    DataW.TrodAll enc P W 0 (fun _ => true) true ts vs ds ps → (∀ x ∈ ps, x.block < W.heap.size) → DataW.TrodAll enc P W' 0 (fun b => decide (b < W.heap.size)) true ts vs ds ps
  | [], [], [], ps, _, h, _ => h
  | t :: ts, v :: vs, d :: ds, ps, ht, h, hlt => by
    obtain ⟨p, q, h1, h2, rfl⟩ := h
    simp only [List.all_cons, Bool.and_eq_true, decide_eq_true_eq] at ht
    exact ⟨p, q, Below.trod hl ht.1.1 ht.1.2 h1 hb fun x hx => hlt x (List.mem_append_left _ hx), trodAll_stays hl hb ts vs ds q (by simpa using ht.2) h2 fun x hx => hlt x (List.mem_append_right _ hx), rfl⟩
  | [], _ :: _, _, _, _, h, _ => absurd h (by simp [DataW.TrodAll])
  | [], [], _ :: _, _, _, h, _ => absurd h (by simp [DataW.TrodAll])
  | _ :: _, [], _, _, _, h, _ => absurd h (by simp [DataW.TrodAll])
  | _ :: _, _ :: _, [], _, _, h, _ => absurd h (by simp [DataW.TrodAll])

set_option maxRecDepth 100000 in
/-- The row's post, of a law: it answers true, and nothing that was there has turned. -/
theorem law_post (hl : laidOutB P = true) {f : Func} {s : ChangeSpec} {apart fresh handsOn : Bool} {W W' : World} {args : Array Value} {ds gs : List (DataW H)} {before : List MemPlace}
    (hW : DataW.Whole enc P f.params.toList s.vars apart W args.toList ds gs before) (hb : Calm W W') (hbool : ∃ t, f.resultTypes = #[t] ∧ P.underlying t = some .bool)
    (hts : f.params.toList.all (fun t => P.readableRec t && decide (t < P.types.size)) = true) (hvars : s.vars = []) (hspec : (s.fn H (ds ++ gs)).results = [.lit (.bool true)] ∧ (s.fn H (ds ++ gs)).args = ds ∧ (s.fn H (ds ++ gs)).vars = []) :
    s.post enc P f apart fresh handsOn false W args (.bool true) W' := by
  obtain ⟨t, ht, hu⟩ := hbool
  obtain ⟨h1, h2, h3⟩ := hspec
  have hlt := hW.lt
  obtain ⟨p, q, hA, hV, rfl, hz, hn⟩ := id hW
  rw [hvars] at hV
  obtain ⟨rfl, rfl⟩ := trodVars_none hV
  refine ⟨ds, [], p ++ [], [], p, [], hW, ?_, ?_, ?_, World.keptBut_mono (fun _ h => h) (Below.frame hb _), fun h => by cases h⟩
  · rw [h1, ht]
    exact trodAll_mk1 (shut_bool hu true)
  · rw [h2]
    exact trodAll_stays hl hb _ _ _ _ hts hA fun x hx => hlt x (by simpa using hx)
  · rw [h3, hvars]
    exact rfl
end

/-! ### How keys, spots and records read -/
section
variable {H : Type} {enc : TypeId × Value → H} {w : World} {base : Nat} {spare : Nat → Bool} {held : Bool}

set_option maxRecDepth 100000 in
theorem cellsInt : Try.prog.cellsOf 3 = 1 := by kernel_rfl
set_option maxRecDepth 100000 in
theorem cellsStr : Try.prog.cellsOf 9 = 1 := by kernel_rfl
set_option maxRecDepth 100000 in
theorem cellsKey : Try.prog.cellsOf 26 = 3 := by kernel_rfl
set_option maxRecDepth 100000 in
theorem cellsSpot : Try.prog.cellsOf 47 = 4 := by kernel_rfl
set_option maxRecDepth 100000 in
theorem cellsElem : Try.prog.cellsOf 33 = 6 := by kernel_rfl

set_option maxRecDepth 100000 in
theorem wf_range {n : Int} (h : (Lit.int .i64 n).wf = true) : -9223372036854775808 ≤ n ∧ n ≤ 9223372036854775807 := by
  have e1 : IntKind.i64.min = -9223372036854775808 := by decide
  simp [Lit.wf] at h
  omega

set_option maxRecDepth 100000 in
theorem key_cells {fuel : Nat} {cs : List Value} {x : DataW H × List MemPlace} (h : DataW.trod enc Try.prog w base spare held fuel 26 cs = some x) :
    ∃ p o f : Int, cs = [.int .i64 p, .int .i64 o, .int .i64 f] ∧ (Lit.int .i64 p).wf = true ∧ (Lit.int .i64 o).wf = true ∧ (Lit.int .i64 f).wf = true := by
  obtain ⟨y0, y1, y2, n, _, hl, h0, h1, h2⟩ := Go.Deep.trod_struct3 Try.underlying26 h
  obtain ⟨p, e0, _, w0⟩ := DataW.trod_int Try.underlying3 h0
  obtain ⟨o, e1, _, w1⟩ := DataW.trod_int Try.underlying3 h1
  obtain ⟨f, e2, _, w2⟩ := DataW.trod_int Try.underlying3 h2
  simp only [cellsInt, cellsKey] at e0 e1 e2 hl
  match cs, hl with
  | [c0, c1, c2], _ =>
    simp at e0 e1 e2
    exact ⟨p, o, f, by rw [e0, e1, e2], w0, w1, w2⟩

set_option maxRecDepth 100000 in
theorem spot_cells {fuel : Nat} {cs : List Value} {x : DataW H × List MemPlace} (h : DataW.trod enc Try.prog w base spare held fuel 47 cs = some x) :
    ∃ p o f m : Int, cs = [.int .i64 p, .int .i64 o, .int .i64 f, .int .i64 m] ∧ (Lit.int .i64 p).wf = true ∧ (Lit.int .i64 o).wf = true ∧ (Lit.int .i64 f).wf = true ∧ (Lit.int .i64 m).wf = true := by
  obtain ⟨y0, y1, n, _, hl, h0, h1⟩ := trod_struct2 Try.underlying47 h
  obtain ⟨p, o, f, e0, w0, w1, w2⟩ := key_cells h0
  obtain ⟨m, e1, _, w3⟩ := DataW.trod_int Try.underlying3 h1
  simp only [cellsInt, cellsKey, cellsSpot] at e0 e1 hl
  match cs, hl with
  | [c0, c1, c2, c3], _ =>
    simp at e0 e1
    obtain ⟨a0, a1, a2⟩ := e0
    exact ⟨p, o, f, m, by rw [a0, a1, a2, e1], w0, w1, w2, w3⟩

set_option maxRecDepth 100000 in
theorem elem_cells {fuel : Nat} {cs : List Value} {x : DataW H × List MemPlace} (h : DataW.trod enc Try.prog w base spare held fuel 33 cs = some x) :
    ∃ (p o f m g : Int) (s : ByteArray), cs = [.int .i64 p, .int .i64 o, .int .i64 f, .int .i64 m, .int .i64 g, .string s] ∧ (Lit.int .i64 p).wf = true ∧ (Lit.int .i64 o).wf = true ∧ (Lit.int .i64 f).wf = true ∧ (Lit.int .i64 m).wf = true ∧ (Lit.int .i64 g).wf = true ∧ s.size ≤ maxLen := by
  obtain ⟨y0, y1, y2, y3, n, _, hl, h0, h1, h2, h3⟩ := Go.Joins.trod_struct4 Try.underlying33 h
  obtain ⟨p, o, f, e0, w0, w1, w2⟩ := key_cells h0
  obtain ⟨m, e1, _, w3⟩ := DataW.trod_int Try.underlying3 h1
  obtain ⟨g, e2, _, w4⟩ := DataW.trod_int Try.underlying3 h2
  obtain ⟨s, e3, _, w5⟩ := DataW.trod_string Try.underlying9 h3
  simp only [cellsInt, cellsKey, cellsStr, cellsElem] at e0 e1 e2 e3 hl
  match cs, hl with
  | [c0, c1, c2, c3, c4, c5], _ =>
    simp at e0 e1 e2 e3
    obtain ⟨a0, a1, a2⟩ := e0
    exact ⟨p, o, f, m, g, s, by rw [a0, a1, a2, e1, e2, e3], w0, w1, w2, w3, w4, w5⟩

variable {r : Reach} {b0 : Nat} {v : Value} {d : DataW H} {ps : List MemPlace}
set_option maxRecDepth 100000 in
theorem open_key (hv : Value.okWide Try.prog w r b0 26 v) (h : DataW.Trod enc Try.prog w base spare held 26 v d ps) :
    ∃ p o f : Int, v = .agg #[.int .i64 p, .int .i64 o, .int .i64 f] ∧ (Lit.int .i64 p).wf = true ∧ (Lit.int .i64 o).wf = true ∧ (Lit.int .i64 f).wf = true := by
  obtain ⟨cs, rfl, _⟩ := okWide_struct Try.underlying26 hv
  obtain ⟨fuel, hf⟩ := h
  obtain ⟨p, o, f, e, ws⟩ := key_cells hf
  exact ⟨p, o, f, by rw [show cs = _ from Array.toList_inj.1 e], ws⟩
set_option maxRecDepth 100000 in
theorem open_spot (hv : Value.okWide Try.prog w r b0 47 v) (h : DataW.Trod enc Try.prog w base spare held 47 v d ps) :
    ∃ p o f m : Int, v = .agg #[.int .i64 p, .int .i64 o, .int .i64 f, .int .i64 m] ∧ (Lit.int .i64 p).wf = true ∧ (Lit.int .i64 o).wf = true ∧ (Lit.int .i64 f).wf = true ∧ (Lit.int .i64 m).wf = true := by
  obtain ⟨cs, rfl, _⟩ := okWide_struct Try.underlying47 hv
  obtain ⟨fuel, hf⟩ := h
  obtain ⟨p, o, f, m, e, ws⟩ := spot_cells hf
  exact ⟨p, o, f, m, by rw [show cs = _ from Array.toList_inj.1 e], ws⟩
set_option maxRecDepth 100000 in
theorem open_elem (hv : Value.okWide Try.prog w r b0 33 v) (h : DataW.Trod enc Try.prog w base spare held 33 v d ps) :
    ∃ (p o f m g : Int) (s : ByteArray), v = .agg #[.int .i64 p, .int .i64 o, .int .i64 f, .int .i64 m, .int .i64 g, .string s] ∧ (Lit.int .i64 p).wf = true ∧ (Lit.int .i64 o).wf = true ∧ (Lit.int .i64 f).wf = true ∧ (Lit.int .i64 m).wf = true ∧ (Lit.int .i64 g).wf = true ∧ s.size ≤ maxLen := by
  obtain ⟨cs, rfl, _⟩ := okWide_struct Try.underlying33 hv
  obtain ⟨fuel, hf⟩ := h
  obtain ⟨p, o, f, m, g, s, e, ws⟩ := elem_cells hf
  exact ⟨p, o, f, m, g, s, by rw [show cs = _ from Array.toList_inj.1 e], ws⟩

set_option maxRecDepth 100000 in
theorem elems_of (R : Nat → El → Prop) : ∀ n, (∀ i, i < n → ∃ e, R i e) → ∃ l : List El, l.length = n ∧ ∀ k e, l[k]? = some e → R k e
  | 0, _ => ⟨[], rfl, by simp⟩
  | n + 1, h => by
    obtain ⟨l, hl, hk⟩ := elems_of R n fun i hi => h i (by omega)
    obtain ⟨e, he⟩ := h n (by omega)
    refine ⟨l ++ [e], by simp [hl], fun k x hx => ?_⟩
    rcases Nat.lt_or_ge k n with hlt | hge
    · rw [List.getElem?_append_left (by omega)] at hx; exact hk k x hx
    · rw [List.getElem?_append_right (by omega)] at hx
      have : k = n := by
        have := (List.getElem?_eq_some_iff.1 hx).1
        simp at this; omega
      subst this
      rw [hl] at hx; simp at hx; subst hx; exact he

set_option maxRecDepth 100000 in
theorem open_elems (hv : Value.okWide Try.prog w r b0 27 v) (h : DataW.Trod enc Try.prog w base spare held 27 v d ps) :
    ∃ (A : Option Addr) (c : Nat) (l : List El), v = .slice A l.length c ∧ l.length ≤ 9223372036854775807 ∧ Lies w A l := by
  obtain ⟨A, len, cap, rfl⟩ := okWide_slice Try.underlying27 hv
  obtain ⟨fuel, hf⟩ := h
  rcases Go.Deep.open_slice Try.underlying27 hf with ⟨h0, _⟩ | ⟨a, len', cap', m, n, D, Pl, hcs, _, hl, hm, hmm, _, hi⟩
  · have h0' : Value.slice A len cap = .slice none 0 0 := by simpa [Value.cells] using h0
    injection h0' with h1 h2 h3
    subst h1; subst h2; subst h3
    exact ⟨none, 0, [], rfl, by simp, by simp, fun h => absurd h (by simp)⟩
  · have h0' : Value.slice A len cap = .slice (some a) len' cap' := by simpa [Value.cells] using hcs
    injection h0' with h1 h2 h3
    subst h1; subst h2; subst h3
    have hlm : len ≤ m := by rw [hmm]; split <;> omega
    have each : ∀ i, i < len → ∃ e : El, e.wf ∧ a.spot = none ∧ a.block < w.heap.size ∧ ElAt w a.block (a.off + i * 6) e := fun i hil => by
      obtain ⟨cs', hc, ht⟩ := hi i (by omega)
      obtain ⟨p, o, f, m, g, s, rfl, _, _, _, w3, _, _⟩ := elem_cells ht
      rw [cellsElem] at hc
      obtain ⟨_, _, hat⟩ := World.cells?_some hc
      have g0 := hat 0 (by omega); have g1 := hat 1 (by omega); have g2 := hat 2 (by omega); have g3 := hat 3 (by omega); have g4 := hat 4 (by omega); have g5 := hat 5 (by omega)
      simp only [List.getElem?_cons_zero, List.getElem?_cons_succ] at g0 g1 g2 g3 g4 g5
      have hsp : ((a.add (i * 6)).add 0).spot = none := World.cell?_spot g0
      have hbl := World.block_lt_of_cell? _ _ g0
      have hne : ∀ j, j ≠ 0 → (a.add (i * 6)).add j = ⟨a.block, a.off + i * 6 + j, none⟩ := fun j hj => by
        unfold Addr.add
        by_cases h6 : i * 6 = 0 <;> simp [h6, hj]
      have hz : (a.add (i * 6)).add 0 = ⟨a.block, a.off + i * 6, (a.add (i * 6)).spot⟩ := by
        unfold Addr.add
        by_cases h6 : i * 6 = 0 <;> simp [h6]
      rw [hz] at hsp hbl g0
      simp only at hsp hbl
      rw [hsp] at g0
      rw [hne 1 (by omega)] at g1; rw [hne 2 (by omega)] at g2; rw [hne 3 (by omega)] at g3; rw [hne 4 (by omega)] at g4; rw [hne 5 (by omega)] at g5
      refine ⟨⟨p, o, f, m, g, s⟩, (wf_range w3).1, ?_, hbl, g0, g1, g2, g3, g4, g5⟩
      obtain ⟨cs0, hc0, ht0⟩ := hi 0 (by omega)
      obtain ⟨p, o, f, m, g, s, rfl, _⟩ := elem_cells ht0
      rw [cellsElem] at hc0
      have k0 := (World.cells?_some hc0).2.2 0 (by omega)
      simp only [List.getElem?_cons_zero, Nat.zero_mul] at k0
      exact World.cell?_spot (by simpa [Addr.add] using k0)
    obtain ⟨l, rfl, hk⟩ := elems_of (fun i e => e.wf ∧ a.spot = none ∧ a.block < w.heap.size ∧ ElAt w a.block (a.off + i * 6) e) len each
    refine ⟨some a, cap, l, rfl, by simp only [maxLen] at hm; omega, fun e he => ?_, fun hpos => ?_⟩
    · obtain ⟨k, hkl, rfl⟩ := List.getElem_of_mem he
      exact (hk k _ (List.getElem?_eq_getElem hkl)).1
    · have h0 := hk 0 _ (List.getElem?_eq_getElem hpos)
      refine ⟨a.block, a.off, ?_, h0.2.2.1, fun k e he => (hk k e he).2.2.2⟩
      obtain ⟨b, q, sp⟩ := a
      have hsp : sp = none := h0.2.1
      subst hsp; rfl
end
end Go.Proofs.Ytgebilpdinbfgaa

/- How a node reads: its four slices in memory, and how long they can be. -/
namespace Go.Proofs.Ytgebilpdinbfgaa
open Go.ChangeShapes Go.WideShapes Go.ChangeAt Go.RowKit
section
variable {H : Type} {enc : TypeId × Value → H} {w : World} {base : Nat} {spare : Nat → Bool} {held : Bool}

set_option maxRecDepth 100000 in
theorem list_of {α : Type} (R : Nat → α → Prop) : ∀ n, (∀ i, i < n → ∃ e, R i e) → ∃ l : List α, l.length = n ∧ ∀ k e, l[k]? = some e → R k e
  | 0, _ => ⟨[], rfl, by simp⟩
  | n + 1, h => by
    obtain ⟨l, hl, hk⟩ := list_of R n fun i hi => h i (by omega)
    obtain ⟨e, he⟩ := h n (by omega)
    refine ⟨l ++ [e], by simp [hl], fun k x hx => ?_⟩
    rcases Nat.lt_or_ge k n with hlt | hge
    · rw [List.getElem?_append_left (by omega)] at hx; exact hk k x hx
    · rw [List.getElem?_append_right (by omega)] at hx
      have : k = n := by
        have := (List.getElem?_eq_some_iff.1 hx).1
        simp at this; omega
      subst this
      rw [hl] at hx; simp at hx; subst hx; exact he
set_option maxRecDepth 100000 in
theorem add_add (b q i j : Nat) : ((⟨b, q, none⟩ : Addr).add i).add j = ⟨b, q + i + j, none⟩ := by
  unfold Addr.add
  split <;> split <;> simp_all

set_option maxRecDepth 100000 in
/-- A slice of rows of N cells each. -/
theorem rows_open {t e : TypeId} {fuel : Nat} {cs : List Value} {x : DataW H × List MemPlace} {α : Type} (cv : α → List Value) (wf : α → Prop) (N : Nat) (ht : Try.prog.underlying t = some (.slice e)) (hN : Try.prog.cellsOf e = N) (h0 : 0 < N)
    (hel : ∀ fuel cs x, DataW.trod enc Try.prog w base spare held fuel e cs = some x → ∃ y, cs = cv y ∧ wf y) (h : DataW.trod enc Try.prog w base spare held fuel t cs = some x) :
    ∃ (A : Option Addr) (c : Nat) (l : List α), cs = [.slice A l.length c] ∧ l.length ≤ 9223372036854775807 ∧ l.length ≤ c ∧ (∀ y ∈ l, wf y) ∧
      (0 < l.length → ∃ b q, A = some ⟨b, q, none⟩ ∧ b < w.heap.size ∧ ∀ (k : Nat) (y : α), l[k]? = some y → ∀ j, j < N → w.cell? ⟨b, q + k * N + j, none⟩ = (cv y)[j]?) ∧
      (x.1 = .nil ∧ l.length = 0 ∨ ∃ els sp : List (DataW H), x.1 = .slice els sp ∧ l.length ≤ els.length) := by
  rcases Go.Deep.open_slice ht h with ⟨hcs, hx⟩ | ⟨a, len, cap, m, n, D, Pl, hcs, _, hl, hm, hmm, hx, hi⟩
  · exact ⟨none, 0, [], hcs, by simp, by simp, by simp, fun h => absurd h (by simp), Or.inl ⟨by rw [hx], rfl⟩⟩
  · have hlm : len ≤ m := by rw [hmm]; split <;> omega
    have hsp : 0 < len → a.spot = none := fun hpos => by
      obtain ⟨cs0, hc0, ht0⟩ := hi 0 (by omega)
      rw [hN] at hc0
      obtain ⟨_, hlc, hat⟩ := World.cells?_some hc0
      have k0 := hat 0 h0
      obtain ⟨v0, hv0⟩ : ∃ v, cs0[0]? = some v := ⟨_, List.getElem?_eq_getElem (by omega)⟩
      rw [hv0, Nat.zero_mul] at k0
      exact World.cell?_spot (by simpa [Addr.add] using k0)
    have each : ∀ i, i < len → ∃ y : α, wf y ∧ a.block < w.heap.size ∧ ∀ j, j < N → w.cell? ⟨a.block, a.off + i * N + j, none⟩ = (cv y)[j]? := fun i hil => by
      obtain ⟨cs', hc, ht'⟩ := hi i (by omega)
      obtain ⟨y, rfl, hwf⟩ := hel _ _ _ ht'
      rw [hN] at hc
      obtain ⟨_, hlc, hat⟩ := World.cells?_some hc
      have hs := hsp (by omega)
      obtain ⟨b, q, sp⟩ := a
      simp only at hs
      subst hs
      simp only [add_add] at hat
      refine ⟨y, hwf, ?_, fun j hj => hat j hj⟩
      have k0 := hat 0 h0
      obtain ⟨v0, hv0⟩ : ∃ v, (cv y)[0]? = some v := ⟨_, List.getElem?_eq_getElem (by omega)⟩
      rw [hv0] at k0
      have hbl := World.block_lt_of_cell? _ _ k0
      exact hbl
    obtain ⟨l, rfl, hk⟩ := list_of (fun i y => wf y ∧ a.block < w.heap.size ∧ ∀ j, j < N → w.cell? ⟨a.block, a.off + i * N + j, none⟩ = (cv y)[j]?) len each
    refine ⟨some a, cap, l, hcs, by simp only [maxLen] at hm; omega, hl, fun y hy => ?_, fun hpos => ?_, Or.inr ⟨_, _, by rw [hx], by simp⟩⟩
    · obtain ⟨k, hkl, rfl⟩ := List.getElem_of_mem hy
      exact (hk k _ (List.getElem?_eq_getElem hkl)).1
    · have hs := hsp hpos
      obtain ⟨b, q, sp⟩ := a
      simp only at hs
      subst hs
      exact ⟨b, q, rfl, (hk 0 _ (List.getElem?_eq_getElem hpos)).2.1, fun k y hy => (hk k y hy).2.2⟩

set_option maxRecDepth 100000 in
theorem cellsNode : Try.prog.cellsOf 60 = 5 := by kernel_rfl
set_option maxRecDepth 100000 in
theorem cellsSlE : Try.prog.cellsOf 27 = 1 := by kernel_rfl
set_option maxRecDepth 100000 in
theorem cellsSlI : Try.prog.cellsOf 57 = 1 := by kernel_rfl
set_option maxRecDepth 100000 in
theorem cellsSlS : Try.prog.cellsOf 58 = 1 := by kernel_rfl
set_option maxRecDepth 100000 in
theorem bytesE : Try.prog.bytesOf 33 = 56 := by kernel_rfl
set_option maxRecDepth 100000 in
theorem bytesI : Try.prog.bytesOf 3 = 8 := by kernel_rfl
set_option maxRecDepth 100000 in
theorem bytesS : Try.prog.bytesOf 47 = 32 := by kernel_rfl
set_option maxRecDepth 100000 in
theorem trod_struct5 {P : Program} {t : TypeId} {f0 f1 f2 f3 f4 : Field} {fuel : Nat} {cs : List Value} {x : DataW H × List MemPlace} (ht : P.underlying t = some (.struct #[f0, f1, f2, f3, f4])) (h : DataW.trod enc P w base spare held fuel t cs = some x) :
    ∃ y0 y1 y2 y3 y4 n, x.1 = .agg [y0.1, y1.1, y2.1, y3.1, y4.1] ∧ cs.length = P.cellsOf t ∧ DataW.trod enc P w base spare held n f0.type ((cs.drop f0.offset).take (P.cellsOf f0.type)) = some y0 ∧
      DataW.trod enc P w base spare held n f1.type ((cs.drop f1.offset).take (P.cellsOf f1.type)) = some y1 ∧ DataW.trod enc P w base spare held n f2.type ((cs.drop f2.offset).take (P.cellsOf f2.type)) = some y2 ∧
      DataW.trod enc P w base spare held n f3.type ((cs.drop f3.offset).take (P.cellsOf f3.type)) = some y3 ∧ DataW.trod enc P w base spare held n f4.type ((cs.drop f4.offset).take (P.cellsOf f4.type)) = some y4 := by
  obtain ⟨xs, n, _, rfl, hl, hlen, hf⟩ := DataW.trod_struct ht h
  match xs, hlen with
  | [y0, y1, y2, y3, y4], _ => exact ⟨y0, y1, y2, y3, y4, n, by simp, hl, by simpa using hf 0 f0 rfl, by simpa using hf 1 f1 rfl, by simpa using hf 2 f2 rfl, by simpa using hf 3 f3 rfl, by simpa using hf 4 f4 rfl⟩

set_option maxRecDepth 100000 in
/-- What the weight of a slice says of its length. -/
theorem len_of {ts : List TypeId} {ds : List (DataW H)} (hsz : (DataW.weightsEach Try.prog ts ds).all (· ≤ reachBytes) = true) {j : Nat} {t e : TypeId} {d : DataW H} {n B : Nat} (ht : ts[j]? = some t) (hd : ds[j]? = some d) (hu : Try.prog.underlying t = some (.slice e)) (hB : Try.prog.bytesOf e = B) (h0 : 0 < B)
    (h : d = .nil ∧ n = 0 ∨ ∃ els sp : List (DataW H), d = .slice els sp ∧ n ≤ els.length) : n ≤ 140737488351232 := by
  rcases h with ⟨_, rfl⟩ | ⟨els, sp, rfl, hn⟩
  · omega
  · have h1 := sized_slice hsz ht hd hu
    rw [hB] at h1
    have h2 : (els.length + sp.length) * 1 ≤ (els.length + sp.length) * B := Nat.mul_le_mul_left _ h0
    have h3 : reachBytes = 140737488351232 := by decide
    omega

def ivC (x : Int) : List Value := [.int .i64 x]
def spC (s : Sp) : List Value := [.int .i64 s.p, .int .i64 s.o, .int .i64 s.f, .int .i64 s.m]

variable {r : Reach} {b0 : Nat} {v : Value} {d : DataW H} {ps : List MemPlace}
set_option maxRecDepth 100000 in
theorem open_node (hv : Value.okWide Try.prog w r b0 60 v) (h : DataW.Trod enc Try.prog w base spare held 60 v d ps) :
    ∃ (kd : Int) (A1 A2 A3 A4 : Option Addr) (c1 c2 c3 c4 : Nat) (E : List El) (K : List Int) (S : List Sp) (T : List Int), v = .agg #[.int .i64 kd, .slice A1 E.length c1, .slice A2 K.length c2, .slice A3 S.length c3, .slice A4 T.length c4] ∧ NdAt w A1 A2 A3 A4 E K S T ∧ E.length ≤ c1 ∧
      ∀ {ts : List TypeId} {ds : List (DataW H)} {j : Nat}, (DataW.weightsEach Try.prog ts ds).all (· ≤ reachBytes) = true → ts[j]? = some 60 → ds[j]? = some d →
        E.length ≤ 140737488351232 ∧ K.length ≤ 140737488351232 ∧ S.length ≤ 140737488351232 ∧ T.length ≤ 140737488351232 := by
  obtain ⟨cs, rfl, _⟩ := okWide_struct Try.underlying60 hv
  obtain ⟨fuel, hf⟩ := h
  obtain ⟨y0, y1, y2, y3, y4, n, hd, hl, h0, h1, h2, h3, h4⟩ := trod_struct5 Try.underlying60 hf
  obtain ⟨kd, e0, _, w0⟩ := DataW.trod_int Try.underlying3 h0
  obtain ⟨A1, c1, E, e1, le1, lc1, wf1, at1, dd1⟩ := rows_open (α := El) El.cells El.wf 6 Try.underlying27 cellsElem (by omega) (fun fuel cs x hx => by
    obtain ⟨p, o, f, m, g, s, e, _, _, _, w3, _⟩ := elem_cells hx
    exact ⟨⟨p, o, f, m, g, s⟩, e, (wf_range w3).1⟩) h1
  obtain ⟨A2, c2, K, e2, le2, lc2, _, at2, dd2⟩ := rows_open (α := Int) ivC (fun _ => True) 1 Try.underlying57 cellsInt (by omega) (fun fuel cs x hx => by
    obtain ⟨p, e, _, _⟩ := DataW.trod_int Try.underlying3 hx
    exact ⟨p, e, trivial⟩) h2
  obtain ⟨A3, c3, S, e3, le3, lc3, wf3, at3, dd3⟩ := rows_open (α := Sp) spC (fun s => -9223372036854775808 ≤ s.m) 4 Try.underlying58 cellsSpot (by omega) (fun fuel cs x hx => by
    obtain ⟨p, o, f, m, e, _, _, _, w3⟩ := spot_cells hx
    exact ⟨⟨p, o, f, m⟩, e, (wf_range w3).1⟩) h3
  obtain ⟨A4, c4, T, e4, le4, lc4, _, at4, dd4⟩ := rows_open (α := Int) ivC (fun _ => True) 1 Try.underlying57 cellsInt (by omega) (fun fuel cs x hx => by
    obtain ⟨p, e, _, _⟩ := DataW.trod_int Try.underlying3 hx
    exact ⟨p, e, trivial⟩) h4
  simp only [cellsInt, cellsSlE, cellsSlI, cellsSlS, cellsNode, Value.cells] at e0 e1 e2 e3 e4 hl
  have hcs : cs.toList = [.int .i64 kd, .slice A1 E.length c1, .slice A2 K.length c2, .slice A3 S.length c3, .slice A4 T.length c4] := by
    match hm : cs.toList, hl with
    | [a0, a1, a2, a3, a4], _ =>
      rw [hm] at e0 e1 e2 e3 e4
      simp at e0 e1 e2 e3 e4
      rw [e0, e1, e2, e3, e4]
  refine ⟨kd, A1, A2, A3, A4, c1, c2, c3, c4, E, K, S, T, by rw [show cs = _ from Array.toList_inj.1 hcs], ⟨⟨wf1, fun hp => ?_⟩, fun hp => ?_, ⟨wf3, fun hp => ?_⟩, fun hp => ?_, le1, le2, le3, le4⟩, lc1, fun {ts ds j} hsz ht hds => ?_⟩
  · obtain ⟨b, q, hA, hb, hk⟩ := at1 hp
    refine ⟨b, q, hA, hb, fun k e he => ?_⟩
    have g := hk k e he
    exact ⟨g 0 (by omega), g 1 (by omega), g 2 (by omega), g 3 (by omega), g 4 (by omega), g 5 (by omega)⟩
  · obtain ⟨b, q, hA, hb, hk⟩ := at2 hp
    refine ⟨b, q, hA, hb, fun k e he => ?_⟩
    have g := hk k e he 0 (by omega)
    rw [Nat.mul_one, Nat.add_zero] at g
    exact g
  · obtain ⟨b, q, hA, hb, hk⟩ := at3 hp
    refine ⟨b, q, hA, hb, fun k e he => ?_⟩
    have g := hk k e he
    exact ⟨g 0 (by omega), g 1 (by omega), g 2 (by omega), g 3 (by omega)⟩
  · obtain ⟨b, q, hA, hb, hk⟩ := at4 hp
    refine ⟨b, q, hA, hb, fun k e he => ?_⟩
    have g := hk k e he 0 (by omega)
    rw [Nat.mul_one, Nat.add_zero] at g
    exact g
  · simp only at hd
    rw [hd] at hds
    have hin : (DataW.weightsEach Try.prog [3, 27, 57, 58, 57] [y0.1, y1.1, y2.1, y3.1, y4.1]).all (· ≤ reachBytes) = true := by
      refine List.all_eq_true.2 fun n hn => List.all_eq_true.1 hsz n (DataW.weights_mem_each ht hds n ?_)
      simp only [DataW.weights, Try.underlying60]
      exact hn
    exact ⟨len_of hin (j := 1) rfl rfl Try.underlying27 bytesE (by omega) dd1, len_of hin (j := 2) rfl rfl Try.underlying57 bytesI (by omega) dd2, len_of hin (j := 3) rfl rfl Try.underlying58 bytesS (by omega) dd3, len_of hin (j := 4) rfl rfl Try.underlying57 bytesI (by omega) dd4⟩
end
end Go.Proofs.Ytgebilpdinbfgaa

/- How a tree reads. -/
namespace Go.Proofs.Ytgebilpdinbfgaa
open Go.ChangeShapes Go.WideShapes Go.ChangeAt Go.RowKit
section
variable {H : Type} {enc : TypeId × Value → H} {w : World} {base : Nat} {spare : Nat → Bool} {held : Bool}

set_option maxRecDepth 100000 in
/-- A slice of rows of N cells each, with what its elements read as. -/
theorem rows_read {t e : TypeId} {fuel : Nat} {cs : List Value} {x : DataW H × List MemPlace} {α : Type} (cv : α → List Value) (wf : α → DataW H → Prop) (N : Nat) (ht : Try.prog.underlying t = some (.slice e)) (hN : Try.prog.cellsOf e = N) (h0 : 0 < N)
    (hel : ∀ fuel cs x, DataW.trod enc Try.prog w base spare held fuel e cs = some x → ∃ y, cs = cv y ∧ wf y x.1) (h : DataW.trod enc Try.prog w base spare held fuel t cs = some x) :
    ∃ (A : Option Addr) (c : Nat) (l : List α), cs = [.slice A l.length c] ∧ l.length ≤ 9223372036854775807 ∧ l.length ≤ c ∧
      (0 < l.length → ∃ b q, A = some ⟨b, q, none⟩ ∧ b < w.heap.size ∧ ∀ (k : Nat) (y : α), l[k]? = some y → ∀ j, j < N → w.cell? ⟨b, q + k * N + j, none⟩ = (cv y)[j]?) ∧
      (x.1 = .nil ∧ l.length = 0 ∨ ∃ els sp : List (DataW H), x.1 = .slice els sp ∧ l.length ≤ els.length ∧ ∀ (k : Nat) (y : α), l[k]? = some y → ∃ d, els[k]? = some d ∧ wf y d) := by
  rcases Go.Deep.open_slice ht h with ⟨hcs, hx⟩ | ⟨a, len, cap, m, n, D, Pl, hcs, _, hl, hm, hmm, hx, hi⟩
  · exact ⟨none, 0, [], hcs, by simp, by simp, fun h => absurd h (by simp), Or.inl ⟨by rw [hx], rfl⟩⟩
  · have hlm : len ≤ m := by rw [hmm]; split <;> omega
    have hsp : 0 < len → a.spot = none := fun hpos => by
      obtain ⟨cs0, hc0, ht0⟩ := hi 0 (by omega)
      rw [hN] at hc0
      obtain ⟨_, hlc, hat⟩ := World.cells?_some hc0
      have k0 := hat 0 h0
      obtain ⟨v0, hv0⟩ : ∃ v, cs0[0]? = some v := ⟨_, List.getElem?_eq_getElem (by omega)⟩
      rw [hv0, Nat.zero_mul] at k0
      exact World.cell?_spot (by simpa [Addr.add] using k0)
    have each : ∀ i, i < len → ∃ y : α, wf y (D i) ∧ a.block < w.heap.size ∧ ∀ j, j < N → w.cell? ⟨a.block, a.off + i * N + j, none⟩ = (cv y)[j]? := fun i hil => by
      obtain ⟨cs', hc, ht'⟩ := hi i (by omega)
      obtain ⟨y, rfl, hwf⟩ := hel _ _ _ ht'
      rw [hN] at hc
      obtain ⟨_, hlc, hat⟩ := World.cells?_some hc
      have hs := hsp (by omega)
      obtain ⟨b, q, sp⟩ := a
      simp only at hs
      subst hs
      simp only [add_add] at hat
      refine ⟨y, hwf, ?_, fun j hj => hat j hj⟩
      have k0 := hat 0 h0
      obtain ⟨v0, hv0⟩ : ∃ v, (cv y)[0]? = some v := ⟨_, List.getElem?_eq_getElem (by omega)⟩
      rw [hv0] at k0
      have hbl := World.block_lt_of_cell? _ _ k0
      exact hbl
    obtain ⟨l, rfl, hk⟩ := list_of (fun i y => wf y (D i) ∧ a.block < w.heap.size ∧ ∀ j, j < N → w.cell? ⟨a.block, a.off + i * N + j, none⟩ = (cv y)[j]?) len each
    refine ⟨some a, cap, l, hcs, by simp only [maxLen] at hm; omega, hl, fun hpos => ?_, Or.inr ⟨_, _, by rw [hx], by simp, fun k y hy => ?_⟩⟩
    · have hs := hsp hpos
      obtain ⟨b, q, sp⟩ := a
      simp only at hs
      subst hs
      exact ⟨b, q, rfl, (hk 0 _ (List.getElem?_eq_getElem hpos)).2.1, fun k y hy => (hk k y hy).2.2⟩
    · have hlt := (List.getElem?_eq_some_iff.1 hy).1
      exact ⟨D k, by simp [hlt], (hk k y hy).1⟩

/-- What Go keeps of every slice: it is no longer than its capacity. -/
def NdCaps (n : Nd) : Prop := n.E.length ≤ n.c1 ∧ n.K.length ≤ n.c2 ∧ n.S.length ≤ n.c3 ∧ n.T.length ≤ n.c4
/-- What a weight of at most reachBytes says of a node. -/
def NdSized (n : Nd) : Prop := n.E.length ≤ 140737488351232 ∧ n.K.length ≤ 140737488351232 ∧ n.S.length ≤ 140737488351232 ∧ n.T.length ≤ 140737488351232
set_option maxRecDepth 100000 in
theorem node_cells {fuel : Nat} {cs : List Value} {x : DataW H × List MemPlace} (hf : DataW.trod enc Try.prog w base spare held fuel 60 cs = some x) :
    ∃ n : Nd, cs = n.cells ∧ n.at_ w ∧ NdCaps n ∧ ((x.1.weights Try.prog 60).all (· ≤ reachBytes) = true → NdSized n) := by
  obtain ⟨y0, y1, y2, y3, y4, n, hd, hl, h0, h1, h2, h3, h4⟩ := trod_struct5 Try.underlying60 hf
  obtain ⟨kd, e0, _, w0⟩ := DataW.trod_int Try.underlying3 h0
  obtain ⟨A1, c1, E, e1, le1, lc1, wf1, at1, dd1⟩ := rows_open (α := El) El.cells El.wf 6 Try.underlying27 cellsElem (by omega) (fun fuel cs x hx => by
    obtain ⟨p, o, f, m, g, s, e, _, _, _, w3, _⟩ := elem_cells hx
    exact ⟨⟨p, o, f, m, g, s⟩, e, (wf_range w3).1⟩) h1
  obtain ⟨A2, c2, K, e2, le2, lc2, _, at2, dd2⟩ := rows_open (α := Int) ivC (fun _ => True) 1 Try.underlying57 cellsInt (by omega) (fun fuel cs x hx => by
    obtain ⟨p, e, _, _⟩ := DataW.trod_int Try.underlying3 hx
    exact ⟨p, e, trivial⟩) h2
  obtain ⟨A3, c3, S, e3, le3, lc3, wf3, at3, dd3⟩ := rows_open (α := Sp) spC (fun s => -9223372036854775808 ≤ s.m) 4 Try.underlying58 cellsSpot (by omega) (fun fuel cs x hx => by
    obtain ⟨p, o, f, m, e, _, _, _, w3⟩ := spot_cells hx
    exact ⟨⟨p, o, f, m⟩, e, (wf_range w3).1⟩) h3
  obtain ⟨A4, c4, T, e4, le4, lc4, _, at4, dd4⟩ := rows_open (α := Int) ivC (fun _ => True) 1 Try.underlying57 cellsInt (by omega) (fun fuel cs x hx => by
    obtain ⟨p, e, _, _⟩ := DataW.trod_int Try.underlying3 hx
    exact ⟨p, e, trivial⟩) h4
  simp only [cellsInt, cellsSlE, cellsSlI, cellsSlS, cellsNode] at e0 e1 e2 e3 e4 hl
  have hcs : cs = [.int .i64 kd, .slice A1 E.length c1, .slice A2 K.length c2, .slice A3 S.length c3, .slice A4 T.length c4] := by
    match cs, hl with
    | [a0, a1, a2, a3, a4], _ =>
      simp at e0 e1 e2 e3 e4
      rw [e0, e1, e2, e3, e4]
  refine ⟨⟨kd, A1, A2, A3, A4, c1, c2, c3, c4, E, K, S, T⟩, hcs, ⟨⟨wf1, fun hp => ?_⟩, fun hp => ?_, ⟨wf3, fun hp => ?_⟩, fun hp => ?_, le1, le2, le3, le4⟩, ⟨lc1, lc2, lc3, lc4⟩, fun hsz => ?_⟩
  · obtain ⟨b, q, hA, hb, hk⟩ := at1 hp
    refine ⟨b, q, hA, hb, fun k e he => ?_⟩
    have g := hk k e he
    exact ⟨g 0 (by omega), g 1 (by omega), g 2 (by omega), g 3 (by omega), g 4 (by omega), g 5 (by omega)⟩
  · obtain ⟨b, q, hA, hb, hk⟩ := at2 hp
    refine ⟨b, q, hA, hb, fun k e he => ?_⟩
    have g := hk k e he 0 (by omega)
    rw [Nat.mul_one, Nat.add_zero] at g
    exact g
  · obtain ⟨b, q, hA, hb, hk⟩ := at3 hp
    refine ⟨b, q, hA, hb, fun k e he => ?_⟩
    have g := hk k e he
    exact ⟨g 0 (by omega), g 1 (by omega), g 2 (by omega), g 3 (by omega)⟩
  · obtain ⟨b, q, hA, hb, hk⟩ := at4 hp
    refine ⟨b, q, hA, hb, fun k e he => ?_⟩
    have g := hk k e he 0 (by omega)
    rw [Nat.mul_one, Nat.add_zero] at g
    exact g
  · have hin : (DataW.weightsEach Try.prog [3, 27, 57, 58, 57] [y0.1, y1.1, y2.1, y3.1, y4.1]).all (· ≤ reachBytes) = true := by
      rw [hd] at hsz
      simp only [DataW.weights, Try.underlying60] at hsz
      exact hsz
    exact ⟨len_of hin (j := 1) rfl rfl Try.underlying27 bytesE (by omega) dd1, len_of hin (j := 2) rfl rfl Try.underlying57 bytesI (by omega) dd2, len_of hin (j := 3) rfl rfl Try.underlying58 bytesS (by omega) dd3, len_of hin (j := 4) rfl rfl Try.underlying57 bytesI (by omega) dd4⟩

set_option maxRecDepth 100000 in
theorem cellsTree : Try.prog.cellsOf 24 = 2 := by kernel_rfl
set_option maxRecDepth 100000 in
theorem cellsSlN : Try.prog.cellsOf 22 = 1 := by kernel_rfl
set_option maxRecDepth 100000 in
theorem bytesN : Try.prog.bytesOf 60 = 104 := by kernel_rfl
set_option maxRecDepth 100000 in
theorem weights_all {e : TypeId} : ∀ {els : List (DataW H)} {k : Nat} {d : DataW H}, els[k]? = some d → ∀ n ∈ d.weights Try.prog e, n ∈ DataW.weightsAll Try.prog e els
  | [], k, d, h => by simp at h
  | x :: els, 0, d, h => by
    simp at h; subst h
    intro n hn
    rw [DataW.weightsAll]
    exact List.mem_append.2 (.inl hn)
  | x :: els, k + 1, d, h => by
    intro n hn
    rw [DataW.weightsAll]
    exact List.mem_append.2 (.inr (weights_all (k := k) (by simpa using h) n hn))
variable {r : Reach} {b0 : Nat} {v : Value} {d : DataW H} {ps : List MemPlace}
set_option maxRecDepth 100000 in
theorem open_tree (hv : Value.okWide Try.prog w r b0 24 v) (h : DataW.Trod enc Try.prog w base spare held 24 v d ps) :
    ∃ (root : Int) (A : Option Addr) (c : Nat) (l : List Nd), v = .agg #[.int .i64 root, .slice A l.length c] ∧ TrAt w A l ∧ l.length ≤ c ∧ (∀ n ∈ l, NdCaps n) ∧
      ∀ {ts : List TypeId} {ds : List (DataW H)} {j : Nat}, (DataW.weightsEach Try.prog ts ds).all (· ≤ reachBytes) = true → ts[j]? = some 24 → ds[j]? = some d →
        l.length ≤ 140737488351232 ∧ ∀ n ∈ l, NdSized n := by
  obtain ⟨cs, rfl, _⟩ := okWide_struct Try.underlying24 hv
  obtain ⟨fuel, hf⟩ := h
  obtain ⟨y0, y1, n, hd, hl, h0, h1⟩ := trod_struct2 Try.underlying24 hf
  obtain ⟨root, e0, _, w0⟩ := DataW.trod_int Try.underlying3 h0
  obtain ⟨A, c, l, e1, le1, lc1, at1, dd1⟩ := rows_read (α := Nd) Nd.cells (fun n x => n.at_ w ∧ NdCaps n ∧ ((x.weights Try.prog 60).all (· ≤ reachBytes) = true → NdSized n)) 5 Try.underlying22 cellsNode (by omega) (fun fuel cs x hx => node_cells hx) h1
  simp only [cellsInt, cellsSlN, cellsTree, Value.cells] at e0 e1 hl
  have hcs : cs.toList = [.int .i64 root, .slice A l.length c] := by
    match hm : cs.toList, hl with
    | [a0, a1], _ =>
      rw [hm] at e0 e1
      simp at e0 e1
      rw [e0, e1]
  have hall : ∀ n ∈ l, n.at_ w ∧ NdCaps n := fun n hn => by
    rcases dd1 with ⟨_, hz⟩ | ⟨els, sp, _, _, hk⟩
    · rw [List.eq_nil_of_length_eq_zero hz] at hn
      exact absurd hn List.not_mem_nil
    · obtain ⟨k, hkl, rfl⟩ := List.getElem_of_mem hn
      obtain ⟨_, _, g⟩ := hk k _ (List.getElem?_eq_getElem hkl)
      exact ⟨g.1, g.2.1⟩
  refine ⟨root, A, c, l, by rw [show cs = _ from Array.toList_inj.1 hcs], ⟨fun n hn => (hall n hn).1, fun hp => ?_, le1⟩, lc1, fun n hn => (hall n hn).2, fun {ts ds j} hsz ht hds => ?_⟩
  · obtain ⟨b, q, hA, hb, hk⟩ := at1 hp
    exact ⟨b, q, hA, hb, hk⟩
  · have hd' : d = .agg [y0.1, y1.1] := congrArg Prod.fst hd
    rw [hd'] at hds
    have hin : (DataW.weightsEach Try.prog [3, 22] [y0.1, y1.1]).all (· ≤ reachBytes) = true := by
      refine List.all_eq_true.2 fun n hn => List.all_eq_true.1 hsz n (DataW.weights_mem_each ht hds n ?_)
      simp only [DataW.weights, Try.underlying24]
      exact hn
    refine ⟨len_of hin (j := 1) rfl rfl Try.underlying22 bytesN (by omega) (dd1.imp id fun ⟨els, sp, g1, g2, _⟩ => ⟨els, sp, g1, g2⟩), fun n hn => ?_⟩
    rcases dd1 with ⟨_, hz⟩ | ⟨els, sp, hx, _, hk⟩
    · rw [List.eq_nil_of_length_eq_zero hz] at hn
      exact absurd hn List.not_mem_nil
    · obtain ⟨k, hkl, rfl⟩ := List.getElem_of_mem hn
      obtain ⟨dk, g1, g⟩ := hk k _ (List.getElem?_eq_getElem hkl)
      refine g.2.2 (List.all_eq_true.2 fun n hn => List.all_eq_true.1 hin n ?_)
      refine DataW.weights_mem_each (j := 1) rfl rfl n ?_
      rw [hx]
      simp only [DataW.weights, Try.underlying22]
      exact List.mem_cons_of_mem _ (List.mem_append.2 (.inl (weights_all g1 n hn)))
end
end Go.Proofs.Ytgebilpdinbfgaa

