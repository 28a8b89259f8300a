/- What the functions of package elem, the spots of package key, and annalref beside them, answer. -/
import Derived.Test.YtccfcloekjogkaaCmp
namespace Go.Proofs.Ytccfcloekjogkaa
open Go.RowKit

set_option maxRecDepth 100000 in
set_option maxHeartbeats 1000000 in
theorem cmpSpot_any (p o f m p' o' f' m' : Int) (w : World) :
    Calls Try.prog 41 #[.agg #[.int .i64 p, .int .i64 o, .int .i64 f, .int .i64 m], .agg #[.int .i64 p', .int .i64 o', .int .i64 f', .int .i64 m']] w fun e w' => e = .returned (.int .i64 (scmp p o f m p' o' f' m')) ∧ Calm w w' := by
  by_cases e1 : kcmp p o f p' o' f' = 0
  · have b1 : (kcmp p o f p' o' f' != 0) = false := by simpa using e1
    have K : Hid (icmp m m' = scmp p o f m p' o' f' m') := by show _ = _; simp [scmp, e1]
    clear e1
    go_enter Try.func41, Try.ntmps41
    go_wp2_with (first
      | (go_at_call 67; refine (cmp_any _ _ _ _ _ _ _).mono ?_; rintro e w1 ⟨rfl, hb1⟩; obtain ⟨hc1, hf1, hz1⟩ := hb1.facts; (try simp only [World.size_drew] at hc1 hf1 hz1); (try simp only [World.size_alloc] at hc1 hf1 hz1))
      | (go_at_call 78; refine (compare_any _ _ _).mono ?_; rintro e w1 ⟨rfl, rfl⟩))
    go_ret
    exact ⟨ret_int K.out, by repeat (first | (with_reducible exact Calm.refl _) | (with_reducible refine Calm.alloc ?_ _) | (with_reducible refine Calm.drew ?_) | (with_reducible refine Calm.drewN ?_ _) | (refine Calm.call ?_ (by with_reducible assumption)))⟩
  · have b1 : (kcmp p o f p' o' f' != 0) = true := by simpa using e1
    have K : Hid (kcmp p o f p' o' f' = scmp p o f m p' o' f' m') := by show _ = _; simp [scmp, e1]
    clear e1
    go_enter Try.func41, Try.ntmps41
    go_wp2_with (first
      | (go_at_call 67; refine (cmp_any _ _ _ _ _ _ _).mono ?_; rintro e w1 ⟨rfl, hb1⟩; obtain ⟨hc1, hf1, hz1⟩ := hb1.facts; (try simp only [World.size_drew] at hc1 hf1 hz1); (try simp only [World.size_alloc] at hc1 hf1 hz1))
      | (go_at_call 78; refine (compare_any _ _ _).mono ?_; rintro e w1 ⟨rfl, rfl⟩))
    go_ret
    exact ⟨ret_int K.out, by repeat (first | (with_reducible exact Calm.refl _) | (with_reducible refine Calm.alloc ?_ _) | (with_reducible refine Calm.drew ?_) | (with_reducible refine Calm.drewN ?_ _) | (refine Calm.call ?_ (by with_reducible assumption)))⟩

set_option maxRecDepth 100000 in
set_option maxHeartbeats 400000 in
theorem between_any (x n : Int) (w : World) : Calls Try.prog 86 #[.int .i64 x, .int .i64 n] w fun e w' => e = .returned (.bool (decide (0 ≤ x ∧ x ≤ n))) ∧ w = w' := by
  go_enter Try.func86, Try.ntmps86
  go_wp2
  all_goals
    go_ret
    exact ⟨ret_bool (Bool.eq_iff_iff.2 (by simp; omega)), rfl⟩

set_option maxRecDepth 100000 in
set_option maxHeartbeats 400000 in
theorem isTime_any (x : Int) (w : World) : Calls Try.prog 121 #[.int .i64 x] w fun e w' => e = .returned (.bool (decide (1 ≤ x ∧ x ≤ 2147483647))) ∧ w = w' := by
  go_enter Try.func121, Try.ntmps121
  go_wp2
  all_goals
    go_ret
    exact ⟨ret_bool (Bool.eq_iff_iff.2 (by simp; omega)), rfl⟩

set_option maxRecDepth 100000 in
set_option maxHeartbeats 1000000 in
theorem refKey_any (p o f : Int) (w : World) : Calls Try.prog 51 #[.agg #[.int .i64 p, .int .i64 o, .int .i64 f]] w fun e w' => e = .returned (.int .i64 (keyErr p o f)) ∧ Calm w w' := by
  go_enter Try.func51, Try.ntmps51
  go_wp2_with (go_at_call 86; refine (between_any _ _ _).mono ?_; rintro e w1 ⟨rfl, rfl⟩)
  all_goals
    go_ret
    exact ⟨ret_int (by first | rw [keyErr_ok (by omega) (by omega) (by omega) (by omega) (by omega) (by omega)] | rw [keyErr_no (by omega)]), by repeat (first | (with_reducible exact Calm.refl _) | (with_reducible refine Calm.alloc ?_ _) | (with_reducible refine Calm.drew ?_) | (with_reducible refine Calm.drewN ?_ _) | (refine Calm.call ?_ (by with_reducible assumption)))⟩

set_option maxRecDepth 100000 in
set_option maxHeartbeats 1000000 in
theorem ahead_any (p o f p' o' f' : Int) (w : World) : Calls Try.prog 87 #[.agg #[.int .i64 p, .int .i64 o, .int .i64 f], .agg #[.int .i64 p', .int .i64 o', .int .i64 f']] w fun e w' => e = .returned (.bool (aheadB p o f p' o' f')) ∧ Calm w w' := by
  go_enter Try.func87, Try.ntmps87
  go_wp2
  all_goals
    go_ret
    exact ⟨ret_bool (Bool.eq_iff_iff.2 (by rw [aheadB_iff]; simp_all; try omega)), by repeat (first | (with_reducible exact Calm.refl _) | (with_reducible refine Calm.alloc ?_ _) | (with_reducible refine Calm.drew ?_) | (with_reducible refine Calm.drewN ?_ _) | (refine Calm.call ?_ (by with_reducible assumption)))⟩

set_option maxRecDepth 100000 in
set_option maxHeartbeats 1000000 in
theorem aheadSpot_any (p o f m p' o' f' m' : Int) (w : World) : Calls Try.prog 52 #[.agg #[.int .i64 p, .int .i64 o, .int .i64 f, .int .i64 m], .agg #[.int .i64 p', .int .i64 o', .int .i64 f', .int .i64 m']] w fun e w' => e = .returned (.bool (aheadS p o f m p' o' f' m')) ∧ Calm w w' := by
  cases hA : aheadB p o f p' o' f'
  all_goals
    go_enter Try.func52, Try.ntmps52
    go_wp2_with (go_at_call 87; refine (ahead_any _ _ _ _ _ _ _).mono ?_; rintro e w1 ⟨rfl, hb1⟩; obtain ⟨hc1, hf1, hz1⟩ := hb1.facts; (try simp only [World.size_drew] at hc1 hf1 hz1); (try simp only [World.size_alloc] at hc1 hf1 hz1))
    all_goals
      go_ret
      exact ⟨ret_bool (Bool.eq_iff_iff.2 (by rw [aheadS_iff, hA]; simp_all)), by repeat (first | (with_reducible exact Calm.refl _) | (with_reducible refine Calm.alloc ?_ _) | (with_reducible refine Calm.drew ?_) | (with_reducible refine Calm.drewN ?_ _) | (refine Calm.call ?_ (by with_reducible assumption)))⟩

/-! ### elem -/
set_option maxRecDepth 100000 in
set_option maxHeartbeats 1000000 in
theorem timesFit_any (m g : Int) (w : World) : Calls Try.prog 95 #[.int .i64 m, .int .i64 g] w fun e w' => e = .returned (.bool (decide (timeOk m g))) ∧ w = w' := by
  go_enter Try.func95, Try.ntmps95
  go_wp2_with (go_at_call 121; refine (isTime_any _ _).mono ?_; rintro e w1 ⟨rfl, rfl⟩)
  all_goals
    go_ret
    exact ⟨ret_bool (Bool.eq_iff_iff.2 (by rw [decide_eq_true_eq]; unfold timeOk; simp at * <;> omega)), rfl⟩


set_option maxRecDepth 100000 in
set_option maxHeartbeats 1000000 in
theorem elemCheck_any (p o f m g : Int) (s : ByteArray) (w : World) : Calls Try.prog 63 #[.agg #[.int .i64 p, .int .i64 o, .int .i64 f, .int .i64 m, .int .i64 g, .string s]] w fun e w' => e = .returned (.int .i64 (elemErr p o f m g s.size)) ∧ Calm w w' := by
  by_cases h1 : keyErr p o f = 0
  rotate_left
  · have b1 : (keyErr p o f != 0) = true := by simpa using h1
    have K : Hid (keyErr p o f = elemErr p o f m g s.size) := (elemErr_key h1).symm
    clear h1
    go_enter Try.func63, Try.ntmps63
    go_wp2_with (go_at_call 65; refine (keyCheck_any _ _ _ _).mono ?_; rintro e w1 ⟨rfl, hb1⟩; obtain ⟨hc1, hf1, hz1⟩ := hb1.facts; (try simp only [World.size_drew] at hc1 hf1 hz1); (try simp only [World.size_alloc] at hc1 hf1 hz1))
    go_ret
    exact ⟨ret_int K.out, by repeat (first | (with_reducible exact Calm.refl _) | (with_reducible refine Calm.alloc ?_ _) | (with_reducible refine Calm.drew ?_) | (with_reducible refine Calm.drewN ?_ _) | (refine Calm.call ?_ (by with_reducible assumption)))⟩
  have b1 : (keyErr p o f != 0) = false := by simpa using h1
  by_cases h2 : timeOk m g
  rotate_left
  · have b2 : decide (timeOk m g) = false := by simpa using h2
    have K : Hid (9 = elemErr p o f m g s.size) := (elemErr_time h1 h2).symm
    clear h1 h2
    go_enter Try.func63, Try.ntmps63
    go_wp2_with (first
      | (go_at_call 65; refine (keyCheck_any _ _ _ _).mono ?_; rintro e w1 ⟨rfl, hb1⟩; obtain ⟨hc1, hf1, hz1⟩ := hb1.facts; (try simp only [World.size_drew] at hc1 hf1 hz1); (try simp only [World.size_alloc] at hc1 hf1 hz1))
      | (go_at_call 95; refine (timesFit_any _ _ _).mono ?_; rintro e w1 ⟨rfl, rfl⟩))
    go_ret
    exact ⟨ret_int K.out, by repeat (first | (with_reducible exact Calm.refl _) | (with_reducible refine Calm.alloc ?_ _) | (with_reducible refine Calm.drew ?_) | (with_reducible refine Calm.drewN ?_ _) | (refine Calm.call ?_ (by with_reducible assumption)))⟩
  have b2 : decide (timeOk m g) = true := by simpa using h2
  by_cases h3 : (40 : Int) < s.size
  · have K : Hid (2 = elemErr p o f m g s.size) := (elemErr_long h1 h2 h3).symm
    clear h1 h2
    go_enter Try.func63, Try.ntmps63
    go_wp2_with (first
      | (go_at_call 65; refine (keyCheck_any _ _ _ _).mono ?_; rintro e w1 ⟨rfl, hb1⟩; obtain ⟨hc1, hf1, hz1⟩ := hb1.facts; (try simp only [World.size_drew] at hc1 hf1 hz1); (try simp only [World.size_alloc] at hc1 hf1 hz1))
      | (go_at_call 95; refine (timesFit_any _ _ _).mono ?_; rintro e w1 ⟨rfl, rfl⟩))
    go_ret
    exact ⟨ret_int K.out, by repeat (first | (with_reducible exact Calm.refl _) | (with_reducible refine Calm.alloc ?_ _) | (with_reducible refine Calm.drew ?_) | (with_reducible refine Calm.drewN ?_ _) | (refine Calm.call ?_ (by with_reducible assumption)))⟩
  · have K : Hid (0 = elemErr p o f m g s.size) := (elemErr_ok h1 h2 (by omega)).symm
    clear h1 h2
    go_enter Try.func63, Try.ntmps63
    go_wp2_with (first
      | (go_at_call 65; refine (keyCheck_any _ _ _ _).mono ?_; rintro e w1 ⟨rfl, hb1⟩; obtain ⟨hc1, hf1, hz1⟩ := hb1.facts; (try simp only [World.size_drew] at hc1 hf1 hz1); (try simp only [World.size_alloc] at hc1 hf1 hz1))
      | (go_at_call 95; refine (timesFit_any _ _ _).mono ?_; rintro e w1 ⟨rfl, rfl⟩))
    go_ret
    exact ⟨ret_int K.out, by repeat (first | (with_reducible exact Calm.refl _) | (with_reducible refine Calm.alloc ?_ _) | (with_reducible refine Calm.drew ?_) | (with_reducible refine Calm.drewN ?_ _) | (refine Calm.call ?_ (by with_reducible assumption)))⟩


set_option maxRecDepth 100000 in
set_option maxHeartbeats 2000000 in
theorem refElem_any (p o f m g : Int) (s : ByteArray) (w : World) (hm : -9223372036854775808 ≤ m) : Calls Try.prog 13 #[.agg #[.int .i64 p, .int .i64 o, .int .i64 f, .int .i64 m, .int .i64 g, .string s]] w fun e w' => e = .returned (.int .i64 (elemErr p o f m g s.size)) ∧ Calm w w' := by
  by_cases h1 : keyErr p o f = 0
  rotate_left
  · have b1 : (keyErr p o f != 0) = true := by simpa using h1
    have K : Hid (keyErr p o f = elemErr p o f m g s.size) := (elemErr_key h1).symm
    clear h1
    go_enter Try.func13, Try.ntmps13
    go_wp2_with (go_at_call 51; refine (refKey_any _ _ _ _).mono ?_; rintro e w1 ⟨rfl, hb1⟩; obtain ⟨hc1, hf1, hz1⟩ := hb1.facts; (try simp only [World.size_drew] at hc1 hf1 hz1); (try simp only [World.size_alloc] at hc1 hf1 hz1))
    go_ret
    exact ⟨ret_int K.out, by repeat (first | (with_reducible exact Calm.refl _) | (with_reducible refine Calm.alloc ?_ _) | (with_reducible refine Calm.drew ?_) | (with_reducible refine Calm.drewN ?_ _) | (refine Calm.call ?_ (by with_reducible assumption)))⟩
  have b1 : (keyErr p o f != 0) = false := by simpa using h1
  have H1 : Hid (keyErr p o f = 0) := h1
  clear h1
  go_enter Try.func13, Try.ntmps13
  go_wp2_with (go_at_call 51; refine (refKey_any _ _ _ _).mono ?_; rintro e w1 ⟨rfl, hb1⟩; obtain ⟨hc1, hf1, hz1⟩ := hb1.facts; (try simp only [World.size_drew] at hc1 hf1 hz1); (try simp only [World.size_alloc] at hc1 hf1 hz1))
  all_goals
    go_ret
    exact ⟨ret_int (by
      first
        | (rw [elemErr_time H1.out]; (unfold timeOk; simp at *; omega))
        | (rw [elemErr_long H1.out (by unfold timeOk; simp at *; omega) (by omega)])
        | (rw [elemErr_ok H1.out (by unfold timeOk; simp at *; omega) (by omega)])), by repeat (first | (with_reducible exact Calm.refl _) | (with_reducible refine Calm.alloc ?_ _) | (with_reducible refine Calm.drew ?_) | (with_reducible refine Calm.drewN ?_ _) | (refine Calm.call ?_ (by with_reducible assumption)))⟩

set_option maxRecDepth 100000 in
set_option maxHeartbeats 1000000 in
theorem spot_any (p o f m g : Int) (s : ByteArray) (w : World) : Calls Try.prog 26 #[.agg #[.int .i64 p, .int .i64 o, .int .i64 f, .int .i64 m, .int .i64 g, .string s]] w fun e w' => e = .returned (.agg #[.int .i64 p, .int .i64 o, .int .i64 f, .int .i64 m]) ∧ Calm w w' := by
  go_enter Try.func26, Try.ntmps26
  go_wp2
  go_returns
  exact ⟨rfl, by repeat (first | (with_reducible exact Calm.refl _) | (with_reducible refine Calm.alloc ?_ _) | (with_reducible refine Calm.drew ?_) | (with_reducible refine Calm.drewN ?_ _) | (refine Calm.call ?_ (by with_reducible assumption)))⟩
set_option maxRecDepth 100000 in
set_option maxHeartbeats 1000000 in
theorem refSpot_any (p o f m g : Int) (s : ByteArray) (w : World) : Calls Try.prog 53 #[.agg #[.int .i64 p, .int .i64 o, .int .i64 f, .int .i64 m, .int .i64 g, .string s]] w fun e w' => e = .returned (.agg #[.int .i64 p, .int .i64 o, .int .i64 f, .int .i64 m]) ∧ Calm w w' := by
  go_enter Try.func53, Try.ntmps53
  go_wp2
  go_returns
  exact ⟨rfl, by repeat (first | (with_reducible exact Calm.refl _) | (with_reducible refine Calm.alloc ?_ _) | (with_reducible refine Calm.drew ?_) | (with_reducible refine Calm.drewN ?_ _) | (refine Calm.call ?_ (by with_reducible assumption)))⟩



set_option maxRecDepth 100000 in
set_option maxHeartbeats 1000000 in
theorem live_any (p o f m g t : Int) (s : ByteArray) (w : World) : Calls Try.prog 68 #[.agg #[.int .i64 p, .int .i64 o, .int .i64 f, .int .i64 m, .int .i64 g, .string s], .int .i64 t] w fun e w' => e = .returned (.bool (decide (liveP m g t))) ∧ Calm w w' := by
  go_enter Try.func68, Try.ntmps68
  go_wp2
  all_goals
    go_ret
    exact ⟨ret_bool (Bool.eq_iff_iff.2 (by rw [decide_eq_true_eq]; unfold liveP; simp at * <;> omega)), by repeat (first | (with_reducible exact Calm.refl _) | (with_reducible refine Calm.alloc ?_ _) | (with_reducible refine Calm.drew ?_) | (with_reducible refine Calm.drewN ?_ _) | (refine Calm.call ?_ (by with_reducible assumption)))⟩
set_option maxRecDepth 100000 in
set_option maxHeartbeats 1000000 in
theorem last_any (p o f m g : Int) (s : ByteArray) (w : World) : Calls Try.prog 30 #[.agg #[.int .i64 p, .int .i64 o, .int .i64 f, .int .i64 m, .int .i64 g, .string s]] w fun e w' => e = .returned (.int .i64 (lastOf m g)) ∧ Calm w w' := by
  go_enter Try.func30, Try.ntmps30
  go_wp2
  all_goals
    go_ret
    exact ⟨ret_int (by unfold lastOf; split <;> omega), by repeat (first | (with_reducible exact Calm.refl _) | (with_reducible refine Calm.alloc ?_ _) | (with_reducible refine Calm.drew ?_) | (with_reducible refine Calm.drewN ?_ _) | (refine Calm.call ?_ (by with_reducible assumption)))⟩
set_option maxRecDepth 100000 in
set_option maxHeartbeats 1000000 in
theorem refLast_any (p o f m g : Int) (s : ByteArray) (w : World) : Calls Try.prog 90 #[.agg #[.int .i64 p, .int .i64 o, .int .i64 f, .int .i64 m, .int .i64 g, .string s]] w fun e w' => e = .returned (.int .i64 (lastOf m g)) ∧ Calm w w' := by
  go_enter Try.func90, Try.ntmps90
  go_wp2
  all_goals
    go_ret
    exact ⟨ret_int (by unfold lastOf; split <;> omega), by repeat (first | (with_reducible exact Calm.refl _) | (with_reducible refine Calm.alloc ?_ _) | (with_reducible refine Calm.drew ?_) | (with_reducible refine Calm.drewN ?_ _) | (refine Calm.call ?_ (by with_reducible assumption)))⟩
end Go.Proofs.Ytccfcloekjogkaa
