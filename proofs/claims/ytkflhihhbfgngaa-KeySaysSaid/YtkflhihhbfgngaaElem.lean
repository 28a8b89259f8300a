/- What the functions of package elem, the spots of package key, and annalref beside them, answer. -/
import Derived.Test.YtkflhihhbfgngaaCmp
namespace Go.Proofs.Ytkflhihhbfgngaa
open Go.RowKit

/-! ### plain answers -/
def timeOk (m g : Int) : Prop := 1 ≤ m ∧ m ≤ 2147483647 ∧ (g = 0 ∨ (m < g ∧ g ≤ 2147483647))
instance (m g : Int) : Decidable (timeOk m g) := by unfold timeOk; infer_instance
def elemErr (p o f m g n : Int) : Int := if keyErr p o f = 0 then (if timeOk m g then (if n ≤ 40 then 0 else 2) else 9) else keyErr p o f
def liveP (m g t : Int) : Prop := m ≤ t ∧ (g = 0 ∨ t < g)
instance (m g t : Int) : Decidable (liveP m g t) := by unfold liveP; infer_instance
def lastOf (m g : Int) : Int := if m < g then g else m

set_option maxHeartbeats 1000000 in
theorem cmpSpot_any (p o f m p' o' f' m' : Int) (w : World) :
    Calls Try.prog 12 #[.agg #[.int .i64 p, .int .i64 o, .int .i64 f, .int .i64 m], .agg #[.int .i64 p', .int .i64 o', .int .i64 f', .int .i64 m']] w fun e w' => e = .returned (.int .i64 (scmp p o f m p' o' f' m')) ∧ Calm w w' := by
  by_cases e1 : kcmp p o f p' o' f' = 0
  · have b1 : (kcmp p o f p' o' f' != 0) = false := by simpa using e1
    have K : Hid (icmp m m' = scmp p o f m p' o' f' m') := by show _ = _; simp [scmp, e1]
    clear e1
    go_enter Try.func12, Try.ntmps12
    go_wp2_with (first
      | (go_at_call 9; refine (cmp_any _ _ _ _ _ _ _).mono ?_; rintro e w1 ⟨rfl, hb1⟩; obtain ⟨hc1, hf1, hz1⟩ := hb1.facts; (try simp only [World.size_drew] at hc1 hf1 hz1); (try simp only [World.size_alloc] at hc1 hf1 hz1))
      | (go_at_call 24; refine (compare_any _ _ _).mono ?_; rintro e w1 ⟨rfl, rfl⟩))
    go_ret
    exact ⟨ret_int K.out, by repeat (first | (with_reducible exact Calm.refl _) | (with_reducible refine Calm.alloc ?_ _) | (with_reducible refine Calm.drew ?_) | (with_reducible refine Calm.drewN ?_ _) | (refine Calm.call ?_ (by with_reducible assumption)))⟩
  · have b1 : (kcmp p o f p' o' f' != 0) = true := by simpa using e1
    have K : Hid (kcmp p o f p' o' f' = scmp p o f m p' o' f' m') := by show _ = _; simp [scmp, e1]
    clear e1
    go_enter Try.func12, Try.ntmps12
    go_wp2_with (first
      | (go_at_call 9; refine (cmp_any _ _ _ _ _ _ _).mono ?_; rintro e w1 ⟨rfl, hb1⟩; obtain ⟨hc1, hf1, hz1⟩ := hb1.facts; (try simp only [World.size_drew] at hc1 hf1 hz1); (try simp only [World.size_alloc] at hc1 hf1 hz1))
      | (go_at_call 24; refine (compare_any _ _ _).mono ?_; rintro e w1 ⟨rfl, rfl⟩))
    go_ret
    exact ⟨ret_int K.out, by repeat (first | (with_reducible exact Calm.refl _) | (with_reducible refine Calm.alloc ?_ _) | (with_reducible refine Calm.drew ?_) | (with_reducible refine Calm.drewN ?_ _) | (refine Calm.call ?_ (by with_reducible assumption)))⟩

set_option maxHeartbeats 400000 in
theorem between_any (x n : Int) (w : World) : Calls Try.prog 23 #[.int .i64 x, .int .i64 n] w fun e w' => e = .returned (.bool (decide (0 ≤ x ∧ x ≤ n))) ∧ w = w' := by
  go_enter Try.func23, Try.ntmps23
  go_wp2
  all_goals
    go_ret
    exact ⟨ret_bool (Bool.eq_iff_iff.2 (by simp; omega)), rfl⟩

set_option maxHeartbeats 400000 in
theorem isTime_any (x : Int) (w : World) : Calls Try.prog 27 #[.int .i64 x] w fun e w' => e = .returned (.bool (decide (1 ≤ x ∧ x ≤ 2147483647))) ∧ w = w' := by
  go_enter Try.func27, Try.ntmps27
  go_wp2
  all_goals
    go_ret
    exact ⟨ret_bool (Bool.eq_iff_iff.2 (by simp; omega)), rfl⟩

set_option maxHeartbeats 400000 in
theorem sign_any (a b : Bool) (w : World) : Calls Try.prog 10 #[.bool a, .bool b] w fun e w' => e = .returned (.int .i64 (if a then -1 else if b then 1 else 0)) ∧ w = w' := by
  cases a <;> cases b
  all_goals
    go_enter Try.func10, Try.ntmps10
    go_wp2
    go_ret
    exact ⟨rfl, rfl⟩

set_option maxHeartbeats 1000000 in
theorem refKey_any (p o f : Int) (w : World) : Calls Try.prog 8 #[.agg #[.int .i64 p, .int .i64 o, .int .i64 f]] w fun e w' => e = .returned (.int .i64 (keyErr p o f)) ∧ Calm w w' := by
  go_enter Try.func8, Try.ntmps8
  go_wp2_with (go_at_call 23; refine (between_any _ _ _).mono ?_; rintro e w1 ⟨rfl, rfl⟩)
  all_goals
    go_ret
    exact ⟨ret_int (by first | rw [keyErr_ok (by omega) (by omega) (by omega) (by omega) (by omega) (by omega)] | rw [keyErr_no (by omega)]), by repeat (first | (with_reducible exact Calm.refl _) | (with_reducible refine Calm.alloc ?_ _) | (with_reducible refine Calm.drew ?_) | (with_reducible refine Calm.drewN ?_ _) | (refine Calm.call ?_ (by with_reducible assumption)))⟩

theorem ahead_lt {p o f p' o' f' : Int} (h : p < p') : aheadB p o f p' o' f' = true := by
  unfold aheadB kcmp icmp; simp [h]
theorem kcmp_lt {p o f p' o' f' : Int} : kcmp p o f p' o' f' = -1 ↔ (p < p' ∨ p = p' ∧ (o < o' ∨ o = o' ∧ f < f')) := by
  unfold kcmp icmp
  by_cases h1 : p < p' <;> by_cases h2 : p' < p <;> by_cases h3 : o < o' <;> by_cases h4 : o' < o <;> by_cases h5 : f < f' <;> by_cases h6 : f' < f <;> simp [*] <;> omega
theorem kcmp_eq {p o f p' o' f' : Int} : kcmp p o f p' o' f' = 0 ↔ (p = p' ∧ o = o' ∧ f = f') := by
  unfold kcmp icmp
  by_cases h1 : p < p' <;> by_cases h2 : p' < p <;> by_cases h3 : o < o' <;> by_cases h4 : o' < o <;> by_cases h5 : f < f' <;> by_cases h6 : f' < f <;> simp [*] <;> omega
theorem kcmp_gt {p o f p' o' f' : Int} : kcmp p o f p' o' f' = 1 ↔ (p' < p ∨ p = p' ∧ (o' < o ∨ o = o' ∧ f' < f)) := by
  unfold kcmp icmp
  by_cases h1 : p < p' <;> by_cases h2 : p' < p <;> by_cases h3 : o < o' <;> by_cases h4 : o' < o <;> by_cases h5 : f < f' <;> by_cases h6 : f' < f <;> simp [*] <;> omega
theorem icmp_or (a b : Int) : icmp a b = -1 ∨ icmp a b = 0 ∨ icmp a b = 1 := by
  unfold icmp; split <;> (try split) <;> simp
theorem kcmp_or (p o f p' o' f' : Int) : kcmp p o f p' o' f' = -1 ∨ kcmp p o f p' o' f' = 0 ∨ kcmp p o f p' o' f' = 1 := by
  unfold kcmp
  split
  · split
    · exact icmp_or _ _
    · exact icmp_or _ _
  · exact icmp_or _ _
theorem aheadB_iff {p o f p' o' f' : Int} : aheadB p o f p' o' f' = true ↔ (p < p' ∨ p = p' ∧ (o < o' ∨ o = o' ∧ f < f')) := by
  unfold aheadB; rw [decide_eq_true_eq, kcmp_lt]
theorem scmp_lt {p o f m p' o' f' m' : Int} : scmp p o f m p' o' f' m' = -1 ↔ (kcmp p o f p' o' f' = -1 ∨ kcmp p o f p' o' f' = 0 ∧ m < m') := by
  unfold scmp icmp
  rcases kcmp_or p o f p' o' f' with h | h | h <;> rw [h] <;> simp
  by_cases h1 : m < m' <;> by_cases h2 : m' < m <;> simp [*]
theorem scmp_eq {p o f m p' o' f' m' : Int} : scmp p o f m p' o' f' m' = 0 ↔ (kcmp p o f p' o' f' = 0 ∧ m = m') := by
  unfold scmp icmp
  rcases kcmp_or p o f p' o' f' with h | h | h <;> rw [h] <;> simp
  by_cases h1 : m < m' <;> by_cases h2 : m' < m <;> simp [*] <;> omega
theorem aheadS_iff {p o f m p' o' f' m' : Int} : aheadS p o f m p' o' f' m' = true ↔ (aheadB p o f p' o' f' = true ∨ (p = p' ∧ o = o' ∧ f = f') ∧ m < m') := by
  unfold aheadS aheadB; rw [decide_eq_true_eq, decide_eq_true_eq, scmp_lt, kcmp_eq]
theorem scmp_or (p o f m p' o' f' m' : Int) : scmp p o f m p' o' f' m' = -1 ∨ scmp p o f m p' o' f' m' = 0 ∨ scmp p o f m p' o' f' m' = 1 := by
  unfold scmp
  split
  · exact icmp_or _ _
  · exact kcmp_or _ _ _ _ _ _

set_option maxHeartbeats 1000000 in
theorem ahead_any (p o f p' o' f' : Int) (w : World) : Calls Try.prog 11 #[.agg #[.int .i64 p, .int .i64 o, .int .i64 f], .agg #[.int .i64 p', .int .i64 o', .int .i64 f']] w fun e w' => e = .returned (.bool (aheadB p o f p' o' f')) ∧ Calm w w' := by
  go_enter Try.func11, Try.ntmps11
  go_wp2
  all_goals
    go_ret
    exact ⟨ret_bool (Bool.eq_iff_iff.2 (by rw [aheadB_iff]; simp_all; try omega)), by repeat (first | (with_reducible exact Calm.refl _) | (with_reducible refine Calm.alloc ?_ _) | (with_reducible refine Calm.drew ?_) | (with_reducible refine Calm.drewN ?_ _) | (refine Calm.call ?_ (by with_reducible assumption)))⟩

set_option maxHeartbeats 1000000 in
theorem aheadSpot_any (p o f m p' o' f' m' : Int) (w : World) : Calls Try.prog 13 #[.agg #[.int .i64 p, .int .i64 o, .int .i64 f, .int .i64 m], .agg #[.int .i64 p', .int .i64 o', .int .i64 f', .int .i64 m']] w fun e w' => e = .returned (.bool (aheadS p o f m p' o' f' m')) ∧ Calm w w' := by
  cases hA : aheadB p o f p' o' f'
  all_goals
    go_enter Try.func13, Try.ntmps13
    go_wp2_with (go_at_call 11; refine (ahead_any _ _ _ _ _ _ _).mono ?_; rintro e w1 ⟨rfl, hb1⟩; obtain ⟨hc1, hf1, hz1⟩ := hb1.facts; (try simp only [World.size_drew] at hc1 hf1 hz1); (try simp only [World.size_alloc] at hc1 hf1 hz1))
    all_goals
      go_ret
      exact ⟨ret_bool (Bool.eq_iff_iff.2 (by rw [aheadS_iff, hA]; simp_all)), by repeat (first | (with_reducible exact Calm.refl _) | (with_reducible refine Calm.alloc ?_ _) | (with_reducible refine Calm.drew ?_) | (with_reducible refine Calm.drewN ?_ _) | (refine Calm.call ?_ (by with_reducible assumption)))⟩

/-! ### elem -/
set_option maxHeartbeats 1000000 in
theorem timesFit_any (m g : Int) (w : World) : Calls Try.prog 25 #[.int .i64 m, .int .i64 g] w fun e w' => e = .returned (.bool (decide (timeOk m g))) ∧ w = w' := by
  go_enter Try.func25, Try.ntmps25
  go_wp2_with (go_at_call 27; refine (isTime_any _ _).mono ?_; rintro e w1 ⟨rfl, rfl⟩)
  all_goals
    go_ret
    exact ⟨ret_bool (Bool.eq_iff_iff.2 (by rw [decide_eq_true_eq]; unfold timeOk; simp at * <;> omega)), rfl⟩

theorem elemErr_key {p o f m g n : Int} (h : keyErr p o f ≠ 0) : elemErr p o f m g n = keyErr p o f := by unfold elemErr; rw [if_neg h]
theorem elemErr_time {p o f m g n : Int} (h : keyErr p o f = 0) (h2 : ¬ timeOk m g) : elemErr p o f m g n = 9 := by unfold elemErr; rw [if_pos h, if_neg h2]
theorem elemErr_long {p o f m g n : Int} (h : keyErr p o f = 0) (h2 : timeOk m g) (h3 : 40 < n) : elemErr p o f m g n = 2 := by unfold elemErr; rw [if_pos h, if_pos h2, if_neg (by omega)]
theorem elemErr_ok {p o f m g n : Int} (h : keyErr p o f = 0) (h2 : timeOk m g) (h3 : n ≤ 40) : elemErr p o f m g n = 0 := by unfold elemErr; rw [if_pos h, if_pos h2, if_pos h3]

set_option maxHeartbeats 1000000 in
theorem elemCheck_any (p o f m g : Int) (s : ByteArray) (w : World) : Calls Try.prog 14 #[.agg #[.int .i64 p, .int .i64 o, .int .i64 f, .int .i64 m, .int .i64 g, .string s]] w fun e w' => e = .returned (.int .i64 (elemErr p o f m g s.size)) ∧ Calm w w' := by
  by_cases h1 : keyErr p o f = 0
  rotate_left
  · have b1 : (keyErr p o f != 0) = true := by simpa using h1
    have K : Hid (keyErr p o f = elemErr p o f m g s.size) := (elemErr_key h1).symm
    clear h1
    go_enter Try.func14, Try.ntmps14
    go_wp2_with (go_at_call 7; refine (keyCheck_any _ _ _ _).mono ?_; rintro e w1 ⟨rfl, hb1⟩; obtain ⟨hc1, hf1, hz1⟩ := hb1.facts; (try simp only [World.size_drew] at hc1 hf1 hz1); (try simp only [World.size_alloc] at hc1 hf1 hz1))
    go_ret
    exact ⟨ret_int K.out, by repeat (first | (with_reducible exact Calm.refl _) | (with_reducible refine Calm.alloc ?_ _) | (with_reducible refine Calm.drew ?_) | (with_reducible refine Calm.drewN ?_ _) | (refine Calm.call ?_ (by with_reducible assumption)))⟩
  have b1 : (keyErr p o f != 0) = false := by simpa using h1
  by_cases h2 : timeOk m g
  rotate_left
  · have b2 : decide (timeOk m g) = false := by simpa using h2
    have K : Hid (9 = elemErr p o f m g s.size) := (elemErr_time h1 h2).symm
    clear h1 h2
    go_enter Try.func14, Try.ntmps14
    go_wp2_with (first
      | (go_at_call 7; refine (keyCheck_any _ _ _ _).mono ?_; rintro e w1 ⟨rfl, hb1⟩; obtain ⟨hc1, hf1, hz1⟩ := hb1.facts; (try simp only [World.size_drew] at hc1 hf1 hz1); (try simp only [World.size_alloc] at hc1 hf1 hz1))
      | (go_at_call 25; refine (timesFit_any _ _ _).mono ?_; rintro e w1 ⟨rfl, rfl⟩))
    go_ret
    exact ⟨ret_int K.out, by repeat (first | (with_reducible exact Calm.refl _) | (with_reducible refine Calm.alloc ?_ _) | (with_reducible refine Calm.drew ?_) | (with_reducible refine Calm.drewN ?_ _) | (refine Calm.call ?_ (by with_reducible assumption)))⟩
  have b2 : decide (timeOk m g) = true := by simpa using h2
  by_cases h3 : (40 : Int) < s.size
  · have K : Hid (2 = elemErr p o f m g s.size) := (elemErr_long h1 h2 h3).symm
    clear h1 h2
    go_enter Try.func14, Try.ntmps14
    go_wp2_with (first
      | (go_at_call 7; refine (keyCheck_any _ _ _ _).mono ?_; rintro e w1 ⟨rfl, hb1⟩; obtain ⟨hc1, hf1, hz1⟩ := hb1.facts; (try simp only [World.size_drew] at hc1 hf1 hz1); (try simp only [World.size_alloc] at hc1 hf1 hz1))
      | (go_at_call 25; refine (timesFit_any _ _ _).mono ?_; rintro e w1 ⟨rfl, rfl⟩))
    go_ret
    exact ⟨ret_int K.out, by repeat (first | (with_reducible exact Calm.refl _) | (with_reducible refine Calm.alloc ?_ _) | (with_reducible refine Calm.drew ?_) | (with_reducible refine Calm.drewN ?_ _) | (refine Calm.call ?_ (by with_reducible assumption)))⟩
  · have K : Hid (0 = elemErr p o f m g s.size) := (elemErr_ok h1 h2 (by omega)).symm
    clear h1 h2
    go_enter Try.func14, Try.ntmps14
    go_wp2_with (first
      | (go_at_call 7; refine (keyCheck_any _ _ _ _).mono ?_; rintro e w1 ⟨rfl, hb1⟩; obtain ⟨hc1, hf1, hz1⟩ := hb1.facts; (try simp only [World.size_drew] at hc1 hf1 hz1); (try simp only [World.size_alloc] at hc1 hf1 hz1))
      | (go_at_call 25; refine (timesFit_any _ _ _).mono ?_; rintro e w1 ⟨rfl, rfl⟩))
    go_ret
    exact ⟨ret_int K.out, by repeat (first | (with_reducible exact Calm.refl _) | (with_reducible refine Calm.alloc ?_ _) | (with_reducible refine Calm.drew ?_) | (with_reducible refine Calm.drewN ?_ _) | (refine Calm.call ?_ (by with_reducible assumption)))⟩


set_option maxHeartbeats 2000000 in
theorem refElem_any (p o f m g : Int) (s : ByteArray) (w : World) (hm : -9223372036854775808 ≤ m) : Calls Try.prog 15 #[.agg #[.int .i64 p, .int .i64 o, .int .i64 f, .int .i64 m, .int .i64 g, .string s]] w fun e w' => e = .returned (.int .i64 (elemErr p o f m g s.size)) ∧ Calm w w' := by
  by_cases h1 : keyErr p o f = 0
  rotate_left
  · have b1 : (keyErr p o f != 0) = true := by simpa using h1
    have K : Hid (keyErr p o f = elemErr p o f m g s.size) := (elemErr_key h1).symm
    clear h1
    go_enter Try.func15, Try.ntmps15
    go_wp2_with (go_at_call 8; refine (refKey_any _ _ _ _).mono ?_; rintro e w1 ⟨rfl, hb1⟩; obtain ⟨hc1, hf1, hz1⟩ := hb1.facts; (try simp only [World.size_drew] at hc1 hf1 hz1); (try simp only [World.size_alloc] at hc1 hf1 hz1))
    go_ret
    exact ⟨ret_int K.out, by repeat (first | (with_reducible exact Calm.refl _) | (with_reducible refine Calm.alloc ?_ _) | (with_reducible refine Calm.drew ?_) | (with_reducible refine Calm.drewN ?_ _) | (refine Calm.call ?_ (by with_reducible assumption)))⟩
  have b1 : (keyErr p o f != 0) = false := by simpa using h1
  have H1 : Hid (keyErr p o f = 0) := h1
  clear h1
  go_enter Try.func15, Try.ntmps15
  go_wp2_with (go_at_call 8; refine (refKey_any _ _ _ _).mono ?_; rintro e w1 ⟨rfl, hb1⟩; obtain ⟨hc1, hf1, hz1⟩ := hb1.facts; (try simp only [World.size_drew] at hc1 hf1 hz1); (try simp only [World.size_alloc] at hc1 hf1 hz1))
  all_goals
    go_ret
    exact ⟨ret_int (by
      first
        | (rw [elemErr_time H1.out]; (unfold timeOk; simp at *; omega))
        | (rw [elemErr_long H1.out (by unfold timeOk; simp at *; omega) (by omega)])
        | (rw [elemErr_ok H1.out (by unfold timeOk; simp at *; omega) (by omega)])), by repeat (first | (with_reducible exact Calm.refl _) | (with_reducible refine Calm.alloc ?_ _) | (with_reducible refine Calm.drew ?_) | (with_reducible refine Calm.drewN ?_ _) | (refine Calm.call ?_ (by with_reducible assumption)))⟩

set_option maxHeartbeats 1000000 in
theorem spot_any (p o f m g : Int) (s : ByteArray) (w : World) : Calls Try.prog 16 #[.agg #[.int .i64 p, .int .i64 o, .int .i64 f, .int .i64 m, .int .i64 g, .string s]] w fun e w' => e = .returned (.agg #[.int .i64 p, .int .i64 o, .int .i64 f, .int .i64 m]) ∧ Calm w w' := by
  go_enter Try.func16, Try.ntmps16
  go_wp2
  go_returns
  exact ⟨rfl, by repeat (first | (with_reducible exact Calm.refl _) | (with_reducible refine Calm.alloc ?_ _) | (with_reducible refine Calm.drew ?_) | (with_reducible refine Calm.drewN ?_ _) | (refine Calm.call ?_ (by with_reducible assumption)))⟩
set_option maxHeartbeats 1000000 in
theorem refSpot_any (p o f m g : Int) (s : ByteArray) (w : World) : Calls Try.prog 17 #[.agg #[.int .i64 p, .int .i64 o, .int .i64 f, .int .i64 m, .int .i64 g, .string s]] w fun e w' => e = .returned (.agg #[.int .i64 p, .int .i64 o, .int .i64 f, .int .i64 m]) ∧ Calm w w' := by
  go_enter Try.func17, Try.ntmps17
  go_wp2
  go_returns
  exact ⟨rfl, by repeat (first | (with_reducible exact Calm.refl _) | (with_reducible refine Calm.alloc ?_ _) | (with_reducible refine Calm.drew ?_) | (with_reducible refine Calm.drewN ?_ _) | (refine Calm.call ?_ (by with_reducible assumption)))⟩



set_option maxHeartbeats 1000000 in
theorem live_any (p o f m g t : Int) (s : ByteArray) (w : World) : Calls Try.prog 18 #[.agg #[.int .i64 p, .int .i64 o, .int .i64 f, .int .i64 m, .int .i64 g, .string s], .int .i64 t] w fun e w' => e = .returned (.bool (decide (liveP m g t))) ∧ Calm w w' := by
  go_enter Try.func18, Try.ntmps18
  go_wp2
  all_goals
    go_ret
    exact ⟨ret_bool (Bool.eq_iff_iff.2 (by rw [decide_eq_true_eq]; unfold liveP; simp at * <;> omega)), by repeat (first | (with_reducible exact Calm.refl _) | (with_reducible refine Calm.alloc ?_ _) | (with_reducible refine Calm.drew ?_) | (with_reducible refine Calm.drewN ?_ _) | (refine Calm.call ?_ (by with_reducible assumption)))⟩
set_option maxHeartbeats 1000000 in
theorem refLive_any (p o f m g t : Int) (s : ByteArray) (w : World) : Calls Try.prog 19 #[.agg #[.int .i64 p, .int .i64 o, .int .i64 f, .int .i64 m, .int .i64 g, .string s], .int .i64 t] w fun e w' => e = .returned (.bool (decide (liveP m g t))) ∧ Calm w w' := by
  go_enter Try.func19, Try.ntmps19
  go_wp2
  all_goals
    go_ret
    exact ⟨ret_bool (Bool.eq_iff_iff.2 (by rw [decide_eq_true_eq]; unfold liveP; simp at * <;> omega)), by repeat (first | (with_reducible exact Calm.refl _) | (with_reducible refine Calm.alloc ?_ _) | (with_reducible refine Calm.drew ?_) | (with_reducible refine Calm.drewN ?_ _) | (refine Calm.call ?_ (by with_reducible assumption)))⟩
set_option maxHeartbeats 1000000 in
theorem last_any (p o f m g : Int) (s : ByteArray) (w : World) : Calls Try.prog 20 #[.agg #[.int .i64 p, .int .i64 o, .int .i64 f, .int .i64 m, .int .i64 g, .string s]] w fun e w' => e = .returned (.int .i64 (lastOf m g)) ∧ Calm w w' := by
  go_enter Try.func20, Try.ntmps20
  go_wp2
  all_goals
    go_ret
    exact ⟨ret_int (by unfold lastOf; split <;> omega), by repeat (first | (with_reducible exact Calm.refl _) | (with_reducible refine Calm.alloc ?_ _) | (with_reducible refine Calm.drew ?_) | (with_reducible refine Calm.drewN ?_ _) | (refine Calm.call ?_ (by with_reducible assumption)))⟩
set_option maxHeartbeats 1000000 in
theorem refLast_any (p o f m g : Int) (s : ByteArray) (w : World) : Calls Try.prog 21 #[.agg #[.int .i64 p, .int .i64 o, .int .i64 f, .int .i64 m, .int .i64 g, .string s]] w fun e w' => e = .returned (.int .i64 (lastOf m g)) ∧ Calm w w' := by
  go_enter Try.func21, Try.ntmps21
  go_wp2
  all_goals
    go_ret
    exact ⟨ret_int (by unfold lastOf; split <;> omega), by repeat (first | (with_reducible exact Calm.refl _) | (with_reducible refine Calm.alloc ?_ _) | (with_reducible refine Calm.drew ?_) | (with_reducible refine Calm.drewN ?_ _) | (refine Calm.call ?_ (by with_reducible assumption)))⟩
end Go.Proofs.Ytkflhihhbfgngaa
