/- ElemTimes: the law's own walk. -/
import Derived.Test.YtkflhihhbfgngaaLaw1
namespace Go.Proofs.Ytkflhihhbfgngaa
open Go.ChangeShapes Go.WideShapes Go.ChangeAt Go.RowKit

set_option maxRecDepth 100000 in
set_option maxHeartbeats 4000000 in
theorem elemTimes_walk (p o f m g : Int) (s : ByteArray) (t : Int) (w : World) :
    Calls Try.prog 6 #[.agg #[.int .i64 p, .int .i64 o, .int .i64 f, .int .i64 m, .int .i64 g, .string s], .int .i64 t] w fun e w' => e = .returned (.bool true) ∧ Calm w w' := by
  have c1 : decide (liveP 3 5 2) = false := by decide
  have c2 : decide (liveP 3 5 3) = true := by decide
  have c3 : decide (liveP 3 5 4) = true := by decide
  have c4 : decide (liveP 3 5 5) = false := by decide
  have c5 : (lastOf 3 5 != 5) = false := by decide
  go_enter Try.func6, Try.ntmps6
  go_upto_region 2 with fail
  have hx : ((w.alloc (.cells #[.int .i64 p, .int .i64 o, .int .i64 f, .int .i64 m, .int .i64 g, .string s] 35)).alloc (.cells #[.int .i64 0, .int .i64 0, .int .i64 0, .int .i64 3, .int .i64 5, .string { data := #[] }] 35)).heap[w.heap.size]? = some (.cells #[.int .i64 p, .int .i64 o, .int .i64 f, .int .i64 m, .int .i64 g, .string s] 35 (0, 0)) := heap_past _ (heap_new _ _)
  have hy : ((w.alloc (.cells #[.int .i64 p, .int .i64 o, .int .i64 f, .int .i64 m, .int .i64 g, .string s] 35)).alloc (.cells #[.int .i64 0, .int .i64 0, .int .i64 0, .int .i64 3, .int .i64 5, .string { data := #[] }] 35)).heap[w.heap.size + 1]? = some (.cells #[.int .i64 0, .int .i64 0, .int .i64 0, .int .i64 3, .int .i64 5, .string { data := #[] }] 35 (0, 0)) := by simpa using heap_new (w.alloc (.cells #[.int .i64 p, .int .i64 o, .int .i64 f, .int .i64 m, .int .i64 g, .string s] 35)) (.cells #[.int .i64 0, .int .i64 0, .int .i64 0, .int .i64 3, .int .i64 5, .string { data := #[] }] 35)
  have hu : Calm w ((w.alloc (.cells #[.int .i64 p, .int .i64 o, .int .i64 f, .int .i64 m, .int .i64 g, .string s] 35)).alloc (.cells #[.int .i64 0, .int .i64 0, .int .i64 0, .int .i64 3, .int .i64 5, .string { data := #[] }] 35)) := ((Calm.refl _).alloc _).alloc _
  generalize ((w.alloc (.cells #[.int .i64 p, .int .i64 o, .int .i64 f, .int .i64 m, .int .i64 g, .string s] 35)).alloc (.cells #[.int .i64 0, .int .i64 0, .int .i64 0, .int .i64 3, .int .i64 5, .string { data := #[] }] 35)) = wc at hx hy hu ⊢
  obtain ⟨x0, x1, x2, x3, x4, x5, hxs⟩ := row6 hx
  obtain ⟨y0, y1, y2, y3, y4, y5, hys⟩ := row6 hy
  go_upto_region 4 with (first
    | (go_at_call 18; refine (live_any _ _ _ _ _ _ _ _).mono ?_; rintro e w1 ⟨rfl, hb1⟩; replace hx := (hb1.block (row6 hx).2.2.2.2.2.2).trans hx; replace hy := (hb1.block (row6 hy).2.2.2.2.2.2).trans hy; replace hu := hu.call hb1; obtain ⟨x0, x1, x2, x3, x4, x5, hxs⟩ := row6 hx; obtain ⟨y0, y1, y2, y3, y4, y5, hys⟩ := row6 hy)
    | (go_at_call 20; refine (last_any _ _ _ _ _ _ _).mono ?_; rintro e w1 ⟨rfl, hb1⟩; replace hx := (hb1.block (row6 hx).2.2.2.2.2.2).trans hx; replace hy := (hb1.block (row6 hy).2.2.2.2.2.2).trans hy; replace hu := hu.call hb1; obtain ⟨x0, x1, x2, x3, x4, x5, hxs⟩ := row6 hx; obtain ⟨y0, y1, y2, y3, y4, y5, hys⟩ := row6 hy))
  by_cases h0 : elemErr p o f m g s.size = 0
  rotate_left
  · have b0 : (elemErr p o f m g s.size != 0) = true := by simpa using h0
    clear h0
    go_wp2_with (go_at_call 14; refine (elemCheck_any _ _ _ _ _ _ _).mono ?_; rintro e w1 ⟨rfl, hb1⟩; replace hx := (hb1.block (row6 hx).2.2.2.2.2.2).trans hx; replace hy := (hb1.block (row6 hy).2.2.2.2.2.2).trans hy; replace hu := hu.call hb1; obtain ⟨x0, x1, x2, x3, x4, x5, hxs⟩ := row6 hx; obtain ⟨y0, y1, y2, y3, y4, y5, hys⟩ := row6 hy)
    go_ret
    exact ⟨rfl, hu⟩
  have b0 : (elemErr p o f m g s.size != 0) = false := by simpa using h0
  have h1 : timeOk m g := by
    unfold elemErr at h0
    split at h0
    · split at h0
      · assumption
      · cases h0
    · contradiction
  clear h0
  obtain ⟨t1, t2, t3⟩ := h1
  have l1 : decide (liveP m g m) = true := decide_eq_true (by unfold liveP; omega)
  have l2 : decide (liveP m g (m - 1)) = false := decide_eq_false (by unfold liveP; omega)
  have l5 : lastOf m g ≤ t → decide (liveP m g t) = (g == 0) := fun h => by
    rw [Bool.eq_iff_iff, decide_eq_true_eq, beq_iff_eq]; unfold liveP; unfold lastOf at h; split at h <;> omega
  go_upto_region 7 with (first
    | (go_at_call 14; refine (elemCheck_any _ _ _ _ _ _ _).mono ?_; rintro e w1 ⟨rfl, hb1⟩; replace hx := (hb1.block (row6 hx).2.2.2.2.2.2).trans hx; replace hy := (hb1.block (row6 hy).2.2.2.2.2.2).trans hy; replace hu := hu.call hb1; obtain ⟨x0, x1, x2, x3, x4, x5, hxs⟩ := row6 hx; obtain ⟨y0, y1, y2, y3, y4, y5, hys⟩ := row6 hy)
    | (go_at_call 20; refine (last_any _ _ _ _ _ _ _).mono ?_; rintro e w1 ⟨rfl, hb1⟩; replace hx := (hb1.block (row6 hx).2.2.2.2.2.2).trans hx; replace hy := (hb1.block (row6 hy).2.2.2.2.2.2).trans hy; replace hu := hu.call hb1; obtain ⟨x0, x1, x2, x3, x4, x5, hxs⟩ := row6 hx; obtain ⟨y0, y1, y2, y3, y4, y5, hys⟩ := row6 hy))
  by_cases h7 : lastOf m g ≤ t
  · have l5' := l5 h7
    have L : ∀ u, Calls Try.prog 18 #[.agg #[.int .i64 p, .int .i64 o, .int .i64 f, .int .i64 m, .int .i64 g, .string s], .int .i64 t] u fun e w' => e = .returned (.bool (g == 0)) ∧ Calm u w' := fun u => (live_any p o f m g t s u).mono fun e w' h => ⟨h.1.trans (ret_bool l5'), h.2⟩
    clear l5 l5'
    refine wp_region_plan [.val (.int .i64 t), .val (.int .i64 (lastOf m g)), .val (.bool true), .val (.bool true), .val (.agg #[.int .i64 p, .int .i64 o, .int .i64 f, .int .i64 m, .int .i64 g, .string s]), .val (.int .i64 t), .val (.bool (g == 0)), .val (.pointer (some ⟨w.heap.size, 4, none⟩)), .val (.int .i64 g), .val (.bool (g == 0)), .val (.bool false), .val (.bool false)] (by kernel_rfl) (by kernel_rfl) (by kernel_rfl) ?_
    intro X
    iterate 12
      refine plan_val (by kernel_rfl) (fun u hu => ?_) ?_
      · obtain ⟨hc, hf, hz⟩ := hu.of_drew.facts
        go_simp
        all_goals (go_at_call 18; exact L _)
      simp only [Act.put, List.setIfInBounds_toArray, List.set_cons_zero, List.set_cons_succ, Nat.reduceAdd]
    refine plan_end ?_
    intro w' hB
    have hk := hB.calm.of_drew
    clear hB
    replace hx := (hk.block hxs).trans hx
    replace hu := hu.call hk
    clear hk hy
    obtain ⟨x0, x1, x2, x3, x4, x5, hxs⟩ := row6 hx
    by_cases hg : g = 0
    · subst hg
      go_wp2_with (go_at_call 18; refine (live_any _ _ _ _ _ _ _ _).mono ?_; rintro e w1 ⟨rfl, hb1⟩; replace hx := (hb1.block (row6 hx).2.2.2.2.2.2).trans hx; replace hu := hu.call hb1; obtain ⟨x0, x1, x2, x3, x4, x5, hxs⟩ := row6 hx)
      go_ret
      exact ⟨rfl, hu⟩
    · have b1 : (g == 0) = false := by simpa using hg
      have l3 : decide (liveP m g (g - 1)) = true := decide_eq_true (by unfold liveP; omega)
      have l4 : decide (liveP m g g) = false := decide_eq_false (by unfold liveP; omega)
      have r1 : m < g ∧ g ≤ 2147483647 := by omega
      obtain ⟨r2, r3⟩ := r1
      clear hg t3
      go_wp2_with (go_at_call 18; refine (live_any _ _ _ _ _ _ _ _).mono ?_; rintro e w1 ⟨rfl, hb1⟩; replace hx := (hb1.block (row6 hx).2.2.2.2.2.2).trans hx; replace hu := hu.call hb1; obtain ⟨x0, x1, x2, x3, x4, x5, hxs⟩ := row6 hx)
      go_ret
      exact ⟨rfl, hu⟩
  · have h8 : t < lastOf m g := by omega
    refine wp_region_plan [.val (.int .i64 t), .val (.int .i64 (lastOf m g)), .val (.bool false), .val (.bool false), .idle, .idle, .idle, .idle, .idle, .idle, .idle, .val (.bool false)] (by kernel_rfl) (by kernel_rfl) (by kernel_rfl) ?_
    intro X
    iterate 4
      refine plan_val (by kernel_rfl) (fun u hu => ?_) ?_
      · go_simp
      simp only [Act.put, List.setIfInBounds_toArray, List.set_cons_zero, List.set_cons_succ, Nat.reduceAdd]
    iterate 7
      refine plan_idle (by kernel_rfl) ?_
      simp only [Act.put, List.setIfInBounds_toArray, List.set_cons_zero, List.set_cons_succ, Nat.reduceAdd]
    refine plan_val (by kernel_rfl) (fun u hu => ?_) ?_
    · go_simp
    simp only [Act.put, List.setIfInBounds_toArray, List.set_cons_zero, List.set_cons_succ, Nat.reduceAdd]
    refine plan_end ?_
    intro w' hB
    have hk := hB.calm.of_drew
    clear hB
    replace hx := (hk.block hxs).trans hx
    replace hu := hu.call hk
    clear hk hy
    obtain ⟨x0, x1, x2, x3, x4, x5, hxs⟩ := row6 hx
    by_cases hg : g = 0
    · subst hg
      go_wp2_with (go_at_call 18; refine (live_any _ _ _ _ _ _ _ _).mono ?_; rintro e w1 ⟨rfl, hb1⟩; replace hx := (hb1.block (row6 hx).2.2.2.2.2.2).trans hx; replace hu := hu.call hb1; obtain ⟨x0, x1, x2, x3, x4, x5, hxs⟩ := row6 hx)
      go_ret
      exact ⟨rfl, hu⟩
    · have b1 : (g == 0) = false := by simpa using hg
      have l3 : decide (liveP m g (g - 1)) = true := decide_eq_true (by unfold liveP; omega)
      have l4 : decide (liveP m g g) = false := decide_eq_false (by unfold liveP; omega)
      have r1 : m < g ∧ g ≤ 2147483647 := by omega
      obtain ⟨r2, r3⟩ := r1
      clear hg t3 l5
      go_wp2_with (go_at_call 18; refine (live_any _ _ _ _ _ _ _ _).mono ?_; rintro e w1 ⟨rfl, hb1⟩; replace hx := (hb1.block (row6 hx).2.2.2.2.2.2).trans hx; replace hu := hu.call hb1; obtain ⟨x0, x1, x2, x3, x4, x5, hxs⟩ := row6 hx)
      go_ret
      exact ⟨rfl, hu⟩

end Go.Proofs.Ytkflhihhbfgngaa
