/- annalref.Rising, of one record and of two. -/
import Derived.Test.YtccfcloekjogkaaNode9
namespace Go.Proofs.Ytccfcloekjogkaa
open Go.RowKit

set_option maxRecDepth 100000 in
theorem ahead_rise (p' o' f' m' g' : Int) (s' : ByteArray) (p o f m g : Int) (s : ByteArray) : aheadS p' o' f' m' p o f m = decide (Rise ⟨p', o', f', m', g', s'⟩ ⟨p, o, f, m, g, s⟩) := by
  have h := scmp_sLt (a := ⟨p', o', f', m', g', s'⟩) (b := ⟨p, o, f, m, g, s⟩)
  simp only at h
  unfold aheadS
  rw [Bool.eq_iff_iff, decide_eq_true_eq, decide_eq_true_eq]
  exact h

set_option maxRecDepth 100000 in
set_option maxHeartbeats 4000000 in
theorem rising1_any (A : Option Addr) (c : Nat) (w : World) : Calls Try.prog 14 #[.slice A 1 c] w fun e w' => e = .returned (.bool true) ∧ Calm w w' := by
  go_enter Try.func14, Try.ntmps14
  go_wp2_with fail
  refine wp_loop_rounds 2 ?_
  rw [rounds_succ]
  go_wp2_with fail
  go_ret
  exact ⟨rfl, Calm.refl _⟩

set_option maxRecDepth 100000 in
set_option maxHeartbeats 4000000 in
theorem rising2_any (b q c : Nat) (p o f m g p' o' f' m' g' : Int) (s s' : ByteArray) (r : Bool) (w : World) (hb : b < w.heap.size) (hr : aheadS p o f m p' o' f' m' = r)
    (h0 : ElAt w b q ⟨p, o, f, m, g, s⟩) (h1 : ElAt w b (q + 6) ⟨p', o', f', m', g', s'⟩) :
    Calls Try.prog 14 #[.slice (some ⟨b, q, none⟩) 2 c] w fun e w' => e = .returned (.bool r) ∧ Calm w w' := by
  have cA := fun u => hr ▸ aheadSpot_any p o f m p' o' f' m' u
  obtain ⟨c0, c1, c2, c3, c4, c5⟩ := h0
  obtain ⟨d0, d1, d2, d3, d4, d5⟩ := h1
  simp only at c0 c1 c2 c3 c4 c5 d0 d1 d2 d3 d4 d5
  clear hr
  cases r
  · go_enter Try.func14, Try.ntmps14
    go_wp2_with fail
    refine wp_loop_rounds 3 ?_
    rw [rounds_succ]
    go_wp2_with fail
    refine wp_region_plan [.val (.slice (some ⟨b, q, none⟩) 2 c), .val (.int .i64 (1)), .val (.int .i64 (0)), .val (.pointer (some ⟨b, q, none⟩)), .val (.agg #[.int .i64 p, .int .i64 o, .int .i64 f, .int .i64 m, .int .i64 g, .string s]), .val (.agg #[.int .i64 p, .int .i64 o, .int .i64 f, .int .i64 m]), .val (.slice (some ⟨b, q, none⟩) 2 c), .val (.int .i64 (1)), .val (.pointer (some ⟨b, q + 6, none⟩)), .val (.agg #[.int .i64 p', .int .i64 o', .int .i64 f', .int .i64 m', .int .i64 g', .string s']), .val (.agg #[.int .i64 p', .int .i64 o', .int .i64 f', .int .i64 m']), .val (.bool false), .val (.bool true)] (by kernel_rfl) (by kernel_rfl) (by kernel_rfl) ?_
    intro X
    iterate 13
      refine plan_val (by kernel_rfl) (fun u hu => ?_) ?_
      · obtain ⟨hc, hf, hz⟩ := hu.of_drew.facts
        go_simp
        all_goals first
          | ((go_at_call 53; exact refSpot_any _ _ _ _ _ _ _))
          | ((go_at_call 52; exact cA _))
          | ((show IntKind.i64.wrap 0 = 0; decide))
      simp only [Act.put, List.setIfInBounds_toArray, List.set_cons_zero, List.set_cons_succ, Nat.reduceAdd]
    refine plan_end ?_
    intro w' hB
    have hk := hB.calm.of_drew
    clear hB
    go_wp2_with fail
    go_ret
    exact ⟨rfl, hk⟩
  · go_enter Try.func14, Try.ntmps14
    go_wp2_with fail
    refine wp_loop_rounds 3 ?_
    rw [rounds_succ]
    go_wp2_with fail
    refine wp_region_plan [.val (.slice (some ⟨b, q, none⟩) 2 c), .val (.int .i64 (1)), .val (.int .i64 (0)), .val (.pointer (some ⟨b, q, none⟩)), .val (.agg #[.int .i64 p, .int .i64 o, .int .i64 f, .int .i64 m, .int .i64 g, .string s]), .val (.agg #[.int .i64 p, .int .i64 o, .int .i64 f, .int .i64 m]), .val (.slice (some ⟨b, q, none⟩) 2 c), .val (.int .i64 (1)), .val (.pointer (some ⟨b, q + 6, none⟩)), .val (.agg #[.int .i64 p', .int .i64 o', .int .i64 f', .int .i64 m', .int .i64 g', .string s']), .val (.agg #[.int .i64 p', .int .i64 o', .int .i64 f', .int .i64 m']), .val (.bool true), .val (.bool false)] (by kernel_rfl) (by kernel_rfl) (by kernel_rfl) ?_
    intro X
    iterate 13
      refine plan_val (by kernel_rfl) (fun u hu => ?_) ?_
      · obtain ⟨hc, hf, hz⟩ := hu.of_drew.facts
        go_simp
        all_goals first
          | ((go_at_call 53; exact refSpot_any _ _ _ _ _ _ _))
          | ((go_at_call 52; exact cA _))
          | ((show IntKind.i64.wrap 0 = 0; decide))
      simp only [Act.put, List.setIfInBounds_toArray, List.set_cons_zero, List.set_cons_succ, Nat.reduceAdd]
    refine plan_end ?_
    intro w' hB
    have hk := hB.calm.of_drew
    clear hB
    go_wp2_with fail
    rw [rounds_succ]
    go_wp2_with fail
    go_ret
    exact ⟨rfl, hk⟩
end Go.Proofs.Ytccfcloekjogkaa
