/- annalref.Run says what run.Check says. -/
import Derived.Test.YtgebilpdinbfgaaMF
namespace Go.Proofs.Ytgebilpdinbfgaa
open Go.RowKit

set_option maxRecDepth 100000 in
theorem aheadS_Fol {p o f m p' o' f' m' : Int} : aheadS p' o' f' m' p o f m = true ↔ sLt (p', o', f') m' (p, o, f) m := by
  have h := scmp_sLt (a := ⟨p', o', f', m', 0, ByteArray.empty⟩) (b := ⟨p, o, f, m, 0, ByteArray.empty⟩)
  simp only [El.key] at h
  unfold aheadS; rw [decide_eq_true_eq, h]

set_option maxRecDepth 100000 in
set_option maxHeartbeats 8000000 in
theorem refRun_any (A : Option Addr) (c : Nat) (l : List El) (w : World) (hn : l.length ≤ 9223372036854775807) (hL : Lies w A l) :
    Calls Try.prog 6 #[.slice A l.length c] w fun e w' => e = .returned (.int .i64 (runErr l)) ∧ Calm w w' := by
  by_cases hbig : 400 < l.length
  · have K : Hid (2 = runErr l) := by show _ = _; unfold runErr; rw [if_pos hbig]
    go_enter Try.func6, Try.ntmps6
    go_wp2_with fail
    go_ret
    exact ⟨ret_int K.out, Calm.refl _⟩
  go_enter Try.func6, Try.ntmps6
  go_wp2_with fail
  go_loopw [12] (fun i wr => ∃ k : Nat, k ≤ l.length ∧ i = .int .i64 k ∧ Calm w wr ∧ NoErr l k) (fun i _ => l.length - (intOf i).toNat)
  case atStart => exact ⟨0, Nat.zero_le _, rfl, Calm.refl _, fun j hj => absurd hj (Nat.not_lt_zero _)⟩
  case round =>
    obtain ⟨k, hk, rfl, hu, hN⟩ := hrel
    by_cases hlt : k < l.length
    rotate_left
    · have hkl : k = l.length := by omega
      have K : Hid (0 = runErr l) := runErr_good hbig (by rw [← hkl]; exact hN)
      clear hkl
      go_wp2_with fail
      go_ret
      exact ⟨ret_int K.out, hu⟩
    obtain ⟨b, q, p, o, f, m, g, s, rfl, hb, HE, hm, c0, c1, c2, c3, c4, c5⟩ := (hL.calm hu).get hlt
    by_cases he : elemErr p o f m g s.size = 0
    rotate_left
    · have b1 : (elemErr p o f m g s.size != 0) = true := by simpa using he
      have K : Hid (elemErr p o f m g s.size = runErr l) := by
        have h1 := stepErr_err HE.out (show El.err ⟨p, o, f, m, g, s⟩ ≠ 0 from he)
        rw [← runErr_at hbig hN (by rw [h1]; exact he) hlt, h1]; rfl
      clear he
      go_wp2_with (go_at_call 26; refine (refElem_any _ _ _ _ _ _ _ hm).mono ?_; rintro e w1 ⟨rfl, hb1⟩)
      go_ret
      exact ⟨ret_int K.out, by repeat (first | (with_reducible exact Calm.refl _) | (with_reducible refine Calm.alloc ?_ _) | (with_reducible refine Calm.drew ?_) | (with_reducible refine Calm.drewN ?_ _) | (refine Calm.call ?_ (by with_reducible assumption)))⟩
    have b1 : (elemErr p o f m g s.size != 0) = false := by simpa using he
    have HE0 : Hid (elemErr p o f m g s.size = 0) := he
    clear he
    by_cases hk0 : k = 0
    · subst hk0
      have hN1 : NoErr l 1 := fun j hj => by
        have : j = 0 := by omega
        subst this
        exact stepErr_first HE.out HE0.out
      simp only [Nat.zero_mul, Nat.add_zero] at c0 c1 c2 c3 c4 c5
      go_wp2_with (go_at_call 26; refine (refElem_any _ _ _ _ _ _ _ hm).mono ?_; rintro e w1 ⟨rfl, hb1⟩)
      exact ⟨⟨1, by omega, rfl, (hu.alloc _).call hb1, hN1⟩, by simp [intOf]; omega⟩
    obtain ⟨p', o', f', m', g', s', HE', hm', d0, d1, d2, d3, d4, d5⟩ := (hL.calm hu).get2 (k := k - 1) (by omega)
    have hS := stepErr_form HE.out HE0.out (by omega) HE'.out
    have hg' : g' = 0 ∨ 0 < g' := by
      have h1 := ((stepErr_zero (l := l) (i := k - 1) (by omega)).1 (hN (k - 1) (by omega))).1
      rw [(List.getElem?_eq_some_iff.1 HE'.out).2] at h1
      have h2 := err_time h1
      unfold timeOk at h2; simp only at h2; omega
    have z0 : 0 < k := by omega
    have z1 : IntKind.i64.wrap ((k : Int) - 1) = (k : Int) - 1 := IntWalk.i64_in _ (by omega)
    have z2 : ((k : Int) - 1).toNat = k - 1 := by omega
    have z3 : 0 ≤ (k : Int) - 1 := by omega
    have z4 : (k : Int) - 1 < l.length := by omega
    have z5 : 1 ≤ (k : Int) := by omega
    have hLR : Calm w wr ∧ k < l.length ∧ NoErr l k ∧ ¬ 400 < l.length := ⟨hu, hlt, hN, hbig⟩
    have HS : Hid (stepErr l k = if Fol ⟨p', o', f', m', g', s'⟩ ⟨p, o, f, m, g, s⟩ then 0 else 3) := hS
    clear hS
    go_upto_region 11 with (go_at_call 26; refine (refElem_any _ _ _ _ _ _ _ hm).mono ?_; rintro e w1 ⟨rfl, hb1⟩; have hx1 := (hb1.block (k := wr.heap.size) (by simp)).trans (heap_new wr _); have hv := ((Calm.refl wr).alloc _).call hb1; have hb2 : b < w1.heap.size := Nat.lt_of_lt_of_le hb hv.size; have hvc := hv.facts.1; replace d0 := (hvc _ _ hb).trans d0; replace d1 := (hvc _ _ hb).trans d1; replace d2 := (hvc _ _ hb).trans d2; replace d3 := (hvc _ _ hb).trans d3; replace d4 := (hvc _ _ hb).trans d4; replace d5 := (hvc _ _ hb).trans d5; clear hvc hb1 c0 c1 c2 c3 c4 c5 hL)
    clear b1 z0 z1 z2 z3 z4 z5 d0 d1 d2 d3 d4 d5
    have hx := heap_past (.cells #[.int .i64 p', .int .i64 o', .int .i64 f', .int .i64 m', .int .i64 g', .string s'] 33) hx1
    have hy := heap_new w1 (.cells #[.int .i64 p', .int .i64 o', .int .i64 f', .int .i64 m', .int .i64 g', .string s'] 33)
    have hv1 := (hu.call hv).alloc (.cells #[.int .i64 p', .int .i64 o', .int .i64 f', .int .i64 m', .int .i64 g', .string s'] 33)
    have hne : wr.heap.size ≠ w1.heap.size := by have := (Array.getElem?_eq_some_iff.1 hx1).1; omega
    generalize w1.alloc (.cells #[.int .i64 p', .int .i64 o', .int .i64 f', .int .i64 m', .int .i64 g', .string s'] 33) = wc at hx hy hv1 ⊢
    obtain ⟨x0, x1, x2, x3, x4, x5, hxs⟩ := row6 hx
    obtain ⟨y0, y1, y2, y3, y4, y5, hys⟩ := row6 hy
    clear hv hb2 hx1 hx hy
    generalize wr.heap.size = X0 at *
    generalize w1.heap.size = Y0 at *
    have hFA : Fol ⟨p', o', f', m', g', s'⟩ ⟨p, o, f, m, g, s⟩ ↔ aheadS p' o' f' m' p o f m = true ∧ ((p', o', f') = (p, o, f) → g' ≠ 0 ∧ g' ≤ m) := by rw [aheadS_Fol]; exact Iff.rfl
    clear hN hbig hlt hk0 HE HE0 HE' hu hm hm'
    have hN := hLR.2.2.1
    have hlt := hLR.2.1
    cases hA : aheadS p' o' f' m' p o f m
    · have hF : ¬ Fol ⟨p', o', f', m', g', s'⟩ ⟨p, o, f, m, g, s⟩ := fun h => by rw [hFA, hA] at h; exact absurd h.1 (by simp)
      have K : Hid (3 = runErr l) := by
        have h := HS.out
        rw [if_neg hF] at h
        exact h.symm.trans (runErr_at hLR.2.2.2 hLR.2.2.1 (by rw [h]; decide) hLR.2.1)
      clear hF HS
      have cS : ∀ u, Calls Try.prog 27 #[.agg #[.int .i64 p', .int .i64 o', .int .i64 f', .int .i64 m'], .agg #[.int .i64 p, .int .i64 o, .int .i64 f, .int .i64 m]] u fun e w' => e = .returned (.bool false) ∧ Calm u w' := fun u => by rw [← hA]; exact aheadSpot_any _ _ _ _ _ _ _ _ _
      clear hA hFA
      refine wp_region_plan [.val (.agg #[.int .i64 p', .int .i64 o', .int .i64 f', .int .i64 m', .int .i64 g', .string s']), .val (.agg #[.int .i64 p', .int .i64 o', .int .i64 f', .int .i64 m']), .val (.agg #[.int .i64 p, .int .i64 o, .int .i64 f, .int .i64 m, .int .i64 g, .string s]), .val (.agg #[.int .i64 p, .int .i64 o, .int .i64 f, .int .i64 m]), .val (.bool false), .val (.bool true), .val (.bool true), .idle, .idle, .idle, .idle, .idle, .idle, .idle, .idle, .idle, .idle, .idle, .idle, .idle, .idle, .idle, .idle, .idle, .idle, .val (.bool true)] (by kernel_rfl) (by kernel_rfl) (by kernel_rfl) ?_
      intro X
      iterate 7
        refine plan_val (by kernel_rfl) (fun u hu => ?_) ?_
        · obtain ⟨hc, hf, hz⟩ := hu.of_drew.facts
          go_simp
          all_goals first
            | (go_at_call 28; exact refSpot_any _ _ _ _ _ _ _)
            | (go_at_call 27; exact cS _)
        simp only [Act.put, List.setIfInBounds_toArray, List.set_cons_zero, List.set_cons_succ, Nat.reduceAdd]
      iterate 18
        refine plan_idle (by kernel_rfl) ?_
        simp only [Act.put, List.setIfInBounds_toArray, List.set_cons_zero, List.set_cons_succ, Nat.reduceAdd]
      iterate 1
        refine plan_val (by kernel_rfl) (fun u hu => ?_) ?_
        · obtain ⟨hc, hf, hz⟩ := hu.of_drew.facts
          go_simp
          all_goals first
            | (go_at_call 28; exact refSpot_any _ _ _ _ _ _ _)
            | (go_at_call 27; exact cS _)
        simp only [Act.put, List.setIfInBounds_toArray, List.set_cons_zero, List.set_cons_succ, Nat.reduceAdd]
      refine plan_end ?_
      intro w' hB
      have hk := hB.calm.of_drew
      clear hB cS
      go_wp2_with fail
      go_ret
      exact ⟨ret_int K.out, hv1.call hk⟩
    by_cases hK : (p', o', f') = (p, o, f)
    rotate_left
    · have hF : Fol ⟨p', o', f', m', g', s'⟩ ⟨p, o, f, m, g, s⟩ := hFA.2 ⟨hA, fun h => absurd h hK⟩
      have hN1 : NoErr l (k + 1) := fun j hj => by
        rcases Nat.lt_or_ge j k with h | h
        · exact hN j h
        · rw [show j = k by omega]; have h := HS.out; rw [if_pos hF] at h; exact h
      clear hF HS
      have cS : ∀ u, Calls Try.prog 27 #[.agg #[.int .i64 p', .int .i64 o', .int .i64 f', .int .i64 m'], .agg #[.int .i64 p, .int .i64 o, .int .i64 f, .int .i64 m]] u fun e w' => e = .returned (.bool true) ∧ Calm u w' := fun u => by rw [← hA]; exact aheadSpot_any _ _ _ _ _ _ _ _ _
      clear hA hFA
      have h3 : ¬ p' = p ∨ (p' = p ∧ ¬ o' = o) ∨ (p' = p ∧ o' = o ∧ ¬ f' = f) := by simp only [Prod.mk.injEq] at hK; omega
      clear hK
      rcases h3 with h3 | ⟨h3, h4⟩ | ⟨h3, h4, h5⟩
      · skip
        refine wp_region_plan [.val (.agg #[.int .i64 p', .int .i64 o', .int .i64 f', .int .i64 m', .int .i64 g', .string s']), .val (.agg #[.int .i64 p', .int .i64 o', .int .i64 f', .int .i64 m']), .val (.agg #[.int .i64 p, .int .i64 o, .int .i64 f, .int .i64 m, .int .i64 g, .string s]), .val (.agg #[.int .i64 p, .int .i64 o, .int .i64 f, .int .i64 m]), .val (.bool true), .val (.bool false), .val (.bool false), .val (.pointer (some ⟨Y0, 0, none⟩)), .val (.agg #[.int .i64 p', .int .i64 o', .int .i64 f']), .val (.pointer (some ⟨X0, 0, none⟩)), .val (.agg #[.int .i64 p, .int .i64 o, .int .i64 f]), .val (.bool false), .val (.bool false), .idle, .idle, .idle, .idle, .idle, .idle, .idle, .idle, .idle, .idle, .idle, .val (.bool false), .val (.bool false)] (by kernel_rfl) (by kernel_rfl) (by kernel_rfl) ?_
        intro X
        iterate 13
          refine plan_val (by kernel_rfl) (fun u hu => ?_) ?_
          · obtain ⟨hc, hf, hz⟩ := hu.of_drew.facts
            go_simp
            all_goals first
              | (go_at_call 28; exact refSpot_any _ _ _ _ _ _ _)
              | (go_at_call 27; exact cS _)
          simp only [Act.put, List.setIfInBounds_toArray, List.set_cons_zero, List.set_cons_succ, Nat.reduceAdd]
        iterate 11
          refine plan_idle (by kernel_rfl) ?_
          simp only [Act.put, List.setIfInBounds_toArray, List.set_cons_zero, List.set_cons_succ, Nat.reduceAdd]
        iterate 2
          refine plan_val (by kernel_rfl) (fun u hu => ?_) ?_
          · obtain ⟨hc, hf, hz⟩ := hu.of_drew.facts
            go_simp
            all_goals first
              | (go_at_call 28; exact refSpot_any _ _ _ _ _ _ _)
              | (go_at_call 27; exact cS _)
          simp only [Act.put, List.setIfInBounds_toArray, List.set_cons_zero, List.set_cons_succ, Nat.reduceAdd]
        refine plan_end ?_
        intro w' hB
        have hk := hB.calm.of_drew
        clear hB cS
        go_wp2_with fail
        go_roundw
        case rel => exact ⟨k + 1, by omega, by go_num, hv1.call hk, hN1⟩
        case measure => simp [intOf]; omega
      · skip
        subst h3
        refine wp_region_plan [.val (.agg #[.int .i64 p', .int .i64 o', .int .i64 f', .int .i64 m', .int .i64 g', .string s']), .val (.agg #[.int .i64 p', .int .i64 o', .int .i64 f', .int .i64 m']), .val (.agg #[.int .i64 p', .int .i64 o, .int .i64 f, .int .i64 m, .int .i64 g, .string s]), .val (.agg #[.int .i64 p', .int .i64 o, .int .i64 f, .int .i64 m]), .val (.bool true), .val (.bool false), .val (.bool false), .val (.pointer (some ⟨Y0, 0, none⟩)), .val (.agg #[.int .i64 p', .int .i64 o', .int .i64 f']), .val (.pointer (some ⟨X0, 0, none⟩)), .val (.agg #[.int .i64 p', .int .i64 o, .int .i64 f]), .val (.bool false), .val (.bool false), .idle, .idle, .idle, .idle, .idle, .idle, .idle, .idle, .idle, .idle, .idle, .val (.bool false), .val (.bool false)] (by kernel_rfl) (by kernel_rfl) (by kernel_rfl) ?_
        intro X
        iterate 13
          refine plan_val (by kernel_rfl) (fun u hu => ?_) ?_
          · obtain ⟨hc, hf, hz⟩ := hu.of_drew.facts
            go_simp
            all_goals first
              | (go_at_call 28; exact refSpot_any _ _ _ _ _ _ _)
              | (go_at_call 27; exact cS _)
          simp only [Act.put, List.setIfInBounds_toArray, List.set_cons_zero, List.set_cons_succ, Nat.reduceAdd]
        iterate 11
          refine plan_idle (by kernel_rfl) ?_
          simp only [Act.put, List.setIfInBounds_toArray, List.set_cons_zero, List.set_cons_succ, Nat.reduceAdd]
        iterate 2
          refine plan_val (by kernel_rfl) (fun u hu => ?_) ?_
          · obtain ⟨hc, hf, hz⟩ := hu.of_drew.facts
            go_simp
            all_goals first
              | (go_at_call 28; exact refSpot_any _ _ _ _ _ _ _)
              | (go_at_call 27; exact cS _)
          simp only [Act.put, List.setIfInBounds_toArray, List.set_cons_zero, List.set_cons_succ, Nat.reduceAdd]
        refine plan_end ?_
        intro w' hB
        have hk := hB.calm.of_drew
        clear hB cS
        go_wp2_with fail
        go_roundw
        case rel => exact ⟨k + 1, by omega, by go_num, hv1.call hk, hN1⟩
        case measure => simp [intOf]; omega
      · skip
        subst h3
        subst h4
        refine wp_region_plan [.val (.agg #[.int .i64 p', .int .i64 o', .int .i64 f', .int .i64 m', .int .i64 g', .string s']), .val (.agg #[.int .i64 p', .int .i64 o', .int .i64 f', .int .i64 m']), .val (.agg #[.int .i64 p', .int .i64 o', .int .i64 f, .int .i64 m, .int .i64 g, .string s]), .val (.agg #[.int .i64 p', .int .i64 o', .int .i64 f, .int .i64 m]), .val (.bool true), .val (.bool false), .val (.bool false), .val (.pointer (some ⟨Y0, 0, none⟩)), .val (.agg #[.int .i64 p', .int .i64 o', .int .i64 f']), .val (.pointer (some ⟨X0, 0, none⟩)), .val (.agg #[.int .i64 p', .int .i64 o', .int .i64 f]), .val (.bool false), .val (.bool false), .idle, .idle, .idle, .idle, .idle, .idle, .idle, .idle, .idle, .idle, .idle, .val (.bool false), .val (.bool false)] (by kernel_rfl) (by kernel_rfl) (by kernel_rfl) ?_
        intro X
        iterate 13
          refine plan_val (by kernel_rfl) (fun u hu => ?_) ?_
          · obtain ⟨hc, hf, hz⟩ := hu.of_drew.facts
            go_simp
            all_goals first
              | (go_at_call 28; exact refSpot_any _ _ _ _ _ _ _)
              | (go_at_call 27; exact cS _)
          simp only [Act.put, List.setIfInBounds_toArray, List.set_cons_zero, List.set_cons_succ, Nat.reduceAdd]
        iterate 11
          refine plan_idle (by kernel_rfl) ?_
          simp only [Act.put, List.setIfInBounds_toArray, List.set_cons_zero, List.set_cons_succ, Nat.reduceAdd]
        iterate 2
          refine plan_val (by kernel_rfl) (fun u hu => ?_) ?_
          · obtain ⟨hc, hf, hz⟩ := hu.of_drew.facts
            go_simp
            all_goals first
              | (go_at_call 28; exact refSpot_any _ _ _ _ _ _ _)
              | (go_at_call 27; exact cS _)
          simp only [Act.put, List.setIfInBounds_toArray, List.set_cons_zero, List.set_cons_succ, Nat.reduceAdd]
        refine plan_end ?_
        intro w' hB
        have hk := hB.calm.of_drew
        clear hB cS
        go_wp2_with fail
        go_roundw
        case rel => exact ⟨k + 1, by omega, by go_num, hv1.call hk, hN1⟩
        case measure => simp [intOf]; omega
    simp only [Prod.mk.injEq] at hK
    obtain ⟨rfl, rfl, rfl⟩ := hK
    by_cases hg0 : 0 < g'
    rotate_left
    · have hF : ¬ Fol ⟨p', o', f', m', g', s'⟩ ⟨p', o', f', m, g, s⟩ := fun h => by have := ((hFA.1 h).2 rfl).1; omega
      have K : Hid (3 = runErr l) := by
        have h := HS.out
        rw [if_neg hF] at h
        exact h.symm.trans (runErr_at hLR.2.2.2 hLR.2.2.1 (by rw [h]; decide) hLR.2.1)
      clear hF HS
      have cS : ∀ u, Calls Try.prog 27 #[.agg #[.int .i64 p', .int .i64 o', .int .i64 f', .int .i64 m'], .agg #[.int .i64 p', .int .i64 o', .int .i64 f', .int .i64 m]] u fun e w' => e = .returned (.bool true) ∧ Calm u w' := fun u => by rw [← hA]; exact aheadSpot_any _ _ _ _ _ _ _ _ _
      clear hA hFA hg'
      refine wp_region_plan [.val (.agg #[.int .i64 p', .int .i64 o', .int .i64 f', .int .i64 m', .int .i64 g', .string s']), .val (.agg #[.int .i64 p', .int .i64 o', .int .i64 f', .int .i64 m']), .val (.agg #[.int .i64 p', .int .i64 o', .int .i64 f', .int .i64 m, .int .i64 g, .string s]), .val (.agg #[.int .i64 p', .int .i64 o', .int .i64 f', .int .i64 m]), .val (.bool true), .val (.bool false), .val (.bool false), .val (.pointer (some ⟨Y0, 0, none⟩)), .val (.agg #[.int .i64 p', .int .i64 o', .int .i64 f']), .val (.pointer (some ⟨X0, 0, none⟩)), .val (.agg #[.int .i64 p', .int .i64 o', .int .i64 f']), .val (.bool true), .val (.bool true), .val (.pointer (some ⟨Y0, 4, none⟩)), .val (.int .i64 g'), .val (.bool false), .val (.bool false), .idle, .idle, .idle, .idle, .idle, .val (.bool false), .val (.bool true), .val (.bool true), .val (.bool true)] (by kernel_rfl) (by kernel_rfl) (by kernel_rfl) ?_
      intro X
      iterate 17
        refine plan_val (by kernel_rfl) (fun u hu => ?_) ?_
        · obtain ⟨hc, hf, hz⟩ := hu.of_drew.facts
          go_simp
          all_goals first
            | (go_at_call 28; exact refSpot_any _ _ _ _ _ _ _)
            | (go_at_call 27; exact cS _)
        simp only [Act.put, List.setIfInBounds_toArray, List.set_cons_zero, List.set_cons_succ, Nat.reduceAdd]
      iterate 5
        refine plan_idle (by kernel_rfl) ?_
        simp only [Act.put, List.setIfInBounds_toArray, List.set_cons_zero, List.set_cons_succ, Nat.reduceAdd]
      iterate 4
        refine plan_val (by kernel_rfl) (fun u hu => ?_) ?_
        · obtain ⟨hc, hf, hz⟩ := hu.of_drew.facts
          go_simp
          all_goals first
            | (go_at_call 28; exact refSpot_any _ _ _ _ _ _ _)
            | (go_at_call 27; exact cS _)
        simp only [Act.put, List.setIfInBounds_toArray, List.set_cons_zero, List.set_cons_succ, Nat.reduceAdd]
      refine plan_end ?_
      intro w' hB
      have hk := hB.calm.of_drew
      clear hB cS
      go_wp2_with fail
      go_ret
      exact ⟨ret_int K.out, hv1.call hk⟩
    by_cases hgm : g' ≤ m
    · have hF : Fol ⟨p', o', f', m', g', s'⟩ ⟨p', o', f', m, g, s⟩ := hFA.2 ⟨hA, fun _ => ⟨by omega, hgm⟩⟩
      have hN1 : NoErr l (k + 1) := fun j hj => by
        rcases Nat.lt_or_ge j k with h | h
        · exact hN j h
        · rw [show j = k by omega]; have h := HS.out; rw [if_pos hF] at h; exact h
      clear hF HS
      have cS : ∀ u, Calls Try.prog 27 #[.agg #[.int .i64 p', .int .i64 o', .int .i64 f', .int .i64 m'], .agg #[.int .i64 p', .int .i64 o', .int .i64 f', .int .i64 m]] u fun e w' => e = .returned (.bool true) ∧ Calm u w' := fun u => by rw [← hA]; exact aheadSpot_any _ _ _ _ _ _ _ _ _
      clear hA hFA hg'
      refine wp_region_plan [.val (.agg #[.int .i64 p', .int .i64 o', .int .i64 f', .int .i64 m', .int .i64 g', .string s']), .val (.agg #[.int .i64 p', .int .i64 o', .int .i64 f', .int .i64 m']), .val (.agg #[.int .i64 p', .int .i64 o', .int .i64 f', .int .i64 m, .int .i64 g, .string s]), .val (.agg #[.int .i64 p', .int .i64 o', .int .i64 f', .int .i64 m]), .val (.bool true), .val (.bool false), .val (.bool false), .val (.pointer (some ⟨Y0, 0, none⟩)), .val (.agg #[.int .i64 p', .int .i64 o', .int .i64 f']), .val (.pointer (some ⟨X0, 0, none⟩)), .val (.agg #[.int .i64 p', .int .i64 o', .int .i64 f']), .val (.bool true), .val (.bool true), .val (.pointer (some ⟨Y0, 4, none⟩)), .val (.int .i64 g'), .val (.bool true), .val (.bool true), .val (.pointer (some ⟨Y0, 4, none⟩)), .val (.int .i64 g'), .val (.pointer (some ⟨X0, 3, none⟩)), .val (.int .i64 m), .val (.bool true), .val (.bool true), .val (.bool false), .val (.bool false), .val (.bool false)] (by kernel_rfl) (by kernel_rfl) (by kernel_rfl) ?_
      intro X
      iterate 26
        refine plan_val (by kernel_rfl) (fun u hu => ?_) ?_
        · obtain ⟨hc, hf, hz⟩ := hu.of_drew.facts
          go_simp
          all_goals first
            | (go_at_call 28; exact refSpot_any _ _ _ _ _ _ _)
            | (go_at_call 27; exact cS _)
        simp only [Act.put, List.setIfInBounds_toArray, List.set_cons_zero, List.set_cons_succ, Nat.reduceAdd]
      refine plan_end ?_
      intro w' hB
      have hk := hB.calm.of_drew
      clear hB cS
      go_wp2_with fail
      go_roundw
      case rel => exact ⟨k + 1, by omega, by go_num, hv1.call hk, hN1⟩
      case measure => simp [intOf]; omega
    · have hF : ¬ Fol ⟨p', o', f', m', g', s'⟩ ⟨p', o', f', m, g, s⟩ := fun h => by have := ((hFA.1 h).2 rfl).2; omega
      have K : Hid (3 = runErr l) := by
        have h := HS.out
        rw [if_neg hF] at h
        exact h.symm.trans (runErr_at hLR.2.2.2 hLR.2.2.1 (by rw [h]; decide) hLR.2.1)
      clear hF HS
      have cS : ∀ u, Calls Try.prog 27 #[.agg #[.int .i64 p', .int .i64 o', .int .i64 f', .int .i64 m'], .agg #[.int .i64 p', .int .i64 o', .int .i64 f', .int .i64 m]] u fun e w' => e = .returned (.bool true) ∧ Calm u w' := fun u => by rw [← hA]; exact aheadSpot_any _ _ _ _ _ _ _ _ _
      clear hA hFA hg'
      refine wp_region_plan [.val (.agg #[.int .i64 p', .int .i64 o', .int .i64 f', .int .i64 m', .int .i64 g', .string s']), .val (.agg #[.int .i64 p', .int .i64 o', .int .i64 f', .int .i64 m']), .val (.agg #[.int .i64 p', .int .i64 o', .int .i64 f', .int .i64 m, .int .i64 g, .string s]), .val (.agg #[.int .i64 p', .int .i64 o', .int .i64 f', .int .i64 m]), .val (.bool true), .val (.bool false), .val (.bool false), .val (.pointer (some ⟨Y0, 0, none⟩)), .val (.agg #[.int .i64 p', .int .i64 o', .int .i64 f']), .val (.pointer (some ⟨X0, 0, none⟩)), .val (.agg #[.int .i64 p', .int .i64 o', .int .i64 f']), .val (.bool true), .val (.bool true), .val (.pointer (some ⟨Y0, 4, none⟩)), .val (.int .i64 g'), .val (.bool true), .val (.bool true), .val (.pointer (some ⟨Y0, 4, none⟩)), .val (.int .i64 g'), .val (.pointer (some ⟨X0, 3, none⟩)), .val (.int .i64 m), .val (.bool false), .val (.bool false), .val (.bool true), .val (.bool true), .val (.bool true)] (by kernel_rfl) (by kernel_rfl) (by kernel_rfl) ?_
      intro X
      iterate 26
        refine plan_val (by kernel_rfl) (fun u hu => ?_) ?_
        · obtain ⟨hc, hf, hz⟩ := hu.of_drew.facts
          go_simp
          all_goals first
            | (go_at_call 28; exact refSpot_any _ _ _ _ _ _ _)
            | (go_at_call 27; exact cS _)
        simp only [Act.put, List.setIfInBounds_toArray, List.set_cons_zero, List.set_cons_succ, Nat.reduceAdd]
      refine plan_end ?_
      intro w' hB
      have hk := hB.calm.of_drew
      clear hB cS
      go_wp2_with fail
      go_ret
      exact ⟨ret_int K.out, hv1.call hk⟩
end Go.Proofs.Ytgebilpdinbfgaa
