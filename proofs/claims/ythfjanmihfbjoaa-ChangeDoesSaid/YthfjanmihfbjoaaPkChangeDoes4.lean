/- Texts of one kind in one file. -/
import Derived.Test.YthfjanmihfbjoaaPkChangeDoes3
set_option maxRecDepth 100000
namespace Go.Proofs.Ythfjanmihfbjoaa
open Go.RowKit
theorem aheadS_Fol {p o f m p' o' f' m' : Int} : aheadS p' o' f' m' p o f m = true ↔ sLt (p', o', f') m' (p, o, f) m := by
 have h := scmp_sLt (a := ⟨p', o', f', m', 0, ByteArray.empty⟩) (b := ⟨p, o, f, m, 0, ByteArray.empty⟩)
 simp only [El.key] at h
 unfold aheadS; rw [decide_eq_true_eq, h]
set_option maxHeartbeats 8000000 in
theorem refRun_any (A : Option Addr) (c : Nat) (l : List El) (w : World) (hn : l.length ≤ 9223372036854775807) (hL : Lies w A l) :
    Calls Try.prog 13 #[.slice A l.length c] w fun e w' => e = .returned (.int .i64 (runErr l)) ∧ Calm w w' := by
  by_cases hbig : 400 < l.length
  · have K : Hid (2 = runErr l) := by show _ = _; unfold runErr; rw [if_pos hbig]
    go_enter Try.func13, Try.ntmps13
    go_wp2_with fail
    go_ret
    exact ⟨ret_int K.out, Calm.refl _⟩
  go_enter Try.func13, Try.ntmps13
  go_wp2_with fail
  go_loopw [12] (fun i wr => ∃ k : Nat, k ≤ l.length ∧ i = .int .i64 k ∧ Calm w wr ∧ NoErr l k) (fun i _ => l.length - (intOf i).toNat)
  case atStart => exact ⟨0, Nat.zero_le _, rfl, Calm.refl _, fun j hj => absurd hj (Nat.not_lt_zero _)⟩
  case round =>
    obtain ⟨k, hk, rfl, hu, hN⟩ := hrel
    by_cases hlt : k < l.length
    rotate_left
    · have hkl : k = l.length := by omega
      have K : Hid (0 = runErr l) := runErr_good hbig (by rw [← hkl]; exact hN)
      clear hkl
      go_wp2_with fail
      go_ret
      exact ⟨ret_int K.out, hu⟩
    obtain ⟨b, q, p, o, f, m, g, s, rfl, hb, HE, hm, c0, c1, c2, c3, c4, c5⟩ := (hL.calm hu).get hlt
    by_cases he : elemErr p o f m g s.size = 0
    rotate_left
    · have b1 : (elemErr p o f m g s.size != 0) = true := by simpa using he
      have K : Hid (elemErr p o f m g s.size = runErr l) := by
        have h1 := stepErr_err HE.out (show El.err ⟨p, o, f, m, g, s⟩ ≠ 0 from he)
        rw [← runErr_at hbig hN (by rw [h1]; exact he) hlt, h1]; rfl
      clear he
      go_wp2_with (go_at_call 31; refine (refElem_any _ _ _ _ _ _ _ hm).mono ?_; rintro e w1 ⟨rfl, hb1⟩)
      go_ret
      exact ⟨ret_int K.out, by repeat (first | (with_reducible exact Calm.refl _) | (with_reducible refine Calm.alloc ?_ _) | (with_reducible refine Calm.drew ?_) | (with_reducible refine Calm.drewN ?_ _) | (refine Calm.call ?_ (by with_reducible assumption)))⟩
    have b1 : (elemErr p o f m g s.size != 0) = false := by simpa using he
    have HE0 : Hid (elemErr p o f m g s.size = 0) := he
    clear he
    by_cases hk0 : k = 0
    · subst hk0
      have hN1 : NoErr l 1 := fun j hj => by
        have : j = 0 := by omega
        subst this
        exact stepErr_first HE.out HE0.out
      simp only [Nat.zero_mul, Nat.add_zero] at c0 c1 c2 c3 c4 c5
      go_wp2_with (go_at_call 31; refine (refElem_any _ _ _ _ _ _ _ hm).mono ?_; rintro e w1 ⟨rfl, hb1⟩)
      exact ⟨⟨1, by omega, rfl, (hu.alloc _).call hb1, hN1⟩, by simp [intOf]; omega⟩
    obtain ⟨p', o', f', m', g', s', HE', hm', d0, d1, d2, d3, d4, d5⟩ := (hL.calm hu).get2 (k := k - 1) (by omega)
    have hS := stepErr_form HE.out HE0.out (by omega) HE'.out
    have hg' : g' = 0 ∨ 0 < g' := by
      have h1 := ((stepErr_zero (l := l) (i := k - 1) (by omega)).1 (hN (k - 1) (by omega))).1
      rw [(List.getElem?_eq_some_iff.1 HE'.out).2] at h1
      have h2 := err_time h1
      unfold timeOk at h2; simp only at h2; omega
    have z0 : 0 < k := by omega
    have z1 : IntKind.i64.wrap ((k : Int) - 1) = (k : Int) - 1 := IntWalk.i64_in _ (by omega)
    have z2 : ((k : Int) - 1).toNat = k - 1 := by omega
    have z3 : 0 ≤ (k : Int) - 1 := by omega
    have z4 : (k : Int) - 1 < l.length := by omega
    have z5 : 1 ≤ (k : Int) := by omega
    have hLR : Calm w wr ∧ k < l.length ∧ NoErr l k ∧ ¬ 400 < l.length := ⟨hu, hlt, hN, hbig⟩
    have HS : Hid (stepErr l k = if Fol ⟨p', o', f', m', g', s'⟩ ⟨p, o, f, m, g, s⟩ then 0 else 3) := hS
    clear hS
    go_upto_region 11 with (go_at_call 31; refine (refElem_any _ _ _ _ _ _ _ hm).mono ?_; rintro e w1 ⟨rfl, hb1⟩; have hx1 := (hb1.block (k := wr.heap.size) (by simp)).trans (heap_new wr _); have hv := ((Calm.refl wr).alloc _).call hb1; have hb2 : b < w1.heap.size := Nat.lt_of_lt_of_le hb hv.size; have hvc := hv.facts.1; replace d0 := (hvc _ _ hb).trans d0; replace d1 := (hvc _ _ hb).trans d1; replace d2 := (hvc _ _ hb).trans d2; replace d3 := (hvc _ _ hb).trans d3; replace d4 := (hvc _ _ hb).trans d4; replace d5 := (hvc _ _ hb).trans d5; clear hvc hb1 c0 c1 c2 c3 c4 c5 hL)
    clear b1 z0 z1 z2 z3 z4 z5 d0 d1 d2 d3 d4 d5
    have hx := heap_past (.cells #[.int .i64 p', .int .i64 o', .int .i64 f', .int .i64 m', .int .i64 g', .string s'] 43) hx1
    have hy := heap_new w1 (.cells #[.int .i64 p', .int .i64 o', .int .i64 f', .int .i64 m', .int .i64 g', .string s'] 43)
    have hv1 := (hu.call hv).alloc (.cells #[.int .i64 p', .int .i64 o', .int .i64 f', .int .i64 m', .int .i64 g', .string s'] 43)
    have hne : wr.heap.size ≠ w1.heap.size := by have := (Array.getElem?_eq_some_iff.1 hx1).1; omega
    generalize w1.alloc (.cells #[.int .i64 p', .int .i64 o', .int .i64 f', .int .i64 m', .int .i64 g', .string s'] 43) = wc at hx hy hv1 ⊢
    obtain ⟨x0, x1, x2, x3, x4, x5, hxs⟩ := row6 hx
    obtain ⟨y0, y1, y2, y3, y4, y5, hys⟩ := row6 hy
    clear hv hb2 hx1 hx hy
    generalize wr.heap.size = X0 at *
    generalize w1.heap.size = Y0 at *
    have hFA : Fol ⟨p', o', f', m', g', s'⟩ ⟨p, o, f, m, g, s⟩ ↔ aheadS p' o' f' m' p o f m = true ∧ ((p', o', f') = (p, o, f) → g' ≠ 0 ∧ g' ≤ m) := by rw [aheadS_Fol]; exact Iff.rfl
    clear hN hbig hlt hk0 HE HE0 HE' hu hm hm'
    have hN := hLR.2.2.1
    have hlt := hLR.2.1
    cases hA : aheadS p' o' f' m' p o f m
    · have hF : ¬ Fol ⟨p', o', f', m', g', s'⟩ ⟨p, o, f, m, g, s⟩ := fun h => by rw [hFA, hA] at h; exact absurd h.1 (by simp)
      have K : Hid (3 = runErr l) := by
        have h := HS.out
        rw [if_neg hF] at h
        exact h.symm.trans (runErr_at hLR.2.2.2 hLR.2.2.1 (by rw [h]; decide) hLR.2.1)
      clear hF HS
      have cS : ∀ u, Calls Try.prog 32 #[.agg #[.int .i64 p', .int .i64 o', .int .i64 f', .int .i64 m'], .agg #[.int .i64 p, .int .i64 o, .int .i64 f, .int .i64 m]] u fun e w' => e = .returned (.bool false) ∧ Calm u w' := fun u => by rw [← hA]; exact aheadSpot_any _ _ _ _ _ _ _ _ _
      clear hA hFA
      refine wp_region_plan [.val (.agg #[.int .i64 p', .int .i64 o', .int .i64 f', .int .i64 m', .int .i64 g', .string s']), .val (.agg #[.int .i64 p', .int .i64 o', .int .i64 f', .int .i64 m']), .val (.agg #[.int .i64 p, .int .i64 o, .int .i64 f, .int .i64 m, .int .i64 g, .string s]), .val (.agg #[.int .i64 p, .int .i64 o, .int .i64 f, .int .i64 m]), .val (.bool false), .val (.bool true), .val (.bool true), .idle, .idle, .idle, .idle, .idle, .idle, .idle, .idle, .idle, .idle, .idle, .idle, .idle, .idle, .idle, .idle, .idle, .idle, .val (.bool true)] (by kernel_rfl) (by kernel_rfl) (by kernel_rfl) ?_
      intro X
      iterate 7
        refine plan_val (by kernel_rfl) (fun u hu => ?_) ?_
        · obtain ⟨hc, hf, hz⟩ := hu.of_drew.facts
          go_simp
          all_goals first
            | (go_at_call 33; exact refSpot_any _ _ _ _ _ _ _)
            | (go_at_call 32; exact cS _)
        simp only [Act.put, List.setIfInBounds_toArray, List.set_cons_zero, List.set_cons_succ, Nat.reduceAdd]
      iterate 18
        refine plan_idle (by kernel_rfl) ?_
        simp only [Act.put, List.setIfInBounds_toArray, List.set_cons_zero, List.set_cons_succ, Nat.reduceAdd]
      iterate 1
        refine plan_val (by kernel_rfl) (fun u hu => ?_) ?_
        · obtain ⟨hc, hf, hz⟩ := hu.of_drew.facts
          go_simp
          all_goals first
            | (go_at_call 33; exact refSpot_any _ _ _ _ _ _ _)
            | (go_at_call 32; exact cS _)
        simp only [Act.put, List.setIfInBounds_toArray, List.set_cons_zero, List.set_cons_succ, Nat.reduceAdd]
      refine plan_end ?_
      intro w' hB
      have hk := hB.calm.of_drew
      clear hB cS
      go_wp2_with fail
      go_ret
      exact ⟨ret_int K.out, hv1.call hk⟩
    by_cases hK : (p', o', f') = (p, o, f)
    rotate_left
    · have hF : Fol ⟨p', o', f', m', g', s'⟩ ⟨p, o, f, m, g, s⟩ := hFA.2 ⟨hA, fun h => absurd h hK⟩
      have hN1 : NoErr l (k + 1) := fun j hj => by
        rcases Nat.lt_or_ge j k with h | h
        · exact hN j h
        · rw [show j = k by omega]; have h := HS.out; rw [if_pos hF] at h; exact h
      clear hF HS
      have cS : ∀ u, Calls Try.prog 32 #[.agg #[.int .i64 p', .int .i64 o', .int .i64 f', .int .i64 m'], .agg #[.int .i64 p, .int .i64 o, .int .i64 f, .int .i64 m]] u fun e w' => e = .returned (.bool true) ∧ Calm u w' := fun u => by rw [← hA]; exact aheadSpot_any _ _ _ _ _ _ _ _ _
      clear hA hFA
      have h3 : ¬ p' = p ∨ (p' = p ∧ ¬ o' = o) ∨ (p' = p ∧ o' = o ∧ ¬ f' = f) := by simp only [Prod.mk.injEq] at hK; omega
      clear hK
      rcases h3 with h3 | ⟨h3, h4⟩ | ⟨h3, h4, h5⟩
      · skip
        refine wp_region_plan [.val (.agg #[.int .i64 p', .int .i64 o', .int .i64 f', .int .i64 m', .int .i64 g', .string s']), .val (.agg #[.int .i64 p', .int .i64 o', .int .i64 f', .int .i64 m']), .val (.agg #[.int .i64 p, .int .i64 o, .int .i64 f, .int .i64 m, .int .i64 g, .string s]), .val (.agg #[.int .i64 p, .int .i64 o, .int .i64 f, .int .i64 m]), .val (.bool true), .val (.bool false), .val (.bool false), .val (.pointer (some ⟨Y0, 0, none⟩)), .val (.agg #[.int .i64 p', .int .i64 o', .int .i64 f']), .val (.pointer (some ⟨X0, 0, none⟩)), .val (.agg #[.int .i64 p, .int .i64 o, .int .i64 f]), .val (.bool false), .val (.bool false), .idle, .idle, .idle, .idle, .idle, .idle, .idle, .idle, .idle, .idle, .idle, .val (.bool false), .val (.bool false)] (by kernel_rfl) (by kernel_rfl) (by kernel_rfl) ?_
        intro X
        iterate 13
          refine plan_val (by kernel_rfl) (fun u hu => ?_) ?_
          · obtain ⟨hc, hf, hz⟩ := hu.of_drew.facts
            go_simp
            all_goals first
              | (go_at_call 33; exact refSpot_any _ _ _ _ _ _ _)
              | (go_at_call 32; exact cS _)
          simp only [Act.put, List.setIfInBounds_toArray, List.set_cons_zero, List.set_cons_succ, Nat.reduceAdd]
        iterate 11
          refine plan_idle (by kernel_rfl) ?_
          simp only [Act.put, List.setIfInBounds_toArray, List.set_cons_zero, List.set_cons_succ, Nat.reduceAdd]
        iterate 2
          refine plan_val (by kernel_rfl) (fun u hu => ?_) ?_
          · obtain ⟨hc, hf, hz⟩ := hu.of_drew.facts
            go_simp
            all_goals first
              | (go_at_call 33; exact refSpot_any _ _ _ _ _ _ _)
              | (go_at_call 32; exact cS _)
          simp only [Act.put, List.setIfInBounds_toArray, List.set_cons_zero, List.set_cons_succ, Nat.reduceAdd]
        refine plan_end ?_
        intro w' hB
        have hk := hB.calm.of_drew
        clear hB cS
        go_wp2_with fail
        go_roundw
        case rel => exact ⟨k + 1, by omega, by go_num, hv1.call hk, hN1⟩
        case measure => simp [intOf]; omega
      · skip
        subst h3
        refine wp_region_plan [.val (.agg #[.int .i64 p', .int .i64 o', .int .i64 f', .int .i64 m', .int .i64 g', .string s']), .val (.agg #[.int .i64 p', .int .i64 o', .int .i64 f', .int .i64 m']), .val (.agg #[.int .i64 p', .int .i64 o, .int .i64 f, .int .i64 m, .int .i64 g, .string s]), .val (.agg #[.int .i64 p', .int .i64 o, .int .i64 f, .int .i64 m]), .val (.bool true), .val (.bool false), .val (.bool false), .val (.pointer (some ⟨Y0, 0, none⟩)), .val (.agg #[.int .i64 p', .int .i64 o', .int .i64 f']), .val (.pointer (some ⟨X0, 0, none⟩)), .val (.agg #[.int .i64 p', .int .i64 o, .int .i64 f]), .val (.bool false), .val (.bool false), .idle, .idle, .idle, .idle, .idle, .idle, .idle, .idle, .idle, .idle, .idle, .val (.bool false), .val (.bool false)] (by kernel_rfl) (by kernel_rfl) (by kernel_rfl) ?_
        intro X
        iterate 13
          refine plan_val (by kernel_rfl) (fun u hu => ?_) ?_
          · obtain ⟨hc, hf, hz⟩ := hu.of_drew.facts
            go_simp
            all_goals first
              | (go_at_call 33; exact refSpot_any _ _ _ _ _ _ _)
              | (go_at_call 32; exact cS _)
          simp only [Act.put, List.setIfInBounds_toArray, List.set_cons_zero, List.set_cons_succ, Nat.reduceAdd]
        iterate 11
          refine plan_idle (by kernel_rfl) ?_
          simp only [Act.put, List.setIfInBounds_toArray, List.set_cons_zero, List.set_cons_succ, Nat.reduceAdd]
        iterate 2
          refine plan_val (by kernel_rfl) (fun u hu => ?_) ?_
          · obtain ⟨hc, hf, hz⟩ := hu.of_drew.facts
            go_simp
            all_goals first
              | (go_at_call 33; exact refSpot_any _ _ _ _ _ _ _)
              | (go_at_call 32; exact cS _)
          simp only [Act.put, List.setIfInBounds_toArray, List.set_cons_zero, List.set_cons_succ, Nat.reduceAdd]
        refine plan_end ?_
        intro w' hB
        have hk := hB.calm.of_drew
        clear hB cS
        go_wp2_with fail
        go_roundw
        case rel => exact ⟨k + 1, by omega, by go_num, hv1.call hk, hN1⟩
        case measure => simp [intOf]; omega
      · skip
        subst h3
        subst h4
        refine wp_region_plan [.val (.agg #[.int .i64 p', .int .i64 o', .int .i64 f', .int .i64 m', .int .i64 g', .string s']), .val (.agg #[.int .i64 p', .int .i64 o', .int .i64 f', .int .i64 m']), .val (.agg #[.int .i64 p', .int .i64 o', .int .i64 f, .int .i64 m, .int .i64 g, .string s]), .val (.agg #[.int .i64 p', .int .i64 o', .int .i64 f, .int .i64 m]), .val (.bool true), .val (.bool false), .val (.bool false), .val (.pointer (some ⟨Y0, 0, none⟩)), .val (.agg #[.int .i64 p', .int .i64 o', .int .i64 f']), .val (.pointer (some ⟨X0, 0, none⟩)), .val (.agg #[.int .i64 p', .int .i64 o', .int .i64 f]), .val (.bool false), .val (.bool false), .idle, .idle, .idle, .idle, .idle, .idle, .idle, .idle, .idle, .idle, .idle, .val (.bool false), .val (.bool false)] (by kernel_rfl) (by kernel_rfl) (by kernel_rfl) ?_
        intro X
        iterate 13
          refine plan_val (by kernel_rfl) (fun u hu => ?_) ?_
          · obtain ⟨hc, hf, hz⟩ := hu.of_drew.facts
            go_simp
            all_goals first
              | (go_at_call 33; exact refSpot_any _ _ _ _ _ _ _)
              | (go_at_call 32; exact cS _)
          simp only [Act.put, List.setIfInBounds_toArray, List.set_cons_zero, List.set_cons_succ, Nat.reduceAdd]
        iterate 11
          refine plan_idle (by kernel_rfl) ?_
          simp only [Act.put, List.setIfInBounds_toArray, List.set_cons_zero, List.set_cons_succ, Nat.reduceAdd]
        iterate 2
          refine plan_val (by kernel_rfl) (fun u hu => ?_) ?_
          · obtain ⟨hc, hf, hz⟩ := hu.of_drew.facts
            go_simp
            all_goals first
              | (go_at_call 33; exact refSpot_any _ _ _ _ _ _ _)
              | (go_at_call 32; exact cS _)
          simp only [Act.put, List.setIfInBounds_toArray, List.set_cons_zero, List.set_cons_succ, Nat.reduceAdd]
        refine plan_end ?_
        intro w' hB
        have hk := hB.calm.of_drew
        clear hB cS
        go_wp2_with fail
        go_roundw
        case rel => exact ⟨k + 1, by omega, by go_num, hv1.call hk, hN1⟩
        case measure => simp [intOf]; omega
    simp only [Prod.mk.injEq] at hK
    obtain ⟨rfl, rfl, rfl⟩ := hK
    by_cases hg0 : 0 < g'
    rotate_left
    · have hF : ¬ Fol ⟨p', o', f', m', g', s'⟩ ⟨p', o', f', m, g, s⟩ := fun h => by have := ((hFA.1 h).2 rfl).1; omega
      have K : Hid (3 = runErr l) := by
        have h := HS.out
        rw [if_neg hF] at h
        exact h.symm.trans (runErr_at hLR.2.2.2 hLR.2.2.1 (by rw [h]; decide) hLR.2.1)
      clear hF HS
      have cS : ∀ u, Calls Try.prog 32 #[.agg #[.int .i64 p', .int .i64 o', .int .i64 f', .int .i64 m'], .agg #[.int .i64 p', .int .i64 o', .int .i64 f', .int .i64 m]] u fun e w' => e = .returned (.bool true) ∧ Calm u w' := fun u => by rw [← hA]; exact aheadSpot_any _ _ _ _ _ _ _ _ _
      clear hA hFA hg'
      refine wp_region_plan [.val (.agg #[.int .i64 p', .int .i64 o', .int .i64 f', .int .i64 m', .int .i64 g', .string s']), .val (.agg #[.int .i64 p', .int .i64 o', .int .i64 f', .int .i64 m']), .val (.agg #[.int .i64 p', .int .i64 o', .int .i64 f', .int .i64 m, .int .i64 g, .string s]), .val (.agg #[.int .i64 p', .int .i64 o', .int .i64 f', .int .i64 m]), .val (.bool true), .val (.bool false), .val (.bool false), .val (.pointer (some ⟨Y0, 0, none⟩)), .val (.agg #[.int .i64 p', .int .i64 o', .int .i64 f']), .val (.pointer (some ⟨X0, 0, none⟩)), .val (.agg #[.int .i64 p', .int .i64 o', .int .i64 f']), .val (.bool true), .val (.bool true), .val (.pointer (some ⟨Y0, 4, none⟩)), .val (.int .i64 g'), .val (.bool false), .val (.bool false), .idle, .idle, .idle, .idle, .idle, .val (.bool false), .val (.bool true), .val (.bool true), .val (.bool true)] (by kernel_rfl) (by kernel_rfl) (by kernel_rfl) ?_
      intro X
      iterate 17
        refine plan_val (by kernel_rfl) (fun u hu => ?_) ?_
        · obtain ⟨hc, hf, hz⟩ := hu.of_drew.facts
          go_simp
          all_goals first
            | (go_at_call 33; exact refSpot_any _ _ _ _ _ _ _)
            | (go_at_call 32; exact cS _)
        simp only [Act.put, List.setIfInBounds_toArray, List.set_cons_zero, List.set_cons_succ, Nat.reduceAdd]
      iterate 5
        refine plan_idle (by kernel_rfl) ?_
        simp only [Act.put, List.setIfInBounds_toArray, List.set_cons_zero, List.set_cons_succ, Nat.reduceAdd]
      iterate 4
        refine plan_val (by kernel_rfl) (fun u hu => ?_) ?_
        · obtain ⟨hc, hf, hz⟩ := hu.of_drew.facts
          go_simp
          all_goals first
            | (go_at_call 33; exact refSpot_any _ _ _ _ _ _ _)
            | (go_at_call 32; exact cS _)
        simp only [Act.put, List.setIfInBounds_toArray, List.set_cons_zero, List.set_cons_succ, Nat.reduceAdd]
      refine plan_end ?_
      intro w' hB
      have hk := hB.calm.of_drew
      clear hB cS
      go_wp2_with fail
      go_ret
      exact ⟨ret_int K.out, hv1.call hk⟩
    by_cases hgm : g' ≤ m
    · have hF : Fol ⟨p', o', f', m', g', s'⟩ ⟨p', o', f', m, g, s⟩ := hFA.2 ⟨hA, fun _ => ⟨by omega, hgm⟩⟩
      have hN1 : NoErr l (k + 1) := fun j hj => by
        rcases Nat.lt_or_ge j k with h | h
        · exact hN j h
        · rw [show j = k by omega]; have h := HS.out; rw [if_pos hF] at h; exact h
      clear hF HS
      have cS : ∀ u, Calls Try.prog 32 #[.agg #[.int .i64 p', .int .i64 o', .int .i64 f', .int .i64 m'], .agg #[.int .i64 p', .int .i64 o', .int .i64 f', .int .i64 m]] u fun e w' => e = .returned (.bool true) ∧ Calm u w' := fun u => by rw [← hA]; exact aheadSpot_any _ _ _ _ _ _ _ _ _
      clear hA hFA hg'
      refine wp_region_plan [.val (.agg #[.int .i64 p', .int .i64 o', .int .i64 f', .int .i64 m', .int .i64 g', .string s']), .val (.agg #[.int .i64 p', .int .i64 o', .int .i64 f', .int .i64 m']), .val (.agg #[.int .i64 p', .int .i64 o', .int .i64 f', .int .i64 m, .int .i64 g, .string s]), .val (.agg #[.int .i64 p', .int .i64 o', .int .i64 f', .int .i64 m]), .val (.bool true), .val (.bool false), .val (.bool false), .val (.pointer (some ⟨Y0, 0, none⟩)), .val (.agg #[.int .i64 p', .int .i64 o', .int .i64 f']), .val (.pointer (some ⟨X0, 0, none⟩)), .val (.agg #[.int .i64 p', .int .i64 o', .int .i64 f']), .val (.bool true), .val (.bool true), .val (.pointer (some ⟨Y0, 4, none⟩)), .val (.int .i64 g'), .val (.bool true), .val (.bool true), .val (.pointer (some ⟨Y0, 4, none⟩)), .val (.int .i64 g'), .val (.pointer (some ⟨X0, 3, none⟩)), .val (.int .i64 m), .val (.bool true), .val (.bool true), .val (.bool false), .val (.bool false), .val (.bool false)] (by kernel_rfl) (by kernel_rfl) (by kernel_rfl) ?_
      intro X
      iterate 26
        refine plan_val (by kernel_rfl) (fun u hu => ?_) ?_
        · obtain ⟨hc, hf, hz⟩ := hu.of_drew.facts
          go_simp
          all_goals first
            | (go_at_call 33; exact refSpot_any _ _ _ _ _ _ _)
            | (go_at_call 32; exact cS _)
        simp only [Act.put, List.setIfInBounds_toArray, List.set_cons_zero, List.set_cons_succ, Nat.reduceAdd]
      refine plan_end ?_
      intro w' hB
      have hk := hB.calm.of_drew
      clear hB cS
      go_wp2_with fail
      go_roundw
      case rel => exact ⟨k + 1, by omega, by go_num, hv1.call hk, hN1⟩
      case measure => simp [intOf]; omega
    · have hF : ¬ Fol ⟨p', o', f', m', g', s'⟩ ⟨p', o', f', m, g, s⟩ := fun h => by have := ((hFA.1 h).2 rfl).2; omega
      have K : Hid (3 = runErr l) := by
        have h := HS.out
        rw [if_neg hF] at h
        exact h.symm.trans (runErr_at hLR.2.2.2 hLR.2.2.1 (by rw [h]; decide) hLR.2.1)
      clear hF HS
      have cS : ∀ u, Calls Try.prog 32 #[.agg #[.int .i64 p', .int .i64 o', .int .i64 f', .int .i64 m'], .agg #[.int .i64 p', .int .i64 o', .int .i64 f', .int .i64 m]] u fun e w' => e = .returned (.bool true) ∧ Calm u w' := fun u => by rw [← hA]; exact aheadSpot_any _ _ _ _ _ _ _ _ _
      clear hA hFA hg'
      refine wp_region_plan [.val (.agg #[.int .i64 p', .int .i64 o', .int .i64 f', .int .i64 m', .int .i64 g', .string s']), .val (.agg #[.int .i64 p', .int .i64 o', .int .i64 f', .int .i64 m']), .val (.agg #[.int .i64 p', .int .i64 o', .int .i64 f', .int .i64 m, .int .i64 g, .string s]), .val (.agg #[.int .i64 p', .int .i64 o', .int .i64 f', .int .i64 m]), .val (.bool true), .val (.bool false), .val (.bool false), .val (.pointer (some ⟨Y0, 0, none⟩)), .val (.agg #[.int .i64 p', .int .i64 o', .int .i64 f']), .val (.pointer (some ⟨X0, 0, none⟩)), .val (.agg #[.int .i64 p', .int .i64 o', .int .i64 f']), .val (.bool true), .val (.bool true), .val (.pointer (some ⟨Y0, 4, none⟩)), .val (.int .i64 g'), .val (.bool true), .val (.bool true), .val (.pointer (some ⟨Y0, 4, none⟩)), .val (.int .i64 g'), .val (.pointer (some ⟨X0, 3, none⟩)), .val (.int .i64 m), .val (.bool false), .val (.bool false), .val (.bool true), .val (.bool true), .val (.bool true)] (by kernel_rfl) (by kernel_rfl) (by kernel_rfl) ?_
      intro X
      iterate 26
        refine plan_val (by kernel_rfl) (fun u hu => ?_) ?_
        · obtain ⟨hc, hf, hz⟩ := hu.of_drew.facts
          go_simp
          all_goals first
            | (go_at_call 33; exact refSpot_any _ _ _ _ _ _ _)
            | (go_at_call 32; exact cS _)
        simp only [Act.put, List.setIfInBounds_toArray, List.set_cons_zero, List.set_cons_succ, Nat.reduceAdd]
      refine plan_end ?_
      intro w' hB
      have hk := hB.calm.of_drew
      clear hB cS
      go_wp2_with fail
      go_ret
      exact ⟨ret_int K.out, hv1.call hk⟩
open Go.RowKit
theorem any_take {l : List El} {k : Nat} {e : El} (h : l[k]? = some e) (q : El → Bool) : (l.take (k + 1)).any q = ((l.take k).any q || q e) := by
 rw [take_snoc3 h, List.any_append, List.any_cons, List.any_nil, Bool.or_false]
theorem map_take {l : List El} {k : Nat} {e : El} (h : l[k]? = some e) (q : El → El) : (l.take (k + 1)).map q = (l.take k).map q ++ [q e] := by
 rw [take_snoc3 h, List.map_append]; rfl
set_option maxHeartbeats 16000000 in
theorem refPut_any (A : Option Addr) (d : Nat) (l : List El) (p' o' f' : Int) (s' : ByteArray) (t : Int) (w : World) (hn : l.length ≤ 9223372036854775807) (ht0 : -9223372036854775808 ≤ t) (hL : Lies w A l) :
    Calls Try.prog 52 #[.slice A l.length d, .agg #[.int .i64 p', .int .i64 o', .int .i64 f'], .string s', .int .i64 t] w (SlEnd (if putErr l (p', o', f') s' t = 0 then putR l (p', o', f') s' t else []) (putErr l (p', o', f') s' t) w) := by
  have hy := heap_new w (.cells #[.int .i64 p', .int .i64 o', .int .i64 f'] 31)
  have hu := (Calm.refl w).alloc (.cells #[.int .i64 p', .int .i64 o', .int .i64 f'] 31)
  have cR : ∀ u, Calm w u → Calls Try.prog 13 #[.slice A l.length d] u fun e w' => e = .returned (.int .i64 (runErr l)) ∧ Calm u w' := fun u hu => refRun_any A d l u hn (hL.calm hu)
  have cE := fun u => refElem_any p' o' f' t 0 s' u ht0
  have cT : ∀ u, Calm w u → Calls Try.prog 51 #[.slice A l.length d] u fun e w' => e = .returned (.int .i64 (latest l)) ∧ Calm u w' := fun u hu => refLatest_any A d l u hn (hL.calm hu)
  by_cases he : runErr l = 0
  rotate_left
  · have e1 : putErr l (p', o', f') s' t = runErr l := by simp [putErr, wrErr, he]
    rw [e1, if_neg he]
    have b1 : (runErr l != 0) = true := by simpa using he
    clear he e1 hL
    go_enter Try.func52, Try.ntmps52
    go_wp2_with (go_at_call 13; refine (cR _ hu).mono ?_; rintro e w1 ⟨rfl, hb1⟩; replace hy := (hb1.block (row3 hy).2.2.2).trans hy; replace hu := hu.call hb1; clear hb1; obtain ⟨y0, y1, y2, hys⟩ := row3 hy)
    go_ret2
    exact ⟨_, rfl, Sl.nil _ _ _, hu⟩
  have hG := runErr_zero.1 he
  by_cases h2 : elemErr p' o' f' t 0 s'.size = 0
  rotate_left
  · have hx : (fresh (p', o', f') s' t).err = elemErr p' o' f' t 0 s'.size := rfl
    have e1 : putErr l (p', o', f') s' t = elemErr p' o' f' t 0 s'.size := by simp [putErr, wrErr, he, hx, h2]
    rw [e1, if_neg h2]
    rw [he] at cR
    have b1 : (elemErr p' o' f' t 0 s'.size != 0) = true := by simpa using h2
    clear he e1 hL hx h2 hG
    go_enter Try.func52, Try.ntmps52
    go_wp2_with (first
      | (go_at_call 13; refine (cR _ hu).mono ?_; rintro e w1 ⟨rfl, hb1⟩; replace hy := (hb1.block (row3 hy).2.2.2).trans hy; replace hu := hu.call hb1; clear hb1; obtain ⟨y0, y1, y2, hys⟩ := row3 hy)
      | (go_at_call 31; refine (cE _).mono ?_; rintro e w1 ⟨rfl, hb1⟩; have hz := (hb1.block (by simp)).trans (heap_new _ _); replace hy := (hb1.block (row3 (heap_past _ hy)).2.2.2).trans (heap_past _ hy); replace hu := (hu.alloc _).call hb1; clear hb1; obtain ⟨y0, y1, y2, hys⟩ := row3 hy; obtain ⟨z0, z1, z2, z3, z4, z5, hzs⟩ := row6 hz))
    go_ret2
    exact ⟨_, rfl, Sl.nil _ _ _, hu⟩
  have hx : (fresh (p', o', f') s' t).err = 0 := h2
  rw [he] at cR
  rw [h2] at cE
  by_cases h3 : t < latest l
  · have e1 : putErr l (p', o', f') s' t = 9 := by
      have : (fresh (p', o', f') s' t).m = t := rfl
      simp [putErr, wrErr, he, hx, this, h3]
    rw [e1, if_neg (by decide)]
    generalize latest l = t1 at cT h3
    clear he e1 hL hx h2 hG
    go_enter Try.func52, Try.ntmps52
    go_wp2_with (first
      | (go_at_call 13; refine (cR _ hu).mono ?_; rintro e w1 ⟨rfl, hb1⟩; replace hy := (hb1.block (row3 hy).2.2.2).trans hy; replace hu := hu.call hb1; clear hb1; obtain ⟨y0, y1, y2, hys⟩ := row3 hy)
      | (go_at_call 31; refine (cE _).mono ?_; rintro e w1 ⟨rfl, hb1⟩; have hz := (hb1.block (by simp)).trans (heap_new _ _); replace hy := (hb1.block (row3 (heap_past _ hy)).2.2.2).trans (heap_past _ hy); replace hu := (hu.alloc _).call hb1; clear hb1; obtain ⟨y0, y1, y2, hys⟩ := row3 hy; obtain ⟨z0, z1, z2, z3, z4, z5, hzs⟩ := row6 hz)
      | (go_at_call 51; refine (cT _ hu).mono ?_; rintro e w1 ⟨rfl, hb1⟩; replace hz := (hb1.block (row6 hz).2.2.2.2.2.2).trans hz; replace hy := (hb1.block (row3 hy).2.2.2).trans hy; replace hu := hu.call hb1; clear hb1; obtain ⟨y0, y1, y2, hys⟩ := row3 hy; obtain ⟨z0, z1, z2, z3, z4, z5, hzs⟩ := row6 hz))
    go_ret2
    exact ⟨_, rfl, Sl.nil _ _ _, hu⟩
  have hw : wrErr l (fresh (p', o', f') s' t) = 0 := wrErr_zero.2 ⟨hG, hx, by show latest l ≤ t; omega⟩
  have hgood := fun hp : putErr l (p', o', f') s' t = 0 => put_good hw hp
  have hpe : putErr l (p', o', f') s' t = if l.any (isSame (p', o', f') t) then 0 else if 400 ≤ l.length then 8 else 0 := by unfold putErr; rw [if_pos hw]
  have hn4 := hG.1
  have HG := Lib.hid hG
  have HW := Lib.hid hw
  generalize latest l = t1 at cT h3
  clear he hx h2 hw hG
  generalize hPE : putErr l (p', o', f') s' t = pe at hgood hpe ⊢
  generalize hPR : (if pe = 0 then putR l (p', o', f') s' t else []) = pr
  have HPR := Lib.hid hPR
  have HGD := Lib.hid hgood
  have HPE := Lib.hid hpe
  clear hPE hPR hgood hpe
  go_enter Try.func52, Try.ntmps52
  go_wp2_with (first
    | (go_at_call 13; refine (cR _ hu).mono ?_; rintro e w1 ⟨rfl, hb1⟩; replace hy := (hb1.block (row3 hy).2.2.2).trans hy; replace hu := hu.call hb1; clear hb1; obtain ⟨y0, y1, y2, hys⟩ := row3 hy; clear cR)
    | (go_at_call 31; refine (cE _).mono ?_; rintro e w1 ⟨rfl, hb1⟩; have hz := (hb1.block (by simp)).trans (heap_new _ _); replace hy := (hb1.block (row3 (heap_past _ hy)).2.2.2).trans (heap_past _ hy); replace hu := (hu.alloc _).call hb1; clear hb1; obtain ⟨y0, y1, y2, hys⟩ := row3 hy; obtain ⟨z0, z1, z2, z3, z4, z5, hzs⟩ := row6 hz; clear cE)
    | (go_at_call 51; refine (cT _ hu).mono ?_; rintro e w1 ⟨rfl, hb1⟩; replace hz := (hb1.block (row6 hz).2.2.2.2.2.2).trans hz; replace hy := (hb1.block (row3 hy).2.2.2).trans hy; replace hu := hu.call hb1; clear hb1; obtain ⟨y0, y1, y2, hys⟩ := row3 hy; obtain ⟨z0, z1, z2, z3, z4, z5, hzs⟩ := row6 hz; clear cT))
  replace hL := hL.calm hu
  clear z0 z1 z2 z3 z4 z5 hzs y0 y1 y2 hys h3
  obtain ⟨w3, hw3⟩ : ∃ w3 : World, w3 = w1 := ⟨_, rfl⟩
  subst hw3
  go_loopw [13, 14, 37] (fun v b i wr => ∃ k : Nat, k ≤ l.length ∧ i = .int .i64 k ∧ b = .bool ((l.take k).any (isSame (p', o', f') t)) ∧ Calm w3 wr ∧ Hid (OwnR w3.heap.size wr v ((l.take k).map (upd (p', o', f') s' t)))) (fun _ _ i _ => l.length - (intOf i).toNat)
  case atStart => exact ⟨0, Nat.zero_le _, rfl, rfl, Calm.refl _, show OwnR _ _ _ _ from OwnR.nil _ _⟩
  case round =>
    obtain ⟨k, hk, rfl, rfl, hur, ho⟩ := hrel
    replace hy := (hur.block (row3 hy).2.2.2).trans hy
    replace hz := (hur.block (row6 hz).2.2.2.2.2.2).trans hz
    by_cases hlt : k < l.length
    rotate_left
    · have hkl : l.take k = l := List.take_of_length_le (by omega)
      rw [hkl] at ho ⊢
      have hlm : (l.map (upd (p', o', f') s' t)).length = l.length := List.length_map _
      cases hsm : l.any (isSame (p', o', f') t)
      · by_cases hfull : 400 ≤ l.length
        · have e3 : pe = 8 := by rw [HPE.out, hsm, if_pos hfull]; rfl
          subst e3
          have e4 : Hid (pr = []) := HPR.out.symm.trans (if_neg (by decide))
          have hl4 : (400 : Int) ≤ (l.length : Int) := by omega
          replace hur := hu.call hur
          clear ho hy hz hsm hkl HPR HPE HGD HG HW hlm
          go_wp2_with fail
          go_ret2
          exact ⟨_, rfl, by rw [e4.out]; exact Sl.nil _ _ _, hur⟩
        · have e3 : pe = 0 := by rw [HPE.out, hsm, if_neg hfull]; rfl
          subst e3
          have hR : pr = ins (fresh (p', o', f') s' t) (l.map (upd (p', o', f') s' t)) := by
            rw [← HPR.out, if_pos rfl]; unfold putR; rw [hsm]; rfl
          have hgd := HGD.out rfl
          have hwm : ∀ e ∈ l.map (upd (p', o', f') s' t), e.wf := fun e he => by
            obtain ⟨x, hx, rfl⟩ := List.mem_map.1 he
            unfold El.wf; rw [upd_m]; exact HG.out.wf x hx
          have hwf2 : Hid (El.wf (fresh (p', o', f') s' t)) := ht0
          obtain ⟨A9, c9, hv9, _, _, hL9⟩ := ho.out.lies hwm
          rw [hlm] at hv9
          subst hv9
          have hl4 : ¬ ((400 : Int) ≤ (l.length : Int)) := by omega
          have cS := sorted_any A9 c9 (l.map (upd (p', o', f') s' t)) p' o' f' t 0 s' wr (by rw [hlm]; exact hn4) hL9 hwf2.out
          rw [hlm] at cS
          have HR := Lib.hid hR
          obtain ⟨z0, z1, z2, z3, z4, z5, hzs⟩ := row6 hz
          replace hur := hu.call hur
          clear ho hy hz hsm hkl HPR HPE HGD HG HW hlm hR hgd hwm hL9 hfull
          go_wp2_with (go_at_call 76; refine cS.mono ?_; rintro e w9 ⟨v9, rfl, hS9, hb9⟩; have HS9 := Lib.hid hS9; replace hur := hur.call hb9; clear hS9 hb9)
          go_ret2
          exact ⟨_, rfl, by rw [HR.out]; exact HS9.out, hur⟩
      · have e3 : pe = 0 := by rw [HPE.out, hsm]; rfl
        subst e3
        have hR : pr = l.map (upd (p', o', f') s' t) := by
          rw [← HPR.out, if_pos rfl]; unfold putR; rw [hsm]; rfl
        have hwm : ∀ e ∈ l.map (upd (p', o', f') s' t), e.wf := fun e he => by
          obtain ⟨x, hx, rfl⟩ := List.mem_map.1 he
          unfold El.wf; rw [upd_m]; exact HG.out.wf x hx
        have HS := Lib.hid (ho.out.sl hwm)
        have HR := Lib.hid hR
        replace hur := hu.call hur
        clear ho hy hz hsm hkl HPR HPE HGD HG HW hlm hR hwm
        go_wp2_with fail
        go_ret2
        exact ⟨_, rfl, by rw [HR.out]; exact HS.out, hur⟩
    obtain ⟨b, q, p, o, f, m, g, s, rfl, hb, HE, hm, c0, c1, c2, c3, c4, c5⟩ := (hL.calm hur).get hlt
    have hmt := map_take HE.out (upd (p', o', f') s' t)
    have hat := any_take HE.out (isSame (p', o', f') t)
    have hlk : ((l.take k).map (upd (p', o', f') s' t)).length ≤ 400 := by rw [List.length_map, List.length_take]; omega
    replace hy := heap_past (.cells #[.int .i64 p, .int .i64 o, .int .i64 f, .int .i64 m, .int .i64 g, .string s] 43) hy
    replace hz := heap_past (.cells #[.int .i64 p, .int .i64 o, .int .i64 f, .int .i64 m, .int .i64 g, .string s] 43) hz
    obtain ⟨y0, y1, y2, hys⟩ := row3 hy
    clear HE hL HPR HGD HPE HG HW
    generalize (l.take k).map (upd (p', o', f') s' t) = pre at ho hmt hlk ⊢
    generalize (l.take k).any (isSame (p', o', f') t) = sm at hat ⊢
    by_cases hK : p = p' ∧ o = o' ∧ f = f'
    · obtain ⟨rfl, rfl, rfl⟩ := hK
      by_cases hg0 : g = 0
      · subst hg0
        by_cases hmt2 : m = t
        · subst hmt2
          have e1 : upd (p, o, f) s' m ⟨p, o, f, m, 0, s⟩ = ⟨p, o, f, m, 0, s'⟩ := by simp [upd, El.key]
          have e2 : isSame (p, o, f) m ⟨p, o, f, m, 0, s⟩ = true := by simp [isSame, El.key]
          rw [e1] at hmt
          rw [e2, Bool.or_true] at hat
          have HS := Lib.hid hmt
          have HA := Lib.hid hat
          clear e1 e2 hmt hat
          go_wp2_with (at_builtin; refine wpList_append_el rfl _ _ rfl _ _ _ rfl (ho.out.calm (((Calm.refl _).alloc _).alloc _)) _ _ p o f m 0 s' _ rfl (heap_alloc2_new _ _ _) (by omega) (by have := hur.size; simp; omega) ?_; intro v' w9 ho9 hc9)
          rw [← HS.out] at ho9
          have HO9 := Lib.hid ho9
          have hur9 := hc9 _ (Nat.le_refl _) ((hur.alloc _).alloc _)
          clear ho9 hc9 HS
          go_roundw
          case rel => exact ⟨k + 1, by omega, by go_num, by rw [HA.out], hur9, HO9⟩
          case measure => simp [intOf]; omega
        · have e1 : upd (p, o, f) s' t ⟨p, o, f, m, 0, s⟩ = ⟨p, o, f, m, t, s⟩ := by simp [upd, El.key, hmt2]
          have e2 : isSame (p, o, f) t ⟨p, o, f, m, 0, s⟩ = false := by simp [isSame, El.key, hmt2]
          rw [e1] at hmt
          rw [e2, Bool.or_false] at hat
          have HS := Lib.hid hmt
          have HA := Lib.hid hat
          clear e1 e2 hmt hat
          go_wp2_with (at_builtin; refine wpList_append_el rfl _ _ rfl _ _ _ rfl (ho.out.calm (((Calm.refl _).alloc _).alloc _)) _ _ p o f m t s _ rfl (heap_alloc2_new _ _ _) (by omega) (by have := hur.size; simp; omega) ?_; intro v' w9 ho9 hc9)
          rw [← HS.out] at ho9
          have HO9 := Lib.hid ho9
          have hur9 := hc9 _ (Nat.le_refl _) ((hur.alloc _).alloc _)
          clear ho9 hc9 HS
          go_roundw
          case rel => exact ⟨k + 1, by omega, by go_num, by rw [HA.out], hur9, HO9⟩
          case measure => simp [intOf]; omega
      · have e1 : upd (p, o, f) s' t ⟨p, o, f, m, g, s⟩ = ⟨p, o, f, m, g, s⟩ := by simp [upd, El.key, hg0]
        have e2 : isSame (p, o, f) t ⟨p, o, f, m, g, s⟩ = false := by simp [isSame, El.key, hg0]
        rw [e1] at hmt
        rw [e2, Bool.or_false] at hat
        have HS := Lib.hid hmt
        have HA := Lib.hid hat
        clear e1 e2 hmt hat
        go_wp2_with (at_builtin; refine wpList_append_el rfl _ _ rfl _ _ _ rfl (ho.out.calm (((Calm.refl _).alloc _).alloc _)) _ _ p o f m g s _ rfl (heap_alloc2_new _ _ _) (by omega) (by have := hur.size; simp; omega) ?_; intro v' w9 ho9 hc9)
        rw [← HS.out] at ho9
        have HO9 := Lib.hid ho9
        have hur9 := hc9 _ (Nat.le_refl _) ((hur.alloc _).alloc _)
        clear ho9 hc9 HS
        go_roundw
        case rel => exact ⟨k + 1, by omega, by go_num, by rw [HA.out], hur9, HO9⟩
        case measure => simp [intOf]; omega
    · have e1 : upd (p', o', f') s' t ⟨p, o, f, m, g, s⟩ = ⟨p, o, f, m, g, s⟩ := by
        unfold upd; rw [if_neg (fun h => hK (by simpa [El.key] using h.1))]
      have e2 : isSame (p', o', f') t ⟨p, o, f, m, g, s⟩ = false := by
        unfold isSame; rw [decide_eq_false_iff_not]; exact fun h => hK (by simpa [El.key] using h.1)
      rw [e1] at hmt
      rw [e2, Bool.or_false] at hat
      have HS := Lib.hid hmt
      have HA := Lib.hid hat
      have h3 : ¬ p = p' ∨ (p = p' ∧ ¬ o = o') ∨ (p = p' ∧ o = o' ∧ ¬ f = f') := by omega
      clear e1 e2 hmt hat hK
      rcases h3 with h3 | ⟨h3, h4⟩ | ⟨h3, h4, h5⟩
      · go_wp2_with (at_builtin; refine wpList_append_el rfl _ _ rfl _ _ _ rfl (ho.out.calm (((Calm.refl _).alloc _).alloc _)) _ _ p o f m g s _ rfl (heap_alloc2_new _ _ _) (by omega) (by have := hur.size; simp; omega) ?_; intro v' w9 ho9 hc9)
        rw [← HS.out] at ho9
        have HO9 := Lib.hid ho9
        have hur9 := hc9 _ (Nat.le_refl _) ((hur.alloc _).alloc _)
        clear ho9 hc9 HS
        go_roundw
        case rel => exact ⟨k + 1, by omega, by go_num, by rw [HA.out], hur9, HO9⟩
        case measure => simp [intOf]; omega
      · subst h3
        go_wp2_with (at_builtin; refine wpList_append_el rfl _ _ rfl _ _ _ rfl (ho.out.calm (((Calm.refl _).alloc _).alloc _)) _ _ p o f m g s _ rfl (heap_alloc2_new _ _ _) (by omega) (by have := hur.size; simp; omega) ?_; intro v' w9 ho9 hc9)
        rw [← HS.out] at ho9
        have HO9 := Lib.hid ho9
        have hur9 := hc9 _ (Nat.le_refl _) ((hur.alloc _).alloc _)
        clear ho9 hc9 HS
        go_roundw
        case rel => exact ⟨k + 1, by omega, by go_num, by rw [HA.out], hur9, HO9⟩
        case measure => simp [intOf]; omega
      · subst h3
        subst h4
        go_wp2_with (at_builtin; refine wpList_append_el rfl _ _ rfl _ _ _ rfl (ho.out.calm (((Calm.refl _).alloc _).alloc _)) _ _ p o f m g s _ rfl (heap_alloc2_new _ _ _) (by omega) (by have := hur.size; simp; omega) ?_; intro v' w9 ho9 hc9)
        rw [← HS.out] at ho9
        have HO9 := Lib.hid ho9
        have hur9 := hc9 _ (Nat.le_refl _) ((hur.alloc _).alloc _)
        clear ho9 hc9 HS
        go_roundw
        case rel => exact ⟨k + 1, by omega, by go_num, by rw [HA.out], hur9, HO9⟩
        case measure => simp [intOf]; omega
open Go.RowKit
theorem cut_take {l : List El} {k : Nat} {e : El} (h : l[k]? = some e) (q : El → Option El) : (l.take (k + 1)).filterMap q = (l.take k).filterMap q ++ (match q e with | some x => [x] | none => []) := by
 rw [take_snoc3 h, List.filterMap_append]
 congr 1
 rw [List.filterMap_cons]
 cases q e <;> rfl
theorem cutStep_mem {l : List El} {k : Int × Int × Int} {t : Int} {e : El} (h : e ∈ l.filterMap (cutStep k t)) : ∃ x ∈ l, x.m = e.m := by
 obtain ⟨x, hx, h2⟩ := List.mem_filterMap.1 h
 refine ⟨x, hx, ?_⟩
 unfold cutStep at h2
 split at h2
 ·split at h2
  ·cases h2
  ·injection h2 with h2; subst h2; rfl
 ·injection h2 with h2; subst h2; rfl
set_option maxHeartbeats 16000000 in
theorem refCut_any (A : Option Addr) (d : Nat) (l : List El) (p' o' f' : Int) (t : Int) (w : World) (hn : l.length ≤ 9223372036854775807) (hL : Lies w A l) :
    Calls Try.prog 53 #[.slice A l.length d, .agg #[.int .i64 p', .int .i64 o', .int .i64 f'], .int .i64 t] w (SlEnd (if cutErr l (p', o', f') t = 0 then cutR l (p', o', f') t else []) (cutErr l (p', o', f') t) w) := by
  have hy := heap_new w (.cells #[.int .i64 p', .int .i64 o', .int .i64 f'] 31)
  have hu := (Calm.refl w).alloc (.cells #[.int .i64 p', .int .i64 o', .int .i64 f'] 31)
  have cR : ∀ u, Calm w u → Calls Try.prog 13 #[.slice A l.length d] u fun e w' => e = .returned (.int .i64 (runErr l)) ∧ Calm u w' := fun u hu => refRun_any A d l u hn (hL.calm hu)
  have cE := refKey_any p' o' f'
  have cT : ∀ u, Calm w u → Calls Try.prog 51 #[.slice A l.length d] u fun e w' => e = .returned (.int .i64 (latest l)) ∧ Calm u w' := fun u hu => refLatest_any A d l u hn (hL.calm hu)
  have hxe : (fresh (p', o', f') { data := #[] } t).err = elemErr p' o' f' t 0 0 := rfl
  by_cases he : runErr l = 0
  rotate_left
  · have e1 : cutErr l (p', o', f') t = runErr l := by simp [cutErr, wrErr, he]
    rw [e1, if_neg he]
    have b1 : (runErr l != 0) = true := by simpa using he
    clear he e1 hL
    go_enter Try.func53, Try.ntmps53
    go_wp2_with (go_at_call 13; refine (cR _ hu).mono ?_; rintro e w1 ⟨rfl, hb1⟩; replace hy := (hb1.block (row3 hy).2.2.2).trans hy; replace hu := hu.call hb1; clear hb1; obtain ⟨y0, y1, y2, hys⟩ := row3 hy)
    go_ret2
    exact ⟨_, rfl, Sl.nil _ _ _, hu⟩
  have hG := runErr_zero.1 he
  rw [he] at cR
  by_cases h2 : keyErr p' o' f' = 0
  rotate_left
  · have e1 : cutErr l (p', o', f') t = keyErr p' o' f' := by
      have h3 : elemErr p' o' f' t 0 0 = keyErr p' o' f' := elemErr_key h2
      simp [cutErr, wrErr, he, hxe, h3, h2]
    rw [e1, if_neg h2]
    have b1 : (keyErr p' o' f' != 0) = true := by simpa using h2
    clear he e1 hL hxe h2 hG
    go_enter Try.func53, Try.ntmps53
    go_wp2_with (first
      | (go_at_call 13; refine (cR _ hu).mono ?_; rintro e w1 ⟨rfl, hb1⟩; replace hy := (hb1.block (row3 hy).2.2.2).trans hy; replace hu := hu.call hb1; clear hb1; obtain ⟨y0, y1, y2, hys⟩ := row3 hy)
      | (go_at_call 35; refine (cE _).mono ?_; rintro e w1 ⟨rfl, hb1⟩; replace hy := (hb1.block (row3 hy).2.2.2).trans hy; replace hu := hu.call hb1; clear hb1; obtain ⟨y0, y1, y2, hys⟩ := row3 hy))
    go_ret2
    exact ⟨_, rfl, Sl.nil _ _ _, hu⟩
  rw [h2] at cE
  by_cases h3 : 1 ≤ t ∧ t ≤ 2147483647
  rotate_left
  · have e1 : cutErr l (p', o', f') t = 9 := by
      have h4 : elemErr p' o' f' t 0 0 = 9 := elemErr_time h2 (by unfold timeOk; omega)
      simp [cutErr, wrErr, he, hxe, h4]
    rw [e1, if_neg (by decide)]
    have h5 : t < 1 ∨ (1 ≤ t ∧ 2147483647 < t) := by omega
    clear he e1 hL hxe h2 hG h3
    rcases h5 with h5 | ⟨h5, h6⟩
    all_goals
      go_enter Try.func53, Try.ntmps53
      go_wp2_with (first
        | (go_at_call 13; refine (cR _ hu).mono ?_; rintro e w1 ⟨rfl, hb1⟩; replace hy := (hb1.block (row3 hy).2.2.2).trans hy; replace hu := hu.call hb1; clear hb1; obtain ⟨y0, y1, y2, hys⟩ := row3 hy)
        | (go_at_call 35; refine (cE _).mono ?_; rintro e w1 ⟨rfl, hb1⟩; replace hy := (hb1.block (row3 hy).2.2.2).trans hy; replace hu := hu.call hb1; clear hb1; obtain ⟨y0, y1, y2, hys⟩ := row3 hy))
      go_ret2
      exact ⟨_, rfl, Sl.nil _ _ _, hu⟩
  obtain ⟨h3, h4⟩ := h3
  have hxz : elemErr p' o' f' t 0 0 = 0 := elemErr_ok h2 (by unfold timeOk; omega) (by omega)
  by_cases h5 : t < latest l
  · have e1 : cutErr l (p', o', f') t = 9 := by
      have : (fresh (p', o', f') { data := #[] } t).m = t := rfl
      simp [cutErr, wrErr, he, hxe, hxz, this, h5]
    rw [e1, if_neg (by decide)]
    generalize latest l = t1 at cT h5
    clear he e1 hL hxe h2 hG hxz
    go_enter Try.func53, Try.ntmps53
    go_wp2_with (first
      | (go_at_call 13; refine (cR _ hu).mono ?_; rintro e w1 ⟨rfl, hb1⟩; replace hy := (hb1.block (row3 hy).2.2.2).trans hy; replace hu := hu.call hb1; clear hb1; obtain ⟨y0, y1, y2, hys⟩ := row3 hy)
      | (go_at_call 35; refine (cE _).mono ?_; rintro e w1 ⟨rfl, hb1⟩; replace hy := (hb1.block (row3 hy).2.2.2).trans hy; replace hu := hu.call hb1; clear hb1; obtain ⟨y0, y1, y2, hys⟩ := row3 hy)
      | (go_at_call 51; refine (cT _ hu).mono ?_; rintro e w1 ⟨rfl, hb1⟩; replace hy := (hb1.block (row3 hy).2.2.2).trans hy; replace hu := hu.call hb1; clear hb1; obtain ⟨y0, y1, y2, hys⟩ := row3 hy))
    go_ret2
    exact ⟨_, rfl, Sl.nil _ _ _, hu⟩
  have hw : wrErr l (fresh (p', o', f') { data := #[] } t) = 0 := wrErr_zero.2 ⟨hG, by rw [hxe]; exact hxz, by show latest l ≤ t; omega⟩
  have hpe : cutErr l (p', o', f') t = if l.any (isOpen (p', o', f')) then 0 else 4 := by unfold cutErr; rw [if_pos hw]
  have hn4 := hG.1
  have HG := Lib.hid hG
  generalize latest l = t1 at cT h5
  clear he h2 hw hG hxe hxz
  generalize hPE : cutErr l (p', o', f') t = pe at hpe ⊢
  generalize hPR : (if pe = 0 then cutR l (p', o', f') t else []) = pr
  have HPR := Lib.hid hPR
  have HPE := Lib.hid hpe
  clear hPE hPR hpe
  go_enter Try.func53, Try.ntmps53
  go_wp2_with (first
    | (go_at_call 13; refine (cR _ hu).mono ?_; rintro e w1 ⟨rfl, hb1⟩; replace hy := (hb1.block (row3 hy).2.2.2).trans hy; replace hu := hu.call hb1; clear hb1; obtain ⟨y0, y1, y2, hys⟩ := row3 hy; clear cR)
    | (go_at_call 35; refine (cE _).mono ?_; rintro e w1 ⟨rfl, hb1⟩; replace hy := (hb1.block (row3 hy).2.2.2).trans hy; replace hu := hu.call hb1; clear hb1; obtain ⟨y0, y1, y2, hys⟩ := row3 hy; clear cE)
    | (go_at_call 51; refine (cT _ hu).mono ?_; rintro e w1 ⟨rfl, hb1⟩; replace hy := (hb1.block (row3 hy).2.2.2).trans hy; replace hu := hu.call hb1; clear hb1; obtain ⟨y0, y1, y2, hys⟩ := row3 hy; clear cT))
  replace hL := hL.calm hu
  clear y0 y1 y2 hys h5
  obtain ⟨w3, hw3⟩ : ∃ w3 : World, w3 = w1 := ⟨_, rfl⟩
  subst hw3
  go_loopw [10, 11, 38] (fun v b i wr => ∃ k : Nat, k ≤ l.length ∧ i = .int .i64 k ∧ b = .bool ((l.take k).any (isOpen (p', o', f'))) ∧ Calm w3 wr ∧ Hid (OwnR w3.heap.size wr v ((l.take k).filterMap (cutStep (p', o', f') t)))) (fun _ _ i _ => l.length - (intOf i).toNat)
  case atStart => exact ⟨0, Nat.zero_le _, rfl, rfl, Calm.refl _, show OwnR _ _ _ _ from OwnR.nil _ _⟩
  case round =>
    obtain ⟨k, hk, rfl, rfl, hur, ho⟩ := hrel
    replace hy := (hur.block (row3 hy).2.2.2).trans hy
    by_cases hlt : k < l.length
    rotate_left
    · have hkl : l.take k = l := List.take_of_length_le (by omega)
      rw [hkl] at ho ⊢
      cases hsm : l.any (isOpen (p', o', f'))
      · have e3 : pe = 4 := by rw [HPE.out, hsm]; rfl
        subst e3
        have e4 : Hid (pr = []) := HPR.out.symm.trans (if_neg (by decide))
        replace hur := hu.call hur
        clear ho hy hsm hkl HPR HPE HG
        go_wp2_with fail
        go_ret2
        exact ⟨_, rfl, by rw [e4.out]; exact Sl.nil _ _ _, hur⟩
      · have e3 : pe = 0 := by rw [HPE.out, hsm]; rfl
        subst e3
        have hR : pr = l.filterMap (cutStep (p', o', f') t) := by rw [← HPR.out, if_pos rfl]; rfl
        have hwm : ∀ e ∈ l.filterMap (cutStep (p', o', f') t), e.wf := fun e he => by
          obtain ⟨x, hx, h9⟩ := cutStep_mem he
          unfold El.wf; rw [← h9]; exact HG.out.wf x hx
        have HS := Lib.hid (ho.out.sl hwm)
        have HR := Lib.hid hR
        replace hur := hu.call hur
        clear ho hy hsm hkl HPR HPE HG hR hwm
        go_wp2_with fail
        go_ret2
        exact ⟨_, rfl, by rw [HR.out]; exact HS.out, hur⟩
    obtain ⟨b, q, p, o, f, m, g, s, rfl, hb, HE, hm, c0, c1, c2, c3, c4, c5⟩ := (hL.calm hur).get hlt
    have hmt := cut_take HE.out (cutStep (p', o', f') t)
    have hat := any_take HE.out (isOpen (p', o', f'))
    have hlk : ((l.take k).filterMap (cutStep (p', o', f') t)).length ≤ 400 := Nat.le_trans (List.length_filterMap_le _ _) (by rw [List.length_take]; omega)
    replace hy := heap_past (.cells #[.int .i64 p, .int .i64 o, .int .i64 f, .int .i64 m, .int .i64 g, .string s] 43) hy
    obtain ⟨y0, y1, y2, hys⟩ := row3 hy
    clear HE hL HPR HPE HG
    generalize (l.take k).filterMap (cutStep (p', o', f') t) = pre at ho hmt hlk ⊢
    generalize (l.take k).any (isOpen (p', o', f')) = sm at hat ⊢
    by_cases hK : p = p' ∧ o = o' ∧ f = f'
    · obtain ⟨rfl, rfl, rfl⟩ := hK
      by_cases hg0 : g = 0
      · subst hg0
        have e2 : isOpen (p, o, f) ⟨p, o, f, m, 0, s⟩ = true := by simp [isOpen, El.key]
        rw [e2, Bool.or_true] at hat
        have HA := Lib.hid hat
        by_cases hmt2 : m = t
        · subst hmt2
          have e1 : cutStep (p, o, f) m ⟨p, o, f, m, 0, s⟩ = none := by simp [cutStep, El.key]
          rw [e1, List.append_nil] at hmt
          have ho8 := ho.out.calm ((Calm.refl wr).alloc (.cells #[.int .i64 p, .int .i64 o, .int .i64 f, .int .i64 m, .int .i64 0, .string s] 43))
          rw [← hmt] at ho8
          have HO9 := Lib.hid ho8
          clear ho8
          clear e1 e2 hmt hat ho
          go_wp2_with fail
          go_roundw
          case rel => exact ⟨k + 1, by omega, by go_num, by rw [HA.out], hur.alloc _, HO9⟩
          case measure => simp [intOf]; omega
        · have e1 : cutStep (p, o, f) t ⟨p, o, f, m, 0, s⟩ = some ⟨p, o, f, m, t, s⟩ := by simp [cutStep, El.key, hmt2]
          rw [e1] at hmt
          have HS := Lib.hid hmt
          clear e1 e2 hmt hat
          go_wp2_with (at_builtin; refine wpList_append_el rfl _ _ rfl _ _ _ rfl (ho.out.calm (((Calm.refl _).alloc _).alloc _)) _ _ p o f m t s _ rfl (heap_alloc2_new _ _ _) (by omega) (by have := hur.size; simp; omega) ?_; intro v' w9 ho9 hc9)
          rw [← HS.out] at ho9
          have HO9 := Lib.hid ho9
          have hur9 := hc9 _ (Nat.le_refl _) ((hur.alloc _).alloc _)
          clear ho9 hc9 HS
          go_roundw
          case rel => exact ⟨k + 1, by omega, by go_num, by rw [HA.out], hur9, HO9⟩
          case measure => simp [intOf]; omega
      · have e1 : cutStep (p, o, f) t ⟨p, o, f, m, g, s⟩ = some ⟨p, o, f, m, g, s⟩ := by simp [cutStep, El.key, hg0]
        have e2 : isOpen (p, o, f) ⟨p, o, f, m, g, s⟩ = false := by simp [isOpen, El.key, hg0]
        rw [e1] at hmt
        rw [e2, Bool.or_false] at hat
        have HS := Lib.hid hmt
        have HA := Lib.hid hat
        clear e1 e2 hmt hat
        go_wp2_with (at_builtin; refine wpList_append_el rfl _ _ rfl _ _ _ rfl (ho.out.calm (((Calm.refl _).alloc _).alloc _)) _ _ p o f m g s _ rfl (heap_alloc2_new _ _ _) (by omega) (by have := hur.size; simp; omega) ?_; intro v' w9 ho9 hc9)
        rw [← HS.out] at ho9
        have HO9 := Lib.hid ho9
        have hur9 := hc9 _ (Nat.le_refl _) ((hur.alloc _).alloc _)
        clear ho9 hc9 HS
        go_roundw
        case rel => exact ⟨k + 1, by omega, by go_num, by rw [HA.out], hur9, HO9⟩
        case measure => simp [intOf]; omega
    · have e1 : cutStep (p', o', f') t ⟨p, o, f, m, g, s⟩ = some ⟨p, o, f, m, g, s⟩ := by
        unfold cutStep; rw [if_neg (fun h => hK (by simpa [El.key] using h.1))]
      have e2 : isOpen (p', o', f') ⟨p, o, f, m, g, s⟩ = false := by
        unfold isOpen; rw [decide_eq_false_iff_not]; exact fun h => hK (by simpa [El.key] using h.1)
      rw [e1] at hmt
      rw [e2, Bool.or_false] at hat
      have HS := Lib.hid hmt
      have HA := Lib.hid hat
      have h3 : ¬ p = p' ∨ (p = p' ∧ ¬ o = o') ∨ (p = p' ∧ o = o' ∧ ¬ f = f') := by omega
      clear e1 e2 hmt hat hK
      rcases h3 with h3 | ⟨h3, h4⟩ | ⟨h3, h4, h5⟩
      · go_wp2_with (at_builtin; refine wpList_append_el rfl _ _ rfl _ _ _ rfl (ho.out.calm (((Calm.refl _).alloc _).alloc _)) _ _ p o f m g s _ rfl (heap_alloc2_new _ _ _) (by omega) (by have := hur.size; simp; omega) ?_; intro v' w9 ho9 hc9)
        rw [← HS.out] at ho9
        have HO9 := Lib.hid ho9
        have hur9 := hc9 _ (Nat.le_refl _) ((hur.alloc _).alloc _)
        clear ho9 hc9 HS
        go_roundw
        case rel => exact ⟨k + 1, by omega, by go_num, by rw [HA.out], hur9, HO9⟩
        case measure => simp [intOf]; omega
      · subst h3
        go_wp2_with (at_builtin; refine wpList_append_el rfl _ _ rfl _ _ _ rfl (ho.out.calm (((Calm.refl _).alloc _).alloc _)) _ _ p o f m g s _ rfl (heap_alloc2_new _ _ _) (by omega) (by have := hur.size; simp; omega) ?_; intro v' w9 ho9 hc9)
        rw [← HS.out] at ho9
        have HO9 := Lib.hid ho9
        have hur9 := hc9 _ (Nat.le_refl _) ((hur.alloc _).alloc _)
        clear ho9 hc9 HS
        go_roundw
        case rel => exact ⟨k + 1, by omega, by go_num, by rw [HA.out], hur9, HO9⟩
        case measure => simp [intOf]; omega
      · subst h3
        subst h4
        go_wp2_with (at_builtin; refine wpList_append_el rfl _ _ rfl _ _ _ rfl (ho.out.calm (((Calm.refl _).alloc _).alloc _)) _ _ p o f m g s _ rfl (heap_alloc2_new _ _ _) (by omega) (by have := hur.size; simp; omega) ?_; intro v' w9 ho9 hc9)
        rw [← HS.out] at ho9
        have HO9 := Lib.hid ho9
        have hur9 := hc9 _ (Nat.le_refl _) ((hur.alloc _).alloc _)
        clear ho9 hc9 HS
        go_roundw
        case rel => exact ⟨k + 1, by omega, by go_num, by rw [HA.out], hur9, HO9⟩
        case measure => simp [intOf]; omega
open Go.ChangeShapes Go.WideShapes Go.ChangeAt Go.RowKit
set_option maxHeartbeats 16000000 in
theorem refDo_any (A B : Option Addr) (cA cB : Nat) (l : List El) (c : List Chg) (t : Int) (w : World) (hn : l.length ≤ 9223372036854775807) (hL : Lies w A l) (hm : c.length ≤ 9223372036854775807) (hC : LiesC w B c) :
    Calls Try.prog 22 #[.slice A l.length cA, .slice B c.length cB, .int .i64 t] w (SlEnd (doL l c t) (doErr l c t) w) := by
  have kR := fun u (hu : Calm w u) => refRun_any A cA l u hn (hL.calm hu)
  have kC := fun u (hu : Calm w u) => refChanges_any B cB c u hm (hC.calm hu)
  have kL := fun u (hu : Calm w u) => refLatest_any A cA l u hn (hL.calm hu)
  have hu := Calm.refl w
  unfold doL
  by_cases h1 : runErr l = 0
  rotate_left
  · have e1 : doErr l c t = runErr l := by unfold doErr; rw [if_neg h1]
    rw [e1, if_neg h1]
    have b1 : (runErr l != 0) = true := by simpa using h1
    generalize runErr l = E at *
    generalize latest l = L at kL
    clear e1 h1 hL hC kC
    go_enter Try.func22, Try.ntmps22
    go_wp2_with (first
      | (go_at_call 13; (with_reducible refine (kR _ hu).mono ?_); rintro e w1 ⟨rfl, hb⟩; replace hu := hu.call hb; clear hb kR)
      | (go_at_call 16; (with_reducible refine (kC _ hu).mono ?_); rintro e w1 ⟨rfl, hb⟩; replace hu := hu.call hb; clear hb kC)
      | (go_at_call 51; (with_reducible refine (kL _ hu).mono ?_); rintro e w1 ⟨rfl, hb⟩; replace hu := hu.call hb; clear hb kL))
    go_ret2
    exact ⟨_, rfl, Sl.nil _ _ _, hu⟩
  rw [h1] at kR
  by_cases h2 : chErr c = 0
  rotate_left
  · have e1 : doErr l c t = chErr c := by unfold doErr; rw [if_pos h1, if_neg h2]
    rw [e1, if_neg h2]
    have b1 : (chErr c != 0) = true := by simpa using h2
    generalize chErr c = E at *
    generalize latest l = L at kL
    clear e1 h1 h2 hL hC
    go_enter Try.func22, Try.ntmps22
    go_wp2_with (first
      | (go_at_call 13; (with_reducible refine (kR _ hu).mono ?_); rintro e w1 ⟨rfl, hb⟩; replace hu := hu.call hb; clear hb kR)
      | (go_at_call 16; (with_reducible refine (kC _ hu).mono ?_); rintro e w1 ⟨rfl, hb⟩; replace hu := hu.call hb; clear hb kC)
      | (go_at_call 51; (with_reducible refine (kL _ hu).mono ?_); rintro e w1 ⟨rfl, hb⟩; replace hu := hu.call hb; clear hb kL))
    go_ret2
    exact ⟨_, rfl, Sl.nil _ _ _, hu⟩
  rw [h2] at kC
  have hG := runErr_zero.1 h1
  have hGC := chErr_zero.1 h2
  by_cases h3 : t < 1 ∨ t < latest l ∨ 2147483647 < t
  · have e1 : doErr l c t = 9 := by unfold doErr; rw [if_pos h1, if_pos h2, if_pos h3]
    rw [e1, if_neg (by decide)]
    generalize latest l = L at *
    clear e1 h1 h2 hL hC hG hGC
    by_cases ha : t < 1
    · clear h3
      go_enter Try.func22, Try.ntmps22
      go_wp2_with (first
        | (go_at_call 13; (with_reducible refine (kR _ hu).mono ?_); rintro e w1 ⟨rfl, hb⟩; replace hu := hu.call hb; clear hb kR)
        | (go_at_call 16; (with_reducible refine (kC _ hu).mono ?_); rintro e w1 ⟨rfl, hb⟩; replace hu := hu.call hb; clear hb kC)
        | (go_at_call 51; (with_reducible refine (kL _ hu).mono ?_); rintro e w1 ⟨rfl, hb⟩; replace hu := hu.call hb; clear hb kL))
      go_ret2
      exact ⟨_, rfl, Sl.nil _ _ _, hu⟩
    · by_cases hb : 2147483647 < t
      · clear h3
        go_enter Try.func22, Try.ntmps22
        go_wp2_with (first
          | (go_at_call 13; (with_reducible refine (kR _ hu).mono ?_); rintro e w1 ⟨rfl, hb⟩; replace hu := hu.call hb; clear hb kR)
          | (go_at_call 16; (with_reducible refine (kC _ hu).mono ?_); rintro e w1 ⟨rfl, hb⟩; replace hu := hu.call hb; clear hb kC)
          | (go_at_call 51; (with_reducible refine (kL _ hu).mono ?_); rintro e w1 ⟨rfl, hb⟩; replace hu := hu.call hb; clear hb kL))
        go_ret2
        exact ⟨_, rfl, Sl.nil _ _ _, hu⟩
      · have hc : t < L := by omega
        clear h3
        go_enter Try.func22, Try.ntmps22
        go_wp2_with (first
          | (go_at_call 13; (with_reducible refine (kR _ hu).mono ?_); rintro e w1 ⟨rfl, hb⟩; replace hu := hu.call hb; clear hb kR)
          | (go_at_call 16; (with_reducible refine (kC _ hu).mono ?_); rintro e w1 ⟨rfl, hb⟩; replace hu := hu.call hb; clear hb kC)
          | (go_at_call 51; (with_reducible refine (kL _ hu).mono ?_); rintro e w1 ⟨rfl, hb⟩; replace hu := hu.call hb; clear hb kL))
        go_ret2
        exact ⟨_, rfl, Sl.nil _ _ _, hu⟩
  have hd : doErr l c t = if c.any (offB l) then 1 else (goL l c t).2 := by unfold doErr; rw [if_pos h1, if_pos h2, if_neg h3]
  generalize hE : doErr l c t = E at *
  have HE := Lib.hid hd
  have kU := fun p o f u (hu : Calm w u) => refAt_any A cA l p o f 2147483647 u hn (hL.calm hu)
  unfold RefAtEnd at kU
  have t1 : 1 ≤ t := by omega
  have t2 : latest l ≤ t := by omega
  have t3 : t ≤ 2147483647 := by omega
  have hSl := Lib.hid (⟨A, cA, rfl, hn, hL⟩ : Sl w (.slice A l.length cA) l)
  generalize latest l = L at *
  clear hd hE h1 h2 h3 hG hGC hL
  generalize hLL : (if E = 0 then (goL l c t).1 else []) = LL
  have HLL := Lib.hid hLL
  clear hLL
  go_enter Try.func22, Try.ntmps22
  go_upto_region 9 with (first
    | (go_at_call 13; (with_reducible refine (kR _ hu).mono ?_); rintro e w1 ⟨rfl, hb⟩; replace hu := hu.call hb; clear hb kR)
    | (go_at_call 16; (with_reducible refine (kC _ hu).mono ?_); rintro e w1 ⟨rfl, hb⟩; replace hu := hu.call hb; clear hb kC)
    | (go_at_call 51; (with_reducible refine (kL _ hu).mono ?_); rintro e w1 ⟨rfl, hb⟩; replace hu := hu.call hb; clear hb kL))
  clear t2 t3
  go_wp2_with fail
  go_loopw [41] (fun i wr => ∃ k : Nat, k ≤ c.length ∧ i = .int .i64 k ∧ Calm w wr ∧ Hid (∀ j, j < k → (c[j]?).map (offB l) = some false)) (fun i _ => c.length - (intOf i).toNat)
  case atStart => exact ⟨0, Nat.zero_le _, rfl, hu, show ∀ _, _ from fun j h => absurd h (Nat.not_lt_zero _)⟩
  case round =>
    obtain ⟨k, hk, rfl, hv, HN⟩ := hrel
    clear hu
    by_cases hlt : k < c.length
    rotate_left
    · have hkl : k = c.length := by omega
      have hany : c.any (offB l) = false := any_off (by rw [← hkl]; exact HN.out)
      have HE2 : Hid ((goL l c t).2 = E) := by show _ = _; have := HE.out; rw [hany] at this; simpa using this.symm
      clear HN hany hkl kU HE
      have HS5 := Lib.hid (Sl.calm hSl.out hv)
      clear hSl
      have hv5 := hv
      clear hv
      go_wp2_with fail
      clear hk hlt
      go_loopw [0, 14, 66] (fun v er i wr => ∃ (k : Nat) (M : List El), k ≤ c.length ∧ i = .int .i64 k ∧ er = .int .i64 0 ∧ Calm w wr ∧ Hid (Sl wr v M) ∧ Hid (goL l c t = goL M (c.drop k) t)) (fun _ _ i _ => c.length - (intOf i).toNat)
      case atStart => exact ⟨0, l, Nat.zero_le _, rfl, rfl, hv5, HS5, show _ = _ from rfl⟩
      case round =>
        obtain ⟨k, M, hk, rfl, rfl, hv, HS, HK⟩ := hrel
        clear hv5 HS5
        by_cases hlt : k < c.length
        rotate_left
        · have e1 : Hid (goL l c t = (M, 0)) := by show _ = _; rw [HK.out, List.drop_of_length_le (by omega), goL]
          have e2 : Hid (E = 0) := by show _ = _; rw [← HE2.out, e1.out]
          clear HK HE2
          go_wp2_with fail
          go_ret2
          rw [← HLL.out, e2.out, if_pos rfl, e1.out]
          exact ⟨_, rfl, HS.out, hv⟩
        obtain ⟨b, q, p, o, f, hd, hs, ws, vs, rfl, hb, HX, c0, c1, c2, c3, c4, c5, c6⟩ := chg_get (hC.calm hv) hlt
        obtain ⟨AM, cM, rfl, hMl, hML⟩ := HS.out
        have hst := HK.out
        rw [go_step HX.out] at hst
        have hv1 := (Calm.refl wr).alloc (.cells #[.int .i64 p, .int .i64 o, .int .i64 f, .bool hd, .bool hs, .string ws, .string vs] 33 (0, 0))
        cases hs with
        | true =>
          have kP := fun u (hu : Calm wr u) => refPut_any AM cM M p o f vs t u hMl (by omega) (hML.calm hu)
          rw [show pfErr M ⟨p, o, f, hd, true, ws, vs⟩ t = putErr M (p, o, f) vs t from rfl, show pfL M ⟨p, o, f, hd, true, ws, vs⟩ t = putR M (p, o, f) vs t from rfl] at hst
          unfold SlEnd at kP
          clear HK HX HS hML hMl
          by_cases he : putErr M (p, o, f) vs t = 0
          · rw [if_pos he] at hst
            simp only [he, if_pos] at kP
            generalize putR M (p, o, f) vs t = M2 at kP hst
            have HST := Lib.hid hst
            clear hst he
            go_wp2_with (go_at_call 52; (with_reducible refine (kP _ hv1).mono ?_); rintro e w7 ⟨v7, rfl, hs7, hb7⟩; have HS7 := Lib.hid hs7; have hv7 := hv.call (hv1.call hb7); clear hs7 hb7 kP)
            go_roundw
            case rel => exact ⟨k + 1, M2, by omega, by go_num, rfl, hv7, HS7, HST⟩
            case measure => simp [intOf]; omega
          · rw [if_neg he] at hst
            simp only [if_neg he] at kP
            have b1 : (putErr M (p, o, f) vs t != 0) = true := by simpa using he
            have e2 : Hid (E = putErr M (p, o, f) vs t) := by show _ = _; rw [← HE2.out, hst]
            have e3 : Hid (¬ E = 0) := show ¬ _ from by rw [e2.out]; exact he
            generalize putErr M (p, o, f) vs t = F at kP b1 e2
            clear hst he HE2
            go_wp2_with (go_at_call 52; (with_reducible refine (kP _ hv1).mono ?_); rintro e w7 ⟨v7, rfl, hs7, hb7⟩; have HS7 := Lib.hid hs7; have hv7 := hv.call (hv1.call hb7); clear hs7 hb7 kP)
            go_ret2
            rw [← HLL.out, if_neg e3.out, e2.out]
            exact ⟨_, rfl, Sl.nil _ _ _, hv7⟩
        | false =>
          have kP := fun u (hu : Calm wr u) => refCut_any AM cM M p o f t u hMl (hML.calm hu)
          rw [show pfErr M ⟨p, o, f, hd, false, ws, vs⟩ t = cutErr M (p, o, f) t from rfl, show pfL M ⟨p, o, f, hd, false, ws, vs⟩ t = cutR M (p, o, f) t from rfl] at hst
          unfold SlEnd at kP
          clear HK HX HS hML hMl
          by_cases he : cutErr M (p, o, f) t = 0
          · rw [if_pos he] at hst
            simp only [he, if_pos] at kP
            generalize cutR M (p, o, f) t = M2 at kP hst
            have HST := Lib.hid hst
            clear hst he
            go_wp2_with (go_at_call 53; (with_reducible refine (kP _ hv1).mono ?_); rintro e w7 ⟨v7, rfl, hs7, hb7⟩; have HS7 := Lib.hid hs7; have hv7 := hv.call (hv1.call hb7); clear hs7 hb7 kP)
            go_roundw
            case rel => exact ⟨k + 1, M2, by omega, by go_num, rfl, hv7, HS7, HST⟩
            case measure => simp [intOf]; omega
          · rw [if_neg he] at hst
            simp only [if_neg he] at kP
            have b1 : (cutErr M (p, o, f) t != 0) = true := by simpa using he
            have e2 : Hid (E = cutErr M (p, o, f) t) := by show _ = _; rw [← HE2.out, hst]
            have e3 : Hid (¬ E = 0) := show ¬ _ from by rw [e2.out]; exact he
            generalize cutErr M (p, o, f) t = F at kP b1 e2
            clear hst he HE2
            go_wp2_with (go_at_call 53; (with_reducible refine (kP _ hv1).mono ?_); rintro e w7 ⟨v7, rfl, hs7, hb7⟩; have HS7 := Lib.hid hs7; have hv7 := hv.call (hv1.call hb7); clear hs7 hb7 kP)
            go_ret2
            rw [← HLL.out, if_neg e3.out, e2.out]
            exact ⟨_, rfl, Sl.nil _ _ _, hv7⟩
    obtain ⟨b, q, p, o, f, hd, hs, ws, vs, rfl, hb, HX, c0, c1, c2, c3, c4, c5, c6⟩ := chg_get (hC.calm hv) hlt
    have cU := fun u (hu : Calm w u) => kU p o f u hu
    have hoff : offB l ⟨p, o, f, hd, hs, ws, vs⟩ = decide ((⟨(atR l (p, o, f) 2147483647).isSome, ((atR l (p, o, f) 2147483647).getD zeroEl).s⟩ : St) ≠ ⟨hd, ws⟩) := by
      show decide (stA l (p, o, f) 2147483647 ≠ ⟨hd, ws⟩) = _
      unfold stA sV
      cases atR l (p, o, f) 2147483647 <;> rfl
    generalize (atR l (p, o, f) 2147483647).isSome = sb at cU hoff
    generalize (atR l (p, o, f) 2147483647).getD zeroEl = V at cU hoff
    obtain ⟨u1, u2, u3, u4, u5, sv⟩ := V
    unfold El.val at cU
    simp only at cU hoff
    have hv1 := hv.alloc (.cells #[.int .i64 p, .int .i64 o, .int .i64 f, .bool hd, .bool hs, .string ws, .string vs] 33 (0, 0))
    have hx := Lib.hid (heap_new wr (.cells #[.int .i64 p, .int .i64 o, .int .i64 f, .bool hd, .bool hs, .string ws, .string vs] 33 (0, 0)))
    by_cases e1 : St.mk sb sv = St.mk hd ws
    · rw [decide_eq_false (fun h => h e1)] at hoff
      have HN2 : Hid (∀ j, j < k + 1 → (c[j]?).map (offB l) = some false) := show ∀ _, _ from fun j hj => by
        rcases Nat.lt_or_ge j k with h | h
        · exact HN.out j h
        · rw [show j = k by omega, HX.out]; exact congrArg some hoff
      obtain ⟨rfl, rfl⟩ := St.ext_iff'.1 e1
      clear e1 hoff HN HX
      go_wp2_with (go_at_call 34; (with_reducible refine (cU _ hv1).mono ?_); rintro e w7 ⟨rfl, hb⟩; obtain ⟨x0, x1, x2, x3, x4, x5, x6, hxs⟩ := row7 ((hb.block (k := wr.heap.size) (by simp)).trans hx.out); have hv7 := (hv1.call hb).alloc (.cells #[.int .i64 u1, .int .i64 u2, .int .i64 u3, .int .i64 u4, .int .i64 u5, .string sv] 43 (0, 0)); clear hb cU hv1)
      go_roundw
      case rel => exact ⟨k + 1, by omega, by go_num, hv7, HN2⟩
      case measure => simp [intOf]; omega
    · rw [decide_eq_true (show St.mk sb sv ≠ St.mk hd ws from e1)] at hoff
      have HE2 : Hid (E = 1) := by
        have := HE.out
        rw [if_pos (List.any_eq_true.2 ⟨_, List.mem_of_getElem? HX.out, hoff⟩)] at this
        exact this
      have e2 : (sb == hd) = false ∨ sb = hd ∧ (sv.toList == ws.toList) = false := by
        by_cases q : sb = hd
        · exact .inr ⟨q, str_ne fun h => e1 (St.ext_iff'.2 ⟨q, h⟩)⟩
        · exact .inl (by simpa using q)
      clear e1 hoff HN HX HE
      rcases e2 with e2 | ⟨rfl, e2⟩
      · go_wp2_with (go_at_call 34; (with_reducible refine (cU _ hv1).mono ?_); rintro e w7 ⟨rfl, hb⟩; obtain ⟨x0, x1, x2, x3, x4, x5, x6, hxs⟩ := row7 ((hb.block (k := wr.heap.size) (by simp)).trans hx.out); have hv7 := (hv1.call hb).alloc (.cells #[.int .i64 u1, .int .i64 u2, .int .i64 u3, .int .i64 u4, .int .i64 u5, .string sv] 43 (0, 0)); clear hb cU hv1)
        go_ret2
        rw [← HLL.out, HE2.out, if_neg (by decide)]
        exact ⟨_, rfl, Sl.nil _ _ _, hv7⟩
      · go_wp2_with (go_at_call 34; (with_reducible refine (cU _ hv1).mono ?_); rintro e w7 ⟨rfl, hb⟩; obtain ⟨x0, x1, x2, x3, x4, x5, x6, hxs⟩ := row7 ((hb.block (k := wr.heap.size) (by simp)).trans hx.out); have hv7 := (hv1.call hb).alloc (.cells #[.int .i64 u1, .int .i64 u2, .int .i64 u3, .int .i64 u4, .int .i64 u5, .string sv] 43 (0, 0)); clear hb cU hv1)
        go_ret2
        rw [← HLL.out, HE2.out, if_neg (by decide)]
        exact ⟨_, rfl, Sl.nil _ _ _, hv7⟩
open Go.ChangeShapes Go.WideShapes Go.ChangeAt Go.RowKit
set_option maxHeartbeats 4000000 in
theorem changeDoes_walk (A : Option Addr) (d : Nat) (l : List El) (B : Option Addr) (cb : Nat) (c : List Chg) (t : Int) (w : World) (hn : l.length ≤ 9223372036854775807) (hm : c.length ≤ 9223372036854775807) (hL : Lies w A l) (hC : LiesC w B c) :
    Calls Try.prog 5 #[.slice A l.length d, .slice B c.length cb, .int .i64 t] w fun e w' => e = .returned (.bool true) ∧ Calm w w' := by
  have cD := fun u (hu : Calm w u) => chDo_any A B d cb l c t u hn (hL.calm hu) hm (hC.calm hu)
  have cR := fun u (hu : Calm w u) => refDo_any A B d cb l c t u hn (hL.calm hu) hm (hC.calm hu)
  generalize doErr l c t = E at cD cR
  generalize doL l c t = M at cD cR
  unfold SlEnd at cD cR
  have hu := Calm.refl w
  have b4 : (E == E) = true := by simp
  clear hL hC hn hm
  go_enter Try.func5, Try.ntmps5
  go_wp2_with (first
    | (go_at_call 21; (with_reducible refine (cD _ hu).mono ?_); rintro e w3 ⟨v, rfl, hs, hb⟩; obtain ⟨A3, c3, rfl, k3, hl3⟩ := hs; have H3 := Lib.hid hl3; replace hu := hu.call hb; clear hb cD hl3)
    | (go_at_call 22; (with_reducible refine (cR _ hu).mono ?_); rintro e w4 ⟨v, rfl, hs, hb⟩; obtain ⟨A4, c4, rfl, -, hl4⟩ := hs; have H4 := Lib.hid hl4; replace H3 := Lib.hid (H3.out.calm hb); replace hu := hu.call hb; clear hb cR hl4)
    | (go_at_call 23; (with_reducible refine (equal_self A3 A4 c3 c4 M _ k3 H3.out H4.out).mono ?_); rintro e wq ⟨rfl, hb⟩; replace hu := hu.call hb; clear hb))
  go_ret
  exact ⟨rfl, hu⟩
end Go.Proofs.Ythfjanmihfbjoaa
