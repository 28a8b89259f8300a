/- run.after, run.live. -/
import Derived.Test.YtccfcloekjogkaaSearch
import Derived.Lib.Hide
namespace Go.Proofs.Ytccfcloekjogkaa
open Go.RowKit

set_option maxRecDepth 100000 in
set_option maxHeartbeats 4000000 in
theorem after_any (A : Option Addr) (c : Nat) (l : List El) (p o f m : Int) (w : World) (hn : l.length ≤ 400) (hL : Lies w A l) (hS : l.Pairwise Fol) :
    Calls Try.prog 97 #[.slice A l.length c, .agg #[.int .i64 p, .int .i64 o, .int .i64 f, .int .i64 m]] w fun e w' => e = .returned (.int .i64 (pos l (p, o, f) m)) ∧ Calm w w' := by
  have C : ∀ u B1 B2, Calm w u → Boxes B1 B2 A l.length c p o f m u → Calls Try.prog 122 #[.int .i64 l.length, .func (.func 123) #[] #[.pointer (some ⟨B1, 0, none⟩), .pointer (some ⟨B2, 0, none⟩)]] u fun e w' => e = .returned (.int .i64 (pos l (p, o, f) m)) ∧ Calm u w' :=
    fun u B1 B2 hu hB => search_any B1 B2 A c l p o f m u hn (hL.calm hu) hS hB
  generalize pos l (p, o, f) m = r at C ⊢
  clear hL hS
  go_enter Try.func97, Try.ntmps97
  go_wp2_with (go_at_call 122; refine (C _ _ _ (((Calm.refl _).alloc _).alloc _) ⟨heap_past _ (heap_new _ _), by simpa using heap_new (w.alloc (.cells #[.slice A l.length c] 22)) (.cells #[.int .i64 p, .int .i64 o, .int .i64 f, .int .i64 m] 47)⟩).mono ?_; rintro e w1 ⟨rfl, hb1⟩)
  go_ret
  exact ⟨rfl, by repeat (first | (with_reducible exact Calm.refl _) | (with_reducible refine Calm.alloc ?_ _) | (with_reducible refine Calm.drew ?_) | (with_reducible refine Calm.drewN ?_ _) | (refine Calm.call ?_ (by with_reducible assumption)))⟩

set_option maxRecDepth 100000 in
set_option maxHeartbeats 4000000 in
theorem liveRun_any (A : Option Addr) (d : Nat) (l : List El) (p' o' f' t : Int) (w : World) (hn : l.length ≤ 400) (hL : Lies w A l) (hS : l.Pairwise Fol) :
    Calls Try.prog 66 #[.slice A l.length d, .agg #[.int .i64 p', .int .i64 o', .int .i64 f'], .int .i64 t] w fun e w' => e = .returned (.tuple #[.int .i64 (if hitB l (pos l (p', o', f') t) (p', o', f') t then (pos l (p', o', f') t : Int) - 1 else 0), .bool (hitB l (pos l (p', o', f') t) (p', o', f') t)]) ∧ Calm w w' := by
  have C : ∀ u, Calm w u → Calls Try.prog 97 #[.slice A l.length d, .agg #[.int .i64 p', .int .i64 o', .int .i64 f', .int .i64 t]] u fun e w' => e = .returned (.int .i64 (pos l (p', o', f') t)) ∧ Calm u w' :=
    fun u hu => after_any A d l p' o' f' t u hn (hL.calm hu) hS
  have hpl := pos_le l (p', o', f') t
  generalize pos l (p', o', f') t = c at C hpl ⊢
  have hx : (w.alloc (.cells #[.int .i64 p', .int .i64 o', .int .i64 f'] 31)).heap[w.heap.size]? = some (.cells #[.int .i64 p', .int .i64 o', .int .i64 f'] 31 (0, 0)) := heap_new _ _
  have hw0 := (Calm.refl w).alloc (.cells #[.int .i64 p', .int .i64 o', .int .i64 f'] 31)
  by_cases h0 : c = 0
  · subst h0
    rw [hitB_none]
    go_enter Try.func66, Try.ntmps66
    go_wp2_with (go_at_call 97; refine (C _ hw0).mono ?_; rintro e w1 ⟨rfl, hb1⟩; have hu := hw0.call hb1; clear hx hw0 C hb1)
    refine wp_region_plan [.val (.int .i64 (-1)), .val (.bool true), .val (.bool true), .idle, .idle, .idle, .idle, .idle, .idle, .idle, .val (.bool true), .val (.bool true), .idle, .idle, .idle, .idle, .idle, .idle, .idle, .val (.bool true)] (by kernel_rfl) (by kernel_rfl) (by kernel_rfl) ?_
    intro X
    iterate 3
      refine plan_val (by kernel_rfl) (fun u hu => ?_) ?_
      · obtain ⟨hc, hf, hz⟩ := hu.of_drew.facts
        go_simp
      simp only [Act.put, List.setIfInBounds_toArray, List.set_cons_zero, List.set_cons_succ, Nat.reduceAdd]
    iterate 7
      refine plan_idle (by kernel_rfl) ?_
      simp only [Act.put, List.setIfInBounds_toArray, List.set_cons_zero, List.set_cons_succ, Nat.reduceAdd]
    iterate 2
      refine plan_val (by kernel_rfl) (fun u hu => ?_) ?_
      · obtain ⟨hc, hf, hz⟩ := hu.of_drew.facts
        go_simp
      simp only [Act.put, List.setIfInBounds_toArray, List.set_cons_zero, List.set_cons_succ, Nat.reduceAdd]
    iterate 7
      refine plan_idle (by kernel_rfl) ?_
      simp only [Act.put, List.setIfInBounds_toArray, List.set_cons_zero, List.set_cons_succ, Nat.reduceAdd]
    iterate 1
      refine plan_val (by kernel_rfl) (fun u hu => ?_) ?_
      · obtain ⟨hc, hf, hz⟩ := hu.of_drew.facts
        go_simp
      simp only [Act.put, List.setIfInBounds_toArray, List.set_cons_zero, List.set_cons_succ, Nat.reduceAdd]
    refine plan_end ?_
    intro w' hB
    have hk := hB.calm.of_drew
    clear hB
    go_wp2_with fail
    go_ret2
    exact ⟨rfl, hu.call hk⟩
  obtain ⟨b, q, p, o, f, m, g, s, rfl, hb, HE, hm, c0, c1, c2, c3, c4, c5⟩ := hL.get (k := c - 1) (by omega)
  have hH := hitB_some (k := (p', o', f')) (t := t) (by omega : 0 < c) HE.out
  simp only [El.key, El.live] at hH
  have z0 : 0 < c := by omega
  have z1 : IntKind.i64.wrap ((c : Int) - 1) = (c : Int) - 1 := IntWalk.i64_in _ (by omega)
  have z2 : ((c : Int) - 1).toNat = c - 1 := by omega
  have z3 : 0 ≤ (c : Int) - 1 := by omega
  have z4 : (c : Int) - 1 < l.length := by omega
  have z5 : 1 ≤ (c : Int) := by omega
  have Z : (0 < c ∧ IntKind.i64.wrap ((c : Int) - 1) = (c : Int) - 1 ∧ ((c : Int) - 1).toNat = c - 1 ∧ 0 ≤ (c : Int) - 1 ∧ (c : Int) - 1 < l.length ∧ 1 ≤ (c : Int)) := ⟨z0, z1, z2, z3, z4, z5⟩
  have ZZ := Lib.hid Z
  clear Z z0 z1 z2 z3 z4 h0
  generalize hb0 : hitB l c (p', o', f') t = r at hH ⊢
  clear hb0 hL HE hS
  generalize l.length = n at *
  have hc9 : (c : Int) ≤ 400 := by omega
  go_enter Try.func66, Try.ntmps66
  go_upto_region 2 with (go_at_call 97; refine (C _ hw0).mono ?_; rintro e w1 ⟨rfl, hb1⟩; have hu := hw0.call hb1; replace hx := (hb1.block (by simp)).trans hx; clear C hw0)
  obtain ⟨z0, z1, z2, z3, z4, z5'⟩ := ZZ.out
  have hvc := hu.facts.1
  replace c0 := (hvc _ _ hb).trans c0; replace c1 := (hvc _ _ hb).trans c1; replace c2 := (hvc _ _ hb).trans c2; replace c3 := (hvc _ _ hb).trans c3; replace c4 := (hvc _ _ hb).trans c4; replace c5 := (hvc _ _ hb).trans c5
  have hb2 : b < w1.heap.size := Nat.lt_of_lt_of_le hb hu.size
  obtain ⟨x0, x1, x2, hxs⟩ := row3 hx
  clear hvc hb1 hx ZZ hb
  by_cases hK : (p, o, f) = (p', o', f')
  rotate_left
  · have e0 : r = false := by rw [hH]; simp [hK]
    subst e0
    clear hH
    have h3 : ¬ p = p' ∨ (p = p' ∧ ¬ o = o') ∨ (p = p' ∧ o = o' ∧ ¬ f = f') := by simp only [Prod.mk.injEq] at hK; omega
    clear hK
    rcases h3 with h3 | ⟨h3, h4⟩ | ⟨h3, h4, h5⟩
    · skip
      refine wp_region_plan [.val (.int .i64 ((c : Int) - 1)), .val (.bool false), .val (.bool false), .val (.slice (some ⟨b, q, none⟩) n d), .val (.int .i64 ((c : Int) - 1)), .val (.pointer (some ⟨b, q + (c - 1) * 6, none⟩)), .val (.pointer (some ⟨b, q + (c - 1) * 6, none⟩)), .val (.agg #[.int .i64 p, .int .i64 o, .int .i64 f]), .val (.agg #[.int .i64 p', .int .i64 o', .int .i64 f']), .val (.bool true), .val (.bool true), .val (.bool true), .idle, .idle, .idle, .idle, .idle, .idle, .idle, .val (.bool true)] (by kernel_rfl) (by kernel_rfl) (by kernel_rfl) ?_
      intro X
      iterate 12
        refine plan_val (by kernel_rfl) (fun u hu => ?_) ?_
        · obtain ⟨hc, hf, hz⟩ := hu.of_drew.facts
          go_simp
        simp only [Act.put, List.setIfInBounds_toArray, List.set_cons_zero, List.set_cons_succ, Nat.reduceAdd]
      iterate 7
        refine plan_idle (by kernel_rfl) ?_
        simp only [Act.put, List.setIfInBounds_toArray, List.set_cons_zero, List.set_cons_succ, Nat.reduceAdd]
      iterate 1
        refine plan_val (by kernel_rfl) (fun u hu => ?_) ?_
        · obtain ⟨hc, hf, hz⟩ := hu.of_drew.facts
          go_simp
        simp only [Act.put, List.setIfInBounds_toArray, List.set_cons_zero, List.set_cons_succ, Nat.reduceAdd]
      refine plan_end ?_
      intro w' hB
      have hk := hB.calm.of_drew
      clear hB
      clear z0 z1 z2 z3 z4 z5
      go_wp2_with fail
      go_ret2
      exact ⟨rfl, hu.call hk⟩
    · skip
      subst h3
      refine wp_region_plan [.val (.int .i64 ((c : Int) - 1)), .val (.bool false), .val (.bool false), .val (.slice (some ⟨b, q, none⟩) n d), .val (.int .i64 ((c : Int) - 1)), .val (.pointer (some ⟨b, q + (c - 1) * 6, none⟩)), .val (.pointer (some ⟨b, q + (c - 1) * 6, none⟩)), .val (.agg #[.int .i64 p, .int .i64 o, .int .i64 f]), .val (.agg #[.int .i64 p, .int .i64 o', .int .i64 f']), .val (.bool true), .val (.bool true), .val (.bool true), .idle, .idle, .idle, .idle, .idle, .idle, .idle, .val (.bool true)] (by kernel_rfl) (by kernel_rfl) (by kernel_rfl) ?_
      intro X
      iterate 12
        refine plan_val (by kernel_rfl) (fun u hu => ?_) ?_
        · obtain ⟨hc, hf, hz⟩ := hu.of_drew.facts
          go_simp
        simp only [Act.put, List.setIfInBounds_toArray, List.set_cons_zero, List.set_cons_succ, Nat.reduceAdd]
      iterate 7
        refine plan_idle (by kernel_rfl) ?_
        simp only [Act.put, List.setIfInBounds_toArray, List.set_cons_zero, List.set_cons_succ, Nat.reduceAdd]
      iterate 1
        refine plan_val (by kernel_rfl) (fun u hu => ?_) ?_
        · obtain ⟨hc, hf, hz⟩ := hu.of_drew.facts
          go_simp
        simp only [Act.put, List.setIfInBounds_toArray, List.set_cons_zero, List.set_cons_succ, Nat.reduceAdd]
      refine plan_end ?_
      intro w' hB
      have hk := hB.calm.of_drew
      clear hB
      clear z0 z1 z2 z3 z4 z5
      go_wp2_with fail
      go_ret2
      exact ⟨rfl, hu.call hk⟩
    · skip
      subst h3
      subst h4
      refine wp_region_plan [.val (.int .i64 ((c : Int) - 1)), .val (.bool false), .val (.bool false), .val (.slice (some ⟨b, q, none⟩) n d), .val (.int .i64 ((c : Int) - 1)), .val (.pointer (some ⟨b, q + (c - 1) * 6, none⟩)), .val (.pointer (some ⟨b, q + (c - 1) * 6, none⟩)), .val (.agg #[.int .i64 p, .int .i64 o, .int .i64 f]), .val (.agg #[.int .i64 p, .int .i64 o, .int .i64 f']), .val (.bool true), .val (.bool true), .val (.bool true), .idle, .idle, .idle, .idle, .idle, .idle, .idle, .val (.bool true)] (by kernel_rfl) (by kernel_rfl) (by kernel_rfl) ?_
      intro X
      iterate 12
        refine plan_val (by kernel_rfl) (fun u hu => ?_) ?_
        · obtain ⟨hc, hf, hz⟩ := hu.of_drew.facts
          go_simp
        simp only [Act.put, List.setIfInBounds_toArray, List.set_cons_zero, List.set_cons_succ, Nat.reduceAdd]
      iterate 7
        refine plan_idle (by kernel_rfl) ?_
        simp only [Act.put, List.setIfInBounds_toArray, List.set_cons_zero, List.set_cons_succ, Nat.reduceAdd]
      iterate 1
        refine plan_val (by kernel_rfl) (fun u hu => ?_) ?_
        · obtain ⟨hc, hf, hz⟩ := hu.of_drew.facts
          go_simp
        simp only [Act.put, List.setIfInBounds_toArray, List.set_cons_zero, List.set_cons_succ, Nat.reduceAdd]
      refine plan_end ?_
      intro w' hB
      have hk := hB.calm.of_drew
      clear hB
      clear z0 z1 z2 z3 z4 z5
      go_wp2_with fail
      go_ret2
      exact ⟨rfl, hu.call hk⟩
  simp only [Prod.mk.injEq] at hK
  obtain ⟨rfl, rfl, rfl⟩ := hK
  by_cases hl : liveP m g t
  · have e0 : r = true := by rw [hH]; simp [hl]
    subst e0
    have L : ∀ u, Calls Try.prog 68 #[.agg #[.int .i64 p, .int .i64 o, .int .i64 f, .int .i64 m, .int .i64 g, .string s], .int .i64 t] u fun e w' => e = .returned (.bool true) ∧ Calm u w' := fun u => (live_any p o f m g t s u).mono fun e w' h => ⟨h.1.trans (ret_bool (decide_eq_true hl)), h.2⟩
    clear hH hl
    refine wp_region_plan [.val (.int .i64 ((c : Int) - 1)), .val (.bool false), .val (.bool false), .val (.slice (some ⟨b, q, none⟩) n d), .val (.int .i64 ((c : Int) - 1)), .val (.pointer (some ⟨b, q + (c - 1) * 6, none⟩)), .val (.pointer (some ⟨b, q + (c - 1) * 6, none⟩)), .val (.agg #[.int .i64 p, .int .i64 o, .int .i64 f]), .val (.agg #[.int .i64 p, .int .i64 o, .int .i64 f]), .val (.bool false), .val (.bool false), .val (.bool false), .val (.slice (some ⟨b, q, none⟩) n d), .val (.int .i64 ((c : Int) - 1)), .val (.pointer (some ⟨b, q + (c - 1) * 6, none⟩)), .val (.agg #[.int .i64 p, .int .i64 o, .int .i64 f, .int .i64 m, .int .i64 g, .string s]), .val (.int .i64 (t)), .val (.bool true), .val (.bool false), .val (.bool false)] (by kernel_rfl) (by kernel_rfl) (by kernel_rfl) ?_
    intro X
    iterate 20
      refine plan_val (by kernel_rfl) (fun u hu => ?_) ?_
      · obtain ⟨hc, hf, hz⟩ := hu.of_drew.facts
        go_simp
        all_goals first
          | (go_at_call 68; exact L _)
      simp only [Act.put, List.setIfInBounds_toArray, List.set_cons_zero, List.set_cons_succ, Nat.reduceAdd]
    refine plan_end ?_
    intro w' hB
    have hk := hB.calm.of_drew
    clear hB
    clear z0 z1 z2 z3 z4 z5
    go_wp2_with fail
    go_ret2
    exact ⟨rfl, hu.call hk⟩
  · have e0 : r = false := by rw [hH]; simp [hl]
    subst e0
    have L : ∀ u, Calls Try.prog 68 #[.agg #[.int .i64 p, .int .i64 o, .int .i64 f, .int .i64 m, .int .i64 g, .string s], .int .i64 t] u fun e w' => e = .returned (.bool false) ∧ Calm u w' := fun u => (live_any p o f m g t s u).mono fun e w' h => ⟨h.1.trans (ret_bool (decide_eq_false hl)), h.2⟩
    clear hH hl
    refine wp_region_plan [.val (.int .i64 ((c : Int) - 1)), .val (.bool false), .val (.bool false), .val (.slice (some ⟨b, q, none⟩) n d), .val (.int .i64 ((c : Int) - 1)), .val (.pointer (some ⟨b, q + (c - 1) * 6, none⟩)), .val (.pointer (some ⟨b, q + (c - 1) * 6, none⟩)), .val (.agg #[.int .i64 p, .int .i64 o, .int .i64 f]), .val (.agg #[.int .i64 p, .int .i64 o, .int .i64 f]), .val (.bool false), .val (.bool false), .val (.bool false), .val (.slice (some ⟨b, q, none⟩) n d), .val (.int .i64 ((c : Int) - 1)), .val (.pointer (some ⟨b, q + (c - 1) * 6, none⟩)), .val (.agg #[.int .i64 p, .int .i64 o, .int .i64 f, .int .i64 m, .int .i64 g, .string s]), .val (.int .i64 (t)), .val (.bool false), .val (.bool true), .val (.bool true)] (by kernel_rfl) (by kernel_rfl) (by kernel_rfl) ?_
    intro X
    iterate 20
      refine plan_val (by kernel_rfl) (fun u hu => ?_) ?_
      · obtain ⟨hc, hf, hz⟩ := hu.of_drew.facts
        go_simp
        all_goals first
          | (go_at_call 68; exact L _)
      simp only [Act.put, List.setIfInBounds_toArray, List.set_cons_zero, List.set_cons_succ, Nat.reduceAdd]
    refine plan_end ?_
    intro w' hB
    have hk := hB.calm.of_drew
    clear hB
    clear z0 z1 z2 z3 z4 z5
    go_wp2_with fail
    go_ret2
    exact ⟨rfl, hu.call hk⟩
end Go.Proofs.Ytccfcloekjogkaa
