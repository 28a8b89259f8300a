/- Texts of one kind in one file. -/
import Derived.Lib.Hide
import Derived.Deep.RegionWith
import Derived.Maps.AppendAt
import Derived.Laws.StructEq
import Derived.Deep.MidRow
import Derived.Laws.BitsAll
import Derived.IntWalk
import Derived.Laws.BytesArg
import Derived.Test.YtljjeolifdpedaaPkRealmWrites2
set_option maxRecDepth 100000
namespace Go.Proofs.Ytljjeolifdpedaa
open Go.RowKit
set_option maxHeartbeats 4000000 in
theorem after_any (A : Option Addr) (c : Nat) (l : List El) (p o f m : Int) (w : World) (hn : l.length ≤ 400) (hL : Lies w A l) (hS : l.Pairwise Fol) :
    Calls Try.prog 87 #[.slice A l.length c, .agg #[.int .i64 p, .int .i64 o, .int .i64 f, .int .i64 m]] w fun e w' => e = .returned (.int .i64 (pos l (p, o, f) m)) ∧ Calm w w' := by
  have C : ∀ u B1 B2, Calm w u → Boxes B1 B2 A l.length c p o f m u → Calls Try.prog 102 #[.int .i64 l.length, .func (.func 110) #[] #[.pointer (some ⟨B1, 0, none⟩), .pointer (some ⟨B2, 0, none⟩)]] u fun e w' => e = .returned (.int .i64 (pos l (p, o, f) m)) ∧ Calm u w' :=
    fun u B1 B2 hu hB => search_any B1 B2 A c l p o f m u hn (hL.calm hu) hS hB
  generalize pos l (p, o, f) m = r at C ⊢
  clear hL hS
  go_enter Try.func87, Try.ntmps87
  go_wp2_with (go_at_call 102; refine (C _ _ _ (((Calm.refl _).alloc _).alloc _) ⟨heap_past _ (heap_new _ _), by simpa using heap_new (w.alloc (.cells #[.slice A l.length c] 22)) (.cells #[.int .i64 p, .int .i64 o, .int .i64 f, .int .i64 m] 101)⟩).mono ?_; rintro e w1 ⟨rfl, hb1⟩)
  go_ret
  exact ⟨rfl, by repeat (first | (with_reducible exact Calm.refl _) | (with_reducible refine Calm.alloc ?_ _) | (with_reducible refine Calm.drew ?_) | (with_reducible refine Calm.drewN ?_ _) | (refine Calm.call ?_ (by with_reducible assumption)))⟩
set_option maxHeartbeats 4000000 in
theorem liveRun_any (A : Option Addr) (d : Nat) (l : List El) (p' o' f' t : Int) (w : World) (hn : l.length ≤ 400) (hL : Lies w A l) (hS : l.Pairwise Fol) :
    Calls Try.prog 85 #[.slice A l.length d, .agg #[.int .i64 p', .int .i64 o', .int .i64 f'], .int .i64 t] w fun e w' => e = .returned (.tuple #[.int .i64 (if hitB l (pos l (p', o', f') t) (p', o', f') t then (pos l (p', o', f') t : Int) - 1 else 0), .bool (hitB l (pos l (p', o', f') t) (p', o', f') t)]) ∧ Calm w w' := by
  have C : ∀ u, Calm w u → Calls Try.prog 87 #[.slice A l.length d, .agg #[.int .i64 p', .int .i64 o', .int .i64 f', .int .i64 t]] u fun e w' => e = .returned (.int .i64 (pos l (p', o', f') t)) ∧ Calm u w' :=
    fun u hu => after_any A d l p' o' f' t u hn (hL.calm hu) hS
  have hpl := pos_le l (p', o', f') t
  generalize pos l (p', o', f') t = c at C hpl ⊢
  have hx : (w.alloc (.cells #[.int .i64 p', .int .i64 o', .int .i64 f'] 27)).heap[w.heap.size]? = some (.cells #[.int .i64 p', .int .i64 o', .int .i64 f'] 27 (0, 0)) := heap_new _ _
  have hw0 := (Calm.refl w).alloc (.cells #[.int .i64 p', .int .i64 o', .int .i64 f'] 27)
  by_cases h0 : c = 0
  · subst h0
    rw [hitB_none]
    go_enter Try.func85, Try.ntmps85
    go_wp2_with (go_at_call 87; refine (C _ hw0).mono ?_; rintro e w1 ⟨rfl, hb1⟩; have hu := hw0.call hb1; clear hx hw0 C hb1)
    refine wp_region_plan [.val (.int .i64 (-1)), .val (.bool true), .val (.bool true), .idle, .idle, .idle, .idle, .idle, .idle, .idle, .val (.bool true), .val (.bool true), .idle, .idle, .idle, .idle, .idle, .idle, .idle, .val (.bool true)] (by kernel_rfl) (by kernel_rfl) (by kernel_rfl) ?_
    intro X
    iterate 3
      refine plan_val (by kernel_rfl) (fun u hu => ?_) ?_
      · obtain ⟨hc, hf, hz⟩ := hu.of_drew.facts
        go_simp
      simp only [Act.put, List.setIfInBounds_toArray, List.set_cons_zero, List.set_cons_succ, Nat.reduceAdd]
    iterate 7
      refine plan_idle (by kernel_rfl) ?_
      simp only [Act.put, List.setIfInBounds_toArray, List.set_cons_zero, List.set_cons_succ, Nat.reduceAdd]
    iterate 2
      refine plan_val (by kernel_rfl) (fun u hu => ?_) ?_
      · obtain ⟨hc, hf, hz⟩ := hu.of_drew.facts
        go_simp
      simp only [Act.put, List.setIfInBounds_toArray, List.set_cons_zero, List.set_cons_succ, Nat.reduceAdd]
    iterate 7
      refine plan_idle (by kernel_rfl) ?_
      simp only [Act.put, List.setIfInBounds_toArray, List.set_cons_zero, List.set_cons_succ, Nat.reduceAdd]
    iterate 1
      refine plan_val (by kernel_rfl) (fun u hu => ?_) ?_
      · obtain ⟨hc, hf, hz⟩ := hu.of_drew.facts
        go_simp
      simp only [Act.put, List.setIfInBounds_toArray, List.set_cons_zero, List.set_cons_succ, Nat.reduceAdd]
    refine plan_end ?_
    intro w' hB
    have hk := hB.calm.of_drew
    clear hB
    go_wp2_with fail
    go_ret2
    exact ⟨rfl, hu.call hk⟩
  obtain ⟨b, q, p, o, f, m, g, s, rfl, hb, HE, hm, c0, c1, c2, c3, c4, c5⟩ := hL.get (k := c - 1) (by omega)
  have hH := hitB_some (k := (p', o', f')) (t := t) (by omega : 0 < c) HE.out
  simp only [El.key, El.live] at hH
  have z0 : 0 < c := by omega
  have z1 : IntKind.i64.wrap ((c : Int) - 1) = (c : Int) - 1 := IntWalk.i64_in _ (by omega)
  have z2 : ((c : Int) - 1).toNat = c - 1 := by omega
  have z3 : 0 ≤ (c : Int) - 1 := by omega
  have z4 : (c : Int) - 1 < l.length := by omega
  have z5 : 1 ≤ (c : Int) := by omega
  have Z : (0 < c ∧ IntKind.i64.wrap ((c : Int) - 1) = (c : Int) - 1 ∧ ((c : Int) - 1).toNat = c - 1 ∧ 0 ≤ (c : Int) - 1 ∧ (c : Int) - 1 < l.length ∧ 1 ≤ (c : Int)) := ⟨z0, z1, z2, z3, z4, z5⟩
  have ZZ := Lib.hid Z
  clear Z z0 z1 z2 z3 z4 h0
  generalize hb0 : hitB l c (p', o', f') t = r at hH ⊢
  clear hb0 hL HE hS
  generalize l.length = n at *
  have hc9 : (c : Int) ≤ 400 := by omega
  go_enter Try.func85, Try.ntmps85
  go_upto_region 2 with (go_at_call 87; refine (C _ hw0).mono ?_; rintro e w1 ⟨rfl, hb1⟩; have hu := hw0.call hb1; replace hx := (hb1.block (by simp)).trans hx; clear C hw0)
  obtain ⟨z0, z1, z2, z3, z4, z5'⟩ := ZZ.out
  have hvc := hu.facts.1
  replace c0 := (hvc _ _ hb).trans c0; replace c1 := (hvc _ _ hb).trans c1; replace c2 := (hvc _ _ hb).trans c2; replace c3 := (hvc _ _ hb).trans c3; replace c4 := (hvc _ _ hb).trans c4; replace c5 := (hvc _ _ hb).trans c5
  have hb2 : b < w1.heap.size := Nat.lt_of_lt_of_le hb hu.size
  obtain ⟨x0, x1, x2, hxs⟩ := row3 hx
  clear hvc hb1 hx ZZ hb
  by_cases hK : (p, o, f) = (p', o', f')
  rotate_left
  · have e0 : r = false := by rw [hH]; simp [hK]
    subst e0
    clear hH
    have h3 : ¬ p = p' ∨ (p = p' ∧ ¬ o = o') ∨ (p = p' ∧ o = o' ∧ ¬ f = f') := by simp only [Prod.mk.injEq] at hK; omega
    clear hK
    rcases h3 with h3 | ⟨h3, h4⟩ | ⟨h3, h4, h5⟩
    · skip
      refine wp_region_plan [.val (.int .i64 ((c : Int) - 1)), .val (.bool false), .val (.bool false), .val (.slice (some ⟨b, q, none⟩) n d), .val (.int .i64 ((c : Int) - 1)), .val (.pointer (some ⟨b, q + (c - 1) * 6, none⟩)), .val (.pointer (some ⟨b, q + (c - 1) * 6, none⟩)), .val (.agg #[.int .i64 p, .int .i64 o, .int .i64 f]), .val (.agg #[.int .i64 p', .int .i64 o', .int .i64 f']), .val (.bool true), .val (.bool true), .val (.bool true), .idle, .idle, .idle, .idle, .idle, .idle, .idle, .val (.bool true)] (by kernel_rfl) (by kernel_rfl) (by kernel_rfl) ?_
      intro X
      iterate 12
        refine plan_val (by kernel_rfl) (fun u hu => ?_) ?_
        · obtain ⟨hc, hf, hz⟩ := hu.of_drew.facts
          go_simp
        simp only [Act.put, List.setIfInBounds_toArray, List.set_cons_zero, List.set_cons_succ, Nat.reduceAdd]
      iterate 7
        refine plan_idle (by kernel_rfl) ?_
        simp only [Act.put, List.setIfInBounds_toArray, List.set_cons_zero, List.set_cons_succ, Nat.reduceAdd]
      iterate 1
        refine plan_val (by kernel_rfl) (fun u hu => ?_) ?_
        · obtain ⟨hc, hf, hz⟩ := hu.of_drew.facts
          go_simp
        simp only [Act.put, List.setIfInBounds_toArray, List.set_cons_zero, List.set_cons_succ, Nat.reduceAdd]
      refine plan_end ?_
      intro w' hB
      have hk := hB.calm.of_drew
      clear hB
      clear z0 z1 z2 z3 z4 z5
      go_wp2_with fail
      go_ret2
      exact ⟨rfl, hu.call hk⟩
    · skip
      subst h3
      refine wp_region_plan [.val (.int .i64 ((c : Int) - 1)), .val (.bool false), .val (.bool false), .val (.slice (some ⟨b, q, none⟩) n d), .val (.int .i64 ((c : Int) - 1)), .val (.pointer (some ⟨b, q + (c - 1) * 6, none⟩)), .val (.pointer (some ⟨b, q + (c - 1) * 6, none⟩)), .val (.agg #[.int .i64 p, .int .i64 o, .int .i64 f]), .val (.agg #[.int .i64 p, .int .i64 o', .int .i64 f']), .val (.bool true), .val (.bool true), .val (.bool true), .idle, .idle, .idle, .idle, .idle, .idle, .idle, .val (.bool true)] (by kernel_rfl) (by kernel_rfl) (by kernel_rfl) ?_
      intro X
      iterate 12
        refine plan_val (by kernel_rfl) (fun u hu => ?_) ?_
        · obtain ⟨hc, hf, hz⟩ := hu.of_drew.facts
          go_simp
        simp only [Act.put, List.setIfInBounds_toArray, List.set_cons_zero, List.set_cons_succ, Nat.reduceAdd]
      iterate 7
        refine plan_idle (by kernel_rfl) ?_
        simp only [Act.put, List.setIfInBounds_toArray, List.set_cons_zero, List.set_cons_succ, Nat.reduceAdd]
      iterate 1
        refine plan_val (by kernel_rfl) (fun u hu => ?_) ?_
        · obtain ⟨hc, hf, hz⟩ := hu.of_drew.facts
          go_simp
        simp only [Act.put, List.setIfInBounds_toArray, List.set_cons_zero, List.set_cons_succ, Nat.reduceAdd]
      refine plan_end ?_
      intro w' hB
      have hk := hB.calm.of_drew
      clear hB
      clear z0 z1 z2 z3 z4 z5
      go_wp2_with fail
      go_ret2
      exact ⟨rfl, hu.call hk⟩
    · skip
      subst h3
      subst h4
      refine wp_region_plan [.val (.int .i64 ((c : Int) - 1)), .val (.bool false), .val (.bool false), .val (.slice (some ⟨b, q, none⟩) n d), .val (.int .i64 ((c : Int) - 1)), .val (.pointer (some ⟨b, q + (c - 1) * 6, none⟩)), .val (.pointer (some ⟨b, q + (c - 1) * 6, none⟩)), .val (.agg #[.int .i64 p, .int .i64 o, .int .i64 f]), .val (.agg #[.int .i64 p, .int .i64 o, .int .i64 f']), .val (.bool true), .val (.bool true), .val (.bool true), .idle, .idle, .idle, .idle, .idle, .idle, .idle, .val (.bool true)] (by kernel_rfl) (by kernel_rfl) (by kernel_rfl) ?_
      intro X
      iterate 12
        refine plan_val (by kernel_rfl) (fun u hu => ?_) ?_
        · obtain ⟨hc, hf, hz⟩ := hu.of_drew.facts
          go_simp
        simp only [Act.put, List.setIfInBounds_toArray, List.set_cons_zero, List.set_cons_succ, Nat.reduceAdd]
      iterate 7
        refine plan_idle (by kernel_rfl) ?_
        simp only [Act.put, List.setIfInBounds_toArray, List.set_cons_zero, List.set_cons_succ, Nat.reduceAdd]
      iterate 1
        refine plan_val (by kernel_rfl) (fun u hu => ?_) ?_
        · obtain ⟨hc, hf, hz⟩ := hu.of_drew.facts
          go_simp
        simp only [Act.put, List.setIfInBounds_toArray, List.set_cons_zero, List.set_cons_succ, Nat.reduceAdd]
      refine plan_end ?_
      intro w' hB
      have hk := hB.calm.of_drew
      clear hB
      clear z0 z1 z2 z3 z4 z5
      go_wp2_with fail
      go_ret2
      exact ⟨rfl, hu.call hk⟩
  simp only [Prod.mk.injEq] at hK
  obtain ⟨rfl, rfl, rfl⟩ := hK
  by_cases hl : liveP m g t
  · have e0 : r = true := by rw [hH]; simp [hl]
    subst e0
    have L : ∀ u, Calls Try.prog 107 #[.agg #[.int .i64 p, .int .i64 o, .int .i64 f, .int .i64 m, .int .i64 g, .string s], .int .i64 t] u fun e w' => e = .returned (.bool true) ∧ Calm u w' := fun u => (live_any p o f m g t s u).mono fun e w' h => ⟨h.1.trans (ret_bool (decide_eq_true hl)), h.2⟩
    clear hH hl
    refine wp_region_plan [.val (.int .i64 ((c : Int) - 1)), .val (.bool false), .val (.bool false), .val (.slice (some ⟨b, q, none⟩) n d), .val (.int .i64 ((c : Int) - 1)), .val (.pointer (some ⟨b, q + (c - 1) * 6, none⟩)), .val (.pointer (some ⟨b, q + (c - 1) * 6, none⟩)), .val (.agg #[.int .i64 p, .int .i64 o, .int .i64 f]), .val (.agg #[.int .i64 p, .int .i64 o, .int .i64 f]), .val (.bool false), .val (.bool false), .val (.bool false), .val (.slice (some ⟨b, q, none⟩) n d), .val (.int .i64 ((c : Int) - 1)), .val (.pointer (some ⟨b, q + (c - 1) * 6, none⟩)), .val (.agg #[.int .i64 p, .int .i64 o, .int .i64 f, .int .i64 m, .int .i64 g, .string s]), .val (.int .i64 (t)), .val (.bool true), .val (.bool false), .val (.bool false)] (by kernel_rfl) (by kernel_rfl) (by kernel_rfl) ?_
    intro X
    iterate 20
      refine plan_val (by kernel_rfl) (fun u hu => ?_) ?_
      · obtain ⟨hc, hf, hz⟩ := hu.of_drew.facts
        go_simp
        all_goals first
          | (go_at_call 107; exact L _)
      simp only [Act.put, List.setIfInBounds_toArray, List.set_cons_zero, List.set_cons_succ, Nat.reduceAdd]
    refine plan_end ?_
    intro w' hB
    have hk := hB.calm.of_drew
    clear hB
    clear z0 z1 z2 z3 z4 z5
    go_wp2_with fail
    go_ret2
    exact ⟨rfl, hu.call hk⟩
  · have e0 : r = false := by rw [hH]; simp [hl]
    subst e0
    have L : ∀ u, Calls Try.prog 107 #[.agg #[.int .i64 p, .int .i64 o, .int .i64 f, .int .i64 m, .int .i64 g, .string s], .int .i64 t] u fun e w' => e = .returned (.bool false) ∧ Calm u w' := fun u => (live_any p o f m g t s u).mono fun e w' h => ⟨h.1.trans (ret_bool (decide_eq_false hl)), h.2⟩
    clear hH hl
    refine wp_region_plan [.val (.int .i64 ((c : Int) - 1)), .val (.bool false), .val (.bool false), .val (.slice (some ⟨b, q, none⟩) n d), .val (.int .i64 ((c : Int) - 1)), .val (.pointer (some ⟨b, q + (c - 1) * 6, none⟩)), .val (.pointer (some ⟨b, q + (c - 1) * 6, none⟩)), .val (.agg #[.int .i64 p, .int .i64 o, .int .i64 f]), .val (.agg #[.int .i64 p, .int .i64 o, .int .i64 f]), .val (.bool false), .val (.bool false), .val (.bool false), .val (.slice (some ⟨b, q, none⟩) n d), .val (.int .i64 ((c : Int) - 1)), .val (.pointer (some ⟨b, q + (c - 1) * 6, none⟩)), .val (.agg #[.int .i64 p, .int .i64 o, .int .i64 f, .int .i64 m, .int .i64 g, .string s]), .val (.int .i64 (t)), .val (.bool false), .val (.bool true), .val (.bool true)] (by kernel_rfl) (by kernel_rfl) (by kernel_rfl) ?_
    intro X
    iterate 20
      refine plan_val (by kernel_rfl) (fun u hu => ?_) ?_
      · obtain ⟨hc, hf, hz⟩ := hu.of_drew.facts
        go_simp
        all_goals first
          | (go_at_call 107; exact L _)
      simp only [Act.put, List.setIfInBounds_toArray, List.set_cons_zero, List.set_cons_succ, Nat.reduceAdd]
    refine plan_end ?_
    intro w' hB
    have hk := hB.calm.of_drew
    clear hB
    clear z0 z1 z2 z3 z4 z5
    go_wp2_with fail
    go_ret2
    exact ⟨rfl, hu.call hk⟩
open Go.RowKit
def SlEnd (l : List El) (n : Int) (w : World) (e : Ending) (w' : World) : Prop := ∃ v, e = .returned (.tuple #[v, .int .i64 n]) ∧ Sl w' v l ∧ Calm w w'
def Sl1End (l : List El) (w : World) (e : Ending) (w' : World) : Prop := ∃ v, e = .returned v ∧ Sl w' v l ∧ Calm w w'
theorem OwnR.sl {base : Nat} {w : World} {v : Value} {l : List El} (h : OwnR base w v l) (hw : ∀ e ∈ l, e.wf) : Sl w v l := by
 obtain ⟨A, c, hv, h1, h2, h3⟩ := h.lies hw
 exact ⟨A, c, hv, by omega, h3⟩
open Go.RowKit
set_option maxHeartbeats 4000000 in
theorem checkWrite_any (A : Option Addr) (c : Nat) (l : List El) (p o f m g : Int) (s : ByteArray) (w : World) (hn : l.length ≤ 9223372036854775807) (hL : Lies w A l) :
    Calls Try.prog 84 #[.slice A l.length c, .agg #[.int .i64 p, .int .i64 o, .int .i64 f, .int .i64 m, .int .i64 g, .string s]] w fun e w' => e = .returned (.int .i64 (wrErr l ⟨p, o, f, m, g, s⟩)) ∧ Calm w w' := by
  have hx := heap_new w (.cells #[.int .i64 p, .int .i64 o, .int .i64 f, .int .i64 m, .int .i64 g, .string s] 50)
  have hu := (Calm.refl w).alloc (.cells #[.int .i64 p, .int .i64 o, .int .i64 f, .int .i64 m, .int .i64 g, .string s] 50)
  have cL : ∀ u, Calm w u → Calls Try.prog 32 #[.slice A l.length c] u fun e w' => e = .returned (.tuple #[.int .i64 (if runErr l = 0 then latest l else 0), .int .i64 (runErr l)]) ∧ Calm u w' := fun u hu => runLast_any A c l u hn (hL.calm hu)
  by_cases he : runErr l = 0
  rotate_left
  · have e1 : wrErr l ⟨p, o, f, m, g, s⟩ = runErr l := by unfold wrErr; rw [if_neg he]
    rw [e1]
    rw [if_neg he] at cL
    have b1 : (runErr l != 0) = true := by simpa using he
    clear e1 he hL
    go_enter Try.func84, Try.ntmps84
    go_wp2_with (go_at_call 32; refine (cL _ hu).mono ?_; rintro e w1 ⟨rfl, hb1⟩; replace hu := hu.call hb1)
    go_ret
    exact ⟨rfl, hu⟩
  rw [if_pos he, he] at cL
  have cE := elemCheck_any p o f m g s
  by_cases h2 : elemErr p o f m g s.size = 0
  rotate_left
  · have e1 : wrErr l ⟨p, o, f, m, g, s⟩ = elemErr p o f m g s.size := by
      unfold wrErr; rw [if_pos he]
      exact if_neg h2
    rw [e1]
    have b1 : (elemErr p o f m g s.size != 0) = true := by simpa using h2
    clear e1 he h2 hL
    generalize latest l = t0 at cL
    go_enter Try.func84, Try.ntmps84
    go_wp2_with (first
      | (go_at_call 32; refine (cL _ hu).mono ?_; rintro e w1 ⟨rfl, hb1⟩; replace hu := hu.call hb1; replace hx := (hb1.block (row6 hx).2.2.2.2.2.2).trans hx; obtain ⟨x0, x1, x2, x3, x4, x5, hxs⟩ := row6 hx; clear hb1)
      | (go_at_call 98; refine (cE _).mono ?_; rintro e w1 ⟨rfl, hb1⟩; replace hu := hu.call hb1))
    go_ret
    exact ⟨rfl, hu⟩
  have e1 : wrErr l ⟨p, o, f, m, g, s⟩ = if m < latest l then 9 else 0 := by
    unfold wrErr; rw [if_pos he]
    exact if_pos h2
  rw [e1]
  rw [h2] at cE
  clear e1 he h2 hL
  generalize latest l = t0 at cL
  by_cases h3 : m < t0
  · rw [if_pos h3]
    go_enter Try.func84, Try.ntmps84
    go_wp2_with (first
      | (go_at_call 32; refine (cL _ hu).mono ?_; rintro e w1 ⟨rfl, hb1⟩; replace hu := hu.call hb1; replace hx := (hb1.block (row6 hx).2.2.2.2.2.2).trans hx; obtain ⟨x0, x1, x2, x3, x4, x5, hxs⟩ := row6 hx; clear hb1)
      | (go_at_call 98; refine (cE _).mono ?_; rintro e w1 ⟨rfl, hb1⟩; replace hu := hu.call hb1; replace hx := (hb1.block (row6 hx).2.2.2.2.2.2).trans hx; obtain ⟨x0, x1, x2, x3, x4, x5, hxs⟩ := row6 hx; clear hb1))
    go_ret
    exact ⟨rfl, hu⟩
  · rw [if_neg h3]
    go_enter Try.func84, Try.ntmps84
    go_wp2_with (first
      | (go_at_call 32; refine (cL _ hu).mono ?_; rintro e w1 ⟨rfl, hb1⟩; replace hu := hu.call hb1; replace hx := (hb1.block (row6 hx).2.2.2.2.2.2).trans hx; obtain ⟨x0, x1, x2, x3, x4, x5, hxs⟩ := row6 hx; clear hb1)
      | (go_at_call 98; refine (cE _).mono ?_; rintro e w1 ⟨rfl, hb1⟩; replace hu := hu.call hb1; replace hx := (hb1.block (row6 hx).2.2.2.2.2.2).trans hx; obtain ⟨x0, x1, x2, x3, x4, x5, hxs⟩ := row6 hx; clear hb1))
    go_ret
    exact ⟨rfl, hu⟩
open Go.RowKit
theorem delAt_len {l : List El} {i : Nat} (hi : i < l.length) : (delAt l i).length = l.length - 1 := by
 unfold delAt; rw [List.length_append, List.length_take, List.length_drop]; omega
theorem row_del {cur : List Value} {l : List El} {i : Nat} (z : List Value) (hi : i < l.length) (hc : cur.take (l.length * 6) = cellsOf l) (hs : l.length * 6 ≤ cur.length) :
    (spl (spl cur (i * 6) (cellsOf (l.drop (i + 1)))) ((l.length - 1) * 6) z).take ((l.length - 1) * 6) = cellsOf (delAt l i) := by
  have hl1 : (cellsOf (l.take i)).length = i * 6 := by rw [cellsOf_len, List.length_take]; congr 1; omega
  have hl2 : (cellsOf (l.drop (i + 1))).length = (l.length - (i + 1)) * 6 := by rw [cellsOf_len, List.length_drop]
  have h1 : cur.take (i * 6) = cellsOf (l.take i) := by
    rw [← cellsOf_take (by omega), ← hc, List.take_take]; congr 1; omega
  have h2 : (spl cur (i * 6) (cellsOf (l.drop (i + 1)))).take ((l.length - 1) * 6) = cellsOf (l.take i) ++ cellsOf (l.drop (i + 1)) := by
    unfold spl
    rw [h1]
    exact List.take_left' (by rw [List.length_append, hl1, hl2]; omega)
  have h3 : (l.length - 1) * 6 ≤ (spl cur (i * 6) (cellsOf (l.drop (i + 1)))).length := by rw [spl_len (by rw [hl2]; omega)]; omega
  generalize spl cur (i * 6) (cellsOf (l.drop (i + 1))) = c1 at h2 h3 ⊢
  have h4 : (spl c1 ((l.length - 1) * 6) z).take ((l.length - 1) * 6) = c1.take ((l.length - 1) * 6) := by
    unfold spl
    rw [List.append_assoc]
    exact List.take_left' (by rw [List.length_take]; omega)
  rw [h4, h2]
  unfold delAt
  rw [cellsOf_app]
/-- append(s[:i], s[j:]...) in a row with room for it, as a step of a region that draws. -/
theorem step_append_row {ops : Array Oper} {o : Oper} {a : Act} {w : World} {K : Act → World → Prop} {Q : Exit → Act → World → Prop} {E : Prop} (hgd : o.guard = none) (s x : Operand)
    (hop : o.op = Op.call { callee := Callee.builtin Builtin.append, args := #[s, x], argTypes := #[22, 22] })
    (g n cap : Nat) (hs : a.eval s = .slice (some ⟨g, 0, none⟩) n cap) (ad : Addr) (m c : Nat) (hx : a.eval x = .slice (some ad) m c) (cur : List Value) (hg : w.heap[g]? = some (.cells cur.toArray 50 (0, 0)))
    (news : List Value) (hl : news.length = m * 6) (hnews : ∀ j u, news[j]? = some u → w.cell? (ad.add j) = some u) (h1 : ∀ u ∈ news, u.oneCell' = true) (hroom : n + m ≤ cap) (hfit : n * 6 + news.length ≤ cur.length)
    (hK : K (a.put o.dst (.slice (some ⟨g, 0, none⟩) (n + m) cap)) (w.setRow g (spl cur (n * 6) news).toArray)) : if Region.wanted o (yielded ops a.tmps) = true then Oper.wp Try.prog o a w K Q else E := by
  have hw : Region.wanted o (yielded ops a.tmps) = true := by simp [Region.wanted, hgd]
  rw [if_pos hw]
  obtain ⟨i0, hi, hz0, hz1, hz2⟩ := info_parts infoElem
  have hr := run_append_room (P := Try.prog) w 22 o.type 50 i0 Try.underlying22 hi g n cap cur.toArray hg ad m c news (by rw [hz1]; exact hl) hnews h1 hroom (by rw [hz1]; simpa using hfit)
  rw [hz1] at hr
  unfold Oper.wp
  simp only [execOp, hop, resolve, invoke, builtin, Sem.run_bind, Sem.run_pure, Result.andThen_ok, List.map_toArray, List.map_cons, List.map_nil, hs, hx, hr]
  exact hK
def zeroVals : List Value := [.int .i64 0, .int .i64 0, .int .i64 0, .int .i64 0, .int .i64 0, .string ByteArray.empty]
theorem zeroElem : ∀ w, (zeroValue 50).run Try.prog w = .ok (.agg #[.int .i64 0, .int .i64 0, .int .i64 0, .int .i64 0, .int .i64 0, .string ByteArray.empty]) w := fun _ => by kernel_rfl
theorem run_clear_el (w : World) (ty : TypeId) (g o c : Nat) (cur : List Value) (hg : w.heap[g]? = some (.cells cur.toArray 50 (0, 0))) (hfit : o + 6 ≤ cur.length) :
    (Builtin.clear_ #[22] ty #[.slice (some ⟨g, o, none⟩) 1 c]).run Try.prog w = .ok (.tuple #[]) (w.setRow g (spl cur o zeroVals).toArray) := by
  have hzc : (Builtin.zeroCells (Value.agg #[.int .i64 0, .int .i64 0, .int .i64 0, .int .i64 0, .int .i64 0, .string ByteArray.empty]).cells 1).toList = zeroVals := by kernel_rfl
  have hzd : (Builtin.zeroCells (Value.agg #[.int .i64 0, .int .i64 0, .int .i64 0, .int .i64 0, .int .i64 0, .string { data := #[] }]).cells 1).toList = zeroVals := hzc
  have hst := run_storeCells_at Try.prog g o 50 zeroVals 0 cur.toArray w hg (by simp [zeroVals]; omega) (by intro u hu; simp only [zeroVals, List.mem_cons, List.not_mem_nil, or_false] at hu; rcases hu with rfl | rfl | rfl | rfl | rfl | rfl <;> rfl)
  simp [Builtin.clear_, run_underlying Try.underlying22, hzd, hst, spl]
set_option maxHeartbeats 8000000 in
theorem delete_any (base g i n cap : Nat) (l : List El) (w : World) (hn : n = l.length) (hi : i < n) (hn4 : n ≤ 400) (ho : OwnR base w (.slice (some ⟨g, 0, none⟩) n cap) l) :
    Calls Try.prog 89 #[.slice (some ⟨g, 0, none⟩) n cap, .int .i64 i, .int .i64 ((i : Int) + 1)] w (OwnEnd base (delAt l i) w) := by
  rcases id ho.2 with ⟨h, _⟩ | ⟨g', cap', cur0, hv, hbg, hg0, hnc, hcm, hcs, ht⟩
  · cases h
  injection hv with h1 h2 h3
  injection h1 with h1
  injection h1 with h1
  subst h1; subst h3
  clear ho h2
  obtain ⟨cur, rfl⟩ : ∃ cur : List Value, cur.toArray = cur0 := ⟨cur0.toList, by simp⟩
  simp only [List.size_toArray] at hcs ht
  rw [← hn] at hnc ht
  have hc63 : cap ≤ 9223372036854775807 := by unfold maxLen at hcm; exact hcm
  have hdl : (cellsOf (l.drop (i + 1))).length = (n - (i + 1)) * 6 := by rw [cellsOf_len, List.length_drop, hn]
  have hfit1 : i * 6 + (cellsOf (l.drop (i + 1))).length ≤ cur.length := by omega
  obtain ⟨A, hA, hsrc⟩ : ∃ A : Addr, (if cap = i + 1 then some (⟨g, 0, none⟩ : Addr) else some ⟨g, (i + 1) * 6, none⟩) = some A ∧ Hid (∀ j u, (cellsOf (l.drop (i + 1)))[j]? = some u → w.drew.cell? (A.add j) = some u) := by
    by_cases h : cap = i + 1
    · refine ⟨⟨g, 0, none⟩, by simp [h], show ∀ _, _ from fun j u hu => ?_⟩
      have h0 : (cellsOf (l.drop (i + 1))).length = 0 := by rw [hdl]; omega
      rw [List.eq_nil_of_length_eq_zero h0] at hu; simp at hu
    · refine ⟨⟨g, (i + 1) * 6, none⟩, by simp [h], show ∀ _, _ from fun j u hu => ?_⟩
      have hj : j < (n - (i + 1)) * 6 := by rw [← hdl]; exact (List.getElem?_eq_some_iff.1 hu).1
      rw [← cellsOf_drop (by omega), List.getElem?_drop, ← ht, List.getElem?_take, if_pos (by omega)] at hu
      rw [Addr.add_lit]
      show w.cell? _ = _
      rw [cell_of_row _ _ _ _ _ _ hg0, ← hu, List.getElem?_toArray]
  obtain ⟨c1, hc1⟩ : ∃ c1, c1 = spl cur (i * 6) (cellsOf (l.drop (i + 1))) := ⟨_, rfl⟩
  have hc1l : c1.length = cur.length := by rw [hc1]; exact spl_len hfit1
  obtain ⟨W1, hW1⟩ : ∃ W1, W1 = w.drew.setRow g c1.toArray := ⟨_, rfl⟩
  have hWg : W1.heap[g]? = some (.cells c1.toArray 50 (0, 0)) := by rw [hW1]; exact setRow_heap _ _ _ _ _ _ hg0
  have hcl : ∀ ty c, (Builtin.clear_ #[22] ty #[.slice (some ⟨g, (n - 1) * 6, none⟩) (n - (n - 1)) c]).run Try.prog W1 = .ok (.tuple #[]) (W1.setRow g (spl c1 ((n - 1) * 6) zeroVals).toArray) := fun ty c => by
    rw [show n - (n - 1) = 1 by omega]; exact run_clear_el W1 ty g _ c c1 hWg (by omega)
  have hdn := delAt_len (l := l) (i := i) (by omega)
  have HEND : Hid (OwnEnd base (delAt l i) w (.returned (.slice (some ⟨g, 0, none⟩) (n - 1) cap)) (W1.setRow g (spl c1 ((n - 1) * 6) zeroVals).toArray)) := by
    refine ⟨_, rfl, ?_, fun w0 h0 hc => ?_⟩
    · have hfin : (W1.setRow g (spl c1 ((n - 1) * 6) zeroVals).toArray).heap[g]? = some (.cells (spl c1 ((n - 1) * 6) zeroVals).toArray 50 (0, 0)) := setRow_heap _ _ _ _ _ _ hWg
      rw [hn, ← hdn] at hfin ⊢
      refine OwnR.row hbg hfin (by omega) hcm (by rw [spl_len (by show _ + 6 ≤ _; omega)]; omega) ?_
      rw [hdn, hc1]
      exact row_del _ (by omega) (by rw [← hn]; exact ht) (by omega)
    · rw [hW1]
      exact ((hc.drew.setRow (by omega) _).setRow (by omega) _)
  have hW := Lib.hid hW1
  have HC := Lib.hid hc1
  have s1 := Lib.hid hdl
  have s2 : Hid (∀ u ∈ cellsOf (l.drop (i + 1)), u.oneCell' = true) := cellsOf_one _
  have s3 : Hid (w.drew.heap[g]? = some (.cells cur.toArray 50 (0, 0))) := hg0
  have s4 := Lib.hid hfit1
  have hic : i ≤ cap := by omega
  have hjc : i + 1 ≤ cap := by omega
  have hb5 : (i : Int) < (n : Int) := by omega
  have hb6 : (i : Int) + 1 ≤ (n : Int) := by omega
  have hb7 : ¬ ((i : Int) = (i : Int) + 1) := by omega
  have htn : ((i : Int) + 1).toNat = i + 1 := by omega
  have hb8 : (0 : Int) ≤ (i : Int) + 1 := by omega
  have hb9 : i + (n - (i + 1)) = n - 1 := by omega
  clear hW1 hWg hc1 hdl hfit1 hg0 hcs ht hdn hc1l hn
  go_enter Try.func89, Try.ntmps89
  go_wp2_with fail
  go_region_law (refine step_append_row rfl (.tmp 22) (.tmp 25) rfl g i cap (by simp [Act.eval, Act.put]) A (n - (i + 1)) (cap - (i + 1)) (by simp [Act.eval, Act.put]) cur s3.out (cellsOf (l.drop (i + 1))) s1.out hsrc.out s2.out (by omega) s4.out ?_; rw [← HC.out, ← hW.out])
  go_wp2_with fail
  go_ret
  exact HEND.out
open Go.RowKit
theorem cutErr_eq {l : List El} {k : Int × Int × Int} {t : Int} (h : wrErr l (fresh k { data := #[] } t) = 0) : cutErr l k t = if l.any (isOpen k) then 0 else 4 := by
 unfold cutErr; rw [if_pos h]
open Go.RowKit
def SoEnd (l : List El) (n : Int) (w : World) (e : Ending) (w' : World) : Prop := ∃ v, e = .returned (.tuple #[v, .int .i64 n]) ∧ OwnR w.heap.size w' v l ∧ Calm w w'
theorem OwnR.weaken_ {base base' : Nat} {w : World} {v : Value} {l : List El} (h : OwnR base w v l) (hb : base' ≤ base) : OwnR base' w v l := ⟨h.1, h.2.imp id fun ⟨g, cap, cur, h1, h2, h3⟩ => ⟨g, cap, cur, h1, Nat.le_trans hb h2, h3⟩⟩
set_option maxHeartbeats 16000000 in
theorem runCut_own (A : Option Addr) (d : Nat) (l : List El) (p' o' f' : Int) (t : Int) (w : World) (hn : l.length ≤ 9223372036854775807) (hL : Lies w A l) :
    Calls Try.prog 46 #[.slice A l.length d, .agg #[.int .i64 p', .int .i64 o', .int .i64 f'], .int .i64 t] w (SoEnd (if cutErr l (p', o', f') t = 0 then cutR l (p', o', f') t else []) (cutErr l (p', o', f') t) w) := by
  have hy := heap_new w (.cells #[.int .i64 p', .int .i64 o', .int .i64 f'] 27)
  have hu := (Calm.refl w).alloc (.cells #[.int .i64 p', .int .i64 o', .int .i64 f'] 27)
  have cW : ∀ u, Calm w u → Calls Try.prog 84 #[.slice A l.length d, .agg #[.int .i64 p', .int .i64 o', .int .i64 f', .int .i64 t, .int .i64 0, .string { data := #[] }]] u fun e w' => e = .returned (.int .i64 (wrErr l (fresh (p', o', f') { data := #[] } t))) ∧ Calm u w' := fun u hu => checkWrite_any A d l p' o' f' t 0 { data := #[] } u hn (hL.calm hu)
  by_cases he : wrErr l (fresh (p', o', f') { data := #[] } t) = 0
  rotate_left
  · have e1 : cutErr l (p', o', f') t = wrErr l (fresh (p', o', f') { data := #[] } t) := by unfold cutErr; rw [if_neg he]
    rw [e1, if_neg he]
    have b1 : (wrErr l (fresh (p', o', f') { data := #[] } t) != 0) = true := by simpa using he
    generalize wrErr l (fresh (p', o', f') { data := #[] } t) = x at b1 cW
    clear he e1 hL
    go_enter Try.func46, Try.ntmps46
    go_wp2_with (go_at_call 84; refine (cW _ hu).mono ?_; rintro e w1 ⟨rfl, hb1⟩; replace hy := (hb1.block (row3 hy).2.2.2).trans hy; replace hu := hu.call hb1; clear hb1; obtain ⟨y0, y1, y2, hys⟩ := row3 hy)
    go_ret2
    exact ⟨_, rfl, OwnR.nil _ _, hu⟩
  rw [he] at cW
  have hgood := cut_good he
  obtain ⟨hG, hx, hlt⟩ := wrErr_zero.1 he
  have hlt' : latest l ≤ t := hlt
  have hpe := cutErr_eq he
  have hn4 := hG.1
  have cV : ∀ u, Calm w u → Calls Try.prog 85 #[.slice A l.length d, .agg #[.int .i64 p', .int .i64 o', .int .i64 f'], .int .i64 t] u fun e w' => e = .returned (.tuple #[.int .i64 (if hitB l (pos l (p', o', f') t) (p', o', f') t then (pos l (p', o', f') t : Int) - 1 else 0), .bool (hitB l (pos l (p', o', f') t) (p', o', f') t)]) ∧ Calm u w' :=
    fun u hu => liveRun_any A d l p' o' f' t u hn4 (hL.calm hu) hG.2.2
  have cC : ∀ u, Calm w u → Calls Try.prog 37 #[.slice A l.length d] u fun e w' => ∃ v, e = .returned v ∧ OwnR u.heap.size w' v l ∧ Calm u w' := fun u hu => clone_any A d l u hn4 (hL.calm hu)
  rcases hit_open hG (p', o', f') hlt' with ⟨h1, h2, hi, h3, h4⟩ | ⟨h1, h2⟩
  rotate_left
  · rw [h1] at cV
    simp only [Bool.false_eq_true, if_false] at cV
    have e1 : cutErr l (p', o', f') t = 4 := by rw [hpe, open_no h2]; rfl
    rw [e1, if_neg (by decide)]
    clear hgood hpe e1 h1 h2 hlt hlt' hx he hG hL
    go_enter Try.func46, Try.ntmps46
    go_wp2_with (first
      | (go_at_call 84; refine (cW _ hu).mono ?_; rintro e w1 ⟨rfl, hb1⟩; replace hy := (hb1.block (row3 hy).2.2.2).trans hy; replace hu := hu.call hb1; clear hb1; obtain ⟨y0, y1, y2, hys⟩ := row3 hy; clear cW)
      | (go_at_call 85; refine (cV _ hu).mono ?_; rintro e w1 ⟨rfl, hb1⟩; replace hy := (hb1.block (row3 hy).2.2.2).trans hy; replace hu := hu.call hb1; clear hb1; obtain ⟨y0, y1, y2, hys⟩ := row3 hy; clear cV))
    go_ret2
    exact ⟨_, rfl, OwnR.nil _ _, hu⟩
  rw [h1, if_pos rfl, show (pos l (p', o', f') t : Int) - 1 = ((pos l (p', o', f') t - 1 : Nat) : Int) by omega] at cV
  have e1 : cutErr l (p', o', f') t = 0 := by rw [hpe, open_any hi h3]; rfl
  have e2 := cut_at (t := t) hi h3 h4
  rw [e1, if_pos rfl]
  rw [e2] at hgood ⊢
  generalize pos l (p', o', f') t - 1 = j at hi e2 hgood cV ⊢
  clear e1 e2 h1 h2 h3 h4 hpe hlt' hlt hx he hG
  obtain ⟨p, o, f, m, g, s, e4⟩ : ∃ p o f m g s, l[j] = ⟨p, o, f, m, g, s⟩ := ⟨_, _, _, _, _, _, rfl⟩
  have hjz : (j : Int) < (l.length : Int) := by omega
  have hj1 : (j : Int) + 1 ≤ 401 := by omega
  by_cases hm : m = t
  · rw [if_pos (by rw [e4]; exact hm)] at hgood ⊢
    have hwf := Lib.hid hgood.wf
    have E4 := Lib.hid e4
    clear hgood hL e4
    subst hm
    go_enter Try.func46, Try.ntmps46
    go_wp2_with (first
      | (go_at_call 84; refine (cW _ hu).mono ?_; rintro e w1 ⟨rfl, hb1⟩; replace hy := (hb1.block (row3 hy).2.2.2).trans hy; replace hu := hu.call hb1; clear hb1; obtain ⟨y0, y1, y2, hys⟩ := row3 hy; clear cW)
      | (go_at_call 85; refine (cV _ hu).mono ?_; rintro e w1 ⟨rfl, hb1⟩; replace hy := (hb1.block (row3 hy).2.2.2).trans hy; replace hu := hu.call hb1; clear hb1; obtain ⟨y0, y1, y2, hys⟩ := row3 hy; clear cV)
      | (go_at_call 37; refine (cC _ hu).mono ?_; rintro e w2 ⟨v, rfl, ho, hb1⟩; obtain ⟨g', cap, rfl⟩ := ho.some (by omega); have HO := Lib.hid ho; obtain ⟨⟨d0, d1, d2, d3, d4, d5⟩, hfz, hbg, hgl, _, hcn⟩ := ho.cell hi; rw [E4.out] at d3; have hu2 := hu.call hb1; have hw1 := Lib.hid hu.size; clear cC ho hfz d0 d1 d2 d4 d5 hb1)
      | (go_at_call 89; refine (delete_any _ g' j l.length cap l _ rfl hi hn4 HO.out).mono ?_; rintro e w3 ⟨v, rfl, ho9, hk9⟩; have HO9 := Lib.hid ho9; have hu9 := hk9 w hw1.out hu2; clear ho9 hk9))
    go_ret2
    exact ⟨_, rfl, OwnR.weaken_ HO9.out hw1.out, hu9⟩
  · rw [if_neg (by rw [e4]; exact hm)] at hgood ⊢
    have hwf := Lib.hid hgood.wf
    have E4 := Lib.hid e4
    clear hgood hL e4
    go_enter Try.func46, Try.ntmps46
    go_wp2_with (first
      | (go_at_call 84; refine (cW _ hu).mono ?_; rintro e w1 ⟨rfl, hb1⟩; replace hy := (hb1.block (row3 hy).2.2.2).trans hy; replace hu := hu.call hb1; clear hb1; obtain ⟨y0, y1, y2, hys⟩ := row3 hy; clear cW)
      | (go_at_call 85; refine (cV _ hu).mono ?_; rintro e w1 ⟨rfl, hb1⟩; replace hy := (hb1.block (row3 hy).2.2.2).trans hy; replace hu := hu.call hb1; clear hb1; obtain ⟨y0, y1, y2, hys⟩ := row3 hy; clear cV)
      | (go_at_call 37; refine (cC _ hu).mono ?_; rintro e w2 ⟨v, rfl, ho, hb1⟩; obtain ⟨g', cap, rfl⟩ := ho.some (by omega); have HO := Lib.hid ho; obtain ⟨⟨d0, d1, d2, d3, d4, d5⟩, hfz, hbg, hgl, _, hcn⟩ := ho.cell hi; rw [E4.out] at d3; have hfz4 := hfz (j * 6 + 4); have hu2 := hu.call hb1; have hbw := Nat.le_trans hu.size hbg; clear cC ho hfz d0 d1 d2 d5 hb1))
    go_ret2
    exact ⟨_, rfl, OwnR.weaken_ (HO.out.set (x := { l[j] with g := t }) hi (by omega) (by rw [E4.out]; rfl)) hu.size, hu2.setCell hbw _⟩
open Go.RowKit
set_option maxHeartbeats 16000000 in
theorem runPut_own (A : Option Addr) (d : Nat) (l : List El) (p' o' f' : Int) (s' : ByteArray) (t : Int) (w : World) (hn : l.length ≤ 9223372036854775807) (hL : Lies w A l) :
    Calls Try.prog 44 #[.slice A l.length d, .agg #[.int .i64 p', .int .i64 o', .int .i64 f'], .string s', .int .i64 t] w (SoEnd (if putErr l (p', o', f') s' t = 0 then putR l (p', o', f') s' t else []) (putErr l (p', o', f') s' t) w) := by
  have hy : ((w.alloc (.cells #[.int .i64 p', .int .i64 o', .int .i64 f'] 27)).alloc (.cells #[.int .i64 p', .int .i64 o', .int .i64 f', .int .i64 t, .int .i64 0, .string s'] 50)).heap[w.heap.size]? = some (.cells #[.int .i64 p', .int .i64 o', .int .i64 f'] 27 (0, 0)) := heap_past _ (heap_new _ _)
  have hz : ((w.alloc (.cells #[.int .i64 p', .int .i64 o', .int .i64 f'] 27)).alloc (.cells #[.int .i64 p', .int .i64 o', .int .i64 f', .int .i64 t, .int .i64 0, .string s'] 50)).heap[w.heap.size + 1]? = some (.cells #[.int .i64 p', .int .i64 o', .int .i64 f', .int .i64 t, .int .i64 0, .string s'] 50 (0, 0)) := by simpa using heap_new (w.alloc (.cells #[.int .i64 p', .int .i64 o', .int .i64 f'] 27)) (.cells #[.int .i64 p', .int .i64 o', .int .i64 f', .int .i64 t, .int .i64 0, .string s'] 50)
  have hu := ((Calm.refl w).alloc (.cells #[.int .i64 p', .int .i64 o', .int .i64 f'] 27)).alloc (.cells #[.int .i64 p', .int .i64 o', .int .i64 f', .int .i64 t, .int .i64 0, .string s'] 50)
  have cW : ∀ u, Calm w u → Calls Try.prog 84 #[.slice A l.length d, .agg #[.int .i64 p', .int .i64 o', .int .i64 f', .int .i64 t, .int .i64 0, .string s']] u fun e w' => e = .returned (.int .i64 (wrErr l (fresh (p', o', f') s' t))) ∧ Calm u w' := fun u hu => checkWrite_any A d l p' o' f' t 0 s' u hn (hL.calm hu)
  by_cases he : wrErr l (fresh (p', o', f') s' t) = 0
  rotate_left
  · have e1 : putErr l (p', o', f') s' t = wrErr l (fresh (p', o', f') s' t) := by unfold putErr; rw [if_neg he]
    rw [e1, if_neg he]
    have b1 : (wrErr l (fresh (p', o', f') s' t) != 0) = true := by simpa using he
    generalize wrErr l (fresh (p', o', f') s' t) = x at b1 cW
    clear he e1 hL
    go_enter Try.func44, Try.ntmps44
    go_wp2_with (go_at_call 84; refine (cW _ hu).mono ?_; rintro e w1 ⟨rfl, hb1⟩; replace hy := (hb1.block (row3 hy).2.2.2).trans hy; replace hz := (hb1.block (row6 hz).2.2.2.2.2.2).trans hz; replace hu := hu.call hb1; clear hb1; obtain ⟨y0, y1, y2, hys⟩ := row3 hy; obtain ⟨z0, z1, z2, z3, z4, z5, hzs⟩ := row6 hz)
    go_ret2
    exact ⟨_, rfl, OwnR.nil _ _, hu⟩
  rw [he] at cW
  have hgood := fun hp : putErr l (p', o', f') s' t = 0 => put_good he hp
  obtain ⟨hG, hx, hlt⟩ := wrErr_zero.1 he
  obtain ⟨q1, q2, q3⟩ := sizes he
  have hpe : putErr l (p', o', f') s' t = if l.any (isSame (p', o', f') t) then 0 else if 400 ≤ l.length then 8 else 0 := by unfold putErr; rw [if_pos he]
  have hlt' : latest l ≤ t := hlt
  have hn4 := hG.1
  have cV : ∀ u, Calm w u → Calls Try.prog 85 #[.slice A l.length d, .agg #[.int .i64 p', .int .i64 o', .int .i64 f'], .int .i64 t] u fun e w' => e = .returned (.tuple #[.int .i64 (if hitB l (pos l (p', o', f') t) (p', o', f') t then (pos l (p', o', f') t : Int) - 1 else 0), .bool (hitB l (pos l (p', o', f') t) (p', o', f') t)]) ∧ Calm u w' :=
    fun u hu => liveRun_any A d l p' o' f' t u hn4 (hL.calm hu) hG.2.2
  have cC : ∀ u, Calm w u → Calls Try.prog 37 #[.slice A l.length d] u fun e w' => ∃ v, e = .returned v ∧ OwnR u.heap.size w' v l ∧ Calm u w' := fun u hu => clone_any A d l u hn4 (hL.calm hu)
  rcases hit_open hG (p', o', f') hlt' with ⟨h1, h2, hi, h3, h4⟩ | ⟨h1, h2⟩
  · rw [h1, if_pos rfl, show (pos l (p', o', f') t : Int) - 1 = ((pos l (p', o', f') t - 1 : Nat) : Int) by omega] at cV
    have hpos : pos l (p', o', f') t = (pos l (p', o', f') t - 1) + 1 := by omega
    by_cases hm : l[pos l (p', o', f') t - 1].m = t
    · obtain ⟨e1, e2⟩ := put_same (s := s') hi h3 h4 hm
      have e3 : putErr l (p', o', f') s' t = 0 := by rw [hpe, e1]; rfl
      have hgd := hgood e3
      rw [e3, if_pos rfl]
      rw [e2] at hgd ⊢
      generalize pos l (p', o', f') t - 1 = j at hi hm hgd cV ⊢
      clear e1 e2 e3 h1 h2 h3 h4 hpe hgood hpos hlt' hlt hx he hG
      have hwf := hgd.wf
      obtain ⟨b, q, p, o, f, m, g, s, rfl, hb, HE, hm', c0, c1, c2, c3, c4, c5⟩ := hL.get hi
      have e4 : l[j] = ⟨p, o, f, m, g, s⟩ := (List.getElem?_eq_some_iff.1 HE.out).2
      rw [e4] at hm
      simp only at hm
      subst hm
      have hC3 : ∀ u, Calm w u → u.cell? ⟨b, q + j * 6 + 3, none⟩ = some (.int .i64 m) := fun u hu => (hu.facts.1 _ _ hb).trans c3
      have hjz : (j : Int) < (l.length : Int) := by omega
      have E4 := Lib.hid e4
      clear c0 c1 c2 c3 c4 c5 HE e4 hL
      go_enter Try.func44, Try.ntmps44
      go_wp2_with (first
        | (go_at_call 84; refine (cW _ hu).mono ?_; rintro e w1 ⟨rfl, hb1⟩; replace hy := (hb1.block (row3 hy).2.2.2).trans hy; replace hz := (hb1.block (row6 hz).2.2.2.2.2.2).trans hz; replace hu := hu.call hb1; clear hb1; obtain ⟨y0, y1, y2, hys⟩ := row3 hy; obtain ⟨z0, z1, z2, z3, z4, z5, hzs⟩ := row6 hz; clear cW)
        | (go_at_call 85; refine (cV _ hu).mono ?_; rintro e w1 ⟨rfl, hb1⟩; replace hy := (hb1.block (row3 hy).2.2.2).trans hy; replace hz := (hb1.block (row6 hz).2.2.2.2.2.2).trans hz; replace hu := hu.call hb1; clear hb1; obtain ⟨y0, y1, y2, hys⟩ := row3 hy; obtain ⟨z0, z1, z2, z3, z4, z5, hzs⟩ := row6 hz; have c3 := hC3 _ hu; clear cV hC3)
        | (go_at_call 37; refine (cC _ hu).mono ?_; rintro e w2 ⟨v, rfl, ho, hb1⟩; obtain ⟨g', cap, rfl⟩ := ho.some (by omega); have HO := Lib.hid ho; obtain ⟨⟨d0, d1, d2, d3, d4, d5⟩, hfz, hbg, hgl, _, hcn⟩ := ho.cell hi; have hfz5 := hfz (j * 6 + 5); have hu2 := hu.call hb1; have hbw := Nat.le_trans hu.size hbg; clear cC ho hfz))
      go_ret2
      exact ⟨_, rfl, OwnR.weaken_ (HO.out.set (x := { l[j] with s := s' }) hi (by omega) (by rw [E4.out]; rfl)) hu.size, hu2.setCell hbw _⟩
    · obtain ⟨e1, e2, e3, e4⟩ := put_new (s := s') hG hi h3 h4 hm hlt' q2 q1
      have hpe2 : putErr l (p', o', f') s' t = if 400 ≤ l.length then 8 else 0 := by rw [hpe, e1]; rfl
      have hm2 : ¬ (l[pos l (p', o', f') t - 1].m = t) := hm
      obtain ⟨b, q, p, o, f, m, g, s, rfl, hb, HE, hm', c0, c1, c2, c3, c4, c5⟩ := hL.get hi
      have e5 : l[pos l (p', o', f') t - 1] = ⟨p, o, f, m, g, s⟩ := (List.getElem?_eq_some_iff.1 HE.out).2
      rw [e5] at hm2
      simp only at hm2
      have hC3 : ∀ u, Calm w u → u.cell? ⟨b, q + (pos l (p', o', f') t - 1) * 6 + 3, none⟩ = some (.int .i64 m) := fun u hu => (hu.facts.1 _ _ hb).trans c3
      have E5 := Lib.hid e5
      clear c0 c1 c2 c3 c4 c5 HE e5 hL
      by_cases hfull : 400 ≤ l.length
      · rw [if_pos hfull] at hpe2
        rw [hpe2, if_neg (by decide)]
        have hl4 : (l.length : Int) = 400 := by omega
        have hjz : ((pos l (p', o', f') t - 1 : Nat) : Int) < (l.length : Int) := by omega
        generalize pos l (p', o', f') t - 1 = j at *
        clear hgood hpe hpe2 e1 e2 e3 e4 h1 h2 h3 h4 hpos hlt hlt' hx he hG hm
        clear hfull hn4
        go_enter Try.func44, Try.ntmps44
        go_wp2_with (first
          | (go_at_call 84; refine (cW _ hu).mono ?_; rintro e w1 ⟨rfl, hb1⟩; replace hy := (hb1.block (row3 hy).2.2.2).trans hy; replace hz := (hb1.block (row6 hz).2.2.2.2.2.2).trans hz; replace hu := hu.call hb1; clear hb1; obtain ⟨y0, y1, y2, hys⟩ := row3 hy; obtain ⟨z0, z1, z2, z3, z4, z5, hzs⟩ := row6 hz; clear cW)
          | (go_at_call 85; refine (cV _ hu).mono ?_; rintro e w1 ⟨rfl, hb1⟩; replace hy := (hb1.block (row3 hy).2.2.2).trans hy; replace hz := (hb1.block (row6 hz).2.2.2.2.2.2).trans hz; replace hu := hu.call hb1; clear hb1; obtain ⟨y0, y1, y2, hys⟩ := row3 hy; obtain ⟨z0, z1, z2, z3, z4, z5, hzs⟩ := row6 hz; have c3 := hC3 _ hu; clear cV hC3))
        go_ret2
        exact ⟨_, rfl, OwnR.nil _ _, hu⟩
      · rw [if_neg hfull] at hpe2
        have hgd := hgood hpe2
        rw [hpe2, if_pos rfl]
        rw [e4] at hgd ⊢
        have hl4 : ¬ ((l.length : Int) = 400) := by omega
        have hpl := pos_le l (p', o', f') t
        have HP := Lib.hid hpos
        clear hgood hpe hpe2 e1 e4 h1 h2 h3 h4 hpos hlt hlt' hx he hG hm
        generalize hpj : pos l (p', o', f') t - 1 = j at *
        have hjz : (j : Int) < (l.length : Int) := by omega
        have hq : (l.set j { l[j] with g := t }) = l.set j ⟨p, o, f, m, t, s⟩ := by rw [E5.out]
        rw [hq] at hgd e2 e3 ⊢
        clear hq hpj
        go_enter Try.func44, Try.ntmps44
        go_upto_region 15 with (first
          | (go_at_call 84; refine (cW _ hu).mono ?_; rintro e w1 ⟨rfl, hb1⟩; replace hy := (hb1.block (row3 hy).2.2.2).trans hy; replace hz := (hb1.block (row6 hz).2.2.2.2.2.2).trans hz; replace hu := hu.call hb1; clear hb1; obtain ⟨y0, y1, y2, hys⟩ := row3 hy; obtain ⟨z0, z1, z2, z3, z4, z5, hzs⟩ := row6 hz; clear cW)
          | (go_at_call 85; refine (cV _ hu).mono ?_; rintro e w1 ⟨rfl, hb1⟩; replace hy := (hb1.block (row3 hy).2.2.2).trans hy; replace hz := (hb1.block (row6 hz).2.2.2.2.2.2).trans hz; replace hu := hu.call hb1; clear hb1; obtain ⟨y0, y1, y2, hys⟩ := row3 hy; obtain ⟨z0, z1, z2, z3, z4, z5, hzs⟩ := row6 hz; have c3 := hC3 _ hu; clear cV hC3)
          | (go_at_call 37; refine (cC _ hu).mono ?_; rintro e w2 ⟨v, rfl, ho, hb1⟩; obtain ⟨g', cap, rfl⟩ := ho.some (by omega); have HO := Lib.hid ho; obtain ⟨⟨d0, d1, d2, d3, d4, d5⟩, hfz, hbg, hgl, _, hcn⟩ := ho.cell hi; have hfz4 := hfz (j * 6 + 4); have hz2 := (hb1.block (row6 hz).2.2.2.2.2.2).trans hz; have hu2 := hu.call hb1; have hbw := Nat.le_trans hu.size hbg; clear cC ho hfz))
        have HO2 := Lib.hid (HO.out.set (x := ⟨p, o, f, m, t, s⟩) hi (by omega : 4 < 6) (by rw [E5.out]; rfl : _ = l[j].cells.set 4 (.int .i64 t)))
        have hz3 := (Below.heap_setCell w2 ⟨g', j * 6 + 4, none⟩ (.int .i64 t) (w.heap.size + 1) (by show _ ≠ g'; omega)).trans hz2
        have hu3 := hu2.setCell (p := ⟨g', j * 6 + 4, none⟩) hbw (.int .i64 t)
        have hwl : w1.heap.size ≤ (w2.setCell ⟨g', j * 6 + 4, none⟩ (.int .i64 t)).heap.size := by simp; omega
        generalize w2.setCell ⟨g', j * 6 + 4, none⟩ (.int .i64 t) = w3 at HO2 hz3 hu3 hwl ⊢
        have hwf := e2.wf
        have hL1 := (HO2.out.reads hwf).2
        have cF : ∀ u, Calm w3 u → Calls Try.prog 87 #[.slice (some ⟨g', 0, none⟩) l.length cap, .agg #[.int .i64 p', .int .i64 o', .int .i64 f', .int .i64 t]] u fun e w' => e = .returned (.int .i64 (pos l (p', o', f') t)) ∧ Calm u w' := fun u hu => by
          have h := after_any (some ⟨g', 0, none⟩) cap (l.set j ⟨p, o, f, m, t, s⟩) p' o' f' t u (by rw [List.length_set]; exact hn4) (hL1.calm hu) e2.2.2
          rw [List.length_set, show pos (l.set j ⟨p, o, f, m, t, s⟩) (p', o', f') t = pos l (p', o', f') t from by rw [← E5.out] at *; exact e3] at h
          exact h
        have cI : ∀ u h, Calm w3 u → w3.drew.heap.size ≤ h → u.heap[h]? = some (.cells #[.int .i64 p', .int .i64 o', .int .i64 f', .int .i64 t, .int .i64 0, .string s'] 50 (0, 0)) → Calls Try.prog 86 #[.slice (some ⟨g', 0, none⟩) l.length cap, .int .i64 (pos l (p', o', f') t), .slice (some ⟨h, 0, none⟩) 1 1] u (OwnEnd w1.heap.size (insAt (l.set j ⟨p, o, f, m, t, s⟩) (pos l (p', o', f') t) (fresh (p', o', f') s' t)) u) := fun u h hv hgh0 hh =>
          have hgh : g' < h := Nat.lt_of_lt_of_le (HO2.out.lt g' rfl).2 hgh0
          insert_any w1.heap.size h (pos l (p', o', f') t) _ (l.set j ⟨p, o, f, m, t, s⟩) p' o' f' t 0 s' u (by rw [List.length_set]; exact hpl) (by rw [List.length_set]; exact hn4) (HO2.out.calm hv) (Nat.le_trans hwl hv.size) hh (fun e => Nat.ne_of_lt hgh (by simpa [Value.ownBlock] using e))
        have hwf2 := Lib.hid hgd.wf
        have hw1 := hu.size
        clear hgd e2 e3 HP hpl E5 HO HO2 hL1 hwf d0 d1 d2 d3 d4 d5 hfz4 hz2 hu2 hwl y0 y1 y2 hys z0 z1 z2 z3 z4 z5 hzs hy hz c3
        generalize pos l (p', o', f') t = P at *
        generalize insAt (l.set j ⟨p, o, f, m, t, s⟩) P (fresh (p', o', f') s' t) = R at *
        obtain ⟨z0, z1, z2, z3, z4, z5, hzs⟩ := row6 hz3
        have HW1 := Lib.hid hw1
        clear hw1 q1 q2 q3 hn hn4 hm2 hb hm' hfull hl4 hjz hi hb1 hbg hgl hcn hbw hz3
        refine wp_region_plan_tail 7 [.val (.slice (some ⟨g', 0, none⟩) l.length cap), .val (.slice (some ⟨g', 0, none⟩) l.length cap), .val (.agg #[.int .i64 p', .int .i64 o', .int .i64 f', .int .i64 t, .int .i64 0, .string s']), .val (.agg #[.int .i64 p', .int .i64 o', .int .i64 f', .int .i64 t]), .val (.int .i64 P), .val (.agg #[.int .i64 p', .int .i64 o', .int .i64 f', .int .i64 t, .int .i64 0, .string s']), .new #[.int .i64 p', .int .i64 o', .int .i64 f', .int .i64 t, .int .i64 0, .string s'] 50 (some 1)] (by kernel_rfl) (by kernel_rfl) (by kernel_rfl) (by kernel_rfl) ?_
        intro X
        simp only [List.take_succ_cons, List.take_zero, List.drop_succ_cons, List.drop_zero]
        iterate 6
          refine plan_val (by kernel_rfl) (fun u hu => ?_) ?_
          · obtain ⟨hc, hf, hz⟩ := hu.of_drew.facts
            go_simp
            all_goals first
              | (go_at_call 88; exact spot_any _ _ _ _ _ _ _)
              | (go_at_call 87; exact cF _ hu.of_drew)
          simp only [Act.put, List.setIfInBounds_toArray, List.set_cons_zero, List.set_cons_succ, Nat.reduceAdd]
        refine plan_lit (by kernel_rfl) (fun u => ?_) ?_
        · go_simp
        simp only [Act.put, List.setIfInBounds_toArray, List.set_cons_zero, List.set_cons_succ, Nat.reduceAdd]
        refine plan_end ?_
        intro w' hB
        have hr6 := hB.row 6 _ _ rfl
        have hk := hB.calm.of_drew
        clear hB
        have hI := cI w' (X 6) hk hr6.1 hr6.2
        clear hr6 cI cF
        go_wp2_with (go_at_call 86; refine hI.mono ?_; rintro e w9 ⟨v9, rfl, ho9, hk9⟩; have HO9 := Lib.hid ho9; have hu9 := hk9 w HW1.out (hu3.call hk); clear ho9 hk9)
        go_ret2
        exact ⟨_, rfl, OwnR.weaken_ HO9.out HW1.out, hu9⟩
  · rw [h1] at cV
    simp only [Bool.false_eq_true, if_false] at cV
    obtain ⟨e1, e2⟩ := put_none (s := s') (t := t) hG h2
    have hpe2 : putErr l (p', o', f') s' t = if 400 ≤ l.length then 8 else 0 := by rw [hpe, e1]; rfl
    by_cases hfull : 400 ≤ l.length
    · rw [if_pos hfull] at hpe2
      rw [hpe2, if_neg (by decide)]
      have hl4 : (l.length : Int) = 400 := by omega
      clear hgood hpe hpe2 e1 e2 h1 h2 hlt hlt' hx he hG hL hfull hn4
      go_enter Try.func44, Try.ntmps44
      go_wp2_with (first
        | (go_at_call 84; refine (cW _ hu).mono ?_; rintro e w1 ⟨rfl, hb1⟩; replace hy := (hb1.block (row3 hy).2.2.2).trans hy; replace hz := (hb1.block (row6 hz).2.2.2.2.2.2).trans hz; replace hu := hu.call hb1; clear hb1; obtain ⟨y0, y1, y2, hys⟩ := row3 hy; obtain ⟨z0, z1, z2, z3, z4, z5, hzs⟩ := row6 hz; clear cW)
        | (go_at_call 85; refine (cV _ hu).mono ?_; rintro e w1 ⟨rfl, hb1⟩; replace hy := (hb1.block (row3 hy).2.2.2).trans hy; replace hz := (hb1.block (row6 hz).2.2.2.2.2.2).trans hz; replace hu := hu.call hb1; clear hb1; obtain ⟨y0, y1, y2, hys⟩ := row3 hy; obtain ⟨z0, z1, z2, z3, z4, z5, hzs⟩ := row6 hz; clear cV))
      go_ret2
      exact ⟨_, rfl, OwnR.nil _ _, hu⟩
    · rw [if_neg hfull] at hpe2
      have hgd := hgood hpe2
      rw [hpe2, if_pos rfl]
      rw [e2] at hgd ⊢
      have hl4 : ¬ ((l.length : Int) = 400) := by omega
      have hpl := pos_le l (p', o', f') t
      have HG := Lib.hid hG
      clear hgood hpe hpe2 e1 e2 h1 h2 hlt hlt' hx he hG hL
      go_enter Try.func44, Try.ntmps44
      go_upto_region 15 with (first
        | (go_at_call 84; refine (cW _ hu).mono ?_; rintro e w1 ⟨rfl, hb1⟩; replace hy := (hb1.block (row3 hy).2.2.2).trans hy; replace hz := (hb1.block (row6 hz).2.2.2.2.2.2).trans hz; replace hu := hu.call hb1; clear hb1; obtain ⟨y0, y1, y2, hys⟩ := row3 hy; obtain ⟨z0, z1, z2, z3, z4, z5, hzs⟩ := row6 hz; clear cW)
        | (go_at_call 85; refine (cV _ hu).mono ?_; rintro e w1 ⟨rfl, hb1⟩; replace hy := (hb1.block (row3 hy).2.2.2).trans hy; replace hz := (hb1.block (row6 hz).2.2.2.2.2.2).trans hz; replace hu := hu.call hb1; clear hb1; obtain ⟨y0, y1, y2, hys⟩ := row3 hy; obtain ⟨z0, z1, z2, z3, z4, z5, hzs⟩ := row6 hz; clear cV)
        | (go_at_call 37; refine (cC _ hu).mono ?_; rintro e w3 ⟨v, rfl, ho, hb1⟩; obtain ⟨A1, c1, rfl, _, _, hL1⟩ := ho.lies HG.out.wf; have HO2 := Lib.hid ho; have hz3 := (hb1.block (row6 hz).2.2.2.2.2.2).trans hz; have hu3 := hu.call hb1; have hwl := hb1.size; have hw1 := hu.size; clear cC ho))
      have cF : ∀ u, Calm w3 u → Calls Try.prog 87 #[.slice A1 l.length c1, .agg #[.int .i64 p', .int .i64 o', .int .i64 f', .int .i64 t]] u fun e w' => e = .returned (.int .i64 (pos l (p', o', f') t)) ∧ Calm u w' := fun u hu =>
        after_any A1 c1 l p' o' f' t u hn4 (hL1.calm hu) HG.out.2.2
      have cI : ∀ u h, Calm w3 u → w3.drew.heap.size ≤ h → u.heap[h]? = some (.cells #[.int .i64 p', .int .i64 o', .int .i64 f', .int .i64 t, .int .i64 0, .string s'] 50 (0, 0)) → Calls Try.prog 86 #[.slice A1 l.length c1, .int .i64 (pos l (p', o', f') t), .slice (some ⟨h, 0, none⟩) 1 1] u (OwnEnd w1.heap.size (insAt l (pos l (p', o', f') t) (fresh (p', o', f') s' t)) u) := fun u h hv hgh0 hh =>
        insert_any w1.heap.size h (pos l (p', o', f') t) _ l p' o' f' t 0 s' u hpl hn4 (HO2.out.calm hv) (Nat.le_trans hwl hv.size) hh (fun e => by have h9 := (HO2.out.lt h e).2; exact absurd hgh0 (Nat.not_le.2 h9))
      have hwf2 := Lib.hid hgd.wf
      clear hgd hpl HG HO2 hL1 hwl y0 y1 y2 hys z0 z1 z2 z3 z4 z5 hzs hy hz
      generalize pos l (p', o', f') t = P at *
      generalize insAt l P (fresh (p', o', f') s' t) = R at *
      obtain ⟨z0, z1, z2, z3, z4, z5, hzs⟩ := row6 hz3
      have HW1 := Lib.hid hw1
      clear hw1 q1 q2 q3 hn hn4 hfull hl4 hb1 hz3
      refine wp_region_plan_tail 7 [.val (.slice A1 l.length c1), .val (.slice A1 l.length c1), .val (.agg #[.int .i64 p', .int .i64 o', .int .i64 f', .int .i64 t, .int .i64 0, .string s']), .val (.agg #[.int .i64 p', .int .i64 o', .int .i64 f', .int .i64 t]), .val (.int .i64 P), .val (.agg #[.int .i64 p', .int .i64 o', .int .i64 f', .int .i64 t, .int .i64 0, .string s']), .new #[.int .i64 p', .int .i64 o', .int .i64 f', .int .i64 t, .int .i64 0, .string s'] 50 (some 1)] (by kernel_rfl) (by kernel_rfl) (by kernel_rfl) (by kernel_rfl) ?_
      intro X
      simp only [List.take_succ_cons, List.take_zero, List.drop_succ_cons, List.drop_zero]
      iterate 6
        refine plan_val (by kernel_rfl) (fun u hu => ?_) ?_
        · obtain ⟨hc, hf, hz⟩ := hu.of_drew.facts
          go_simp
          all_goals first
            | (go_at_call 88; exact spot_any _ _ _ _ _ _ _)
            | (go_at_call 87; exact cF _ hu.of_drew)
        simp only [Act.put, List.setIfInBounds_toArray, List.set_cons_zero, List.set_cons_succ, Nat.reduceAdd]
      refine plan_lit (by kernel_rfl) (fun u => ?_) ?_
      · go_simp
      simp only [Act.put, List.setIfInBounds_toArray, List.set_cons_zero, List.set_cons_succ, Nat.reduceAdd]
      refine plan_end ?_
      intro w' hB
      have hr6 := hB.row 6 _ _ rfl
      have hk := hB.calm.of_drew
      clear hB
      have hI := cI w' (X 6) hk hr6.1 hr6.2
      clear hr6 cI cF
      go_wp2_with (go_at_call 86; refine hI.mono ?_; rintro e w9 ⟨v9, rfl, ho9, hk9⟩; have HO9 := Lib.hid ho9; have hu9 := hk9 w HW1.out (hu3.call hk); clear ho9 hk9)
      go_ret2
      exact ⟨_, rfl, OwnR.weaken_ HO9.out HW1.out, hu9⟩
open Go.ChangeShapes Go.WideShapes Go.ChangeAt Go.RowKit
set_option maxHeartbeats 4000000 in
theorem cloPut_any (A : Option Addr) (c : Nat) (l : List El) (p o f : Int) (s : ByteArray) (t : Int) (g1 g2 g3 : Nat) (w : World) (hn : l.length ≤ 9223372036854775807) (hL : Lies w A l) (b1 : w.heap[g1]? = some (.cells #[.int .i64 p, .int .i64 o, .int .i64 f] 27 (0, 0))) (b2 : w.heap[g2]? = some (.cells #[.string s] 9 (0, 0))) (b3 : w.heap[g3]? = some (.cells #[.int .i64 t] 3 (0, 0))) :
    Calls Try.prog 43 #[.slice A l.length c, .pointer (some ⟨g1, 0, none⟩), .pointer (some ⟨g2, 0, none⟩), .pointer (some ⟨g3, 0, none⟩)] w (SoEnd (if putErr l (p, o, f) s t = 0 then putR l (p, o, f) s t else []) (putErr l (p, o, f) s t) w) := by
  have cP := runPut_own A c l p o f s t w hn hL
  generalize (if putErr l (p, o, f) s t = 0 then putR l (p, o, f) s t else []) = LL at cP ⊢
  generalize putErr l (p, o, f) s t = EE at cP ⊢
  have x1 := cell_of_row _ _ 0 _ _ _ b1
  have x2 := cell_of_row _ _ 0 _ _ _ b2
  have x3 := cell_of_row _ _ 0 _ _ _ b3
  go_enter Try.func43, Try.ntmps43
  go_wp2_with (first
    | (refine wpList_load_mid rfl 27 (.tmp 1) rfl g1 0 rfl [.int .i64 p, .int .i64 o, .int .i64 f] _ (range_all b1) Try.underlying27 rfl rfl ?_)
    | (go_at_call 44; (with_reducible refine cP.mono ?_); rintro e w1 ⟨v, rfl, ho, hb⟩; have HO := Lib.hid ho; clear ho cP))
  go_ret2
  exact ⟨_, rfl, HO.out, hb⟩
set_option maxHeartbeats 4000000 in
theorem cloCut_any (A : Option Addr) (c : Nat) (l : List El) (p o f : Int) (t : Int) (g1 g2 : Nat) (w : World) (hn : l.length ≤ 9223372036854775807) (hL : Lies w A l) (b1 : w.heap[g1]? = some (.cells #[.int .i64 p, .int .i64 o, .int .i64 f] 27 (0, 0))) (b2 : w.heap[g2]? = some (.cells #[.int .i64 t] 3 (0, 0))) :
    Calls Try.prog 45 #[.slice A l.length c, .pointer (some ⟨g1, 0, none⟩), .pointer (some ⟨g2, 0, none⟩)] w (SoEnd (if cutErr l (p, o, f) t = 0 then cutR l (p, o, f) t else []) (cutErr l (p, o, f) t) w) := by
  have cP := runCut_own A c l p o f t w hn hL
  generalize (if cutErr l (p, o, f) t = 0 then cutR l (p, o, f) t else []) = LL at cP ⊢
  generalize cutErr l (p, o, f) t = EE at cP ⊢
  have x1 := cell_of_row _ _ 0 _ _ _ b1
  have x2 := cell_of_row _ _ 0 _ _ _ b2
  go_enter Try.func45, Try.ntmps45
  go_wp2_with (first
    | (refine wpList_load_mid rfl 27 (.tmp 1) rfl g1 0 rfl [.int .i64 p, .int .i64 o, .int .i64 f] _ (range_all b1) Try.underlying27 rfl rfl ?_)
    | (go_at_call 46; (with_reducible refine cP.mono ?_); rintro e w1 ⟨v, rfl, ho, hb⟩; have HO := Lib.hid ho; clear ho cP))
  go_ret2
  exact ⟨_, rfl, HO.out, hb⟩
open Go.ChangeShapes Go.WideShapes Go.ChangeAt Go.RowKit
theorem putErr_wr {l : List El} {k : Int × Int × Int} {s : ByteArray} {t : Int} (h : putErr l k s t = 0) : wrErr l (fresh k s t) = 0 := by
 unfold putErr at h
 by_cases h1 : wrErr l (fresh k s t) = 0
 ·exact h1
 ·simp only [h1] at h
  first | exact h | (simp at h; exact h) | (split at h <;> simp_all)
theorem cutErr_wr {l : List El} {k : Int × Int × Int} {t : Int} (h : cutErr l k t = 0) : wrErr l (fresh k { data := #[] } t) = 0 := by
 unfold cutErr at h
 by_cases h1 : wrErr l (fresh k { data := #[] } t) = 0
 ·exact h1
 ·simp only [h1] at h
  first | exact h | (simp at h; exact h) | (split at h <;> simp_all)
theorem put_part {M : List El} {k : Int × Int × Int} {s : ByteArray} {t : Int} : (if putErr M k s t = 0 then putR M k s t else []).length ≤ 400 ∧ ∀ e ∈ (if putErr M k s t = 0 then putR M k s t else []), e.wf := by
 by_cases h : putErr M k s t = 0
 ·rw [if_pos h]
  have hG := put_good (putErr_wr h) h
  exact ⟨hG.1, hG.wf⟩
 ·rw [if_neg h]; exact ⟨by simp, fun e he => absurd he (by simp)⟩
theorem cut_part {M : List El} {k : Int × Int × Int} {t : Int} : (if cutErr M k t = 0 then cutR M k t else []).length ≤ 400 ∧ ∀ e ∈ (if cutErr M k t = 0 then cutR M k t else []), e.wf := by
 by_cases h : cutErr M k t = 0
 ·rw [if_pos h]
  have hG := cut_good (cutErr_wr h)
  exact ⟨hG.1, hG.wf⟩
 ·rw [if_neg h]; exact ⟨by simp, fun e he => absurd he (by simp)⟩
theorem if16 {E : Int} {R : List Int} (hR : R.length = 16) : (if E = 0 then R else z16).length = 16 := by split <;> first | exact hR | rfl
theorem realmPut_good (A : Option Addr) (c : Nat) (l : List El) (R F : List Int) (k : Nat) (o f : Int) (s : ByteArray) (t : Int) (w : World) (hn : l.length ≤ 9223372036854775807) (hlc : l.length ≤ c) (hL : Lies w A l) (hR : R.length = 16) (hF : F.length = 16) (hE : roleErr l R F k 1 = 0)
    (E : Int) (L : List El) (hE0 : putErr (mineL l k) (k, o, f) s t = E) (hL0 : (if putErr (mineL l k) (k, o, f) s t = 0 then putR (mineL l k) (k, o, f) s t else []) = L) :
    Calls Try.prog 10 #[.agg (bkC A l.length c R F).toArray, .agg #[.int .i64 k, .int .i64 o, .int .i64 f], .string s, .int .i64 t] w (BkEnd (wrtErr l L k E) (if wrtErr l L k E = 0 then l.take (posP l k) ++ L ++ l.drop (posP l ((k : Int) + 1)) else []) (if wrtErr l L k E = 0 then R else z16) (if wrtErr l L k E = 0 then F else z16) w) := by
  have hp := put_part (M := mineL l k) (k := (k, o, f)) (s := s) (t := t)
  rw [hL0] at hp
  have hm : (mineL l k).length ≤ 9223372036854775807 := Nat.le_trans (by unfold mineL; exact List.length_filter_le _ _) hn
  refine put_wrap A c l R F k o f s t _ _ _ _ w hR hF (if16 hR) (if16 hF) (fun u hu b1 b2 b3 => ?_)
  refine writePut_good A c l R F k (w.heap.size + 1) (w.heap.size + 2) (w.heap.size + 3) E L u hn hlc (hL.calm hu) hR hF hE (fun A9 c9 v hv h9 => ?_) hp.1 hp.2
  have hb : ∀ j o, u.heap[j]? = some o → v.heap[j]? = some o := fun j o h => (hv.block (Array.getElem?_eq_some_iff.1 h).1).trans h
  have := cloPut_any A9 c9 (mineL l k) k o f s t (w.heap.size + 1) (w.heap.size + 2) (w.heap.size + 3) v hm h9 (hb _ _ b1) (hb _ _ b2) (hb _ _ b3)
  rw [hL0, hE0] at this
  exact this
theorem realmCut_good (A : Option Addr) (c : Nat) (l : List El) (R F : List Int) (k : Nat) (o f : Int) (t : Int) (w : World) (hn : l.length ≤ 9223372036854775807) (hlc : l.length ≤ c) (hL : Lies w A l) (hR : R.length = 16) (hF : F.length = 16) (hE : roleErr l R F k 1 = 0)
    (E : Int) (L : List El) (hE0 : cutErr (mineL l k) (k, o, f) t = E) (hL0 : (if cutErr (mineL l k) (k, o, f) t = 0 then cutR (mineL l k) (k, o, f) t else []) = L) :
    Calls Try.prog 11 #[.agg (bkC A l.length c R F).toArray, .agg #[.int .i64 k, .int .i64 o, .int .i64 f], .int .i64 t] w (BkEnd (wrtErr l L k E) (if wrtErr l L k E = 0 then l.take (posP l k) ++ L ++ l.drop (posP l ((k : Int) + 1)) else []) (if wrtErr l L k E = 0 then R else z16) (if wrtErr l L k E = 0 then F else z16) w) := by
  have hp := cut_part (M := mineL l k) (k := (k, o, f)) (t := t)
  rw [hL0] at hp
  have hm : (mineL l k).length ≤ 9223372036854775807 := Nat.le_trans (by unfold mineL; exact List.length_filter_le _ _) hn
  refine cut_wrap A c l R F k o f t _ _ _ _ w hR hF (if16 hR) (if16 hF) (fun u hu b1 b2 => ?_)
  refine writeCut_good A c l R F k (w.heap.size + 1) (w.heap.size + 2) E L u hn hlc (hL.calm hu) hR hF hE (fun A9 c9 v hv h9 => ?_) hp.1 hp.2
  have hb : ∀ j o, u.heap[j]? = some o → v.heap[j]? = some o := fun j o h => (hv.block (Array.getElem?_eq_some_iff.1 h).1).trans h
  have := cloCut_any A9 c9 (mineL l k) k o f t (w.heap.size + 1) (w.heap.size + 2) v hm h9 (hb _ _ b1) (hb _ _ b2)
  rw [hL0, hE0] at this
  exact this
open Go.ChangeShapes Go.WideShapes Go.ChangeAt Go.RowKit
theorem wpList_append_el3 {ops : Array Oper} {rest : List Oper} {o : Oper} {a : Act} {w : World} {Q : Exit → Act → World → Prop} (hgd : o.guard = none) (s x : Operand)
    (ho : o.op = .call { callee := .builtin .append, args := #[s, x], argTypes := #[22, 22] })
    (base : Nat) (v : Value) (l : List El) (hs : a.eval s = v) (hown : OwnR base w v l) (g t : Nat) (p o' f m gg : Int) (sv : ByteArray) (fr : Nat × Nat)
    (hx : a.eval x = .slice (some ⟨g, 0, none⟩) 1 1) (hg : w.heap[g]? = some (.cells #[.int .i64 p, .int .i64 o', .int .i64 f, .int .i64 m, .int .i64 gg, .string sv] t fr)) (hl : l.length ≤ 1000000) (hbase : base ≤ w.heap.size)
    (h : ∀ v' w', OwnR base w' v' (l ++ [⟨p, o', f, m, gg, sv⟩]) → w.grownBy w' v.ownBlock → (v'.ownBlock = v.ownBlock ∨ v'.ownBlock = some w.heap.size) → wpList Try.prog ops Q rest (a.put o.dst v') w') : wpList Try.prog ops Q (o :: rest) a w := by
  obtain ⟨i0, hi, hz0, hz1, hz2⟩ := info_parts infoElem
  refine wpList_append_own_at w hgd s x _ ho base 50 i0 _ 6 56 Try.underlying22 hi hz0 hz1 hz2 rfl (by decide) v _ _ hs hown ⟨g, 0, none⟩ 1 1 (El.cells ⟨p, o', f, m, gg, sv⟩) hx rfl (fun j u hj => ?_) (cells_one _) (by unfold maxLen; omega) (by omega) hbase fun v' w' h1 h2 _ h4 => ?_
  · have : (⟨g, 0, none⟩ : Addr).add j = ⟨g, j, none⟩ := by unfold Addr.add; split <;> simp_all
    rw [this, cell_of_row w g j _ t fr hg, ← hj]
    simp [El.cells]
  · refine h v' w' ?_ h2 h4
    unfold OwnR
    rw [List.length_append, cellsOf_snoc]
    exact h1
def Two (base : Nat) (w : World) (v1 v2 : Value) (l1 l2 : List El) : Prop := OwnR base w v1 l1 ∧ OwnR base w v2 l2 ∧ ∀ g, v1.ownBlock = some g → v2.ownBlock ≠ some g
theorem Two.calm {base : Nat} {w w' : World} {v1 v2 : Value} {l1 l2 : List El} (h : Two base w v1 v2 l1 l2) (hb : Calm w w') : Two base w' v1 v2 l1 l2 := ⟨h.1.calm hb, h.2.1.calm hb, h.2.2⟩
theorem Two.first {base : Nat} {w w' : World} {v1 v2 v' : Value} {l1 l2 l : List El} (h : Two base w v1 v2 l1 l2) (h1 : OwnR base w' v' l) (h2 : w.grownBy w' v1.ownBlock) (h4 : v'.ownBlock = v1.ownBlock ∨ v'.ownBlock = some w.heap.size) : Two base w' v' v2 l l2 := by
 obtain ⟨a, b, c⟩ := h
 refine ⟨h1, World.ownsRow.kept b h2 ?_, fun g hg => ?_⟩
 ·rcases hv : v2.ownBlock with _ | k
  ·exact .inl rfl
  ·right
   rcases hv1 : v1.ownBlock with _ | k1
   ·simp
   ·intro e
    injection e with e
    exact c k1 hv1 (by rw [hv, e])
 ·rcases h4 with h4 | h4
  ·exact c g (h4 ▸ hg)
  ·intro e
   have := (b.lt g e).2
   rw [h4] at hg
   injection hg with hg
   omega
theorem Two.swap {base : Nat} {w : World} {v1 v2 : Value} {l1 l2 : List El} (h : Two base w v1 v2 l1 l2) : Two base w v2 v1 l2 l1 := ⟨h.2.1, h.1, fun g hg e => h.2.2 g e hg⟩
theorem Two.nil (base : Nat) (w : World) : Two base w (.slice none 0 0) (.slice none 0 0) [] [] := ⟨OwnR.nil _ _, OwnR.nil _ _, fun g hg => by cases hg⟩
theorem mineL_take {l : List El} {k : Nat} {e : El} (h : l[k]? = some e) (p : Int) : mineL (l.take (k + 1)) p = mineL (l.take k) p ++ if e.p = p then [e] else [] := by
 unfold mineL
 rw [take_snoc3 h, List.filter_append]
 congr 1
 by_cases h1 : e.p = p
 ·rw [if_pos h1, List.filter_cons_of_pos (by simpa using h1)]; rfl
 ·rw [if_neg h1, List.filter_cons_of_neg (by simpa using h1)]; rfl
theorem otherL_take {l : List El} {k : Nat} {e : El} (h : l[k]? = some e) (p : Int) : otherL (l.take (k + 1)) p = otherL (l.take k) p ++ if e.p = p then [] else [e] := by
 unfold otherL
 rw [take_snoc3 h, List.filter_append]
 congr 1
 by_cases h1 : e.p = p
 ·rw [if_pos h1, List.filter_cons_of_neg (by simpa using h1)]; rfl
 ·rw [if_neg h1, List.filter_cons_of_pos (by simpa using h1)]; rfl
def RmEnd (l : List El) (p : Int) (w : World) (e : Ending) (w' : World) : Prop := ∃ v1 v2, e = .returned (.tuple #[v1, v2]) ∧ Two w.heap.size w' v1 v2 (mineL l p) (otherL l p) ∧ Calm w w'
set_option maxHeartbeats 4000000 in
theorem refRealm_any (A : Option Addr) (c : Nat) (l : List El) (p : Int) (w : World) (hn : l.length ≤ 400) (hL : Lies w A l) :
    Calls Try.prog 14 #[.slice A l.length c, .int .i64 p] w (RmEnd l p w) := by
  go_enter Try.func14, Try.ntmps14
  go_wp2_with fail
  go_loopw [4, 5, 10] (fun m1 m2 i wr => ∃ k : Nat, k ≤ l.length ∧ i = .int .i64 k ∧ Calm w wr ∧ Hid (Two w.heap.size wr m1 m2 (mineL (l.take k) p) (otherL (l.take k) p))) (fun _ _ i _ => l.length - (intOf i).toNat)
  case atStart => exact ⟨0, Nat.zero_le _, rfl, Calm.refl _, show Two _ _ _ _ _ _ from Two.nil _ _⟩
  case round =>
    obtain ⟨k, hk, rfl, hu, HT⟩ := hrel
    by_cases hlt : k < l.length
    rotate_left
    · have HT2 := HT.out
      rw [List.take_of_length_le (by omega)] at HT2
      have HT3 := Lib.hid HT2
      clear HT2
      go_wp2_with fail
      go_ret2
      exact ⟨_, _, rfl, HT3.out, hu⟩
    obtain ⟨b, q, p1, o, f, m, g, s, rfl, hb, HE, hm, c0, c1, c2, c3, c4, c5⟩ := (hL.calm hu).get hlt
    have hs := hu.size
    have hM := mineL_take HE.out p
    have hO := otherL_take HE.out p
    simp only at hM hO
    have hl1 : (mineL (l.take k) p).length ≤ 1000000 := Nat.le_trans (List.length_filter_le _ _) (by rw [List.length_take]; omega)
    have hl2 : (otherL (l.take k) p).length ≤ 1000000 := Nat.le_trans (List.length_filter_le _ _) (by rw [List.length_take]; omega)
    have HT0 := Lib.hid (HT.out.calm (((Calm.refl wr).alloc (.cells #[.int .i64 p1, .int .i64 o, .int .i64 f, .int .i64 m, .int .i64 g, .string s] 50)).alloc (.cells #[.int .i64 p1, .int .i64 o, .int .i64 f, .int .i64 m, .int .i64 g, .string s] 50)))
    have hu2 := (hu.alloc (.cells #[.int .i64 p1, .int .i64 o, .int .i64 f, .int .i64 m, .int .i64 g, .string s] 50)).alloc (.cells #[.int .i64 p1, .int .i64 o, .int .i64 f, .int .i64 m, .int .i64 g, .string s] 50)
    have HM := Lib.hid hM
    have HO := Lib.hid hO
    have HL1 := Lib.hid hl1
    have HL2 := Lib.hid hl2
    clear HE hM hO hl1 hl2 HT
    by_cases h1 : p1 = p
    · subst h1
      rw [if_pos rfl] at HM HO
      go_wp2_with (at_builtin; refine wpList_append_el3 rfl _ _ rfl w.heap.size _ _ rfl HT0.out.1 _ _ p1 o f m g s _ rfl (two_new _ _ _) HL1.out (by simp; omega) ?_; intro v' w9 ho9 hg9 hc9; have HT9 := Lib.hid (HT0.out.first ho9 hg9 hc9); have hu9 := hu2.grown (Nat.le_refl _) HT0.out.1 hg9; clear ho9 hg9 hc9)
      go_roundw
      case rel => exact ⟨k + 1, by omega, by go_num, hu9, show Two _ _ _ _ _ _ from by rw [HM.out, HO.out, List.append_nil]; exact HT9.out⟩
      case measure => simp [intOf]; omega
    · have b1 : (p1 == p) = false := by simpa using h1
      rw [if_neg h1] at HM HO
      clear h1
      go_wp2_with (at_builtin; refine wpList_append_el3 rfl _ _ rfl w.heap.size _ _ rfl HT0.out.2.1 _ _ p1 o f m g s _ rfl (two_new _ _ _) HL2.out (by simp; omega) ?_; intro v' w9 ho9 hg9 hc9; have HT9 := Lib.hid (HT0.out.swap.first ho9 hg9 hc9).swap; have hu9 := hu2.grown (Nat.le_refl _) HT0.out.2.1 hg9; clear ho9 hg9 hc9)
      go_roundw
      case rel => exact ⟨k + 1, by omega, by go_num, hu9, show Two _ _ _ _ _ _ from by rw [HM.out, HO.out, List.append_nil]; exact HT9.out⟩
      case measure => simp [intOf]; omega
open Go.ChangeShapes Go.WideShapes Go.ChangeAt Go.RowKit
theorem int_at (R : List Int) {i : Nat} (h : i < R.length) : (R.map (Value.int .i64)).toArray[i]? = some (.int .i64 (gI R i)) := by
 unfold gI
 rw [List.getElem?_toArray, List.getElem?_map, List.getD_eq_getElem?_getD, List.getElem?_eq_getElem h]
 rfl
theorem items16 (R S : List Int) (hR : R.length = 16) (hS : S.length = 16) (w : World) : ∀ is : List Nat, (∀ i ∈ is, i < 16) →
    (Op.eqItems 9999 3 1 (R.map (Value.int .i64)).toArray (S.map (Value.int .i64)).toArray is).run Try.prog w = .ok (is.all fun i => gI R i == gI S i) w
  | [], _ => by simp [Op.eqItems]
  | i :: is, h => by
    have hi := h i (List.mem_cons_self ..)
    have p1 := run_part_plain (P := Try.prog) (e := 3) w (by kernel_rfl) (off := i * 1) (by rw [Nat.mul_one]; exact int_at R (by omega))
    have p2 := run_part_plain (P := Try.prog) (e := 3) w (by kernel_rfl) (off := i * 1) (by rw [Nat.mul_one]; exact int_at S (by omega))
    have p3 := run_equalIn_int (P := Try.prog) w 9998 3 .i64 .i64 (gI R i) (gI S i) Try.underlying3
    have ih := items16 R S hR hS w is fun j hj => h j (List.mem_cons_of_mem _ hj)
    unfold Op.eqItems
    simp only [Sem.run_bind, p1, p2, p3, Result.andThen_ok, List.all_cons]
    cases gI R i == gI S i
    · simp
    · simpa using ih
theorem eq16 (R S : List Int) (hR : R.length = 16) (hS : S.length = 16) (w : World) : (Op.equalIn 10000 23 (.agg (R.map (Value.int .i64)).toArray) (.agg (S.map (Value.int .i64)).toArray)).run Try.prog w = .ok (decide (R = S)) w := by
 obtain ⟨i, hi⟩ : ∃ i, Try.prog.info? 3 = some i := Option.isSome_iff_exists.1 (by kernel_rfl)
 have h := run_equalIn_array (P := Try.prog) w 9999 (t := 23) (n := 16) (e := 3) (R.map (Value.int .i64)).toArray (S.map (Value.int .i64)).toArray Try.underlying23 hi
 rw [cellsI, items16 R S hR hS w _ fun i hi => List.mem_range.1 hi] at h
 refine h.trans ?_
 congr 1
 rw [Bool.eq_iff_iff, List.all_eq_true, decide_eq_true_eq]
 constructor
 ·intro h1
  apply List.ext_getElem (by omega)
  intro i h2 h3
  have := h1 i (List.mem_range.2 (by omega))
  rw [beq_iff_eq] at this
  unfold gI at this
  rwa [List.getD_eq_getElem?_getD, List.getD_eq_getElem?_getD, List.getElem?_eq_getElem h2, List.getElem?_eq_getElem h3] at this
 ·rintro rfl i _; simp
open Go.ChangeShapes Go.WideShapes Go.ChangeAt Go.RowKit
theorem wpList_bareB {P : Program} {ops : Array Oper} {Q : Exit → Act → World → Prop} {rest : List Oper} {o : Oper} {a : Act} {w : World} (hw : Region.wanted o (yielded ops a.tmps) = true) (h : wpList P ops Q ({ o with guard := none } :: rest) a w) : wpList P ops Q (o :: rest) a w := by
 unfold wpList at h ⊢
 rw [if_pos hw]
 rw [if_pos (show Region.wanted { o with guard := none } (yielded ops a.tmps) = true from rfl)] at h
 exact h
theorem range_fed {w : World} {g : Nat} {A : Option Addr} {n c : Nat} {R F : List Int} {t : TypeId} {fr : Nat × Nat} (hR : R.length = 16) (hF : F.length = 16) (h : w.heap[g]? = some (.cells (bkC A n c R F).toArray t fr)) : w.rangeAt g 17 (F.map (Value.int .i64)) := fun j v hj => by
 have hj2 : j < 16 := by
  have := (List.getElem?_eq_some_iff.1 hj).1
  rw [List.length_map] at this; omega
 refine (cell_of_row _ _ (17 + j) _ _ _ h).trans ?_
 rw [bk_fed hR hF hj2, ← hj, List.getElem?_map]
 unfold gI
 rw [List.getD_eq_getElem?_getD, List.getElem?_eq_getElem (by omega)]
 rfl
set_option maxHeartbeats 4000000 in
theorem sameBook_any (A A' : Option Addr) (c c' : Nat) (l l' : List El) (R F R' F' : List Int) (w : World) (hn : l.length ≤ 9223372036854775807) (hn' : l'.length ≤ 9223372036854775807) (hL : Lies w A l) (hL' : Lies w A' l') (hR : R.length = 16) (hF : F.length = 16) (hR' : R'.length = 16) (hF' : F'.length = 16) :
    Calls Try.prog 35 #[.agg (bkC A l.length c R F).toArray, .agg (bkC A' l'.length c' R' F').toArray] w fun e w' => e = .returned (.bool (decide (l = l' ∧ R = R' ∧ F = F'))) ∧ Calm w w' := by
  have cE := fun u (hu : Calm w u) => equal_any A A' c c' l l' u hn hn' (hL.calm hu) (hL'.calm hu)
  have hx := heap_past (.cells (bkC A' l'.length c' R' F').toArray 25) (heap_new w (.cells (bkC A l.length c R F).toArray 25))
  have hy : ((w.alloc (.cells (bkC A l.length c R F).toArray 25)).alloc (.cells (bkC A' l'.length c' R' F').toArray 25)).heap[w.heap.size + 1]? = some (.cells (bkC A' l'.length c' R' F').toArray 25 (0, 0)) := two_new w _ _
  have hu := ((Calm.refl w).alloc (.cells (bkC A l.length c R F).toArray 25)).alloc (.cells (bkC A' l'.length c' R' F').toArray 25)
  have hsz : ((w.alloc (.cells (bkC A l.length c R F).toArray 25)).alloc (.cells (bkC A' l'.length c' R' F').toArray 25)).heap.size = w.heap.size + 2 := by simp
  have A1 := Lib.hid (fun (u : World) (h : u.heap[w.heap.size]? = some (.cells (bkC A l.length c R F).toArray 25 (0, 0))) => (show u.cell? ⟨w.heap.size, 0, none⟩ = some (.slice A l.length c) from (cell_of_row _ _ 0 _ _ _ h).trans rfl))
  have A2 := Lib.hid (fun (u : World) (h : u.heap[w.heap.size + 1]? = some (.cells (bkC A' l'.length c' R' F').toArray 25 (0, 0))) => (show u.cell? ⟨w.heap.size + 1, 0, none⟩ = some (.slice A' l'.length c') from (cell_of_row _ _ 0 _ _ _ h).trans rfl))
  have R1 := Lib.hid (fun (u : World) (h : u.heap[w.heap.size]? = some (.cells (bkC A l.length c R F).toArray 25 (0, 0))) => range_role hR h)
  have R2 := Lib.hid (fun (u : World) (h : u.heap[w.heap.size + 1]? = some (.cells (bkC A' l'.length c' R' F').toArray 25 (0, 0))) => range_role hR' h)
  have R3 := Lib.hid (fun (u : World) (h : u.heap[w.heap.size]? = some (.cells (bkC A l.length c R F).toArray 25 (0, 0))) => range_fed hR hF h)
  have R4 := Lib.hid (fun (u : World) (h : u.heap[w.heap.size + 1]? = some (.cells (bkC A' l'.length c' R' F').toArray 25 (0, 0))) => range_fed hR' hF' h)
  have HIRX : Hid ((Try.prog.info? 23).map (·.size) = some (R.map (Value.int .i64)).length) := show _ = _ by rw [List.length_map, hR]; exact info16
  have HIRY : Hid ((Try.prog.info? 23).map (·.size) = some (R'.map (Value.int .i64)).length) := show _ = _ by rw [List.length_map, hR']; exact info16
  have HIFX : Hid ((Try.prog.info? 23).map (·.size) = some (F.map (Value.int .i64)).length) := show _ = _ by rw [List.length_map, hF]; exact info16
  have HIFY : Hid ((Try.prog.info? 23).map (·.size) = some (F'.map (Value.int .i64)).length) := show _ = _ by rw [List.length_map, hF']; exact info16
  have e1 := fun w => eq16 R R' hR hR' w
  have e2 := fun w => eq16 F F' hF hF' w
  generalize (bkC A l.length c R F) = CL at *
  generalize (bkC A' l'.length c' R' F') = CM at *
  generalize R.map (Value.int .i64) = RX at *
  generalize R'.map (Value.int .i64) = RY at *
  generalize F.map (Value.int .i64) = FX at *
  generalize F'.map (Value.int .i64) = FY at *
  by_cases h1 : l = l'
  rotate_left
  · rw [decide_eq_false h1] at cE
    have hz : decide (l = l' ∧ R = R' ∧ F = F') = false := decide_eq_false fun h => h1 h.1
    rw [hz]
    clear hz h1 e1 e2
    go_enter Try.func35, Try.ntmps35
    go_upto_region 1 with fail
    generalize ((w.alloc (.cells CL.toArray 25)).alloc (.cells CM.toArray 25)) = w2 at hx hy hu hsz ⊢
    have c0 := A1.out _ hx
    have d0 := A2.out _ hy
    have HX := Lib.hid hx
    have HY := Lib.hid hy
    have hxl : w.heap.size < w2.heap.size := by omega
    have hyl : w.heap.size + 1 < w2.heap.size := by omega
    clear hx hy
    go_wp2_with (first
      | (go_at_call 24; (with_reducible refine (cE _ hu).mono ?_); rintro e w3 ⟨rfl, hb3⟩; replace HX := Lib.hid ((hb3.block hxl).trans HX.out); replace HY := Lib.hid ((hb3.block hyl).trans HY.out); replace hu := hu.call hb3; clear hb3 cE))
    go_ret
    exact ⟨rfl, hu⟩
  rw [decide_eq_true h1] at cE
  by_cases h2 : R = R'
  rotate_left
  · have hz : decide (l = l' ∧ R = R' ∧ F = F') = false := decide_eq_false fun h => h2 h.2.1
    rw [hz]
    simp only [decide_eq_false h2] at e1
    clear hz h1 h2 e2
    go_enter Try.func35, Try.ntmps35
    go_upto_region 1 with fail
    generalize ((w.alloc (.cells CL.toArray 25)).alloc (.cells CM.toArray 25)) = w2 at hx hy hu hsz ⊢
    have c0 := A1.out _ hx
    have d0 := A2.out _ hy
    have HX := Lib.hid hx
    have HY := Lib.hid hy
    have hxl : w.heap.size < w2.heap.size := by omega
    have hyl : w.heap.size + 1 < w2.heap.size := by omega
    clear hx hy
    go_wp2_with (first
      | (go_at_call 24; (with_reducible refine (cE _ hu).mono ?_); rintro e w3 ⟨rfl, hb3⟩; replace HX := Lib.hid ((hb3.block hxl).trans HX.out); replace HY := Lib.hid ((hb3.block hyl).trans HY.out); replace hu := hu.call hb3; clear hb3 cE)
      | (refine wpList_bareB (by kernel_rfl) ?_; refine wpList_load_mid rfl 23 (.tmp 11) rfl w.heap.size 1 rfl RX _ (R1.out _ HX.out) Try.underlying23 rfl HIRX.out ?_)
      | (refine wpList_bareB (by kernel_rfl) ?_; refine wpList_load_mid rfl 23 (.tmp 13) rfl (w.heap.size + 1) 1 rfl RY _ (R2.out _ HY.out) Try.underlying23 rfl HIRY.out ?_))
    go_ret
    exact ⟨rfl, hu⟩
  simp only [decide_eq_true h2] at e1
  have hz : decide (l = l' ∧ R = R' ∧ F = F') = decide (F = F') := by rw [Bool.eq_iff_iff]; simp [h1, h2]
  rw [hz]
  generalize decide (F = F') = r at *
  clear hz h1 h2
  have hone : True := trivial
  · skip
    go_enter Try.func35, Try.ntmps35
    go_upto_region 1 with fail
    generalize ((w.alloc (.cells CL.toArray 25)).alloc (.cells CM.toArray 25)) = w2 at hx hy hu hsz ⊢
    have c0 := A1.out _ hx
    have d0 := A2.out _ hy
    have HX := Lib.hid hx
    have HY := Lib.hid hy
    have hxl : w.heap.size < w2.heap.size := by omega
    have hyl : w.heap.size + 1 < w2.heap.size := by omega
    clear hx hy
    go_wp2_with (first
      | (go_at_call 24; (with_reducible refine (cE _ hu).mono ?_); rintro e w3 ⟨rfl, hb3⟩; replace HX := Lib.hid ((hb3.block hxl).trans HX.out); replace HY := Lib.hid ((hb3.block hyl).trans HY.out); replace hu := hu.call hb3; clear hb3 cE)
      | (refine wpList_bareB (by kernel_rfl) ?_; refine wpList_load_mid rfl 23 (.tmp 11) rfl w.heap.size 1 rfl RX _ (R1.out _ HX.out) Try.underlying23 rfl HIRX.out ?_)
      | (refine wpList_bareB (by kernel_rfl) ?_; refine wpList_load_mid rfl 23 (.tmp 13) rfl (w.heap.size + 1) 1 rfl RY _ (R2.out _ HY.out) Try.underlying23 rfl HIRY.out ?_)
      | (refine wpList_bareB (by kernel_rfl) ?_; refine wpList_load_mid rfl 23 (.tmp 18) rfl w.heap.size 17 rfl FX _ (R3.out _ HX.out) Try.underlying23 rfl HIFX.out ?_)
      | (refine wpList_bareB (by kernel_rfl) ?_; refine wpList_load_mid rfl 23 (.tmp 20) rfl (w.heap.size + 1) 17 rfl FY _ (R4.out _ HY.out) Try.underlying23 rfl HIFY.out ?_))
    go_ret
    exact ⟨rfl, hu⟩
open Go.ChangeShapes Go.WideShapes Go.ChangeAt Go.RowKit
theorem alloc_setRow (w : World) (t : TypeId) (old cells : Array Value) : (w.alloc (.cells old t)).setRow w.heap.size cells = w.alloc (.cells cells t) := by
 unfold World.setRow World.alloc
 congr 1
 apply Array.ext_getElem?
 intro i
 rw [Array.getElem?_modify]
 by_cases h : w.heap.size = i
 ·subst h; simp
 ·rw [if_neg h]
  by_cases h2 : i < w.heap.size
  ·rw [Array.getElem?_push_lt h2, Array.getElem?_push_lt h2]
  ·rw [Array.getElem?_eq_none (by simp; omega), Array.getElem?_eq_none (by simp; omega)]
theorem wpList_store_fresh {P : Program} {ops : Array Oper} {rest : List Oper} {op : Oper} {a : Act} {w : World} {Q : Exit → Act → World → Prop} (hgd : op.guard = none) (ty : TypeId) (x y : Operand) (ho : op.op = .store ty x y)
    (t : TypeId) (old cells : Array Value) (hx : a.eval x = .pointer (some ⟨w.heap.size, 0, none⟩)) (hy : a.eval y = .agg cells) (hi : (P.info? ty).map (·.size) = some cells.size)
    (hs : old.size = cells.size) (h1 : cells.all (·.oneCell') = true)
    (h : wpList P ops Q rest (a.put op.dst undef) (w.alloc (.cells cells t))) : wpList P ops Q (op :: rest) a (w.alloc (.cells old t)) :=
  wpList_store_rowB hgd ty x y ho w.heap.size t old cells hx hy (heap_new w _) hi hs h1 (by rw [alloc_setRow]; exact h)
theorem roleErr_of {l : List El} {R F : List Int} {k : Nat} {r : Int} (h : bkErr l R F = 0) (hk : k < 16) : roleErr l R F k r = if gI R k = r then 0 else 10 := by
 unfold roleErr
 rw [if_pos h, if_pos (by omega), Int.toNat_natCast]
open Go.ChangeShapes Go.WideShapes Go.ChangeAt Go.RowKit
theorem z16_len : z16.length = 16 := rfl
theorem bkJ {A : Option Addr} {n c : Nat} {R F : List Int} (hR : R.length = 16) (hF : F.length = 16) : (Try.prog.info? 25).map (·.size) = some (bkC A n c R F).length := by rw [bkC_len hR hF]; exact infoBook
theorem bkS {A : Option Addr} {n c : Nat} {R F : List Int} (hR : R.length = 16) (hF : F.length = 16) : (Try.prog.info? 25).map (·.size) = some (bkC A n c R F).toArray.size := by rw [List.size_toArray]; exact bkJ hR hF
theorem bkZ {A : Option Addr} {n c : Nat} {R F : List Int} (hR : R.length = 16) (hF : F.length = 16) : (#[.slice none 0 0, .int .i64 0, .int .i64 0, .int .i64 0, .int .i64 0, .int .i64 0, .int .i64 0, .int .i64 0, .int .i64 0, .int .i64 0, .int .i64 0, .int .i64 0, .int .i64 0, .int .i64 0, .int .i64 0, .int .i64 0, .int .i64 0, .int .i64 0, .int .i64 0, .int .i64 0, .int .i64 0, .int .i64 0, .int .i64 0, .int .i64 0, .int .i64 0, .int .i64 0, .int .i64 0, .int .i64 0, .int .i64 0, .int .i64 0, .int .i64 0, .int .i64 0, .int .i64 0] : Array Value).size = (bkC A n c R F).toArray.size := by
 have h : (#[.slice none 0 0, .int .i64 0, .int .i64 0, .int .i64 0, .int .i64 0, .int .i64 0, .int .i64 0, .int .i64 0, .int .i64 0, .int .i64 0, .int .i64 0, .int .i64 0, .int .i64 0, .int .i64 0, .int .i64 0, .int .i64 0, .int .i64 0, .int .i64 0, .int .i64 0, .int .i64 0, .int .i64 0, .int .i64 0, .int .i64 0, .int .i64 0, .int .i64 0, .int .i64 0, .int .i64 0, .int .i64 0, .int .i64 0, .int .i64 0, .int .i64 0, .int .i64 0, .int .i64 0] : Array Value).size = 33 := rfl
 rw [h, List.size_toArray, bkC_len hR hF]
def Box (u : World) (g : Nat) (CL : List Value) : Prop := u.heap[g]? = some (.cells CL.toArray 25 (0, 0))
theorem Box.calm {u u' : World} {g : Nat} {CL : List Value} (h : Box u g CL) (hb : Calm u u') : Box u' g CL := (hb.block (Array.getElem?_eq_some_iff.1 h).1).trans h
theorem Box.new (u : World) (CL : List Value) : Box (u.alloc (.cells CL.toArray 25)) u.heap.size CL := heap_new _ _
theorem Box.role {u : World} {g k : Nat} {A : Option Addr} {n c : Nat} {R F : List Int} (h : Box u g (bkC A n c R F)) (hR : R.length = 16) (hk : k < 16) : u.cell? ⟨g, 1 + k, none⟩ = some (.int .i64 (gI R k)) := (cell_of_row _ _ (1 + k) _ _ _ h).trans (bk_role hR hk)
theorem bkSS {A A' : Option Addr} {n n' c c' : Nat} {R F R' F' : List Int} (hR : R.length = 16) (hF : F.length = 16) (hR' : R'.length = 16) (hF' : F'.length = 16) : (bkC A n c R F).toArray.size = (bkC A' n' c' R' F').toArray.size := by rw [List.size_toArray, List.size_toArray, bkC_len hR hF, bkC_len hR' hF']
theorem bkEnd_good {E : Int} {l : List El} {R F : List Int} {w w' : World} {e : Ending} (hw : ∀ e ∈ l, e.wf) (h : BkEnd E l R F w e w') : ∃ A c, e = .returned (.tuple #[.agg (bkC A l.length c R F).toArray, .int .i64 E]) ∧ l.length ≤ c ∧ Lies w' A l ∧ (∀ b q, A = some ⟨b, q, none⟩ → w.heap.size ≤ b) ∧ Calm w w' := by
 obtain ⟨A, c, h1, h2, h3⟩ := h
 have hf : ∀ b q, A = some ⟨b, q, none⟩ → w.heap.size ≤ b := fun b q hA => (h2.lt b (by rw [hA]; rfl)).1
 obtain ⟨A', c', h4, h5, _, h6⟩ := h2.lies hw
 injection h4 with e1 e2 e3
 subst e1; subst e3
 exact ⟨A, c, h1, h5, h6, hf, h3⟩
open Go.ChangeShapes Go.WideShapes Go.ChangeAt Go.RowKit
set_option maxHeartbeats 4000000 in
theorem told_err (A1 A2 : Option Addr) (c1 c2 : Nat) (W : Int) (n2 : Nat) (R2 F2 : List Int) (w : World) (hW : W ≠ 0) (_ : R2.length = 16) (_ : F2.length = 16) :
    Calls Try.prog 13 #[.agg (bkC A1 0 c1 z16 z16).toArray, .int .i64 W, .agg (bkC A2 n2 c2 R2 F2).toArray, .int .i64 W] w fun e w' => e = .returned (.bool true) ∧ Calm w w' := by
  have cS : ∀ u, Calm w u → Calls Try.prog 35 #[.agg (bkC A1 0 c1 z16 z16).toArray, .agg #[.slice none 0 0, .int .i64 0, .int .i64 0, .int .i64 0, .int .i64 0, .int .i64 0, .int .i64 0, .int .i64 0, .int .i64 0, .int .i64 0, .int .i64 0, .int .i64 0, .int .i64 0, .int .i64 0, .int .i64 0, .int .i64 0, .int .i64 0, .int .i64 0, .int .i64 0, .int .i64 0, .int .i64 0, .int .i64 0, .int .i64 0, .int .i64 0, .int .i64 0, .int .i64 0, .int .i64 0, .int .i64 0, .int .i64 0, .int .i64 0, .int .i64 0, .int .i64 0, .int .i64 0]] u fun e w' => e = .returned (.bool true) ∧ Calm u w' := fun u _ => by
    rw [zb_eq]
    have h := sameBook_any A1 none c1 0 [] [] z16 z16 z16 z16 u (by simp) (by simp) ⟨by simp, fun h => absurd h (by simp)⟩ ⟨by simp, fun h => absurd h (by simp)⟩ rfl rfl rfl rfl
    rw [decide_eq_true ⟨rfl, rfl, rfl⟩] at h
    exact h
  have b1 := ne_rl hW
  have H1 : Box ((w.alloc (.cells (bkC A1 0 c1 z16 z16).toArray 25)).alloc (.cells (bkC A2 n2 c2 R2 F2).toArray 25)) w.heap.size (bkC A1 0 c1 z16 z16) := (Box.new w _).calm ((Calm.refl _).alloc _)
  have H2 : Box ((w.alloc (.cells (bkC A1 0 c1 z16 z16).toArray 25)).alloc (.cells (bkC A2 n2 c2 R2 F2).toArray 25)) (w.heap.size + 1) (bkC A2 n2 c2 R2 F2) := two_new w _ _
  have hu := ((Calm.refl w).alloc (.cells (bkC A1 0 c1 z16 z16).toArray 25)).alloc (.cells (bkC A2 n2 c2 R2 F2).toArray 25)
  go_enter Try.func13, Try.ntmps13
  go_upto_region 1 with fail
  generalize ((w.alloc (.cells (bkC A1 0 c1 z16 z16).toArray 25)).alloc (.cells (bkC A2 n2 c2 R2 F2).toArray 25)) = v0 at H1 H2 hu ⊢
  go_wp2_with (first
    | (refine wpList_bareB (by kernel_rfl) ?_; refine wpList_load_mid rfl 25 (.tmp 4) rfl w.heap.size 0 rfl (bkC A1 0 c1 z16 z16) _ (range_all H1) Try.underlying25 rfl (bkJ z16_len z16_len) ?_)
    | (go_at_call 35; (with_reducible refine (cS _ hu).mono ?_); rintro e w5 ⟨rfl, hb5⟩; replace hu := hu.call hb5; clear hb5))
  go_ret
  exact ⟨rfl, hu⟩
set_option maxHeartbeats 4000000 in
theorem told_ok (A1 A2 : Option Addr) (c1 c2 : Nat) (l : List El) (R F : List Int) (w : World) (hn : l.length ≤ 9223372036854775807) (h1 : Lies w A1 l) (h2 : Lies w A2 l) (hR : R.length = 16) (hF : F.length = 16) :
    Calls Try.prog 13 #[.agg (bkC A1 l.length c1 R F).toArray, .int .i64 0, .agg (bkC A2 l.length c2 R F).toArray, .int .i64 0] w fun e w' => e = .returned (.bool true) ∧ Calm w w' := by
  have cS : ∀ u, Calm w u → Calls Try.prog 35 #[.agg (bkC A1 l.length c1 R F).toArray, .agg (bkC A2 l.length c2 R F).toArray] u fun e w' => e = .returned (.bool true) ∧ Calm u w' := fun u hu => by
    have h := sameBook_any A1 A2 c1 c2 l l R F R F u hn hn (h1.calm hu) (h2.calm hu) hR hF hR hF
    rw [decide_eq_true ⟨rfl, rfl, rfl⟩] at h
    exact h
  have H1 : Box ((w.alloc (.cells (bkC A1 l.length c1 R F).toArray 25)).alloc (.cells (bkC A2 l.length c2 R F).toArray 25)) w.heap.size (bkC A1 l.length c1 R F) := (Box.new w _).calm ((Calm.refl _).alloc _)
  have H2 : Box ((w.alloc (.cells (bkC A1 l.length c1 R F).toArray 25)).alloc (.cells (bkC A2 l.length c2 R F).toArray 25)) (w.heap.size + 1) (bkC A2 l.length c2 R F) := two_new w _ _
  have hu := ((Calm.refl w).alloc (.cells (bkC A1 l.length c1 R F).toArray 25)).alloc (.cells (bkC A2 l.length c2 R F).toArray 25)
  go_enter Try.func13, Try.ntmps13
  go_upto_region 1 with fail
  generalize ((w.alloc (.cells (bkC A1 l.length c1 R F).toArray 25)).alloc (.cells (bkC A2 l.length c2 R F).toArray 25)) = v0 at H1 H2 hu ⊢
  go_wp2_with (first
    | (refine wpList_bareB (by kernel_rfl) ?_; refine wpList_load_mid rfl 25 (.tmp 4) rfl w.heap.size 0 rfl (bkC A1 l.length c1 R F) _ (range_all H1) Try.underlying25 rfl (bkJ hR hF) ?_)
    | (refine wpList_bareB (by kernel_rfl) ?_; refine wpList_load_mid rfl 25 (.tmp 6) rfl (w.heap.size + 1) 0 rfl (bkC A2 l.length c2 R F) _ (range_all H2) Try.underlying25 rfl (bkJ hR hF) ?_)
    | (go_at_call 35; (with_reducible refine (cS _ hu).mono ?_); rintro e w5 ⟨rfl, hb5⟩; replace hu := hu.call hb5; clear hb5))
  go_ret
  exact ⟨rfl, hu⟩
open Go.RowKit
theorem aheadS_Fol {p o f m p' o' f' m' : Int} : aheadS p' o' f' m' p o f m = true ↔ sLt (p', o', f') m' (p, o, f) m := by
 have h := scmp_sLt (a := ⟨p', o', f', m', 0, ByteArray.empty⟩) (b := ⟨p, o, f, m, 0, ByteArray.empty⟩)
 simp only [El.key] at h
 unfold aheadS; rw [decide_eq_true_eq, h]
set_option maxHeartbeats 8000000 in
theorem refRun_any (A : Option Addr) (c : Nat) (l : List El) (w : World) (hn : l.length ≤ 9223372036854775807) (hL : Lies w A l) :
    Calls Try.prog 47 #[.slice A l.length c] w fun e w' => e = .returned (.int .i64 (runErr l)) ∧ Calm w w' := by
  by_cases hbig : 400 < l.length
  · have K : Hid (2 = runErr l) := by show _ = _; unfold runErr; rw [if_pos hbig]
    go_enter Try.func47, Try.ntmps47
    go_wp2_with fail
    go_ret
    exact ⟨ret_int K.out, Calm.refl _⟩
  go_enter Try.func47, Try.ntmps47
  go_wp2_with fail
  go_loopw [12] (fun i wr => ∃ k : Nat, k ≤ l.length ∧ i = .int .i64 k ∧ Calm w wr ∧ NoErr l k) (fun i _ => l.length - (intOf i).toNat)
  case atStart => exact ⟨0, Nat.zero_le _, rfl, Calm.refl _, fun j hj => absurd hj (Nat.not_lt_zero _)⟩
  case round =>
    obtain ⟨k, hk, rfl, hu, hN⟩ := hrel
    by_cases hlt : k < l.length
    rotate_left
    · have hkl : k = l.length := by omega
      have K : Hid (0 = runErr l) := runErr_good hbig (by rw [← hkl]; exact hN)
      clear hkl
      go_wp2_with fail
      go_ret
      exact ⟨ret_int K.out, hu⟩
    obtain ⟨b, q, p, o, f, m, g, s, rfl, hb, HE, hm, c0, c1, c2, c3, c4, c5⟩ := (hL.calm hu).get hlt
    by_cases he : elemErr p o f m g s.size = 0
    rotate_left
    · have b1 : (elemErr p o f m g s.size != 0) = true := by simpa using he
      have K : Hid (elemErr p o f m g s.size = runErr l) := by
        have h1 := stepErr_err HE.out (show El.err ⟨p, o, f, m, g, s⟩ ≠ 0 from he)
        rw [← runErr_at hbig hN (by rw [h1]; exact he) hlt, h1]; rfl
      clear he
      go_wp2_with (go_at_call 50; refine (refElem_any _ _ _ _ _ _ _ hm).mono ?_; rintro e w1 ⟨rfl, hb1⟩)
      go_ret
      exact ⟨ret_int K.out, by repeat (first | (with_reducible exact Calm.refl _) | (with_reducible refine Calm.alloc ?_ _) | (with_reducible refine Calm.drew ?_) | (with_reducible refine Calm.drewN ?_ _) | (refine Calm.call ?_ (by with_reducible assumption)))⟩
    have b1 : (elemErr p o f m g s.size != 0) = false := by simpa using he
    have HE0 : Hid (elemErr p o f m g s.size = 0) := he
    clear he
    by_cases hk0 : k = 0
    · subst hk0
      have hN1 : NoErr l 1 := fun j hj => by
        have : j = 0 := by omega
        subst this
        exact stepErr_first HE.out HE0.out
      simp only [Nat.zero_mul, Nat.add_zero] at c0 c1 c2 c3 c4 c5
      go_wp2_with (go_at_call 50; refine (refElem_any _ _ _ _ _ _ _ hm).mono ?_; rintro e w1 ⟨rfl, hb1⟩)
      exact ⟨⟨1, by omega, rfl, (hu.alloc _).call hb1, hN1⟩, by simp [intOf]; omega⟩
    obtain ⟨p', o', f', m', g', s', HE', hm', d0, d1, d2, d3, d4, d5⟩ := (hL.calm hu).get2 (k := k - 1) (by omega)
    have hS := stepErr_form HE.out HE0.out (by omega) HE'.out
    have hg' : g' = 0 ∨ 0 < g' := by
      have h1 := ((stepErr_zero (l := l) (i := k - 1) (by omega)).1 (hN (k - 1) (by omega))).1
      rw [(List.getElem?_eq_some_iff.1 HE'.out).2] at h1
      have h2 := err_time h1
      unfold timeOk at h2; simp only at h2; omega
    have z0 : 0 < k := by omega
    have z1 : IntKind.i64.wrap ((k : Int) - 1) = (k : Int) - 1 := IntWalk.i64_in _ (by omega)
    have z2 : ((k : Int) - 1).toNat = k - 1 := by omega
    have z3 : 0 ≤ (k : Int) - 1 := by omega
    have z4 : (k : Int) - 1 < l.length := by omega
    have z5 : 1 ≤ (k : Int) := by omega
    have hLR : Calm w wr ∧ k < l.length ∧ NoErr l k ∧ ¬ 400 < l.length := ⟨hu, hlt, hN, hbig⟩
    have HS : Hid (stepErr l k = if Fol ⟨p', o', f', m', g', s'⟩ ⟨p, o, f, m, g, s⟩ then 0 else 3) := hS
    clear hS
    go_upto_region 11 with (go_at_call 50; refine (refElem_any _ _ _ _ _ _ _ hm).mono ?_; rintro e w1 ⟨rfl, hb1⟩; have hx1 := (hb1.block (k := wr.heap.size) (by simp)).trans (heap_new wr _); have hv := ((Calm.refl wr).alloc _).call hb1; have hb2 : b < w1.heap.size := Nat.lt_of_lt_of_le hb hv.size; have hvc := hv.facts.1; replace d0 := (hvc _ _ hb).trans d0; replace d1 := (hvc _ _ hb).trans d1; replace d2 := (hvc _ _ hb).trans d2; replace d3 := (hvc _ _ hb).trans d3; replace d4 := (hvc _ _ hb).trans d4; replace d5 := (hvc _ _ hb).trans d5; clear hvc hb1 c0 c1 c2 c3 c4 c5 hL)
    clear b1 z0 z1 z2 z3 z4 z5 d0 d1 d2 d3 d4 d5
    have hx := heap_past (.cells #[.int .i64 p', .int .i64 o', .int .i64 f', .int .i64 m', .int .i64 g', .string s'] 50) hx1
    have hy := heap_new w1 (.cells #[.int .i64 p', .int .i64 o', .int .i64 f', .int .i64 m', .int .i64 g', .string s'] 50)
    have hv1 := (hu.call hv).alloc (.cells #[.int .i64 p', .int .i64 o', .int .i64 f', .int .i64 m', .int .i64 g', .string s'] 50)
    have hne : wr.heap.size ≠ w1.heap.size := by have := (Array.getElem?_eq_some_iff.1 hx1).1; omega
    generalize w1.alloc (.cells #[.int .i64 p', .int .i64 o', .int .i64 f', .int .i64 m', .int .i64 g', .string s'] 50) = wc at hx hy hv1 ⊢
    obtain ⟨x0, x1, x2, x3, x4, x5, hxs⟩ := row6 hx
    obtain ⟨y0, y1, y2, y3, y4, y5, hys⟩ := row6 hy
    clear hv hb2 hx1 hx hy
    generalize wr.heap.size = X0 at *
    generalize w1.heap.size = Y0 at *
    have hFA : Fol ⟨p', o', f', m', g', s'⟩ ⟨p, o, f, m, g, s⟩ ↔ aheadS p' o' f' m' p o f m = true ∧ ((p', o', f') = (p, o, f) → g' ≠ 0 ∧ g' ≤ m) := by rw [aheadS_Fol]; exact Iff.rfl
    clear hN hbig hlt hk0 HE HE0 HE' hu hm hm'
    have hN := hLR.2.2.1
    have hlt := hLR.2.1
    cases hA : aheadS p' o' f' m' p o f m
    · have hF : ¬ Fol ⟨p', o', f', m', g', s'⟩ ⟨p, o, f, m, g, s⟩ := fun h => by rw [hFA, hA] at h; exact absurd h.1 (by simp)
      have K : Hid (3 = runErr l) := by
        have h := HS.out
        rw [if_neg hF] at h
        exact h.symm.trans (runErr_at hLR.2.2.2 hLR.2.2.1 (by rw [h]; decide) hLR.2.1)
      clear hF HS
      have cS : ∀ u, Calls Try.prog 90 #[.agg #[.int .i64 p', .int .i64 o', .int .i64 f', .int .i64 m'], .agg #[.int .i64 p, .int .i64 o, .int .i64 f, .int .i64 m]] u fun e w' => e = .returned (.bool false) ∧ Calm u w' := fun u => by rw [← hA]; exact aheadSpot_any _ _ _ _ _ _ _ _ _
      clear hA hFA
      refine wp_region_plan [.val (.agg #[.int .i64 p', .int .i64 o', .int .i64 f', .int .i64 m', .int .i64 g', .string s']), .val (.agg #[.int .i64 p', .int .i64 o', .int .i64 f', .int .i64 m']), .val (.agg #[.int .i64 p, .int .i64 o, .int .i64 f, .int .i64 m, .int .i64 g, .string s]), .val (.agg #[.int .i64 p, .int .i64 o, .int .i64 f, .int .i64 m]), .val (.bool false), .val (.bool true), .val (.bool true), .idle, .idle, .idle, .idle, .idle, .idle, .idle, .idle, .idle, .idle, .idle, .idle, .idle, .idle, .idle, .idle, .idle, .idle, .val (.bool true)] (by kernel_rfl) (by kernel_rfl) (by kernel_rfl) ?_
      intro X
      iterate 7
        refine plan_val (by kernel_rfl) (fun u hu => ?_) ?_
        · obtain ⟨hc, hf, hz⟩ := hu.of_drew.facts
          go_simp
          all_goals first
            | (go_at_call 64; exact refSpot_any _ _ _ _ _ _ _)
            | (go_at_call 90; exact cS _)
        simp only [Act.put, List.setIfInBounds_toArray, List.set_cons_zero, List.set_cons_succ, Nat.reduceAdd]
      iterate 18
        refine plan_idle (by kernel_rfl) ?_
        simp only [Act.put, List.setIfInBounds_toArray, List.set_cons_zero, List.set_cons_succ, Nat.reduceAdd]
      iterate 1
        refine plan_val (by kernel_rfl) (fun u hu => ?_) ?_
        · obtain ⟨hc, hf, hz⟩ := hu.of_drew.facts
          go_simp
          all_goals first
            | (go_at_call 64; exact refSpot_any _ _ _ _ _ _ _)
            | (go_at_call 90; exact cS _)
        simp only [Act.put, List.setIfInBounds_toArray, List.set_cons_zero, List.set_cons_succ, Nat.reduceAdd]
      refine plan_end ?_
      intro w' hB
      have hk := hB.calm.of_drew
      clear hB cS
      go_wp2_with fail
      go_ret
      exact ⟨ret_int K.out, hv1.call hk⟩
    by_cases hK : (p', o', f') = (p, o, f)
    rotate_left
    · have hF : Fol ⟨p', o', f', m', g', s'⟩ ⟨p, o, f, m, g, s⟩ := hFA.2 ⟨hA, fun h => absurd h hK⟩
      have hN1 : NoErr l (k + 1) := fun j hj => by
        rcases Nat.lt_or_ge j k with h | h
        · exact hN j h
        · rw [show j = k by omega]; have h := HS.out; rw [if_pos hF] at h; exact h
      clear hF HS
      have cS : ∀ u, Calls Try.prog 90 #[.agg #[.int .i64 p', .int .i64 o', .int .i64 f', .int .i64 m'], .agg #[.int .i64 p, .int .i64 o, .int .i64 f, .int .i64 m]] u fun e w' => e = .returned (.bool true) ∧ Calm u w' := fun u => by rw [← hA]; exact aheadSpot_any _ _ _ _ _ _ _ _ _
      clear hA hFA
      have h3 : ¬ p' = p ∨ (p' = p ∧ ¬ o' = o) ∨ (p' = p ∧ o' = o ∧ ¬ f' = f) := by simp only [Prod.mk.injEq] at hK; omega
      clear hK
      rcases h3 with h3 | ⟨h3, h4⟩ | ⟨h3, h4, h5⟩
      · skip
        refine wp_region_plan [.val (.agg #[.int .i64 p', .int .i64 o', .int .i64 f', .int .i64 m', .int .i64 g', .string s']), .val (.agg #[.int .i64 p', .int .i64 o', .int .i64 f', .int .i64 m']), .val (.agg #[.int .i64 p, .int .i64 o, .int .i64 f, .int .i64 m, .int .i64 g, .string s]), .val (.agg #[.int .i64 p, .int .i64 o, .int .i64 f, .int .i64 m]), .val (.bool true), .val (.bool false), .val (.bool false), .val (.pointer (some ⟨Y0, 0, none⟩)), .val (.agg #[.int .i64 p', .int .i64 o', .int .i64 f']), .val (.pointer (some ⟨X0, 0, none⟩)), .val (.agg #[.int .i64 p, .int .i64 o, .int .i64 f]), .val (.bool false), .val (.bool false), .idle, .idle, .idle, .idle, .idle, .idle, .idle, .idle, .idle, .idle, .idle, .val (.bool false), .val (.bool false)] (by kernel_rfl) (by kernel_rfl) (by kernel_rfl) ?_
        intro X
        iterate 13
          refine plan_val (by kernel_rfl) (fun u hu => ?_) ?_
          · obtain ⟨hc, hf, hz⟩ := hu.of_drew.facts
            go_simp
            all_goals first
              | (go_at_call 64; exact refSpot_any _ _ _ _ _ _ _)
              | (go_at_call 90; exact cS _)
          simp only [Act.put, List.setIfInBounds_toArray, List.set_cons_zero, List.set_cons_succ, Nat.reduceAdd]
        iterate 11
          refine plan_idle (by kernel_rfl) ?_
          simp only [Act.put, List.setIfInBounds_toArray, List.set_cons_zero, List.set_cons_succ, Nat.reduceAdd]
        iterate 2
          refine plan_val (by kernel_rfl) (fun u hu => ?_) ?_
          · obtain ⟨hc, hf, hz⟩ := hu.of_drew.facts
            go_simp
            all_goals first
              | (go_at_call 64; exact refSpot_any _ _ _ _ _ _ _)
              | (go_at_call 90; exact cS _)
          simp only [Act.put, List.setIfInBounds_toArray, List.set_cons_zero, List.set_cons_succ, Nat.reduceAdd]
        refine plan_end ?_
        intro w' hB
        have hk := hB.calm.of_drew
        clear hB cS
        go_wp2_with fail
        go_roundw
        case rel => exact ⟨k + 1, by omega, by go_num, hv1.call hk, hN1⟩
        case measure => simp [intOf]; omega
      · skip
        subst h3
        refine wp_region_plan [.val (.agg #[.int .i64 p', .int .i64 o', .int .i64 f', .int .i64 m', .int .i64 g', .string s']), .val (.agg #[.int .i64 p', .int .i64 o', .int .i64 f', .int .i64 m']), .val (.agg #[.int .i64 p', .int .i64 o, .int .i64 f, .int .i64 m, .int .i64 g, .string s]), .val (.agg #[.int .i64 p', .int .i64 o, .int .i64 f, .int .i64 m]), .val (.bool true), .val (.bool false), .val (.bool false), .val (.pointer (some ⟨Y0, 0, none⟩)), .val (.agg #[.int .i64 p', .int .i64 o', .int .i64 f']), .val (.pointer (some ⟨X0, 0, none⟩)), .val (.agg #[.int .i64 p', .int .i64 o, .int .i64 f]), .val (.bool false), .val (.bool false), .idle, .idle, .idle, .idle, .idle, .idle, .idle, .idle, .idle, .idle, .idle, .val (.bool false), .val (.bool false)] (by kernel_rfl) (by kernel_rfl) (by kernel_rfl) ?_
        intro X
        iterate 13
          refine plan_val (by kernel_rfl) (fun u hu => ?_) ?_
          · obtain ⟨hc, hf, hz⟩ := hu.of_drew.facts
            go_simp
            all_goals first
              | (go_at_call 64; exact refSpot_any _ _ _ _ _ _ _)
              | (go_at_call 90; exact cS _)
          simp only [Act.put, List.setIfInBounds_toArray, List.set_cons_zero, List.set_cons_succ, Nat.reduceAdd]
        iterate 11
          refine plan_idle (by kernel_rfl) ?_
          simp only [Act.put, List.setIfInBounds_toArray, List.set_cons_zero, List.set_cons_succ, Nat.reduceAdd]
        iterate 2
          refine plan_val (by kernel_rfl) (fun u hu => ?_) ?_
          · obtain ⟨hc, hf, hz⟩ := hu.of_drew.facts
            go_simp
            all_goals first
              | (go_at_call 64; exact refSpot_any _ _ _ _ _ _ _)
              | (go_at_call 90; exact cS _)
          simp only [Act.put, List.setIfInBounds_toArray, List.set_cons_zero, List.set_cons_succ, Nat.reduceAdd]
        refine plan_end ?_
        intro w' hB
        have hk := hB.calm.of_drew
        clear hB cS
        go_wp2_with fail
        go_roundw
        case rel => exact ⟨k + 1, by omega, by go_num, hv1.call hk, hN1⟩
        case measure => simp [intOf]; omega
      · skip
        subst h3
        subst h4
        refine wp_region_plan [.val (.agg #[.int .i64 p', .int .i64 o', .int .i64 f', .int .i64 m', .int .i64 g', .string s']), .val (.agg #[.int .i64 p', .int .i64 o', .int .i64 f', .int .i64 m']), .val (.agg #[.int .i64 p', .int .i64 o', .int .i64 f, .int .i64 m, .int .i64 g, .string s]), .val (.agg #[.int .i64 p', .int .i64 o', .int .i64 f, .int .i64 m]), .val (.bool true), .val (.bool false), .val (.bool false), .val (.pointer (some ⟨Y0, 0, none⟩)), .val (.agg #[.int .i64 p', .int .i64 o', .int .i64 f']), .val (.pointer (some ⟨X0, 0, none⟩)), .val (.agg #[.int .i64 p', .int .i64 o', .int .i64 f]), .val (.bool false), .val (.bool false), .idle, .idle, .idle, .idle, .idle, .idle, .idle, .idle, .idle, .idle, .idle, .val (.bool false), .val (.bool false)] (by kernel_rfl) (by kernel_rfl) (by kernel_rfl) ?_
        intro X
        iterate 13
          refine plan_val (by kernel_rfl) (fun u hu => ?_) ?_
          · obtain ⟨hc, hf, hz⟩ := hu.of_drew.facts
            go_simp
            all_goals first
              | (go_at_call 64; exact refSpot_any _ _ _ _ _ _ _)
              | (go_at_call 90; exact cS _)
          simp only [Act.put, List.setIfInBounds_toArray, List.set_cons_zero, List.set_cons_succ, Nat.reduceAdd]
        iterate 11
          refine plan_idle (by kernel_rfl) ?_
          simp only [Act.put, List.setIfInBounds_toArray, List.set_cons_zero, List.set_cons_succ, Nat.reduceAdd]
        iterate 2
          refine plan_val (by kernel_rfl) (fun u hu => ?_) ?_
          · obtain ⟨hc, hf, hz⟩ := hu.of_drew.facts
            go_simp
            all_goals first
              | (go_at_call 64; exact refSpot_any _ _ _ _ _ _ _)
              | (go_at_call 90; exact cS _)
          simp only [Act.put, List.setIfInBounds_toArray, List.set_cons_zero, List.set_cons_succ, Nat.reduceAdd]
        refine plan_end ?_
        intro w' hB
        have hk := hB.calm.of_drew
        clear hB cS
        go_wp2_with fail
        go_roundw
        case rel => exact ⟨k + 1, by omega, by go_num, hv1.call hk, hN1⟩
        case measure => simp [intOf]; omega
    simp only [Prod.mk.injEq] at hK
    obtain ⟨rfl, rfl, rfl⟩ := hK
    by_cases hg0 : 0 < g'
    rotate_left
    · have hF : ¬ Fol ⟨p', o', f', m', g', s'⟩ ⟨p', o', f', m, g, s⟩ := fun h => by have := ((hFA.1 h).2 rfl).1; omega
      have K : Hid (3 = runErr l) := by
        have h := HS.out
        rw [if_neg hF] at h
        exact h.symm.trans (runErr_at hLR.2.2.2 hLR.2.2.1 (by rw [h]; decide) hLR.2.1)
      clear hF HS
      have cS : ∀ u, Calls Try.prog 90 #[.agg #[.int .i64 p', .int .i64 o', .int .i64 f', .int .i64 m'], .agg #[.int .i64 p', .int .i64 o', .int .i64 f', .int .i64 m]] u fun e w' => e = .returned (.bool true) ∧ Calm u w' := fun u => by rw [← hA]; exact aheadSpot_any _ _ _ _ _ _ _ _ _
      clear hA hFA hg'
      refine wp_region_plan [.val (.agg #[.int .i64 p', .int .i64 o', .int .i64 f', .int .i64 m', .int .i64 g', .string s']), .val (.agg #[.int .i64 p', .int .i64 o', .int .i64 f', .int .i64 m']), .val (.agg #[.int .i64 p', .int .i64 o', .int .i64 f', .int .i64 m, .int .i64 g, .string s]), .val (.agg #[.int .i64 p', .int .i64 o', .int .i64 f', .int .i64 m]), .val (.bool true), .val (.bool false), .val (.bool false), .val (.pointer (some ⟨Y0, 0, none⟩)), .val (.agg #[.int .i64 p', .int .i64 o', .int .i64 f']), .val (.pointer (some ⟨X0, 0, none⟩)), .val (.agg #[.int .i64 p', .int .i64 o', .int .i64 f']), .val (.bool true), .val (.bool true), .val (.pointer (some ⟨Y0, 4, none⟩)), .val (.int .i64 g'), .val (.bool false), .val (.bool false), .idle, .idle, .idle, .idle, .idle, .val (.bool false), .val (.bool true), .val (.bool true), .val (.bool true)] (by kernel_rfl) (by kernel_rfl) (by kernel_rfl) ?_
      intro X
      iterate 17
        refine plan_val (by kernel_rfl) (fun u hu => ?_) ?_
        · obtain ⟨hc, hf, hz⟩ := hu.of_drew.facts
          go_simp
          all_goals first
            | (go_at_call 64; exact refSpot_any _ _ _ _ _ _ _)
            | (go_at_call 90; exact cS _)
        simp only [Act.put, List.setIfInBounds_toArray, List.set_cons_zero, List.set_cons_succ, Nat.reduceAdd]
      iterate 5
        refine plan_idle (by kernel_rfl) ?_
        simp only [Act.put, List.setIfInBounds_toArray, List.set_cons_zero, List.set_cons_succ, Nat.reduceAdd]
      iterate 4
        refine plan_val (by kernel_rfl) (fun u hu => ?_) ?_
        · obtain ⟨hc, hf, hz⟩ := hu.of_drew.facts
          go_simp
          all_goals first
            | (go_at_call 64; exact refSpot_any _ _ _ _ _ _ _)
            | (go_at_call 90; exact cS _)
        simp only [Act.put, List.setIfInBounds_toArray, List.set_cons_zero, List.set_cons_succ, Nat.reduceAdd]
      refine plan_end ?_
      intro w' hB
      have hk := hB.calm.of_drew
      clear hB cS
      go_wp2_with fail
      go_ret
      exact ⟨ret_int K.out, hv1.call hk⟩
    by_cases hgm : g' ≤ m
    · have hF : Fol ⟨p', o', f', m', g', s'⟩ ⟨p', o', f', m, g, s⟩ := hFA.2 ⟨hA, fun _ => ⟨by omega, hgm⟩⟩
      have hN1 : NoErr l (k + 1) := fun j hj => by
        rcases Nat.lt_or_ge j k with h | h
        · exact hN j h
        · rw [show j = k by omega]; have h := HS.out; rw [if_pos hF] at h; exact h
      clear hF HS
      have cS : ∀ u, Calls Try.prog 90 #[.agg #[.int .i64 p', .int .i64 o', .int .i64 f', .int .i64 m'], .agg #[.int .i64 p', .int .i64 o', .int .i64 f', .int .i64 m]] u fun e w' => e = .returned (.bool true) ∧ Calm u w' := fun u => by rw [← hA]; exact aheadSpot_any _ _ _ _ _ _ _ _ _
      clear hA hFA hg'
      refine wp_region_plan [.val (.agg #[.int .i64 p', .int .i64 o', .int .i64 f', .int .i64 m', .int .i64 g', .string s']), .val (.agg #[.int .i64 p', .int .i64 o', .int .i64 f', .int .i64 m']), .val (.agg #[.int .i64 p', .int .i64 o', .int .i64 f', .int .i64 m, .int .i64 g, .string s]), .val (.agg #[.int .i64 p', .int .i64 o', .int .i64 f', .int .i64 m]), .val (.bool true), .val (.bool false), .val (.bool false), .val (.pointer (some ⟨Y0, 0, none⟩)), .val (.agg #[.int .i64 p', .int .i64 o', .int .i64 f']), .val (.pointer (some ⟨X0, 0, none⟩)), .val (.agg #[.int .i64 p', .int .i64 o', .int .i64 f']), .val (.bool true), .val (.bool true), .val (.pointer (some ⟨Y0, 4, none⟩)), .val (.int .i64 g'), .val (.bool true), .val (.bool true), .val (.pointer (some ⟨Y0, 4, none⟩)), .val (.int .i64 g'), .val (.pointer (some ⟨X0, 3, none⟩)), .val (.int .i64 m), .val (.bool true), .val (.bool true), .val (.bool false), .val (.bool false), .val (.bool false)] (by kernel_rfl) (by kernel_rfl) (by kernel_rfl) ?_
      intro X
      iterate 26
        refine plan_val (by kernel_rfl) (fun u hu => ?_) ?_
        · obtain ⟨hc, hf, hz⟩ := hu.of_drew.facts
          go_simp
          all_goals first
            | (go_at_call 64; exact refSpot_any _ _ _ _ _ _ _)
            | (go_at_call 90; exact cS _)
        simp only [Act.put, List.setIfInBounds_toArray, List.set_cons_zero, List.set_cons_succ, Nat.reduceAdd]
      refine plan_end ?_
      intro w' hB
      have hk := hB.calm.of_drew
      clear hB cS
      go_wp2_with fail
      go_roundw
      case rel => exact ⟨k + 1, by omega, by go_num, hv1.call hk, hN1⟩
      case measure => simp [intOf]; omega
    · have hF : ¬ Fol ⟨p', o', f', m', g', s'⟩ ⟨p', o', f', m, g, s⟩ := fun h => by have := ((hFA.1 h).2 rfl).2; omega
      have K : Hid (3 = runErr l) := by
        have h := HS.out
        rw [if_neg hF] at h
        exact h.symm.trans (runErr_at hLR.2.2.2 hLR.2.2.1 (by rw [h]; decide) hLR.2.1)
      clear hF HS
      have cS : ∀ u, Calls Try.prog 90 #[.agg #[.int .i64 p', .int .i64 o', .int .i64 f', .int .i64 m'], .agg #[.int .i64 p', .int .i64 o', .int .i64 f', .int .i64 m]] u fun e w' => e = .returned (.bool true) ∧ Calm u w' := fun u => by rw [← hA]; exact aheadSpot_any _ _ _ _ _ _ _ _ _
      clear hA hFA hg'
      refine wp_region_plan [.val (.agg #[.int .i64 p', .int .i64 o', .int .i64 f', .int .i64 m', .int .i64 g', .string s']), .val (.agg #[.int .i64 p', .int .i64 o', .int .i64 f', .int .i64 m']), .val (.agg #[.int .i64 p', .int .i64 o', .int .i64 f', .int .i64 m, .int .i64 g, .string s]), .val (.agg #[.int .i64 p', .int .i64 o', .int .i64 f', .int .i64 m]), .val (.bool true), .val (.bool false), .val (.bool false), .val (.pointer (some ⟨Y0, 0, none⟩)), .val (.agg #[.int .i64 p', .int .i64 o', .int .i64 f']), .val (.pointer (some ⟨X0, 0, none⟩)), .val (.agg #[.int .i64 p', .int .i64 o', .int .i64 f']), .val (.bool true), .val (.bool true), .val (.pointer (some ⟨Y0, 4, none⟩)), .val (.int .i64 g'), .val (.bool true), .val (.bool true), .val (.pointer (some ⟨Y0, 4, none⟩)), .val (.int .i64 g'), .val (.pointer (some ⟨X0, 3, none⟩)), .val (.int .i64 m), .val (.bool false), .val (.bool false), .val (.bool true), .val (.bool true), .val (.bool true)] (by kernel_rfl) (by kernel_rfl) (by kernel_rfl) ?_
      intro X
      iterate 26
        refine plan_val (by kernel_rfl) (fun u hu => ?_) ?_
        · obtain ⟨hc, hf, hz⟩ := hu.of_drew.facts
          go_simp
          all_goals first
            | (go_at_call 64; exact refSpot_any _ _ _ _ _ _ _)
            | (go_at_call 90; exact cS _)
        simp only [Act.put, List.setIfInBounds_toArray, List.set_cons_zero, List.set_cons_succ, Nat.reduceAdd]
      refine plan_end ?_
      intro w' hB
      have hk := hB.calm.of_drew
      clear hB cS
      go_wp2_with fail
      go_ret
      exact ⟨ret_int K.out, hv1.call hk⟩
open Go.ChangeShapes Go.WideShapes Go.ChangeAt Go.RowKit
theorem fedFit_bad {r f : Int} : fedFit r f = (decide (0 ≤ r ∧ r ≤ 2) && decide (0 ≤ f ∧ f ≤ 2147483647) && !(decide (f ≠ 0 ∧ r ≠ 2))) := by
 unfold fedFit
 by_cases h0 : r = 0 ∨ r = 1
 ·rw [if_pos h0]
  rcases h0 with rfl | rfl
  ·by_cases h : f = 0 <;> simp [h]
  ·by_cases h : f = 0 <;> simp [h]
 ·rw [if_neg h0]
  by_cases h2 : r = 2
  ·subst h2; simp
  ·rw [if_neg h2, Bool.eq_iff_iff]
   simp
   intro h3 h4
   omega
set_option maxHeartbeats 4000000 in
theorem refBook_any (A : Option Addr) (c : Nat) (l : List El) (R F : List Int) (w : World) (hn : l.length ≤ 9223372036854775807) (hL : Lies w A l) (hR : R.length = 16) (hF : F.length = 16) :
    Calls Try.prog 12 #[.agg (bkC A l.length c R F).toArray] w fun e w' => e = .returned (.int .i64 (bkErr l R F)) ∧ Calm w w' := by
  have cC := fun u (hu : Calm w u) => refRun_any A c l u hn (hL.calm hu)
  have hE : runErr l ≠ 0 → bkErr l R F = runErr l := fun h => by unfold bkErr; exact if_neg h
  have hE0 : runErr l = 0 → bkOk l R F → bkErr l R F = 0 := fun h h2 => by unfold bkErr; rw [if_pos h]; exact if_pos h2
  have hE3 : runErr l = 0 → ¬ bkOk l R F → bkErr l R F = 3 := fun h h2 => by unfold bkErr; rw [if_pos h]; exact if_neg h2
  generalize bkErr l R F = E at hE hE0 hE3 ⊢
  have hx := heap_new w (.cells (bkC A l.length c R F).toArray 25)
  have hu := (Calm.refl w).alloc (.cells (bkC A l.length c R F).toArray 25)
  have c0 := (cell_of_row _ _ 0 _ _ _ hx).trans (show (bkC A l.length c R F).toArray[0]? = some (.slice A l.length c) from rfl)
  have hxl : w.heap.size < (w.alloc (.cells (bkC A l.length c R F).toArray 25)).heap.size := by simp
  have HX := Lib.hid hx
  have RR : ∀ u : World, u.heap[w.heap.size]? = some (.cells (bkC A l.length c R F).toArray 25 (0, 0)) → u.rangeAt w.heap.size 1 (R.map (Value.int .i64)) := fun u h => range_role hR h
  have RF : ∀ u : World, u.heap[w.heap.size]? = some (.cells (bkC A l.length c R F).toArray 25 (0, 0)) → ∀ k, k < 16 → u.cell? ⟨w.heap.size, 17 + k, none⟩ = some (.int .i64 (gI F k)) := fun u h k hk => (cell_of_row _ _ (17 + k) _ _ _ h).trans (bk_fed hR hF hk)
  have RG : ∀ u : World, u.heap[w.heap.size]? = some (.cells (bkC A l.length c R F).toArray 25 (0, 0)) → ∀ k, k < 16 → u.cell? ⟨w.heap.size, 1 + k, none⟩ = some (.int .i64 (gI R k)) := fun u h k hk => (cell_of_row _ _ (1 + k) _ _ _ h).trans (bk_role hR hk)
  have RA : ∀ u : World, u.heap[w.heap.size]? = some (.cells (bkC A l.length c R F).toArray 25 (0, 0)) → u.cell? ⟨w.heap.size, 0, none⟩ = some (.slice A l.length c) := fun u h => (cell_of_row _ _ 0 _ _ _ h).trans rfl
  have RH := Lib.hid RR
  have RFH := Lib.hid RF
  have RGH := Lib.hid RG
  have RAH := Lib.hid RA
  clear hx RR RF RA RG
  generalize (bkC A l.length c R F) = CL at *
  have hRk : ∀ k, k < 16 → (R.map (Value.int .i64)).toArray[k]? = some (.int .i64 (gI R k)) := fun k hk => by
    unfold gI
    rw [List.getElem?_toArray, List.getElem?_map, List.getD_eq_getElem?_getD, List.getElem?_eq_getElem (by omega)]
    rfl
  have hRl : (R.map (Value.int .i64)).length = 16 := by rw [List.length_map, hR]
  have hI : Hid ((Try.prog.info? 23).map (·.size) = some (R.map (Value.int .i64)).length) := show _ = _ by rw [hRl]; exact info16
  have HRk := Lib.hid hRk
  clear hRk
  generalize R.map (Value.int .i64) = RL at *
  by_cases hr : runErr l = 0
  rotate_left
  · rw [hE hr]
    have b1 := ne_rl hr
    generalize runErr l = X at cC b1 ⊢
    clear hE hE0 hE3 hr
    go_enter Try.func12, Try.ntmps12
    go_wp2_with (go_at_call 47; refine (cC _ hu).mono ?_; rintro e w1 ⟨rfl, hb1⟩; replace hu := hu.call hb1; clear hb1 cC)
    go_ret
    exact ⟨rfl, hu⟩
  have hG := runErr_zero.1 hr
  rw [hr] at cC
  have HE0 := Lib.hid (hE0 hr)
  have HE3 := Lib.hid (hE3 hr)
  have HG := Lib.hid hG
  clear hE hE0 hE3 hr hG
  go_enter Try.func12, Try.ntmps12
  go_wp2_with (first
    | (go_at_call 47; refine (cC _ hu).mono ?_; rintro e w1 ⟨rfl, hb1⟩; replace HX := Lib.hid ((hb1.block hxl).trans HX.out); replace hu := hu.call hb1; clear hb1 cC)
    | (refine wpList_load_mid rfl 23 (.tmp 14) rfl w.heap.size 1 rfl RL _ (RH.out _ HX.out) Try.underlying23 rfl hI.out ?_))
  clear c0 hxl hI RH
  go_loopw [16] (fun i wr => ∃ k : Nat, k ≤ 16 ∧ i = .int .i64 k ∧ Calm w wr ∧ Hid (wr.heap[w.heap.size]? = some (.cells CL.toArray 25 (0, 0))) ∧ Hid (∀ j, j < k → fedFit (gI R j) (gI F j) = true)) (fun i _ => 16 - (intOf i).toNat)
  case atStart => exact ⟨0, by omega, rfl, hu, HX, show ∀ _, _ from fun j hj => absurd hj (Nat.not_lt_zero _)⟩
  case round =>
    obtain ⟨k, hk, rfl, hu, HX, HK⟩ := hrel
    by_cases hlt : k < 16
    rotate_left
    · have HR : Hid (bkRoles R F) := show ∀ k, _ from fun j hj => HK.out j (by omega)
      have c0 := RAH.out _ HX.out
      go_wp2_with fail
      clear c0
      go_loopw [46] (fun i wr => ∃ n : Nat, n ≤ l.length ∧ i = .int .i64 n ∧ Calm w wr ∧ Hid (wr.heap[w.heap.size]? = some (.cells CL.toArray 25 (0, 0))) ∧ Hid (∀ j (hj : j < l.length), j < n → elFit R F l[j] = true)) (fun i _ => l.length - (intOf i).toNat)
      case atStart => exact ⟨0, Nat.zero_le _, rfl, hu, HX, show ∀ _, _ from fun j _ hj => absurd hj (Nat.not_lt_zero _)⟩
      case round =>
        obtain ⟨n, hn2, rfl, hu, HX, HN⟩ := hrel
        by_cases hlt : n < l.length
        rotate_left
        · have E0 := HE0.out ⟨HR.out, fun e he => by
            obtain ⟨j, hj, rfl⟩ := List.getElem_of_mem he
            exact HN.out j hj (by omega)⟩
          subst E0
          go_wp2_with fail
          go_ret
          exact ⟨rfl, hu⟩
        obtain ⟨b, q, p, o, f, m, g, s, rfl, hb, HEe, hm, c0, c1, c2, c3, c4, c5⟩ := (hL.calm hu).get hlt
        have hel : l[n] = ⟨p, o, f, m, g, s⟩ := (List.getElem?_eq_some_iff.1 HEe.out).2
        have hpp := err_zero (HG.out.2.1 _ (List.getElem_mem hlt))
        rw [hel] at hpp
        have hp1 : 0 ≤ p := hpp.1
        have hp2 : p ≤ 15 := hpp.2.1
        obtain ⟨k2, rfl⟩ : ∃ k2 : Nat, p = k2 := ⟨p.toNat, by omega⟩
        have hk2 : k2 < 16 := by omega
        have hk2i : (k2 : Int) < 16 := by omega
        have hk20 : (0 : Int) ≤ (k2 : Int) := by omega
        have hxl : w.heap.size < wr.heap.size := (Array.getElem?_eq_some_iff.1 HX.out).1
        have hE2 : elFit R F ⟨k2, o, f, m, g, s⟩ = if gI R k2 = 1 then true else if gI R k2 = 2 then decide (lastOf m g ≤ gI F k2) else false := by
          unfold elFit
          simp
          rfl
        have hbz : gI R k2 = 0 ∨ gI R k2 = 1 ∨ gI R k2 = 2 := by
          have := HR.out k2 hk2
          unfold fedFit at this
          by_cases h0 : gI R k2 = 0 ∨ gI R k2 = 1
          · omega
          · rw [if_neg h0] at this
            by_cases h2 : gI R k2 = 2
            · omega
            · rw [if_neg h2] at this; exact absurd this (by decide)
        have HEL := Lib.hid hel
        have HX2 := Lib.hid (((((Calm.refl wr).alloc (.cells #[.int .i64 (k2 : Int), .int .i64 o, .int .i64 f, .int .i64 m, .int .i64 g, .string s] 50)).block hxl).trans HX.out))
        have d1 := RGH.out _ HX2.out k2 hk2
        have d2 := RFH.out _ HX2.out k2 hk2
        replace hu := hu.alloc (.cells #[.int .i64 (k2 : Int), .int .i64 o, .int .i64 f, .int .i64 m, .int .i64 g, .string s] 50)
        have he2 := heap_new wr (.cells #[.int .i64 (k2 : Int), .int .i64 o, .int .i64 f, .int .i64 m, .int .i64 g, .string s] 50)
        have cLa := fun u => refLast_any (k2 : Int) o f m g s u
        have HN2 : elFit R F ⟨k2, o, f, m, g, s⟩ = true → Hid (∀ j (hj : j < l.length), j < n + 1 → elFit R F l[j] = true) := fun ht => show ∀ _, _ from fun j hj h => by
          rcases Nat.lt_or_ge j n with h2 | h2
          · exact HN.out j hj h2
          · rw [show l[j] = l[n] from by congr 1; omega, HEL.out]; exact ht
        have HB2 : elFit R F ⟨k2, o, f, m, g, s⟩ = false → E = 3 := fun hf => HE3.out fun h => by
          have := h.2 _ (List.getElem_mem hlt)
          rw [HEL.out, hf] at this
          exact absurd this (by decide)
        rw [hE2] at HN2 HB2
        obtain ⟨e0, e1, e2, e3, e4, e5, hes⟩ := row6 he2
        have hwl : wr.heap.size < (wr.alloc (.cells #[.int .i64 (k2 : Int), .int .i64 o, .int .i64 f, .int .i64 m, .int .i64 g, .string s] 50)).heap.size := by simp
        clear hel hpp HEe hE2 he2 hp1 hp2
        rcases hbz with h | h | h
        · rw [h] at d1 HB2
          have E3 := HB2 rfl
          subst E3
          clear HB2 HN2 h
          go_wp2_with fail
          go_ret
          exact ⟨rfl, hu⟩
        · rw [h] at d1 HN2
          have HN3 := HN2 rfl
          clear HB2 HN2 h
          go_wp2_with fail
          go_roundw
          case rel => exact ⟨n + 1, by omega, by go_num, hu, HX2, HN3⟩
          case measure => simp [intOf]; omega
        · rw [h] at d1 HN2 HB2
          by_cases hz : lastOf m g ≤ gI F k2
          · have HN3 := HN2 (by rw [if_neg (by decide), if_pos rfl]; exact decide_eq_true hz)
            have bz : decide (gI F k2 < lastOf m g) = false := decide_eq_false (by omega)
            clear HB2 HN2 h hz
            generalize gI F k2 = z at *
            go_upto_region 17 with fail
            generalize (wr.alloc (.cells #[.int .i64 (k2 : Int), .int .i64 o, .int .i64 f, .int .i64 m, .int .i64 g, .string s] 50)) = v1 at *
            have hzl : w.heap.size < v1.heap.size := (Array.getElem?_eq_some_iff.1 HX2.out).1
            refine wp_region_plan [.val (.agg #[.int .i64 (k2 : Int), .int .i64 o, .int .i64 f, .int .i64 m, .int .i64 g, .string s]), .val (.int .i64 ((lastOf m g))), .val (.pointer (some ⟨wr.heap.size, 0, none⟩)), .val (.pointer (some ⟨wr.heap.size, 0, none⟩)), .val (.int .i64 ((k2 : Int))), .val (.pointer (some ⟨w.heap.size, 17, none⟩)), .val (.pointer (some ⟨w.heap.size, 17+k2, none⟩)), .val (.int .i64 (z)), .val (.bool false)] (by kernel_rfl) (by kernel_rfl) (by kernel_rfl) ?_
            intro X
            iterate 9
              refine plan_val (by kernel_rfl) (fun u hu => ?_) ?_
              · obtain ⟨hc, hf, hz⟩ := hu.of_drew.facts
                go_simp
                all_goals first
                  | ((go_at_call 49; exact refLast_any _ _ _ _ _ _ _))
                  | (omega)
                  | ((simp; done))
              simp only [Act.put, List.setIfInBounds_toArray, List.set_cons_zero, List.set_cons_succ, Nat.reduceAdd]
            refine plan_end ?_
            intro w' hB
            have hk := hB.calm.of_drew
            clear hB
            replace HX2 := Lib.hid ((hk.block (Array.getElem?_eq_some_iff.1 HX2.out).1).trans HX2.out)
            replace hu := hu.call hk
            clear hk d1 d2 e0 e1 e2 e3 e4 e5
            go_wp2_with fail
            go_roundw
            case rel => exact ⟨n + 1, by omega, by go_num, hu, HX2, HN3⟩
            case measure => simp [intOf]; omega
          · have E3 := HB2 (by rw [if_neg (by decide), if_pos rfl]; exact decide_eq_false hz)
            subst E3
            have bz : decide (gI F k2 < lastOf m g) = true := decide_eq_true (by omega)
            clear HB2 HN2 h hz
            generalize gI F k2 = z at *
            go_upto_region 17 with fail
            generalize (wr.alloc (.cells #[.int .i64 (k2 : Int), .int .i64 o, .int .i64 f, .int .i64 m, .int .i64 g, .string s] 50)) = v1 at *
            have hzl : w.heap.size < v1.heap.size := (Array.getElem?_eq_some_iff.1 HX2.out).1
            refine wp_region_plan [.val (.agg #[.int .i64 (k2 : Int), .int .i64 o, .int .i64 f, .int .i64 m, .int .i64 g, .string s]), .val (.int .i64 ((lastOf m g))), .val (.pointer (some ⟨wr.heap.size, 0, none⟩)), .val (.pointer (some ⟨wr.heap.size, 0, none⟩)), .val (.int .i64 ((k2 : Int))), .val (.pointer (some ⟨w.heap.size, 17, none⟩)), .val (.pointer (some ⟨w.heap.size, 17+k2, none⟩)), .val (.int .i64 (z)), .val (.bool true)] (by kernel_rfl) (by kernel_rfl) (by kernel_rfl) ?_
            intro X
            iterate 9
              refine plan_val (by kernel_rfl) (fun u hu => ?_) ?_
              · obtain ⟨hc, hf, hz⟩ := hu.of_drew.facts
                go_simp
                all_goals first
                  | ((go_at_call 49; exact refLast_any _ _ _ _ _ _ _))
                  | (omega)
                  | ((simp; done))
              simp only [Act.put, List.setIfInBounds_toArray, List.set_cons_zero, List.set_cons_succ, Nat.reduceAdd]
            refine plan_end ?_
            intro w' hB
            have hk := hB.calm.of_drew
            clear hB
            replace hu := hu.call hk
            clear hk d1 d2 e0 e1 e2 e3 e4 e5
            go_wp2_with fail
            go_ret
            exact ⟨rfl, hu⟩
    have c2 := RFH.out _ HX.out k hlt
    have r1 := fun u => index16 RL.toArray k _ hlt (HRk.out k hlt) u
    have hki : (k : Int) < 16 := by omega
    have hxl : w.heap.size < wr.heap.size := (Array.getElem?_eq_some_iff.1 HX.out).1
    have cb1 := fun u => between_any (gI R k) 2 u
    have cb2 := fun u => between_any (gI F k) 2147483647 u
    have hHK : fedFit (gI R k) (gI F k) = true → Hid (∀ j, j < k + 1 → fedFit (gI R j) (gI F j) = true) := fun ht => show ∀ _, _ from fun j hj => by
      rcases Nat.lt_or_ge j k with h | h
      · exact HK.out j h
      · rw [show j = k by omega]; exact ht
    have hHE : fedFit (gI R k) (gI F k) = false → E = 3 := fun hf => HE3.out fun h => by rw [h.1 k hlt] at hf; exact absurd hf (by decide)
    rw [fedFit_bad] at hHK hHE
    generalize gI R k = r at *
    generalize gI F k = z at *
    by_cases h1 : 0 ≤ r ∧ r ≤ 2
    rotate_left
    · rw [decide_eq_false h1] at cb1
      have E3 := hHE (by rw [decide_eq_false h1]; rfl)
      subst E3
      clear hHK hHE h1
      go_wp2_with (first
        | (go_at_call 48; (with_reducible refine (cb1 _).mono ?_); rintro e w1 ⟨rfl, rfl⟩))
      go_ret
      exact ⟨rfl, hu⟩
    rw [decide_eq_true h1] at cb1 hHK hHE
    by_cases h2 : 0 ≤ z ∧ z ≤ 2147483647
    rotate_left
    · rw [decide_eq_false h2] at cb2
      have E3 := hHE (by rw [decide_eq_false h2]; rfl)
      subst E3
      clear hHK hHE h1 h2
      go_wp2_with (first
        | (go_at_call 48; (with_reducible refine (cb1 _).mono ?_); rintro e w1 ⟨rfl, rfl⟩)
        | (go_at_call 48; (with_reducible refine (cb2 _).mono ?_); rintro e w1 ⟨rfl, rfl⟩))
      go_ret
      exact ⟨rfl, hu⟩
    rw [decide_eq_true h2] at cb2 hHK hHE
    by_cases h3 : z = 0
    · have HK2 := hHK (by rw [decide_eq_false (fun h => h.1 h3)]; rfl)
      clear hHK hHE h1 h2
      subst h3
      go_wp2_with (first
        | (go_at_call 48; (with_reducible refine (cb1 _).mono ?_); rintro e w1 ⟨rfl, rfl⟩)
        | (go_at_call 48; (with_reducible refine (cb2 _).mono ?_); rintro e w1 ⟨rfl, rfl⟩))
      go_roundw
      case rel => exact ⟨k + 1, by omega, by go_num, hu, HX, HK2⟩
      case measure => simp [intOf]; omega
    have bz := ne_rl h3
    by_cases h4 : r = 2
    · have HK2 := hHK (by rw [decide_eq_false (fun h => h.2 h4)]; rfl)
      clear hHK hHE h1 h2 h3
      subst h4
      go_wp2_with (first
        | (go_at_call 48; (with_reducible refine (cb1 _).mono ?_); rintro e w1 ⟨rfl, rfl⟩)
        | (go_at_call 48; (with_reducible refine (cb2 _).mono ?_); rintro e w1 ⟨rfl, rfl⟩))
      go_roundw
      case rel => exact ⟨k + 1, by omega, by go_num, hu, HX, HK2⟩
      case measure => simp [intOf]; omega
    · have E3 := hHE (by rw [decide_eq_true ⟨h3, h4⟩]; rfl)
      subst E3
      have br : (r != 2) = true := by simpa using h4
      clear hHK hHE h1 h2 h3 h4
      go_wp2_with (first
        | (go_at_call 48; (with_reducible refine (cb1 _).mono ?_); rintro e w1 ⟨rfl, rfl⟩)
        | (go_at_call 48; (with_reducible refine (cb2 _).mono ?_); rintro e w1 ⟨rfl, rfl⟩))
      go_ret
      exact ⟨rfl, hu⟩
open Go.ChangeShapes Go.WideShapes Go.ChangeAt Go.RowKit
theorem Box.far {u : World} {g g' o : Nat} {CL : List Value} (h : Box u g CL) (hne : g ≠ g') (v : Value) : Box (u.setCell ⟨g', o, none⟩ v) g CL := (Below.heap_setCell _ _ _ _ hne).trans h
theorem Box.free {u : World} {g : Nat} {CL : List Value} (h : Box u g CL) (j : Nat) : u.frozen? ⟨g, j, none⟩ = false := frozen_of_row _ _ _ _ _ h
theorem Box.lt {u : World} {g : Nat} {CL : List Value} (h : Box u g CL) : g < u.heap.size := (Array.getElem?_eq_some_iff.1 h).1
theorem Box.run {u : World} {g : Nat} {A : Option Addr} {n c : Nat} {R F : List Int} (h : Box u g (bkC A n c R F)) : u.cell? ⟨g, 0, none⟩ = some (.slice A n c) := (cell_of_row _ _ 0 _ _ _ h).trans rfl
theorem quiet_load {P : Program} {S : World → Prop} {o : Oper} {a : Act} {u : World} (ty : TypeId) (x : Operand) (ho : o.op = .load ty x) (b : Nat) (hx : a.eval x = .pointer (some ⟨b, 0, none⟩)) (cs : List Value) (d : TypeDesc) (hc : u.rangeAt b 0 cs)
    (hu : P.underlying ty = some d) (hd : d.isRow = true) (hi : (P.info? ty).map (·.size) = some cs.length) (_ : S u) : Oper.quietUpon P S u (.agg cs.toArray) ((execOp a.eval o).run P u) := by
  unfold execOp
  simp only [ho, hx, Instr.loadAt, Instr.sureAddr, Sem.run_bind, Sem.run_pure, Result.andThen_ok, run_loadVar_mid u b 0 ty cs d hc hu hd hi]
  exact ⟨rfl, rfl⟩
/-- told, whichever way it went. -/
theorem told_any (A1 A2 : Option Addr) (c1 c2 : Nat) (E : Int) (L l : List El) (R1 F1 R F : List Int) (w : World) (hn : l.length ≤ 9223372036854775807) (h1 : Lies w A1 L) (h2 : Lies w A2 l) (hR : R.length = 16) (hF : F.length = 16)
    (h : (E ≠ 0 ∧ L = [] ∧ R1 = z16 ∧ F1 = z16) ∨ (E = 0 ∧ L = l ∧ R1 = R ∧ F1 = F)) :
    Calls Try.prog 13 #[.agg (bkC A1 L.length c1 R1 F1).toArray, .int .i64 E, .agg (bkC A2 l.length c2 R F).toArray, .int .i64 E] w fun e w' => e = .returned (.bool true) ∧ Calm w w' := by
  rcases h with ⟨hE, rfl, rfl, rfl⟩ | ⟨rfl, rfl, rfl, rfl⟩
  · exact told_err A1 A2 c1 c2 E l.length R F w hE hR hF
  · exact told_ok A1 A2 c1 c2 L R1 F1 w hn h1 h2 hR hF
open Go.RowKit
/-- The same append, and what it leaves of all other blocks. -/
theorem wpList_append_el2 {ops : Array Oper} {rest : List Oper} {o : Oper} {a : Act} {w : World} {Q : Exit → Act → World → Prop} (hgd : o.guard = none) (s x : Operand)
    (ho : o.op = .call { callee := .builtin .append, args := #[s, x], argTypes := #[22, 22] })
    (base : Nat) (v : Value) (l : List El) (hs : a.eval s = v) (hown : OwnR base w v l) (g t : Nat) (p o' f m gg : Int) (sv : ByteArray) (fr : Nat × Nat)
    (hx : a.eval x = .slice (some ⟨g, 0, none⟩) 1 1) (hg : w.heap[g]? = some (.cells #[.int .i64 p, .int .i64 o', .int .i64 f, .int .i64 m, .int .i64 gg, .string sv] t fr)) (hl : l.length ≤ 1000000) (hbase : base ≤ w.heap.size)
    (h : ∀ v' w', OwnR base w' v' (l ++ [⟨p, o', f, m, gg, sv⟩]) → (∀ w0 : World, w0.heap.size ≤ base → Calm w0 w → Calm w0 w') → w.grownBy w' v.ownBlock → wpList Try.prog ops Q rest (a.put o.dst v') w') : wpList Try.prog ops Q (o :: rest) a w := by
  obtain ⟨i0, hi, hz0, hz1, hz2⟩ := info_parts infoElem
  refine wpList_append_own w hgd s x _ ho base 50 i0 _ 6 56 Try.underlying22 hi hz0 hz1 hz2 rfl (by decide) v _ _ hs hown ⟨g, 0, none⟩ 1 1 (El.cells ⟨p, o', f, m, gg, sv⟩) hx rfl (fun j u hj => ?_) (cells_one _) (by unfold maxLen; omega) (by omega) hbase fun v' w' h1 h2 _ => ?_
  · have : (⟨g, 0, none⟩ : Addr).add j = ⟨g, j, none⟩ := by unfold Addr.add; split <;> simp_all
    rw [this, cell_of_row w g j _ t fr hg, ← hj]
    simp [El.cells]
  · refine h v' w' ?_ (fun w0 h0 hc => hc.grown h0 hown h2) h2
    unfold OwnR
    rw [List.length_append, cellsOf_snoc]
    exact h1
def sortUp (x : El) (l : List El) (k : Nat) : List El := if (l.take k).any (beyond x) then ins x (l.take k) else l.take k
theorem sortUp_len (x : El) (l : List El) (k : Nat) (hk : k ≤ l.length) : (sortUp x l k).length ≤ k + 1 := by
 unfold sortUp
 split
 ·rename_i h
  have : ∀ a : List El, (ins x a).length = a.length + 1 := fun a => by
   induction a with
   |nil => rfl
   |cons y a ih => unfold ins; split <;> simp [ih]
  rw [this, List.length_take]; omega
 ·rw [List.length_take]; omega
set_option maxHeartbeats 8000000 in
theorem sorted_any (A : Option Addr) (d : Nat) (l : List El) (p' o' f' m' g' : Int) (s' : ByteArray) (w : World) (hn4 : l.length ≤ 400) (hL : Lies w A l) (hxw : El.wf ⟨p', o', f', m', g', s'⟩) :
    Calls Try.prog 52 #[.slice A l.length d, .agg #[.int .i64 p', .int .i64 o', .int .i64 f', .int .i64 m', .int .i64 g', .string s']] w (Sl1End (ins ⟨p', o', f', m', g', s'⟩ l) w) := by
  have hx := heap_new w (.cells #[.int .i64 p', .int .i64 o', .int .i64 f', .int .i64 m', .int .i64 g', .string s'] 50)
  have hu := (Calm.refl w).alloc (.cells #[.int .i64 p', .int .i64 o', .int .i64 f', .int .i64 m', .int .i64 g', .string s'] 50)
  have hwf : ∀ e ∈ ins ⟨p', o', f', m', g', s'⟩ l, e.wf := fun e he => by
    rcases ins_mem he with h | h
    · rw [h]; exact hxw
    · exact hL.1 e h
  have HWF := Lib.hid hwf
  replace hL := hL.calm hu
  have hwz : (w.alloc (.cells #[.int .i64 p', .int .i64 o', .int .i64 f', .int .i64 m', .int .i64 g', .string s'] 50)).heap.size = w.heap.size + 1 := by simp
  clear hwf hxw
  go_enter Try.func52, Try.ntmps52
  go_wp2_with fail
  generalize (w.alloc (.cells #[.int .i64 p', .int .i64 o', .int .i64 f', .int .i64 m', .int .i64 g', .string s'] 50)) = w3 at hx hu hL hwz ⊢
  go_loopw [5, 6, 11] (fun v b i wr => ∃ k : Nat, k ≤ l.length ∧ i = .int .i64 k ∧ b = .bool ((l.take k).any (beyond ⟨p', o', f', m', g', s'⟩)) ∧ Calm w3 wr ∧ Hid (OwnR w3.heap.size wr v (sortUp ⟨p', o', f', m', g', s'⟩ l k))) (fun _ _ i _ => l.length - (intOf i).toNat)
  case atStart => exact ⟨0, Nat.zero_le _, rfl, rfl, Calm.refl _, show OwnR _ _ _ _ from OwnR.nil _ _⟩
  case round =>
    obtain ⟨k, hk, rfl, rfl, hur, ho⟩ := hrel
    have hlen := sortUp_len ⟨p', o', f', m', g', s'⟩ l k hk
    replace hx := (hur.block (row6 hx).2.2.2.2.2.2).trans hx
    by_cases hlt : k < l.length
    rotate_left
    · have hkl : l.take k = l := List.take_of_length_le (by omega)
      unfold sortUp at ho hlen
      rw [hkl] at ho hlen ⊢
      cases hb : l.any (beyond ⟨p', o', f', m', g', s'⟩)
      · rw [hb] at ho hlen
        simp only [Bool.false_eq_true, if_false] at ho hlen
        have e1 : ins ⟨p', o', f', m', g', s'⟩ l = l ++ [⟨p', o', f', m', g', s'⟩] := ins_none (any_not hb)
        have E1 := Lib.hid e1
        rw [e1] at HWF
        obtain ⟨x0, x1, x2, x3, x4, x5, hxs⟩ := row6 hx
        clear hb hkl e1
        go_wp2_with (at_builtin; refine wpList_append_el rfl _ _ rfl _ _ _ rfl (ho.out.calm ((Calm.refl _).alloc _)) _ _ p' o' f' m' g' s' _ rfl (heap_new _ _) (by omega) (by simp; exact Nat.le_succ_of_le hur.size) ?_; intro v' w9 ho9 hc9)
        have hS := Lib.hid (ho9.sl HWF.out)
        have hur9 := hu.call (hc9 _ (Nat.le_refl _) (hur.alloc _))
        clear ho9 hc9
        go_wp2_with fail
        go_ret
        exact ⟨_, rfl, by rw [E1.out]; exact hS.out, hur9⟩
      · rw [hb] at ho
        simp only [if_true] at ho
        have hS := Lib.hid (ho.out.sl HWF.out)
        have hur9 := hu.call hur
        clear hb hkl ho hx
        go_wp2_with fail
        go_ret
        exact ⟨_, rfl, hS.out, hur9⟩
    obtain ⟨b, q, p, o, f, m, g, s, rfl, hb, HE, hm, c0, c1, c2, c3, c4, c5⟩ := (hL.calm hur).get hlt
    have hT := take_snoc3 HE.out
    have hz := heap_new wr (.cells #[.int .i64 p, .int .i64 o, .int .i64 f, .int .i64 m, .int .i64 g, .string s] 50)
    have hne0 := ho.out.lt
    replace hx := heap_past (.cells #[.int .i64 p, .int .i64 o, .int .i64 f, .int .i64 m, .int .i64 g, .string s] 50) hx
    replace ho := Lib.hid (ho.out.calm ((Calm.refl wr).alloc (.cells #[.int .i64 p, .int .i64 o, .int .i64 f, .int .i64 m, .int .i64 g, .string s] 50)))
    have hbey : beyond ⟨p', o', f', m', g', s'⟩ ⟨p, o, f, m, g, s⟩ = aheadS p' o' f' m' p o f m := by
      unfold beyond aheadS
      rw [Bool.eq_iff_iff, decide_eq_true_eq, decide_eq_true_eq]
      exact (scmp_sLt (a := ⟨p', o', f', m', g', s'⟩) (b := ⟨p, o, f, m, g, s⟩)).symm
    have hany : (l.take (k + 1)).any (beyond ⟨p', o', f', m', g', s'⟩) = ((l.take k).any (beyond ⟨p', o', f', m', g', s'⟩) || aheadS p' o' f' m' p o f m) := by
      rw [hT, List.any_append, List.any_cons, List.any_nil, Bool.or_false, hbey]
    have hso : sortUp ⟨p', o', f', m', g', s'⟩ l (k + 1) = if (l.take k).any (beyond ⟨p', o', f', m', g', s'⟩) then sortUp ⟨p', o', f', m', g', s'⟩ l k ++ [⟨p, o, f, m, g, s⟩] else if aheadS p' o' f' m' p o f m then sortUp ⟨p', o', f', m', g', s'⟩ l k ++ [⟨p', o', f', m', g', s'⟩] ++ [⟨p, o, f, m, g, s⟩] else sortUp ⟨p', o', f', m', g', s'⟩ l k ++ [⟨p, o, f, m, g, s⟩] := by
      unfold sortUp
      rw [hany, hT]
      cases h1 : (l.take k).any (beyond ⟨p', o', f', m', g', s'⟩)
      · cases h2 : aheadS p' o' f' m' p o f m
        · simp
        · simp only [Bool.false_or, if_true, Bool.false_eq_true, if_false]
          exact ins_first (any_not h1) (by rw [hbey]; exact h2)
      · simp only [Bool.true_or, if_true]
        exact ins_some _ h1
    have HS := Lib.hid hso
    have HA := Lib.hid hany
    obtain ⟨x0, x1, x2, x3, x4, x5, hxs⟩ := row6 hx
    obtain ⟨z0, z1, z2, z3, z4, z5, hzs⟩ := row6 hz
    have cA := aheadSpot_any p' o' f' m' p o f m
    clear hso hany hbey hT HE
    replace hur := hur.alloc (.cells #[.int .i64 p, .int .i64 o, .int .i64 f, .int .i64 m, .int .i64 g, .string s] 50)
    generalize hbb : (l.take k).any (beyond ⟨p', o', f', m', g', s'⟩) = bb at HA HS ⊢
    generalize aheadS p' o' f' m' p o f m = aa at cA HA HS
    clear hbb
    go_upto_region 6 with fail
    generalize (wr.alloc (.cells #[.int .i64 p, .int .i64 o, .int .i64 f, .int .i64 m, .int .i64 g, .string s] 50)) = wc at *
    cases bb
    rotate_left
    · have HS' : Hid (sortUp ⟨p', o', f', m', g', s'⟩ l (k + 1) = sortUp ⟨p', o', f', m', g', s'⟩ l k ++ [⟨p, o, f, m, g, s⟩]) := HS.out
      have HA' : Hid ((l.take (k + 1)).any (beyond ⟨p', o', f', m', g', s'⟩) = true) := HA.out
      refine wp_region_plan [.val (.bool true), .val (.bool false), .val (.bool false), .idle, .idle, .idle, .idle, .idle, .val (.bool false)] (by kernel_rfl) (by kernel_rfl) (by kernel_rfl) ?_
      intro X
      iterate 3
        refine plan_val (by kernel_rfl) (fun u hu => ?_) ?_
        · obtain ⟨hc, hf, hz⟩ := hu.of_drew.facts
          go_simp
        simp only [Act.put, List.setIfInBounds_toArray, List.set_cons_zero, List.set_cons_succ, Nat.reduceAdd]
      iterate 5
        refine plan_idle (by kernel_rfl) ?_
        simp only [Act.put, List.setIfInBounds_toArray, List.set_cons_zero, List.set_cons_succ, Nat.reduceAdd]
      iterate 1
        refine plan_val (by kernel_rfl) (fun u hu => ?_) ?_
        · obtain ⟨hc, hf, hz⟩ := hu.of_drew.facts
          go_simp
        simp only [Act.put, List.setIfInBounds_toArray, List.set_cons_zero, List.set_cons_succ, Nat.reduceAdd]
      refine plan_end ?_
      intro w' hB
      have hk := hB.calm.of_drew
      clear hB
      replace ho := Lib.hid (ho.out.calm hk)
      replace hz := (hk.block hzs).trans hz
      replace hur := hur.call hk
      clear z0 z1 z2 z3 z4 z5 hzs x0 x1 x2 x3 x4 x5 hxs hx HS HA cA
      obtain ⟨z0, z1, z2, z3, z4, z5, hzs⟩ := row6 hz
      go_wp2_with (at_builtin; refine wpList_append_el rfl _ _ rfl _ _ _ rfl (ho.out.calm ((Calm.refl _).alloc _)) _ _ p o f m g s _ rfl (heap_new _ _) (by omega) (by simp; exact Nat.le_succ_of_le hur.size) ?_; intro v' w9 ho9 hc9)
      rw [← HS'.out] at ho9
      have HO9 := Lib.hid ho9
      have hur9 := hc9 _ (Nat.le_refl _) (hur.alloc _)
      clear ho9 hc9 HS'
      go_roundw
      case rel => exact ⟨k + 1, by omega, by go_num, by rw [HA'.out], hur9, HO9⟩
      case measure => simp [intOf]; omega
    cases aa
    · have HS' : Hid (sortUp ⟨p', o', f', m', g', s'⟩ l (k + 1) = sortUp ⟨p', o', f', m', g', s'⟩ l k ++ [⟨p, o, f, m, g, s⟩]) := HS.out
      have HA' : Hid ((l.take (k + 1)).any (beyond ⟨p', o', f', m', g', s'⟩) = false) := HA.out
      refine wp_region_plan [.val (.bool false), .val (.bool true), .val (.bool true), .val (.agg #[.int .i64 p', .int .i64 o', .int .i64 f', .int .i64 m', .int .i64 g', .string s']), .val (.agg #[.int .i64 p', .int .i64 o', .int .i64 f', .int .i64 m']), .val (.agg #[.int .i64 p, .int .i64 o, .int .i64 f, .int .i64 m, .int .i64 g, .string s]), .val (.agg #[.int .i64 p, .int .i64 o, .int .i64 f, .int .i64 m]), .val (.bool false), .val (.bool false)] (by kernel_rfl) (by kernel_rfl) (by kernel_rfl) ?_
      intro X
      iterate 9
        refine plan_val (by kernel_rfl) (fun u hu => ?_) ?_
        · obtain ⟨hc, hf, hz⟩ := hu.of_drew.facts
          go_simp
          all_goals first
            | (go_at_call 64; exact refSpot_any _ _ _ _ _ _ _)
            | (go_at_call 90; exact cA _ _)
        simp only [Act.put, List.setIfInBounds_toArray, List.set_cons_zero, List.set_cons_succ, Nat.reduceAdd]
      refine plan_end ?_
      intro w' hB
      have hk := hB.calm.of_drew
      clear hB
      replace ho := Lib.hid (ho.out.calm hk)
      replace hz := (hk.block hzs).trans hz
      replace hur := hur.call hk
      clear z0 z1 z2 z3 z4 z5 hzs x0 x1 x2 x3 x4 x5 hxs hx HS HA cA
      obtain ⟨z0, z1, z2, z3, z4, z5, hzs⟩ := row6 hz
      go_wp2_with (at_builtin; refine wpList_append_el rfl _ _ rfl _ _ _ rfl (ho.out.calm ((Calm.refl _).alloc _)) _ _ p o f m g s _ rfl (heap_new _ _) (by omega) (by simp; exact Nat.le_succ_of_le hur.size) ?_; intro v' w9 ho9 hc9)
      rw [← HS'.out] at ho9
      have HO9 := Lib.hid ho9
      have hur9 := hc9 _ (Nat.le_refl _) (hur.alloc _)
      clear ho9 hc9 HS'
      go_roundw
      case rel => exact ⟨k + 1, by omega, by go_num, by rw [HA'.out], hur9, HO9⟩
      case measure => simp [intOf]; omega
    · have HS' : Hid (sortUp ⟨p', o', f', m', g', s'⟩ l (k + 1) = sortUp ⟨p', o', f', m', g', s'⟩ l k ++ [⟨p', o', f', m', g', s'⟩] ++ [⟨p, o, f, m, g, s⟩]) := HS.out
      have HA' : Hid ((l.take (k + 1)).any (beyond ⟨p', o', f', m', g', s'⟩) = true) := HA.out
      refine wp_region_plan [.val (.bool false), .val (.bool true), .val (.bool true), .val (.agg #[.int .i64 p', .int .i64 o', .int .i64 f', .int .i64 m', .int .i64 g', .string s']), .val (.agg #[.int .i64 p', .int .i64 o', .int .i64 f', .int .i64 m']), .val (.agg #[.int .i64 p, .int .i64 o, .int .i64 f, .int .i64 m, .int .i64 g, .string s]), .val (.agg #[.int .i64 p, .int .i64 o, .int .i64 f, .int .i64 m]), .val (.bool true), .val (.bool true)] (by kernel_rfl) (by kernel_rfl) (by kernel_rfl) ?_
      intro X
      iterate 9
        refine plan_val (by kernel_rfl) (fun u hu => ?_) ?_
        · obtain ⟨hc, hf, hz⟩ := hu.of_drew.facts
          go_simp
          all_goals first
            | (go_at_call 64; exact refSpot_any _ _ _ _ _ _ _)
            | (go_at_call 90; exact cA _ _)
        simp only [Act.put, List.setIfInBounds_toArray, List.set_cons_zero, List.set_cons_succ, Nat.reduceAdd]
      refine plan_end ?_
      intro w' hB
      have hk := hB.calm.of_drew
      clear hB
      replace ho := Lib.hid (ho.out.calm hk)
      replace hz := (hk.block hzs).trans hz
      replace hx := (hk.block hxs).trans hx
      replace hur := hur.call hk
      clear z0 z1 z2 z3 z4 z5 hzs x0 x1 x2 x3 x4 x5 hxs HS HA cA
      obtain ⟨z0, z1, z2, z3, z4, z5, hzs⟩ := row6 hz
      obtain ⟨x0, x1, x2, x3, x4, x5, hxs⟩ := row6 hx
      have hlen2 : (sortUp ⟨p', o', f', m', g', s'⟩ l k ++ ([⟨p', o', f', m', g', s'⟩] : List El)).length ≤ 1000000 := by rw [List.length_append]; simp; omega
      go_wp2_with (first
        | (at_builtin; refine wpList_append_el2 rfl (.tmp 24) _ rfl _ _ _ rfl (ho.out.calm ((Calm.refl _).alloc _)) _ _ p' o' f' m' g' s' _ rfl (heap_new _ _) (by omega) (by simp; exact Nat.le_succ_of_le hur.size) ?_; intro v' w9 ho9 hc9 hg9; have hz9 := (hg9.block _ (by simp; omega) (fun e => by have := (hne0 _ e.symm).2; omega)).trans (heap_past _ hz); have hur8 := hc9 _ (Nat.le_refl _) (hur.alloc _); clear hc9 hg9 hz x0 x1 x2 x3 x4 x5 hxs hx; obtain ⟨z0, z1, z2, z3, z4, z5, hzs⟩ := row6 hz9)
        | (at_builtin; refine wpList_append_el rfl (.tmp 28) _ rfl _ _ _ rfl (ho9.calm ((Calm.refl _).alloc _)) _ _ p o f m g s _ rfl (heap_new _ _) hlen2 (by simp; exact Nat.le_succ_of_le hur8.size) ?_; intro v' w10 ho10 hc10))
      rw [← HS'.out] at ho10
      have HO9 := Lib.hid ho10
      have hur9 := hc10 _ (Nat.le_refl _) (hur8.alloc _)
      clear ho10 hc10 HS' ho9
      go_roundw
      case rel => exact ⟨k + 1, by omega, by go_num, by rw [HA'.out], hur9, HO9⟩
      case measure => simp [intOf]; omega
open Go.RowKit
def Ow1End (l : List El) (w : World) (e : Ending) (w' : World) : Prop := ∃ v, e = .returned v ∧ OwnR w.heap.size w' v l ∧ Calm w w'
theorem OwnR.less {base base' : Nat} {w : World} {v : Value} {l : List El} (h : OwnR base w v l) (hb : base' ≤ base) : OwnR base' w v l := ⟨h.1, h.2.imp id fun ⟨g, cap, cur, h1, h2, h3⟩ => ⟨g, cap, cur, h1, Nat.le_trans hb h2, h3⟩⟩
open Go.RowKit
set_option maxHeartbeats 8000000 in
theorem sortedO_any (A : Option Addr) (d : Nat) (l : List El) (p' o' f' m' g' : Int) (s' : ByteArray) (w : World) (hn4 : l.length ≤ 900000) (hL : Lies w A l) :
    Calls Try.prog 52 #[.slice A l.length d, .agg #[.int .i64 p', .int .i64 o', .int .i64 f', .int .i64 m', .int .i64 g', .string s']] w (Ow1End (ins ⟨p', o', f', m', g', s'⟩ l) w) := by
  have hx := heap_new w (.cells #[.int .i64 p', .int .i64 o', .int .i64 f', .int .i64 m', .int .i64 g', .string s'] 50)
  have hu := (Calm.refl w).alloc (.cells #[.int .i64 p', .int .i64 o', .int .i64 f', .int .i64 m', .int .i64 g', .string s'] 50)
  replace hL := hL.calm hu
  have hwz : (w.alloc (.cells #[.int .i64 p', .int .i64 o', .int .i64 f', .int .i64 m', .int .i64 g', .string s'] 50)).heap.size = w.heap.size + 1 := by simp
  go_enter Try.func52, Try.ntmps52
  go_wp2_with fail
  generalize (w.alloc (.cells #[.int .i64 p', .int .i64 o', .int .i64 f', .int .i64 m', .int .i64 g', .string s'] 50)) = w3 at hx hu hL hwz ⊢
  go_loopw [5, 6, 11] (fun v b i wr => ∃ k : Nat, k ≤ l.length ∧ i = .int .i64 k ∧ b = .bool ((l.take k).any (beyond ⟨p', o', f', m', g', s'⟩)) ∧ Calm w3 wr ∧ Hid (OwnR w3.heap.size wr v (sortUp ⟨p', o', f', m', g', s'⟩ l k))) (fun _ _ i _ => l.length - (intOf i).toNat)
  case atStart => exact ⟨0, Nat.zero_le _, rfl, rfl, Calm.refl _, show OwnR _ _ _ _ from OwnR.nil _ _⟩
  case round =>
    obtain ⟨k, hk, rfl, rfl, hur, ho⟩ := hrel
    have hlen := sortUp_len ⟨p', o', f', m', g', s'⟩ l k hk
    replace hx := (hur.block (row6 hx).2.2.2.2.2.2).trans hx
    by_cases hlt : k < l.length
    rotate_left
    · have hkl : l.take k = l := List.take_of_length_le (by omega)
      unfold sortUp at ho hlen
      rw [hkl] at ho hlen ⊢
      cases hb : l.any (beyond ⟨p', o', f', m', g', s'⟩)
      · rw [hb] at ho hlen
        simp only [Bool.false_eq_true, if_false] at ho hlen
        have e1 : ins ⟨p', o', f', m', g', s'⟩ l = l ++ [⟨p', o', f', m', g', s'⟩] := ins_none (any_not hb)
        have E1 := Lib.hid e1
        obtain ⟨x0, x1, x2, x3, x4, x5, hxs⟩ := row6 hx
        clear hb hkl e1
        go_wp2_with (at_builtin; refine wpList_append_el rfl _ _ rfl _ _ _ rfl (ho.out.calm ((Calm.refl _).alloc _)) _ _ p' o' f' m' g' s' _ rfl (heap_new _ _) (by omega) (by simp; exact Nat.le_succ_of_le hur.size) ?_; intro v' w9 ho9 hc9)
        have hS := Lib.hid (ho9.less (show w.heap.size ≤ w3.heap.size by omega))
        have hur9 := hu.call (hc9 _ (Nat.le_refl _) (hur.alloc _))
        clear ho9 hc9
        go_wp2_with fail
        go_ret
        exact ⟨_, rfl, by rw [E1.out]; exact hS.out, hur9⟩
      · rw [hb] at ho
        simp only [if_true] at ho
        have hS := Lib.hid (ho.out.less (show w.heap.size ≤ w3.heap.size by omega))
        have hur9 := hu.call hur
        clear hb hkl ho hx
        go_wp2_with fail
        go_ret
        exact ⟨_, rfl, hS.out, hur9⟩
    obtain ⟨b, q, p, o, f, m, g, s, rfl, hb, HE, hm, c0, c1, c2, c3, c4, c5⟩ := (hL.calm hur).get hlt
    have hT := take_snoc3 HE.out
    have hz := heap_new wr (.cells #[.int .i64 p, .int .i64 o, .int .i64 f, .int .i64 m, .int .i64 g, .string s] 50)
    have hne0 := ho.out.lt
    replace hx := heap_past (.cells #[.int .i64 p, .int .i64 o, .int .i64 f, .int .i64 m, .int .i64 g, .string s] 50) hx
    replace ho := Lib.hid (ho.out.calm ((Calm.refl wr).alloc (.cells #[.int .i64 p, .int .i64 o, .int .i64 f, .int .i64 m, .int .i64 g, .string s] 50)))
    have hbey : beyond ⟨p', o', f', m', g', s'⟩ ⟨p, o, f, m, g, s⟩ = aheadS p' o' f' m' p o f m := by
      unfold beyond aheadS
      rw [Bool.eq_iff_iff, decide_eq_true_eq, decide_eq_true_eq]
      exact (scmp_sLt (a := ⟨p', o', f', m', g', s'⟩) (b := ⟨p, o, f, m, g, s⟩)).symm
    have hany : (l.take (k + 1)).any (beyond ⟨p', o', f', m', g', s'⟩) = ((l.take k).any (beyond ⟨p', o', f', m', g', s'⟩) || aheadS p' o' f' m' p o f m) := by
      rw [hT, List.any_append, List.any_cons, List.any_nil, Bool.or_false, hbey]
    have hso : sortUp ⟨p', o', f', m', g', s'⟩ l (k + 1) = if (l.take k).any (beyond ⟨p', o', f', m', g', s'⟩) then sortUp ⟨p', o', f', m', g', s'⟩ l k ++ [⟨p, o, f, m, g, s⟩] else if aheadS p' o' f' m' p o f m then sortUp ⟨p', o', f', m', g', s'⟩ l k ++ [⟨p', o', f', m', g', s'⟩] ++ [⟨p, o, f, m, g, s⟩] else sortUp ⟨p', o', f', m', g', s'⟩ l k ++ [⟨p, o, f, m, g, s⟩] := by
      unfold sortUp
      rw [hany, hT]
      cases h1 : (l.take k).any (beyond ⟨p', o', f', m', g', s'⟩)
      · cases h2 : aheadS p' o' f' m' p o f m
        · simp
        · simp only [Bool.false_or, if_true, Bool.false_eq_true, if_false]
          exact ins_first (any_not h1) (by rw [hbey]; exact h2)
      · simp only [Bool.true_or, if_true]
        exact ins_some _ h1
    have HS := Lib.hid hso
    have HA := Lib.hid hany
    obtain ⟨x0, x1, x2, x3, x4, x5, hxs⟩ := row6 hx
    obtain ⟨z0, z1, z2, z3, z4, z5, hzs⟩ := row6 hz
    have cA := aheadSpot_any p' o' f' m' p o f m
    clear hso hany hbey hT HE
    replace hur := hur.alloc (.cells #[.int .i64 p, .int .i64 o, .int .i64 f, .int .i64 m, .int .i64 g, .string s] 50)
    generalize hbb : (l.take k).any (beyond ⟨p', o', f', m', g', s'⟩) = bb at HA HS ⊢
    generalize aheadS p' o' f' m' p o f m = aa at cA HA HS
    clear hbb
    go_upto_region 6 with fail
    generalize (wr.alloc (.cells #[.int .i64 p, .int .i64 o, .int .i64 f, .int .i64 m, .int .i64 g, .string s] 50)) = wc at *
    cases bb
    rotate_left
    · have HS' : Hid (sortUp ⟨p', o', f', m', g', s'⟩ l (k + 1) = sortUp ⟨p', o', f', m', g', s'⟩ l k ++ [⟨p, o, f, m, g, s⟩]) := HS.out
      have HA' : Hid ((l.take (k + 1)).any (beyond ⟨p', o', f', m', g', s'⟩) = true) := HA.out
      refine wp_region_plan [.val (.bool true), .val (.bool false), .val (.bool false), .idle, .idle, .idle, .idle, .idle, .val (.bool false)] (by kernel_rfl) (by kernel_rfl) (by kernel_rfl) ?_
      intro X
      iterate 3
        refine plan_val (by kernel_rfl) (fun u hu => ?_) ?_
        · obtain ⟨hc, hf, hz⟩ := hu.of_drew.facts
          go_simp
        simp only [Act.put, List.setIfInBounds_toArray, List.set_cons_zero, List.set_cons_succ, Nat.reduceAdd]
      iterate 5
        refine plan_idle (by kernel_rfl) ?_
        simp only [Act.put, List.setIfInBounds_toArray, List.set_cons_zero, List.set_cons_succ, Nat.reduceAdd]
      iterate 1
        refine plan_val (by kernel_rfl) (fun u hu => ?_) ?_
        · obtain ⟨hc, hf, hz⟩ := hu.of_drew.facts
          go_simp
        simp only [Act.put, List.setIfInBounds_toArray, List.set_cons_zero, List.set_cons_succ, Nat.reduceAdd]
      refine plan_end ?_
      intro w' hB
      have hk := hB.calm.of_drew
      clear hB
      replace ho := Lib.hid (ho.out.calm hk)
      replace hz := (hk.block hzs).trans hz
      replace hur := hur.call hk
      clear z0 z1 z2 z3 z4 z5 hzs x0 x1 x2 x3 x4 x5 hxs hx HS HA cA
      obtain ⟨z0, z1, z2, z3, z4, z5, hzs⟩ := row6 hz
      go_wp2_with (at_builtin; refine wpList_append_el rfl _ _ rfl _ _ _ rfl (ho.out.calm ((Calm.refl _).alloc _)) _ _ p o f m g s _ rfl (heap_new _ _) (by omega) (by simp; exact Nat.le_succ_of_le hur.size) ?_; intro v' w9 ho9 hc9)
      rw [← HS'.out] at ho9
      have HO9 := Lib.hid ho9
      have hur9 := hc9 _ (Nat.le_refl _) (hur.alloc _)
      clear ho9 hc9 HS'
      go_roundw
      case rel => exact ⟨k + 1, by omega, by go_num, by rw [HA'.out], hur9, HO9⟩
      case measure => simp [intOf]; omega
    cases aa
    · have HS' : Hid (sortUp ⟨p', o', f', m', g', s'⟩ l (k + 1) = sortUp ⟨p', o', f', m', g', s'⟩ l k ++ [⟨p, o, f, m, g, s⟩]) := HS.out
      have HA' : Hid ((l.take (k + 1)).any (beyond ⟨p', o', f', m', g', s'⟩) = false) := HA.out
      refine wp_region_plan [.val (.bool false), .val (.bool true), .val (.bool true), .val (.agg #[.int .i64 p', .int .i64 o', .int .i64 f', .int .i64 m', .int .i64 g', .string s']), .val (.agg #[.int .i64 p', .int .i64 o', .int .i64 f', .int .i64 m']), .val (.agg #[.int .i64 p, .int .i64 o, .int .i64 f, .int .i64 m, .int .i64 g, .string s]), .val (.agg #[.int .i64 p, .int .i64 o, .int .i64 f, .int .i64 m]), .val (.bool false), .val (.bool false)] (by kernel_rfl) (by kernel_rfl) (by kernel_rfl) ?_
      intro X
      iterate 9
        refine plan_val (by kernel_rfl) (fun u hu => ?_) ?_
        · obtain ⟨hc, hf, hz⟩ := hu.of_drew.facts
          go_simp
          all_goals first
            | (go_at_call 64; exact refSpot_any _ _ _ _ _ _ _)
            | (go_at_call 90; exact cA _ _)
        simp only [Act.put, List.setIfInBounds_toArray, List.set_cons_zero, List.set_cons_succ, Nat.reduceAdd]
      refine plan_end ?_
      intro w' hB
      have hk := hB.calm.of_drew
      clear hB
      replace ho := Lib.hid (ho.out.calm hk)
      replace hz := (hk.block hzs).trans hz
      replace hur := hur.call hk
      clear z0 z1 z2 z3 z4 z5 hzs x0 x1 x2 x3 x4 x5 hxs hx HS HA cA
      obtain ⟨z0, z1, z2, z3, z4, z5, hzs⟩ := row6 hz
      go_wp2_with (at_builtin; refine wpList_append_el rfl _ _ rfl _ _ _ rfl (ho.out.calm ((Calm.refl _).alloc _)) _ _ p o f m g s _ rfl (heap_new _ _) (by omega) (by simp; exact Nat.le_succ_of_le hur.size) ?_; intro v' w9 ho9 hc9)
      rw [← HS'.out] at ho9
      have HO9 := Lib.hid ho9
      have hur9 := hc9 _ (Nat.le_refl _) (hur.alloc _)
      clear ho9 hc9 HS'
      go_roundw
      case rel => exact ⟨k + 1, by omega, by go_num, by rw [HA'.out], hur9, HO9⟩
      case measure => simp [intOf]; omega
    · have HS' : Hid (sortUp ⟨p', o', f', m', g', s'⟩ l (k + 1) = sortUp ⟨p', o', f', m', g', s'⟩ l k ++ [⟨p', o', f', m', g', s'⟩] ++ [⟨p, o, f, m, g, s⟩]) := HS.out
      have HA' : Hid ((l.take (k + 1)).any (beyond ⟨p', o', f', m', g', s'⟩) = true) := HA.out
      refine wp_region_plan [.val (.bool false), .val (.bool true), .val (.bool true), .val (.agg #[.int .i64 p', .int .i64 o', .int .i64 f', .int .i64 m', .int .i64 g', .string s']), .val (.agg #[.int .i64 p', .int .i64 o', .int .i64 f', .int .i64 m']), .val (.agg #[.int .i64 p, .int .i64 o, .int .i64 f, .int .i64 m, .int .i64 g, .string s]), .val (.agg #[.int .i64 p, .int .i64 o, .int .i64 f, .int .i64 m]), .val (.bool true), .val (.bool true)] (by kernel_rfl) (by kernel_rfl) (by kernel_rfl) ?_
      intro X
      iterate 9
        refine plan_val (by kernel_rfl) (fun u hu => ?_) ?_
        · obtain ⟨hc, hf, hz⟩ := hu.of_drew.facts
          go_simp
          all_goals first
            | (go_at_call 64; exact refSpot_any _ _ _ _ _ _ _)
            | (go_at_call 90; exact cA _ _)
        simp only [Act.put, List.setIfInBounds_toArray, List.set_cons_zero, List.set_cons_succ, Nat.reduceAdd]
      refine plan_end ?_
      intro w' hB
      have hk := hB.calm.of_drew
      clear hB
      replace ho := Lib.hid (ho.out.calm hk)
      replace hz := (hk.block hzs).trans hz
      replace hx := (hk.block hxs).trans hx
      replace hur := hur.call hk
      clear z0 z1 z2 z3 z4 z5 hzs x0 x1 x2 x3 x4 x5 hxs HS HA cA
      obtain ⟨z0, z1, z2, z3, z4, z5, hzs⟩ := row6 hz
      obtain ⟨x0, x1, x2, x3, x4, x5, hxs⟩ := row6 hx
      have hlen2 : (sortUp ⟨p', o', f', m', g', s'⟩ l k ++ ([⟨p', o', f', m', g', s'⟩] : List El)).length ≤ 1000000 := by rw [List.length_append]; simp; omega
      go_wp2_with (first
        | (at_builtin; refine wpList_append_el2 rfl (.tmp 24) _ rfl _ _ _ rfl (ho.out.calm ((Calm.refl _).alloc _)) _ _ p' o' f' m' g' s' _ rfl (heap_new _ _) (by omega) (by simp; exact Nat.le_succ_of_le hur.size) ?_; intro v' w9 ho9 hc9 hg9; have hz9 := (hg9.block _ (by simp; omega) (fun e => by have := (hne0 _ e.symm).2; omega)).trans (heap_past _ hz); have hur8 := hc9 _ (Nat.le_refl _) (hur.alloc _); clear hc9 hg9 hz x0 x1 x2 x3 x4 x5 hxs hx; obtain ⟨z0, z1, z2, z3, z4, z5, hzs⟩ := row6 hz9)
        | (at_builtin; refine wpList_append_el rfl (.tmp 28) _ rfl _ _ _ rfl (ho9.calm ((Calm.refl _).alloc _)) _ _ p o f m g s _ rfl (heap_new _ _) hlen2 (by simp; exact Nat.le_succ_of_le hur8.size) ?_; intro v' w10 ho10 hc10))
      rw [← HS'.out] at ho10
      have HO9 := Lib.hid ho10
      have hur9 := hc10 _ (Nat.le_refl _) (hur8.alloc _)
      clear ho10 hc10 HS' ho9
      go_roundw
      case rel => exact ⟨k + 1, by omega, by go_num, by rw [HA'.out], hur9, HO9⟩
      case measure => simp [intOf]; omega
end Go.Proofs.Ytljjeolifdpedaa
