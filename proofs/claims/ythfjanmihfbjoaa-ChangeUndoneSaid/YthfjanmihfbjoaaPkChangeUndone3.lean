/- Texts of one kind in one file. -/
import Derived.Lib.Hide
import Derived.IntWalk
import Derived.Deep.RegionWith
import Derived.Test.YthfjanmihfbjoaaPkChangeUndone2
set_option maxRecDepth 100000
namespace Go.Proofs.Ythfjanmihfbjoaa
def pfErr (l : List El) (x : Chg) (t : Int) : Int := if x.hs = true then putErr l x.key x.vs t else cutErr l x.key t
def pfL (l : List El) (x : Chg) (t : Int) : List El := if x.hs = true then putR l x.key x.vs t else cutR l x.key t
def goL : List El → List Chg → Int → List El × Int
 |l, [], _ => (l, 0)
 |l, x :: c, t => if pfErr l x t = 0 then goL (pfL l x t) c t else ([], pfErr l x t)
def offB (l : List El) (x : Chg) : Bool := decide (stA l x.key 2147483647 ≠ x.bef)
def doErr (l : List El) (c : List Chg) (t : Int) : Int :=
 if runErr l = 0 then (if chErr c = 0 then (if t < 1 ∨ t < latest l ∨ 2147483647 < t then 9 else if c.any (offB l) then 1 else (goL l c t).2) else chErr c) else runErr l
def doL (l : List El) (c : List Chg) (t : Int) : List El := if doErr l c t = 0 then (goL l c t).1 else []
theorem do_zero {l : List El} {c : List Chg} {t : Int} (h : doErr l c t = 0) : Good l ∧ GoodC c ∧ 1 ≤ t ∧ latest l ≤ t ∧ t ≤ 2147483647 ∧ (∀ x ∈ c, stA l x.key 2147483647 = x.bef) ∧ (goL l c t).2 = 0 ∧ doL l c t = (goL l c t).1 := by
 have h0 : doL l c t = (goL l c t).1 := by unfold doL; rw [if_pos h]
 unfold doErr at h
 by_cases h1 : runErr l = 0
 ·rw [if_pos h1] at h
  by_cases h2 : chErr c = 0
  ·rw [if_pos h2] at h
   by_cases h3 : t < 1 ∨ t < latest l ∨ 2147483647 < t
   ·rw [if_pos h3] at h; cases h
   ·rw [if_neg h3] at h
    by_cases h4 : c.any (offB l) = true
    ·rw [if_pos h4] at h; cases h
    ·rw [if_neg h4] at h
     refine ⟨runErr_zero.1 h1, chErr_zero.1 h2, by omega, by omega, by omega, fun x hx => ?_, h, h0⟩
     refine Decidable.by_contra fun h5 => h4 (List.any_eq_true.2 ⟨x, hx, ?_⟩)
     unfold offB; rw [decide_eq_true_eq]; exact h5
  ·rw [if_neg h2] at h; exact absurd h h2
 ·rw [if_neg h1] at h; exact absurd h h1
/-- A right change whose key is gone afterwards takes a value away. -/
theorem cut_bef {x : Chg} (h : x.err = 0) (hs : x.hs = false) : x.aft = noS ∧ x.bef.th = true := by
 obtain ⟨_, _, _, h4, h5, h6⟩ := Chg.err_zero.1 h
 have h7 : x.aft = noS := by
  rcases h5 with h5 | h5
  ·rw [show x.aft.th = x.hs from rfl, hs] at h5; cases h5
  ·exact St.ext_iff'.2 ⟨hs, ByteArray.ext (Array.eq_empty_of_size_eq_zero h5)⟩
 refine ⟨h7, ?_⟩
 rcases h4 with h4 | h4
 ·exact h4
 ·cases hb : x.bef.th with
  |true => rfl
  |false => exact absurd ((St.ext_iff'.2 ⟨hb, ByteArray.ext (Array.eq_empty_of_size_eq_zero h4)⟩ : x.bef = noS).trans h7.symm) h6
theorem put_aft {x : Chg} (hs : x.hs = true) : x.aft = ⟨true, x.vs⟩ := St.ext_iff'.2 ⟨hs, rfl⟩
/-- One change: what it may answer, and what it does. -/
theorem pf_one {l : List El} {x : Chg} {t : Int} (hG : Good l) (hx : x.err = 0) (h1 : 1 ≤ t) (hl : latest l ≤ t) (ht : t ≤ 2147483647) (hb : stA l x.key 2147483647 = x.bef) :
    (pfErr l x t = 0 ∨ pfErr l x t = 8) ∧ (pfErr l x t = 0 → Good (pfL l x t) ∧ latest (pfL l x t) ≤ t ∧
      (∀ k u, u < t → stA (pfL l x t) k u = stA l k u) ∧ (∀ k u, k ≠ x.key → stA (pfL l x t) k u = stA l k u) ∧ (∀ u, t ≤ u → stA (pfL l x t) x.key u = x.aft)) := by
  obtain ⟨e1, e2, e3, e4, e5, e6⟩ := Chg.err_zero.1 hx
  cases hs : x.hs with
  | true =>
    have hw : wrErr l (fresh x.key x.vs t) = 0 := wrErr_zero.2 ⟨hG, elemErr_zero.2 ⟨e1, ⟨h1, ht, .inl rfl⟩, by show (x.vs.size : Int) ≤ 40; omega⟩, hl⟩
    have q1 : pfErr l x t = putErr l x.key x.vs t := by unfold pfErr; rw [if_pos hs]
    have q2 : pfL l x t = putR l x.key x.vs t := by unfold pfL; rw [if_pos hs]
    rw [q1, q2]
    refine ⟨?_, fun hp => ?_⟩
    · unfold putErr; rw [if_pos hw]; split
      · exact .inl rfl
      · split
        · exact .inr rfl
        · exact .inl rfl
    · have hM := put_good hw hp
      refine ⟨hM, Int.le_of_eq (latest_put hw), fun k u hu => ?_, fun k u hk => ?_, fun u hu => ?_⟩
      · unfold stA; rw [put_past hw hM hu]
      · unfold stA sV; rw [other_at hw hM hk]
      · obtain ⟨y, hy, h2, _⟩ := now_at hw hM hu
        unfold stA sV; rw [hy, put_aft hs]
        show (⟨true, y.s⟩ : St) = _
        rw [h2]
  | false =>
    obtain ⟨q3, q4⟩ := cut_bef hx hs
    have hw : wrErr l (fresh x.key { data := #[] } t) = 0 := wrErr_zero.2 ⟨hG, elemErr_zero.2 ⟨e1, ⟨h1, ht, .inl rfl⟩, by show (0 : Int) ≤ 40; omega⟩, hl⟩
    have q1 : pfErr l x t = cutErr l x.key t := by unfold pfErr; rw [if_neg (by rw [hs]; decide)]
    have q2 : pfL l x t = cutR l x.key t := by unfold pfL; rw [if_neg (by rw [hs]; decide)]
    have q5 : l.any (isOpen x.key) = true := by
      have h3 : (atR l x.key 2147483647).isSome = true := by
        unfold stA sV at hb
        cases ha : atR l x.key 2147483647 with
        | some e => rfl
        | none => rw [ha] at hb; rw [← hb] at q4; cases q4
      obtain ⟨e, he⟩ := Option.isSome_iff_exists.1 h3
      obtain ⟨h4, h5⟩ := (atR_iff hG.2.2).1 he
      rw [open_at hG (by omega) h4] at h5
      exact List.any_eq_true.2 ⟨e, h4, h5⟩
    rw [q1, q2]
    refine ⟨.inl (by unfold cutErr; rw [if_pos hw, if_pos q5]), fun _ => ⟨cut_good hw, latest_cut hw, fun k u hu => ?_, fun k u hk => ?_, fun u hu => ?_⟩⟩
    · unfold stA; rw [cut_past hw hu]
    · unfold stA sV; rw [cut_other hw hk]
    · unfold stA sV; rw [gone_at hw hu, q3]; rfl
/-- All the changes: what they may answer, and what they do. -/
theorem go_all {t : Int} (h1 : 1 ≤ t) (ht : t ≤ 2147483647) : ∀ {c : List Chg} {l : List El}, Good l → latest l ≤ t → (∀ x ∈ c, x.err = 0) → KS c → (∀ x ∈ c, stA l x.key 2147483647 = x.bef) →
    ((goL l c t).2 = 0 ∨ (goL l c t).2 = 8) ∧ ((goL l c t).2 = 0 → Good (goL l c t).1 ∧ latest (goL l c t).1 ≤ t ∧ (∀ k u, u < t → stA (goL l c t).1 k u = stA l k u) ∧
      (∀ k u, t ≤ u → stA (goL l c t).1 k u = match fnd c k with | some x => x.aft | none => stA l k u))
  | [], l, hG, hl, _, _, _ => ⟨.inl rfl, fun _ => ⟨hG, hl, fun _ _ _ => rfl, fun _ _ _ => rfl⟩⟩
  | x :: c, l, hG, hl, hc, hK, hb => by
    obtain ⟨p1, p2⟩ := pf_one hG (hc x (List.mem_cons_self ..)) h1 hl ht (hb x (List.mem_cons_self ..))
    by_cases h0 : pfErr l x t = 0
    · obtain ⟨g1, g2, g3, g4, g5⟩ := p2 h0
      have e1 : goL l (x :: c) t = goL (pfL l x t) c t := by rw [goL, if_pos h0]
      rw [e1]
      obtain ⟨i1, i2⟩ := go_all h1 ht (c := c) g1 g2 (fun y hy => hc y (List.mem_cons_of_mem _ hy)) (KS.cons.1 hK).2 (fun y hy => by
        rw [g4 _ _ fun e => kLt_ne ((KS.cons.1 hK).1 y hy) e.symm]
        exact hb y (List.mem_cons_of_mem _ hy))
      refine ⟨i1, fun hz => ?_⟩
      obtain ⟨j1, j2, j3, j4⟩ := i2 hz
      refine ⟨j1, j2, fun k u hu => (j3 k u hu).trans (g3 k u hu), fun k u hu => ?_⟩
      rw [j4 k u hu, fnd_cons]
      by_cases hk : x.key = k
      · subst hk
        rw [fnd_low hK (kLt_irrefl _), if_pos rfl]
        exact g5 u hu
      · rw [if_neg hk, g4 k u fun e => hk e.symm]
    · have e1 : goL l (x :: c) t = ([], pfErr l x t) := by rw [goL, if_neg h0]
      rw [e1]
      exact ⟨p1, fun h => absurd h h0⟩
/-- Before their time the states stay, and from it on they are as the changes say. -/
theorem do_all {l : List El} {c : List Chg} {t : Int} (h : doErr l c t = 0) : Good (doL l c t) ∧ latest (doL l c t) ≤ t ∧ (∀ k u, u < t → stA (doL l c t) k u = stA l k u) ∧
    (∀ k u, t ≤ u → stA (doL l c t) k u = match fnd c k with | some x => x.aft | none => stA l k u) := by
  obtain ⟨hG, hC, h1, hl, ht, hb, hz, e⟩ := do_zero h
  rw [e]
  exact (go_all h1 ht hG hl hC.2.1 hC.2.2 hb).2 hz
/-- Which errors there are, if run and changes are right and the states are as they say. -/
theorem do_errs {l : List El} {c : List Chg} {t : Int} (hG : Good l) (hC : GoodC c) (hb : ∀ x ∈ c, stA l x.key 2147483647 = x.bef) : doErr l c t = 0 ∨ doErr l c t = 9 ∨ (doErr l c t = 8 ∧ 1 ≤ t ∧ latest l ≤ t ∧ t ≤ 2147483647) := by
 unfold doErr
 rw [if_pos (runErr_zero.2 hG), if_pos (chErr_zero.2 hC)]
 by_cases h3 : t < 1 ∨ t < latest l ∨ 2147483647 < t
 ·rw [if_pos h3]; exact .inr (.inl rfl)
 ·rw [if_neg h3, if_neg]
  ·rcases (go_all (by omega) (by omega) hG (t := t) (by omega) hC.2.1 hC.2.2 hb).1 with h | h
   ·exact .inl h
   ·exact .inr (.inr ⟨h, by omega, by omega, by omega⟩)
  ·rw [List.any_eq_true]
   rintro ⟨x, hx, h⟩
   unfold offB at h; rw [decide_eq_true_eq] at h
   exact h (hb x hx)
theorem st_late {l : List El} (h : Good l) {u v : Int} (hu : latest l ≤ u) (hv : latest l ≤ v) (q : Int × Int × Int) : stA l q u = stA l q v := by
 unfold stA sV; rw [late_two h hu hv]
/-- Between the time ahead of it and its own, exactly what was done is another. -/
theorem done_bet {l : List El} {c : List Chg} {t : Int} (h : doErr l c t = 0) (hl : latest l < t) : betL (doL l c t) (t - 1) t = c := by
 obtain ⟨hG, hC, h1, _, ht, hb, _⟩ := do_zero h
 obtain ⟨d1, d2, d3, d4⟩ := do_all h
 refine ks_ext (bet_ks d1 _ _) hC.2.2 fun k => ?_
 rw [bet_at d1, d3 k (t - 1) (by omega), d4 k t (Int.le_refl _), st_late hG (u := t - 1) (v := 2147483647) (by omega) (by omega)]
 cases hf : fnd c k with
 |none => show (if stA l k 2147483647 = stA l k t then none else _) = none; rw [if_pos (st_late hG (by omega) (by omega) k)]
 |some x =>
  obtain ⟨hk, hx⟩ := fnd_key hf
  subst hk
  rw [hb x hx]
  show (if x.bef = x.aft then none else some (mkC x.key x.bef x.aft)) = some x
  rw [if_neg (Chg.err_zero.1 (hC.2.1 x hx)).2.2.2.2.2, mkC_self]
/-- Done back later: no error but a full run, and every key has its state again. -/
theorem undo_errs {l : List El} {c : List Chg} {t v : Int} (h : doErr l c t = 0) (hv : t ≤ v) (hv2 : v ≤ 2147483647) : (doErr (doL l c t) (revL c) v = 0 ∨ doErr (doL l c t) (revL c) v = 8) ∧
    (doErr (doL l c t) (revL c) v = 0 → ∀ x ∈ c, stA (doL (doL l c t) (revL c) v) x.key 2147483647 = stA l x.key 2147483647) := by
  obtain ⟨hG, hC, h1, _, ht, hb, _⟩ := do_zero h
  obtain ⟨d1, d2, d3, d4⟩ := do_all h
  have hb2 : ∀ x ∈ revL c, stA (doL l c t) x.key 2147483647 = x.bef := fun x hx => by
    obtain ⟨y, hy, rfl⟩ := List.mem_map.1 hx
    rw [revC_key, d4 y.key 2147483647 (by omega), fnd_mem hC.2.2 hy]; rfl
  constructor
  · rcases do_errs d1 (revL_good hC) hb2 (t := v) with h | h | h
    · exact .inl h
    · exfalso
      unfold doErr at h
      rw [if_pos (runErr_zero.2 d1), if_pos (chErr_zero.2 (revL_good hC)), if_neg (by omega)] at h
      split at h
      · cases h
      · rcases (go_all (by omega) hv2 d1 (t := v) (by omega) (revL_good hC).2.1 (revL_good hC).2.2 hb2).1 with h5 | h5 <;> omega
    · exact .inr h.1
  · intro hz x hx
    rw [(do_all hz).2.2.2 x.key 2147483647 hv2, fnd_rev, fnd_mem hC.2.2 hx]
    exact (hb x hx).symm
open Go.RowKit
set_option maxHeartbeats 4000000 in
theorem after_any (A : Option Addr) (c : Nat) (l : List El) (p o f m : Int) (w : World) (hn : l.length ≤ 400) (hL : Lies w A l) (hS : l.Pairwise Fol) :
    Calls Try.prog 77 #[.slice A l.length c, .agg #[.int .i64 p, .int .i64 o, .int .i64 f, .int .i64 m]] w fun e w' => e = .returned (.int .i64 (pos l (p, o, f) m)) ∧ Calm w w' := by
  have C : ∀ u B1 B2, Calm w u → Boxes B1 B2 A l.length c p o f m u → Calls Try.prog 96 #[.int .i64 l.length, .func (.func 97) #[] #[.pointer (some ⟨B1, 0, none⟩), .pointer (some ⟨B2, 0, none⟩)]] u fun e w' => e = .returned (.int .i64 (pos l (p, o, f) m)) ∧ Calm u w' :=
    fun u B1 B2 hu hB => search_any B1 B2 A c l p o f m u hn (hL.calm hu) hS hB
  generalize pos l (p, o, f) m = r at C ⊢
  clear hL hS
  go_enter Try.func77, Try.ntmps77
  go_wp2_with (go_at_call 96; refine (C _ _ _ (((Calm.refl _).alloc _).alloc _) ⟨heap_past _ (heap_new _ _), by simpa using heap_new (w.alloc (.cells #[.slice A l.length c] 22)) (.cells #[.int .i64 p, .int .i64 o, .int .i64 f, .int .i64 m] 58)⟩).mono ?_; rintro e w1 ⟨rfl, hb1⟩)
  go_ret
  exact ⟨rfl, by repeat (first | (with_reducible exact Calm.refl _) | (with_reducible refine Calm.alloc ?_ _) | (with_reducible refine Calm.drew ?_) | (with_reducible refine Calm.drewN ?_ _) | (refine Calm.call ?_ (by with_reducible assumption)))⟩
set_option maxHeartbeats 4000000 in
theorem liveRun_any (A : Option Addr) (d : Nat) (l : List El) (p' o' f' t : Int) (w : World) (hn : l.length ≤ 400) (hL : Lies w A l) (hS : l.Pairwise Fol) :
    Calls Try.prog 55 #[.slice A l.length d, .agg #[.int .i64 p', .int .i64 o', .int .i64 f'], .int .i64 t] w fun e w' => e = .returned (.tuple #[.int .i64 (if hitB l (pos l (p', o', f') t) (p', o', f') t then (pos l (p', o', f') t : Int) - 1 else 0), .bool (hitB l (pos l (p', o', f') t) (p', o', f') t)]) ∧ Calm w w' := by
  have C : ∀ u, Calm w u → Calls Try.prog 77 #[.slice A l.length d, .agg #[.int .i64 p', .int .i64 o', .int .i64 f', .int .i64 t]] u fun e w' => e = .returned (.int .i64 (pos l (p', o', f') t)) ∧ Calm u w' :=
    fun u hu => after_any A d l p' o' f' t u hn (hL.calm hu) hS
  have hpl := pos_le l (p', o', f') t
  generalize pos l (p', o', f') t = c at C hpl ⊢
  have hx : (w.alloc (.cells #[.int .i64 p', .int .i64 o', .int .i64 f'] 31)).heap[w.heap.size]? = some (.cells #[.int .i64 p', .int .i64 o', .int .i64 f'] 31 (0, 0)) := heap_new _ _
  have hw0 := (Calm.refl w).alloc (.cells #[.int .i64 p', .int .i64 o', .int .i64 f'] 31)
  by_cases h0 : c = 0
  · subst h0
    rw [hitB_none]
    go_enter Try.func55, Try.ntmps55
    go_wp2_with (go_at_call 77; refine (C _ hw0).mono ?_; rintro e w1 ⟨rfl, hb1⟩; have hu := hw0.call hb1; clear hx hw0 C hb1)
    refine wp_region_plan [.val (.int .i64 (-1)), .val (.bool true), .val (.bool true), .idle, .idle, .idle, .idle, .idle, .idle, .idle, .val (.bool true), .val (.bool true), .idle, .idle, .idle, .idle, .idle, .idle, .idle, .val (.bool true)] (by kernel_rfl) (by kernel_rfl) (by kernel_rfl) ?_
    intro X
    iterate 3
      refine plan_val (by kernel_rfl) (fun u hu => ?_) ?_
      · obtain ⟨hc, hf, hz⟩ := hu.of_drew.facts
        go_simp
      simp only [Act.put, List.setIfInBounds_toArray, List.set_cons_zero, List.set_cons_succ, Nat.reduceAdd]
    iterate 7
      refine plan_idle (by kernel_rfl) ?_
      simp only [Act.put, List.setIfInBounds_toArray, List.set_cons_zero, List.set_cons_succ, Nat.reduceAdd]
    iterate 2
      refine plan_val (by kernel_rfl) (fun u hu => ?_) ?_
      · obtain ⟨hc, hf, hz⟩ := hu.of_drew.facts
        go_simp
      simp only [Act.put, List.setIfInBounds_toArray, List.set_cons_zero, List.set_cons_succ, Nat.reduceAdd]
    iterate 7
      refine plan_idle (by kernel_rfl) ?_
      simp only [Act.put, List.setIfInBounds_toArray, List.set_cons_zero, List.set_cons_succ, Nat.reduceAdd]
    iterate 1
      refine plan_val (by kernel_rfl) (fun u hu => ?_) ?_
      · obtain ⟨hc, hf, hz⟩ := hu.of_drew.facts
        go_simp
      simp only [Act.put, List.setIfInBounds_toArray, List.set_cons_zero, List.set_cons_succ, Nat.reduceAdd]
    refine plan_end ?_
    intro w' hB
    have hk := hB.calm.of_drew
    clear hB
    go_wp2_with fail
    go_ret2
    exact ⟨rfl, hu.call hk⟩
  obtain ⟨b, q, p, o, f, m, g, s, rfl, hb, HE, hm, c0, c1, c2, c3, c4, c5⟩ := hL.get (k := c - 1) (by omega)
  have hH := hitB_some (k := (p', o', f')) (t := t) (by omega : 0 < c) HE.out
  simp only [El.key, El.live] at hH
  have z0 : 0 < c := by omega
  have z1 : IntKind.i64.wrap ((c : Int) - 1) = (c : Int) - 1 := IntWalk.i64_in _ (by omega)
  have z2 : ((c : Int) - 1).toNat = c - 1 := by omega
  have z3 : 0 ≤ (c : Int) - 1 := by omega
  have z4 : (c : Int) - 1 < l.length := by omega
  have z5 : 1 ≤ (c : Int) := by omega
  have Z : (0 < c ∧ IntKind.i64.wrap ((c : Int) - 1) = (c : Int) - 1 ∧ ((c : Int) - 1).toNat = c - 1 ∧ 0 ≤ (c : Int) - 1 ∧ (c : Int) - 1 < l.length ∧ 1 ≤ (c : Int)) := ⟨z0, z1, z2, z3, z4, z5⟩
  have ZZ := Lib.hid Z
  clear Z z0 z1 z2 z3 z4 h0
  generalize hb0 : hitB l c (p', o', f') t = r at hH ⊢
  clear hb0 hL HE hS
  generalize l.length = n at *
  have hc9 : (c : Int) ≤ 400 := by omega
  go_enter Try.func55, Try.ntmps55
  go_upto_region 2 with (go_at_call 77; refine (C _ hw0).mono ?_; rintro e w1 ⟨rfl, hb1⟩; have hu := hw0.call hb1; replace hx := (hb1.block (by simp)).trans hx; clear C hw0)
  obtain ⟨z0, z1, z2, z3, z4, z5'⟩ := ZZ.out
  have hvc := hu.facts.1
  replace c0 := (hvc _ _ hb).trans c0; replace c1 := (hvc _ _ hb).trans c1; replace c2 := (hvc _ _ hb).trans c2; replace c3 := (hvc _ _ hb).trans c3; replace c4 := (hvc _ _ hb).trans c4; replace c5 := (hvc _ _ hb).trans c5
  have hb2 : b < w1.heap.size := Nat.lt_of_lt_of_le hb hu.size
  obtain ⟨x0, x1, x2, hxs⟩ := row3 hx
  clear hvc hb1 hx ZZ hb
  by_cases hK : (p, o, f) = (p', o', f')
  rotate_left
  · have e0 : r = false := by rw [hH]; simp [hK]
    subst e0
    clear hH
    have h3 : ¬ p = p' ∨ (p = p' ∧ ¬ o = o') ∨ (p = p' ∧ o = o' ∧ ¬ f = f') := by simp only [Prod.mk.injEq] at hK; omega
    clear hK
    rcases h3 with h3 | ⟨h3, h4⟩ | ⟨h3, h4, h5⟩
    · skip
      refine wp_region_plan [.val (.int .i64 ((c : Int) - 1)), .val (.bool false), .val (.bool false), .val (.slice (some ⟨b, q, none⟩) n d), .val (.int .i64 ((c : Int) - 1)), .val (.pointer (some ⟨b, q + (c - 1) * 6, none⟩)), .val (.pointer (some ⟨b, q + (c - 1) * 6, none⟩)), .val (.agg #[.int .i64 p, .int .i64 o, .int .i64 f]), .val (.agg #[.int .i64 p', .int .i64 o', .int .i64 f']), .val (.bool true), .val (.bool true), .val (.bool true), .idle, .idle, .idle, .idle, .idle, .idle, .idle, .val (.bool true)] (by kernel_rfl) (by kernel_rfl) (by kernel_rfl) ?_
      intro X
      iterate 12
        refine plan_val (by kernel_rfl) (fun u hu => ?_) ?_
        · obtain ⟨hc, hf, hz⟩ := hu.of_drew.facts
          go_simp
        simp only [Act.put, List.setIfInBounds_toArray, List.set_cons_zero, List.set_cons_succ, Nat.reduceAdd]
      iterate 7
        refine plan_idle (by kernel_rfl) ?_
        simp only [Act.put, List.setIfInBounds_toArray, List.set_cons_zero, List.set_cons_succ, Nat.reduceAdd]
      iterate 1
        refine plan_val (by kernel_rfl) (fun u hu => ?_) ?_
        · obtain ⟨hc, hf, hz⟩ := hu.of_drew.facts
          go_simp
        simp only [Act.put, List.setIfInBounds_toArray, List.set_cons_zero, List.set_cons_succ, Nat.reduceAdd]
      refine plan_end ?_
      intro w' hB
      have hk := hB.calm.of_drew
      clear hB
      clear z0 z1 z2 z3 z4 z5
      go_wp2_with fail
      go_ret2
      exact ⟨rfl, hu.call hk⟩
    · skip
      subst h3
      refine wp_region_plan [.val (.int .i64 ((c : Int) - 1)), .val (.bool false), .val (.bool false), .val (.slice (some ⟨b, q, none⟩) n d), .val (.int .i64 ((c : Int) - 1)), .val (.pointer (some ⟨b, q + (c - 1) * 6, none⟩)), .val (.pointer (some ⟨b, q + (c - 1) * 6, none⟩)), .val (.agg #[.int .i64 p, .int .i64 o, .int .i64 f]), .val (.agg #[.int .i64 p, .int .i64 o', .int .i64 f']), .val (.bool true), .val (.bool true), .val (.bool true), .idle, .idle, .idle, .idle, .idle, .idle, .idle, .val (.bool true)] (by kernel_rfl) (by kernel_rfl) (by kernel_rfl) ?_
      intro X
      iterate 12
        refine plan_val (by kernel_rfl) (fun u hu => ?_) ?_
        · obtain ⟨hc, hf, hz⟩ := hu.of_drew.facts
          go_simp
        simp only [Act.put, List.setIfInBounds_toArray, List.set_cons_zero, List.set_cons_succ, Nat.reduceAdd]
      iterate 7
        refine plan_idle (by kernel_rfl) ?_
        simp only [Act.put, List.setIfInBounds_toArray, List.set_cons_zero, List.set_cons_succ, Nat.reduceAdd]
      iterate 1
        refine plan_val (by kernel_rfl) (fun u hu => ?_) ?_
        · obtain ⟨hc, hf, hz⟩ := hu.of_drew.facts
          go_simp
        simp only [Act.put, List.setIfInBounds_toArray, List.set_cons_zero, List.set_cons_succ, Nat.reduceAdd]
      refine plan_end ?_
      intro w' hB
      have hk := hB.calm.of_drew
      clear hB
      clear z0 z1 z2 z3 z4 z5
      go_wp2_with fail
      go_ret2
      exact ⟨rfl, hu.call hk⟩
    · skip
      subst h3
      subst h4
      refine wp_region_plan [.val (.int .i64 ((c : Int) - 1)), .val (.bool false), .val (.bool false), .val (.slice (some ⟨b, q, none⟩) n d), .val (.int .i64 ((c : Int) - 1)), .val (.pointer (some ⟨b, q + (c - 1) * 6, none⟩)), .val (.pointer (some ⟨b, q + (c - 1) * 6, none⟩)), .val (.agg #[.int .i64 p, .int .i64 o, .int .i64 f]), .val (.agg #[.int .i64 p, .int .i64 o, .int .i64 f']), .val (.bool true), .val (.bool true), .val (.bool true), .idle, .idle, .idle, .idle, .idle, .idle, .idle, .val (.bool true)] (by kernel_rfl) (by kernel_rfl) (by kernel_rfl) ?_
      intro X
      iterate 12
        refine plan_val (by kernel_rfl) (fun u hu => ?_) ?_
        · obtain ⟨hc, hf, hz⟩ := hu.of_drew.facts
          go_simp
        simp only [Act.put, List.setIfInBounds_toArray, List.set_cons_zero, List.set_cons_succ, Nat.reduceAdd]
      iterate 7
        refine plan_idle (by kernel_rfl) ?_
        simp only [Act.put, List.setIfInBounds_toArray, List.set_cons_zero, List.set_cons_succ, Nat.reduceAdd]
      iterate 1
        refine plan_val (by kernel_rfl) (fun u hu => ?_) ?_
        · obtain ⟨hc, hf, hz⟩ := hu.of_drew.facts
          go_simp
        simp only [Act.put, List.setIfInBounds_toArray, List.set_cons_zero, List.set_cons_succ, Nat.reduceAdd]
      refine plan_end ?_
      intro w' hB
      have hk := hB.calm.of_drew
      clear hB
      clear z0 z1 z2 z3 z4 z5
      go_wp2_with fail
      go_ret2
      exact ⟨rfl, hu.call hk⟩
  simp only [Prod.mk.injEq] at hK
  obtain ⟨rfl, rfl, rfl⟩ := hK
  by_cases hl : liveP m g t
  · have e0 : r = true := by rw [hH]; simp [hl]
    subst e0
    have L : ∀ u, Calls Try.prog 78 #[.agg #[.int .i64 p, .int .i64 o, .int .i64 f, .int .i64 m, .int .i64 g, .string s], .int .i64 t] u fun e w' => e = .returned (.bool true) ∧ Calm u w' := fun u => (live_any p o f m g t s u).mono fun e w' h => ⟨h.1.trans (ret_bool (decide_eq_true hl)), h.2⟩
    clear hH hl
    refine wp_region_plan [.val (.int .i64 ((c : Int) - 1)), .val (.bool false), .val (.bool false), .val (.slice (some ⟨b, q, none⟩) n d), .val (.int .i64 ((c : Int) - 1)), .val (.pointer (some ⟨b, q + (c - 1) * 6, none⟩)), .val (.pointer (some ⟨b, q + (c - 1) * 6, none⟩)), .val (.agg #[.int .i64 p, .int .i64 o, .int .i64 f]), .val (.agg #[.int .i64 p, .int .i64 o, .int .i64 f]), .val (.bool false), .val (.bool false), .val (.bool false), .val (.slice (some ⟨b, q, none⟩) n d), .val (.int .i64 ((c : Int) - 1)), .val (.pointer (some ⟨b, q + (c - 1) * 6, none⟩)), .val (.agg #[.int .i64 p, .int .i64 o, .int .i64 f, .int .i64 m, .int .i64 g, .string s]), .val (.int .i64 (t)), .val (.bool true), .val (.bool false), .val (.bool false)] (by kernel_rfl) (by kernel_rfl) (by kernel_rfl) ?_
    intro X
    iterate 20
      refine plan_val (by kernel_rfl) (fun u hu => ?_) ?_
      · obtain ⟨hc, hf, hz⟩ := hu.of_drew.facts
        go_simp
        all_goals first
          | (go_at_call 78; exact L _)
      simp only [Act.put, List.setIfInBounds_toArray, List.set_cons_zero, List.set_cons_succ, Nat.reduceAdd]
    refine plan_end ?_
    intro w' hB
    have hk := hB.calm.of_drew
    clear hB
    clear z0 z1 z2 z3 z4 z5
    go_wp2_with fail
    go_ret2
    exact ⟨rfl, hu.call hk⟩
  · have e0 : r = false := by rw [hH]; simp [hl]
    subst e0
    have L : ∀ u, Calls Try.prog 78 #[.agg #[.int .i64 p, .int .i64 o, .int .i64 f, .int .i64 m, .int .i64 g, .string s], .int .i64 t] u fun e w' => e = .returned (.bool false) ∧ Calm u w' := fun u => (live_any p o f m g t s u).mono fun e w' h => ⟨h.1.trans (ret_bool (decide_eq_false hl)), h.2⟩
    clear hH hl
    refine wp_region_plan [.val (.int .i64 ((c : Int) - 1)), .val (.bool false), .val (.bool false), .val (.slice (some ⟨b, q, none⟩) n d), .val (.int .i64 ((c : Int) - 1)), .val (.pointer (some ⟨b, q + (c - 1) * 6, none⟩)), .val (.pointer (some ⟨b, q + (c - 1) * 6, none⟩)), .val (.agg #[.int .i64 p, .int .i64 o, .int .i64 f]), .val (.agg #[.int .i64 p, .int .i64 o, .int .i64 f]), .val (.bool false), .val (.bool false), .val (.bool false), .val (.slice (some ⟨b, q, none⟩) n d), .val (.int .i64 ((c : Int) - 1)), .val (.pointer (some ⟨b, q + (c - 1) * 6, none⟩)), .val (.agg #[.int .i64 p, .int .i64 o, .int .i64 f, .int .i64 m, .int .i64 g, .string s]), .val (.int .i64 (t)), .val (.bool false), .val (.bool true), .val (.bool true)] (by kernel_rfl) (by kernel_rfl) (by kernel_rfl) ?_
    intro X
    iterate 20
      refine plan_val (by kernel_rfl) (fun u hu => ?_) ?_
      · obtain ⟨hc, hf, hz⟩ := hu.of_drew.facts
        go_simp
        all_goals first
          | (go_at_call 78; exact L _)
      simp only [Act.put, List.setIfInBounds_toArray, List.set_cons_zero, List.set_cons_succ, Nat.reduceAdd]
    refine plan_end ?_
    intro w' hB
    have hk := hB.calm.of_drew
    clear hB
    clear z0 z1 z2 z3 z4 z5
    go_wp2_with fail
    go_ret2
    exact ⟨rfl, hu.call hk⟩
open Go.RowKit
def El.val (e : El) : Value := .agg #[.int .i64 e.p, .int .i64 e.o, .int .i64 e.f, .int .i64 e.m, .int .i64 e.g, .string e.s]
def AtEnd (x : El) (n : Int) (w : World) (e : Ending) (w' : World) : Prop := e = .returned (.tuple #[x.val, .int .i64 n]) ∧ Calm w w'
set_option maxHeartbeats 4000000 in
theorem runAt_any (A : Option Addr) (d : Nat) (l : List El) (p' o' f' t : Int) (w : World) (hn : l.length ≤ 9223372036854775807) (hL : Lies w A l) :
    Calls Try.prog 25 #[.slice A l.length d, .agg #[.int .i64 p', .int .i64 o', .int .i64 f'], .int .i64 t] w (AtEnd (atVal l (p', o', f') t) (atErr l (p', o', f') t) w) := by
  have cC : ∀ u, Calm w u → Calls Try.prog 26 #[.slice A l.length d] u fun e w' => e = .returned (.int .i64 (runErr l)) ∧ Calm u w' := fun u hu => runCheck_any A d l u hn (hL.calm hu)
  have hz : ((w.alloc (.cells #[.int .i64 p', .int .i64 o', .int .i64 f'] 31)).alloc (.cells #[.int .i64 0, .int .i64 0, .int .i64 0, .int .i64 0, .int .i64 0, .string { data := #[] }] 43)).heap[w.heap.size + 1]? = some (.cells #[.int .i64 0, .int .i64 0, .int .i64 0, .int .i64 0, .int .i64 0, .string { data := #[] }] 43 (0, 0)) := by simpa using heap_new (w.alloc (.cells #[.int .i64 p', .int .i64 o', .int .i64 f'] 31)) (.cells #[.int .i64 0, .int .i64 0, .int .i64 0, .int .i64 0, .int .i64 0, .string { data := #[] }] 43)
  have hy : ((w.alloc (.cells #[.int .i64 p', .int .i64 o', .int .i64 f'] 31)).alloc (.cells #[.int .i64 0, .int .i64 0, .int .i64 0, .int .i64 0, .int .i64 0, .string { data := #[] }] 43)).heap[w.heap.size]? = some (.cells #[.int .i64 p', .int .i64 o', .int .i64 f'] 31 (0, 0)) := heap_past _ (heap_new _ _)
  have hu := ((Calm.refl w).alloc (.cells #[.int .i64 p', .int .i64 o', .int .i64 f'] 31)).alloc (.cells #[.int .i64 0, .int .i64 0, .int .i64 0, .int .i64 0, .int .i64 0, .string { data := #[] }] 43)
  by_cases he : runErr l = 0
  rotate_left
  · have e1 : atErr l (p', o', f') t = runErr l := by simp [atErr, askErr1, he]
    have e2 : atVal l (p', o', f') t = zeroEl := by simp [atVal, askErr1, he]
    rw [e1, e2]
    have b1 : (runErr l != 0) = true := by simpa using he
    clear he e1 e2 hL
    go_enter Try.func25, Try.ntmps25
    go_wp2_with (go_at_call 26; refine (cC _ hu).mono ?_; rintro e w1 ⟨rfl, hb1⟩; replace hz := (hb1.block (row6 hz).2.2.2.2.2.2).trans hz; replace hy := (hb1.block (row3 hy).2.2.2).trans hy; replace hu := hu.call hb1; clear hb1; obtain ⟨y0, y1, y2, hys⟩ := row3 hy; obtain ⟨z0, z1, z2, z3, z4, z5, hzs⟩ := row6 hz; obtain ⟨f0, f1, f2, f3, f4, f5⟩ := free6 hz)
    have hr := set6 hz (.int .i64 0) (.int .i64 0) (.int .i64 0) (.int .i64 0) (.int .i64 0) (.string { data := #[] })
    have hu2 := hu.six (g := w.heap.size + 1) (by omega) (.int .i64 0) (.int .i64 0) (.int .i64 0) (.int .i64 0) (.int .i64 0) (.string { data := #[] })
    unfold World.six at hr hu2
    exact end_two rfl rfl _ _ _ _ _ _ _ rfl rfl rfl hr rfl ⟨rfl, hu2⟩
  have hG := runErr_zero.1 he
  rw [he] at cC
  by_cases hk : keyErr p' o' f' = 0
  rotate_left
  · have e1 : atErr l (p', o', f') t = keyErr p' o' f' := by simp [atErr, askErr1, he, kErr, hk]
    have e2 : atVal l (p', o', f') t = zeroEl := by simp [atVal, askErr1, he, kErr, hk]
    rw [e1, e2]
    have b1 : (keyErr p' o' f' != 0) = true := by simpa using hk
    clear he hk e1 e2 hL hG
    go_enter Try.func25, Try.ntmps25
    go_wp2_with (first
      | (go_at_call 26; refine (cC _ hu).mono ?_; rintro e w1 ⟨rfl, hb1⟩; replace hz := (hb1.block (row6 hz).2.2.2.2.2.2).trans hz; replace hy := (hb1.block (row3 hy).2.2.2).trans hy; replace hu := hu.call hb1; clear hb1; obtain ⟨y0, y1, y2, hys⟩ := row3 hy; obtain ⟨z0, z1, z2, z3, z4, z5, hzs⟩ := row6 hz; obtain ⟨f0, f1, f2, f3, f4, f5⟩ := free6 hz)
      | (go_at_call 54; refine (keyCheck_any _ _ _ _).mono ?_; rintro e w1 ⟨rfl, hb1⟩; replace hz := (hb1.block (row6 hz).2.2.2.2.2.2).trans hz; replace hy := (hb1.block (row3 hy).2.2.2).trans hy; replace hu := hu.call hb1; clear hb1; obtain ⟨y0, y1, y2, hys⟩ := row3 hy; obtain ⟨z0, z1, z2, z3, z4, z5, hzs⟩ := row6 hz; obtain ⟨f0, f1, f2, f3, f4, f5⟩ := free6 hz))
    have hr := set6 hz (.int .i64 0) (.int .i64 0) (.int .i64 0) (.int .i64 0) (.int .i64 0) (.string { data := #[] })
    have hu2 := hu.six (g := w.heap.size + 1) (by omega) (.int .i64 0) (.int .i64 0) (.int .i64 0) (.int .i64 0) (.int .i64 0) (.string { data := #[] })
    unfold World.six at hr hu2
    exact end_two rfl rfl _ _ _ _ _ _ _ rfl rfl rfl hr rfl ⟨rfl, hu2⟩
  have cK : ∀ u, Calls Try.prog 54 #[.agg #[.int .i64 p', .int .i64 o', .int .i64 f']] u fun e w' => e = .returned (.int .i64 0) ∧ Calm u w' := fun u => by rw [← hk]; exact keyCheck_any _ _ _ _
  have cV : ∀ u, Calm w u → Calls Try.prog 55 #[.slice A l.length d, .agg #[.int .i64 p', .int .i64 o', .int .i64 f'], .int .i64 t] u fun e w' => e = .returned (.tuple #[.int .i64 (if hitB l (pos l (p', o', f') t) (p', o', f') t then (pos l (p', o', f') t : Int) - 1 else 0), .bool (hitB l (pos l (p', o', f') t) (p', o', f') t)]) ∧ Calm u w' :=
    fun u hu => liveRun_any A d l p' o' f' t u hG.1 (hL.calm hu) hG.2.2
  rcases hitB_pos hG.2.2 (p', o', f') t with ⟨h1, hi, h2, h3, h4⟩ | ⟨h1, h2, h3⟩
  · have e1 : atErr l (p', o', f') t = 0 := by simp [atErr, askErr1, he, kErr, hk, h4]
    have e2 : atVal l (p', o', f') t = l[pos l (p', o', f') t - 1] := by simp [atVal, askErr1, he, kErr, hk, h4]
    rw [e1, e2]
    simp only [h1, if_true] at cV
    rw [show (pos l (p', o', f') t : Int) - 1 = ((pos l (p', o', f') t - 1 : Nat) : Int) by omega] at cV
    clear e1 e2 h1 h2 h3 h4
    generalize pos l (p', o', f') t - 1 = j at cV hi ⊢
    obtain ⟨b, q, p, o, f, m, g, s, rfl, hb, HE, hm, c0, c1, c2, c3, c4, c5⟩ := hL.get hi
    have e3 : Hid (l[j] = ⟨p, o, f, m, g, s⟩) := (List.getElem?_eq_some_iff.1 HE.out).2
    have hC : ∀ u, Calm w u → u.cell? ⟨b, q + j * 6, none⟩ = some (.int .i64 p) ∧ u.cell? ⟨b, q + j * 6 + 1, none⟩ = some (.int .i64 o) ∧ u.cell? ⟨b, q + j * 6 + 2, none⟩ = some (.int .i64 f) ∧ u.cell? ⟨b, q + j * 6 + 3, none⟩ = some (.int .i64 m) ∧ u.cell? ⟨b, q + j * 6 + 4, none⟩ = some (.int .i64 g) ∧ u.cell? ⟨b, q + j * 6 + 5, none⟩ = some (.string s) := fun u hu =>
      have hc := hu.facts.1
      ⟨(hc _ _ hb).trans c0, (hc _ _ hb).trans c1, (hc _ _ hb).trans c2, (hc _ _ hb).trans c3, (hc _ _ hb).trans c4, (hc _ _ hb).trans c5⟩
    have hn4 := hG.1
    have hiz : (j : Int) < (l.length : Int) := by omega
    clear he hk hL hG HE c0 c1 c2 c3 c4 c5
    go_enter Try.func25, Try.ntmps25
    go_wp2_with (first
      | (go_at_call 26; refine (cC _ hu).mono ?_; rintro e w1 ⟨rfl, hb1⟩; replace hz := (hb1.block (row6 hz).2.2.2.2.2.2).trans hz; replace hy := (hb1.block (row3 hy).2.2.2).trans hy; replace hu := hu.call hb1; clear hb1; obtain ⟨y0, y1, y2, hys⟩ := row3 hy; obtain ⟨z0, z1, z2, z3, z4, z5, hzs⟩ := row6 hz; obtain ⟨f0, f1, f2, f3, f4, f5⟩ := free6 hz)
      | (go_at_call 54; refine (cK _).mono ?_; rintro e w1 ⟨rfl, hb1⟩; replace hz := (hb1.block (row6 hz).2.2.2.2.2.2).trans hz; replace hy := (hb1.block (row3 hy).2.2.2).trans hy; replace hu := hu.call hb1; clear hb1; obtain ⟨y0, y1, y2, hys⟩ := row3 hy; obtain ⟨z0, z1, z2, z3, z4, z5, hzs⟩ := row6 hz; obtain ⟨f0, f1, f2, f3, f4, f5⟩ := free6 hz)
      | (go_at_call 55; refine (cV _ hu).mono ?_; rintro e w1 ⟨rfl, hb1⟩; replace hz := (hb1.block (row6 hz).2.2.2.2.2.2).trans hz; replace hy := (hb1.block (row3 hy).2.2.2).trans hy; replace hu := hu.call hb1; clear hb1; obtain ⟨y0, y1, y2, hys⟩ := row3 hy; obtain ⟨z0, z1, z2, z3, z4, z5, hzs⟩ := row6 hz; obtain ⟨f0, f1, f2, f3, f4, f5⟩ := free6 hz; obtain ⟨c0, c1, c2, c3, c4, c5⟩ := hC _ hu))
    have hr := set6 hz (.int .i64 p) (.int .i64 o) (.int .i64 f) (.int .i64 m) (.int .i64 g) (.string s)
    have hu2 := hu.six (g := w.heap.size + 1) (by omega) (.int .i64 p) (.int .i64 o) (.int .i64 f) (.int .i64 m) (.int .i64 g) (.string s)
    unfold World.six at hr hu2
    exact end_two rfl rfl _ _ _ _ _ _ _ rfl rfl rfl hr rfl ⟨by rw [e3.out]; rfl, hu2⟩
  · have e1 : atErr l (p', o', f') t = 4 := by simp [atErr, askErr1, he, kErr, hk, h2]
    have e2 : atVal l (p', o', f') t = zeroEl := by simp [atVal, askErr1, he, kErr, hk, h2]
    rw [e1, e2]
    simp only [h1] at cV
    clear e1 e2 h1 h2 h3 he hk hL hG
    go_enter Try.func25, Try.ntmps25
    go_wp2_with (first
      | (go_at_call 26; refine (cC _ hu).mono ?_; rintro e w1 ⟨rfl, hb1⟩; replace hz := (hb1.block (row6 hz).2.2.2.2.2.2).trans hz; replace hy := (hb1.block (row3 hy).2.2.2).trans hy; replace hu := hu.call hb1; clear hb1; obtain ⟨y0, y1, y2, hys⟩ := row3 hy; obtain ⟨z0, z1, z2, z3, z4, z5, hzs⟩ := row6 hz; obtain ⟨f0, f1, f2, f3, f4, f5⟩ := free6 hz)
      | (go_at_call 54; refine (cK _).mono ?_; rintro e w1 ⟨rfl, hb1⟩; replace hz := (hb1.block (row6 hz).2.2.2.2.2.2).trans hz; replace hy := (hb1.block (row3 hy).2.2.2).trans hy; replace hu := hu.call hb1; clear hb1; obtain ⟨y0, y1, y2, hys⟩ := row3 hy; obtain ⟨z0, z1, z2, z3, z4, z5, hzs⟩ := row6 hz; obtain ⟨f0, f1, f2, f3, f4, f5⟩ := free6 hz)
      | (go_at_call 55; refine (cV _ hu).mono ?_; rintro e w1 ⟨rfl, hb1⟩; replace hz := (hb1.block (row6 hz).2.2.2.2.2.2).trans hz; replace hy := (hb1.block (row3 hy).2.2.2).trans hy; replace hu := hu.call hb1; clear hb1; obtain ⟨y0, y1, y2, hys⟩ := row3 hy; obtain ⟨z0, z1, z2, z3, z4, z5, hzs⟩ := row6 hz; obtain ⟨f0, f1, f2, f3, f4, f5⟩ := free6 hz))
    have hr := set6 hz (.int .i64 0) (.int .i64 0) (.int .i64 0) (.int .i64 0) (.int .i64 0) (.string { data := #[] })
    have hu2 := hu.six (g := w.heap.size + 1) (by omega) (.int .i64 0) (.int .i64 0) (.int .i64 0) (.int .i64 0) (.int .i64 0) (.string { data := #[] })
    unfold World.six at hr hu2
    exact end_two rfl rfl _ _ _ _ _ _ _ rfl rfl rfl hr rfl ⟨rfl, hu2⟩
open Go.RowKit
theorem zero6 : ∀ w, (Go.sizeOf 43).run Try.prog w = .ok 6 w := fun _ => by kernel_rfl
set_option maxHeartbeats 8000000 in
theorem insert_shift (g h i n cap : Nat) (l : List El) (cur : List Value) (p o f m gg : Int) (s : ByteArray) (w : World) (hn : n = l.length) (hi : i < n) (hn4 : n ≤ 400) (hroom : n + 1 ≤ cap) (hc63 : cap ≤ 9223372036854775807)
    (hg : w.heap[g]? = some (.cells cur.toArray 43 (0, 0))) (hs : cur.length = cap * 6) (ht : cur.take (n * 6) = cellsOf l) (hh : w.heap[h]? = some (.cells #[.int .i64 p, .int .i64 o, .int .i64 f, .int .i64 m, .int .i64 gg, .string s] 43 (0, 0))) (hne : h ≠ g) :
    Calls Try.prog 94 #[.slice (some ⟨g, 0, none⟩) n cap, .int .i64 i, .slice (some ⟨h, 0, none⟩) 1 1] w fun e w' => e = .returned (.slice (some ⟨g, 0, none⟩) (n + 1) cap) ∧
      w'.heap[g]? = some (.cells (spl (spl cur ((i + 1) * 6) (cellsOf (l.drop i))) (i * 6) (El.cells ⟨p, o, f, m, gg, s⟩)).toArray 43 (0, 0)) ∧ w.grownBy w' (some g) := by
  have hov : ∀ lb cb, (callFunc 104 #[.slice (some ⟨h, 0, none⟩) 1 1, .slice (some ⟨g, (i + 1) * 6, none⟩) lb cb]).run Try.prog w = .ok (.value (.bool false)) w := fun lb cb => by
    rw [run_callFunc_extern Try.func104 (by kernel_rfl) (by kernel_rfl) (by kernel_rfl) (e := Extern.SlicesOverlaps.overlaps #[22, 22] #[4]) (by kernel_rfl),
      Lib.run_overlaps_apart w 22 4 43 Try.underlying22 6 zero6 ⟨h, 0, none⟩ ⟨g, (i + 1) * 6, none⟩ 1 1 lb cb hne 43 43 6 cur.toArray.size (by simp [World.shape?, hh]) (by simp [World.shape?, hg]) (by rw [List.size_toArray, hs]; omega) (frozen_of_row _ _ _ _ _ hh) (frozen_of_row _ _ _ _ _ hh)]
    rfl
  have hdl : (cellsOf (l.drop i)).length = (n - i) * 6 := by rw [cellsOf_len, List.length_drop, hn]
  have hcell : ∀ j v, (cellsOf (l.drop i))[j]? = some v → w.cell? ⟨g, i * 6 + j, none⟩ = some v := fun j v hj => by
    have hj2 : j < (n - i) * 6 := by rw [← hdl]; exact (List.getElem?_eq_some_iff.1 hj).1
    rw [← cellsOf_drop (by omega), List.getElem?_drop, ← ht, List.getElem?_take, if_pos (by omega)] at hj
    rw [cell_of_row _ _ _ _ _ _ hg, ← hj, List.getElem?_toArray]
  have hfit1 : (i + 1) * 6 + (cellsOf (l.drop i)).length ≤ cur.length := by omega
  obtain ⟨c1, hc1⟩ : ∃ c1, c1 = spl cur ((i + 1) * 6) (cellsOf (l.drop i)) := ⟨_, rfl⟩
  have hc1l : c1.length = cur.length := by rw [hc1]; exact spl_len hfit1
  have hcp1 : ∀ ty dc sc, (Builtin.copy_ #[22, 22] ty #[.slice (some ⟨g, (i + 1) * 6, none⟩) (n - i) dc, .slice (some ⟨g, i * 6, none⟩) (n + 1 - i) sc]).run Try.prog w.drew = .ok (goInt (Nat.min (n + 1 - i) (n - i))) (w.drew.setRow g c1.toArray) := fun ty dc sc => by
    rw [hc1]
    refine run_copy_el w.drew ty g ((i + 1) * 6) (n - i) dc ⟨g, i * 6, none⟩ (n + 1 - i) sc cur _ (cellsOf (l.drop i)) hg (by rw [hdl]; congr 1; simp only [Nat.min_def]; split <;> omega) (fun j v hj => ?_) hfit1 (cellsOf_one _)
    rw [Addr.add_lit]; exact hcell j v hj
  have hcp2 : ∀ W : World, W.heap = (w.drew.setRow g c1.toArray).heap → ∀ ty dc, (Builtin.copy_ #[22, 22] ty #[.slice (some ⟨g, i * 6, none⟩) (n + 1 - i) dc, .slice (some ⟨h, 0, none⟩) 1 1]).run Try.prog W = .ok (goInt (Nat.min 1 (n + 1 - i))) (W.setRow g (spl c1 (i * 6) (El.cells ⟨p, o, f, m, gg, s⟩)).toArray) := fun W hW ty dc => by
    refine run_copy_el W ty g (i * 6) (n + 1 - i) dc ⟨h, 0, none⟩ 1 1 c1 43 _ (by rw [hW]; exact setRow_heap _ _ _ _ _ _ hg) (by show 6 = _; simp only [Nat.min_def]; split <;> omega) (fun j v hj => ?_) (by show _ + 6 ≤ _; omega) (cells_one _)
    have e : (⟨h, 0, none⟩ : Addr).add j = ⟨h, j, none⟩ := by unfold Addr.add; split <;> simp_all
    have hhW : W.heap[h]? = some (.cells #[.int .i64 p, .int .i64 o, .int .i64 f, .int .i64 m, .int .i64 gg, .string s] 43 (0, 0)) := by rw [hW, setRow_other _ _ _ _ hne]; exact hh
    rw [e, cell_of_row _ _ _ _ _ _ hhW, ← hj]; simp [El.cells]
  have hfin : ∀ W : World, W.heap = (w.drew.setRow g c1.toArray).heap → W.os = w.os → W.tape = w.tape → W.output = w.output → (W.setRow g (spl c1 (i * 6) (El.cells ⟨p, o, f, m, gg, s⟩)).toArray).heap[g]? = some (.cells (spl c1 (i * 6) (El.cells ⟨p, o, f, m, gg, s⟩)).toArray 43 (0, 0)) ∧ w.grownBy (W.setRow g (spl c1 (i * 6) (El.cells ⟨p, o, f, m, gg, s⟩)).toArray) (some g) := fun W hW h1 h2 h3 => by
    refine ⟨setRow_heap _ _ c1.toArray _ _ _ (by rw [hW]; exact setRow_heap _ _ _ _ _ _ hg), h1, h2, h3, ?_, fun k hk hne' => ?_⟩
    · rw [show (W.setRow g _).heap.size = W.heap.size by simp, hW]; simp
    · have hkg : k ≠ g := fun e => hne' (by rw [e])
      rw [setRow_other _ _ _ _ hkg, hW, setRow_other _ _ _ _ hkg]
      rfl
  rw [← hc1]
  have hin : i ≤ n := by omega
  have hz2 : ¬ ((i : Int) = (n : Int)) := by omega
  have hw1 : IntKind.i64.wrap ((i : Int) + 1) = (i : Int) + 1 := by rw [IntKind.wrap_i64]; omega
  have hb1 : (0 : Int) ≤ (i : Int) + 1 := by omega
  have htn : ((i : Int) + 1).toNat = i + 1 := by omega
  have hb2 : ¬ (cap = i + 1) := by omega
  have hb3 : (i : Int) ≤ (n : Int) + 1 := by omega
  have hb4 : ¬ (cap = i) := by omega
  have hb5 : (i : Int) < (n : Int) := by omega
  have hb6 : (n : Int) + 1 ≤ (cap : Int) := by omega
  clear hdl hcell hfit1 hc1 hc1l hn ht hs hg hh
  go_enter Try.func94, Try.ntmps94
  go_wp2_with (simp only [hov])
  go_region_law (refine step_copy_known rfl _ _ 22 rfl _ _ (by simp [Act.eval, Act.put]) (by simp [Act.eval, Act.put]) (hcp1 _ _ _) ?_)
  go_wp2_with (at_builtin; refine wpList_copy_known rfl _ _ 22 rfl _ _ rfl rfl (hcp2 _ rfl _ _) ?_)
  go_ret
  exact ⟨rfl, hfin _ rfl rfl rfl rfl⟩
def GrowEnd (w : World) (l : List El) (i : Nat) (x : El) (e : Ending) (w' : World) : Prop :=
 ∃ (G : Nat) (C : List Value), e = .returned (.slice (some ⟨w.heap.size, 0, none⟩) (l.length + 1) G) ∧ l.length + 1 ≤ G ∧ G ≤ maxLen ∧ C.length = G * 6 ∧ C.take (i * 6) = cellsOf (l.take i) ∧
  w'.heap[w.heap.size]? = some (.cells (spl (spl C (i * 6) x.cells) ((i + 1) * 6) (cellsOf (l.drop i))).toArray 43 (0, 0)) ∧ Calm w w'
set_option maxHeartbeats 8000000 in
theorem insert_grow (g h i n cap : Nat) (l : List El) (cur : List Value) (p o f m gg : Int) (s : ByteArray) (w : World) (hn : n = l.length) (hi : i < n) (hn4 : n ≤ 400) (hnc : n ≤ cap) (hroom : cap < n + 1)
    (hg : w.heap[g]? = some (.cells cur.toArray 43 (0, 0))) (ht : cur.take (n * 6) = cellsOf l) (hh : w.heap[h]? = some (.cells #[.int .i64 p, .int .i64 o, .int .i64 f, .int .i64 m, .int .i64 gg, .string s] 43 (0, 0))) :
    Calls Try.prog 94 #[.slice (some ⟨g, 0, none⟩) n cap, .int .i64 i, .slice (some ⟨h, 0, none⟩) 1 1] w (GrowEnd w l i ⟨p, o, f, m, gg, s⟩) := by
  obtain ⟨i0, hi0, hz0, hzs, hzb⟩ := info_parts infoElem
  have hgw : g < w.heap.size := (Array.getElem?_eq_some_iff.1 hg).1
  have hhw : h < w.heap.size := (Array.getElem?_eq_some_iff.1 hh).1
  have hcl : ∀ j v, (cellsOf l)[j]? = some v → w.cell? ⟨g, j, none⟩ = some v := fun j v hj => by
    have hj2 : j < n * 6 := by rw [hn, ← cellsOf_len]; exact (List.getElem?_eq_some_iff.1 hj).1
    rw [← ht, List.getElem?_take, if_pos hj2] at hj
    rw [cell_of_row _ _ _ _ _ _ hg, ← hj, List.getElem?_toArray]
  have hdl : (cellsOf (l.drop i)).length = (n - i) * 6 := by rw [cellsOf_len, List.length_drop, hn]
  have htl : (cellsOf (l.take i)).length = i * 6 := by rw [cellsOf_len, List.length_take]; congr 1; omega
  have hkk : (n : Int) + 1 - (i : Int) = ((n + 1 - i : Nat) : Int) := by omega
  have hik : i + (n + 1 - i) = n + 1 := by omega
  have hold : (Builtin.firstCells i0.size i (.slice (some ⟨g, 0, none⟩) i cap)).run Try.prog w.drew = .ok (cellsOf (l.take i)).toArray w.drew := by
    rw [hzs]
    refine run_firstCells_some w.drew 6 i ⟨g, 0, none⟩ i cap (cellsOf (l.take i)) htl fun j v hj => ?_
    have e : (⟨g, 0, none⟩ : Addr).add j = ⟨g, j, none⟩ := by unfold Addr.add; split <;> simp_all
    rw [e]
    rw [← cellsOf_take (by omega), List.getElem?_take] at hj
    split at hj
    · exact hcl j v hj
    · cases hj
  obtain ⟨G, hG⟩ : ∃ G, G = grownCap w (n + 1) cap 43 := ⟨_, rfl⟩
  obtain ⟨C, hC⟩ : ∃ C : List Value, C = cellsOf (l.take i) ++ (Builtin.zeroCells (Value.agg #[.int .i64 0, .int .i64 0, .int .i64 0, .int .i64 0, .int .i64 0, .string ByteArray.empty]).cells (n + 1 - i)).toList ++ (Builtin.zeroCells (Value.agg #[.int .i64 0, .int .i64 0, .int .i64 0, .int .i64 0, .int .i64 0, .string ByteArray.empty]).cells (G - (n + 1))).toList := ⟨_, rfl⟩
  have hGn : n + 1 ≤ G := by rw [hG]; exact grownCap_ge w _ _ _
  have hGm : G ≤ maxLen := by rw [hG]; exact grownCap_le_maxLen w (n + 1) cap _ (by unfold maxLen; omega)
  have hCl : C.length = G * 6 := by
    rw [hC, List.length_append, List.length_append, htl, Array.length_toList, Array.length_toList, size_zeroCells, size_zeroCells]
    show i * 6 + (n + 1 - i) * 6 + (G - (n + 1)) * 6 = G * 6
    omega
  have hCt : C.take (i * 6) = cellsOf (l.take i) := by rw [hC, List.append_assoc]; exact List.take_left' htl
  have hrz : ∀ ty, (Builtin.append_ #[22, 3] ty #[.slice (some ⟨g, 0, none⟩) i cap, .int .i64 ((n : Int) + 1 - (i : Int))]).run Try.prog w = .ok (.slice (some ⟨w.heap.size, 0, none⟩) (n + 1) G) (w.drew.alloc (.cells C.toArray 43)) := fun ty => by
    have h := Lib.run_append_grow_zeros w 22 3 ty 43 i0 _ .i64 .i64 Try.underlying22 Try.underlying3 hi0 hz0 (some ⟨g, 0, none⟩) i cap (cellsOf (l.take i)) hold (n + 1 - i) (by omega) (by omega) (by omega) (by omega) (by rw [hzb]; omega) (by rw [hzb, hik]; exact growslice_fits hroom (by omega))
    rw [hik, ← hG] at h
    rw [hkk, h, hC]
    exact congrArg (fun x => Result.ok _ (w.drew.alloc (.cells x 43))) (Array.toList_inj.1 (by simp))
  obtain ⟨W1, hW1⟩ : ∃ W1, W1 = w.drew.alloc (.cells C.toArray 43) := ⟨_, rfl⟩
  have hHg : W1.heap[w.heap.size]? = some (.cells C.toArray 43 (0, 0)) := by rw [hW1]; exact heap_alloc_new w.drew _
  have hGg : W1.heap[g]? = some (.cells cur.toArray 43 (0, 0)) := by rw [hW1, Below.heap_alloc w.drew _ _ hgw]; exact hg
  have hHh : W1.heap[h]? = some (.cells #[.int .i64 p, .int .i64 o, .int .i64 f, .int .i64 m, .int .i64 gg, .string s] 43 (0, 0)) := by rw [hW1, Below.heap_alloc w.drew _ _ hhw]; exact hh
  obtain ⟨c1, hc1⟩ : ∃ c1, c1 = spl C (i * 6) (El.cells ⟨p, o, f, m, gg, s⟩) := ⟨_, rfl⟩
  have hc1l : c1.length = C.length := by rw [hc1]; exact spl_len (by show _ + 6 ≤ _; omega)
  have hcpA : ∀ W : World, W.heap = W1.heap → ∀ ty dc, (Builtin.copy_ #[22, 22] ty #[.slice (some ⟨w.heap.size, i * 6, none⟩) (n + 1 - i) dc, .slice (some ⟨h, 0, none⟩) 1 1]).run Try.prog W = .ok (goInt (Nat.min 1 (n + 1 - i))) (W.setRow w.heap.size c1.toArray) := fun W hW ty dc => by
    rw [hc1]
    refine run_copy_el W ty w.heap.size (i * 6) (n + 1 - i) dc ⟨h, 0, none⟩ 1 1 C 43 _ (by rw [hW]; exact hHg) (by show 6 = _; simp only [Nat.min_def]; split <;> omega) (fun j v hj => ?_) (by show _ + 6 ≤ _; omega) (cells_one _)
    have e : (⟨h, 0, none⟩ : Addr).add j = ⟨h, j, none⟩ := by unfold Addr.add; split <;> simp_all
    rw [e, cell_of_row _ _ _ _ _ _ (by rw [hW]; exact hHh), ← hj]; simp [El.cells]
  have hcpB : ∀ W : World, W.heap = (W1.setRow w.heap.size c1.toArray).heap → ∀ ty dc sc, (Builtin.copy_ #[22, 22] ty #[.slice (some ⟨w.heap.size, (i + 1) * 6, none⟩) (n - i) dc, .slice (some ⟨g, i * 6, none⟩) (n - i) sc]).run Try.prog W = .ok (goInt (Nat.min (n - i) (n - i))) (W.setRow w.heap.size (spl c1 ((i + 1) * 6) (cellsOf (l.drop i))).toArray) := fun W hW ty dc sc => by
    refine run_copy_el W ty w.heap.size ((i + 1) * 6) (n - i) dc ⟨g, i * 6, none⟩ (n - i) sc c1 43 _ (by rw [hW]; exact setRow_heap _ _ _ _ _ _ hHg) (by rw [hdl]; congr 1; exact (Nat.min_self _).symm) (fun j v hj => ?_) (by rw [hdl]; omega) (cellsOf_one _)
    rw [Addr.add_lit, cell_of_row _ _ _ _ _ _ (show W.heap[g]? = _ by rw [hW, setRow_other _ _ _ _ (by omega)]; exact hGg)]
    rw [← cellsOf_drop (by omega), List.getElem?_drop, ← ht, List.getElem?_take] at hj
    split at hj
    · rw [← hj, List.getElem?_toArray]
    · cases hj
  have hfin : ∀ W : World, W.heap = (W1.setRow w.heap.size c1.toArray).heap → W.os = w.os → W.tape = w.tape → W.output = w.output → (W.setRow w.heap.size (spl c1 ((i + 1) * 6) (cellsOf (l.drop i))).toArray).heap[w.heap.size]? = some (.cells (spl c1 ((i + 1) * 6) (cellsOf (l.drop i))).toArray 43 (0, 0)) ∧ Calm w (W.setRow w.heap.size (spl c1 ((i + 1) * 6) (cellsOf (l.drop i))).toArray) := fun W hW h1 h2 h3 => by
    refine ⟨setRow_heap _ _ c1.toArray _ _ _ (by rw [hW]; exact setRow_heap _ _ _ _ _ _ hHg), h1, h2, h3, ?_, fun k hk => ?_⟩
    · rw [show (W.setRow w.heap.size _).heap.size = W.heap.size by simp, hW, hW1]; simp
    · rw [setRow_other _ _ _ _ (by omega), hW, setRow_other _ _ _ _ (by omega), hW1]
      exact Below.heap_alloc w.drew _ _ hk
  have hGi : ¬ (G = i) := by omega
  have hGim : ¬ (G = i + 1) := by omega
  have hci : ¬ (cap = i) := by omega
  have hG63 : G ≤ 9223372036854775807 := by unfold maxLen at hGm; omega
  have HEND : ∀ w', w'.heap[w.heap.size]? = some (.cells (spl c1 ((i + 1) * 6) (cellsOf (l.drop i))).toArray 43 (0, 0)) → Calm w w' → GrowEnd w l i ⟨p, o, f, m, gg, s⟩ (.returned (.slice (some ⟨w.heap.size, 0, none⟩) (n + 1) G)) w' := fun w' h1 h2 =>
    ⟨G, C, by rw [hn], by omega, hGm, hCl, hCt, by rw [hc1] at h1; exact h1, h2⟩
  have hz2 : ¬ ((i : Int) = (n : Int)) := by omega
  have hz3 : (cap : Int) < (n : Int) + 1 := by omega
  have hw1 : IntKind.i64.wrap ((i : Int) + 1) = (i : Int) + 1 := by rw [IntKind.wrap_i64]; omega
  have hb1 : (0 : Int) ≤ (i : Int) + 1 := by omega
  have hin : i ≤ n := by omega
  have htn : ((i : Int) + 1).toNat = i + 1 := by omega
  have hb3 : (i : Int) ≤ (n : Int) := by omega
  subst hW1
  clear hkk hik hold hG hC hGn hGm hCl hCt hc1 hc1l hcl hdl htl hn ht hg hh hHg hGg hHh hi0 hz0 hzs hzb hgw hhw
  go_enter Try.func94, Try.ntmps94
  go_wp2_with (first
    | (at_builtin; refine Lib.wpList_append_run _ rfl _ _ _ _ rfl _ _ rfl rfl _ _ (hrz _) ?_)
    | (refine wpList_copy_known rfl _ _ 22 rfl _ _ rfl rfl (v' := goInt (Nat.min 1 (n + 1 - i))) (w' := ((w.alloc (.cells C.toArray 43)).drew).setRow w.heap.size c1.toArray) (by exact hcpA ((w.alloc (.cells C.toArray 43)).drew) rfl _ _) ?_))
  go_region_law (refine step_copy_known rfl _ _ 22 rfl (.slice (some ⟨w.heap.size, (i + 1) * 6, none⟩) (n - i) (G - (i + 1))) (.slice (some ⟨g, i * 6, none⟩) (n - i) (cap - i)) (by simp [Act.eval, Act.put]) (by simp [Act.eval, Act.put]) (v' := goInt (Nat.min (n - i) (n - i))) (w' := ((((w.alloc (.cells C.toArray 43)).drew).setRow w.heap.size c1.toArray).drew).setRow w.heap.size (spl c1 ((i + 1) * 6) (cellsOf (l.drop i))).toArray) (by exact hcpB ((((w.alloc (.cells C.toArray 43)).drew).setRow w.heap.size c1.toArray).drew) rfl _ _ _) ?_)
  go_wp2_with fail
  go_ret
  exact HEND _ (hfin ((((w.alloc (.cells C.toArray 43)).drew).setRow w.heap.size c1.toArray).drew) rfl rfl rfl rfl).1 (hfin ((((w.alloc (.cells C.toArray 43)).drew).setRow w.heap.size c1.toArray).drew) rfl rfl rfl rfl).2
set_option maxHeartbeats 8000000 in
theorem insert_any (base h i : Nat) (v : Value) (l : List El) (p o f m gg : Int) (s : ByteArray) (w : World) (hi : i ≤ l.length) (hl : l.length ≤ 400) (ho : OwnR base w v l) (hb : base ≤ w.heap.size)
    (hh : w.heap[h]? = some (.cells #[.int .i64 p, .int .i64 o, .int .i64 f, .int .i64 m, .int .i64 gg, .string s] 43 (0, 0))) (hne : v.ownBlock ≠ some h) :
    Calls Try.prog 94 #[v, .int .i64 i, .slice (some ⟨h, 0, none⟩) 1 1] w (OwnEnd base (insAt l i ⟨p, o, f, m, gg, s⟩) w) := by
  have hend : i = l.length → insAt l i ⟨p, o, f, m, gg, s⟩ = l ++ [⟨p, o, f, m, gg, s⟩] := fun h => by unfold insAt; rw [h, List.take_length, List.drop_length]
  rcases id ho.2 with ⟨rfl, hl0⟩ | ⟨g, cap, cur, rfl, hbg, hg, hnc, hcm, hcs, ht⟩
  · have h0 : i = l.length := by omega
    rw [hend h0]
    have h1 : i = 0 := by omega
    subst h1
    have HO := Lib.hid ho
    clear ho hend hi h0
    go_enter Try.func94, Try.ntmps94
    go_wp2_with (at_builtin; refine wpList_append_el rfl _ _ rfl base _ l rfl HO.out h _ p o f m gg s _ rfl hh (by omega) hb ?_; intro v' w9 ho9 hc9)
    have HO9 := Lib.hid ho9
    have HC9 := Lib.hid hc9
    clear ho9 hc9
    go_wp2_with fail
    go_ret
    exact ⟨_, rfl, HO9.out, HC9.out⟩
  · have hcs' : cur.toList.length = cap * 6 := by simpa using hcs
    have hg' : w.heap[g]? = some (.cells cur.toList.toArray 43 (0, 0)) := by simpa using hg
    have hc63 : cap ≤ 9223372036854775807 := by unfold maxLen at hcm; exact hcm
    have hKe : ∀ w', w.grownBy w' (some g) → Keeps base w w' := fun w' hgr w0 h0 hc => Below.grown hc hgr hc.size fun k hk => by injection hk with hk; omega
    by_cases hin : i = l.length
    · rw [hend hin]
      have HO := Lib.hid ho
      obtain ⟨n, hn⟩ : ∃ n, n = l.length := ⟨_, rfl⟩
      have hin' : i = n := by omega
      rw [← hn] at HO ⊢
      have hn4 : n ≤ 400 := by omega
      have hll : l.length ≤ 1000000 := by omega
      have hnc' : n ≤ cap := by omega
      clear ho hend hi hin hn hl hcs' hg' hKe ht hcs hnc
      subst hin'
      by_cases hci : cap = i
      all_goals
        first | subst hci | skip
        go_enter Try.func94, Try.ntmps94
        go_wp2_with (at_builtin; refine wpList_append_el rfl _ _ rfl base _ l rfl HO.out h _ p o f m gg s _ rfl hh hll hb ?_; intro v' w9 ho9 hc9)
        have HO9 := Lib.hid ho9
        have HC9 := Lib.hid hc9
        clear ho9 hc9
        go_wp2_with fail
        go_ret
        exact ⟨_, rfl, HO9.out, HC9.out⟩
    · by_cases hroom : l.length + 1 ≤ cap
      · refine (insert_shift g h i l.length cap l cur.toList p o f m gg s w rfl (by omega) hl hroom hc63 hg' hcs' ht hh (fun e => hne (by simp [Value.ownBlock, e]))).mono fun e w' ⟨he, hr, hgr⟩ => ⟨_, he, ?_, hKe w' hgr⟩
        rw [row_shift _ (by omega) ht (by omega)] at hr
        have hil := insAt_len ⟨p, o, f, m, gg, s⟩ hi
        rw [← hil]
        have hlc : (cellsOf (insAt l i ⟨p, o, f, m, gg, s⟩)).length = (l.length + 1) * 6 := by rw [cellsOf_len, hil]
        exact OwnR.row hbg hr (by omega) hcm (by rw [List.length_append, hlc, List.length_drop]; omega) (List.take_left' (by rw [cellsOf_len]))
      · refine (insert_grow g h i l.length cap l cur.toList p o f m gg s w rfl (by omega) hl hnc (by omega) hg' ht hh).mono fun e w' ⟨G, C, he, h1, h2, h3, h4, hr, hc⟩ => ⟨_, he, ?_, fun w0 h0 hcc => hcc.call hc⟩
        rw [row_fresh _ (by omega) h4 (by omega)] at hr
        have hil := insAt_len ⟨p, o, f, m, gg, s⟩ hi
        rw [← hil]
        have hlc : (cellsOf (insAt l i ⟨p, o, f, m, gg, s⟩)).length = (l.length + 1) * 6 := by rw [cellsOf_len, hil]
        exact OwnR.row hb hr (by omega) h2 (by rw [List.length_append, hlc, List.length_drop]; omega) (List.take_left' (by rw [cellsOf_len]))
open Go.RowKit
set_option maxHeartbeats 4000000 in
theorem checkWrite_any (A : Option Addr) (c : Nat) (l : List El) (p o f m g : Int) (s : ByteArray) (w : World) (hn : l.length ≤ 9223372036854775807) (hL : Lies w A l) :
    Calls Try.prog 93 #[.slice A l.length c, .agg #[.int .i64 p, .int .i64 o, .int .i64 f, .int .i64 m, .int .i64 g, .string s]] w fun e w' => e = .returned (.int .i64 (wrErr l ⟨p, o, f, m, g, s⟩)) ∧ Calm w w' := by
  have hx := heap_new w (.cells #[.int .i64 p, .int .i64 o, .int .i64 f, .int .i64 m, .int .i64 g, .string s] 43)
  have hu := (Calm.refl w).alloc (.cells #[.int .i64 p, .int .i64 o, .int .i64 f, .int .i64 m, .int .i64 g, .string s] 43)
  have cL : ∀ u, Calm w u → Calls Try.prog 27 #[.slice A l.length c] u fun e w' => e = .returned (.tuple #[.int .i64 (if runErr l = 0 then latest l else 0), .int .i64 (runErr l)]) ∧ Calm u w' := fun u hu => runLast_any A c l u hn (hL.calm hu)
  by_cases he : runErr l = 0
  rotate_left
  · have e1 : wrErr l ⟨p, o, f, m, g, s⟩ = runErr l := by unfold wrErr; rw [if_neg he]
    rw [e1]
    rw [if_neg he] at cL
    have b1 : (runErr l != 0) = true := by simpa using he
    clear e1 he hL
    go_enter Try.func93, Try.ntmps93
    go_wp2_with (go_at_call 27; refine (cL _ hu).mono ?_; rintro e w1 ⟨rfl, hb1⟩; replace hu := hu.call hb1)
    go_ret
    exact ⟨rfl, hu⟩
  rw [if_pos he, he] at cL
  have cE := elemCheck_any p o f m g s
  by_cases h2 : elemErr p o f m g s.size = 0
  rotate_left
  · have e1 : wrErr l ⟨p, o, f, m, g, s⟩ = elemErr p o f m g s.size := by
      unfold wrErr; rw [if_pos he]
      exact if_neg h2
    rw [e1]
    have b1 : (elemErr p o f m g s.size != 0) = true := by simpa using h2
    clear e1 he h2 hL
    generalize latest l = t0 at cL
    go_enter Try.func93, Try.ntmps93
    go_wp2_with (first
      | (go_at_call 27; refine (cL _ hu).mono ?_; rintro e w1 ⟨rfl, hb1⟩; replace hu := hu.call hb1; replace hx := (hb1.block (row6 hx).2.2.2.2.2.2).trans hx; obtain ⟨x0, x1, x2, x3, x4, x5, hxs⟩ := row6 hx; clear hb1)
      | (go_at_call 56; refine (cE _).mono ?_; rintro e w1 ⟨rfl, hb1⟩; replace hu := hu.call hb1))
    go_ret
    exact ⟨rfl, hu⟩
  have e1 : wrErr l ⟨p, o, f, m, g, s⟩ = if m < latest l then 9 else 0 := by
    unfold wrErr; rw [if_pos he]
    exact if_pos h2
  rw [e1]
  rw [h2] at cE
  clear e1 he h2 hL
  generalize latest l = t0 at cL
  by_cases h3 : m < t0
  · rw [if_pos h3]
    go_enter Try.func93, Try.ntmps93
    go_wp2_with (first
      | (go_at_call 27; refine (cL _ hu).mono ?_; rintro e w1 ⟨rfl, hb1⟩; replace hu := hu.call hb1; replace hx := (hb1.block (row6 hx).2.2.2.2.2.2).trans hx; obtain ⟨x0, x1, x2, x3, x4, x5, hxs⟩ := row6 hx; clear hb1)
      | (go_at_call 56; refine (cE _).mono ?_; rintro e w1 ⟨rfl, hb1⟩; replace hu := hu.call hb1; replace hx := (hb1.block (row6 hx).2.2.2.2.2.2).trans hx; obtain ⟨x0, x1, x2, x3, x4, x5, hxs⟩ := row6 hx; clear hb1))
    go_ret
    exact ⟨rfl, hu⟩
  · rw [if_neg h3]
    go_enter Try.func93, Try.ntmps93
    go_wp2_with (first
      | (go_at_call 27; refine (cL _ hu).mono ?_; rintro e w1 ⟨rfl, hb1⟩; replace hu := hu.call hb1; replace hx := (hb1.block (row6 hx).2.2.2.2.2.2).trans hx; obtain ⟨x0, x1, x2, x3, x4, x5, hxs⟩ := row6 hx; clear hb1)
      | (go_at_call 56; refine (cE _).mono ?_; rintro e w1 ⟨rfl, hb1⟩; replace hu := hu.call hb1; replace hx := (hb1.block (row6 hx).2.2.2.2.2.2).trans hx; obtain ⟨x0, x1, x2, x3, x4, x5, hxs⟩ := row6 hx; clear hb1))
    go_ret
    exact ⟨rfl, hu⟩
open Go.RowKit
set_option maxHeartbeats 16000000 in
theorem runPut_any (A : Option Addr) (d : Nat) (l : List El) (p' o' f' : Int) (s' : ByteArray) (t : Int) (w : World) (hn : l.length ≤ 9223372036854775807) (hL : Lies w A l) :
    Calls Try.prog 73 #[.slice A l.length d, .agg #[.int .i64 p', .int .i64 o', .int .i64 f'], .string s', .int .i64 t] w (SlEnd (if putErr l (p', o', f') s' t = 0 then putR l (p', o', f') s' t else []) (putErr l (p', o', f') s' t) w) := by
  have hy : ((w.alloc (.cells #[.int .i64 p', .int .i64 o', .int .i64 f'] 31)).alloc (.cells #[.int .i64 p', .int .i64 o', .int .i64 f', .int .i64 t, .int .i64 0, .string s'] 43)).heap[w.heap.size]? = some (.cells #[.int .i64 p', .int .i64 o', .int .i64 f'] 31 (0, 0)) := heap_past _ (heap_new _ _)
  have hz : ((w.alloc (.cells #[.int .i64 p', .int .i64 o', .int .i64 f'] 31)).alloc (.cells #[.int .i64 p', .int .i64 o', .int .i64 f', .int .i64 t, .int .i64 0, .string s'] 43)).heap[w.heap.size + 1]? = some (.cells #[.int .i64 p', .int .i64 o', .int .i64 f', .int .i64 t, .int .i64 0, .string s'] 43 (0, 0)) := by simpa using heap_new (w.alloc (.cells #[.int .i64 p', .int .i64 o', .int .i64 f'] 31)) (.cells #[.int .i64 p', .int .i64 o', .int .i64 f', .int .i64 t, .int .i64 0, .string s'] 43)
  have hu := ((Calm.refl w).alloc (.cells #[.int .i64 p', .int .i64 o', .int .i64 f'] 31)).alloc (.cells #[.int .i64 p', .int .i64 o', .int .i64 f', .int .i64 t, .int .i64 0, .string s'] 43)
  have cW : ∀ u, Calm w u → Calls Try.prog 93 #[.slice A l.length d, .agg #[.int .i64 p', .int .i64 o', .int .i64 f', .int .i64 t, .int .i64 0, .string s']] u fun e w' => e = .returned (.int .i64 (wrErr l (fresh (p', o', f') s' t))) ∧ Calm u w' := fun u hu => checkWrite_any A d l p' o' f' t 0 s' u hn (hL.calm hu)
  by_cases he : wrErr l (fresh (p', o', f') s' t) = 0
  rotate_left
  · have e1 : putErr l (p', o', f') s' t = wrErr l (fresh (p', o', f') s' t) := by unfold putErr; rw [if_neg he]
    rw [e1, if_neg he]
    have b1 : (wrErr l (fresh (p', o', f') s' t) != 0) = true := by simpa using he
    generalize wrErr l (fresh (p', o', f') s' t) = x at b1 cW
    clear he e1 hL
    go_enter Try.func73, Try.ntmps73
    go_wp2_with (go_at_call 93; refine (cW _ hu).mono ?_; rintro e w1 ⟨rfl, hb1⟩; replace hy := (hb1.block (row3 hy).2.2.2).trans hy; replace hz := (hb1.block (row6 hz).2.2.2.2.2.2).trans hz; replace hu := hu.call hb1; clear hb1; obtain ⟨y0, y1, y2, hys⟩ := row3 hy; obtain ⟨z0, z1, z2, z3, z4, z5, hzs⟩ := row6 hz)
    go_ret2
    exact ⟨_, rfl, Sl.nil _ _ _, hu⟩
  rw [he] at cW
  have hgood := fun hp : putErr l (p', o', f') s' t = 0 => put_good he hp
  obtain ⟨hG, hx, hlt⟩ := wrErr_zero.1 he
  obtain ⟨q1, q2, q3⟩ := sizes he
  have hpe : putErr l (p', o', f') s' t = if l.any (isSame (p', o', f') t) then 0 else if 400 ≤ l.length then 8 else 0 := by unfold putErr; rw [if_pos he]
  have hlt' : latest l ≤ t := hlt
  have hn4 := hG.1
  have cV : ∀ u, Calm w u → Calls Try.prog 55 #[.slice A l.length d, .agg #[.int .i64 p', .int .i64 o', .int .i64 f'], .int .i64 t] u fun e w' => e = .returned (.tuple #[.int .i64 (if hitB l (pos l (p', o', f') t) (p', o', f') t then (pos l (p', o', f') t : Int) - 1 else 0), .bool (hitB l (pos l (p', o', f') t) (p', o', f') t)]) ∧ Calm u w' :=
    fun u hu => liveRun_any A d l p' o' f' t u hn4 (hL.calm hu) hG.2.2
  have cC : ∀ u, Calm w u → Calls Try.prog 49 #[.slice A l.length d] u fun e w' => ∃ v, e = .returned v ∧ OwnR u.heap.size w' v l ∧ Calm u w' := fun u hu => clone_any A d l u hn4 (hL.calm hu)
  rcases hit_open hG (p', o', f') hlt' with ⟨h1, h2, hi, h3, h4⟩ | ⟨h1, h2⟩
  · rw [h1, if_pos rfl, show (pos l (p', o', f') t : Int) - 1 = ((pos l (p', o', f') t - 1 : Nat) : Int) by omega] at cV
    have hpos : pos l (p', o', f') t = (pos l (p', o', f') t - 1) + 1 := by omega
    by_cases hm : l[pos l (p', o', f') t - 1].m = t
    · obtain ⟨e1, e2⟩ := put_same (s := s') hi h3 h4 hm
      have e3 : putErr l (p', o', f') s' t = 0 := by rw [hpe, e1]; rfl
      have hgd := hgood e3
      rw [e3, if_pos rfl]
      rw [e2] at hgd ⊢
      generalize pos l (p', o', f') t - 1 = j at hi hm hgd cV ⊢
      clear e1 e2 e3 h1 h2 h3 h4 hpe hgood hpos hlt' hlt hx he hG
      have hwf := hgd.wf
      obtain ⟨b, q, p, o, f, m, g, s, rfl, hb, HE, hm', c0, c1, c2, c3, c4, c5⟩ := hL.get hi
      have e4 : l[j] = ⟨p, o, f, m, g, s⟩ := (List.getElem?_eq_some_iff.1 HE.out).2
      rw [e4] at hm
      simp only at hm
      subst hm
      have hC3 : ∀ u, Calm w u → u.cell? ⟨b, q + j * 6 + 3, none⟩ = some (.int .i64 m) := fun u hu => (hu.facts.1 _ _ hb).trans c3
      have hjz : (j : Int) < (l.length : Int) := by omega
      have E4 := Lib.hid e4
      clear c0 c1 c2 c3 c4 c5 HE e4 hL
      go_enter Try.func73, Try.ntmps73
      go_wp2_with (first
        | (go_at_call 93; refine (cW _ hu).mono ?_; rintro e w1 ⟨rfl, hb1⟩; replace hy := (hb1.block (row3 hy).2.2.2).trans hy; replace hz := (hb1.block (row6 hz).2.2.2.2.2.2).trans hz; replace hu := hu.call hb1; clear hb1; obtain ⟨y0, y1, y2, hys⟩ := row3 hy; obtain ⟨z0, z1, z2, z3, z4, z5, hzs⟩ := row6 hz; clear cW)
        | (go_at_call 55; refine (cV _ hu).mono ?_; rintro e w1 ⟨rfl, hb1⟩; replace hy := (hb1.block (row3 hy).2.2.2).trans hy; replace hz := (hb1.block (row6 hz).2.2.2.2.2.2).trans hz; replace hu := hu.call hb1; clear hb1; obtain ⟨y0, y1, y2, hys⟩ := row3 hy; obtain ⟨z0, z1, z2, z3, z4, z5, hzs⟩ := row6 hz; have c3 := hC3 _ hu; clear cV hC3)
        | (go_at_call 49; refine (cC _ hu).mono ?_; rintro e w2 ⟨v, rfl, ho, hb1⟩; obtain ⟨g', cap, rfl⟩ := ho.some (by omega); have HO := Lib.hid ho; obtain ⟨⟨d0, d1, d2, d3, d4, d5⟩, hfz, hbg, hgl, _, hcn⟩ := ho.cell hi; have hfz5 := hfz (j * 6 + 5); have hu2 := hu.call hb1; have hbw := Nat.le_trans hu.size hbg; clear cC ho hfz))
      go_ret2
      exact ⟨_, rfl, (HO.out.set (x := { l[j] with s := s' }) hi (by omega) (by rw [E4.out]; rfl)).sl hwf, hu2.setCell hbw _⟩
    · obtain ⟨e1, e2, e3, e4⟩ := put_new (s := s') hG hi h3 h4 hm hlt' q2 q1
      have hpe2 : putErr l (p', o', f') s' t = if 400 ≤ l.length then 8 else 0 := by rw [hpe, e1]; rfl
      have hm2 : ¬ (l[pos l (p', o', f') t - 1].m = t) := hm
      obtain ⟨b, q, p, o, f, m, g, s, rfl, hb, HE, hm', c0, c1, c2, c3, c4, c5⟩ := hL.get hi
      have e5 : l[pos l (p', o', f') t - 1] = ⟨p, o, f, m, g, s⟩ := (List.getElem?_eq_some_iff.1 HE.out).2
      rw [e5] at hm2
      simp only at hm2
      have hC3 : ∀ u, Calm w u → u.cell? ⟨b, q + (pos l (p', o', f') t - 1) * 6 + 3, none⟩ = some (.int .i64 m) := fun u hu => (hu.facts.1 _ _ hb).trans c3
      have E5 := Lib.hid e5
      clear c0 c1 c2 c3 c4 c5 HE e5 hL
      by_cases hfull : 400 ≤ l.length
      · rw [if_pos hfull] at hpe2
        rw [hpe2, if_neg (by decide)]
        have hl4 : (l.length : Int) = 400 := by omega
        have hjz : ((pos l (p', o', f') t - 1 : Nat) : Int) < (l.length : Int) := by omega
        generalize pos l (p', o', f') t - 1 = j at *
        clear hgood hpe hpe2 e1 e2 e3 e4 h1 h2 h3 h4 hpos hlt hlt' hx he hG hm
        clear hfull hn4
        go_enter Try.func73, Try.ntmps73
        go_wp2_with (first
          | (go_at_call 93; refine (cW _ hu).mono ?_; rintro e w1 ⟨rfl, hb1⟩; replace hy := (hb1.block (row3 hy).2.2.2).trans hy; replace hz := (hb1.block (row6 hz).2.2.2.2.2.2).trans hz; replace hu := hu.call hb1; clear hb1; obtain ⟨y0, y1, y2, hys⟩ := row3 hy; obtain ⟨z0, z1, z2, z3, z4, z5, hzs⟩ := row6 hz; clear cW)
          | (go_at_call 55; refine (cV _ hu).mono ?_; rintro e w1 ⟨rfl, hb1⟩; replace hy := (hb1.block (row3 hy).2.2.2).trans hy; replace hz := (hb1.block (row6 hz).2.2.2.2.2.2).trans hz; replace hu := hu.call hb1; clear hb1; obtain ⟨y0, y1, y2, hys⟩ := row3 hy; obtain ⟨z0, z1, z2, z3, z4, z5, hzs⟩ := row6 hz; have c3 := hC3 _ hu; clear cV hC3))
        go_ret2
        exact ⟨_, rfl, Sl.nil _ _ _, hu⟩
      · rw [if_neg hfull] at hpe2
        have hgd := hgood hpe2
        rw [hpe2, if_pos rfl]
        rw [e4] at hgd ⊢
        have hl4 : ¬ ((l.length : Int) = 400) := by omega
        have hpl := pos_le l (p', o', f') t
        have HP := Lib.hid hpos
        clear hgood hpe hpe2 e1 e4 h1 h2 h3 h4 hpos hlt hlt' hx he hG hm
        generalize hpj : pos l (p', o', f') t - 1 = j at *
        have hjz : (j : Int) < (l.length : Int) := by omega
        have hq : (l.set j { l[j] with g := t }) = l.set j ⟨p, o, f, m, t, s⟩ := by rw [E5.out]
        rw [hq] at hgd e2 e3 ⊢
        clear hq hpj
        go_enter Try.func73, Try.ntmps73
        go_upto_region 15 with (first
          | (go_at_call 93; refine (cW _ hu).mono ?_; rintro e w1 ⟨rfl, hb1⟩; replace hy := (hb1.block (row3 hy).2.2.2).trans hy; replace hz := (hb1.block (row6 hz).2.2.2.2.2.2).trans hz; replace hu := hu.call hb1; clear hb1; obtain ⟨y0, y1, y2, hys⟩ := row3 hy; obtain ⟨z0, z1, z2, z3, z4, z5, hzs⟩ := row6 hz; clear cW)
          | (go_at_call 55; refine (cV _ hu).mono ?_; rintro e w1 ⟨rfl, hb1⟩; replace hy := (hb1.block (row3 hy).2.2.2).trans hy; replace hz := (hb1.block (row6 hz).2.2.2.2.2.2).trans hz; replace hu := hu.call hb1; clear hb1; obtain ⟨y0, y1, y2, hys⟩ := row3 hy; obtain ⟨z0, z1, z2, z3, z4, z5, hzs⟩ := row6 hz; have c3 := hC3 _ hu; clear cV hC3)
          | (go_at_call 49; refine (cC _ hu).mono ?_; rintro e w2 ⟨v, rfl, ho, hb1⟩; obtain ⟨g', cap, rfl⟩ := ho.some (by omega); have HO := Lib.hid ho; obtain ⟨⟨d0, d1, d2, d3, d4, d5⟩, hfz, hbg, hgl, _, hcn⟩ := ho.cell hi; have hfz4 := hfz (j * 6 + 4); have hz2 := (hb1.block (row6 hz).2.2.2.2.2.2).trans hz; have hu2 := hu.call hb1; have hbw := Nat.le_trans hu.size hbg; clear cC ho hfz))
        have HO2 := Lib.hid (HO.out.set (x := ⟨p, o, f, m, t, s⟩) hi (by omega : 4 < 6) (by rw [E5.out]; rfl : _ = l[j].cells.set 4 (.int .i64 t)))
        have hz3 := (Below.heap_setCell w2 ⟨g', j * 6 + 4, none⟩ (.int .i64 t) (w.heap.size + 1) (by show _ ≠ g'; omega)).trans hz2
        have hu3 := hu2.setCell (p := ⟨g', j * 6 + 4, none⟩) hbw (.int .i64 t)
        have hwl : w1.heap.size ≤ (w2.setCell ⟨g', j * 6 + 4, none⟩ (.int .i64 t)).heap.size := by simp; omega
        generalize w2.setCell ⟨g', j * 6 + 4, none⟩ (.int .i64 t) = w3 at HO2 hz3 hu3 hwl ⊢
        have hwf := e2.wf
        have hL1 := (HO2.out.reads hwf).2
        have cF : ∀ u, Calm w3 u → Calls Try.prog 77 #[.slice (some ⟨g', 0, none⟩) l.length cap, .agg #[.int .i64 p', .int .i64 o', .int .i64 f', .int .i64 t]] u fun e w' => e = .returned (.int .i64 (pos l (p', o', f') t)) ∧ Calm u w' := fun u hu => by
          have h := after_any (some ⟨g', 0, none⟩) cap (l.set j ⟨p, o, f, m, t, s⟩) p' o' f' t u (by rw [List.length_set]; exact hn4) (hL1.calm hu) e2.2.2
          rw [List.length_set, show pos (l.set j ⟨p, o, f, m, t, s⟩) (p', o', f') t = pos l (p', o', f') t from by rw [← E5.out] at *; exact e3] at h
          exact h
        have cI : ∀ u h, Calm w3 u → w3.drew.heap.size ≤ h → u.heap[h]? = some (.cells #[.int .i64 p', .int .i64 o', .int .i64 f', .int .i64 t, .int .i64 0, .string s'] 43 (0, 0)) → Calls Try.prog 94 #[.slice (some ⟨g', 0, none⟩) l.length cap, .int .i64 (pos l (p', o', f') t), .slice (some ⟨h, 0, none⟩) 1 1] u (OwnEnd w1.heap.size (insAt (l.set j ⟨p, o, f, m, t, s⟩) (pos l (p', o', f') t) (fresh (p', o', f') s' t)) u) := fun u h hv hgh0 hh =>
          have hgh : g' < h := Nat.lt_of_lt_of_le (HO2.out.lt g' rfl).2 hgh0
          insert_any w1.heap.size h (pos l (p', o', f') t) _ (l.set j ⟨p, o, f, m, t, s⟩) p' o' f' t 0 s' u (by rw [List.length_set]; exact hpl) (by rw [List.length_set]; exact hn4) (HO2.out.calm hv) (Nat.le_trans hwl hv.size) hh (fun e => Nat.ne_of_lt hgh (by simpa [Value.ownBlock] using e))
        have hwf2 := Lib.hid hgd.wf
        have hw1 := hu.size
        clear hgd e2 e3 HP hpl E5 HO HO2 hL1 hwf d0 d1 d2 d3 d4 d5 hfz4 hz2 hu2 hwl y0 y1 y2 hys z0 z1 z2 z3 z4 z5 hzs hy hz c3
        generalize pos l (p', o', f') t = P at *
        generalize insAt (l.set j ⟨p, o, f, m, t, s⟩) P (fresh (p', o', f') s' t) = R at *
        obtain ⟨z0, z1, z2, z3, z4, z5, hzs⟩ := row6 hz3
        have HW1 := Lib.hid hw1
        clear hw1 q1 q2 q3 hn hn4 hm2 hb hm' hfull hl4 hjz hi hb1 hbg hgl hcn hbw hz3
        refine wp_region_plan_tail 7 [.val (.slice (some ⟨g', 0, none⟩) l.length cap), .val (.slice (some ⟨g', 0, none⟩) l.length cap), .val (.agg #[.int .i64 p', .int .i64 o', .int .i64 f', .int .i64 t, .int .i64 0, .string s']), .val (.agg #[.int .i64 p', .int .i64 o', .int .i64 f', .int .i64 t]), .val (.int .i64 P), .val (.agg #[.int .i64 p', .int .i64 o', .int .i64 f', .int .i64 t, .int .i64 0, .string s']), .new #[.int .i64 p', .int .i64 o', .int .i64 f', .int .i64 t, .int .i64 0, .string s'] 43 (some 1)] (by kernel_rfl) (by kernel_rfl) (by kernel_rfl) (by kernel_rfl) ?_
        intro X
        simp only [List.take_succ_cons, List.take_zero, List.drop_succ_cons, List.drop_zero]
        iterate 6
          refine plan_val (by kernel_rfl) (fun u hu => ?_) ?_
          · obtain ⟨hc, hf, hz⟩ := hu.of_drew.facts
            go_simp
            all_goals first
              | (go_at_call 81; exact spot_any _ _ _ _ _ _ _)
              | (go_at_call 77; exact cF _ hu.of_drew)
          simp only [Act.put, List.setIfInBounds_toArray, List.set_cons_zero, List.set_cons_succ, Nat.reduceAdd]
        refine plan_lit (by kernel_rfl) (fun u => ?_) ?_
        · go_simp
        simp only [Act.put, List.setIfInBounds_toArray, List.set_cons_zero, List.set_cons_succ, Nat.reduceAdd]
        refine plan_end ?_
        intro w' hB
        have hr6 := hB.row 6 _ _ rfl
        have hk := hB.calm.of_drew
        clear hB
        have hI := cI w' (X 6) hk hr6.1 hr6.2
        clear hr6 cI cF
        go_wp2_with (go_at_call 94; refine hI.mono ?_; rintro e w9 ⟨v9, rfl, ho9, hk9⟩; have HO9 := Lib.hid ho9; have hu9 := hk9 w HW1.out (hu3.call hk); clear ho9 hk9)
        go_ret2
        exact ⟨_, rfl, HO9.out.sl hwf2.out, hu9⟩
  · rw [h1] at cV
    simp only [Bool.false_eq_true, if_false] at cV
    obtain ⟨e1, e2⟩ := put_none (s := s') (t := t) hG h2
    have hpe2 : putErr l (p', o', f') s' t = if 400 ≤ l.length then 8 else 0 := by rw [hpe, e1]; rfl
    by_cases hfull : 400 ≤ l.length
    · rw [if_pos hfull] at hpe2
      rw [hpe2, if_neg (by decide)]
      have hl4 : (l.length : Int) = 400 := by omega
      clear hgood hpe hpe2 e1 e2 h1 h2 hlt hlt' hx he hG hL hfull hn4
      go_enter Try.func73, Try.ntmps73
      go_wp2_with (first
        | (go_at_call 93; refine (cW _ hu).mono ?_; rintro e w1 ⟨rfl, hb1⟩; replace hy := (hb1.block (row3 hy).2.2.2).trans hy; replace hz := (hb1.block (row6 hz).2.2.2.2.2.2).trans hz; replace hu := hu.call hb1; clear hb1; obtain ⟨y0, y1, y2, hys⟩ := row3 hy; obtain ⟨z0, z1, z2, z3, z4, z5, hzs⟩ := row6 hz; clear cW)
        | (go_at_call 55; refine (cV _ hu).mono ?_; rintro e w1 ⟨rfl, hb1⟩; replace hy := (hb1.block (row3 hy).2.2.2).trans hy; replace hz := (hb1.block (row6 hz).2.2.2.2.2.2).trans hz; replace hu := hu.call hb1; clear hb1; obtain ⟨y0, y1, y2, hys⟩ := row3 hy; obtain ⟨z0, z1, z2, z3, z4, z5, hzs⟩ := row6 hz; clear cV))
      go_ret2
      exact ⟨_, rfl, Sl.nil _ _ _, hu⟩
    · rw [if_neg hfull] at hpe2
      have hgd := hgood hpe2
      rw [hpe2, if_pos rfl]
      rw [e2] at hgd ⊢
      have hl4 : ¬ ((l.length : Int) = 400) := by omega
      have hpl := pos_le l (p', o', f') t
      have HG := Lib.hid hG
      clear hgood hpe hpe2 e1 e2 h1 h2 hlt hlt' hx he hG hL
      go_enter Try.func73, Try.ntmps73
      go_upto_region 15 with (first
        | (go_at_call 93; refine (cW _ hu).mono ?_; rintro e w1 ⟨rfl, hb1⟩; replace hy := (hb1.block (row3 hy).2.2.2).trans hy; replace hz := (hb1.block (row6 hz).2.2.2.2.2.2).trans hz; replace hu := hu.call hb1; clear hb1; obtain ⟨y0, y1, y2, hys⟩ := row3 hy; obtain ⟨z0, z1, z2, z3, z4, z5, hzs⟩ := row6 hz; clear cW)
        | (go_at_call 55; refine (cV _ hu).mono ?_; rintro e w1 ⟨rfl, hb1⟩; replace hy := (hb1.block (row3 hy).2.2.2).trans hy; replace hz := (hb1.block (row6 hz).2.2.2.2.2.2).trans hz; replace hu := hu.call hb1; clear hb1; obtain ⟨y0, y1, y2, hys⟩ := row3 hy; obtain ⟨z0, z1, z2, z3, z4, z5, hzs⟩ := row6 hz; clear cV)
        | (go_at_call 49; refine (cC _ hu).mono ?_; rintro e w3 ⟨v, rfl, ho, hb1⟩; obtain ⟨A1, c1, rfl, _, _, hL1⟩ := ho.lies HG.out.wf; have HO2 := Lib.hid ho; have hz3 := (hb1.block (row6 hz).2.2.2.2.2.2).trans hz; have hu3 := hu.call hb1; have hwl := hb1.size; have hw1 := hu.size; clear cC ho))
      have cF : ∀ u, Calm w3 u → Calls Try.prog 77 #[.slice A1 l.length c1, .agg #[.int .i64 p', .int .i64 o', .int .i64 f', .int .i64 t]] u fun e w' => e = .returned (.int .i64 (pos l (p', o', f') t)) ∧ Calm u w' := fun u hu =>
        after_any A1 c1 l p' o' f' t u hn4 (hL1.calm hu) HG.out.2.2
      have cI : ∀ u h, Calm w3 u → w3.drew.heap.size ≤ h → u.heap[h]? = some (.cells #[.int .i64 p', .int .i64 o', .int .i64 f', .int .i64 t, .int .i64 0, .string s'] 43 (0, 0)) → Calls Try.prog 94 #[.slice A1 l.length c1, .int .i64 (pos l (p', o', f') t), .slice (some ⟨h, 0, none⟩) 1 1] u (OwnEnd w1.heap.size (insAt l (pos l (p', o', f') t) (fresh (p', o', f') s' t)) u) := fun u h hv hgh0 hh =>
        insert_any w1.heap.size h (pos l (p', o', f') t) _ l p' o' f' t 0 s' u hpl hn4 (HO2.out.calm hv) (Nat.le_trans hwl hv.size) hh (fun e => by have h9 := (HO2.out.lt h e).2; exact absurd hgh0 (Nat.not_le.2 h9))
      have hwf2 := Lib.hid hgd.wf
      clear hgd hpl HG HO2 hL1 hwl y0 y1 y2 hys z0 z1 z2 z3 z4 z5 hzs hy hz
      generalize pos l (p', o', f') t = P at *
      generalize insAt l P (fresh (p', o', f') s' t) = R at *
      obtain ⟨z0, z1, z2, z3, z4, z5, hzs⟩ := row6 hz3
      have HW1 := Lib.hid hw1
      clear hw1 q1 q2 q3 hn hn4 hfull hl4 hb1 hz3
      refine wp_region_plan_tail 7 [.val (.slice A1 l.length c1), .val (.slice A1 l.length c1), .val (.agg #[.int .i64 p', .int .i64 o', .int .i64 f', .int .i64 t, .int .i64 0, .string s']), .val (.agg #[.int .i64 p', .int .i64 o', .int .i64 f', .int .i64 t]), .val (.int .i64 P), .val (.agg #[.int .i64 p', .int .i64 o', .int .i64 f', .int .i64 t, .int .i64 0, .string s']), .new #[.int .i64 p', .int .i64 o', .int .i64 f', .int .i64 t, .int .i64 0, .string s'] 43 (some 1)] (by kernel_rfl) (by kernel_rfl) (by kernel_rfl) (by kernel_rfl) ?_
      intro X
      simp only [List.take_succ_cons, List.take_zero, List.drop_succ_cons, List.drop_zero]
      iterate 6
        refine plan_val (by kernel_rfl) (fun u hu => ?_) ?_
        · obtain ⟨hc, hf, hz⟩ := hu.of_drew.facts
          go_simp
          all_goals first
            | (go_at_call 81; exact spot_any _ _ _ _ _ _ _)
            | (go_at_call 77; exact cF _ hu.of_drew)
        simp only [Act.put, List.setIfInBounds_toArray, List.set_cons_zero, List.set_cons_succ, Nat.reduceAdd]
      refine plan_lit (by kernel_rfl) (fun u => ?_) ?_
      · go_simp
      simp only [Act.put, List.setIfInBounds_toArray, List.set_cons_zero, List.set_cons_succ, Nat.reduceAdd]
      refine plan_end ?_
      intro w' hB
      have hr6 := hB.row 6 _ _ rfl
      have hk := hB.calm.of_drew
      clear hB
      have hI := cI w' (X 6) hk hr6.1 hr6.2
      clear hr6 cI cF
      go_wp2_with (go_at_call 94; refine hI.mono ?_; rintro e w9 ⟨v9, rfl, ho9, hk9⟩; have HO9 := Lib.hid ho9; have hu9 := hk9 w HW1.out (hu3.call hk); clear ho9 hk9)
      go_ret2
      exact ⟨_, rfl, HO9.out.sl hwf2.out, hu9⟩
open Go.RowKit
theorem delAt_len {l : List El} {i : Nat} (hi : i < l.length) : (delAt l i).length = l.length - 1 := by
 unfold delAt; rw [List.length_append, List.length_take, List.length_drop]; omega
theorem row_del {cur : List Value} {l : List El} {i : Nat} (z : List Value) (hi : i < l.length) (hc : cur.take (l.length * 6) = cellsOf l) (hs : l.length * 6 ≤ cur.length) :
    (spl (spl cur (i * 6) (cellsOf (l.drop (i + 1)))) ((l.length - 1) * 6) z).take ((l.length - 1) * 6) = cellsOf (delAt l i) := by
  have hl1 : (cellsOf (l.take i)).length = i * 6 := by rw [cellsOf_len, List.length_take]; congr 1; omega
  have hl2 : (cellsOf (l.drop (i + 1))).length = (l.length - (i + 1)) * 6 := by rw [cellsOf_len, List.length_drop]
  have h1 : cur.take (i * 6) = cellsOf (l.take i) := by
    rw [← cellsOf_take (by omega), ← hc, List.take_take]; congr 1; omega
  have h2 : (spl cur (i * 6) (cellsOf (l.drop (i + 1)))).take ((l.length - 1) * 6) = cellsOf (l.take i) ++ cellsOf (l.drop (i + 1)) := by
    unfold spl
    rw [h1]
    exact List.take_left' (by rw [List.length_append, hl1, hl2]; omega)
  have h3 : (l.length - 1) * 6 ≤ (spl cur (i * 6) (cellsOf (l.drop (i + 1)))).length := by rw [spl_len (by rw [hl2]; omega)]; omega
  generalize spl cur (i * 6) (cellsOf (l.drop (i + 1))) = c1 at h2 h3 ⊢
  have h4 : (spl c1 ((l.length - 1) * 6) z).take ((l.length - 1) * 6) = c1.take ((l.length - 1) * 6) := by
    unfold spl
    rw [List.append_assoc]
    exact List.take_left' (by rw [List.length_take]; omega)
  rw [h4, h2]
  unfold delAt
  rw [cellsOf_app]
/-- append(s[:i], s[j:]...) in a row with room for it, as a step of a region that draws. -/
theorem step_append_row {ops : Array Oper} {o : Oper} {a : Act} {w : World} {K : Act → World → Prop} {Q : Exit → Act → World → Prop} {E : Prop} (hgd : o.guard = none) (s x : Operand)
    (hop : o.op = Op.call { callee := Callee.builtin Builtin.append, args := #[s, x], argTypes := #[22, 22] })
    (g n cap : Nat) (hs : a.eval s = .slice (some ⟨g, 0, none⟩) n cap) (ad : Addr) (m c : Nat) (hx : a.eval x = .slice (some ad) m c) (cur : List Value) (hg : w.heap[g]? = some (.cells cur.toArray 43 (0, 0)))
    (news : List Value) (hl : news.length = m * 6) (hnews : ∀ j u, news[j]? = some u → w.cell? (ad.add j) = some u) (h1 : ∀ u ∈ news, u.oneCell' = true) (hroom : n + m ≤ cap) (hfit : n * 6 + news.length ≤ cur.length)
    (hK : K (a.put o.dst (.slice (some ⟨g, 0, none⟩) (n + m) cap)) (w.setRow g (spl cur (n * 6) news).toArray)) : if Region.wanted o (yielded ops a.tmps) = true then Oper.wp Try.prog o a w K Q else E := by
  have hw : Region.wanted o (yielded ops a.tmps) = true := by simp [Region.wanted, hgd]
  rw [if_pos hw]
  obtain ⟨i0, hi, hz0, hz1, hz2⟩ := info_parts infoElem
  have hr := run_append_room (P := Try.prog) w 22 o.type 43 i0 Try.underlying22 hi g n cap cur.toArray hg ad m c news (by rw [hz1]; exact hl) hnews h1 hroom (by rw [hz1]; simpa using hfit)
  rw [hz1] at hr
  unfold Oper.wp
  simp only [execOp, hop, resolve, invoke, builtin, Sem.run_bind, Sem.run_pure, Result.andThen_ok, List.map_toArray, List.map_cons, List.map_nil, hs, hx, hr]
  exact hK
def zeroVals : List Value := [.int .i64 0, .int .i64 0, .int .i64 0, .int .i64 0, .int .i64 0, .string ByteArray.empty]
theorem run_clear_el (w : World) (ty : TypeId) (g o c : Nat) (cur : List Value) (hg : w.heap[g]? = some (.cells cur.toArray 43 (0, 0))) (hfit : o + 6 ≤ cur.length) :
    (Builtin.clear_ #[22] ty #[.slice (some ⟨g, o, none⟩) 1 c]).run Try.prog w = .ok (.tuple #[]) (w.setRow g (spl cur o zeroVals).toArray) := by
  have hzc : (Builtin.zeroCells (Value.agg #[.int .i64 0, .int .i64 0, .int .i64 0, .int .i64 0, .int .i64 0, .string ByteArray.empty]).cells 1).toList = zeroVals := by kernel_rfl
  have hzd : (Builtin.zeroCells (Value.agg #[.int .i64 0, .int .i64 0, .int .i64 0, .int .i64 0, .int .i64 0, .string { data := #[] }]).cells 1).toList = zeroVals := hzc
  have hst := run_storeCells_at Try.prog g o 43 zeroVals 0 cur.toArray w hg (by simp [zeroVals]; omega) (by intro u hu; simp only [zeroVals, List.mem_cons, List.not_mem_nil, or_false] at hu; rcases hu with rfl | rfl | rfl | rfl | rfl | rfl <;> rfl)
  simp [Builtin.clear_, run_underlying Try.underlying22, hzd, hst, spl]
set_option maxHeartbeats 8000000 in
theorem delete_any (base g i n cap : Nat) (l : List El) (w : World) (hn : n = l.length) (hi : i < n) (hn4 : n ≤ 400) (ho : OwnR base w (.slice (some ⟨g, 0, none⟩) n cap) l) :
    Calls Try.prog 95 #[.slice (some ⟨g, 0, none⟩) n cap, .int .i64 i, .int .i64 ((i : Int) + 1)] w (OwnEnd base (delAt l i) w) := by
  rcases id ho.2 with ⟨h, _⟩ | ⟨g', cap', cur0, hv, hbg, hg0, hnc, hcm, hcs, ht⟩
  · cases h
  injection hv with h1 h2 h3
  injection h1 with h1
  injection h1 with h1
  subst h1; subst h3
  clear ho h2
  obtain ⟨cur, rfl⟩ : ∃ cur : List Value, cur.toArray = cur0 := ⟨cur0.toList, by simp⟩
  simp only [List.size_toArray] at hcs ht
  rw [← hn] at hnc ht
  have hc63 : cap ≤ 9223372036854775807 := by unfold maxLen at hcm; exact hcm
  have hdl : (cellsOf (l.drop (i + 1))).length = (n - (i + 1)) * 6 := by rw [cellsOf_len, List.length_drop, hn]
  have hfit1 : i * 6 + (cellsOf (l.drop (i + 1))).length ≤ cur.length := by omega
  obtain ⟨A, hA, hsrc⟩ : ∃ A : Addr, (if cap = i + 1 then some (⟨g, 0, none⟩ : Addr) else some ⟨g, (i + 1) * 6, none⟩) = some A ∧ Hid (∀ j u, (cellsOf (l.drop (i + 1)))[j]? = some u → w.drew.cell? (A.add j) = some u) := by
    by_cases h : cap = i + 1
    · refine ⟨⟨g, 0, none⟩, by simp [h], show ∀ _, _ from fun j u hu => ?_⟩
      have h0 : (cellsOf (l.drop (i + 1))).length = 0 := by rw [hdl]; omega
      rw [List.eq_nil_of_length_eq_zero h0] at hu; simp at hu
    · refine ⟨⟨g, (i + 1) * 6, none⟩, by simp [h], show ∀ _, _ from fun j u hu => ?_⟩
      have hj : j < (n - (i + 1)) * 6 := by rw [← hdl]; exact (List.getElem?_eq_some_iff.1 hu).1
      rw [← cellsOf_drop (by omega), List.getElem?_drop, ← ht, List.getElem?_take, if_pos (by omega)] at hu
      rw [Addr.add_lit]
      show w.cell? _ = _
      rw [cell_of_row _ _ _ _ _ _ hg0, ← hu, List.getElem?_toArray]
  obtain ⟨c1, hc1⟩ : ∃ c1, c1 = spl cur (i * 6) (cellsOf (l.drop (i + 1))) := ⟨_, rfl⟩
  have hc1l : c1.length = cur.length := by rw [hc1]; exact spl_len hfit1
  obtain ⟨W1, hW1⟩ : ∃ W1, W1 = w.drew.setRow g c1.toArray := ⟨_, rfl⟩
  have hWg : W1.heap[g]? = some (.cells c1.toArray 43 (0, 0)) := by rw [hW1]; exact setRow_heap _ _ _ _ _ _ hg0
  have hcl : ∀ ty c, (Builtin.clear_ #[22] ty #[.slice (some ⟨g, (n - 1) * 6, none⟩) (n - (n - 1)) c]).run Try.prog W1 = .ok (.tuple #[]) (W1.setRow g (spl c1 ((n - 1) * 6) zeroVals).toArray) := fun ty c => by
    rw [show n - (n - 1) = 1 by omega]; exact run_clear_el W1 ty g _ c c1 hWg (by omega)
  have hdn := delAt_len (l := l) (i := i) (by omega)
  have HEND : Hid (OwnEnd base (delAt l i) w (.returned (.slice (some ⟨g, 0, none⟩) (n - 1) cap)) (W1.setRow g (spl c1 ((n - 1) * 6) zeroVals).toArray)) := by
    refine ⟨_, rfl, ?_, fun w0 h0 hc => ?_⟩
    · have hfin : (W1.setRow g (spl c1 ((n - 1) * 6) zeroVals).toArray).heap[g]? = some (.cells (spl c1 ((n - 1) * 6) zeroVals).toArray 43 (0, 0)) := setRow_heap _ _ _ _ _ _ hWg
      rw [hn, ← hdn] at hfin ⊢
      refine OwnR.row hbg hfin (by omega) hcm (by rw [spl_len (by show _ + 6 ≤ _; omega)]; omega) ?_
      rw [hdn, hc1]
      exact row_del _ (by omega) (by rw [← hn]; exact ht) (by omega)
    · rw [hW1]
      exact ((hc.drew.setRow (by omega) _).setRow (by omega) _)
  have hW := Lib.hid hW1
  have HC := Lib.hid hc1
  have s1 := Lib.hid hdl
  have s2 : Hid (∀ u ∈ cellsOf (l.drop (i + 1)), u.oneCell' = true) := cellsOf_one _
  have s3 : Hid (w.drew.heap[g]? = some (.cells cur.toArray 43 (0, 0))) := hg0
  have s4 := Lib.hid hfit1
  have hic : i ≤ cap := by omega
  have hjc : i + 1 ≤ cap := by omega
  have hb5 : (i : Int) < (n : Int) := by omega
  have hb6 : (i : Int) + 1 ≤ (n : Int) := by omega
  have hb7 : ¬ ((i : Int) = (i : Int) + 1) := by omega
  have htn : ((i : Int) + 1).toNat = i + 1 := by omega
  have hb8 : (0 : Int) ≤ (i : Int) + 1 := by omega
  have hb9 : i + (n - (i + 1)) = n - 1 := by omega
  clear hW1 hWg hc1 hdl hfit1 hg0 hcs ht hdn hc1l hn
  go_enter Try.func95, Try.ntmps95
  go_wp2_with fail
  go_region_law (refine step_append_row rfl (.tmp 22) (.tmp 25) rfl g i cap (by simp [Act.eval, Act.put]) A (n - (i + 1)) (cap - (i + 1)) (by simp [Act.eval, Act.put]) cur s3.out (cellsOf (l.drop (i + 1))) s1.out hsrc.out s2.out (by omega) s4.out ?_; rw [← HC.out, ← hW.out])
  go_wp2_with fail
  go_ret
  exact HEND.out
open Go.RowKit
theorem cutErr_eq {l : List El} {k : Int × Int × Int} {t : Int} (h : wrErr l (fresh k { data := #[] } t) = 0) : cutErr l k t = if l.any (isOpen k) then 0 else 4 := by
 unfold cutErr; rw [if_pos h]
set_option maxHeartbeats 16000000 in
theorem runCut_any (A : Option Addr) (d : Nat) (l : List El) (p' o' f' : Int) (t : Int) (w : World) (hn : l.length ≤ 9223372036854775807) (hL : Lies w A l) :
    Calls Try.prog 74 #[.slice A l.length d, .agg #[.int .i64 p', .int .i64 o', .int .i64 f'], .int .i64 t] w (SlEnd (if cutErr l (p', o', f') t = 0 then cutR l (p', o', f') t else []) (cutErr l (p', o', f') t) w) := by
  have hy := heap_new w (.cells #[.int .i64 p', .int .i64 o', .int .i64 f'] 31)
  have hu := (Calm.refl w).alloc (.cells #[.int .i64 p', .int .i64 o', .int .i64 f'] 31)
  have cW : ∀ u, Calm w u → Calls Try.prog 93 #[.slice A l.length d, .agg #[.int .i64 p', .int .i64 o', .int .i64 f', .int .i64 t, .int .i64 0, .string { data := #[] }]] u fun e w' => e = .returned (.int .i64 (wrErr l (fresh (p', o', f') { data := #[] } t))) ∧ Calm u w' := fun u hu => checkWrite_any A d l p' o' f' t 0 { data := #[] } u hn (hL.calm hu)
  by_cases he : wrErr l (fresh (p', o', f') { data := #[] } t) = 0
  rotate_left
  · have e1 : cutErr l (p', o', f') t = wrErr l (fresh (p', o', f') { data := #[] } t) := by unfold cutErr; rw [if_neg he]
    rw [e1, if_neg he]
    have b1 : (wrErr l (fresh (p', o', f') { data := #[] } t) != 0) = true := by simpa using he
    generalize wrErr l (fresh (p', o', f') { data := #[] } t) = x at b1 cW
    clear he e1 hL
    go_enter Try.func74, Try.ntmps74
    go_wp2_with (go_at_call 93; refine (cW _ hu).mono ?_; rintro e w1 ⟨rfl, hb1⟩; replace hy := (hb1.block (row3 hy).2.2.2).trans hy; replace hu := hu.call hb1; clear hb1; obtain ⟨y0, y1, y2, hys⟩ := row3 hy)
    go_ret2
    exact ⟨_, rfl, Sl.nil _ _ _, hu⟩
  rw [he] at cW
  have hgood := cut_good he
  obtain ⟨hG, hx, hlt⟩ := wrErr_zero.1 he
  have hlt' : latest l ≤ t := hlt
  have hpe := cutErr_eq he
  have hn4 := hG.1
  have cV : ∀ u, Calm w u → Calls Try.prog 55 #[.slice A l.length d, .agg #[.int .i64 p', .int .i64 o', .int .i64 f'], .int .i64 t] u fun e w' => e = .returned (.tuple #[.int .i64 (if hitB l (pos l (p', o', f') t) (p', o', f') t then (pos l (p', o', f') t : Int) - 1 else 0), .bool (hitB l (pos l (p', o', f') t) (p', o', f') t)]) ∧ Calm u w' :=
    fun u hu => liveRun_any A d l p' o' f' t u hn4 (hL.calm hu) hG.2.2
  have cC : ∀ u, Calm w u → Calls Try.prog 49 #[.slice A l.length d] u fun e w' => ∃ v, e = .returned v ∧ OwnR u.heap.size w' v l ∧ Calm u w' := fun u hu => clone_any A d l u hn4 (hL.calm hu)
  rcases hit_open hG (p', o', f') hlt' with ⟨h1, h2, hi, h3, h4⟩ | ⟨h1, h2⟩
  rotate_left
  · rw [h1] at cV
    simp only [Bool.false_eq_true, if_false] at cV
    have e1 : cutErr l (p', o', f') t = 4 := by rw [hpe, open_no h2]; rfl
    rw [e1, if_neg (by decide)]
    clear hgood hpe e1 h1 h2 hlt hlt' hx he hG hL
    go_enter Try.func74, Try.ntmps74
    go_wp2_with (first
      | (go_at_call 93; refine (cW _ hu).mono ?_; rintro e w1 ⟨rfl, hb1⟩; replace hy := (hb1.block (row3 hy).2.2.2).trans hy; replace hu := hu.call hb1; clear hb1; obtain ⟨y0, y1, y2, hys⟩ := row3 hy; clear cW)
      | (go_at_call 55; refine (cV _ hu).mono ?_; rintro e w1 ⟨rfl, hb1⟩; replace hy := (hb1.block (row3 hy).2.2.2).trans hy; replace hu := hu.call hb1; clear hb1; obtain ⟨y0, y1, y2, hys⟩ := row3 hy; clear cV))
    go_ret2
    exact ⟨_, rfl, Sl.nil _ _ _, hu⟩
  rw [h1, if_pos rfl, show (pos l (p', o', f') t : Int) - 1 = ((pos l (p', o', f') t - 1 : Nat) : Int) by omega] at cV
  have e1 : cutErr l (p', o', f') t = 0 := by rw [hpe, open_any hi h3]; rfl
  have e2 := cut_at (t := t) hi h3 h4
  rw [e1, if_pos rfl]
  rw [e2] at hgood ⊢
  generalize pos l (p', o', f') t - 1 = j at hi e2 hgood cV ⊢
  clear e1 e2 h1 h2 h3 h4 hpe hlt' hlt hx he hG
  obtain ⟨p, o, f, m, g, s, e4⟩ : ∃ p o f m g s, l[j] = ⟨p, o, f, m, g, s⟩ := ⟨_, _, _, _, _, _, rfl⟩
  have hjz : (j : Int) < (l.length : Int) := by omega
  have hj1 : (j : Int) + 1 ≤ 401 := by omega
  by_cases hm : m = t
  · rw [if_pos (by rw [e4]; exact hm)] at hgood ⊢
    have hwf := Lib.hid hgood.wf
    have E4 := Lib.hid e4
    clear hgood hL e4
    subst hm
    go_enter Try.func74, Try.ntmps74
    go_wp2_with (first
      | (go_at_call 93; refine (cW _ hu).mono ?_; rintro e w1 ⟨rfl, hb1⟩; replace hy := (hb1.block (row3 hy).2.2.2).trans hy; replace hu := hu.call hb1; clear hb1; obtain ⟨y0, y1, y2, hys⟩ := row3 hy; clear cW)
      | (go_at_call 55; refine (cV _ hu).mono ?_; rintro e w1 ⟨rfl, hb1⟩; replace hy := (hb1.block (row3 hy).2.2.2).trans hy; replace hu := hu.call hb1; clear hb1; obtain ⟨y0, y1, y2, hys⟩ := row3 hy; clear cV)
      | (go_at_call 49; refine (cC _ hu).mono ?_; rintro e w2 ⟨v, rfl, ho, hb1⟩; obtain ⟨g', cap, rfl⟩ := ho.some (by omega); have HO := Lib.hid ho; obtain ⟨⟨d0, d1, d2, d3, d4, d5⟩, hfz, hbg, hgl, _, hcn⟩ := ho.cell hi; rw [E4.out] at d3; have hu2 := hu.call hb1; have hw1 := Lib.hid hu.size; clear cC ho hfz d0 d1 d2 d4 d5 hb1)
      | (go_at_call 95; refine (delete_any _ g' j l.length cap l _ rfl hi hn4 HO.out).mono ?_; rintro e w3 ⟨v, rfl, ho9, hk9⟩; have HO9 := Lib.hid ho9; have hu9 := hk9 w hw1.out hu2; clear ho9 hk9))
    go_ret2
    exact ⟨_, rfl, HO9.out.sl hwf.out, hu9⟩
  · rw [if_neg (by rw [e4]; exact hm)] at hgood ⊢
    have hwf := Lib.hid hgood.wf
    have E4 := Lib.hid e4
    clear hgood hL e4
    go_enter Try.func74, Try.ntmps74
    go_wp2_with (first
      | (go_at_call 93; refine (cW _ hu).mono ?_; rintro e w1 ⟨rfl, hb1⟩; replace hy := (hb1.block (row3 hy).2.2.2).trans hy; replace hu := hu.call hb1; clear hb1; obtain ⟨y0, y1, y2, hys⟩ := row3 hy; clear cW)
      | (go_at_call 55; refine (cV _ hu).mono ?_; rintro e w1 ⟨rfl, hb1⟩; replace hy := (hb1.block (row3 hy).2.2.2).trans hy; replace hu := hu.call hb1; clear hb1; obtain ⟨y0, y1, y2, hys⟩ := row3 hy; clear cV)
      | (go_at_call 49; refine (cC _ hu).mono ?_; rintro e w2 ⟨v, rfl, ho, hb1⟩; obtain ⟨g', cap, rfl⟩ := ho.some (by omega); have HO := Lib.hid ho; obtain ⟨⟨d0, d1, d2, d3, d4, d5⟩, hfz, hbg, hgl, _, hcn⟩ := ho.cell hi; rw [E4.out] at d3; have hfz4 := hfz (j * 6 + 4); have hu2 := hu.call hb1; have hbw := Nat.le_trans hu.size hbg; clear cC ho hfz d0 d1 d2 d5 hb1))
    go_ret2
    exact ⟨_, rfl, (HO.out.set (x := { l[j] with g := t }) hi (by omega) (by rw [E4.out]; rfl)).sl hwf.out, hu2.setCell hbw _⟩
open Go.ChangeShapes Go.WideShapes Go.ChangeAt Go.RowKit
theorem row2s {w : World} {g t : Nat} {a b : Value} {fr : Nat × Nat} (h : w.heap[g]? = some (.cells #[a, b] t fr)) : w.cell? ⟨g, 0, none⟩ = some a ∧ w.cell? ⟨g, 1, none⟩ = some b ∧ g < w.heap.size :=
 ⟨cell_of_row _ _ 0 _ _ _ h, cell_of_row _ _ 1 _ _ _ h, (Array.getElem?_eq_some_iff.1 h).1⟩
theorem results_st {fn : Func} {p : Tmp} (h : fn.results = #[.cell p 73]) (tmps : Array Value) (w : World) (g : Nat) (t : TypeId) (cs : Array Value) (fr : Nat × Nat)
    (hp : tmps.getD p undef = .pointer (some ⟨g, 0, none⟩)) (hg : w.heap[g]? = some (.cells cs t fr)) (hsz : cs.size = 2) :
    (results fn tmps).run Try.prog w = .ok (.agg cs) w := by
  have hp' : tmps[p]?.getD undef = .pointer (some ⟨g, 0, none⟩) := by simpa using hp
  have hi : (Try.prog.info? 73).map (·.size) = some cs.size := by rw [hsz]; kernel_rfl
  simp [results, h, hp', asAddr, run_loadVar_row w g t 73 cs fr _ hg Try.underlying73 rfl hi]
theorem end_st {P : Program} {fn : Func} {p : Tmp} {Q : Ending → World → Prop} (hP : P = Try.prog) (h : fn.results = #[.cell p 73]) (a : Act) (w : World) (g : Nat) (t : TypeId) (cs : Array Value) (fr : Nat × Nat) (hd : a.defers = [])
    (hp : a.tmps.getD p undef = .pointer (some ⟨g, 0, none⟩)) (hg : w.heap[g]? = some (.cells cs t fr)) (hsz : cs.size = 2) (hQ : Q (.returned (.agg cs)) w) : bodyPost P fn Q .ret a w := by
  subst hP
  exact bodyPost_ret (v := .agg cs) (results_st h a.tmps w g t cs fr hp hg hsz) hd hQ
theorem set2 {w : World} {g t : Nat} {a0 a1 : Value} (h : w.heap[g]? = some (.cells #[a0, a1] t (0, 0))) (b0 b1 : Value) : ((w.setCell ⟨g, 0, none⟩ b0).setCell ⟨g, 1, none⟩ b1).heap[g]? = some (.cells #[b0, b1] t (0, 0)) :=
 heap_setCell_same _ g 1 _ t b1 (heap_setCell_same w g 0 _ t b0 h)
theorem at_st {l : List El} (hG : Good l) {k : Int × Int × Int} (hk : kErr k = 0) (t : Int) : (atErr l k t = 0 ∧ stA l k t = ⟨true, (atVal l k t).s⟩) ∨ (atErr l k t = 4 ∧ stA l k t = noS ∧ atVal l k t = zeroEl) := by
 rw [atErr_good hG, atVal_good hG, if_pos hk, if_pos hk]
 unfold stA sV
 cases ha : atR l k t with
 |none => exact .inr ⟨rfl, rfl, rfl⟩
 |some e => exact .inl ⟨rfl, rfl⟩
set_option maxHeartbeats 4000000 in
theorem chCurrent_any (A : Option Addr) (d : Nat) (l : List El) (p o f : Int) (w : World) (hn : l.length ≤ 9223372036854775807) (hL : Lies w A l) (hG : Good l) (hk : kErr (p, o, f) = 0) :
    Calls Try.prog 47 #[.slice A l.length d, .agg #[.int .i64 p, .int .i64 o, .int .i64 f]] w fun e w' => e = .returned (.agg #[.bool (stA l (p, o, f) 2147483647).th, .string (stA l (p, o, f) 2147483647).v]) ∧ Calm w w' := by
  have cA := fun u (hu : Calm w u) => runAt_any A d l p o f 2147483647 u hn (hL.calm hu)
  unfold AtEnd El.val at cA
  have hu := ((Calm.refl w).alloc (.cells #[.int .i64 p, .int .i64 o, .int .i64 f] 31 (0, 0))).alloc (.cells #[.bool false, .string { data := #[] }] 73 (0, 0))
  have hz : ((w.alloc (.cells #[.int .i64 p, .int .i64 o, .int .i64 f] 31 (0, 0))).alloc (.cells #[.bool false, .string { data := #[] }] 73 (0, 0))).heap[w.heap.size + 1]? = some (.cells #[.bool false, .string { data := #[] }] 73 (0, 0)) := by simpa using heap_new (w.alloc (.cells #[.int .i64 p, .int .i64 o, .int .i64 f] 31 (0, 0))) (.cells #[.bool false, .string { data := #[] }] 73 (0, 0))
  have hzs : w.heap.size + 1 < ((w.alloc (.cells #[.int .i64 p, .int .i64 o, .int .i64 f] 31 (0, 0))).alloc (.cells #[.bool false, .string { data := #[] }] 73 (0, 0))).heap.size := by simp
  rcases at_st hG hk 2147483647 with ⟨e1, e2⟩ | ⟨e1, e2, e3⟩
  · rw [e2]
    rw [e1] at cA
    generalize atVal l (p, o, f) 2147483647 = V at *
    obtain ⟨vp, vo, vf, vm, vg, vs⟩ := V
    simp only at cA ⊢
    clear e1 e2
    clear hL hG hk
    go_enter Try.func47, Try.ntmps47
    go_wp2_with (go_at_call 25; (with_reducible refine (cA _ hu).mono ?_); rintro e w1 ⟨rfl, hb⟩; have hx := (hb.block hzs).trans hz; obtain ⟨x0, x1, hxs⟩ := row2s hx; have hfr := frozen_of_row _ _ 0 _ _ hx; have hfr1 := frozen_of_row _ _ 1 _ _ hx; have hr := set2 hx (.bool true) (.string vs); replace hu := (hu.call hb); replace hu := ((hu.setCell (p := ⟨w.heap.size + 1, 0, none⟩) (by simp) (.bool true)).setCell (p := ⟨w.heap.size + 1, 1, none⟩) (by simp) (.string vs)).alloc (.cells #[.int .i64 vp, .int .i64 vo, .int .i64 vf, .int .i64 vm, .int .i64 vg, .string vs] 43 (0, 0)); clear hb cA hz hzs)
    have hr := heap_past (.cells #[.int .i64 vp, .int .i64 vo, .int .i64 vf, .int .i64 vm, .int .i64 vg, .string vs] 43 (0, 0)) hr
    exact end_st rfl rfl _ _ _ _ _ _ rfl rfl hr rfl ⟨rfl, hu⟩
  · rw [e2]
    rw [e1, e3] at cA
    unfold zeroEl at cA
    unfold noS
    simp only at cA ⊢
    clear e1 e2 e3
    clear hL hG hk
    go_enter Try.func47, Try.ntmps47
    go_wp2_with (go_at_call 25; (with_reducible refine (cA _ hu).mono ?_); rintro e w1 ⟨rfl, hb⟩; have hx := (hb.block hzs).trans hz; obtain ⟨x0, x1, hxs⟩ := row2s hx; have hfr := frozen_of_row _ _ 0 _ _ hx; have hfr1 := frozen_of_row _ _ 1 _ _ hx; have hr := set2 hx (.bool false) (.string { data := #[] }); replace hu := (hu.call hb); replace hu := ((hu.setCell (p := ⟨w.heap.size + 1, 0, none⟩) (by simp) (.bool false)).setCell (p := ⟨w.heap.size + 1, 1, none⟩) (by simp) (.string { data := #[] })).alloc (.cells #[.int .i64 0, .int .i64 0, .int .i64 0, .int .i64 0, .int .i64 0, .string { data := #[] }] 43 (0, 0)); clear hb cA hz hzs)
    have hr := heap_past (.cells #[.int .i64 0, .int .i64 0, .int .i64 0, .int .i64 0, .int .i64 0, .string { data := #[] }] 43 (0, 0)) hr
    exact end_st rfl rfl _ _ _ _ _ _ rfl rfl hr rfl ⟨rfl, hu⟩
set_option maxHeartbeats 4000000 in
theorem perform_any (A : Option Addr) (d : Nat) (l : List El) (p o f : Int) (hd hs : Bool) (ws vs : ByteArray) (t : Int) (w : World) (hn : l.length ≤ 9223372036854775807) (hL : Lies w A l) :
    Calls Try.prog 50 #[.slice A l.length d, .agg #[.int .i64 p, .int .i64 o, .int .i64 f, .bool hd, .bool hs, .string ws, .string vs], .int .i64 t] w (SlEnd (if pfErr l ⟨p, o, f, hd, hs, ws, vs⟩ t = 0 then pfL l ⟨p, o, f, hd, hs, ws, vs⟩ t else []) (pfErr l ⟨p, o, f, hd, hs, ws, vs⟩ t) w) := by
  have hu := (Calm.refl w).alloc (.cells #[.int .i64 p, .int .i64 o, .int .i64 f, .bool hd, .bool hs, .string ws, .string vs] 33 (0, 0))
  cases hs with
  | true =>
    have cP := fun u (hu : Calm w u) => runPut_any A d l p o f vs t u hn (hL.calm hu)
    unfold SlEnd at cP
    have e1 : pfErr l ⟨p, o, f, hd, true, ws, vs⟩ t = putErr l (p, o, f) vs t := rfl
    have e2 : pfL l ⟨p, o, f, hd, true, ws, vs⟩ t = putR l (p, o, f) vs t := rfl
    rw [e1, e2]
    clear e1 e2
    generalize (if putErr l (p, o, f) vs t = 0 then putR l (p, o, f) vs t else []) = M at cP ⊢
    generalize putErr l (p, o, f) vs t = E at cP ⊢
    clear hL
    go_enter Try.func50, Try.ntmps50
    go_wp2_with (go_at_call 73; (with_reducible refine (cP _ hu).mono ?_); rintro e w1 ⟨v, rfl, hs1, hb⟩; have HS := Lib.hid hs1; replace hu := hu.call hb; clear hb cP hs1)
    go_ret2
    exact ⟨_, rfl, HS.out, hu⟩
  | false =>
    have cP := fun u (hu : Calm w u) => runCut_any A d l p o f t u hn (hL.calm hu)
    unfold SlEnd at cP
    have e1 : pfErr l ⟨p, o, f, hd, false, ws, vs⟩ t = cutErr l (p, o, f) t := rfl
    have e2 : pfL l ⟨p, o, f, hd, false, ws, vs⟩ t = cutR l (p, o, f) t := rfl
    rw [e1, e2]
    clear e1 e2
    generalize (if cutErr l (p, o, f) t = 0 then cutR l (p, o, f) t else []) = M at cP ⊢
    generalize cutErr l (p, o, f) t = E at cP ⊢
    clear hL
    go_enter Try.func50, Try.ntmps50
    go_wp2_with (go_at_call 74; (with_reducible refine (cP _ hu).mono ?_); rintro e w1 ⟨v, rfl, hs1, hb⟩; have HS := Lib.hid hs1; replace hu := hu.call hb; clear hb cP hs1)
    go_ret2
    exact ⟨_, rfl, HS.out, hu⟩
open Go.ChangeShapes Go.WideShapes Go.ChangeAt Go.RowKit
theorem go_step {l : List El} {c : List Chg} {t : Int} {k : Nat} {x : Chg} (h : c[k]? = some x) : goL l (c.drop k) t = if pfErr l x t = 0 then goL (pfL l x t) (c.drop (k + 1)) t else ([], pfErr l x t) := by
 obtain ⟨hk, rfl⟩ := List.getElem?_eq_some_iff.1 h
 rw [List.drop_eq_getElem_cons hk, goL]
theorem any_off {l : List El} {c : List Chg} (h : ∀ j, j < c.length → (c[j]?).map (offB l) = some false) : c.any (offB l) = false := by
 rw [List.any_eq_false]
 intro x hx
 obtain ⟨i, hi, rfl⟩ := List.getElem_of_mem hx
 have := h i hi
 rw [List.getElem?_eq_getElem hi] at this
 simpa using this
set_option maxHeartbeats 16000000 in
theorem chDo_any (A B : Option Addr) (cA cB : Nat) (l : List El) (c : List Chg) (t : Int) (w : World) (hn : l.length ≤ 9223372036854775807) (hL : Lies w A l) (hm : c.length ≤ 9223372036854775807) (hC : LiesC w B c) :
    Calls Try.prog 21 #[.slice A l.length cA, .slice B c.length cB, .int .i64 t] w (SlEnd (doL l c t) (doErr l c t) w) := by
  have kL := fun u (hu : Calm w u) => runLast_any A cA l u hn (hL.calm hu)
  have kC := fun u (hu : Calm w u) => chCheck_any B cB c u hm (hC.calm hu)
  have hu := Calm.refl w
  unfold doL
  by_cases h1 : runErr l = 0
  rotate_left
  · have e1 : doErr l c t = runErr l := by unfold doErr; rw [if_neg h1]
    rw [e1, if_neg h1]
    simp only [if_neg h1] at kL
    have b1 : (runErr l != 0) = true := by simpa using h1
    generalize runErr l = E at *
    clear e1 h1 hL hC kC
    go_enter Try.func21, Try.ntmps21
    go_wp2_with (go_at_call 27; (with_reducible refine (kL _ hu).mono ?_); rintro e w1 ⟨rfl, hb⟩; replace hu := hu.call hb; clear hb kL)
    go_ret2
    exact ⟨_, rfl, Sl.nil _ _ _, hu⟩
  simp only [h1, if_pos] at kL
  by_cases h2 : chErr c = 0
  rotate_left
  · have e1 : doErr l c t = chErr c := by unfold doErr; rw [if_pos h1, if_neg h2]
    rw [e1, if_neg h2]
    have b1 : (chErr c != 0) = true := by simpa using h2
    generalize chErr c = E at *
    generalize latest l = L at kL
    clear e1 h1 h2 hL hC
    go_enter Try.func21, Try.ntmps21
    go_wp2_with (first
      | (go_at_call 27; (with_reducible refine (kL _ hu).mono ?_); rintro e w1 ⟨rfl, hb⟩; replace hu := hu.call hb; clear hb kL)
      | (go_at_call 17; (with_reducible refine (kC _ hu).mono ?_); rintro e w1 ⟨rfl, hb⟩; replace hu := hu.call hb; clear hb kC))
    go_ret2
    exact ⟨_, rfl, Sl.nil _ _ _, hu⟩
  rw [h2] at kC
  have hG := runErr_zero.1 h1
  have hGC := chErr_zero.1 h2
  by_cases h3 : t < 1 ∨ t < latest l ∨ 2147483647 < t
  · have e1 : doErr l c t = 9 := by unfold doErr; rw [if_pos h1, if_pos h2, if_pos h3]
    rw [e1, if_neg (by decide)]
    have hl0 := latest_nonneg l
    generalize latest l = L at *
    clear e1 h1 h2 hL hC hG hGC
    by_cases hm1 : 1 < L
    · by_cases ht : t < L
      · clear h3
        go_enter Try.func21, Try.ntmps21
        go_wp2_with (first
          | (go_at_call 27; (with_reducible refine (kL _ hu).mono ?_); rintro e w1 ⟨rfl, hb⟩; replace hu := hu.call hb; clear hb kL)
          | (go_at_call 17; (with_reducible refine (kC _ hu).mono ?_); rintro e w1 ⟨rfl, hb⟩; replace hu := hu.call hb; clear hb kC))
        go_ret2
        exact ⟨_, rfl, Sl.nil _ _ _, hu⟩
      · have ht2 : 2147483647 < t := by omega
        clear h3
        go_enter Try.func21, Try.ntmps21
        go_wp2_with (first
          | (go_at_call 27; (with_reducible refine (kL _ hu).mono ?_); rintro e w1 ⟨rfl, hb⟩; replace hu := hu.call hb; clear hb kL)
          | (go_at_call 17; (with_reducible refine (kC _ hu).mono ?_); rintro e w1 ⟨rfl, hb⟩; replace hu := hu.call hb; clear hb kC))
        go_ret2
        exact ⟨_, rfl, Sl.nil _ _ _, hu⟩
    · by_cases ht : t < 1
      · clear h3
        go_enter Try.func21, Try.ntmps21
        go_wp2_with (first
          | (go_at_call 27; (with_reducible refine (kL _ hu).mono ?_); rintro e w1 ⟨rfl, hb⟩; replace hu := hu.call hb; clear hb kL)
          | (go_at_call 17; (with_reducible refine (kC _ hu).mono ?_); rintro e w1 ⟨rfl, hb⟩; replace hu := hu.call hb; clear hb kC))
        go_ret2
        exact ⟨_, rfl, Sl.nil _ _ _, hu⟩
      · have ht2 : 2147483647 < t := by omega
        clear h3
        go_enter Try.func21, Try.ntmps21
        go_wp2_with (first
          | (go_at_call 27; (with_reducible refine (kL _ hu).mono ?_); rintro e w1 ⟨rfl, hb⟩; replace hu := hu.call hb; clear hb kL)
          | (go_at_call 17; (with_reducible refine (kC _ hu).mono ?_); rintro e w1 ⟨rfl, hb⟩; replace hu := hu.call hb; clear hb kC))
        go_ret2
        exact ⟨_, rfl, Sl.nil _ _ _, hu⟩
  have hd : doErr l c t = if c.any (offB l) then 1 else (goL l c t).2 := by unfold doErr; rw [if_pos h1, if_pos h2, if_neg h3]
  generalize hE : doErr l c t = E at *
  have HE := Lib.hid hd
  have HG := Lib.hid hG
  have hwf := Lib.hid hL.1
  have HGC := Lib.hid hGC
  have kCl := fun u (hu : Calm w u) => clone_any A cA l u hG.1 (hL.calm hu)
  have kU := fun p o f u (hu : Calm w u) (hk : kErr (p, o, f) = 0) => chCurrent_any A cA l p o f u hn (hL.calm hu) hG hk
  have t1 : 1 ≤ t := by omega
  have t2 : latest l ≤ t := by omega
  have t3 : t ≤ 2147483647 := by omega
  have hl0 := latest_nonneg l
  generalize latest l = L at *
  clear hd hE h1 h2 h3 hG hGC hL
  generalize hLL : (if E = 0 then (goL l c t).1 else []) = LL
  have HLL := Lib.hid hLL
  clear hLL
  have H : ∀ (hx : 1 < L ∨ L ≤ 1), Calls Try.prog 21 #[.slice A l.length cA, .slice B c.length cB, .int .i64 t] w (SlEnd LL E w) := by
    intro hx
    go_enter Try.func21, Try.ntmps21
    rcases hx with hx | hx
    all_goals
      go_upto_region 9 with (first
        | (go_at_call 27; (with_reducible refine (kL _ hu).mono ?_); rintro e w1 ⟨rfl, hb⟩; replace hu := hu.call hb; clear hb kL)
        | (go_at_call 17; (with_reducible refine (kC _ hu).mono ?_); rintro e w1 ⟨rfl, hb⟩; replace hu := hu.call hb; clear hb kC))
      clear hx t1 t2 t3 hl0
      go_wp2_with fail
      go_loopw [39] (fun i wr => ∃ k : Nat, k ≤ c.length ∧ i = .int .i64 k ∧ Calm w wr ∧ Hid (∀ j, j < k → (c[j]?).map (offB l) = some false)) (fun i _ => c.length - (intOf i).toNat)
      case atStart => exact ⟨0, Nat.zero_le _, rfl, hu, show ∀ _, _ from fun j h => absurd h (Nat.not_lt_zero _)⟩
      case round =>
        obtain ⟨k, hk, rfl, hv, HN⟩ := hrel
        clear hu
        by_cases hlt : k < c.length
        rotate_left
        · have hkl : k = c.length := by omega
          have hany : c.any (offB l) = false := any_off (by rw [← hkl]; exact HN.out)
          have HE2 : Hid ((goL l c t).2 = E) := by show _ = _; have := HE.out; rw [hany] at this; simpa using this.symm
          clear HN hany hkl kU HG HGC HE
          go_upto_region 16 with (go_at_call 49; (with_reducible refine (kCl _ hv).mono ?_); rintro e w5 ⟨v5, rfl, ho5, hb5⟩; have HS5 := Lib.hid (OwnR.sl ho5 hwf.out); have hv5 := hv.call hb5; clear ho5 hb5 kCl)
          clear hk hlt hv
          go_wp2_with fail
          go_loopw [13, 9, 55] (fun v er i wr => ∃ (k : Nat) (M : List El), k ≤ c.length ∧ i = .int .i64 k ∧ er = .int .i64 0 ∧ Calm w wr ∧ Hid (Sl wr v M) ∧ Hid (goL l c t = goL M (c.drop k) t)) (fun _ _ i _ => c.length - (intOf i).toNat)
          case atStart => exact ⟨0, l, Nat.zero_le _, rfl, rfl, hv5, HS5, show _ = _ from rfl⟩
          case round =>
            obtain ⟨k, M, hk, rfl, rfl, hv, HS, HK⟩ := hrel
            clear hv5 HS5
            by_cases hlt : k < c.length
            rotate_left
            · have e1 : Hid (goL l c t = (M, 0)) := by show _ = _; rw [HK.out, List.drop_of_length_le (by omega), goL]
              have e2 : Hid (E = 0) := by show _ = _; rw [← HE2.out, e1.out]
              clear HK HE2
              go_wp2_with fail
              go_ret2
              rw [← HLL.out, e2.out, if_pos rfl, e1.out]
              exact ⟨_, rfl, HS.out, hv⟩
            obtain ⟨b, q, p, o, f, hd, hs, ws, vs, rfl, hb, HX, c0, c1, c2, c3, c4, c5, c6⟩ := chg_get (hC.calm hv) hlt
            obtain ⟨AM, cM, rfl, hMl, hML⟩ := HS.out
            have kP := fun u (hu : Calm wr u) => perform_any AM cM M p o f hd hs ws vs t u hMl (hML.calm hu)
            unfold SlEnd at kP
            have hst := HK.out
            rw [go_step HX.out] at hst
            have hv1 := (Calm.refl wr).alloc (.cells #[.int .i64 p, .int .i64 o, .int .i64 f, .bool hd, .bool hs, .string ws, .string vs] 33 (0, 0))
            clear HK HX HS hML hMl
            by_cases he : pfErr M ⟨p, o, f, hd, hs, ws, vs⟩ t = 0
            · rw [if_pos he] at hst
              simp only [he, if_pos] at kP
              generalize pfL M ⟨p, o, f, hd, hs, ws, vs⟩ t = M2 at kP hst
              have HST := Lib.hid hst
              clear hst he
              go_wp2_with (go_at_call 50; (with_reducible refine (kP _ hv1).mono ?_); rintro e w7 ⟨v7, rfl, hs7, hb7⟩; have HS7 := Lib.hid hs7; have hv7 := hv.call (hv1.call hb7); clear hs7 hb7 kP)
              go_roundw
              case rel => exact ⟨k + 1, M2, by omega, by go_num, rfl, hv7, HS7, HST⟩
              case measure => simp [intOf]; omega
            · rw [if_neg he] at hst
              simp only [if_neg he] at kP
              have b1 : (pfErr M ⟨p, o, f, hd, hs, ws, vs⟩ t != 0) = true := by simpa using he
              have e2 : Hid (E = pfErr M ⟨p, o, f, hd, hs, ws, vs⟩ t) := by show _ = _; rw [← HE2.out, hst]
              have e3 : Hid (¬ E = 0) := show ¬ _ from by rw [e2.out]; exact he
              generalize pfErr M ⟨p, o, f, hd, hs, ws, vs⟩ t = F at kP b1 e2
              clear hst he HE2
              go_wp2_with (go_at_call 50; (with_reducible refine (kP _ hv1).mono ?_); rintro e w7 ⟨v7, rfl, hs7, hb7⟩; have hv7 := hv.call (hv1.call hb7); clear hs7 hb7 kP)
              go_ret2
              rw [← HLL.out, if_neg e3.out, e2.out]
              exact ⟨_, rfl, Sl.nil _ _ _, hv7⟩
        obtain ⟨b, q, p, o, f, hd, hs, ws, vs, rfl, hb, HX, c0, c1, c2, c3, c4, c5, c6⟩ := chg_get (hC.calm hv) hlt
        have cU := fun u (hu : Calm w u) => kU p o f u hu (Chg.err_zero.1 (HGC.out.2.1 _ (List.mem_of_getElem? HX.out))).1
        have cBf := fun u => chBefore_any p o f hd hs ws vs u
        have hoff : offB l ⟨p, o, f, hd, hs, ws, vs⟩ = decide (stA l (p, o, f) 2147483647 ≠ ⟨hd, ws⟩) := rfl
        generalize stA l (p, o, f) 2147483647 = S at cU hoff
        obtain ⟨sb, sv⟩ := S
        simp only at cU
        have hv1 := hv.alloc (.cells #[.int .i64 p, .int .i64 o, .int .i64 f, .bool hd, .bool hs, .string ws, .string vs] 33 (0, 0))
        have hx := heap_new wr (.cells #[.int .i64 p, .int .i64 o, .int .i64 f, .bool hd, .bool hs, .string ws, .string vs] 33 (0, 0))
        by_cases e1 : St.mk sb sv = St.mk hd ws
        · rw [decide_eq_false (fun h => h e1)] at hoff
          have HN2 : Hid (∀ j, j < k + 1 → (c[j]?).map (offB l) = some false) := show ∀ _, _ from fun j hj => by
            rcases Nat.lt_or_ge j k with h | h
            · exact HN.out j h
            · rw [show j = k by omega, HX.out]; exact congrArg some hoff
          obtain ⟨rfl, rfl⟩ := St.ext_iff'.1 e1
          clear e1 hoff HN HX
          simp only at cU cBf hx hv1
          go_upto_region 12 with fail
          generalize hW : wr.alloc (.cells #[.int .i64 p, .int .i64 o, .int .i64 f, .bool sb, .bool hs, .string sv, .string vs] 33 (0, 0)) = w2 at hv1 hx ⊢
          clear hW
          obtain ⟨x0, x1, x2, x3, x4, x5, x6, hxs⟩ := row7 hx
          clear hx c0 c1 c2 c3 c4 c5 c6 hb
          refine wp_region_plan [.val (.slice A l.length cA), .val (.pointer (some ⟨wr.heap.size, 0, none⟩)), .val (.agg #[.int .i64 p, .int .i64 o, .int .i64 f]), .val (.agg #[.bool sb, .string sv]), .val (.agg #[.int .i64 p, .int .i64 o, .int .i64 f, .bool sb, .bool hs, .string sv, .string vs]), .val (.agg #[.bool sb, .string sv]), .val (.bool false)] (by kernel_rfl) (by kernel_rfl) (by kernel_rfl) ?_
          intro X
          iterate 7
            refine plan_val (by kernel_rfl) (fun u hu => ?_) ?_
            · obtain ⟨hc, hf, hz⟩ := hu.of_drew.facts
              go_simp
              all_goals first
                | (go_at_call 47; exact cU _ (hv1.call hu.of_drew))
                | (go_at_call 48; exact cBf _)
            simp only [Act.put, List.setIfInBounds_toArray, List.set_cons_zero, List.set_cons_succ, Nat.reduceAdd]
          refine plan_end ?_
          intro w' hB
          have hk := hB.calm.of_drew
          clear hB
          go_wp2_with fail
          go_roundw
          case rel => exact ⟨k + 1, by omega, by go_num, hv1.call hk, HN2⟩
          case measure => simp [intOf]; omega
        · rw [decide_eq_true (show St.mk sb sv ≠ St.mk hd ws from e1)] at hoff
          have HE2 : Hid (E = 1) := by
            have := HE.out
            rw [if_pos (List.any_eq_true.2 ⟨_, List.mem_of_getElem? HX.out, hoff⟩)] at this
            exact this
          have e2 : (sb == hd) = false ∨ sb = hd ∧ (sv.toList == ws.toList) = false := by
            by_cases q : sb = hd
            · exact .inr ⟨q, str_ne fun h => e1 (St.ext_iff'.2 ⟨q, h⟩)⟩
            · exact .inl (by simpa using q)
          clear e1 hoff HN HX HE
          rcases e2 with e2 | ⟨rfl, e2⟩
          · go_upto_region 12 with fail
            generalize hW : wr.alloc (.cells #[.int .i64 p, .int .i64 o, .int .i64 f, .bool hd, .bool hs, .string ws, .string vs] 33 (0, 0)) = w2 at hv1 hx ⊢
            clear hW
            obtain ⟨x0, x1, x2, x3, x4, x5, x6, hxs⟩ := row7 hx
            clear hx c0 c1 c2 c3 c4 c5 c6 hb
            refine wp_region_plan [.val (.slice A l.length cA), .val (.pointer (some ⟨wr.heap.size, 0, none⟩)), .val (.agg #[.int .i64 p, .int .i64 o, .int .i64 f]), .val (.agg #[.bool sb, .string sv]), .val (.agg #[.int .i64 p, .int .i64 o, .int .i64 f, .bool hd, .bool hs, .string ws, .string vs]), .val (.agg #[.bool hd, .string ws]), .val (.bool true)] (by kernel_rfl) (by kernel_rfl) (by kernel_rfl) ?_
            intro X
            iterate 7
              refine plan_val (by kernel_rfl) (fun u hu => ?_) ?_
              · obtain ⟨hc, hf, hz⟩ := hu.of_drew.facts
                go_simp
                all_goals first
                  | (go_at_call 47; exact cU _ (hv1.call hu.of_drew))
                  | (go_at_call 48; exact cBf _)
              simp only [Act.put, List.setIfInBounds_toArray, List.set_cons_zero, List.set_cons_succ, Nat.reduceAdd]
            refine plan_end ?_
            intro w' hB
            have hk := hB.calm.of_drew
            clear hB
            go_wp2_with fail
            go_ret2
            rw [← HLL.out, HE2.out, if_neg (by decide)]
            exact ⟨_, rfl, Sl.nil _ _ _, hv1.call hk⟩
          · go_upto_region 12 with fail
            generalize hW : wr.alloc (.cells #[.int .i64 p, .int .i64 o, .int .i64 f, .bool sb, .bool hs, .string ws, .string vs] 33 (0, 0)) = w2 at hv1 hx ⊢
            clear hW
            obtain ⟨x0, x1, x2, x3, x4, x5, x6, hxs⟩ := row7 hx
            clear hx c0 c1 c2 c3 c4 c5 c6 hb
            refine wp_region_plan [.val (.slice A l.length cA), .val (.pointer (some ⟨wr.heap.size, 0, none⟩)), .val (.agg #[.int .i64 p, .int .i64 o, .int .i64 f]), .val (.agg #[.bool sb, .string sv]), .val (.agg #[.int .i64 p, .int .i64 o, .int .i64 f, .bool sb, .bool hs, .string ws, .string vs]), .val (.agg #[.bool sb, .string ws]), .val (.bool true)] (by kernel_rfl) (by kernel_rfl) (by kernel_rfl) ?_
            intro X
            iterate 7
              refine plan_val (by kernel_rfl) (fun u hu => ?_) ?_
              · obtain ⟨hc, hf, hz⟩ := hu.of_drew.facts
                go_simp
                all_goals first
                  | (go_at_call 47; exact cU _ (hv1.call hu.of_drew))
                  | (go_at_call 48; exact cBf _)
              simp only [Act.put, List.setIfInBounds_toArray, List.set_cons_zero, List.set_cons_succ, Nat.reduceAdd]
            refine plan_end ?_
            intro w' hB
            have hk := hB.calm.of_drew
            clear hB
            go_wp2_with fail
            go_ret2
            rw [← HLL.out, HE2.out, if_neg (by decide)]
            exact ⟨_, rfl, Sl.nil _ _ _, hv1.call hk⟩
  exact H (by omega)
open Go.ChangeShapes Go.WideShapes Go.ChangeAt Go.RowKit
set_option maxHeartbeats 8000000 in
theorem equalC_self (A A' : Option Addr) (c c' : Nat) (l : List Chg) (w : World) (hn : l.length ≤ 9223372036854775807) (hL : LiesC w A l) (hL' : LiesC w A' l) :
    Calls Try.prog 14 #[.slice A l.length c, .slice A' l.length c'] w fun e w' => e = .returned (.bool true) ∧ Calm w w' := by
  go_enter Try.func14, Try.ntmps14
  go_wp2_with fail
  go_loopw [13] (fun i wr => ∃ k : Nat, k ≤ l.length ∧ i = .int .i64 k ∧ Calm w wr) (fun i _ => l.length - (intOf i).toNat)
  case atStart => exact ⟨0, Nat.zero_le _, rfl, Calm.refl _⟩
  case round =>
    obtain ⟨k, hk, rfl, hu⟩ := hrel
    by_cases hlt : k < l.length
    rotate_left
    · go_wp2_with fail
      go_ret
      exact ⟨rfl, hu⟩
    obtain ⟨b, q, p, o, f, hd, hs, ws, vs, rfl, hb, HE, c0, c1, c2, c3, c4, c5, c6⟩ := chg_get (hL.calm hu) hlt
    obtain ⟨b', q', p', o', f', hd', hs', ws', vs', rfl, hb', HE', d0, d1, d2, d3, d4, d5, d6⟩ := chg_get (hL'.calm hu) hlt
    have hq : (⟨p, o, f, hd, hs, ws, vs⟩ : Chg) = ⟨p', o', f', hd', hs', ws', vs'⟩ := by
      have := HE.out.symm.trans HE'.out; injection this
    injection hq with e0 e1 e2 e3 e4 e5 e6
    subst e0; subst e1; subst e2; subst e3; subst e4; subst e5; subst e6
    clear hL hL' HE HE'
    go_wp2_with fail
    refine wp_region_plan [.val (.slice (some ⟨b, q, none⟩) l.length c), .val (.int .i64 ((k : Int))), .val (.pointer (some ⟨b, q + k * 7, none⟩)), .val (.agg #[.int .i64 p, .int .i64 o, .int .i64 f, .bool hd, .bool hs, .string ws, .string vs]), .val (.slice (some ⟨b', q', none⟩) l.length c'), .val (.int .i64 ((k : Int))), .val (.pointer (some ⟨b', q' + k * 7, none⟩)), .val (.agg #[.int .i64 p, .int .i64 o, .int .i64 f, .bool hd, .bool hs, .string ws, .string vs]), .val (.bool false)] (by kernel_rfl) (by kernel_rfl) (by kernel_rfl) ?_
    intro X
    iterate 9
      refine plan_val (by kernel_rfl) (fun u hu => ?_) ?_
      · obtain ⟨hc, hf, hz⟩ := hu.of_drew.facts
        go_simp
      simp only [Act.put, List.setIfInBounds_toArray, List.set_cons_zero, List.set_cons_succ, Nat.reduceAdd]
    refine plan_end ?_
    intro w' hB
    have hk := hB.calm.of_drew
    clear hB
    go_wp2_with fail
    go_roundw
    case rel => exact ⟨k + 1, by omega, by go_num, hu.call hk⟩
    case measure => simp [intOf]; omega
section
variable {H : Type} {enc : TypeId × Value → H} {w : World} {base : Nat} {spare : Nat → Bool} {held : Bool}
theorem cellsChg : Try.prog.cellsOf 33 = 7 := by kernel_rfl
theorem cellsBool : Try.prog.cellsOf 4 = 1 := by kernel_rfl
theorem chg_cells {fuel : Nat} {cs : List Value} {x : DataW H × List MemPlace} (h : DataW.trod enc Try.prog w base spare held fuel 33 cs = some x) : ∃ c : Chg, cs = chgV c ∧ True := by
 obtain ⟨y0, y1, y2, y3, y4, n, hd, hl, h0, h1, h2, h3, h4⟩ := trod_struct5 Try.underlying33 h
 obtain ⟨p, o, f, e0, _, _, _⟩ := key_cells h0
 obtain ⟨a, e1, _⟩ := DataW.trod_bool Try.underlying4 h1
 obtain ⟨b, e2, _⟩ := DataW.trod_bool Try.underlying4 h2
 obtain ⟨s, e3, _, _⟩ := DataW.trod_string Try.underlying9 h3
 obtain ⟨v, e4, _, _⟩ := DataW.trod_string Try.underlying9 h4
 simp only [cellsBool, cellsKey, cellsStr, cellsChg] at e0 e1 e2 e3 e4 hl
 match cs, hl with
 | [c0, c1, c2, c3, c4, c5, c6], _ =>
  simp at e0 e1 e2 e3 e4
  obtain ⟨a0, a1, a2⟩ := e0
  exact ⟨⟨p, o, f, a, b, s, v⟩, by rw [a0, a1, a2, e1, e2, e3, e4]; rfl, trivial⟩
variable {r : Reach} {b0 : Nat} {v : Value} {d : DataW H} {ps : List MemPlace}
theorem open_chgs (hv : Value.okWide Try.prog w r b0 23 v) (h : DataW.Trod enc Try.prog w base spare held 23 v d ps) :
    ∃ (A : Option Addr) (c : Nat) (l : List Chg), v = .slice A l.length c ∧ l.length ≤ 9223372036854775807 ∧ l.length ≤ c ∧ LiesC w A l := by
  obtain ⟨A0, len, cap, rfl⟩ := okWide_slice Try.underlying23 hv
  obtain ⟨fuel, hf⟩ := h
  obtain ⟨A, c, l, e1, le1, lc1, -, at1, -⟩ := rows_open (α := Chg) chgV (fun _ => True) 7 Try.underlying23 cellsChg (by omega) (fun fuel cs x hx => chg_cells hx) hf
  have e2 : Value.slice A0 len cap = .slice A l.length c := by simpa [Value.cells] using e1
  rw [e2]
  exact ⟨A, c, l, rfl, le1, lc1, at1⟩
end
theorem chgs_lit {w : World} {g t : Nat} (x : Chg) (h : w.heap[g]? = some (.cells #[.int .i64 x.p, .int .i64 x.o, .int .i64 x.f, .bool x.hd, .bool x.hs, .string x.ws, .string x.vs] t (0, 0))) : LiesC w (some ⟨g, 0, none⟩) [x] := fun _ => by
 refine ⟨g, 0, rfl, (Array.getElem?_eq_some_iff.1 h).1, fun k y hy j hj => ?_⟩
 have hk : k = 0 := by have := (List.getElem?_eq_some_iff.1 hy).1; simp at this; exact this
 subst hk
 simp at hy; subst hy
 rw [cell_of_row w g _ _ t _ h]
 simp [chgV]
open Go.ChangeShapes Go.WideShapes Go.ChangeAt Go.RowKit
def ch03 : Chg := ⟨0, 0, 0, false, true, { data := #[] }, { data := #[98] }⟩
theorem lies_own {w : World} {v : Value} {base : Nat} {l : List Chg} {n : Nat} (h : OwnC base w v l) (hn : l.length = n) : ∃ A c, v = .slice A n c ∧ Hid (n ≤ c) ∧ Hid (LiesC w A l) := by
 obtain ⟨A, c, hv, h1, _, h2⟩ := chg_own h
 subst hn
 exact ⟨A, c, hv, h1, h2⟩
theorem cBet_good {A : Option Addr} {c : Nat} {l : List El} {u : World} {a b : Int} {L : List Chg} (hn : l.length ≤ 9223372036854775807) (h : Lies u A l) (hG : Good l) (hL : betL l a b = L) : Calls Try.prog 11 #[.slice A l.length c, .int .i64 a, .int .i64 b] u (CgEnd2 L 0 u) := by
 have := chBet_any A c l a b u hn h
 rw [runErr_zero.2 hG, if_pos rfl, hL] at this
 exact this
theorem cBack_good {A : Option Addr} {c : Nat} {l : List Chg} {u : World} {L : List Chg} (h : LiesC u A l) (hG : GoodC l) (hL : revL l = L) : Calls Try.prog 12 #[.slice A l.length c] u (CgEnd2 L 0 u) := by
 have := chBack_any A c l u (by have := hG.1; omega) h
 rw [chErr_zero.2 hG, if_pos rfl, hL] at this
 exact this
open Go.ChangeShapes Go.WideShapes Go.ChangeAt Go.RowKit
def oneB : El := ⟨0, 0, 0, 1, 0, { data := #[98] }⟩
theorem do_one : doErr [] [ch03] 1 = 0 ∧ doL [] [ch03] 1 = [oneB] := ⟨by kernel_rfl, by kernel_rfl⟩
set_option maxHeartbeats 16000000 in
theorem changeUndone_walk (A : Option Addr) (d : Nat) (l : List El) (B : Option Addr) (cb : Nat) (c : List Chg) (t : Int) (w : World) (hn : l.length ≤ 9223372036854775807) (hm : c.length ≤ 9223372036854775807) (hL : Lies w A l) (hC : LiesC w B c) :
    Calls Try.prog 10 #[.slice A l.length d, .slice B c.length cb, .int .i64 t] w fun e w' => e = .returned (.bool true) ∧ Calm w w' := by
  have hu := Calm.refl w
  have HL := Lib.hid hL
  have HC := Lib.hid hC
  clear hL hC
  have cD1 : ∀ A' c' u, LiesC u A' [ch03] → Calls Try.prog 21 #[.slice none 0 0, .slice A' 1 c', .int .i64 1] u (SlEnd [oneB] 0 u) := fun A' c' u h' => by
    have := chDo_any none A' 0 c' [] [ch03] 1 u (by simp) ⟨by simp, fun h => absurd h (by simp)⟩ (by simp) h'
    rw [do_one.1, do_one.2] at this
    exact this
  obtain ⟨E, hE⟩ : ∃ E, doErr l c t = E := ⟨_, rfl⟩
  obtain ⟨M, hM⟩ : ∃ M, doL l c t = M := ⟨_, rfl⟩
  have cD := fun u (hu : Calm w u) => chDo_any A B d cb l c t u hn (HL.out.calm hu) hm (HC.out.calm hu)
  rw [hE, hM] at cD
  unfold SlEnd at cD
  by_cases h1 : E = 0
  rotate_left
  · have h2 : M = [] := by rw [← hM]; unfold doL; rw [hE, if_neg h1]
    subst h2
    have b1 : (E != 0) = true := by simpa using h1
    clear hE hM h1 HL HC
    go_enter Try.func10, Try.ntmps10
    go_wp2_with (first
      | (go_at_call 21; (refine (cD1 _ _ _ (chgs_lit ch03 (heap_new _ _))).mono ?_); rintro e w2 ⟨v, rfl, hs, hb⟩; obtain ⟨A2, c2, rfl, -, -⟩ := hs; replace hu := (hu.alloc (.cells #[.int .i64 0, .int .i64 0, .int .i64 0, .bool false, .bool true, .string { data := #[] }, .string { data := #[98] }] 33 (0, 0))).call hb; clear hb cD1)
      | (go_at_call 21; (with_reducible refine (cD _ hu).mono ?_); rintro e w3 ⟨v, rfl, hs, hb⟩; obtain ⟨A3, c3, rfl, -, -⟩ := hs; replace hu := hu.call hb; clear hb cD))
    go_ret
    exact ⟨rfl, hu⟩
  subst h1
  obtain ⟨hG, gC, t1, t2, t3, -⟩ := do_zero hE
  have gM : Good M := by have := (do_all hE).1; rwa [hM] at this
  have hMl : M.length ≤ 9223372036854775807 := by have := gM.1; omega
  obtain ⟨R, hR⟩ : ∃ R, revL c = R := ⟨_, rfl⟩
  have hRl : R.length ≤ 9223372036854775807 := by have := (revL_good gC).1; rw [hR] at this; omega
  obtain ⟨v, hv⟩ : ∃ v, v = if t + 1 ≤ 2147483647 then t + 1 else 2147483647 := ⟨_, rfl⟩
  have hv1 : t ≤ v ∧ v ≤ 2147483647 := by rw [hv]; split <;> omega
  have hun := undo_errs hE hv1.1 hv1.2
  rw [hM, hR] at hun
  obtain ⟨F, hF⟩ : ∃ F, doErr M R v = F := ⟨_, rfl⟩
  obtain ⟨N, hN⟩ : ∃ N, doL M R v = N := ⟨_, rfl⟩
  rw [hF, hN] at hun
  obtain ⟨D, hD⟩ : ∃ D, betL M (t - 1) t = D := ⟨_, rfl⟩
  have gD := bet_good gM (t - 1) t
  rw [hD] at gD
  have cBt := fun A' c' u (h : Lies u A' M) => cBet_good (c := c') hMl h gM hD
  have cK := fun u (hu : Calm w u) => cBack_good (c := cb) (HC.out.calm hu) gC hR
  have cDo := fun A' c' A'' c'' u (h : Lies u A' M) (h' : LiesC u A'' R) => chDo_any A' A'' c' c'' M R v u hMl h hRl h'
  rw [hF, hN] at cDo
  unfold SlEnd at cDo
  have y1 : IntKind.i64.wrap (t - 1) = t - 1 := IntWalk.i64_in _ (by omega)
  have y2 : IntKind.i64.wrap (t + 1) = t + 1 := IntWalk.i64_in _ (by omega)
  have hun1 := hun.1
  by_cases h8 : F = 8
  · subst h8
    clear hun hun1 hE hM hR hF hN hD hG gC gM gD hv1
    rcases (by omega : t + 1 < 2147483647 ∨ t + 1 = 2147483647 ∨ t = 2147483647) with h | h | h
    · rw [if_pos (by omega)] at hv
      subst hv
      go_enter Try.func10, Try.ntmps10
      go_wp2_with (first
        | (go_at_call 21; (refine (cD1 _ _ _ (chgs_lit ch03 (heap_new _ _))).mono ?_); rintro e w2 ⟨v, rfl, hs, hb⟩; obtain ⟨A2, c2, rfl, -, -⟩ := hs; replace hu := (hu.alloc (.cells #[.int .i64 0, .int .i64 0, .int .i64 0, .bool false, .bool true, .string { data := #[] }, .string { data := #[98] }] 33 (0, 0))).call hb; clear hb cD1)
        | (go_at_call 21; (with_reducible refine (cD _ hu).mono ?_); rintro e w3 ⟨v, rfl, hs, hb⟩; obtain ⟨A3, c3, rfl, -, hl3⟩ := hs; have H3 := Lib.hid hl3; replace hu := hu.call hb; clear hb cD hl3)
        | (go_at_call 11; (with_reducible refine (cBt _ _ _ H3.out).mono ?_); rintro e wA4 ⟨v, rfl, ho, hb⟩; obtain ⟨A4, c4, rfl, kH4, H4⟩ := lies_own ho rfl; replace hu := hu.call hb; replace H3 := Lib.hid (H3.out.calm hb); clear ho hb cBt)
        | (go_at_call 12; (with_reducible refine (cK _ hu).mono ?_); rintro e wA5 ⟨v, rfl, ho, hb⟩; obtain ⟨A5, c5, rfl, kH5, H5⟩ := lies_own ho rfl; replace hu := hu.call hb; replace H3 := Lib.hid (H3.out.calm hb); replace H4 := Lib.hid (H4.out.calm hb); clear ho hb cK)
        | (go_at_call 21; (with_reducible refine (cDo _ _ _ _ _ H3.out H5.out).mono ?_); rintro e w6 ⟨v, rfl, hs, hb⟩; obtain ⟨A6, c6, rfl, k6, hl6⟩ := hs; have H6 := Lib.hid hl6; replace H4 := Lib.hid (H4.out.calm hb); replace hu := hu.call hb; clear hb cDo hl6 H3 H5 kH5)
        | (go_at_call 21; (with_reducible refine (cDp _ _ _ _ _ H3.out H5.out).mono ?_); rintro e w6 ⟨v, rfl, hs, hb⟩; obtain ⟨A6, c6, rfl, k6, hl6⟩ := hs; have H6 := Lib.hid hl6; replace H4 := Lib.hid (H4.out.calm hb); replace hu := hu.call hb; clear hb cDp hl6 H3 H5 kH5))
      go_ret
      exact ⟨rfl, hu⟩
    · have h5 : v = t + 1 := by rw [hv, if_pos (by omega)]
      have h6 : v = 2147483647 := by omega
      clear hv
      have cDp := cDo
      rw [h5] at cDo
      rw [h6] at cDp
      have h7 : ¬ (2147483647 < t + 1) := by omega
      have h8 : ¬ (t + 1 < 2147483647) := by omega
      clear h h5 h6
      go_enter Try.func10, Try.ntmps10
      go_wp2_with (first
        | (go_at_call 21; (refine (cD1 _ _ _ (chgs_lit ch03 (heap_new _ _))).mono ?_); rintro e w2 ⟨v, rfl, hs, hb⟩; obtain ⟨A2, c2, rfl, -, -⟩ := hs; replace hu := (hu.alloc (.cells #[.int .i64 0, .int .i64 0, .int .i64 0, .bool false, .bool true, .string { data := #[] }, .string { data := #[98] }] 33 (0, 0))).call hb; clear hb cD1)
        | (go_at_call 21; (with_reducible refine (cD _ hu).mono ?_); rintro e w3 ⟨v, rfl, hs, hb⟩; obtain ⟨A3, c3, rfl, -, hl3⟩ := hs; have H3 := Lib.hid hl3; replace hu := hu.call hb; clear hb cD hl3)
        | (go_at_call 11; (with_reducible refine (cBt _ _ _ H3.out).mono ?_); rintro e wA4 ⟨v, rfl, ho, hb⟩; obtain ⟨A4, c4, rfl, kH4, H4⟩ := lies_own ho rfl; replace hu := hu.call hb; replace H3 := Lib.hid (H3.out.calm hb); clear ho hb cBt)
        | (go_at_call 12; (with_reducible refine (cK _ hu).mono ?_); rintro e wA5 ⟨v, rfl, ho, hb⟩; obtain ⟨A5, c5, rfl, kH5, H5⟩ := lies_own ho rfl; replace hu := hu.call hb; replace H3 := Lib.hid (H3.out.calm hb); replace H4 := Lib.hid (H4.out.calm hb); clear ho hb cK)
        | (go_at_call 21; (with_reducible refine (cDo _ _ _ _ _ H3.out H5.out).mono ?_); rintro e w6 ⟨v, rfl, hs, hb⟩; obtain ⟨A6, c6, rfl, k6, hl6⟩ := hs; have H6 := Lib.hid hl6; replace H4 := Lib.hid (H4.out.calm hb); replace hu := hu.call hb; clear hb cDo hl6 H3 H5 kH5)
        | (go_at_call 21; (with_reducible refine (cDp _ _ _ _ _ H3.out H5.out).mono ?_); rintro e w6 ⟨v, rfl, hs, hb⟩; obtain ⟨A6, c6, rfl, k6, hl6⟩ := hs; have H6 := Lib.hid hl6; replace H4 := Lib.hid (H4.out.calm hb); replace hu := hu.call hb; clear hb cDp hl6 H3 H5 kH5))
      go_ret
      exact ⟨rfl, hu⟩
    · rw [if_neg (by omega)] at hv
      subst hv
      have h8 : ¬ (t + 1 < 2147483647) := by omega
      have h7 : 2147483647 < t + 1 := by omega
      clear h
      go_enter Try.func10, Try.ntmps10
      go_wp2_with (first
        | (go_at_call 21; (refine (cD1 _ _ _ (chgs_lit ch03 (heap_new _ _))).mono ?_); rintro e w2 ⟨v, rfl, hs, hb⟩; obtain ⟨A2, c2, rfl, -, -⟩ := hs; replace hu := (hu.alloc (.cells #[.int .i64 0, .int .i64 0, .int .i64 0, .bool false, .bool true, .string { data := #[] }, .string { data := #[98] }] 33 (0, 0))).call hb; clear hb cD1)
        | (go_at_call 21; (with_reducible refine (cD _ hu).mono ?_); rintro e w3 ⟨v, rfl, hs, hb⟩; obtain ⟨A3, c3, rfl, -, hl3⟩ := hs; have H3 := Lib.hid hl3; replace hu := hu.call hb; clear hb cD hl3)
        | (go_at_call 11; (with_reducible refine (cBt _ _ _ H3.out).mono ?_); rintro e wA4 ⟨v, rfl, ho, hb⟩; obtain ⟨A4, c4, rfl, kH4, H4⟩ := lies_own ho rfl; replace hu := hu.call hb; replace H3 := Lib.hid (H3.out.calm hb); clear ho hb cBt)
        | (go_at_call 12; (with_reducible refine (cK _ hu).mono ?_); rintro e wA5 ⟨v, rfl, ho, hb⟩; obtain ⟨A5, c5, rfl, kH5, H5⟩ := lies_own ho rfl; replace hu := hu.call hb; replace H3 := Lib.hid (H3.out.calm hb); replace H4 := Lib.hid (H4.out.calm hb); clear ho hb cK)
        | (go_at_call 21; (with_reducible refine (cDo _ _ _ _ _ H3.out H5.out).mono ?_); rintro e w6 ⟨v, rfl, hs, hb⟩; obtain ⟨A6, c6, rfl, k6, hl6⟩ := hs; have H6 := Lib.hid hl6; replace H4 := Lib.hid (H4.out.calm hb); replace hu := hu.call hb; clear hb cDo hl6 H3 H5 kH5)
        | (go_at_call 21; (with_reducible refine (cDp _ _ _ _ _ H3.out H5.out).mono ?_); rintro e w6 ⟨v, rfl, hs, hb⟩; obtain ⟨A6, c6, rfl, k6, hl6⟩ := hs; have H6 := Lib.hid hl6; replace H4 := Lib.hid (H4.out.calm hb); replace hu := hu.call hb; clear hb cDp hl6 H3 H5 kH5))
      go_ret
      exact ⟨rfl, hu⟩
  obtain rfl : F = 0 := hun1.resolve_right h8
  have hun2 := hun.2 rfl
  have gN : Good N := by have := (do_all hF).1; rwa [hN] at this
  have hat : Hid (∀ x ∈ c, atErr l x.key 2147483647 = atErr N x.key 2147483647 ∧ (atVal l x.key 2147483647).s = (atVal N x.key 2147483647).s) := show ∀ x ∈ c, _ from fun x hx => by
    have hk := (Chg.err_zero.1 (gC.2.1 x hx)).1
    have hs := hun2 x hx
    rcases at_st hG hk 2147483647 with ⟨q1, q2⟩ | ⟨q1, q2, q3⟩ <;> rcases at_st gN hk 2147483647 with ⟨r1, r2⟩ | ⟨r1, r2, r3⟩
    · refine ⟨q1.trans r1.symm, ?_⟩
      have := q2.symm.trans (hs.symm.trans r2)
      exact (St.ext_iff'.1 this).2
    · have := q2.symm.trans (hs.symm.trans r2); cases (St.ext_iff'.1 this).1
    · have := r2.symm.trans (hs.trans q2); cases (St.ext_iff'.1 this).1
    · rw [q1, r1, q3, r3]; exact ⟨rfl, rfl⟩
  have cLst := fun u (hu : Calm w u) => runLast_any A d l u hn (HL.out.calm hu)
  simp only [runErr_zero.2 hG, if_pos] at cLst
  clear hun hun1 hun2 hR hF hN gN hv1 h8
  by_cases hlt0 : latest l = t
  · rw [hlt0] at cLst
    clear hlt0 hE hM hD hG gC gM gD t2
    rcases (by omega : t + 1 < 2147483647 ∨ t + 1 = 2147483647 ∨ t = 2147483647) with h | h | h
    · rw [if_pos (by omega)] at hv
      subst hv
      go_enter Try.func10, Try.ntmps10
      go_upto_region 14 with (first
        | (go_at_call 21; (refine (cD1 _ _ _ (chgs_lit ch03 (heap_new _ _))).mono ?_); rintro e w2 ⟨v, rfl, hs, hb⟩; obtain ⟨A2, c2, rfl, -, -⟩ := hs; replace hu := (hu.alloc (.cells #[.int .i64 0, .int .i64 0, .int .i64 0, .bool false, .bool true, .string { data := #[] }, .string { data := #[98] }] 33 (0, 0))).call hb; clear hb cD1)
        | (go_at_call 21; (with_reducible refine (cD _ hu).mono ?_); rintro e w3 ⟨v, rfl, hs, hb⟩; obtain ⟨A3, c3, rfl, -, hl3⟩ := hs; have H3 := Lib.hid hl3; replace hu := hu.call hb; clear hb cD hl3)
        | (go_at_call 11; (with_reducible refine (cBt _ _ _ H3.out).mono ?_); rintro e wA4 ⟨v, rfl, ho, hb⟩; obtain ⟨A4, c4, rfl, kH4, H4⟩ := lies_own ho rfl; replace hu := hu.call hb; replace H3 := Lib.hid (H3.out.calm hb); clear ho hb cBt)
        | (go_at_call 12; (with_reducible refine (cK _ hu).mono ?_); rintro e wA5 ⟨v, rfl, ho, hb⟩; obtain ⟨A5, c5, rfl, kH5, H5⟩ := lies_own ho rfl; replace hu := hu.call hb; replace H3 := Lib.hid (H3.out.calm hb); replace H4 := Lib.hid (H4.out.calm hb); clear ho hb cK)
        | (go_at_call 21; (with_reducible refine (cDo _ _ _ _ _ H3.out H5.out).mono ?_); rintro e w6 ⟨v, rfl, hs, hb⟩; obtain ⟨A6, c6, rfl, k6, hl6⟩ := hs; have H6 := Lib.hid hl6; replace H4 := Lib.hid (H4.out.calm hb); replace hu := hu.call hb; clear hb cDo hl6 H3 H5 kH5)
        | (go_at_call 21; (with_reducible refine (cDp _ _ _ _ _ H3.out H5.out).mono ?_); rintro e w6 ⟨v, rfl, hs, hb⟩; obtain ⟨A6, c6, rfl, k6, hl6⟩ := hs; have H6 := Lib.hid hl6; replace H4 := Lib.hid (H4.out.calm hb); replace hu := hu.call hb; clear hb cDp hl6 H3 H5 kH5))
      go_wp2_with fail
      go_loopw [81] (fun i wr => ∃ k : Nat, k ≤ c.length ∧ i = .int .i64 k ∧ Calm w6 wr) (fun i _ => c.length - (intOf i).toNat)
      case atStart => exact ⟨0, Nat.zero_le _, rfl, Calm.refl _⟩
      case round =>
        obtain ⟨k, hk, rfl, hv⟩ := hrel
        by_cases hlt : k < c.length
        rotate_left
        · go_wp2_with (first
            | (go_at_call 27; (with_reducible refine (cLst _ (hu.call hv)).mono ?_); rintro e w8 ⟨rfl, hb⟩; replace hv := hv.call hb; clear hb cLst)
            | (go_at_call 14; (with_reducible refine (cQ _ _ _ _ _ (H4.out.calm hv) (HC.out.calm (hu.call hv))).mono ?_); rintro e wq ⟨rfl, hb⟩; replace hv := hv.call hb; clear hb cQ))
          go_ret
          exact ⟨rfl, hu.call hv⟩
        obtain ⟨b, q, p, o, f, hd, hs, ws, vs, rfl, hb, HX, e0, e1, e2, e3, e4, e5, e6⟩ := chg_get (HC.out.calm (hu.call hv)) hlt
        have hq : atErr l (p, o, f) 2147483647 = atErr N (p, o, f) 2147483647 ∧ (atVal l (p, o, f) 2147483647).s = (atVal N (p, o, f) 2147483647).s := hat.out _ (List.mem_of_getElem? HX.out)
        obtain ⟨q1, q2⟩ := hq
        have cA1 := fun u (hu : Calm w u) => runAt_any A d l p o f 2147483647 u hn (HL.out.calm hu)
        have cA2 := fun u (hu : Calm w6 u) => runAt_any A6 c6 N p o f 2147483647 u k6 (H6.out.calm hu)
        unfold AtEnd at cA1 cA2
        rw [q1] at cA1
        clear q1 HX
        generalize atErr N (p, o, f) 2147483647 = NN at cA1 cA2
        generalize atVal l (p, o, f) 2147483647 = V1 at cA1 q2
        generalize atVal N (p, o, f) 2147483647 = V2 at cA2 q2
        obtain ⟨u1, u2, u3, u4, u5, s1⟩ := V1
        obtain ⟨v1, v2, v3, v4, v5, s2⟩ := V2
        simp only at q2
        subst q2
        unfold El.val at cA1 cA2
        simp only at cA1 cA2
        have hx := Lib.hid (heap_new wr (.cells #[.int .i64 p, .int .i64 o, .int .i64 f, .bool hd, .bool hs, .string ws, .string vs] 33 (0, 0)))
        have hv1 := hv.alloc (.cells #[.int .i64 p, .int .i64 o, .int .i64 f, .bool hd, .bool hs, .string ws, .string vs] 33 (0, 0))
        go_wp2_with (first
          | (go_at_call 25; (with_reducible refine (cA1 _ (hu.call hv1)).mono ?_); rintro e w7 ⟨rfl, hb⟩; obtain ⟨x0, x1, x2, x3, x4, x5, x6, hxs⟩ := row7 ((hb.block (k := wr.heap.size) (by simp)).trans hx.out); have hxa := Lib.hid (heap_new w7 (.cells #[.int .i64 u1, .int .i64 u2, .int .i64 u3, .int .i64 u4, .int .i64 u5, .string s1] 43 (0, 0))); have hv7 := (hv1.call hb).alloc (.cells #[.int .i64 u1, .int .i64 u2, .int .i64 u3, .int .i64 u4, .int .i64 u5, .string s1] 43 (0, 0)); clear hb cA1 hv1)
          | (go_at_call 25; (with_reducible refine (cA2 _ hv7).mono ?_); rintro e w8 ⟨rfl, hb⟩; obtain ⟨-, -, -, -, -, xa5, hxas⟩ := row6 ((hb.block (row6 hxa.out).2.2.2.2.2.2).trans hxa.out); have hv8 := (hv7.call hb).alloc (.cells #[.int .i64 v1, .int .i64 v2, .int .i64 v3, .int .i64 v4, .int .i64 v5, .string s1] 43 (0, 0)); clear hb cA2 hxa hv7))
        go_roundw
        case rel => exact ⟨k + 1, by omega, by go_num, hv8⟩
        case measure => simp [intOf]; omega
    · have h5 : v = t + 1 := by rw [hv, if_pos (by omega)]
      have h6 : v = 2147483647 := by omega
      clear hv
      have cDp := cDo
      rw [h5] at cDo
      rw [h6] at cDp
      have h7 : ¬ (2147483647 < t + 1) := by omega
      have h8 : ¬ (t + 1 < 2147483647) := by omega
      clear h h5 h6
      go_enter Try.func10, Try.ntmps10
      go_upto_region 14 with (first
        | (go_at_call 21; (refine (cD1 _ _ _ (chgs_lit ch03 (heap_new _ _))).mono ?_); rintro e w2 ⟨v, rfl, hs, hb⟩; obtain ⟨A2, c2, rfl, -, -⟩ := hs; replace hu := (hu.alloc (.cells #[.int .i64 0, .int .i64 0, .int .i64 0, .bool false, .bool true, .string { data := #[] }, .string { data := #[98] }] 33 (0, 0))).call hb; clear hb cD1)
        | (go_at_call 21; (with_reducible refine (cD _ hu).mono ?_); rintro e w3 ⟨v, rfl, hs, hb⟩; obtain ⟨A3, c3, rfl, -, hl3⟩ := hs; have H3 := Lib.hid hl3; replace hu := hu.call hb; clear hb cD hl3)
        | (go_at_call 11; (with_reducible refine (cBt _ _ _ H3.out).mono ?_); rintro e wA4 ⟨v, rfl, ho, hb⟩; obtain ⟨A4, c4, rfl, kH4, H4⟩ := lies_own ho rfl; replace hu := hu.call hb; replace H3 := Lib.hid (H3.out.calm hb); clear ho hb cBt)
        | (go_at_call 12; (with_reducible refine (cK _ hu).mono ?_); rintro e wA5 ⟨v, rfl, ho, hb⟩; obtain ⟨A5, c5, rfl, kH5, H5⟩ := lies_own ho rfl; replace hu := hu.call hb; replace H3 := Lib.hid (H3.out.calm hb); replace H4 := Lib.hid (H4.out.calm hb); clear ho hb cK)
        | (go_at_call 21; (with_reducible refine (cDo _ _ _ _ _ H3.out H5.out).mono ?_); rintro e w6 ⟨v, rfl, hs, hb⟩; obtain ⟨A6, c6, rfl, k6, hl6⟩ := hs; have H6 := Lib.hid hl6; replace H4 := Lib.hid (H4.out.calm hb); replace hu := hu.call hb; clear hb cDo hl6 H3 H5 kH5)
        | (go_at_call 21; (with_reducible refine (cDp _ _ _ _ _ H3.out H5.out).mono ?_); rintro e w6 ⟨v, rfl, hs, hb⟩; obtain ⟨A6, c6, rfl, k6, hl6⟩ := hs; have H6 := Lib.hid hl6; replace H4 := Lib.hid (H4.out.calm hb); replace hu := hu.call hb; clear hb cDp hl6 H3 H5 kH5))
      go_wp2_with fail
      go_loopw [81] (fun i wr => ∃ k : Nat, k ≤ c.length ∧ i = .int .i64 k ∧ Calm w6 wr) (fun i _ => c.length - (intOf i).toNat)
      case atStart => exact ⟨0, Nat.zero_le _, rfl, Calm.refl _⟩
      case round =>
        obtain ⟨k, hk, rfl, hv⟩ := hrel
        by_cases hlt : k < c.length
        rotate_left
        · go_wp2_with (first
            | (go_at_call 27; (with_reducible refine (cLst _ (hu.call hv)).mono ?_); rintro e w8 ⟨rfl, hb⟩; replace hv := hv.call hb; clear hb cLst)
            | (go_at_call 14; (with_reducible refine (cQ _ _ _ _ _ (H4.out.calm hv) (HC.out.calm (hu.call hv))).mono ?_); rintro e wq ⟨rfl, hb⟩; replace hv := hv.call hb; clear hb cQ))
          go_ret
          exact ⟨rfl, hu.call hv⟩
        obtain ⟨b, q, p, o, f, hd, hs, ws, vs, rfl, hb, HX, e0, e1, e2, e3, e4, e5, e6⟩ := chg_get (HC.out.calm (hu.call hv)) hlt
        have hq : atErr l (p, o, f) 2147483647 = atErr N (p, o, f) 2147483647 ∧ (atVal l (p, o, f) 2147483647).s = (atVal N (p, o, f) 2147483647).s := hat.out _ (List.mem_of_getElem? HX.out)
        obtain ⟨q1, q2⟩ := hq
        have cA1 := fun u (hu : Calm w u) => runAt_any A d l p o f 2147483647 u hn (HL.out.calm hu)
        have cA2 := fun u (hu : Calm w6 u) => runAt_any A6 c6 N p o f 2147483647 u k6 (H6.out.calm hu)
        unfold AtEnd at cA1 cA2
        rw [q1] at cA1
        clear q1 HX
        generalize atErr N (p, o, f) 2147483647 = NN at cA1 cA2
        generalize atVal l (p, o, f) 2147483647 = V1 at cA1 q2
        generalize atVal N (p, o, f) 2147483647 = V2 at cA2 q2
        obtain ⟨u1, u2, u3, u4, u5, s1⟩ := V1
        obtain ⟨v1, v2, v3, v4, v5, s2⟩ := V2
        simp only at q2
        subst q2
        unfold El.val at cA1 cA2
        simp only at cA1 cA2
        have hx := Lib.hid (heap_new wr (.cells #[.int .i64 p, .int .i64 o, .int .i64 f, .bool hd, .bool hs, .string ws, .string vs] 33 (0, 0)))
        have hv1 := hv.alloc (.cells #[.int .i64 p, .int .i64 o, .int .i64 f, .bool hd, .bool hs, .string ws, .string vs] 33 (0, 0))
        go_wp2_with (first
          | (go_at_call 25; (with_reducible refine (cA1 _ (hu.call hv1)).mono ?_); rintro e w7 ⟨rfl, hb⟩; obtain ⟨x0, x1, x2, x3, x4, x5, x6, hxs⟩ := row7 ((hb.block (k := wr.heap.size) (by simp)).trans hx.out); have hxa := Lib.hid (heap_new w7 (.cells #[.int .i64 u1, .int .i64 u2, .int .i64 u3, .int .i64 u4, .int .i64 u5, .string s1] 43 (0, 0))); have hv7 := (hv1.call hb).alloc (.cells #[.int .i64 u1, .int .i64 u2, .int .i64 u3, .int .i64 u4, .int .i64 u5, .string s1] 43 (0, 0)); clear hb cA1 hv1)
          | (go_at_call 25; (with_reducible refine (cA2 _ hv7).mono ?_); rintro e w8 ⟨rfl, hb⟩; obtain ⟨-, -, -, -, -, xa5, hxas⟩ := row6 ((hb.block (row6 hxa.out).2.2.2.2.2.2).trans hxa.out); have hv8 := (hv7.call hb).alloc (.cells #[.int .i64 v1, .int .i64 v2, .int .i64 v3, .int .i64 v4, .int .i64 v5, .string s1] 43 (0, 0)); clear hb cA2 hxa hv7))
        go_roundw
        case rel => exact ⟨k + 1, by omega, by go_num, hv8⟩
        case measure => simp [intOf]; omega
    · rw [if_neg (by omega)] at hv
      subst hv
      have h8 : ¬ (t + 1 < 2147483647) := by omega
      have h7 : 2147483647 < t + 1 := by omega
      clear h
      go_enter Try.func10, Try.ntmps10
      go_upto_region 14 with (first
        | (go_at_call 21; (refine (cD1 _ _ _ (chgs_lit ch03 (heap_new _ _))).mono ?_); rintro e w2 ⟨v, rfl, hs, hb⟩; obtain ⟨A2, c2, rfl, -, -⟩ := hs; replace hu := (hu.alloc (.cells #[.int .i64 0, .int .i64 0, .int .i64 0, .bool false, .bool true, .string { data := #[] }, .string { data := #[98] }] 33 (0, 0))).call hb; clear hb cD1)
        | (go_at_call 21; (with_reducible refine (cD _ hu).mono ?_); rintro e w3 ⟨v, rfl, hs, hb⟩; obtain ⟨A3, c3, rfl, -, hl3⟩ := hs; have H3 := Lib.hid hl3; replace hu := hu.call hb; clear hb cD hl3)
        | (go_at_call 11; (with_reducible refine (cBt _ _ _ H3.out).mono ?_); rintro e wA4 ⟨v, rfl, ho, hb⟩; obtain ⟨A4, c4, rfl, kH4, H4⟩ := lies_own ho rfl; replace hu := hu.call hb; replace H3 := Lib.hid (H3.out.calm hb); clear ho hb cBt)
        | (go_at_call 12; (with_reducible refine (cK _ hu).mono ?_); rintro e wA5 ⟨v, rfl, ho, hb⟩; obtain ⟨A5, c5, rfl, kH5, H5⟩ := lies_own ho rfl; replace hu := hu.call hb; replace H3 := Lib.hid (H3.out.calm hb); replace H4 := Lib.hid (H4.out.calm hb); clear ho hb cK)
        | (go_at_call 21; (with_reducible refine (cDo _ _ _ _ _ H3.out H5.out).mono ?_); rintro e w6 ⟨v, rfl, hs, hb⟩; obtain ⟨A6, c6, rfl, k6, hl6⟩ := hs; have H6 := Lib.hid hl6; replace H4 := Lib.hid (H4.out.calm hb); replace hu := hu.call hb; clear hb cDo hl6 H3 H5 kH5)
        | (go_at_call 21; (with_reducible refine (cDp _ _ _ _ _ H3.out H5.out).mono ?_); rintro e w6 ⟨v, rfl, hs, hb⟩; obtain ⟨A6, c6, rfl, k6, hl6⟩ := hs; have H6 := Lib.hid hl6; replace H4 := Lib.hid (H4.out.calm hb); replace hu := hu.call hb; clear hb cDp hl6 H3 H5 kH5))
      go_wp2_with fail
      go_loopw [81] (fun i wr => ∃ k : Nat, k ≤ c.length ∧ i = .int .i64 k ∧ Calm w6 wr) (fun i _ => c.length - (intOf i).toNat)
      case atStart => exact ⟨0, Nat.zero_le _, rfl, Calm.refl _⟩
      case round =>
        obtain ⟨k, hk, rfl, hv⟩ := hrel
        by_cases hlt : k < c.length
        rotate_left
        · go_wp2_with (first
            | (go_at_call 27; (with_reducible refine (cLst _ (hu.call hv)).mono ?_); rintro e w8 ⟨rfl, hb⟩; replace hv := hv.call hb; clear hb cLst)
            | (go_at_call 14; (with_reducible refine (cQ _ _ _ _ _ (H4.out.calm hv) (HC.out.calm (hu.call hv))).mono ?_); rintro e wq ⟨rfl, hb⟩; replace hv := hv.call hb; clear hb cQ))
          go_ret
          exact ⟨rfl, hu.call hv⟩
        obtain ⟨b, q, p, o, f, hd, hs, ws, vs, rfl, hb, HX, e0, e1, e2, e3, e4, e5, e6⟩ := chg_get (HC.out.calm (hu.call hv)) hlt
        have hq : atErr l (p, o, f) 2147483647 = atErr N (p, o, f) 2147483647 ∧ (atVal l (p, o, f) 2147483647).s = (atVal N (p, o, f) 2147483647).s := hat.out _ (List.mem_of_getElem? HX.out)
        obtain ⟨q1, q2⟩ := hq
        have cA1 := fun u (hu : Calm w u) => runAt_any A d l p o f 2147483647 u hn (HL.out.calm hu)
        have cA2 := fun u (hu : Calm w6 u) => runAt_any A6 c6 N p o f 2147483647 u k6 (H6.out.calm hu)
        unfold AtEnd at cA1 cA2
        rw [q1] at cA1
        clear q1 HX
        generalize atErr N (p, o, f) 2147483647 = NN at cA1 cA2
        generalize atVal l (p, o, f) 2147483647 = V1 at cA1 q2
        generalize atVal N (p, o, f) 2147483647 = V2 at cA2 q2
        obtain ⟨u1, u2, u3, u4, u5, s1⟩ := V1
        obtain ⟨v1, v2, v3, v4, v5, s2⟩ := V2
        simp only at q2
        subst q2
        unfold El.val at cA1 cA2
        simp only at cA1 cA2
        have hx := Lib.hid (heap_new wr (.cells #[.int .i64 p, .int .i64 o, .int .i64 f, .bool hd, .bool hs, .string ws, .string vs] 33 (0, 0)))
        have hv1 := hv.alloc (.cells #[.int .i64 p, .int .i64 o, .int .i64 f, .bool hd, .bool hs, .string ws, .string vs] 33 (0, 0))
        go_wp2_with (first
          | (go_at_call 25; (with_reducible refine (cA1 _ (hu.call hv1)).mono ?_); rintro e w7 ⟨rfl, hb⟩; obtain ⟨x0, x1, x2, x3, x4, x5, x6, hxs⟩ := row7 ((hb.block (k := wr.heap.size) (by simp)).trans hx.out); have hxa := Lib.hid (heap_new w7 (.cells #[.int .i64 u1, .int .i64 u2, .int .i64 u3, .int .i64 u4, .int .i64 u5, .string s1] 43 (0, 0))); have hv7 := (hv1.call hb).alloc (.cells #[.int .i64 u1, .int .i64 u2, .int .i64 u3, .int .i64 u4, .int .i64 u5, .string s1] 43 (0, 0)); clear hb cA1 hv1)
          | (go_at_call 25; (with_reducible refine (cA2 _ hv7).mono ?_); rintro e w8 ⟨rfl, hb⟩; obtain ⟨-, -, -, -, -, xa5, hxas⟩ := row6 ((hb.block (row6 hxa.out).2.2.2.2.2.2).trans hxa.out); have hv8 := (hv7.call hb).alloc (.cells #[.int .i64 v1, .int .i64 v2, .int .i64 v3, .int .i64 v4, .int .i64 v5, .string s1] 43 (0, 0)); clear hb cA2 hxa hv7))
        go_roundw
        case rel => exact ⟨k + 1, by omega, by go_num, hv8⟩
        case measure => simp [intOf]; omega
  · have hDc := done_bet hE (by omega)
    rw [hM, hD] at hDc
    have b1 : (latest l == t) = false := by simpa using hlt0
    generalize latest l = L at *
    subst hDc
    have cQ := fun A c A' c' u (h : LiesC u A D) (h' : LiesC u A' D) => equalC_self A A' c c' D u (by have := gD.1; omega) h h'
    clear hlt0 hE hM hD hG gC gM gD t2
    rcases (by omega : t + 1 < 2147483647 ∨ t + 1 = 2147483647 ∨ t = 2147483647) with h | h | h
    · rw [if_pos (by omega)] at hv
      subst hv
      go_enter Try.func10, Try.ntmps10
      go_upto_region 14 with (first
        | (go_at_call 21; (refine (cD1 _ _ _ (chgs_lit ch03 (heap_new _ _))).mono ?_); rintro e w2 ⟨v, rfl, hs, hb⟩; obtain ⟨A2, c2, rfl, -, -⟩ := hs; replace hu := (hu.alloc (.cells #[.int .i64 0, .int .i64 0, .int .i64 0, .bool false, .bool true, .string { data := #[] }, .string { data := #[98] }] 33 (0, 0))).call hb; clear hb cD1)
        | (go_at_call 21; (with_reducible refine (cD _ hu).mono ?_); rintro e w3 ⟨v, rfl, hs, hb⟩; obtain ⟨A3, c3, rfl, -, hl3⟩ := hs; have H3 := Lib.hid hl3; replace hu := hu.call hb; clear hb cD hl3)
        | (go_at_call 11; (with_reducible refine (cBt _ _ _ H3.out).mono ?_); rintro e wA4 ⟨v, rfl, ho, hb⟩; obtain ⟨A4, c4, rfl, kH4, H4⟩ := lies_own ho rfl; replace hu := hu.call hb; replace H3 := Lib.hid (H3.out.calm hb); clear ho hb cBt)
        | (go_at_call 12; (with_reducible refine (cK _ hu).mono ?_); rintro e wA5 ⟨v, rfl, ho, hb⟩; obtain ⟨A5, c5, rfl, kH5, H5⟩ := lies_own ho rfl; replace hu := hu.call hb; replace H3 := Lib.hid (H3.out.calm hb); replace H4 := Lib.hid (H4.out.calm hb); clear ho hb cK)
        | (go_at_call 21; (with_reducible refine (cDo _ _ _ _ _ H3.out H5.out).mono ?_); rintro e w6 ⟨v, rfl, hs, hb⟩; obtain ⟨A6, c6, rfl, k6, hl6⟩ := hs; have H6 := Lib.hid hl6; replace H4 := Lib.hid (H4.out.calm hb); replace hu := hu.call hb; clear hb cDo hl6 H3 H5 kH5)
        | (go_at_call 21; (with_reducible refine (cDp _ _ _ _ _ H3.out H5.out).mono ?_); rintro e w6 ⟨v, rfl, hs, hb⟩; obtain ⟨A6, c6, rfl, k6, hl6⟩ := hs; have H6 := Lib.hid hl6; replace H4 := Lib.hid (H4.out.calm hb); replace hu := hu.call hb; clear hb cDp hl6 H3 H5 kH5))
      go_wp2_with fail
      go_loopw [81] (fun i wr => ∃ k : Nat, k ≤ D.length ∧ i = .int .i64 k ∧ Calm w6 wr) (fun i _ => D.length - (intOf i).toNat)
      case atStart => exact ⟨0, Nat.zero_le _, rfl, Calm.refl _⟩
      case round =>
        obtain ⟨k, hk, rfl, hv⟩ := hrel
        by_cases hlt : k < D.length
        rotate_left
        · go_wp2_with (first
            | (go_at_call 27; (with_reducible refine (cLst _ (hu.call hv)).mono ?_); rintro e w8 ⟨rfl, hb⟩; replace hv := hv.call hb; clear hb cLst)
            | (go_at_call 14; (with_reducible refine (cQ _ _ _ _ _ (H4.out.calm hv) (HC.out.calm (hu.call hv))).mono ?_); rintro e wq ⟨rfl, hb⟩; replace hv := hv.call hb; clear hb cQ))
          go_ret
          exact ⟨rfl, hu.call hv⟩
        obtain ⟨b, q, p, o, f, hd, hs, ws, vs, rfl, hb, HX, e0, e1, e2, e3, e4, e5, e6⟩ := chg_get (HC.out.calm (hu.call hv)) hlt
        have hq : atErr l (p, o, f) 2147483647 = atErr N (p, o, f) 2147483647 ∧ (atVal l (p, o, f) 2147483647).s = (atVal N (p, o, f) 2147483647).s := hat.out _ (List.mem_of_getElem? HX.out)
        obtain ⟨q1, q2⟩ := hq
        have cA1 := fun u (hu : Calm w u) => runAt_any A d l p o f 2147483647 u hn (HL.out.calm hu)
        have cA2 := fun u (hu : Calm w6 u) => runAt_any A6 c6 N p o f 2147483647 u k6 (H6.out.calm hu)
        unfold AtEnd at cA1 cA2
        rw [q1] at cA1
        clear q1 HX
        generalize atErr N (p, o, f) 2147483647 = NN at cA1 cA2
        generalize atVal l (p, o, f) 2147483647 = V1 at cA1 q2
        generalize atVal N (p, o, f) 2147483647 = V2 at cA2 q2
        obtain ⟨u1, u2, u3, u4, u5, s1⟩ := V1
        obtain ⟨v1, v2, v3, v4, v5, s2⟩ := V2
        simp only at q2
        subst q2
        unfold El.val at cA1 cA2
        simp only at cA1 cA2
        have hx := Lib.hid (heap_new wr (.cells #[.int .i64 p, .int .i64 o, .int .i64 f, .bool hd, .bool hs, .string ws, .string vs] 33 (0, 0)))
        have hv1 := hv.alloc (.cells #[.int .i64 p, .int .i64 o, .int .i64 f, .bool hd, .bool hs, .string ws, .string vs] 33 (0, 0))
        go_wp2_with (first
          | (go_at_call 25; (with_reducible refine (cA1 _ (hu.call hv1)).mono ?_); rintro e w7 ⟨rfl, hb⟩; obtain ⟨x0, x1, x2, x3, x4, x5, x6, hxs⟩ := row7 ((hb.block (k := wr.heap.size) (by simp)).trans hx.out); have hxa := Lib.hid (heap_new w7 (.cells #[.int .i64 u1, .int .i64 u2, .int .i64 u3, .int .i64 u4, .int .i64 u5, .string s1] 43 (0, 0))); have hv7 := (hv1.call hb).alloc (.cells #[.int .i64 u1, .int .i64 u2, .int .i64 u3, .int .i64 u4, .int .i64 u5, .string s1] 43 (0, 0)); clear hb cA1 hv1)
          | (go_at_call 25; (with_reducible refine (cA2 _ hv7).mono ?_); rintro e w8 ⟨rfl, hb⟩; obtain ⟨-, -, -, -, -, xa5, hxas⟩ := row6 ((hb.block (row6 hxa.out).2.2.2.2.2.2).trans hxa.out); have hv8 := (hv7.call hb).alloc (.cells #[.int .i64 v1, .int .i64 v2, .int .i64 v3, .int .i64 v4, .int .i64 v5, .string s1] 43 (0, 0)); clear hb cA2 hxa hv7))
        go_roundw
        case rel => exact ⟨k + 1, by omega, by go_num, hv8⟩
        case measure => simp [intOf]; omega
    · have h5 : v = t + 1 := by rw [hv, if_pos (by omega)]
      have h6 : v = 2147483647 := by omega
      clear hv
      have cDp := cDo
      rw [h5] at cDo
      rw [h6] at cDp
      have h7 : ¬ (2147483647 < t + 1) := by omega
      have h8 : ¬ (t + 1 < 2147483647) := by omega
      clear h h5 h6
      go_enter Try.func10, Try.ntmps10
      go_upto_region 14 with (first
        | (go_at_call 21; (refine (cD1 _ _ _ (chgs_lit ch03 (heap_new _ _))).mono ?_); rintro e w2 ⟨v, rfl, hs, hb⟩; obtain ⟨A2, c2, rfl, -, -⟩ := hs; replace hu := (hu.alloc (.cells #[.int .i64 0, .int .i64 0, .int .i64 0, .bool false, .bool true, .string { data := #[] }, .string { data := #[98] }] 33 (0, 0))).call hb; clear hb cD1)
        | (go_at_call 21; (with_reducible refine (cD _ hu).mono ?_); rintro e w3 ⟨v, rfl, hs, hb⟩; obtain ⟨A3, c3, rfl, -, hl3⟩ := hs; have H3 := Lib.hid hl3; replace hu := hu.call hb; clear hb cD hl3)
        | (go_at_call 11; (with_reducible refine (cBt _ _ _ H3.out).mono ?_); rintro e wA4 ⟨v, rfl, ho, hb⟩; obtain ⟨A4, c4, rfl, kH4, H4⟩ := lies_own ho rfl; replace hu := hu.call hb; replace H3 := Lib.hid (H3.out.calm hb); clear ho hb cBt)
        | (go_at_call 12; (with_reducible refine (cK _ hu).mono ?_); rintro e wA5 ⟨v, rfl, ho, hb⟩; obtain ⟨A5, c5, rfl, kH5, H5⟩ := lies_own ho rfl; replace hu := hu.call hb; replace H3 := Lib.hid (H3.out.calm hb); replace H4 := Lib.hid (H4.out.calm hb); clear ho hb cK)
        | (go_at_call 21; (with_reducible refine (cDo _ _ _ _ _ H3.out H5.out).mono ?_); rintro e w6 ⟨v, rfl, hs, hb⟩; obtain ⟨A6, c6, rfl, k6, hl6⟩ := hs; have H6 := Lib.hid hl6; replace H4 := Lib.hid (H4.out.calm hb); replace hu := hu.call hb; clear hb cDo hl6 H3 H5 kH5)
        | (go_at_call 21; (with_reducible refine (cDp _ _ _ _ _ H3.out H5.out).mono ?_); rintro e w6 ⟨v, rfl, hs, hb⟩; obtain ⟨A6, c6, rfl, k6, hl6⟩ := hs; have H6 := Lib.hid hl6; replace H4 := Lib.hid (H4.out.calm hb); replace hu := hu.call hb; clear hb cDp hl6 H3 H5 kH5))
      go_wp2_with fail
      go_loopw [81] (fun i wr => ∃ k : Nat, k ≤ D.length ∧ i = .int .i64 k ∧ Calm w6 wr) (fun i _ => D.length - (intOf i).toNat)
      case atStart => exact ⟨0, Nat.zero_le _, rfl, Calm.refl _⟩
      case round =>
        obtain ⟨k, hk, rfl, hv⟩ := hrel
        by_cases hlt : k < D.length
        rotate_left
        · go_wp2_with (first
            | (go_at_call 27; (with_reducible refine (cLst _ (hu.call hv)).mono ?_); rintro e w8 ⟨rfl, hb⟩; replace hv := hv.call hb; clear hb cLst)
            | (go_at_call 14; (with_reducible refine (cQ _ _ _ _ _ (H4.out.calm hv) (HC.out.calm (hu.call hv))).mono ?_); rintro e wq ⟨rfl, hb⟩; replace hv := hv.call hb; clear hb cQ))
          go_ret
          exact ⟨rfl, hu.call hv⟩
        obtain ⟨b, q, p, o, f, hd, hs, ws, vs, rfl, hb, HX, e0, e1, e2, e3, e4, e5, e6⟩ := chg_get (HC.out.calm (hu.call hv)) hlt
        have hq : atErr l (p, o, f) 2147483647 = atErr N (p, o, f) 2147483647 ∧ (atVal l (p, o, f) 2147483647).s = (atVal N (p, o, f) 2147483647).s := hat.out _ (List.mem_of_getElem? HX.out)
        obtain ⟨q1, q2⟩ := hq
        have cA1 := fun u (hu : Calm w u) => runAt_any A d l p o f 2147483647 u hn (HL.out.calm hu)
        have cA2 := fun u (hu : Calm w6 u) => runAt_any A6 c6 N p o f 2147483647 u k6 (H6.out.calm hu)
        unfold AtEnd at cA1 cA2
        rw [q1] at cA1
        clear q1 HX
        generalize atErr N (p, o, f) 2147483647 = NN at cA1 cA2
        generalize atVal l (p, o, f) 2147483647 = V1 at cA1 q2
        generalize atVal N (p, o, f) 2147483647 = V2 at cA2 q2
        obtain ⟨u1, u2, u3, u4, u5, s1⟩ := V1
        obtain ⟨v1, v2, v3, v4, v5, s2⟩ := V2
        simp only at q2
        subst q2
        unfold El.val at cA1 cA2
        simp only at cA1 cA2
        have hx := Lib.hid (heap_new wr (.cells #[.int .i64 p, .int .i64 o, .int .i64 f, .bool hd, .bool hs, .string ws, .string vs] 33 (0, 0)))
        have hv1 := hv.alloc (.cells #[.int .i64 p, .int .i64 o, .int .i64 f, .bool hd, .bool hs, .string ws, .string vs] 33 (0, 0))
        go_wp2_with (first
          | (go_at_call 25; (with_reducible refine (cA1 _ (hu.call hv1)).mono ?_); rintro e w7 ⟨rfl, hb⟩; obtain ⟨x0, x1, x2, x3, x4, x5, x6, hxs⟩ := row7 ((hb.block (k := wr.heap.size) (by simp)).trans hx.out); have hxa := Lib.hid (heap_new w7 (.cells #[.int .i64 u1, .int .i64 u2, .int .i64 u3, .int .i64 u4, .int .i64 u5, .string s1] 43 (0, 0))); have hv7 := (hv1.call hb).alloc (.cells #[.int .i64 u1, .int .i64 u2, .int .i64 u3, .int .i64 u4, .int .i64 u5, .string s1] 43 (0, 0)); clear hb cA1 hv1)
          | (go_at_call 25; (with_reducible refine (cA2 _ hv7).mono ?_); rintro e w8 ⟨rfl, hb⟩; obtain ⟨-, -, -, -, -, xa5, hxas⟩ := row6 ((hb.block (row6 hxa.out).2.2.2.2.2.2).trans hxa.out); have hv8 := (hv7.call hb).alloc (.cells #[.int .i64 v1, .int .i64 v2, .int .i64 v3, .int .i64 v4, .int .i64 v5, .string s1] 43 (0, 0)); clear hb cA2 hxa hv7))
        go_roundw
        case rel => exact ⟨k + 1, by omega, by go_num, hv8⟩
        case measure => simp [intOf]; omega
    · rw [if_neg (by omega)] at hv
      subst hv
      have h8 : ¬ (t + 1 < 2147483647) := by omega
      have h7 : 2147483647 < t + 1 := by omega
      clear h
      go_enter Try.func10, Try.ntmps10
      go_upto_region 14 with (first
        | (go_at_call 21; (refine (cD1 _ _ _ (chgs_lit ch03 (heap_new _ _))).mono ?_); rintro e w2 ⟨v, rfl, hs, hb⟩; obtain ⟨A2, c2, rfl, -, -⟩ := hs; replace hu := (hu.alloc (.cells #[.int .i64 0, .int .i64 0, .int .i64 0, .bool false, .bool true, .string { data := #[] }, .string { data := #[98] }] 33 (0, 0))).call hb; clear hb cD1)
        | (go_at_call 21; (with_reducible refine (cD _ hu).mono ?_); rintro e w3 ⟨v, rfl, hs, hb⟩; obtain ⟨A3, c3, rfl, -, hl3⟩ := hs; have H3 := Lib.hid hl3; replace hu := hu.call hb; clear hb cD hl3)
        | (go_at_call 11; (with_reducible refine (cBt _ _ _ H3.out).mono ?_); rintro e wA4 ⟨v, rfl, ho, hb⟩; obtain ⟨A4, c4, rfl, kH4, H4⟩ := lies_own ho rfl; replace hu := hu.call hb; replace H3 := Lib.hid (H3.out.calm hb); clear ho hb cBt)
        | (go_at_call 12; (with_reducible refine (cK _ hu).mono ?_); rintro e wA5 ⟨v, rfl, ho, hb⟩; obtain ⟨A5, c5, rfl, kH5, H5⟩ := lies_own ho rfl; replace hu := hu.call hb; replace H3 := Lib.hid (H3.out.calm hb); replace H4 := Lib.hid (H4.out.calm hb); clear ho hb cK)
        | (go_at_call 21; (with_reducible refine (cDo _ _ _ _ _ H3.out H5.out).mono ?_); rintro e w6 ⟨v, rfl, hs, hb⟩; obtain ⟨A6, c6, rfl, k6, hl6⟩ := hs; have H6 := Lib.hid hl6; replace H4 := Lib.hid (H4.out.calm hb); replace hu := hu.call hb; clear hb cDo hl6 H3 H5 kH5)
        | (go_at_call 21; (with_reducible refine (cDp _ _ _ _ _ H3.out H5.out).mono ?_); rintro e w6 ⟨v, rfl, hs, hb⟩; obtain ⟨A6, c6, rfl, k6, hl6⟩ := hs; have H6 := Lib.hid hl6; replace H4 := Lib.hid (H4.out.calm hb); replace hu := hu.call hb; clear hb cDp hl6 H3 H5 kH5))
      go_wp2_with fail
      go_loopw [81] (fun i wr => ∃ k : Nat, k ≤ D.length ∧ i = .int .i64 k ∧ Calm w6 wr) (fun i _ => D.length - (intOf i).toNat)
      case atStart => exact ⟨0, Nat.zero_le _, rfl, Calm.refl _⟩
      case round =>
        obtain ⟨k, hk, rfl, hv⟩ := hrel
        by_cases hlt : k < D.length
        rotate_left
        · go_wp2_with (first
            | (go_at_call 27; (with_reducible refine (cLst _ (hu.call hv)).mono ?_); rintro e w8 ⟨rfl, hb⟩; replace hv := hv.call hb; clear hb cLst)
            | (go_at_call 14; (with_reducible refine (cQ _ _ _ _ _ (H4.out.calm hv) (HC.out.calm (hu.call hv))).mono ?_); rintro e wq ⟨rfl, hb⟩; replace hv := hv.call hb; clear hb cQ))
          go_ret
          exact ⟨rfl, hu.call hv⟩
        obtain ⟨b, q, p, o, f, hd, hs, ws, vs, rfl, hb, HX, e0, e1, e2, e3, e4, e5, e6⟩ := chg_get (HC.out.calm (hu.call hv)) hlt
        have hq : atErr l (p, o, f) 2147483647 = atErr N (p, o, f) 2147483647 ∧ (atVal l (p, o, f) 2147483647).s = (atVal N (p, o, f) 2147483647).s := hat.out _ (List.mem_of_getElem? HX.out)
        obtain ⟨q1, q2⟩ := hq
        have cA1 := fun u (hu : Calm w u) => runAt_any A d l p o f 2147483647 u hn (HL.out.calm hu)
        have cA2 := fun u (hu : Calm w6 u) => runAt_any A6 c6 N p o f 2147483647 u k6 (H6.out.calm hu)
        unfold AtEnd at cA1 cA2
        rw [q1] at cA1
        clear q1 HX
        generalize atErr N (p, o, f) 2147483647 = NN at cA1 cA2
        generalize atVal l (p, o, f) 2147483647 = V1 at cA1 q2
        generalize atVal N (p, o, f) 2147483647 = V2 at cA2 q2
        obtain ⟨u1, u2, u3, u4, u5, s1⟩ := V1
        obtain ⟨v1, v2, v3, v4, v5, s2⟩ := V2
        simp only at q2
        subst q2
        unfold El.val at cA1 cA2
        simp only at cA1 cA2
        have hx := Lib.hid (heap_new wr (.cells #[.int .i64 p, .int .i64 o, .int .i64 f, .bool hd, .bool hs, .string ws, .string vs] 33 (0, 0)))
        have hv1 := hv.alloc (.cells #[.int .i64 p, .int .i64 o, .int .i64 f, .bool hd, .bool hs, .string ws, .string vs] 33 (0, 0))
        go_wp2_with (first
          | (go_at_call 25; (with_reducible refine (cA1 _ (hu.call hv1)).mono ?_); rintro e w7 ⟨rfl, hb⟩; obtain ⟨x0, x1, x2, x3, x4, x5, x6, hxs⟩ := row7 ((hb.block (k := wr.heap.size) (by simp)).trans hx.out); have hxa := Lib.hid (heap_new w7 (.cells #[.int .i64 u1, .int .i64 u2, .int .i64 u3, .int .i64 u4, .int .i64 u5, .string s1] 43 (0, 0))); have hv7 := (hv1.call hb).alloc (.cells #[.int .i64 u1, .int .i64 u2, .int .i64 u3, .int .i64 u4, .int .i64 u5, .string s1] 43 (0, 0)); clear hb cA1 hv1)
          | (go_at_call 25; (with_reducible refine (cA2 _ hv7).mono ?_); rintro e w8 ⟨rfl, hb⟩; obtain ⟨-, -, -, -, -, xa5, hxas⟩ := row6 ((hb.block (row6 hxa.out).2.2.2.2.2.2).trans hxa.out); have hv8 := (hv7.call hb).alloc (.cells #[.int .i64 v1, .int .i64 v2, .int .i64 v3, .int .i64 v4, .int .i64 v5, .string s1] 43 (0, 0)); clear hb cA2 hxa hv7))
        go_roundw
        case rel => exact ⟨k + 1, by omega, by go_num, hv8⟩
        case measure => simp [intOf]; omega
end Go.Proofs.Ythfjanmihfbjoaa
