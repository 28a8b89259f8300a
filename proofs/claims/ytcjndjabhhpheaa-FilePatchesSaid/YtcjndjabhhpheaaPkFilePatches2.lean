/- Texts of one kind in one file. -/
import Derived.Deep.LoopGhost
import Derived.Outline
import Derived.IntWalk
import Derived.Lib.Hide
import Derived.Deep.AppendSrc
import Derived.Deep.RegionLaw
import Derived.Laws.Externs
import Derived.Lib.AppendZerosOnto
import Derived.Lib.Overlaps
import Derived.Lib.SliceRun
import Derived.Maps.StringElems
import Derived.Maps.OwnSet
import Derived.Laws.BitsAll
import Derived.Laws.BytesArg
import Derived.Test.YtcjndjabhhpheaaShelf
import Derived.Lib.Builder
import Derived.Lib.UnsafeStr
import Derived.Deep.RegionWith
import Derived.Test.YtcjndjabhhpheaaPkFilePatches1
set_option maxRecDepth 100000
namespace Go.Proofs.Ytcjndjabhhpheaa
open Go.RowKit
theorem decide_Fol (p o f m g : Int) (s : ByteArray) (p' o' f' m' g' : Int) (s' : ByteArray) :
    decide (Fol ⟨p, o, f, m, g, s⟩ ⟨p', o', f', m', g', s'⟩) = (decide (scmp p o f m p' o' f' m' = -1) && (!decide ((p, o, f) = (p', o', f')) || !decide (liveP m g m'))) := by
  rw [Bool.eq_iff_iff]
  simp only [Bool.and_eq_true, Bool.or_eq_true, decide_eq_true_eq, Bool.not_eq_true', decide_eq_false_iff_not]
  have h := scmp_sLt (a := ⟨p, o, f, m, g, s⟩) (b := ⟨p', o', f', m', g', s'⟩)
  simp only at h
  rw [h]
  unfold Fol
  simp only [El.key]
  constructor
  · rintro ⟨h1, h2⟩
    refine ⟨h1, ?_⟩
    by_cases e : (p, o, f) = (p', o', f')
    · right; have := h2 e; unfold liveP; omega
    · exact .inl e
  · rintro ⟨h1, h2⟩
    refine ⟨h1, fun e => ?_⟩
    rcases h2 with h2 | h2
    · exact absurd e h2
    · rw [e, sLt_same] at h1
      unfold liveP at h2; omega
set_option maxHeartbeats 2000000 in
theorem follows_any (p o f m g : Int) (s : ByteArray) (p' o' f' m' g' : Int) (s' : ByteArray) (w : World) :
    Calls Try.prog 55 #[.agg #[.int .i64 p, .int .i64 o, .int .i64 f, .int .i64 m, .int .i64 g, .string s], .agg #[.int .i64 p', .int .i64 o', .int .i64 f', .int .i64 m', .int .i64 g', .string s']] w fun e w' => e = .returned (.bool (decide (Fol ⟨p, o, f, m, g, s⟩ ⟨p', o', f', m', g', s'⟩))) ∧ Calm w w' := by
  rw [decide_Fol]
  have hc := scmp_or p o f m p' o' f' m'
  generalize hK : scmp p o f m p' o' f' m' = c at hc ⊢
  have cS : ∀ u, Calls Try.prog 69 #[.agg #[.int .i64 p, .int .i64 o, .int .i64 f, .int .i64 m], .agg #[.int .i64 p', .int .i64 o', .int .i64 f', .int .i64 m']] u fun e w' => e = .returned (.int .i64 c) ∧ Calm u w' := fun u => hK ▸ cmpSpot_any p o f m p' o' f' m' u
  clear hK
  go_enter Try.func55, Try.ntmps55
  go_upto_region 1 with fail
  have hx : ((w.alloc (.cells #[.int .i64 p, .int .i64 o, .int .i64 f, .int .i64 m, .int .i64 g, .string s] 41)).alloc (.cells #[.int .i64 p', .int .i64 o', .int .i64 f', .int .i64 m', .int .i64 g', .string s'] 41)).heap[w.heap.size]? = some (.cells #[.int .i64 p, .int .i64 o, .int .i64 f, .int .i64 m, .int .i64 g, .string s] 41 (0, 0)) := heap_past _ (heap_new _ _)
  have hy : ((w.alloc (.cells #[.int .i64 p, .int .i64 o, .int .i64 f, .int .i64 m, .int .i64 g, .string s] 41)).alloc (.cells #[.int .i64 p', .int .i64 o', .int .i64 f', .int .i64 m', .int .i64 g', .string s'] 41)).heap[w.heap.size + 1]? = some (.cells #[.int .i64 p', .int .i64 o', .int .i64 f', .int .i64 m', .int .i64 g', .string s'] 41 (0, 0)) := by simpa using heap_new (w.alloc (.cells #[.int .i64 p, .int .i64 o, .int .i64 f, .int .i64 m, .int .i64 g, .string s] 41)) (.cells #[.int .i64 p', .int .i64 o', .int .i64 f', .int .i64 m', .int .i64 g', .string s'] 41)
  have hu : Calm w ((w.alloc (.cells #[.int .i64 p, .int .i64 o, .int .i64 f, .int .i64 m, .int .i64 g, .string s] 41)).alloc (.cells #[.int .i64 p', .int .i64 o', .int .i64 f', .int .i64 m', .int .i64 g', .string s'] 41)) := ((Calm.refl _).alloc _).alloc _
  generalize ((w.alloc (.cells #[.int .i64 p, .int .i64 o, .int .i64 f, .int .i64 m, .int .i64 g, .string s] 41)).alloc (.cells #[.int .i64 p', .int .i64 o', .int .i64 f', .int .i64 m', .int .i64 g', .string s'] 41)) = wc at hx hy hu ⊢
  obtain ⟨x0, x1, x2, x3, x4, x5, hxs⟩ := row6 hx
  obtain ⟨y0, y1, y2, y3, y4, y5, hys⟩ := row6 hy
  refine wp_region_plan [.val (.agg #[.int .i64 p, .int .i64 o, .int .i64 f, .int .i64 m, .int .i64 g, .string s]), .val (.agg #[.int .i64 p, .int .i64 o, .int .i64 f, .int .i64 m]), .val (.agg #[.int .i64 p', .int .i64 o', .int .i64 f', .int .i64 m', .int .i64 g', .string s']), .val (.agg #[.int .i64 p', .int .i64 o', .int .i64 f', .int .i64 m']), .val (.int .i64 c), .val (.bool (decide (0 ≤ c)))] (by kernel_rfl) (by kernel_rfl) (by kernel_rfl) ?_
  intro X
  iterate 6
    refine plan_val (by kernel_rfl) (fun u hu => ?_) ?_
    · obtain ⟨hc, hf, hz⟩ := hu.of_drew.facts
      go_simp
      all_goals first
        | (go_at_call 60; exact spot_any _ _ _ _ _ _ _)
        | (go_at_call 69; exact cS _)
    simp only [Act.put, List.setIfInBounds_toArray, List.set_cons_zero, List.set_cons_succ, Nat.reduceAdd]
  refine plan_end ?_
  intro w' hB
  have hk := hB.calm.of_drew
  clear hB cS
  replace hx := (hk.block hxs).trans hx
  replace hy := (hk.block hys).trans hy
  replace hu := hu.call hk
  clear hk x0 x1 x2 x3 x4 x5 y0 y1 y2 y3 y4 y5 hxs hys
  obtain ⟨x0, x1, x2, x3, x4, x5, hxs⟩ := row6 hx
  obtain ⟨y0, y1, y2, y3, y4, y5, hys⟩ := row6 hy
  by_cases h1 : 0 ≤ c
  · have e1 : decide (0 ≤ c) = true := decide_eq_true h1
    have e2 : decide (c = -1) = false := decide_eq_false (by omega)
    go_wp2_with fail
    go_ret
    exact ⟨by rw [e2]; rfl, hu⟩
  · have e1 : decide (0 ≤ c) = false := decide_eq_false h1
    have e2 : c = -1 := by omega
    subst e2
    clear hc h1
    go_wp2_with (go_at_call 63; refine (live_any _ _ _ _ _ _ _ _).mono ?_; rintro e w1 ⟨rfl, hb1⟩)
    all_goals
      go_ret
      exact ⟨rfl, by first | exact hu | exact hu.call (by assumption)⟩
theorem stepErr_err {l : List El} {k : Nat} {e : El} (h : l[k]? = some e) (he : e.err ≠ 0) : stepErr l k = e.err := by
 unfold stepErr; rw [h]; simp only; rw [if_pos he]
theorem runErr_at {l : List El} {k : Nat} (hl : ¬ 400 < l.length) (h : ∀ j, j < k → stepErr l j = 0) (hk : stepErr l k ≠ 0) (hlt : k < l.length) : stepErr l k = runErr l := by
 unfold runErr; rw [if_neg hl, firstErr_at h hk hlt]
theorem runErr_good {l : List El} (hl : ¬ 400 < l.length) (h : ∀ j, j < l.length → stepErr l j = 0) : 0 = runErr l := by
 unfold runErr; rw [if_neg hl, firstErr_zero.2 h]
theorem stepErr_form {l : List El} {k : Nat} {e d : El} (h : l[k]? = some e) (he : e.err = 0) (h0 : 0 < k) (hd : l[k - 1]? = some d) : stepErr l k = if Fol d e then 0 else 3 := by
 unfold stepErr; rw [h]; simp only; rw [if_neg (by simpa using he), if_neg (by omega), hd]
theorem stepErr_first {l : List El} {e : El} (h : l[0]? = some e) (he : e.err = 0) : stepErr l 0 = 0 := by
 unfold stepErr; rw [h]; simp only; rw [if_neg (by simpa using he)]; rfl
def NoErr (l : List El) (k : Nat) : Prop := ∀ j, j < k → stepErr l j = 0
set_option maxHeartbeats 4000000 in
theorem runCheck_any (A : Option Addr) (c : Nat) (l : List El) (w : World) (hn : l.length ≤ 9223372036854775807) (hL : Lies w A l) :
    Calls Try.prog 31 #[.slice A l.length c] w fun e w' => e = .returned (.int .i64 (runErr l)) ∧ Calm w w' := by
  by_cases hbig : 400 < l.length
  · have K : Hid (2 = runErr l) := by show _ = _; unfold runErr; rw [if_pos hbig]
    go_enter Try.func31, Try.ntmps31
    go_wp2_with fail
    go_ret
    exact ⟨ret_int K.out, Calm.refl _⟩
  go_enter Try.func31, Try.ntmps31
  go_wp2_with fail
  go_loopw [11] (fun i wr => ∃ k : Nat, k ≤ l.length ∧ i = .int .i64 k ∧ Calm w wr ∧ NoErr l k) (fun i _ => l.length - (intOf i).toNat)
  case atStart => exact ⟨0, Nat.zero_le _, rfl, Calm.refl _, fun j hj => absurd hj (Nat.not_lt_zero _)⟩
  case round =>
    obtain ⟨k, hk, rfl, hu, hN⟩ := hrel
    by_cases hlt : k < l.length
    rotate_left
    · have hkl : k = l.length := by omega
      have K : Hid (0 = runErr l) := runErr_good hbig (by rw [← hkl]; exact hN)
      clear hkl
      go_wp2_with fail
      go_ret
      exact ⟨ret_int K.out, hu⟩
    obtain ⟨b, q, p, o, f, m, g, s, rfl, hb, HE, hm, c0, c1, c2, c3, c4, c5⟩ := (hL.calm hu).get hlt
    by_cases he : elemErr p o f m g s.size = 0
    rotate_left
    · have b1 : (elemErr p o f m g s.size != 0) = true := by simpa using he
      have K : Hid (elemErr p o f m g s.size = runErr l) := by
        have h1 := stepErr_err HE.out (show El.err ⟨p, o, f, m, g, s⟩ ≠ 0 from he)
        rw [← runErr_at hbig hN (by rw [h1]; exact he) hlt, h1]; rfl
      clear he
      go_wp2_with (go_at_call 54; refine (elemCheck_any _ _ _ _ _ _ _).mono ?_; rintro e w1 ⟨rfl, hb1⟩)
      go_ret
      exact ⟨ret_int K.out, by repeat (first | (with_reducible exact Calm.refl _) | (with_reducible refine Calm.alloc ?_ _) | (with_reducible refine Calm.drew ?_) | (with_reducible refine Calm.drewN ?_ _) | (refine Calm.call ?_ (by with_reducible assumption)))⟩
    have b1 : (elemErr p o f m g s.size != 0) = false := by simpa using he
    have HE0 : Hid (elemErr p o f m g s.size = 0) := he
    clear he
    by_cases hk0 : k = 0
    · subst hk0
      have hN1 : NoErr l 1 := fun j hj => by
        have : j = 0 := by omega
        subst this
        exact stepErr_first HE.out HE0.out
      simp only [Nat.zero_mul, Nat.add_zero] at c0 c1 c2 c3 c4 c5
      go_wp2_with (go_at_call 54; refine (elemCheck_any _ _ _ _ _ _ _).mono ?_; rintro e w1 ⟨rfl, hb1⟩)
      refine wp_region_plan [.val (.int .i64 0), .val (.bool false), .val (.bool false), .idle, .idle, .idle, .idle, .idle, .idle, .idle, .idle, .val (.bool false)] (by kernel_rfl) (by kernel_rfl) (by kernel_rfl) ?_
      intro X
      iterate 3
        refine plan_val (by kernel_rfl) (fun u hu => ?_) ?_
        · obtain ⟨hc, hf, hz⟩ := hu.of_drew.facts
          go_simp
        simp only [Act.put, List.setIfInBounds_toArray, List.set_cons_zero, List.set_cons_succ, Nat.reduceAdd]
      iterate 8
        refine plan_idle (by kernel_rfl) ?_
        simp only [Act.put, List.setIfInBounds_toArray, List.set_cons_zero, List.set_cons_succ, Nat.reduceAdd]
      iterate 1
        refine plan_val (by kernel_rfl) (fun u hu => ?_) ?_
        · obtain ⟨hc, hf, hz⟩ := hu.of_drew.facts
          go_simp
        simp only [Act.put, List.setIfInBounds_toArray, List.set_cons_zero, List.set_cons_succ, Nat.reduceAdd]
      refine plan_end ?_
      intro w' hB
      have hk := hB.calm.of_drew
      clear hB
      go_wp2_with fail
      exact ⟨⟨1, by omega, rfl, ((hu.alloc _).call hb1).call hk, hN1⟩, by simp [intOf]; omega⟩
    obtain ⟨p', o', f', m', g', s', HE', hm', d0, d1, d2, d3, d4, d5⟩ := (hL.calm hu).get2 (k := k - 1) (by omega)
    have hS := stepErr_form HE.out HE0.out (by omega) HE'.out
    have hk1 : 1 ≤ k := by omega
    by_cases hF : Fol ⟨p', o', f', m', g', s'⟩ ⟨p, o, f, m, g, s⟩
    · have b2 : decide (Fol ⟨p', o', f', m', g', s'⟩ ⟨p, o, f, m, g, s⟩) = true := decide_eq_true hF
      rw [if_pos hF] at hS
      have hN1 : NoErr l (k + 1) := fun j hj => by
        rcases Nat.lt_or_ge j k with h | h
        · exact hN j h
        · rw [show j = k by omega]; exact hS
      clear hS hF hk0
      go_wp2_with (go_at_call 54; refine (elemCheck_any _ _ _ _ _ _ _).mono ?_; rintro e w1 ⟨rfl, hb1⟩)
      have hx := (hb1.block (k := wr.heap.size) (by simp)).trans (heap_new wr _)
      obtain ⟨x0, x1, x2, x3, x4, x5, hxs⟩ := row6 hx
      have hv := ((Calm.refl wr).alloc _).call hb1
      have hv1 := hu.call hv
      have hb2 : b < w1.heap.size := Nat.lt_of_lt_of_le hb hv.size
      have hvc := hv.facts.1
      replace d0 := (hvc _ _ hb).trans d0; replace d1 := (hvc _ _ hb).trans d1; replace d2 := (hvc _ _ hb).trans d2; replace d3 := (hvc _ _ hb).trans d3; replace d4 := (hvc _ _ hb).trans d4; replace d5 := (hvc _ _ hb).trans d5
      clear hvc hv hb1 hx c0 c1 c2 c3 c4 c5 b1 hL
      have F : ∀ u, Calls Try.prog 55 #[.agg #[.int .i64 p', .int .i64 o', .int .i64 f', .int .i64 m', .int .i64 g', .string s'], .agg #[.int .i64 p, .int .i64 o, .int .i64 f, .int .i64 m, .int .i64 g, .string s]] u fun e w' => e = .returned (.bool true) ∧ Calm u w' := fun u => by
        rw [← b2]; exact follows_any p' o' f' m' g' s' p o f m g s u
      clear b2
      have z0 : 0 < k := hk1
      have z1 : IntKind.i64.wrap ((k : Int) - 1) = (k : Int) - 1 := IntWalk.i64_in _ (by omega)
      have z2 : ((k : Int) - 1).toNat = k - 1 := by omega
      have z3 : 0 ≤ (k : Int) - 1 := by omega
      have z4 : (k : Int) - 1 < l.length := by omega
      have z5 : 1 ≤ (k : Int) := by omega
      refine wp_region_plan [.val (.int .i64 k), .val (.bool true), .val (.bool true), .val (.slice (some ⟨b, q, none⟩) l.length c), .val (.int .i64 k), .val (.int .i64 (k - 1)), .val (.pointer (some ⟨b, q + (k - 1) * 6, none⟩)), .val (.agg #[.int .i64 p', .int .i64 o', .int .i64 f', .int .i64 m', .int .i64 g', .string s']), .val (.agg #[.int .i64 p, .int .i64 o, .int .i64 f, .int .i64 m, .int .i64 g, .string s]), .val (.bool true), .val (.bool false), .val (.bool false)] (by kernel_rfl) (by kernel_rfl) (by kernel_rfl) ?_
      intro X
      iterate 12
        refine plan_val (by kernel_rfl) (fun u hu => ?_) ?_
        · obtain ⟨hc, hf, hz⟩ := hu.of_drew.facts
          go_simp
          all_goals first
            | (go_at_call 55; exact F _)
        simp only [Act.put, List.setIfInBounds_toArray, List.set_cons_zero, List.set_cons_succ, Nat.reduceAdd]
      refine plan_end ?_
      intro w' hB
      have hk := hB.calm.of_drew
      clear hB z0 z1 z2 z3 z4 z5
      go_wp2_with fail
      go_roundw
      case rel => exact ⟨k + 1, by omega, by go_num, hv1.call hk, hN1⟩
      case measure => simp [intOf]; omega
    · have b2 : decide (Fol ⟨p', o', f', m', g', s'⟩ ⟨p, o, f, m, g, s⟩) = false := decide_eq_false hF
      rw [if_neg hF] at hS
      have K : Hid (3 = runErr l) := hS.symm.trans (runErr_at hbig hN (by rw [hS]; decide) hlt)
      clear hS hF hk0
      go_wp2_with (go_at_call 54; refine (elemCheck_any _ _ _ _ _ _ _).mono ?_; rintro e w1 ⟨rfl, hb1⟩)
      have hx := (hb1.block (k := wr.heap.size) (by simp)).trans (heap_new wr _)
      obtain ⟨x0, x1, x2, x3, x4, x5, hxs⟩ := row6 hx
      have hv := ((Calm.refl wr).alloc _).call hb1
      have hv1 := hu.call hv
      have hb2 : b < w1.heap.size := Nat.lt_of_lt_of_le hb hv.size
      have hvc := hv.facts.1
      replace d0 := (hvc _ _ hb).trans d0; replace d1 := (hvc _ _ hb).trans d1; replace d2 := (hvc _ _ hb).trans d2; replace d3 := (hvc _ _ hb).trans d3; replace d4 := (hvc _ _ hb).trans d4; replace d5 := (hvc _ _ hb).trans d5
      clear hvc hv hb1 hx c0 c1 c2 c3 c4 c5 b1 hL
      have F : ∀ u, Calls Try.prog 55 #[.agg #[.int .i64 p', .int .i64 o', .int .i64 f', .int .i64 m', .int .i64 g', .string s'], .agg #[.int .i64 p, .int .i64 o, .int .i64 f, .int .i64 m, .int .i64 g, .string s]] u fun e w' => e = .returned (.bool false) ∧ Calm u w' := fun u => by
        rw [← b2]; exact follows_any p' o' f' m' g' s' p o f m g s u
      clear b2
      have z0 : 0 < k := hk1
      have z1 : IntKind.i64.wrap ((k : Int) - 1) = (k : Int) - 1 := IntWalk.i64_in _ (by omega)
      have z2 : ((k : Int) - 1).toNat = k - 1 := by omega
      have z3 : 0 ≤ (k : Int) - 1 := by omega
      have z4 : (k : Int) - 1 < l.length := by omega
      have z5 : 1 ≤ (k : Int) := by omega
      refine wp_region_plan [.val (.int .i64 k), .val (.bool true), .val (.bool true), .val (.slice (some ⟨b, q, none⟩) l.length c), .val (.int .i64 k), .val (.int .i64 (k - 1)), .val (.pointer (some ⟨b, q + (k - 1) * 6, none⟩)), .val (.agg #[.int .i64 p', .int .i64 o', .int .i64 f', .int .i64 m', .int .i64 g', .string s']), .val (.agg #[.int .i64 p, .int .i64 o, .int .i64 f, .int .i64 m, .int .i64 g, .string s]), .val (.bool false), .val (.bool true), .val (.bool true)] (by kernel_rfl) (by kernel_rfl) (by kernel_rfl) ?_
      intro X
      iterate 12
        refine plan_val (by kernel_rfl) (fun u hu => ?_) ?_
        · obtain ⟨hc, hf, hz⟩ := hu.of_drew.facts
          go_simp
          all_goals first
            | (go_at_call 55; exact F _)
        simp only [Act.put, List.setIfInBounds_toArray, List.set_cons_zero, List.set_cons_succ, Nat.reduceAdd]
      refine plan_end ?_
      intro w' hB
      have hk := hB.calm.of_drew
      clear hB z0 z1 z2 z3 z4 z5
      go_wp2_with fail
      go_ret
      exact ⟨ret_int K.out, hv1.call hk⟩
set_option maxHeartbeats 4000000 in
theorem runLast_any (A : Option Addr) (c : Nat) (l : List El) (w : World) (hn : l.length ≤ 9223372036854775807) (hL : Lies w A l) :
    Calls Try.prog 26 #[.slice A l.length c] w fun e w' => e = .returned (.tuple #[.int .i64 (if runErr l = 0 then latest l else 0), .int .i64 (runErr l)]) ∧ Calm w w' := by
  by_cases he : runErr l = 0
  rotate_left
  · have b1 : (runErr l != 0) = true := by simpa using he
    rw [if_neg he]
    clear he
    go_enter Try.func26, Try.ntmps26
    go_wp2_with (go_at_call 31; refine (runCheck_any _ _ _ _ hn hL).mono ?_; rintro e w1 ⟨rfl, hb1⟩)
    go_ret2
    exact ⟨rfl, hb1⟩
  have b1 : (runErr l != 0) = false := by simpa using he
  rw [if_pos he]
  have HE : Hid (runErr l = 0) := he
  clear he
  go_enter Try.func26, Try.ntmps26
  go_wp2_with (go_at_call 31; refine (runCheck_any _ _ _ _ hn hL).mono ?_; rintro e w1 ⟨rfl, hb1⟩)
  go_loopw [5, 15] (fun t i wr => ∃ k : Nat, k ≤ l.length ∧ i = .int .i64 k ∧ t = .int .i64 (latest (l.take k)) ∧ Calm w wr) (fun _ i _ => l.length - (intOf i).toNat)
  case atStart => exact ⟨0, Nat.zero_le _, rfl, rfl, hb1⟩
  case round =>
    obtain ⟨k, hk, rfl, rfl, hu⟩ := hrel
    by_cases hlt : k < l.length
    rotate_left
    · have K : Hid (latest (l.take k) = latest l) := by show _ = _; rw [List.take_of_length_le (by omega)]
      go_wp2_with fail
      go_ret2
      exact ⟨by rw [HE.out]; first | rfl | (rw [← K.out]; rfl), hu⟩
    obtain ⟨b, q, p, o, f, m, g, s, rfl, hb, HE, hm, c0, c1, c2, c3, c4, c5⟩ := (hL.calm hu).get hlt
    have K : Hid (latest (l.take (k + 1)) = if latest (l.take k) < lastOf m g then lastOf m g else latest (l.take k)) := by
      show _ = _
      rw [latest_take hlt, (List.getElem?_eq_some_iff.1 HE.out).2]
      rfl
    generalize latest (l.take k) = t0 at K ⊢
    go_wp2_with (go_at_call 48; refine (last_any _ _ _ _ _ _ _).mono ?_; rintro e w1 ⟨rfl, hb1⟩)
    go_roundw
    case rel => exact ⟨k + 1, by omega, by go_num, by first | (rw [K.out]; done) | (rw [K.out]; congr 1; rw [Int.max_def]; split <;> split <;> omega), (hu.alloc _).call hb1⟩
    case measure => simp [intOf]; omega
open Go.RowKit
theorem decide_gt (p o f m p' o' f' m' : Int) : decide (0 < scmp p o f m p' o' f' m') = decide (sLt (p', o', f') m' (p, o, f) m) := by
 rw [Bool.eq_iff_iff, decide_eq_true_eq, decide_eq_true_eq]
 have h := scmp_sLt (a := ⟨p, o, f, m, 0, ByteArray.empty⟩) (b := ⟨p', o', f', m', 0, ByteArray.empty⟩)
 simp only [El.key] at h
 have h0 : scmp p o f m p' o' f' m' = 0 ↔ (p, o, f) = (p', o', f') ∧ m = m' := by rw [scmp_eq, kcmp_key]
 rcases scmp_or p o f m p' o' f' m' with h1 | h1 | h1
 ·rw [h1]
  constructor
  ·intro h2; omega
  ·intro h2; exact absurd (h.1 h1) (sLt_asymm h2)
 ·rw [h1]
  obtain ⟨e1, e2⟩ := h0.1 h1
  rw [e1, e2]
  constructor
  ·intro h2; omega
  ·intro h2; exact absurd h2 (sLt_irrefl _ _)
 ·rw [h1]
  constructor
  ·intro _
   rcases sLt_tri (p, o, f) m (p', o', f') m' with h2 | h2 | h2
   ·rw [h.2 h2] at h1; omega
   ·rw [h0.2 h2] at h1; omega
   ·exact h2
  ·intro _; omega
set_option maxHeartbeats 4000000 in
theorem after1_any (B1 B2 : Nat) (A : Option Addr) (c : Nat) (l : List El) (p' o' f' m' : Int) (i : Nat) (w : World) (hi : i < l.length) (hL : Lies w A l)
    (hx : w.heap[B1]? = some (.cells #[.slice A l.length c] 22 (0, 0))) (hy : w.heap[B2]? = some (.cells #[.int .i64 p', .int .i64 o', .int .i64 f', .int .i64 m'] 94 (0, 0))) :
    Calls Try.prog 73 #[.int .i64 i, .pointer (some ⟨B1, 0, none⟩), .pointer (some ⟨B2, 0, none⟩)] w fun e w' => e = .returned (.bool (decide (sLt (p', o', f') m' l[i].key l[i].m))) ∧ Calm w w' := by
  obtain ⟨b, q, p, o, f, m, g, s, rfl, hb, HE, hm, c0, c1, c2, c3, c4, c5⟩ := hL.get hi
  have hK : Hid (decide (0 < scmp p o f m p' o' f' m') = decide (sLt (p', o', f') m' l[i].key l[i].m)) := by
    rw [(List.getElem?_eq_some_iff.1 HE.out).2]; exact decide_gt _ _ _ _ _ _ _ _
  generalize decide (sLt (p', o', f') m' l[i].key l[i].m) = r at hK ⊢
  clear hL HE
  have x0 := cell_of_row _ _ 0 _ _ _ hx
  simp only [List.getElem?_toArray, List.getElem?_cons_zero] at x0
  have hxs := (Array.getElem?_eq_some_iff.1 hx).1
  obtain ⟨y0, y1, y2, y3, hys⟩ := row4 hy
  have hiz : (i : Int) < (l.length : Int) := by omega
  generalize l.length = n at *
  clear hx hy
  go_enter Try.func73, Try.ntmps73
  go_wp2_with fail
  refine wp_region_plan [.val (.slice (some ⟨b, q, none⟩) n c), .val (.int .i64 i), .val (.pointer (some ⟨b, q + i * 6, none⟩)), .val (.agg #[.int .i64 p, .int .i64 o, .int .i64 f, .int .i64 m, .int .i64 g, .string s]), .val (.agg #[.int .i64 p, .int .i64 o, .int .i64 f, .int .i64 m]), .val (.agg #[.int .i64 p', .int .i64 o', .int .i64 f', .int .i64 m']), .val (.int .i64 (scmp p o f m p' o' f' m')), .val (.bool (decide (0 < scmp p o f m p' o' f' m'))), .val (.bool (decide (0 < scmp p o f m p' o' f' m')))] (by kernel_rfl) (by kernel_rfl) (by kernel_rfl) ?_
  intro X
  iterate 9
    refine plan_val (by kernel_rfl) (fun u hu => ?_) ?_
    · obtain ⟨hc, hf, hz⟩ := hu.of_drew.facts
      go_simp
      all_goals first
        | (go_at_call 60; exact spot_any _ _ _ _ _ _ _)
        | (go_at_call 69; exact cmpSpot_any _ _ _ _ _ _ _ _ _)
    simp only [Act.put, List.setIfInBounds_toArray, List.set_cons_zero, List.set_cons_succ, Nat.reduceAdd]
  refine plan_end ?_
  intro w' hB
  have hk := hB.calm.of_drew
  clear hB
  go_wp2_with fail
  go_ret
  exact ⟨ret_bool hK.out, hk⟩
def Boxes (B1 B2 : Nat) (A : Option Addr) (n c : Nat) (p' o' f' m' : Int) (w : World) : Prop :=
 w.heap[B1]? = some (.cells #[.slice A n c] 22 (0, 0)) ∧ w.heap[B2]? = some (.cells #[.int .i64 p', .int .i64 o', .int .i64 f', .int .i64 m'] 94 (0, 0))
theorem Boxes.calm {B1 B2 : Nat} {A : Option Addr} {n c : Nat} {p' o' f' m' : Int} {w w' : World} (h : Boxes B1 B2 A n c p' o' f' m' w) (hb : Calm w w') : Boxes B1 B2 A n c p' o' f' m' w' :=
 ⟨(hb.block (Array.getElem?_eq_some_iff.1 h.1).1).trans h.1, (hb.block (Array.getElem?_eq_some_iff.1 h.2).1).trans h.2⟩
set_option maxHeartbeats 4000000 in
theorem search_any (B1 B2 : Nat) (A : Option Addr) (c : Nat) (l : List El) (p' o' f' m' : Int) (w : World) (hn : l.length ≤ 400) (hL : Lies w A l) (hS : l.Pairwise Fol) (hB : Boxes B1 B2 A l.length c p' o' f' m' w) :
    Calls Try.prog 49 #[.int .i64 l.length, .func (.func 73) #[] #[.pointer (some ⟨B1, 0, none⟩), .pointer (some ⟨B2, 0, none⟩)]] w fun e w' => e = .returned (.int .i64 (pos l (p', o', f') m')) ∧ Calm w w' := by
  have C : ∀ (u : World) (i : Nat) (r : Bool) (h : i < l.length), Calm w u → decide (sLt (p', o', f') m' l[i].key l[i].m) = r →
      Calls Try.prog 73 (#[.int .i64 i] ++ #[.pointer (some ⟨B1, 0, none⟩), .pointer (some ⟨B2, 0, none⟩)]) u fun e w' => e = .returned (.bool r) ∧ Calm u w' := fun u i r h hu hr => by
    rw [← hr]; exact after1_any B1 B2 A c l p' o' f' m' i u h (hL.calm hu) (hB.calm hu).1 (hB.calm hu).2
  have M : ∀ i j (hi : i < l.length) (hj : j < l.length), i ≤ j → sLt (p', o', f') m' l[i].key l[i].m → sLt (p', o', f') m' l[j].key l[j].m := fun i j hi hj hij h => by
    rcases Nat.lt_or_eq_of_le hij with h1 | h1
    · exact sLt_trans h (List.pairwise_iff_getElem.1 hS i j hi hj h1).1
    · subst h1; exact h
  clear hL hB hS
  go_enter Try.func49, Try.ntmps49
  go_wp2_with fail
  go_loopg [5, 6] l.length (fun kx s5 s6 wr => ∃ lo hi : Nat, s5 = .int .i64 lo ∧ s6 = .int .i64 hi ∧ lo ≤ hi ∧ hi ≤ l.length ∧ hi - lo ≤ kx ∧ Calm w wr ∧
    Hid ((∀ t (h : t < l.length), t < lo → ¬ sLt (p', o', f') m' l[t].key l[t].m) ∧ (∀ t (h : t < l.length), hi ≤ t → sLt (p', o', f') m' l[t].key l[t].m)))
  case atStart => exact ⟨0, l.length, rfl, rfl, Nat.zero_le _, Nat.le_refl _, by omega, Calm.refl _, show _ ∧ _ from ⟨fun t h ht => absurd ht (Nat.not_lt_zero _), fun t h1 h2 => by omega⟩⟩
  case round =>
    obtain ⟨lo, hi, rfl, rfl, hlh, hin, hg, hu, I⟩ := hrel
    by_cases hlt : lo < hi
    · have hmid : (lo + hi) / 2 < l.length := by omega
      cases hp : decide (sLt (p', o', f') m' l[(lo + hi) / 2].key l[(lo + hi) / 2].m)
      · have hc := C wr ((lo + hi) / 2) false hmid hu hp
        rw [show (((lo + hi) / 2 : Nat) : Int) = ((lo : Int) + (hi : Int)) / 2 by omega] at hc
        have I2 : Hid ((∀ t (h : t < l.length), t < (lo + hi) / 2 + 1 → ¬ sLt (p', o', f') m' l[t].key l[t].m) ∧ (∀ t (h : t < l.length), hi ≤ t → sLt (p', o', f') m' l[t].key l[t].m)) := show _ ∧ _ from
          ⟨fun t h ht h2 => absurd (M t _ h hmid (by omega) h2) (of_decide_eq_false hp), I.out.2⟩
        clear hp C
        go_wp2_with (go_at_call 73; refine hc.mono ?_; rintro e w1 ⟨rfl, hb1⟩)
        go_roundg (hi - ((lo + hi) / 2 + 1))
        case measure => omega
        case rel => exact ⟨(lo + hi) / 2 + 1, hi, by rw [show ((lo : Int) + (hi : Int)) / 2 + 1 = (((lo + hi) / 2 + 1 : Nat) : Int) by omega], rfl, by omega, hin, Nat.le_refl _, hu.call hb1, I2⟩
      · have hc := C wr ((lo + hi) / 2) true hmid hu hp
        rw [show (((lo + hi) / 2 : Nat) : Int) = ((lo : Int) + (hi : Int)) / 2 by omega] at hc
        have I2 : Hid ((∀ t (h : t < l.length), t < lo → ¬ sLt (p', o', f') m' l[t].key l[t].m) ∧ (∀ t (h : t < l.length), (lo + hi) / 2 ≤ t → sLt (p', o', f') m' l[t].key l[t].m)) := show _ ∧ _ from
          ⟨I.out.1, fun t h ht => M _ t hmid h ht (of_decide_eq_true hp)⟩
        clear hp C
        go_wp2_with (go_at_call 73; refine hc.mono ?_; rintro e w1 ⟨rfl, hb1⟩)
        go_roundg ((lo + hi) / 2 - lo)
        case measure => omega
        case rel => exact ⟨lo, (lo + hi) / 2, rfl, by rw [show ((lo : Int) + (hi : Int)) / 2 = (((lo + hi) / 2 : Nat) : Int) by omega], by omega, by omega, Nat.le_refl _, hu.call hb1, I2⟩
    · obtain rfl : hi = lo := by omega
      have K : Hid (pos l (p', o', f') m' = hi) := pos_part hin (fun i h hi' => I.out.1 i h hi') (fun i h hi' => I.out.2 i h hi')
      clear C
      go_wp2_with fail
      go_ret
      exact ⟨by rw [K.out]; rfl, hu⟩
open Go.RowKit
theorem str_ne {s s' : ByteArray} (h : ¬ s = s') : (s.toList == s'.toList) = false := by
 cases e : s.toList == s'.toList
 ·rfl
 ·exfalso
  have h2 := eq_of_beq e
  rw [ByteArray.toList_eq, ByteArray.toList_eq] at h2
  exact h (ByteArray.ext (Array.toList_inj.1 h2))
open Go.RowKit
def Keeps (base : Nat) (w w' : World) : Prop := ∀ w0 : World, w0.heap.size ≤ base → Calm w0 w → Calm w0 w'
def OwnEnd (base : Nat) (l : List El) (w : World) (e : Ending) (w' : World) : Prop := ∃ v, e = .returned v ∧ OwnR base w' v l ∧ Keeps base w w'
theorem infoElem6s : (Try.prog.info? 41).map (·.size) = some 6 := by kernel_rfl
def spl (cur : List Value) (o : Nat) (cs : List Value) : List Value := cur.take o ++ cs ++ cur.drop (o + cs.length)
/-- copy(d, s) of records, into a row. -/
theorem run_copy_el (w : World) (ty : TypeId) (g o dLen dCap : Nat) (a : Addr) (sLen sCap : Nat) (cur : List Value) (t : TypeId) (cs : List Value)
    (hg : w.heap[g]? = some (.cells cur.toArray t (0, 0))) (hn : cs.length = Nat.min sLen dLen * 6)
    (hsrc : ∀ j v, cs[j]? = some v → w.cell? (a.add j) = some v) (hfit : o + cs.length ≤ cur.length) (h1 : ∀ v ∈ cs, v.oneCell' = true) :
    (Builtin.copy_ #[22, 22] ty #[.slice (some ⟨g, o, none⟩) dLen dCap, .slice (some a) sLen sCap]).run Try.prog w =
      .ok (goInt (Nat.min sLen dLen)) (w.setRow g (spl cur o cs).toArray) := by
  have hl := run_loadCells_list (P := Try.prog) w a cs hsrc
  have hst := run_storeCells_at Try.prog g o t cs 0 cur.toArray w hg (by simpa using hfit) h1
  have hs := infoElem6s
  cases hq : Try.prog.info? 41 with
  | none => simp [hq] at hs
  | some i =>
    have hi : i.size = 6 := by simpa [hq] using hs
    simp [Builtin.copy_, run_underlying Try.underlying22, Builtin.lenOf, Builtin.firstCells, sizeOf, typeInfo, hq, hi, ← hn, hl, hst, spl]
/-- A copy whose run is known, as an operation of a plain region and of one that draws. -/
theorem wpList_copy_known {P : Program} {w : World} {ops : Array Oper} {rest : List Oper} {o : Oper} {a : Act} {Q : Exit → Act → World → Prop} (hgd : o.guard = none) (d s : Operand) (t : TypeId)
    (ho : o.op = .call { callee := .builtin .copy, args := #[d, s], argTypes := #[t, t] }) (v u : Value) (hd : a.eval d = v) (hs : a.eval s = u) {v' : Value} {w' : World}
    (hr : (Builtin.copy_ #[t, t] o.type #[v, u]).run P w = .ok v' w') (h : wpList P ops Q rest (a.put o.dst v') w') : wpList P ops Q (o :: rest) a w :=
  wpList_plain hgd fun _ hK => by
    unfold Oper.wp execOp
    simp only [ho, resolve, invoke, builtin, Sem.run_bind, Sem.run_pure, Result.andThen_ok, List.map_toArray, List.map_cons, List.map_nil, hd, hs, hr]
    exact hK _ _ h
theorem step_copy_known {P : Program} {ops : Array Oper} {o : Oper} {a : Act} {w : World} {K : Act → World → Prop} {Q : Exit → Act → World → Prop} {E : Prop}
    (hg : o.guard = none) (d x : Operand) (t : TypeId) (hop : o.op = Op.call { callee := Callee.builtin Builtin.copy, args := #[d, x], argTypes := #[t, t] })
    (v u : Value) (hd : a.eval d = v) (hx : a.eval x = u) {v' : Value} {w' : World} (hr : (Builtin.copy_ #[t, t] o.type #[v, u]).run P w = .ok v' w') (hK : K (a.put o.dst v') w') :
    if Region.wanted o (yielded ops a.tmps) = true then Oper.wp P o a w K Q else E := by
  have hw : Region.wanted o (yielded ops a.tmps) = true := by simp [Region.wanted, hg]
  rw [if_pos hw]
  unfold Oper.wp
  simp only [execOp, hop, resolve, invoke, builtin, Sem.run_bind, Sem.run_pure, Result.andThen_ok, List.map_toArray, List.map_cons, List.map_nil, hd, hx, hr]
  exact hK
theorem Lies.cells {w : World} {b q : Nat} {l : List El} (h : Lies w (some ⟨b, q, none⟩) l) : ∀ j v, (cellsOf l)[j]? = some v → w.cell? ⟨b, q + j, none⟩ = some v := fun j v hj => by
 have hlt : j < l.length * 6 := by rw [← cellsOf_len]; exact (List.getElem?_eq_some_iff.1 hj).1
 have hk : j / 6 < l.length := by omega
 have hel := List.getElem?_eq_getElem hk
 obtain ⟨b', q', hA, _, hat⟩ := h.2 (by omega)
 injection hA with hA
 injection hA with h1 h2
 subst h1; subst h2
 have h6 := hat _ _ hel
 rw [show j = j / 6 * 6 + j % 6 by omega, cellsOf_at l (j / 6) (j % 6) _ hel (by omega)] at hj
 have hm : j % 6 < 6 := by omega
 obtain ⟨h0, h1, h2, h3, h4, h5⟩ := h6
 rw [show q + j = q + j / 6 * 6 + j % 6 by omega]
 rcases (by omega : j % 6 = 0 ∨ j % 6 = 1 ∨ j % 6 = 2 ∨ j % 6 = 3 ∨ j % 6 = 4 ∨ j % 6 = 5) with e | e | e | e | e | e <;> rw [e] at hj ⊢ <;> simp [El.cells] at hj <;> subst hj <;> assumption
set_option maxHeartbeats 4000000 in
theorem clone_any (A : Option Addr) (c : Nat) (l : List El) (w : World) (hn : l.length ≤ 400) (hL : Lies w A l) :
    Calls Try.prog 37 #[.slice A l.length c] w fun e w' => ∃ v, e = .returned v ∧ OwnR w.heap.size w' v l ∧ Calm w w' := by
  rcases A with _ | ⟨b, q, sp⟩
  · have h0 : l = [] := by
      rcases Nat.eq_zero_or_pos l.length with h | h
      · exact List.eq_nil_of_length_eq_zero h
      · obtain ⟨_, _, h1, _⟩ := hL.2 h; cases h1
    subst h0
    have q22 : ∀ (w : World) (n c n' c' : Nat), (binOp .eql 22 (.slice none n c) (.slice none n' c')).run Try.prog w = .ok (.bool true) w := fun w n c n' c' => Lib.run_eql_slice_nil w _ _ none n c n' c' Try.underlying22
    go_enter Try.func37, Try.ntmps37
    go_wp2_with fail
    go_ret
    exact ⟨_, rfl, OwnR.nil _ _, Calm.refl _⟩
  · obtain ⟨i0, hi, hz0, hz1, hz2⟩ := info_parts infoElem
    have q22 : ∀ (w : World) (a : Addr) (n c n' c' : Nat), (binOp .eql 22 (.slice (some a) n c) (.slice none n' c')).run Try.prog w = .ok (.bool false) w := fun w a n c n' c' => Lib.run_eql_slice_nil w _ _ (some a) n c n' c' Try.underlying22
    have hsrc : Hid (∀ j v, (cellsOf l)[j]? = some v → (w.alloc (.cells #[] 41)).cell? ((⟨b, q, sp⟩ : Addr).add j) = some v) := show ∀ _, _ from fun j v hj => by
      have hlt : j < l.length * 6 := by rw [← cellsOf_len]; exact (List.getElem?_eq_some_iff.1 hj).1
      obtain ⟨b', q', hA, hb, _⟩ := hL.2 (by omega)
      injection hA with hA
      injection hA with h1 h2 h3
      subst h1; subst h2; subst h3
      have := hL.cells j v hj
      have e : (⟨b, q, none⟩ : Addr).add j = ⟨b, q + j, none⟩ := by unfold Addr.add; split <;> simp_all
      rw [e, World.cell?_alloc_lt _ _ _ hb]; exact this
    have hlen : (cellsOf l).length = l.length * 6 := cellsOf_len l
    have HLEN := Lib.hid hlen
    have hone : Hid (∀ u ∈ cellsOf l, u.oneCell' = true) := cellsOf_one l
    have hbig : l.length * 56 ≤ 140737488355328 := by omega
    have hmax : l.length ≤ maxLen := by unfold maxLen; omega
    clear hlen hL
    go_enter Try.func37, Try.ntmps37
    go_wp2_with (at_builtin; refine wpList_append_own _ rfl _ _ 22 rfl w.heap.size 41 i0 _ 6 56 Try.underlying22 hi hz0 hz1 hz2 rfl (by decide) _ _ _ rfl (World.ownsRow_made w #[] 0 (Nat.le_refl _) (Nat.zero_le _) (by simp)) ⟨b, q, sp⟩ l.length c (cellsOf l) rfl HLEN.out hsrc.out hone.out (by rw [Nat.zero_add]; exact hmax) (by rw [Nat.zero_add]; exact hbig) (by simp) ?_; intro v' w1 hown hgrow _)
    have hO : OwnR w.heap.size w1 v' l := by unfold OwnR; simpa using hown
    have hC : Calm w w1 := Below.grown ((Calm.refl w).alloc _) hgrow (by simp) (by intro k hk; cases hk; exact Nat.le_refl _)
    clear hown hgrow
    go_wp2_with fail
    go_ret
    exact ⟨_, rfl, hO, hC⟩
theorem insAt_len {l : List El} {i : Nat} (e : El) (hi : i ≤ l.length) : (insAt l i e).length = l.length + 1 := by
 unfold insAt; rw [List.length_append, List.length_cons, List.length_take, List.length_drop]; omega
theorem cellsOf_app (a b : List El) : cellsOf (a ++ b) = cellsOf a ++ cellsOf b := by unfold cellsOf; simp
theorem cellsOf_take {l : List El} {i : Nat} (hi : i ≤ l.length) : (cellsOf l).take (i * 6) = cellsOf (l.take i) := by
 have h := cellsOf_app (l.take i) (l.drop i)
 rw [List.take_append_drop] at h
 rw [h]
 exact List.take_left' (by rw [cellsOf_len, List.length_take]; congr 1; omega)
theorem cellsOf_drop {l : List El} {i : Nat} (hi : i ≤ l.length) : (cellsOf l).drop (i * 6) = cellsOf (l.drop i) := by
 have h := cellsOf_app (l.take i) (l.drop i)
 rw [List.take_append_drop] at h
 rw [h]
 exact List.drop_left' (by rw [cellsOf_len, List.length_take]; congr 1; omega)
theorem cellsOf_ins (l : List El) (i : Nat) (e : El) : cellsOf (insAt l i e) = cellsOf (l.take i) ++ e.cells ++ cellsOf (l.drop i) := by
 unfold insAt; rw [cellsOf_app, List.append_assoc]; rfl
theorem spl_mid (a x c y : List Value) (h : x.length = y.length) (o : Nat) (ho : o = a.length) : spl (a ++ x ++ c) o y = a ++ y ++ c := by
 subst ho
 have e1 : (a ++ x ++ c).take a.length = a := by rw [List.append_assoc]; exact List.take_left' rfl
 have e2 : (a ++ x ++ c).drop (a.length + y.length) = c := List.drop_left' (by rw [List.length_append, h])
 unfold spl
 rw [e1, e2]
theorem parts {cur : List Value} {l : List El} {i : Nat} (hc : cur.take (l.length * 6) = cellsOf l) (hs : (l.length + 1) * 6 ≤ cur.length) :
    ∃ d r, cur = cellsOf (l.take i) ++ cellsOf (l.drop i) ++ d ++ r ∧ d.length = 6 ∧ r = cur.drop ((l.length + 1) * 6) := by
  refine ⟨(cur.drop (l.length * 6)).take 6, cur.drop ((l.length + 1) * 6), ?_, ?_, rfl⟩
  · rw [← cellsOf_app, List.take_append_drop, ← hc, List.append_assoc]
    have h1 : (cur.drop (l.length * 6)).drop 6 = cur.drop ((l.length + 1) * 6) := by rw [List.drop_drop]; congr 1; omega
    rw [← h1, List.take_append_drop, List.take_append_drop]
  · rw [List.length_take, List.length_drop]; omega
theorem row_shift {cur : List Value} {l : List El} {i : Nat} (e : El) (hi : i ≤ l.length) (hc : cur.take (l.length * 6) = cellsOf l) (hs : (l.length + 1) * 6 ≤ cur.length) :
    spl (spl cur ((i + 1) * 6) (cellsOf (l.drop i))) (i * 6) e.cells = cellsOf (insAt l i e) ++ cur.drop ((l.length + 1) * 6) := by
  obtain ⟨d, r, hcur, hd, hr⟩ := parts (i := i) hc hs
  have hl1 : (cellsOf (l.take i)).length = i * 6 := by rw [cellsOf_len, List.length_take]; congr 1; omega
  have hl2 : (cellsOf (l.drop i)).length = (l.length - i) * 6 := by rw [cellsOf_len, List.length_drop]
  rw [← hr]
  obtain ⟨x, y, hxy, hx⟩ : ∃ x y, cellsOf (l.drop i) ++ d = x ++ y ∧ x.length = 6 := ⟨(cellsOf (l.drop i) ++ d).take 6, (cellsOf (l.drop i) ++ d).drop 6, (List.take_append_drop _ _).symm, by rw [List.length_take, List.length_append]; omega⟩
  have hy : y.length = (cellsOf (l.drop i)).length := by
    have := congrArg List.length hxy
    rw [List.length_append, List.length_append] at this; omega
  have h1 : cur = (cellsOf (l.take i) ++ x) ++ y ++ r := by
    rw [hcur, List.append_assoc (cellsOf (l.take i)), hxy]; simp
  have h2 : spl cur ((i + 1) * 6) (cellsOf (l.drop i)) = (cellsOf (l.take i) ++ x) ++ cellsOf (l.drop i) ++ r := by
    rw [h1]
    exact spl_mid _ _ _ _ hy _ (by rw [List.length_append, hl1, hx]; omega)
  rw [h2, cellsOf_ins]
  have h3 := spl_mid (cellsOf (l.take i)) x (cellsOf (l.drop i) ++ r) e.cells (by rw [hx]; rfl) (i * 6) hl1.symm
  rw [show (cellsOf (l.take i) ++ x) ++ cellsOf (l.drop i) ++ r = cellsOf (l.take i) ++ x ++ (cellsOf (l.drop i) ++ r) by simp, h3]
  simp
theorem row_fresh {cur : List Value} {l : List El} {i : Nat} (e : El) (hi : i ≤ l.length) (hc : cur.take (i * 6) = cellsOf (l.take i)) (hs : (l.length + 1) * 6 ≤ cur.length) :
    spl (spl cur (i * 6) e.cells) ((i + 1) * 6) (cellsOf (l.drop i)) = cellsOf (insAt l i e) ++ cur.drop ((l.length + 1) * 6) := by
  have hl1 : (cellsOf (l.take i)).length = i * 6 := by rw [cellsOf_len, List.length_take]; congr 1; omega
  have hl2 : (cellsOf (l.drop i)).length = (l.length - i) * 6 := by rw [cellsOf_len, List.length_drop]
  obtain ⟨x, y, hxy, hx, hy⟩ : ∃ x y, cur = cellsOf (l.take i) ++ x ++ y ++ cur.drop ((l.length + 1) * 6) ∧ x.length = 6 ∧ y.length = (cellsOf (l.drop i)).length := by
    refine ⟨(cur.drop (i * 6)).take 6, ((cur.drop (i * 6)).drop 6).take ((l.length - i) * 6), ?_, ?_, ?_⟩
    · rw [← hc]
      have h1 : cur.drop ((l.length + 1) * 6) = ((cur.drop (i * 6)).drop 6).drop ((l.length - i) * 6) := by rw [List.drop_drop, List.drop_drop]; congr 1; omega
      rw [h1, List.append_assoc, List.take_append_drop, List.append_assoc, List.take_append_drop, List.take_append_drop]
    · rw [List.length_take, List.length_drop]; omega
    · rw [List.length_take, List.length_drop, List.length_drop, hl2]; omega
  generalize cur.drop ((l.length + 1) * 6) = r at hxy ⊢
  rw [hxy, cellsOf_ins]
  have h2 := spl_mid (cellsOf (l.take i)) x (y ++ r) e.cells (by rw [hx]; rfl) (i * 6) hl1.symm
  rw [show cellsOf (l.take i) ++ x ++ y ++ r = cellsOf (l.take i) ++ x ++ (y ++ r) by simp, h2]
  have h3 := spl_mid (cellsOf (l.take i) ++ e.cells) y r (cellsOf (l.drop i)) hy ((i + 1) * 6) (by rw [List.length_append, hl1]; show _ = _ + 6; omega)
  rw [show cellsOf (l.take i) ++ e.cells ++ (y ++ r) = cellsOf (l.take i) ++ e.cells ++ y ++ r by simp, h3]
/-- A row whose first cells are those of l, in a block from base on. -/
theorem OwnR.row {base g cap : Nat} {w : World} {l : List El} {cur : List Value} (hb : base ≤ g) (hg : w.heap[g]? = some (.cells cur.toArray 41 (0, 0))) (hn : l.length ≤ cap) (hc : cap ≤ maxLen) (hs : cur.length = cap * 6) (ht : cur.take (l.length * 6) = cellsOf l) :
    OwnR base w (.slice (some ⟨g, 0, none⟩) l.length cap) l :=
  ⟨cellsOf_len l, .inr ⟨g, cap, cur.toArray, rfl, hb, hg, hn, hc, by simpa using hs, by simpa using ht⟩⟩
theorem spl_len {cur cs : List Value} {o : Nat} (h : o + cs.length ≤ cur.length) : (spl cur o cs).length = cur.length := by
 unfold spl; simp only [List.length_append, List.length_take, List.length_drop]; omega
theorem cellsOf_set : ∀ {l : List El} {i j : Nat} {u : Value} {x : El} (hi : i < l.length) (_ : j < 6) (_ : x.cells = l[i].cells.set j u), (cellsOf l).set (i * 6 + j) u = cellsOf (l.set i x)
 | [], _, _, _, _, hi, _, _ => absurd hi (by simp)
 |y :: l, 0, j, u, x, hi, hj, hx => by
  show (y.cells ++ cellsOf l).set (0 * 6 + j) u = x.cells ++ cellsOf l
  rw [Nat.zero_mul, Nat.zero_add, List.set_append_left _ _ (by rw [cells_len]; exact hj), hx]
  rfl
 |y :: l, i + 1, j, u, x, hi, hj, hx => by
  show (y.cells ++ cellsOf l).set ((i + 1) * 6 + j) u = y.cells ++ cellsOf (l.set i x)
  rw [List.set_append_right _ _ (by rw [cells_len]; omega), cells_len, show (i + 1) * 6 + j - 6 = i * 6 + j by omega]
  congr 1
  exact cellsOf_set (l := l) (i := i) (by simpa using hi) hj hx
/-- One field of a record is stored in an owned row. -/
theorem OwnR.set {base g n cap i j : Nat} {w : World} {l : List El} {u : Value} {x : El} (h : OwnR base w (.slice (some ⟨g, 0, none⟩) n cap) l) (hi : i < l.length) (hj : j < 6) (hx : x.cells = l[i].cells.set j u) :
    OwnR base (w.setCell ⟨g, i * 6 + j, none⟩ u) (.slice (some ⟨g, 0, none⟩) n cap) (l.set i x) := by
  have hn : n = l.length := by
    rcases h.2 with ⟨h1, _⟩ | ⟨g', cap', cur, h1, _⟩
    · cases h1
    · injection h1
  subst hn
  have h1 := (World.ownsRow.stored h (i * 6 + j) u).1
  unfold OwnR
  rw [List.length_set, ← cellsOf_set hi hj hx]
  exact h1
theorem OwnR.cell {base g n cap i : Nat} {w : World} {l : List El} (h : OwnR base w (.slice (some ⟨g, 0, none⟩) n cap) l) (hi : i < l.length) : ElAt w g (i * 6) l[i] ∧ (∀ j, w.frozen? ⟨g, j, none⟩ = false) ∧ base ≤ g ∧ g < w.heap.size ∧ n = l.length ∧ n ≤ cap := by
 have hn : n = l.length ∧ n ≤ cap := by
  rcases h.2 with ⟨h1, _⟩ | ⟨g', cap', cur, h1, _, _, h2, _⟩
  ·cases h1
  ·injection h1 with h3 h4 h5
   exact ⟨h4, by omega⟩
 obtain ⟨hn, hnc⟩ := hn
 subst hn
 have key : ∀ j, j < 6 → w.cell? ⟨g, i * 6 + j, none⟩ = l[i].cells[j]? := fun j hj => by
  rw [World.ownsRow.cellAt h (i * 6 + j) (by omega), cellsOf_at l i j _ (List.getElem?_eq_getElem hi) hj]
 have hlt := h.lt g rfl
 exact ⟨⟨key 0 (by omega), key 1 (by omega), key 2 (by omega), key 3 (by omega), key 4 (by omega), key 5 (by omega)⟩, fun j => World.ownsRow.frozenAt h j, hlt.1, hlt.2, rfl, hnc⟩
theorem OwnR.some {base : Nat} {w : World} {v : Value} {l : List El} (h : OwnR base w v l) (hl : 0 < l.length) : ∃ g cap, v = .slice (some ⟨g, 0, none⟩) l.length cap := by
 rcases h.2 with ⟨_, h1⟩ | ⟨g', cap', cur, h1, _⟩
 ·omega
 ·exact ⟨g', cap', h1⟩
theorem OwnR.reads {base n c : Nat} {A : Option Addr} {w : World} {l : List El} (h : OwnR base w (.slice A n c) l) (hw : ∀ e ∈ l, e.wf) : n = l.length ∧ Lies w A l := by
 obtain ⟨A', c', hv, _, _, hL⟩ := h.lies hw
 injection hv with h1 h2 h3
 subst h1
 exact ⟨h2, hL⟩
theorem Good.wf {l : List El} (h : Good l) : ∀ e ∈ l, e.wf := fun e he => by
 have := mem_bounds h he
 unfold El.wf; omega
theorem atR_iff {l : List El} (h : l.Pairwise Fol) {k : Int × Int × Int} {t : Int} {e : El} : atR l k t = some e ↔ e ∈ l ∧ isAt k t e = true := by
 constructor
 ·intro h1
  exact ⟨List.mem_of_find?_eq_some h1, List.find?_some h1⟩
 ·rintro ⟨h1, h2⟩
  obtain ⟨i, hi, rfl⟩ := List.getElem_of_mem h1
  exact find_of h hi h2
theorem atR_none {l : List El} {k : Int × Int × Int} {t : Int} : atR l k t = none ↔ ∀ e ∈ l, isAt k t e = false := by
 unfold atR
 rw [List.find?_eq_none]
 constructor
 ·intro h e he; have := h e he; simpa using this
 ·intro h e he; rw [h e he]; simp
theorem insAt_mem {l : List El} {i : Nat} {x e : El} : e ∈ insAt l i x ↔ e = x ∨ e ∈ l := by
 unfold insAt
 rw [List.mem_append, List.mem_cons]
 constructor
 ·rintro (h | h | h)
  ·exact .inr (List.mem_of_mem_take h)
  ·exact .inl h
  ·exact .inr (List.mem_of_mem_drop h)
 ·rintro (h | h)
  ·exact .inr (.inl h)
  ·rw [← List.take_append_drop i l, List.mem_append] at h
   rcases h with h | h
   ·exact .inl h
   ·exact .inr (.inr h)
theorem put_mem {l : List El} {k : Int × Int × Int} {s : ByteArray} {t : Int} (hw : wrErr l (fresh k s t) = 0) {e : El} :
    e ∈ putR l k s t ↔ (∃ x ∈ l, e = upd k s t x) ∨ (l.any (isSame k t) = false ∧ e = fresh k s t) := by
  obtain ⟨hG, hx, hl⟩ := wrErr_zero.1 hw
  obtain ⟨z1, z2, z3⟩ := sizes hw
  have hM := good_map hG (k := k) (s := s) (t := t) hl z2 z1
  unfold putR
  by_cases h : l.any (isSame k t) = true
  · rw [if_pos h, List.mem_map]
    constructor
    · rintro ⟨x, hx, rfl⟩; exact .inl ⟨x, hx, rfl⟩
    · rintro (⟨x, hx, rfl⟩ | ⟨h1, _⟩)
      · exact ⟨x, hx, rfl⟩
      · rw [h] at h1; cases h1
  · rw [if_neg h, ins_at (Fol.rise hM.2.2), insAt_mem, List.mem_map]
    have h' : l.any (isSame k t) = false := by simpa using h
    constructor
    · rintro (h1 | ⟨x, hx, rfl⟩)
      · exact .inr ⟨h', h1⟩
      · exact .inl ⟨x, hx, rfl⟩
    · rintro (⟨x, hx, rfl⟩ | ⟨_, h1⟩)
      · exact .inr ⟨x, hx, rfl⟩
      · exact .inl h1
/-- Ahead of t the write is not seen. -/
theorem upd_past {k : Int × Int × Int} {s : ByteArray} {t u : Int} (hu : u < t) (_ht : 1 ≤ t) (x : El) : isAt k u (upd k s t x) = isAt k u x ∧ (isAt k u x = true → (upd k s t x).m = x.m ∧ (upd k s t x).s = x.s) := by
 cases ho : isOpen k x
 ·rw [upd_not ho]; exact ⟨rfl, fun _ => ⟨rfl, rfl⟩⟩
 ·rw [upd_open ho]
  unfold isOpen at ho; rw [decide_eq_true_eq] at ho
  unfold isAt El.live liveP
  by_cases hm : x.m = t
  ·rw [if_pos hm]
   constructor
   ·rw [Bool.eq_iff_iff, decide_eq_true_eq, decide_eq_true_eq]
    constructor
    ·rintro ⟨_, h, _⟩; simp only at h; omega
    ·rintro ⟨_, h, _⟩; omega
   ·intro h; rw [decide_eq_true_eq] at h; omega
  ·rw [if_neg hm]
   constructor
   ·rw [Bool.eq_iff_iff, decide_eq_true_eq, decide_eq_true_eq]
    have hk : ({ x with g := t } : El).key = x.key := rfl
    rw [hk]
    constructor
    ·rintro ⟨h1, h2, h3⟩; exact ⟨h1, h2, .inl ho.2⟩
    ·rintro ⟨h1, h2, h3⟩; exact ⟨h1, h2, .inr hu⟩
   ·intro _; exact ⟨rfl, rfl⟩
theorem past_at {l : List El} {k : Int × Int × Int} {s : ByteArray} {t u : Int} (hw : wrErr l (fresh k s t) = 0) (hM : Good (putR l k s t)) (hu : u < t) :
    (atR (putR l k s t) k u).isSome = (atR l k u).isSome ∧ ((atR (putR l k s t) k u).getD zeroEl).m = ((atR l k u).getD zeroEl).m ∧ ((atR (putR l k s t) k u).getD zeroEl).s = ((atR l k u).getD zeroEl).s := by
  obtain ⟨hG, hx, hl⟩ := wrErr_zero.1 hw
  obtain ⟨z1, z2, z3⟩ := sizes hw
  have z4 : 1 ≤ t := z3
  cases h : atR l k u with
  | some x =>
    obtain ⟨h1, h2⟩ := (atR_iff hG.2.2).1 h
    obtain ⟨e1, e2⟩ := upd_past (k := k) (s := s) hu z4 x
    have h3 : atR (putR l k s t) k u = some (upd k s t x) := (atR_iff hM.2.2).2 ⟨(put_mem hw).2 (.inl ⟨x, h1, rfl⟩), by rw [e1]; exact h2⟩
    rw [h3]
    exact ⟨rfl, (e2 h2).1, (e2 h2).2⟩
  | none =>
    rw [atR_none] at h
    have h3 : atR (putR l k s t) k u = none := atR_none.2 fun e he => by
      rcases (put_mem hw).1 he with ⟨x, hx, rfl⟩ | ⟨_, rfl⟩
      · rw [(upd_past hu z4 x).1]; exact h x hx
      · unfold isAt El.live liveP fresh; rw [decide_eq_false_iff_not]; rintro ⟨_, h1, _⟩; simp only at h1; omega
    rw [h3]
    exact ⟨rfl, rfl, rfl⟩
theorem other_at {l : List El} {k q : Int × Int × Int} {s : ByteArray} {t u : Int} (hw : wrErr l (fresh k s t) = 0) (hM : Good (putR l k s t)) (hq : q ≠ k) : atR (putR l k s t) q u = atR l q u := by
 obtain ⟨hG, hx, hl⟩ := wrErr_zero.1 hw
 have hup : ∀ x : El, isAt q u x = true → upd k s t x = x := fun x h => by
  refine upd_not ?_
  unfold isAt at h; rw [decide_eq_true_eq] at h
  unfold isOpen; rw [decide_eq_false_iff_not]
  exact fun h2 => hq (h.1.symm.trans h2.1)
 cases h : atR l q u with
 |some x =>
  obtain ⟨h1, h2⟩ := (atR_iff hG.2.2).1 h
  exact (atR_iff hM.2.2).2 ⟨(put_mem hw).2 (.inl ⟨x, h1, (hup x h2).symm⟩), h2⟩
 |none =>
  rw [atR_none] at h
  refine atR_none.2 fun e he => ?_
  rcases (put_mem hw).1 he with ⟨x, hx, rfl⟩ | ⟨_, rfl⟩
  ·have hx' := h x hx
   cases h9 : isAt q u (upd k s t x)
   ·rfl
   ·exfalso
    unfold isAt at h9 hx'
    rw [decide_eq_true_eq] at h9
    rw [decide_eq_false_iff_not] at hx'
    rw [upd_key] at h9
    have h10 : upd k s t x = x := by
     refine upd_not ?_
     unfold isOpen; rw [decide_eq_false_iff_not]
     exact fun h2 => hq (h9.1.symm.trans h2.1)
    rw [h10] at h9
    exact hx' h9
  ·unfold isAt; rw [decide_eq_false_iff_not, fresh_key]; exact fun h2 => hq h2.1.symm
/-- What Put writes is there from then on. -/
theorem now_at {l : List El} {k : Int × Int × Int} {s : ByteArray} {t u : Int} (hw : wrErr l (fresh k s t) = 0) (hM : Good (putR l k s t)) (hu : t ≤ u) :
    ∃ x, atR (putR l k s t) k u = some x ∧ x.s = s ∧ x.g = 0 := by
  obtain ⟨hG, hx, hl⟩ := wrErr_zero.1 hw
  cases h : l.any (isSame k t)
  · refine ⟨fresh k s t, (atR_iff hM.2.2).2 ⟨(put_mem hw).2 (.inr ⟨h, rfl⟩), ?_⟩, rfl, rfl⟩
    unfold isAt El.live liveP; rw [decide_eq_true_eq]
    exact ⟨rfl, hu, .inl rfl⟩
  · rw [List.any_eq_true] at h
    obtain ⟨x, hx, h2⟩ := h
    unfold isSame at h2; rw [decide_eq_true_eq] at h2
    have ho : isOpen k x = true := by unfold isOpen; rw [decide_eq_true_eq]; exact ⟨h2.1, h2.2.1⟩
    have e1 : upd k s t x = { x with s := s } := by rw [upd_open ho, if_pos h2.2.2]
    refine ⟨{ x with s := s }, (atR_iff hM.2.2).2 ⟨(put_mem hw).2 (.inl ⟨x, hx, e1.symm⟩), ?_⟩, rfl, h2.2.1⟩
    unfold isAt El.live liveP; rw [decide_eq_true_eq]
    exact ⟨h2.1, by simp only; omega, .inl h2.2.1⟩
/-- What Cut deletes is gone from then on. -/
theorem gone_at {l : List El} {k : Int × Int × Int} {t u : Int} (hw : wrErr l (fresh k { data := #[] } t) = 0) (hu : t ≤ u) : atR (cutR l k t) k u = none := by
 obtain ⟨hG, hx, hl⟩ := wrErr_zero.1 hw
 have hl' : latest l ≤ t := hl
 refine atR_none.2 fun e he => ?_
 obtain ⟨x, hx, h2⟩ := List.mem_filterMap.1 he
 have hb := mem_bounds hG hx
 unfold cutStep at h2
 unfold isAt El.live liveP
 rw [decide_eq_false_iff_not]
 rintro ⟨h3, h4, h5⟩
 split at h2
 ·split at h2
  ·cases h2
  ·injection h2 with h2
   subst h2
   simp only at h5
   obtain ⟨_, _, z3⟩ := sizes hw
   have z4 : 1 ≤ t := z3
   omega
 ·injection h2 with h2
  subst h2
  rename_i h6
  have : x.g ≠ 0 := fun h7 => h6 ⟨h3, h7⟩
  omega
theorem latest_put {l : List El} {k : Int × Int × Int} {s : ByteArray} {t : Int} (hw : wrErr l (fresh k s t) = 0) : latest (putR l k s t) = t := by
 obtain ⟨hG, hx, hl⟩ := wrErr_zero.1 hw
 have hlt : latest l ≤ t := hl
 have h1 : 1 ≤ t := (sizes hw).2.2
 have hle : latest (putR l k s t) ≤ t := latest_le (by omega) fun e he => by
  rcases (put_mem hw).1 he with ⟨x, hx, rfl⟩ | ⟨_, rfl⟩
  ·have hb := mem_bounds hG hx
   unfold upd El.last lastOf
   split
   ·split <;> simp only <;> split <;> omega
   ·split <;> omega
  ·unfold fresh El.last lastOf; simp only; split <;> omega
 have hge : t ≤ latest (putR l k s t) := by
  by_cases h : l.any (isSame k t) = true
  ·rw [List.any_eq_true] at h
   obtain ⟨x, hx, h2⟩ := h
   unfold isSame at h2; rw [decide_eq_true_eq] at h2
   have h3 := latest_ge ((put_mem hw).2 (.inl ⟨x, hx, rfl⟩))
   have h4 : (upd k s t x).last = t := by
    unfold upd
    rw [if_pos ⟨h2.1, h2.2.1⟩, if_pos h2.2.2]
    unfold El.last lastOf; simp only; split <;> omega
   omega
  ·have h3 := latest_ge ((put_mem hw).2 (.inr ⟨by simpa using h, rfl⟩))
   have h4 : (fresh k s t).last = t := by unfold fresh El.last lastOf; simp only; split <;> omega
   omega
 omega
theorem latest_cut {l : List El} {k : Int × Int × Int} {t : Int} (hw : wrErr l (fresh k { data := #[] } t) = 0) : latest (cutR l k t) ≤ t := by
 obtain ⟨hG, hx, hl⟩ := wrErr_zero.1 hw
 have hlt : latest l ≤ t := hl
 have h1 : 1 ≤ t := (sizes hw).2.2
 refine latest_le (by omega) fun e he => ?_
 obtain ⟨x, hx, h2⟩ := List.mem_filterMap.1 he
 have hb := mem_bounds hG hx
 unfold cutStep at h2
 unfold El.last lastOf
 split at h2
 ·split at h2
  ·cases h2
  ·injection h2 with h2; subst h2; simp only; split <;> omega
 ·injection h2 with h2; subst h2; split <;> omega
/-- The keys of a range rise: no two records of one key are live at one time. -/
theorem range_rise {l : List El} (hG : Good l) (lo hi : Int × Int × Int) (t : Int) : (rangeR l lo hi t).Pairwise (fun a b => kLt a.key b.key) := by
 unfold rangeR
 rw [List.pairwise_filter]
 refine hG.2.2.imp fun {a b} h ha hb => ?_
 unfold inR at ha hb; rw [decide_eq_true_eq] at ha hb
 rcases h.1 with h1 | ⟨h1, _⟩
 ·exact h1
 ·have h2 := h.2 h1
  have h3 := ha.2.2
  have h4 := hb.2.2
  unfold El.live liveP at h3 h4
  omega
theorem find_same {p q : El → Bool} : ∀ {l : List El}, (∀ e ∈ l, p e = q e) → l.find? p = l.find? q
 | [], _ => rfl
 |e :: l, h => by
  rw [List.find?_cons, List.find?_cons, h e (List.mem_cons_self ..), find_same fun x hx => h x (List.mem_cons_of_mem _ hx)]
theorem cut_other {l : List El} {k q : Int × Int × Int} {t u : Int} (hw : wrErr l (fresh k { data := #[] } t) = 0) (hq : q ≠ k) : atR (cutR l k t) q u = atR l q u := by
 obtain ⟨hG, hx, hl⟩ := wrErr_zero.1 hw
 have hM := cut_good hw
 cases h : atR l q u with
 |some x =>
  obtain ⟨h1, h2⟩ := (atR_iff hG.2.2).1 h
  refine (atR_iff hM.2.2).2 ⟨List.mem_filterMap.2 ⟨x, h1, ?_⟩, h2⟩
  unfold isAt at h2; rw [decide_eq_true_eq] at h2
  unfold cutStep
  rw [if_neg (fun h3 => hq (h2.1.symm.trans h3.1))]
 |none =>
  rw [atR_none] at h
  refine atR_none.2 fun e he => ?_
  obtain ⟨x, hx, h2⟩ := List.mem_filterMap.1 he
  unfold cutStep at h2
  split at h2
  ·split at h2
   ·cases h2
   ·injection h2 with h2
    subst h2
    rename_i h3 _
    unfold isAt; rw [decide_eq_false_iff_not]
    exact fun h4 => hq (h4.1.symm.trans h3.1)
  ·injection h2 with h2
   subst h2
   exact h x hx
def sV (l : List El) (q : Int × Int × Int) (u : Int) : Option ByteArray := (atR l q u).map El.s
theorem cut_past {l : List El} {k q : Int × Int × Int} {t u : Int} (hw : wrErr l (fresh k { data := #[] } t) = 0) (hu : u < t) : sV (cutR l k t) q u = sV l q u := by
 obtain ⟨hG, hx, hl⟩ := wrErr_zero.1 hw
 have hM := cut_good hw
 unfold sV
 cases h : atR l q u with
 |some x =>
  obtain ⟨h1, h2⟩ := (atR_iff hG.2.2).1 h
  have h2' := h2
  unfold isAt El.live liveP at h2'; rw [decide_eq_true_eq] at h2'
  by_cases h3 : x.key = k ∧ x.g = 0
  ·have h4 : atR (cutR l k t) q u = some { x with g := t } := (atR_iff hM.2.2).2 ⟨List.mem_filterMap.2 ⟨x, h1, by unfold cutStep; rw [if_pos h3, if_neg (by omega)]⟩, by
    unfold isAt El.live liveP; rw [decide_eq_true_eq]
    exact ⟨h2'.1, h2'.2.1, .inr hu⟩⟩
   rw [h4]; rfl
  ·have h4 : atR (cutR l k t) q u = some x := (atR_iff hM.2.2).2 ⟨List.mem_filterMap.2 ⟨x, h1, by unfold cutStep; rw [if_neg h3]⟩, h2⟩
   rw [h4]
 |none =>
  rw [atR_none] at h
  have h4 : atR (cutR l k t) q u = none := atR_none.2 fun e he => by
   obtain ⟨x, hx, h2⟩ := List.mem_filterMap.1 he
   have h5 := h x hx
   unfold cutStep at h2
   split at h2
   ·split at h2
    ·cases h2
    ·injection h2 with h2
     subst h2
     rename_i h3 _
     unfold isAt El.live liveP at h5 ⊢; rw [decide_eq_false_iff_not] at h5 ⊢
     exact fun h6 => h5 ⟨h6.1, h6.2.1, .inl h3.2⟩
   ·injection h2 with h2
    subst h2
    exact h5
  rw [h4]
theorem put_past {l : List El} {k q : Int × Int × Int} {s : ByteArray} {t u : Int} (hw : wrErr l (fresh k s t) = 0) (hM : Good (putR l k s t)) (hu : u < t) : sV (putR l k s t) q u = sV l q u := by
 unfold sV
 by_cases hq : q = k
 ·subst hq
  obtain ⟨h1, _, h3⟩ := past_at hw hM hu
  cases ha : atR (putR l q s t) q u with
  |none =>
   cases hb : atR l q u with
   |none => rfl
   |some y => rw [ha, hb] at h1; exact absurd h1 (by simp)
  |some x =>
   cases hb : atR l q u with
   |none => rw [ha, hb] at h1; exact absurd h1 (by simp)
   |some y => rw [ha, hb] at h3; simp at h3 ⊢; exact h3
 ·rw [other_at hw hM hq]
theorem late_at {l : List El} (h : Good l) {u : Int} (hu : latest l ≤ u) (q : Int × Int × Int) : atR l q u = l.find? (isOpen q) := find_same fun _ he => open_at h hu he
theorem late_two {l : List El} (h : Good l) {u v : Int} (hu : latest l ≤ u) (hv : latest l ≤ v) (q : Int × Int × Int) : atR l q u = atR l q v := (late_at h hu q).trans (late_at h hv q).symm
def bkK (P O : Int) (j : Nat) : Int × Int × Int := (P, O, (j : Int) + 1)
theorem bkK_ne {P O : Int} {i j : Nat} (h : i ≠ j) : bkK P O i ≠ bkK P O j := fun e => by
 unfold bkK at e
 simp only [Prod.mk.injEq, true_and] at e
 omega
def frV (S : List UInt8) (j : Nat) : Option ByteArray := if 16 * j < S.length then some ⟨((S.drop (16 * j)).take 16).toArray⟩ else none
theorem frV_size {S : List UInt8} {j : Nat} {s : ByteArray} (h : frV S j = some s) : s.size ≤ 16 := by
 unfold frV at h
 split at h
 ·injection h with h; subst h
  show (List.toArray _).size ≤ 16
  simp; omega
 ·cases h
def stpR (P O : Int) (S : List UInt8) (t : Int) (old : Option ByteArray) (x : Int × List El) (j : Nat) : Int × List El :=
 if x.1 = 0 then (if old = frV S j then x else match frV S j with
  |some s => (putErr x.2 (bkK P O j) s t, if putErr x.2 (bkK P O j) s t = 0 then putR x.2 (bkK P O j) s t else [])
  |none => (cutErr x.2 (bkK P O j) t, if cutErr x.2 (bkK P O j) t = 0 then cutR x.2 (bkK P O j) t else [])) else x
def stS (l : List El) (P O : Int) (S : List UInt8) (t : Int) : Nat → Int × List El
 | 0 => (0, l)
 |n + 1 => stpR P O S t (sV l (bkK P O n) 2147483647) (stS l P O S t n) n
theorem stS_succ (l : List El) (P O : Int) (S : List UInt8) (t : Int) (n : Nat) : stS l P O S t (n + 1) = stpR P O S t (sV l (bkK P O n) 2147483647) (stS l P O S t n) n := rfl
theorem wr_of {m : List El} {P O t : Int} {n : Nat} {s : ByteArray} (hG : Good m) (hk : kErr (P, O, 0) = 0) (h1 : 1 ≤ t) (h2 : t ≤ 2147483647) (hl : latest m ≤ t) (hn : n < 20) (hs : s.size ≤ 40) : wrErr m (fresh (bkK P O n) s t) = 0 := by
 refine wrErr_zero.2 ⟨hG, ?_, hl⟩
 unfold El.err fresh bkK
 refine elemErr_zero.2 ⟨?_, ⟨h1, h2, .inl rfl⟩, by show (s.size : Int) ≤ 40; omega⟩
 unfold kErr keyErr at hk
 simp only at hk
 split at hk
 ·show keyErr P O ((n : Int) + 1) = 0
  refine keyErr_ok ?_ ?_ ?_ ?_ ?_ ?_ <;> omega
 ·exact absurd hk (by decide)
theorem put8 {m : List El} {k : Int × Int × Int} {s : ByteArray} {t : Int} (h : wrErr m (fresh k s t) = 0) : putErr m k s t = 0 ∨ putErr m k s t = 8 := by
 unfold putErr
 rw [if_pos h]
 split
 ·exact .inl rfl
 ·split
  ·exact .inr rfl
  ·exact .inl rfl
theorem cut0 {m : List El} {k : Int × Int × Int} {t : Int} {s : ByteArray} (h : wrErr m (fresh k { data := #[] } t) = 0) (hs : sV m k 2147483647 = some s) : cutErr m k t = 0 := by
 obtain ⟨hG, _, _⟩ := wrErr_zero.1 h
 unfold cutErr
 rw [if_pos h]
 unfold sV at hs
 rw [late_at hG (latest_max hG)] at hs
 cases hf : m.find? (isOpen k) with
 |none => rw [hf] at hs; cases hs
 |some x => rw [if_pos (List.any_eq_true.2 ⟨x, List.mem_of_find?_eq_some hf, List.find?_some hf⟩)]
structure FInv (l m : List El) (P O : Int) (S : List UInt8) (t : Int) (n : Nat) : Prop where
 good : Good m
 late : latest m ≤ t
 now : ∀ j, j < n → ∀ u, t ≤ u → sV m (bkK P O j) u = frV S j
 other : ∀ q, (∀ j, j < n → q ≠ bkK P O j) → ∀ u, atR m q u = atR l q u
 past : ∀ q u, u < t → sV m q u = sV l q u
 stays : ∀ j, j < n → sV l (bkK P O j) 2147483647 = frV S j → ∀ u, atR m (bkK P O j) u = atR l (bkK P O j) u
theorem stS_inv {l : List El} {P O t : Int} (S : List UInt8) (hG : Good l) (hk : kErr (P, O, 0) = 0) (h1 : 1 ≤ t) (h2 : t ≤ 2147483647) (hl : latest l ≤ t) :
    ∀ n, n ≤ 20 → ((stS l P O S t n).1 = 0 ∧ FInv l (stS l P O S t n).2 P O S t n) ∨ ((stS l P O S t n).1 = 8 ∧ (stS l P O S t n).2 = [])
  | 0, _ => .inl ⟨rfl, hG, hl, fun j hj => absurd hj (Nat.not_lt_zero _), fun _ _ _ => rfl, fun _ _ _ => rfl, fun j hj => absurd hj (Nat.not_lt_zero _)⟩
  | n + 1, hn => by
    rw [stS_succ]
    rcases stS_inv S hG hk h1 h2 hl n (by omega) with ⟨h0, I⟩ | ⟨h8, hN⟩
    rotate_left
    · refine .inr ?_
      unfold stpR
      rw [if_neg (by rw [h8]; decide)]
      exact ⟨h8, hN⟩
    have hme : ∀ u, atR (stS l P O S t n).2 (bkK P O n) u = atR l (bkK P O n) u := fun u => I.other _ (fun j hj => bkK_ne (by omega)) u
    generalize stS l P O S t n = x at h0 I hme ⊢
    obtain ⟨e, m⟩ := x
    simp only at h0 I hme
    subst h0
    unfold stpR
    rw [if_pos rfl]
    by_cases hs : sV l (bkK P O n) 2147483647 = frV S n
    · rw [if_pos hs]
      refine .inl ⟨rfl, I.good, I.late, fun j hj u hu => ?_, fun q hq u => I.other q (fun j hj => hq j (by omega)) u, I.past, fun j hj h u => ?_⟩
      · rcases Nat.lt_or_ge j n with h | h
        · exact I.now j h u hu
        · obtain rfl : j = n := by omega
          rw [← hs]
          unfold sV
          show (atR m _ u).map _ = _
          rw [hme, late_two hG (Int.le_trans hl hu) (latest_max hG)]
      · rcases Nat.lt_or_ge j n with h3 | h3
        · exact I.stays j h3 h u
        · obtain rfl : j = n := by omega
          exact hme u
    rw [if_neg hs]
    have hold : sV m (bkK P O n) 2147483647 = sV l (bkK P O n) 2147483647 := by unfold sV; rw [hme]
    have hsame : ∀ j, j < n + 1 → sV l (bkK P O j) 2147483647 = frV S j → j < n := fun j hj h => by
      rcases Nat.lt_or_ge j n with h3 | h3
      · exact h3
      · obtain rfl : j = n := by omega
        exact absurd h hs
    cases hf : frV S n with
    | some s =>
      have hw : wrErr m (fresh (bkK P O n) s t) = 0 := wr_of I.good hk h1 h2 I.late (by omega) (by have := frV_size hf; omega)
      show _ ∨ _
      rcases put8 hw with hp | hp
      · left
        simp only [hp, if_pos]
        have hM := put_good hw hp
        refine ⟨trivial, hM, by rw [latest_put hw]; exact Int.le_refl _, fun j hj u hu => ?_, fun q hq u => ?_, fun q u hu => (put_past hw hM hu).trans (I.past q u hu), fun j hj h u => ?_⟩
        · rcases Nat.lt_or_ge j n with h | h
          · unfold sV; rw [other_at hw hM (bkK_ne (by omega))]; exact I.now j h u hu
          · obtain rfl : j = n := by omega
            obtain ⟨y, hy, hys, _⟩ := now_at hw hM hu
            unfold sV; rw [hy, hf, ← hys]; rfl
        · rw [other_at hw hM (hq n (by omega))]
          exact I.other q (fun j hj => hq j (by omega)) u
        · have hjn := hsame j hj h
          rw [other_at hw hM (bkK_ne (by omega))]
          exact I.stays j hjn h u
      · right
        simp only [hp]
        exact ⟨trivial, if_neg (by decide)⟩
    | none =>
      have hw : wrErr m (fresh (bkK P O n) { data := #[] } t) = 0 := wr_of I.good hk h1 h2 I.late (by omega) (by decide)
      show _ ∨ _
      have hsm : ∃ s, sV m (bkK P O n) 2147483647 = some s := by
        rw [hold]
        cases h : sV l (bkK P O n) 2147483647 with
        | none => rw [hf] at hs; exact absurd h hs
        | some s => exact ⟨s, rfl⟩
      obtain ⟨s, hsm⟩ := hsm
      have hc := cut0 hw hsm
      left
      simp only [hc, if_pos]
      have hM := cut_good hw
      refine ⟨trivial, hM, latest_cut hw, fun j hj u hu => ?_, fun q hq u => ?_, fun q u hu => (cut_past hw hu).trans (I.past q u hu), fun j hj h u => ?_⟩
      · rcases Nat.lt_or_ge j n with h | h
        · unfold sV; rw [cut_other hw (bkK_ne (by omega))]; exact I.now j h u hu
        · obtain rfl : j = n := by omega
          unfold sV; rw [gone_at hw hu, hf]; rfl
      · rw [cut_other hw (hq n (by omega))]
        exact I.other q (fun j hj => hq j (by omega)) u
      · have hjn := hsame j hj h
        rw [cut_other hw (bkK_ne (by omega))]
        exact I.stays j hjn h u
def txtM (M : Nat → Option ByteArray) (n : Nat) : List UInt8 := (List.range n).flatMap fun j => ((M j).getD ByteArray.empty).data.toList
theorem txtM_succ (M : Nat → Option ByteArray) (n : Nat) : txtM M (n + 1) = txtM M n ++ ((M n).getD ByteArray.empty).data.toList := by
 unfold txtM
 rw [List.range_succ, List.flatMap_append]
 simp
def txtL (l : List El) (P O t : Int) : List UInt8 := txtM (fun j => sV l (bkK P O j) t) 20
theorem txtM_same {M N : Nat → Option ByteArray} : ∀ n, (∀ j, j < n → M j = N j) → txtM M n = txtM N n
 | 0, _ => rfl
 |n + 1, h => by rw [txtM_succ, txtM_succ, txtM_same n fun j hj => h j (by omega), h n (by omega)]
theorem fr_take (S : List UInt8) : ∀ n, txtM (frV S) n = S.take (16 * n)
 | 0 => rfl
 |n + 1 => by
  rw [txtM_succ, fr_take S n, show 16 * (n + 1) = 16 * n + 16 by omega, List.take_add]
  congr 1
  unfold frV
  split
  ·simp
  ·rename_i h
   rw [List.drop_eq_nil_of_le (by omega)]; rfl
theorem fr_txt {S : List UInt8} (h : S.length ≤ 320) : txtM (frV S) 20 = S := by rw [fr_take, List.take_of_length_le (by omega)]
theorem in_block {P O t : Int} {e : El} (h : inR (P, O, 1) (P, O, 20) t e = true) : e.p = P ∧ e.o = O ∧ 1 ≤ e.f ∧ e.f ≤ 20 ∧ e.live t := by
 unfold inR kLt El.key at h
 rw [decide_eq_true_eq] at h
 obtain ⟨h1, h2, h3⟩ := h
 simp only at h1 h2
 refine ⟨?_, ?_, ?_, ?_, h3⟩ <;> omega
theorem range_find {l : List El} {P O t : Int} {j : Nat} (hj : j < 20) : (rangeR l (P, O, 1) (P, O, 20) t).find? (fun e => decide (e.f = (j : Int) + 1)) = atR l (bkK P O j) t := by
 unfold rangeR atR
 rw [List.find?_filter]
 refine find_same fun e _ => ?_
 unfold isAt bkK inR kLt El.key
 rw [Bool.eq_iff_iff]
 simp only [Bool.and_eq_true, decide_eq_true_eq, Prod.mk.injEq]
 constructor
 ·rintro ⟨⟨h1, h2, h3⟩, h4⟩
  exact ⟨⟨by omega, by omega, h4⟩, h3⟩
 ·rintro ⟨⟨h1, h2, h4⟩, h3⟩
  exact ⟨⟨by omega, by omega, h3⟩, h4⟩
theorem range_f {l : List El} (hG : Good l) {P O t : Int} : (rangeR l (P, O, 1) (P, O, 20) t).Pairwise (fun a b => a.f < b.f) := by
 refine List.Pairwise.imp_of_mem ?_ (range_rise hG (P, O, 1) (P, O, 20) t)
 intro a b ha hb h
 obtain ⟨a1, a2, _⟩ := in_block (List.mem_filter.1 ha).2
 obtain ⟨b1, b2, _⟩ := in_block (List.mem_filter.1 hb).2
 unfold kLt El.key at h
 simp only at h
 omega
def objErr (l : List El) (P O : Int) : Int := if runErr l = 0 then kErr (P, O, 0) else runErr l
theorem kErr_blk {P O f : Int} (h0 : 0 ≤ f) (h1 : f ≤ 1073741824) : kErr (P, O, f) = kErr (P, O, 0) := by
 unfold kErr keyErr
 simp only
 by_cases h : 0 ≤ P ∧ P ≤ 15 ∧ 0 ≤ O ∧ O ≤ 1048576
 ·rw [if_pos (by omega), if_pos (by omega)]
 ·rw [if_neg (by omega), if_neg (by omega)]
theorem rg_obj (l : List El) (P O : Int) : rgErr l (P, O, 1) (P, O, 20) = objErr l P O := by
 unfold rgErr objErr
 rw [kErr_blk (by omega) (by omega), kErr_blk (f := 20) (by omega) (by omega)]
 by_cases h : kErr (P, O, 0) = 0
 ·rw [if_pos h, h]
 ·rw [if_neg h]
theorem objErr_zero {l : List El} {P O : Int} (h : objErr l P O = 0) : Good l ∧ kErr (P, O, 0) = 0 := by
 unfold objErr at h
 by_cases h1 : runErr l = 0
 ·rw [if_pos h1] at h; exact ⟨runErr_zero.1 h1, h⟩
 ·rw [if_neg h1] at h; exact absurd h h1
def setE (l : List El) (P O : Int) (S : List UInt8) (t : Int) : Int :=
 if objErr l P O = 0 then (if 320 < S.length then 2 else if 1 ≤ t ∧ t ≤ 2147483647 ∧ latest l ≤ t then (stS l P O S t 20).1 else 9) else objErr l P O
def setR (l : List El) (P O : Int) (S : List UInt8) (t : Int) : List El := if setE l P O S t = 0 then (stS l P O S t 20).2 else []
theorem setE_zero {l : List El} {P O t : Int} {S : List UInt8} (h : setE l P O S t = 0) : Good l ∧ kErr (P, O, 0) = 0 ∧ S.length ≤ 320 ∧ 1 ≤ t ∧ t ≤ 2147483647 ∧ latest l ≤ t ∧ FInv l (setR l P O S t) P O S t 20 := by
 have h' := h
 unfold setE at h
 by_cases h1 : objErr l P O = 0
 ·rw [if_pos h1] at h
  obtain ⟨hG, hk⟩ := objErr_zero h1
  by_cases h2 : 320 < S.length
  ·rw [if_pos h2] at h; exact absurd h (by decide)
  ·rw [if_neg h2] at h
   by_cases h3 : 1 ≤ t ∧ t ≤ 2147483647 ∧ latest l ≤ t
   ·rw [if_pos h3] at h
    refine ⟨hG, hk, by omega, h3.1, h3.2.1, h3.2.2, ?_⟩
    unfold setR
    rw [if_pos h']
    rcases stS_inv S hG hk h3.1 h3.2.1 h3.2.2 20 (Nat.le_refl _) with h4 | h4
    ·exact h4.2
    ·rw [h4.1] at h; exact absurd h (by decide)
   ·rw [if_neg h3] at h; exact absurd h (by decide)
 ·rw [if_neg h1] at h; exact absurd h h1
theorem set_txt {l : List El} {P O t : Int} {S : List UInt8} (h : setE l P O S t = 0) {u : Int} (hu : t ≤ u) : txtL (setR l P O S t) P O u = S := by
 obtain ⟨_, _, h3, _, _, _, I⟩ := setE_zero h
 unfold txtL
 rw [txtM_same 20 fun j hj => I.now j hj u hu, fr_txt h3]
open Go.RowKit Go.Maps
theorem intLaw : Keyed Try.prog 3 := int_keyed Try.underlying3
theorem zeroStr (w : World) : (zeroValue 9).run Try.prog w = .ok (.string { data := #[] }) w := by kernel_rfl
def MapS (w : World) (b n : Nat) (M : Int → Option ByteArray) : Prop :=
 ∃ D : DataW Unit, w.ownsMap Try.prog 3 (plainElem Try.prog 9) b n D ∧ ∀ k : Int, Maps.has D (.int .i64 k) = (M k).isSome ∧ D.atKey (.int .i64 k) (.lit (.string [])) = .lit (.string ((M k).getD { data := #[] }).data.toList)
theorem MapS.made (w : World) : MapS (w.alloc (.map #[] 0)) w.heap.size 0 (fun _ => none) := ⟨.map [], World.ownsMap_made _ _ _ _, fun _ => ⟨rfl, rfl⟩⟩
theorem MapS.calm {w w' : World} {b n : Nat} {M : Int → Option ByteArray} (h : MapS w b n M) (hb : Calm w w') : MapS w' b n M := by
 obtain ⟨D, h1, h2⟩ := h
 exact ⟨D, h1.kept (hb.grownBy none) (by simp), h2⟩
theorem MapS.mono {w : World} {b n n' : Nat} {M : Int → Option ByteArray} (h : MapS w b n M) (hn : n ≤ n') : MapS w b n' M := by
 obtain ⟨D, h1, h2⟩ := h
 exact ⟨D, h1.mono hn, h2⟩
def updM (M : Int → Option ByteArray) (k : Int) (s : ByteArray) : Int → Option ByteArray := fun j => if j = k then some s else M j
theorem keyOf_i {k : Int} (hk : (Lit.int .i64 k).wf = true) : keyOf Try.prog 3 (.int .i64 k) = some (.int .i64 k) := keyOf_int_mk Try.underlying3 hk
theorem wf_small {k : Int} (h0 : -9223372036854775808 ≤ k) (h1 : k ≤ 9223372036854775807) : (Lit.int .i64 k).wf = true := WalkArith.wf_i64 ⟨h0, h1⟩
theorem Calm.grownAt {a w w' : World} {b : Nat} (h : Calm a w) (hb : a.heap.size ≤ b) (hg : w.grownBy w' (some b)) : Calm a w' := Below.grown h hg h.size fun k hk => by
 cases hk; exact hb
theorem isK {k : Int} : WideAt.IsKeyLit (.int .i64 k) := by simp [WideAt.IsKeyLit]
theorem wpList_map_put {ops : Array Oper} {rest : List Oper} {o : Oper} {a : Act} {w : World} {Q : Exit → Act → World → Prop} (hgd : o.guard = none) (m x v : Operand) (ho : o.op = .mapUpdate 65 m x v)
    (b n : Nat) (M : Int → Option ByteArray) (hm : a.eval m = .map (some b)) (h : MapS w b n M) (hn : n < 1000000) (k : Int) (s : ByteArray) (hx : a.eval x = .int .i64 k) (hv : a.eval v = .string s) (hk : (Lit.int .i64 k).wf = true) (hs : s.size ≤ maxLen)
    (hK : ∀ w', MapS w' b (n + 1) (updM M k s) → w.grownBy w' (some b) → wpList Try.prog ops Q rest (a.put o.dst undef) w') : wpList Try.prog ops Q (o :: rest) a w := by
  obtain ⟨D, h1, h2⟩ := h
  refine wpList_mapUpdate_own w hgd m x v 65 ho 3 9 intLaw Try.underlying65 _ b n D hm h1 (by unfold maxLen; omega) _ _ (.int .i64 k) hx hv (keyOf_i hk) (.lit (.string s.data.toList)) [] (plainElem_string Try.underlying9 hs) fun w' h3 h4 => hK w' ⟨_, h3, fun j => ?_⟩ h4
  have hD : IsMap D := h1.isMap
  unfold updM
  by_cases hj : j = k
  · subst hj
    rw [if_pos rfl]
    exact ⟨has_put_same hD isK _, atKey_put_same hD isK _ _⟩
  · rw [if_neg hj]
    have hne : Lit.int .i64 j ≠ .int .i64 k := fun e => hj (by injection e)
    rw [has_put_other hne, atKey_put_other hne]
    exact h2 j
theorem str_eq {t s : ByteArray} (h : t.data.toList = s.data.toList) : t = s := by
 obtain ⟨t⟩ := t
 obtain ⟨s⟩ := s
 simp only at h
 rw [Array.toList_inj.1 h]
theorem wpList_map_get {ops : Array Oper} {rest : List Oper} {o : Oper} {a : Act} {w : World} {Q : Exit → Act → World → Prop} (hgd : o.guard = none) (m x : Operand) (ho : o.op = .lookup 65 m x false)
    (b n : Nat) (M : Int → Option ByteArray) (hm : a.eval m = .map (some b)) (h : MapS w b n M) (k : Int) (s : ByteArray) (hx : a.eval x = .int .i64 k) (hk : (Lit.int .i64 k).wf = true) (hs : (M k).getD { data := #[] } = s)
    (hK : wpList Try.prog ops Q rest (a.put o.dst (.string s)) w) : wpList Try.prog ops Q (o :: rest) a w := by
  obtain ⟨D, h1, h2⟩ := h
  refine wpList_plain hgd fun K' hK' => ?_
  obtain ⟨v, ps, hrun, hv⟩ := h1.lookup intLaw Try.underlying65 (zeroStr w) (plainElem_string Try.underlying9 (by decide)) (keyOf_i hk)
  obtain ⟨t, rfl, ht, _⟩ := plainElem_string_inv Try.underlying9 hv
  have : t = s := by
    subst hs
    have h3 := (h2 k).2
    have h4 := congrArg Prod.fst ht
    simp only at h4
    rw [h3] at h4
    injection h4 with h4
    injection h4 with h4
    exact (str_eq h4).symm
  subst this
  unfold Oper.wp
  simp [execOp, ho, hm, hx, hrun, Result.andThen]
  exact hK' _ _ hK
theorem wpList_map_ok {ops : Array Oper} {rest : List Oper} {o : Oper} {a : Act} {w : World} {Q : Exit → Act → World → Prop} (hgd : o.guard = none) (m x : Operand) (ho : o.op = .lookup 65 m x true)
    (b n : Nat) (M : Int → Option ByteArray) (hm : a.eval m = .map (some b)) (h : MapS w b n M) (k : Int) (s : ByteArray) (z : Bool) (hx : a.eval x = .int .i64 k) (hk : (Lit.int .i64 k).wf = true) (hs : (M k).getD { data := #[] } = s) (hz : (M k).isSome = z)
    (hK : wpList Try.prog ops Q rest (a.put o.dst (.tuple #[.string s, .bool z])) w) : wpList Try.prog ops Q (o :: rest) a w := by
  obtain ⟨D, h1, h2⟩ := h
  refine wpList_plain hgd fun K' hK' => ?_
  obtain ⟨v, ps, hrun, hv⟩ := h1.look_ok intLaw Try.underlying65 (zeroStr w) (plainElem_string Try.underlying9 (by decide)) (keyOf_i hk)
  obtain ⟨t, rfl, ht, _⟩ := plainElem_string_inv Try.underlying9 hv
  have : t = s := by
    subst hs
    have h3 := (h2 k).2
    have h4 := congrArg Prod.fst ht
    simp only at h4
    rw [h3] at h4
    injection h4 with h4
    injection h4 with h4
    exact (str_eq h4).symm
  subst this
  rw [(h2 k).1, hz] at hrun
  unfold Oper.wp
  simp [execOp, ho, hm, hx, hrun, Result.andThen]
  exact hK' _ _ hK
open Go.RowKit
def SlEnd (l : List El) (n : Int) (w : World) (e : Ending) (w' : World) : Prop := ∃ v, e = .returned (.tuple #[v, .int .i64 n]) ∧ Sl w' v l ∧ Calm w w'
theorem OwnR.sl {base : Nat} {w : World} {v : Value} {l : List El} (h : OwnR base w v l) (hw : ∀ e ∈ l, e.wf) : Sl w v l := by
 obtain ⟨A, c, hv, h1, h2, h3⟩ := h.lies hw
 exact ⟨A, c, hv, by omega, h3⟩
theorem inR_iff (p o f m g : Int) (s : ByteArray) (p' o' f' p2 o2 f2 t : Int) : inR (p', o', f') (p2, o2, f2) t ⟨p, o, f, m, g, s⟩ = true ↔ kcmp p' o' f' p o f ≤ 0 ∧ kcmp p o f p2 o2 f2 ≤ 0 ∧ liveP m g t := by
 unfold inR
 rw [decide_eq_true_eq]
 have h1 : kLt (p, o, f) (p', o', f') ↔ kcmp p' o' f' p o f = 1 := kcmp_kGt.symm
 have h2 : kLt (p2, o2, f2) (p, o, f) ↔ kcmp p o f p2 o2 f2 = 1 := kcmp_kGt.symm
 simp only [El.key, El.live]
 rw [h1, h2]
 rcases kcmp_or p' o' f' p o f with h | h | h <;> rcases kcmp_or p o f p2 o2 f2 with h' | h' | h' <;> simp [h, h']
set_option maxHeartbeats 8000000 in
theorem runRange_any (A : Option Addr) (d : Nat) (l : List El) (p' o' f' p2 o2 f2 t : Int) (w : World) (hn : l.length ≤ 9223372036854775807) (hL : Lies w A l) :
    Calls Try.prog 56 #[.slice A l.length d, .agg #[.int .i64 p', .int .i64 o', .int .i64 f'], .agg #[.int .i64 p2, .int .i64 o2, .int .i64 f2], .int .i64 t] w (SlEnd (if rgErr l (p', o', f') (p2, o2, f2) = 0 then rangeR l (p', o', f') (p2, o2, f2) t else []) (rgErr l (p', o', f') (p2, o2, f2)) w) := by
  have cC : ∀ u, Calm w u → Calls Try.prog 31 #[.slice A l.length d] u fun e w' => e = .returned (.int .i64 (runErr l)) ∧ Calm u w' := fun u hu => runCheck_any A d l u hn (hL.calm hu)
  have cK := keyCheck_any p' o' f'
  have cK2 := keyCheck_any p2 o2 f2
  have hx : ((w.alloc (.cells #[.int .i64 p', .int .i64 o', .int .i64 f'] 39)).alloc (.cells #[.int .i64 p2, .int .i64 o2, .int .i64 f2] 39)).heap[w.heap.size]? = some (.cells #[.int .i64 p', .int .i64 o', .int .i64 f'] 39 (0, 0)) := heap_past _ (heap_new _ _)
  have hy : ((w.alloc (.cells #[.int .i64 p', .int .i64 o', .int .i64 f'] 39)).alloc (.cells #[.int .i64 p2, .int .i64 o2, .int .i64 f2] 39)).heap[w.heap.size + 1]? = some (.cells #[.int .i64 p2, .int .i64 o2, .int .i64 f2] 39 (0, 0)) := by simpa using heap_new (w.alloc (.cells #[.int .i64 p', .int .i64 o', .int .i64 f'] 39)) (.cells #[.int .i64 p2, .int .i64 o2, .int .i64 f2] 39)
  have hu := ((Calm.refl w).alloc (.cells #[.int .i64 p', .int .i64 o', .int .i64 f'] 39)).alloc (.cells #[.int .i64 p2, .int .i64 o2, .int .i64 f2] 39)
  by_cases he : runErr l = 0
  rotate_left
  · have e1 : rgErr l (p', o', f') (p2, o2, f2) = runErr l := by simp [rgErr, he]
    rw [e1, if_neg he]
    have b1 : (runErr l != 0) = true := by simpa using he
    clear he e1 hL cK cK2
    go_enter Try.func56, Try.ntmps56
    go_wp2_with (go_at_call 31; refine (cC _ hu).mono ?_; rintro e w1 ⟨rfl, hb1⟩; replace hx := (hb1.block (row3 hx).2.2.2).trans hx; replace hy := (hb1.block (row3 hy).2.2.2).trans hy; replace hu := hu.call hb1; clear hb1; obtain ⟨x0, x1, x2, hxs⟩ := row3 hx; obtain ⟨y0, y1, y2, hys⟩ := row3 hy)
    go_ret2
    exact ⟨_, rfl, Sl.nil _ _ _, hu⟩
  have hG := runErr_zero.1 he
  rw [he] at cC
  by_cases hk : keyErr p' o' f' = 0
  rotate_left
  · have e1 : rgErr l (p', o', f') (p2, o2, f2) = keyErr p' o' f' := by simp [rgErr, he, kErr, hk]
    rw [e1, if_neg hk]
    have b1 : (keyErr p' o' f' != 0) = true := by simpa using hk
    clear he hk e1 hL hG cK2
    go_enter Try.func56, Try.ntmps56
    go_wp2_with (first
      | (go_at_call 31; refine (cC _ hu).mono ?_; rintro e w1 ⟨rfl, hb1⟩; replace hx := (hb1.block (row3 hx).2.2.2).trans hx; replace hy := (hb1.block (row3 hy).2.2.2).trans hy; replace hu := hu.call hb1; clear hb1; obtain ⟨x0, x1, x2, hxs⟩ := row3 hx; obtain ⟨y0, y1, y2, hys⟩ := row3 hy)
      | (go_at_call 41; refine (cK _).mono ?_; rintro e w1 ⟨rfl, hb1⟩; replace hx := (hb1.block (row3 hx).2.2.2).trans hx; replace hy := (hb1.block (row3 hy).2.2.2).trans hy; replace hu := hu.call hb1; clear hb1; obtain ⟨x0, x1, x2, hxs⟩ := row3 hx; obtain ⟨y0, y1, y2, hys⟩ := row3 hy))
    go_ret2
    exact ⟨_, rfl, Sl.nil _ _ _, hu⟩
  by_cases hk2 : keyErr p2 o2 f2 = 0
  rotate_left
  · have e1 : rgErr l (p', o', f') (p2, o2, f2) = keyErr p2 o2 f2 := by simp [rgErr, he, kErr, hk]
    rw [e1, if_neg hk2]
    rw [hk] at cK
    have b1 : (keyErr p2 o2 f2 != 0) = true := by simpa using hk2
    clear he hk hk2 e1 hL hG
    go_enter Try.func56, Try.ntmps56
    go_wp2_with (first
      | (go_at_call 31; refine (cC _ hu).mono ?_; rintro e w1 ⟨rfl, hb1⟩; replace hx := (hb1.block (row3 hx).2.2.2).trans hx; replace hy := (hb1.block (row3 hy).2.2.2).trans hy; replace hu := hu.call hb1; clear hb1; obtain ⟨x0, x1, x2, hxs⟩ := row3 hx; obtain ⟨y0, y1, y2, hys⟩ := row3 hy)
      | (go_at_call 41; refine (cK _).mono ?_; rintro e w1 ⟨rfl, hb1⟩; replace hx := (hb1.block (row3 hx).2.2.2).trans hx; replace hy := (hb1.block (row3 hy).2.2.2).trans hy; replace hu := hu.call hb1; clear hb1; obtain ⟨x0, x1, x2, hxs⟩ := row3 hx; obtain ⟨y0, y1, y2, hys⟩ := row3 hy; clear cK)
      | (go_at_call 41; refine (cK2 _).mono ?_; rintro e w1 ⟨rfl, hb1⟩; replace hx := (hb1.block (row3 hx).2.2.2).trans hx; replace hy := (hb1.block (row3 hy).2.2.2).trans hy; replace hu := hu.call hb1; clear hb1; obtain ⟨x0, x1, x2, hxs⟩ := row3 hx; obtain ⟨y0, y1, y2, hys⟩ := row3 hy))
    go_ret2
    exact ⟨_, rfl, Sl.nil _ _ _, hu⟩
  have e1 : rgErr l (p', o', f') (p2, o2, f2) = 0 := by simp [rgErr, he, kErr, hk, hk2]
  rw [e1, if_pos rfl]
  rw [hk] at cK
  rw [hk2] at cK2
  have hn4 : l.length ≤ 400 := hG.1
  clear he hk hk2 e1 hG
  go_enter Try.func56, Try.ntmps56
  go_wp2_with (first
    | (go_at_call 31; refine (cC _ hu).mono ?_; rintro e w1 ⟨rfl, hb1⟩; replace hx := (hb1.block (row3 hx).2.2.2).trans hx; replace hy := (hb1.block (row3 hy).2.2.2).trans hy; replace hu := hu.call hb1; clear hb1; obtain ⟨x0, x1, x2, hxs⟩ := row3 hx; obtain ⟨y0, y1, y2, hys⟩ := row3 hy; clear cC)
    | (go_at_call 41; refine (cK _).mono ?_; rintro e w1 ⟨rfl, hb1⟩; replace hx := (hb1.block (row3 hx).2.2.2).trans hx; replace hy := (hb1.block (row3 hy).2.2.2).trans hy; replace hu := hu.call hb1; clear hb1; obtain ⟨x0, x1, x2, hxs⟩ := row3 hx; obtain ⟨y0, y1, y2, hys⟩ := row3 hy; clear cK)
    | (go_at_call 41; refine (cK2 _).mono ?_; rintro e w1 ⟨rfl, hb1⟩; replace hx := (hb1.block (row3 hx).2.2.2).trans hx; replace hy := (hb1.block (row3 hy).2.2.2).trans hy; replace hu := hu.call hb1; clear hb1; obtain ⟨x0, x1, x2, hxs⟩ := row3 hx; obtain ⟨y0, y1, y2, hys⟩ := row3 hy; clear cK2))
  have hRL : ∀ k, (rangeR (l.take k) (p', o', f') (p2, o2, f2) t).length ≤ 400 := fun k => by
    have h1 := rangeR_le (l.take k) (p', o', f') (p2, o2, f2) t
    have h2 : (l.take k).length ≤ l.length := List.length_take_le' _ _
    omega
  replace hL := hL.calm hu
  clear x0 x1 x2 y0 y1 y2 hxs hys
  obtain ⟨w3, hw3⟩ : ∃ w3 : World, w3 = w1 := ⟨_, rfl⟩
  subst hw3
  go_loopw [13, 33] (fun v i wr => ∃ k : Nat, k ≤ l.length ∧ i = .int .i64 k ∧ Calm w3 wr ∧ Hid (OwnR w3.heap.size wr v (rangeR (l.take k) (p', o', f') (p2, o2, f2) t))) (fun _ i _ => l.length - (intOf i).toNat)
  case atStart => exact ⟨0, Nat.zero_le _, rfl, Calm.refl _, show OwnR _ _ _ _ from OwnR.nil _ _⟩
  case round =>
    obtain ⟨k, hk, rfl, hur, ho⟩ := hrel
    by_cases hlt : k < l.length
    rotate_left
    · have K : Hid (rangeR (l.take k) (p', o', f') (p2, o2, f2) t = rangeR l (p', o', f') (p2, o2, f2) t) := by show _ = _; rw [List.take_of_length_le (by omega)]
      rw [K.out] at ho
      have hS := ho.out.sl fun e he => hL.1 e (List.mem_filter.1 he).1
      replace hur := hu.call hur
      clear K ho
      go_wp2_with fail
      go_ret2
      exact ⟨_, rfl, hS, hur⟩
    replace hx := (hur.block (row3 hx).2.2.2).trans hx
    replace hy := (hur.block (row3 hy).2.2.2).trans hy
    obtain ⟨b, q, p, o, f, m, g, s, rfl, hb, HE, hm, c0, c1, c2, c3, c4, c5⟩ := (hL.calm hur).get hlt
    have hT := rangeR_take HE.out (p', o', f') (p2, o2, f2) t
    have hI := inR_iff p o f m g s p' o' f' p2 o2 f2 t
    have hz : (wr.alloc (.cells #[.int .i64 p, .int .i64 o, .int .i64 f, .int .i64 m, .int .i64 g, .string s] 41)).heap[wr.heap.size]? = some (.cells #[.int .i64 p, .int .i64 o, .int .i64 f, .int .i64 m, .int .i64 g, .string s] 41 (0, 0)) := heap_new _ _
    replace hx := heap_past (.cells #[.int .i64 p, .int .i64 o, .int .i64 f, .int .i64 m, .int .i64 g, .string s] 41) hx
    replace hy := heap_past (.cells #[.int .i64 p, .int .i64 o, .int .i64 f, .int .i64 m, .int .i64 g, .string s] 41) hy
    replace ho := Lib.hid (ho.out.calm ((Calm.refl wr).alloc (.cells #[.int .i64 p, .int .i64 o, .int .i64 f, .int .i64 m, .int .i64 g, .string s] 41)))
    replace hur := hur.alloc (.cells #[.int .i64 p, .int .i64 o, .int .i64 f, .int .i64 m, .int .i64 g, .string s] 41)
    have hRk := hRL k
    obtain ⟨x0, x1, x2, hxs⟩ := row3 hx
    obtain ⟨y0, y1, y2, hys⟩ := row3 hy
    obtain ⟨z0, z1, z2, z3, z4, z5, hzs⟩ := row6 hz
    clear HE hRL hL
    have cA := cmp_any p' o' f' p o f
    have cB := cmp_any p o f p2 o2 f2
    have cL := live_any p o f m g t s
    generalize kcmp p' o' f' p o f = k1 at cA hI
    generalize kcmp p o f p2 o2 f2 = k2 at cB hI
    by_cases hin : inR (p', o', f') (p2, o2, f2) t ⟨p, o, f, m, g, s⟩ = true
    · rw [if_pos hin] at hT
      obtain ⟨h1, h2, h3⟩ := hI.1 hin
      rw [decide_eq_true h3] at cL
      have HT := Lib.hid hT
      clear hI hin h3 hT
      go_wp2_with (first
        | (go_at_call 70; refine (cA _).mono ?_; rintro e w1 ⟨rfl, hb1⟩; replace hx := (hb1.block (row3 hx).2.2.2).trans hx; replace hy := (hb1.block (row3 hy).2.2.2).trans hy; replace hz := (hb1.block (row6 hz).2.2.2.2.2.2).trans hz; replace ho := Lib.hid (ho.out.calm hb1); replace hur := hur.call hb1; clear hb1; obtain ⟨x0, x1, x2, hxs⟩ := row3 hx; obtain ⟨y0, y1, y2, hys⟩ := row3 hy; obtain ⟨z0, z1, z2, z3, z4, z5, hzs⟩ := row6 hz; clear cA)
        | (go_at_call 70; refine (cB _).mono ?_; rintro e w1 ⟨rfl, hb1⟩; replace hx := (hb1.block (row3 hx).2.2.2).trans hx; replace hy := (hb1.block (row3 hy).2.2.2).trans hy; replace hz := (hb1.block (row6 hz).2.2.2.2.2.2).trans hz; replace ho := Lib.hid (ho.out.calm hb1); replace hur := hur.call hb1; clear hb1; obtain ⟨x0, x1, x2, hxs⟩ := row3 hx; obtain ⟨y0, y1, y2, hys⟩ := row3 hy; obtain ⟨z0, z1, z2, z3, z4, z5, hzs⟩ := row6 hz; clear cB)
        | (go_at_call 63; refine (cL _).mono ?_; rintro e w1 ⟨rfl, hb1⟩; replace hx := (hb1.block (row3 hx).2.2.2).trans hx; replace hy := (hb1.block (row3 hy).2.2.2).trans hy; replace hz := (hb1.block (row6 hz).2.2.2.2.2.2).trans hz; replace ho := Lib.hid (ho.out.calm hb1); replace hur := hur.call hb1; clear hb1; obtain ⟨x0, x1, x2, hxs⟩ := row3 hx; obtain ⟨y0, y1, y2, hys⟩ := row3 hy; obtain ⟨z0, z1, z2, z3, z4, z5, hzs⟩ := row6 hz)
        | (at_builtin; refine wpList_append_el rfl _ _ rfl _ _ _ rfl (ho.out.calm ((Calm.refl _).alloc _)) _ _ p o f m g s _ rfl (heap_new _ _) (by omega) (by simp; exact Nat.le_succ_of_le hur.size) ?_; intro v' w9 ho9 hc9; have hur9 := hc9 _ (Nat.le_refl _) (hur.alloc _); rw [← HT.out] at ho9))
      have HO := Lib.hid ho9
      clear ho9 HT hc9
      go_roundw
      case rel => exact ⟨k + 1, by omega, by go_num, hur9, HO⟩
      case measure => simp [intOf]; omega
    · rw [if_neg hin, List.append_nil] at hT
      rw [← hT] at ho
      clear hT
      have hc : ¬ k1 ≤ 0 ∨ (k1 ≤ 0 ∧ ¬ k2 ≤ 0) ∨ (k1 ≤ 0 ∧ k2 ≤ 0 ∧ ¬ liveP m g t) := by
        by_cases a1 : k1 ≤ 0
        · by_cases a2 : k2 ≤ 0
          · exact .inr (.inr ⟨a1, a2, fun a3 => hin (hI.2 ⟨a1, a2, a3⟩)⟩)
          · exact .inr (.inl ⟨a1, a2⟩)
        · exact .inl a1
      clear hI hin
      rcases hc with h1 | ⟨h1, h2⟩ | ⟨h1, h2, h3⟩
      all_goals
        try rw [decide_eq_false h3] at cL
        try clear h3
        go_wp2_with (first
          | (go_at_call 70; refine (cA _).mono ?_; rintro e w1 ⟨rfl, hb1⟩; replace hx := (hb1.block (row3 hx).2.2.2).trans hx; replace hy := (hb1.block (row3 hy).2.2.2).trans hy; replace hz := (hb1.block (row6 hz).2.2.2.2.2.2).trans hz; replace ho := Lib.hid (ho.out.calm hb1); replace hur := hur.call hb1; clear hb1; obtain ⟨x0, x1, x2, hxs⟩ := row3 hx; obtain ⟨y0, y1, y2, hys⟩ := row3 hy; obtain ⟨z0, z1, z2, z3, z4, z5, hzs⟩ := row6 hz; clear cA)
          | (go_at_call 70; refine (cB _).mono ?_; rintro e w1 ⟨rfl, hb1⟩; replace hx := (hb1.block (row3 hx).2.2.2).trans hx; replace hy := (hb1.block (row3 hy).2.2.2).trans hy; replace hz := (hb1.block (row6 hz).2.2.2.2.2.2).trans hz; replace ho := Lib.hid (ho.out.calm hb1); replace hur := hur.call hb1; clear hb1; obtain ⟨x0, x1, x2, hxs⟩ := row3 hx; obtain ⟨y0, y1, y2, hys⟩ := row3 hy; obtain ⟨z0, z1, z2, z3, z4, z5, hzs⟩ := row6 hz; clear cB)
          | (go_at_call 63; refine (cL _).mono ?_; rintro e w1 ⟨rfl, hb1⟩; replace hx := (hb1.block (row3 hx).2.2.2).trans hx; replace hy := (hb1.block (row3 hy).2.2.2).trans hy; replace hz := (hb1.block (row6 hz).2.2.2.2.2.2).trans hz; replace ho := Lib.hid (ho.out.calm hb1); replace hur := hur.call hb1; clear hb1; obtain ⟨x0, x1, x2, hxs⟩ := row3 hx; obtain ⟨y0, y1, y2, hys⟩ := row3 hy; obtain ⟨z0, z1, z2, z3, z4, z5, hzs⟩ := row6 hz))
        go_roundw
        case rel => exact ⟨k + 1, by omega, by go_num, hur, ho⟩
        case measure => simp [intOf]; omega
open Go.RowKit Go.Maps
set_option maxHeartbeats 1000000 in
theorem block_any (P O i : Int) (w : World) : Calls Try.prog 39 #[.int .i64 P, .int .i64 O, .int .i64 i] w fun e w' => e = .returned (.agg #[.int .i64 P, .int .i64 O, .int .i64 i]) ∧ Calm w w' := by
 go_enter Try.func39, Try.ntmps39
 go_wp2
 go_returns
 exact ⟨rfl, by repeat (first | (with_reducible exact Calm.refl _) | (with_reducible refine Calm.alloc ?_ _) | (with_reducible refine Calm.drew ?_) | (with_reducible refine Calm.drewN ?_ _) | (refine Calm.call ?_ (by with_reducible assumption)))⟩
def mL (L : List El) : Int → Option ByteArray := L.foldl (fun M e => updM M e.f e.s) (fun _ => none)
theorem mL_take {L : List El} {k : Nat} {e : El} (h : L[k]? = some e) : mL (L.take (k + 1)) = updM (mL (L.take k)) e.f e.s := by
 unfold mL
 rw [take_snoc3 h, List.foldl_append]
 rfl
theorem mL_find {L : List El} (hp : L.Pairwise (fun a b => a.f < b.f)) (i : Int) : ∀ k, k ≤ L.length → mL (L.take k) i = ((L.take k).find? fun e => decide (e.f = i)).map El.s
 | 0, _ => rfl
 |k + 1, hk => by
  have he := List.getElem?_eq_getElem (show k < L.length by omega)
  rw [mL_take he, take_snoc3 he, List.find?_append]
  unfold updM
  by_cases h : i = L[k].f
  ·rw [if_pos h]
   have hn : (L.take k).find? (fun e => decide (e.f = i)) = none := List.find?_eq_none.2 fun e he => by
    obtain ⟨j, hj, rfl⟩ := List.getElem_of_mem he
    rw [List.length_take] at hj
    rw [List.getElem_take]
    have := List.pairwise_iff_getElem.1 hp j k (by omega) (by omega) (by omega)
    simp; omega
   rw [hn]
   simp [h]
  ·rw [if_neg h, mL_find hp i k (by omega)]
   have : ([L[k]].find? fun e => decide (e.f = i)) = none := by simp; exact fun e => h e.symm
   rw [this]
   simp
theorem mL_range {l : List El} (hG : Good l) (P O t : Int) {j : Nat} (hj : j < 20) : mL (rangeR l (P, O, 1) (P, O, 20) t) ((j : Int) + 1) = sV l (bkK P O j) t := by
 have h := mL_find (range_f hG (P := P) (O := O) (t := t)) ((j : Int) + 1) _ (Nat.le_refl _)
 rw [List.take_length] at h
 rw [h, range_find hj]
 rfl
def StoEnd (l : List El) (P O t : Int) (w : World) (e : Ending) (w' : World) : Prop :=
 Calm w w' ∧ if objErr l P O = 0 then ∃ b, e = .returned (.tuple #[.map (some b), .int .i64 0]) ∧ w.heap.size ≤ b ∧ MapS w' b 400 (mL (rangeR l (P, O, 1) (P, O, 20) t)) else e = .returned (.tuple #[.map none, .int .i64 (objErr l P O)])
set_option maxHeartbeats 4000000 in
theorem stored_any (A : Option Addr) (d : Nat) (l : List El) (P O t : Int) (w : World) (hn : l.length ≤ 9223372036854775807) (hL : Lies w A l) :
    Calls Try.prog 34 #[.slice A l.length d, .int .i64 P, .int .i64 O, .int .i64 t] w (StoEnd l P O t w) := by
  have cB1 := fun u => block_any P O 1 u
  have cB2 := fun u => block_any P O 20 u
  have cR := fun u (hu : Calm w u) => runRange_any A d l P O 1 P O 20 t u hn (hL.calm hu)
  rw [rg_obj] at cR
  have hu := Calm.refl w
  unfold StoEnd
  by_cases hE : objErr l P O = 0
  rotate_left
  · simp only [if_neg hE] at cR ⊢
    have b1 : (objErr l P O != 0) = true := by simpa using hE
    generalize objErr l P O = E at *
    go_enter Try.func34, Try.ntmps34
    go_wp2_with (first
      | (go_at_call 39; (with_reducible refine (cB1 _).mono ?_); rintro e w1 ⟨rfl, hb1⟩; replace hu := hu.call hb1; clear hb1)
      | (go_at_call 39; (with_reducible refine (cB2 _).mono ?_); rintro e w1 ⟨rfl, hb1⟩; replace hu := hu.call hb1; clear hb1)
      | (go_at_call 56; refine (cR _ hu).mono ?_; rintro e w1 ⟨v, rfl, hs, hb1⟩; obtain ⟨A', c', rfl, _, _⟩ := hs; replace hu := hu.call hb1; clear hb1))
    go_ret2
    exact ⟨hu, rfl⟩
  simp only [if_pos hE] at cR ⊢
  rw [hE] at cR
  have hG := (objErr_zero hE).1
  have hel : ∀ e ∈ rangeR l (P, O, 1) (P, O, 20) t, (e.s.size : Int) ≤ 40 ∧ 1 ≤ e.f ∧ e.f ≤ 20 := fun e he => by
    obtain ⟨h1, h2⟩ := List.mem_filter.1 he
    obtain ⟨_, _, h3, h4, _⟩ := in_block h2
    exact ⟨(elemErr_zero.1 (hG.2.1 e h1)).2.2, h3, h4⟩
  have hl4 : (rangeR l (P, O, 1) (P, O, 20) t).length ≤ 400 := Nat.le_trans (rangeR_le _ _ _ _) hG.1
  have HEL := Lib.hid hel
  clear hel hG hE
  generalize rangeR l (P, O, 1) (P, O, 20) t = L at *
  have hmm := @run_makeMap Try.prog
  go_enter Try.func34, Try.ntmps34
  go_wp2_with (first
      | (go_at_call 39; (with_reducible refine (cB1 _).mono ?_); rintro e w1 ⟨rfl, hb1⟩; replace hu := hu.call hb1; clear hb1)
      | (go_at_call 39; (with_reducible refine (cB2 _).mono ?_); rintro e w1 ⟨rfl, hb1⟩; replace hu := hu.call hb1; clear hb1)
      | (go_at_call 56; refine (cR _ hu).mono ?_; rintro e w2 ⟨v, rfl, hs, hb1⟩; obtain ⟨A', c', rfl, _, hL2⟩ := hs; replace hu := hu.call hb1; clear hb1))
  clear hmm cR cB1 cB2
  have hM0 := MapS.made w2
  have hu2 := (Calm.refl w2).alloc (.map #[] 0)
  go_loopw [33] (fun i wr => ∃ k : Nat, k ≤ L.length ∧ i = .int .i64 k ∧ Calm w2 wr ∧ Hid (MapS wr w2.heap.size k (mL (L.take k)))) (fun i _ => L.length - (intOf i).toNat)
  case atStart => exact ⟨0, Nat.zero_le _, rfl, hu2, hM0⟩
  case round =>
    obtain ⟨k, hk, rfl, hur, HM⟩ := hrel
    by_cases hlt : k < L.length
    rotate_left
    · have HM2 : Hid (MapS wr w2.heap.size 400 (mL L)) := show MapS _ _ _ _ from by
        have := HM.out
        rw [List.take_of_length_le (by omega)] at this
        exact this.mono (by omega)
      go_wp2_with fail
      go_ret2
      exact ⟨hu.call hur, _, rfl, hu.size, HM2.out⟩
    obtain ⟨b, q, p, o, f, m, g, s, rfl, hb, HE, hm, c0, c1, c2, c3, c4, c5⟩ := (hL2.calm hur).get hlt
    have hx := HEL.out _ (List.mem_of_getElem? HE.out)
    have hwf := wf_small (k := f) (by have := hx.2.1; simp only at this; omega) (by have := hx.2.2; simp only at this; omega)
    have hsz : s.size ≤ maxLen := by have := hx.1; simp only at this; unfold maxLen; omega
    have HT := Lib.hid (mL_take HE.out)
    have HM1 := Lib.hid (HM.out.calm ((Calm.refl wr).alloc (.cells #[.int .i64 p, .int .i64 o, .int .i64 f, .int .i64 m, .int .i64 g, .string s] 41)))
    clear hx HE
    go_wp2_with (at_mapUpdate; refine wpList_map_put rfl _ _ _ rfl w2.heap.size k _ rfl HM1.out (by omega) f s rfl rfl hwf hsz ?_; intro w9 hM9 hg9; have HM9 := Lib.hid hM9; clear hM9)
    go_roundw
    case rel => exact ⟨k + 1, by omega, by go_num, (hur.alloc _).grownAt (Nat.le_refl _) hg9, show MapS _ _ _ _ from by rw [HT.out]; exact HM9.out⟩
    case measure => simp [intOf]; omega
open Go.RowKit
theorem bytes_size (l : List UInt8) : (⟨l.toArray⟩ : ByteArray).size = l.length := by show l.toArray.size = _; simp
theorem bytes_list (l : List UInt8) : (⟨l.toArray⟩ : ByteArray).data.toList = l := by simp
open Go.RowKit
def Bld (B b : Nat) (l : List UInt8) (w : World) : Prop := Lib.IsBuilder 81 5 B b (Lib.byteCells l) w
theorem sizeBld : (Try.prog.info? 81).map (·.size) = some 2 := by kernel_rfl
theorem liesBld : liesAt Try.prog Try.prog.depth 81 (2 / Try.prog.cellsOf 81) 0 81 1 = true := by kernel_rfl
theorem strCells_bv (l : List UInt8) : Lib.strCells ⟨l.toArray⟩ = Lib.byteCells l := by simp [Lib.strCells, Lib.byteCells]
theorem byteCells_app (a b : List UInt8) : Lib.byteCells (a ++ b) = Lib.byteCells a ++ Lib.byteCells b := by simp [Lib.byteCells]
theorem Bld.new (w : World) : Bld w.heap.size w.heap.size [] (w.alloc (.cells #[.pointer none, .slice none 0 0] 81)) := Lib.fresh_isBuilder _ _ w
set_option maxHeartbeats 4000000 in
theorem check_used (b : Nat) (w : World) (h0 : w.cell? ⟨b, 0, none⟩ = some (.pointer (some ⟨b, 0, none⟩))) :
    Calls Try.prog 64 #[.pointer (some ⟨b, 0, none⟩)] w fun e w' => e = .returned (.tuple #[]) ∧ w' = w := by
  obtain ⟨j, hj, _⟩ := Option.map_eq_some_iff.1 sizeBld
  go_enter Try.func64, Try.ntmps64
  go_wp2
  rw [Lib.run_neq_ptr_same w _ Try.underlying79 hj]
  go_wp2
  go_end0
  exact ⟨rfl, rfl⟩
set_option maxHeartbeats 4000000 in
theorem check_fresh (b : Nat) (w : World) (h0 : w.cell? ⟨b, 0, none⟩ = some (.pointer none)) (hsh : w.shape? b = some (81, 2)) (hfz : w.frozen? ⟨b, 0, none⟩ = false) :
    Calls Try.prog 64 #[.pointer (some ⟨b, 0, none⟩)] w fun e w' => e = .returned (.tuple #[]) ∧ w' = w.setCell ⟨b, 0, none⟩ (.pointer (some ⟨b, 0, none⟩)) := by
  obtain ⟨j, hj, hjs⟩ := Option.map_eq_some_iff.1 sizeBld
  go_enter Try.func64, Try.ntmps64
  go_wp2
  rw [Lib.run_to_unsafe w ⟨b, 0, none⟩ Try.underlying79 Try.underlying112 hj (by rw [hjs]; decide) hsh (Nat.zero_lt_succ 1)]
  simp only [Result.andThen]
  rw [Oper.upon_value]
  go_wp2
  rw [run_callFunc_extern Try.func74 (by kernel_rfl) (by kernel_rfl) (by kernel_rfl) (e := Extern.AbiNoEscape.same) (by kernel_rfl)]
  rw [Lib.run_noEscape]
  simp only [Result.andThen]
  rw [Oper.upon_value]
  go_wp2
  rw [Lib.run_from_unsafe w ⟨b, 0, none⟩ Try.underlying112 Try.underlying79 hj hsh liesBld]
  simp only [Result.andThen]
  rw [Oper.upon_value]
  go_wp2
  go_end0
  exact ⟨rfl, rfl⟩
theorem slice_of {w : World} {B e n k : Nat} {v : Value} {xs : List Value} (h : w.ownsRow B e k v n xs) : ∃ ao n' cap, v = .slice ao n' cap := by
 rcases h.2 with ⟨hv, _⟩ | ⟨g, cap, cur, hv, _⟩
 ·exact ⟨_, _, _, hv⟩
 ·exact ⟨_, _, _, hv⟩
theorem check_any (B b : Nat) (l : List UInt8) (w : World) (h : Bld B b l w) :
    Calls Try.prog 64 #[.pointer (some ⟨b, 0, none⟩)] w fun e w' => e = .returned (.tuple #[]) ∧ Lib.BuilderAt 81 5 B b (.pointer (some ⟨b, 0, none⟩)) (Lib.byteCells l) w' ∧ Below B w w' := by
  rcases h with h | h
  · refine (check_fresh b w h.cell0 h.shape h.frozen0).mono ?_
    rintro e w' ⟨rfl, rfl⟩
    exact ⟨rfl, h.used _, (Below.refl B w).setCell (p := ⟨b, 0, none⟩) h.1 _⟩
  · refine (check_used b w h.cell0).mono ?_
    rintro e w' ⟨rfl, rfl⟩
    exact ⟨rfl, h, Below.refl B w'⟩
set_option maxHeartbeats 4000000 in
theorem writeString_any (B b : Nat) (l s : List UInt8) (w : World) (h : Bld B b l w) (hlen : l.length + s.length ≤ 1000000000) (hBw : B ≤ w.heap.size) :
    Calls Try.prog 43 #[.pointer (some ⟨b, 0, none⟩), .string ⟨s.toArray⟩] w fun e w' => e = .returned (.tuple #[.int .i64 (s.length : Int), .nilIface]) ∧ Bld B b (l ++ s) w' ∧ Below B w w' := by
  obtain ⟨i0, hi, hz0, hz1, hz2⟩ := info_parts infoByte
  have cK := check_any B b l w h
  have hsz : (⟨s.toArray⟩ : ByteArray).size = s.length := bytes_size s
  have hsc := strCells_bv s
  have hbl := Lib.byteCells_length l
  generalize (⟨s.toArray⟩ : ByteArray) = S at hsz hsc ⊢
  rw [← hsz] at hlen ⊢
  clear hsz h
  go_enter Try.func43, Try.ntmps43
  go_wp2_with (first
    | (go_at_call 64; refine cK.mono ?_; rintro e w1 ⟨rfl, h1, hb1⟩; have hz3 := hb1.size; obtain ⟨hB, v, hbk, hown, hne⟩ := h1; have c0 : w1.cell? ⟨b, 0, none⟩ = some (.pointer (some ⟨b, 0, none⟩)) := (by rw [Lib.cell_of_heap hbk]; rfl); have c1 : w1.cell? ⟨b, 1, none⟩ = some v := (by rw [Lib.cell_of_heap hbk]; rfl))
    | (at_builtin; go_must (refine Lib.wpList_append_own_string _ rfl _ _ 43 9 rfl B 5 i0 Try.underlying43 Try.underlying9 hi hz0 hz1 hz2 _ _ _ rfl hown S rfl (by unfold maxLen; omega) (by omega) (by omega) ?_); intro v' w2 hown' hgrow _; have hlt : b < w1.heap.size := (Array.getElem?_eq_some_iff.1 hbk).1; have hb2 : w2.heap[b]? = some (.cells #[.pointer (some ⟨b, 0, none⟩), v] 81 (0, 0)) := (by rw [hgrow.block b hlt (fun e => hne e.symm)]; exact hbk); have d0 : w2.cell? ⟨b, 0, none⟩ = some (.pointer (some ⟨b, 0, none⟩)) := (by rw [Lib.cell_of_heap hb2]; rfl); have d1 : w2.cell? ⟨b, 1, none⟩ = some v := (by rw [Lib.cell_of_heap hb2]; rfl); have f1 : w2.frozen? ⟨b, 1, none⟩ = false := Lib.frozen_of_heap hb2 1; obtain ⟨ao, n', cap, rfl⟩ : ∃ ao n' cap, v' = .slice ao n' cap := slice_of hown'))
  go_ret2
  refine ⟨rfl, .inr ?_, ?_⟩
  · rw [byteCells_app, ← hsc]
    exact Lib.BuilderAt.put (T := 81) (e := 5) hB hb2 (bs' := Lib.byteCells l ++ Lib.strCells S) (by simpa [Lib.strCells_length] using hown') (by decide)
  · exact (hb1.grown hgrow (by have := hb1.size; omega) (fun k hk => (hown.lt k hk).1)).setCell (p := ⟨b, 1, none⟩) hB _
theorem bldString_any (B b : Nat) (l : List UInt8) (w : World) (h : Bld B b l w) (hBw : B ≤ w.heap.size) :
    Calls Try.prog 44 #[.pointer (some ⟨b, 0, none⟩)] w fun e w' => e = .returned (.string ⟨l.toArray⟩) ∧ Below B w w' := Try.Builder_String_any B b l w h hBw
open Go.RowKit Go.Maps
theorem txtM_len {M : Nat → Option ByteArray} {c : Nat} : ∀ n, (∀ j, j < n → ((M j).getD ByteArray.empty).size ≤ c) → (txtM M n).length ≤ c * n
 | 0, _ => by simp [txtM]
 |n + 1, h => by
  rw [txtM_succ, List.length_append, Nat.mul_succ]
  have h1 := txtM_len n fun j hj => h j (by omega)
  have h2 := h n (by omega)
  have h3 : ((M n).getD ByteArray.empty).data.toList.length = ((M n).getD ByteArray.empty).size := by simp
  omega
theorem sV_size {l : List El} (hG : Good l) (q : Int × Int × Int) (u : Int) : ((sV l q u).getD ByteArray.empty).size ≤ 40 := by
 unfold sV
 cases h : atR l q u with
 |none => decide
 |some x =>
  have h1 := (elemErr_zero.1 (hG.2.1 x (List.mem_of_find?_eq_some h))).2.2
  show x.s.size ≤ 40
  omega
theorem txtL_len {l : List El} (hG : Good l) (P O t : Int) : (txtL l P O t).length ≤ 800 := txtM_len (c := 40) 20 fun _ _ => sV_size hG _ _
theorem writeStr_any (B b : Nat) (l : List UInt8) (s : ByteArray) (w : World) (h : Bld B b l w) (hlen : l.length + s.size ≤ 1000000000) (hBw : B ≤ w.heap.size) :
    Calls Try.prog 43 #[.pointer (some ⟨b, 0, none⟩), .string s] w fun e w' => e = .returned (.tuple #[.int .i64 (s.size : Int), .nilIface]) ∧ Bld B b (l ++ s.data.toList) w' ∧ Below B w w' := by
  have h1 : s.data.toList.length = s.size := by simp
  have h2 := writeString_any B b l s.data.toList w h (by omega) hBw
  rw [h1] at h2
  have h3 : (⟨s.data.toList.toArray⟩ : ByteArray) = s := by simp
  rw [h3] at h2
  exact h2
def getTxt (l : List El) (P O t : Int) : ByteArray := if objErr l P O = 0 then ⟨(txtL l P O t).toArray⟩ else { data := #[] }
set_option maxHeartbeats 4000000 in
theorem fileGet_any (A : Option Addr) (d : Nat) (l : List El) (P O t : Int) (w : World) (hn : l.length ≤ 9223372036854775807) (hL : Lies w A l) :
    Calls Try.prog 19 #[.slice A l.length d, .int .i64 P, .int .i64 O, .int .i64 t] w fun e w' => e = .returned (.tuple #[.string (getTxt l P O t), .int .i64 (objErr l P O)]) ∧ Calm w w' := by
  have cS := stored_any A d l P O t w hn hL
  unfold StoEnd at cS
  unfold getTxt
  by_cases hE : objErr l P O = 0
  rotate_left
  · simp only [if_neg hE] at cS ⊢
    have b1 : (objErr l P O != 0) = true := by simpa using hE
    generalize objErr l P O = E at *
    go_enter Try.func19, Try.ntmps19
    go_wp2_with (go_at_call 34; refine cS.mono ?_; rintro e w1 ⟨hb1, rfl⟩)
    go_ret2
    exact ⟨rfl, hb1⟩
  simp only [if_pos hE] at cS ⊢
  rw [hE]
  have hG := (objErr_zero hE).1
  obtain ⟨M, hM⟩ : ∃ M : Nat → Option ByteArray, M = fun j => sV l (bkK P O j) t := ⟨_, rfl⟩
  have hsz : ∀ j, ((M j).getD ByteArray.empty).size ≤ 40 := fun j => by rw [hM]; exact sV_size hG _ _
  have hlen : ∀ j, j ≤ 20 → (txtM M j).length ≤ 800 := fun j hj => Nat.le_trans (txtM_len (c := 40) j fun i _ => hsz i) (by omega)
  have hR : ∀ j : Nat, j < 20 → mL (rangeR l (P, O, 1) (P, O, 20) t) ((j : Int) + 1) = M j := fun j hj => by rw [hM]; exact mL_range hG P O t hj
  have hEND : txtL l P O t = txtM M 20 := by unfold txtL; rw [hM]
  rw [hEND]
  have HS := Lib.hid hsz
  have HL := Lib.hid hlen
  have HR := Lib.hid hR
  clear hG hM hsz hlen hR hEND hE
  generalize mL (rangeR l (P, O, 1) (P, O, 20) t) = MP at *
  go_enter Try.func19, Try.ntmps19
  go_wp2_with (go_at_call 34; refine cS.mono ?_; rintro e w1 ⟨hb1, b, rfl, hbw, hmp⟩; have HM := Lib.hid hmp; clear hmp)
  have hbl := Lib.hid (Bld.new w1)
  have hu1 := (Calm.refl w1).alloc (.cells #[.pointer none, .slice none 0 0] 81)
  clear cS
  go_loopw [13] (fun i wr => ∃ (j : Nat) (x : Int), j ≤ 20 ∧ i = .int .i64 x ∧ Hid (x = (j : Int) + 1) ∧ 1 ≤ x ∧ x ≤ 21 ∧ Calm w1 wr ∧ Hid (Bld w1.heap.size w1.heap.size (txtM M j) wr)) (fun i _ => 21 - (intOf i).toNat)
  case atStart => exact ⟨0, 1, Nat.zero_le _, rfl, show (1 : Int) = _ from rfl, by omega, by omega, hu1, hbl⟩
  case round =>
    obtain ⟨j, x, hj, rfl, HX, hx1, hx2, hur, HB⟩ := hrel
    have hsr := hur.size
    by_cases hlt : x ≤ 20
    rotate_left
    · obtain rfl : j = 20 := by have := HX.out; omega
      go_wp2_with (go_at_call 44; refine (bldString_any w1.heap.size w1.heap.size _ _ HB.out hsr).mono ?_; rintro e w5 ⟨rfl, hl3⟩)
      go_ret2
      exact ⟨rfl, hb1.call (hur.trans hl3)⟩
    have HM1 := Lib.hid (HM.out.calm hur)
    have hj20 : j < 20 := by have := HX.out; omega
    have hs1 := (HR.out j hj20)
    rw [← HX.out] at hs1
    obtain ⟨s, hs⟩ : ∃ s, (M j).getD ByteArray.empty = s := ⟨_, rfl⟩
    have hs2 : (MP x).getD { data := #[] } = s := by rw [hs1]; exact hs
    have hs3 : s.size ≤ 40 := by rw [← hs]; exact HS.out j
    have hT : txtM M (j + 1) = txtM M j ++ s.data.toList := by rw [txtM_succ, hs]
    have HT := Lib.hid hT
    have hlj := HL.out j hj
    have HW := Lib.hid (wf_small (k := x) (by omega) (by omega))
    have HS2 := Lib.hid hs2
    clear hs hs1 hs2 hT
    go_wp2_with (first
      | (at_lookup; refine wpList_map_get rfl _ _ rfl b 400 MP rfl HM1.out x s rfl HW.out HS2.out ?_)
      | (go_at_call 43; refine (writeStr_any w1.heap.size w1.heap.size _ s _ HB.out (by omega) hsr).mono ?_; rintro e w3 ⟨rfl, hb3, hl3⟩; rw [← HT.out] at hb3; have HB3 := Lib.hid hb3; clear hb3))
    go_roundw
    case rel => exact ⟨j + 1, x + 1, by omega, by go_num, show x + 1 = _ from (by have := HX.out; omega), by omega, by omega, hur.trans hl3, HB3⟩
    case measure => simp [intOf]; omega
def timeE (l : List El) (t : Int) : Int := if 1 ≤ t ∧ t ≤ 2147483647 ∧ latest l ≤ t then 0 else 9
set_option maxHeartbeats 4000000 in
theorem checkTime_any (A : Option Addr) (d : Nat) (l : List El) (t : Int) (w : World) (hn : l.length ≤ 9223372036854775807) (hL : Lies w A l) (hG : Good l) :
    Calls Try.prog 35 #[.slice A l.length d, .int .i64 t] w fun e w' => e = .returned (.int .i64 (timeE l t)) ∧ Calm w w' := by
  have cT := fun u (hu : Calm w u) => runLast_any A d l u hn (hL.calm hu)
  rw [runErr_zero.2 hG, if_pos rfl] at cT
  have hlm := latest_max hG
  unfold timeE
  generalize latest l = T at *
  by_cases h1 : t < T
  · rw [if_neg (by omega)]
    go_enter Try.func35, Try.ntmps35
    go_wp2_with (go_at_call 26; refine (cT _ (Calm.refl _)).mono ?_; rintro e w1 ⟨rfl, hb1⟩)
    go_ret
    exact ⟨rfl, hb1⟩
  have cE := fun u => elemCheck_any 0 0 0 t 0 { data := #[] } u
  have hE : elemErr 0 0 0 t 0 (({ data := #[] } : ByteArray).size : Int) = if 1 ≤ t ∧ t ≤ 2147483647 ∧ T ≤ t then 0 else 9 := by
    unfold elemErr
    rw [if_pos (by decide)]
    by_cases h2 : timeOk t 0
    · rw [if_pos h2, if_pos (by decide)]
      unfold timeOk at h2
      rw [if_pos (by omega)]
    · rw [if_neg h2, if_neg (fun h3 => h2 ⟨h3.1, h3.2.1, .inl rfl⟩)]
  rw [hE] at cE
  generalize (if 1 ≤ t ∧ t ≤ 2147483647 ∧ T ≤ t then (0 : Int) else 9) = E at *
  go_enter Try.func35, Try.ntmps35
  go_wp2_with (first
    | (go_at_call 26; refine (cT _ (Calm.refl _)).mono ?_; rintro e w1 ⟨rfl, hb1⟩)
    | (go_at_call 54; refine (cE _).mono ?_; rintro e w2 ⟨rfl, hb2⟩))
  go_ret
  exact ⟨rfl, hb1.call hb2⟩
def frM (L : List UInt8) (n : Nat) : Int → Option ByteArray := fun k => if 1 ≤ k ∧ k ≤ n then frV L (k - 1).toNat else none
theorem frM_zero (L : List UInt8) : frM L 0 = fun _ => none := by funext k; unfold frM; rw [if_neg (by omega)]
theorem frM_at {L : List UInt8} {j : Nat} (hj : j < 20) : frM L 20 ((j : Int) + 1) = frV L j := by
 unfold frM
 rw [if_pos (by omega), show ((j : Int) + 1 - 1).toNat = j by omega]
theorem frM_succ {L : List UInt8} {j : Nat} {s : ByteArray} (h : frV L j = some s) : updM (frM L j) ((j : Int) + 1) s = frM L (j + 1) := by
 funext k
 unfold updM frM
 by_cases h1 : k = (j : Int) + 1
 ·rw [if_pos h1, if_pos (by omega), show (k - 1).toNat = j by omega, h]
 ·rw [if_neg h1]
  by_cases h2 : 1 ≤ k ∧ k ≤ (j : Int)
  ·rw [if_pos h2, if_pos (by omega)]
  ·rw [if_neg h2, if_neg (by omega)]
theorem frM_end {L : List UInt8} {j : Nat} (h : L.length ≤ 16 * j) (hj : j ≤ 20) : frM L j = frM L 20 := by
 funext k
 unfold frM
 by_cases h2 : 1 ≤ k ∧ k ≤ (j : Int)
 ·rw [if_pos h2, if_pos (by omega)]
 ·rw [if_neg h2]
  by_cases h3 : 1 ≤ k ∧ k ≤ ((20 : Nat) : Int)
  ·rw [if_pos h3]
   unfold frV
   rw [if_neg (by omega)]
  ·rw [if_neg h3]
def szV : Value → Nat
 | .string s => s.size
 |_ => 0
set_option maxHeartbeats 4000000 in
theorem split_any (S : ByteArray) (hS : S.size ≤ 320) (w : World) :
    Calls Try.prog 36 #[.string S] w fun e w' => ∃ b, e = .returned (.map (some b)) ∧ w.heap.size ≤ b ∧ MapS w' b 20 (frM S.data.toList 20) ∧ Calm w w' := by
  have hmm := @run_makeMap Try.prog
  obtain ⟨L, hLL⟩ : ∃ L, L = S.data.toList := ⟨_, rfl⟩
  have hLs : L.length = S.size := by rw [hLL]; simp
  rw [← hLL]
  go_enter Try.func36, Try.ntmps36
  go_wp2_with fail
  clear hmm
  have hM0 := MapS.made w
  rw [← frM_zero L] at hM0
  have hu0 := (Calm.refl w).alloc (.map #[] 0)
  go_loopw [0, 4] (fun sv iv wr => ∃ (j : Nat) (T : ByteArray) (x : Int), sv = .string T ∧ iv = .int .i64 x ∧ Hid (x = (j : Int) + 1) ∧ 1 ≤ x ∧ x ≤ 21 ∧ j ≤ 20 ∧ Hid (T.data.toList = L.drop (16 * j)) ∧ Calm w wr ∧ Hid (MapS wr w.heap.size j (frM L j))) (fun sv _ _ => szV sv)
  case atStart => exact ⟨0, S, 1, rfl, rfl, show (1 : Int) = _ from rfl, by omega, by omega, by omega, (show _ = _ from (by simp [hLL])), hu0, hM0⟩
  case round =>
    obtain ⟨j, T, x, rfl, rfl, HX, hx1, hx2, hj, HT, hu, HM⟩ := hrel
    have hTs : T.size = L.length - 16 * j := by
      have := congrArg List.length HT.out
      rw [List.length_drop] at this
      simpa using this
    by_cases h0 : T.size = 0
    · have HE := Lib.hid (frM_end (L := L) (j := j) (by omega) hj)
      have hT0 : T = { data := #[] } := str_eq (by
        have : T.data.toList.length = 0 := by simpa using h0
        rw [List.eq_nil_of_length_eq_zero this])
      subst hT0
      go_wp2_with fail
      go_ret
      exact ⟨_, rfl, Nat.le_refl _, by have := HM.out.mono hj; rw [HE.out, hLL] at this; exact this, hu⟩
    have hj2 : j < 20 := by omega
    have hne0 : T ≠ { data := #[] } := by rintro rfl; exact h0 rfl
    have hemp : T.toList.isEmpty = false := by
      have h1 := str_ne hne0
      cases hT : T.toList with
      | nil => rw [hT, ByteArray.toList_eq] at h1; exact absurd h1 (by decide)
      | cons a l => rfl
    have hX : frV L j = some (T.extract 0 (min 16 T.size)) := by
      unfold frV
      rw [if_pos (by omega)]
      congr 1
      refine str_eq ?_
      rw [part_extract, part, List.drop_zero, HT.out, bytes_list]
      by_cases h16 : 16 ≤ T.size
      · rw [Nat.min_eq_left h16]
      · rw [Nat.min_eq_right (by omega), List.take_of_length_le (by rw [List.length_drop]; omega), List.take_of_length_le (by rw [List.length_drop]; omega)]
    have hX2 : (T.extract (min 16 T.size) T.size).data.toList = L.drop (16 * (j + 1)) := by
      rw [part_extract, part, List.take_of_length_le (by rw [List.length_drop, bytes_len]; omega), HT.out, List.drop_drop]
      by_cases h16 : 16 ≤ T.size
      · rw [Nat.min_eq_left h16]; congr 1
      · rw [List.drop_eq_nil_of_le (by omega), List.drop_eq_nil_of_le (by omega)]
    have hX3 : (T.extract (min 16 T.size) T.size).size = T.size - min 16 T.size := by rw [ByteArray.size_extract]; omega
    have hX4 : (T.extract 0 (min 16 T.size)).size ≤ maxLen := by rw [ByteArray.size_extract]; unfold maxLen; omega
    have hS := frM_succ hX
    rw [← HX.out] at hS
    have HS := Lib.hid hS
    have hx20 : x ≤ 20 := by have := HX.out; omega
    have HX2 := Lib.hid hX2
    have HX3 := Lib.hid hX3
    have HW := Lib.hid (wf_small (k := x) (by omega) (by omega))
    clear hX hX2 hX3 hTs hS
    obtain ⟨N, hN⟩ : ∃ N : Nat, min 16 T.size = N := ⟨_, rfl⟩
    have hN0 : (0 : Int) ≤ (N : Int) := by omega
    have hN1 : (N : Int) ≤ (T.size : Int) := by omega
    have hNm : min 16 (T.size : Int) = (N : Int) := by omega
    have hNp : 0 < N := by omega
    rw [hN] at hX4 HS HX2 HX3
    clear hN
    go_wp2_with (at_mapUpdate; refine wpList_map_put rfl _ _ _ rfl w.heap.size j _ rfl HM.out (by omega) x (T.extract 0 N) rfl rfl HW.out hX4 ?_; intro w9 hM9 hg9; rw [HS.out] at hM9; have HM9 := Lib.hid hM9; clear hM9)
    go_roundw
    case rel => exact ⟨j + 1, T.extract N T.size, x + 1, rfl, by go_num, show x + 1 = _ from (by have := HX.out; omega), by omega, by omega, by omega, HX2, hu.grownAt (Nat.le_refl _) hg9, HM9⟩
    case measure => show (T.extract N T.size).size < T.size; rw [HX3.out]; omega
open Go.RowKit
theorem zero6 : ∀ w, (Go.sizeOf 41).run Try.prog w = .ok 6 w := fun _ => by kernel_rfl
set_option maxHeartbeats 8000000 in
theorem insert_shift (g h i n cap : Nat) (l : List El) (cur : List Value) (p o f m gg : Int) (s : ByteArray) (w : World) (hn : n = l.length) (hi : i < n) (hn4 : n ≤ 400) (hroom : n + 1 ≤ cap) (hc63 : cap ≤ 9223372036854775807)
    (hg : w.heap[g]? = some (.cells cur.toArray 41 (0, 0))) (hs : cur.length = cap * 6) (ht : cur.take (n * 6) = cellsOf l) (hh : w.heap[h]? = some (.cells #[.int .i64 p, .int .i64 o, .int .i64 f, .int .i64 m, .int .i64 gg, .string s] 41 (0, 0))) (hne : h ≠ g) :
    Calls Try.prog 58 #[.slice (some ⟨g, 0, none⟩) n cap, .int .i64 i, .slice (some ⟨h, 0, none⟩) 1 1] w fun e w' => e = .returned (.slice (some ⟨g, 0, none⟩) (n + 1) cap) ∧
      w'.heap[g]? = some (.cells (spl (spl cur ((i + 1) * 6) (cellsOf (l.drop i))) (i * 6) (El.cells ⟨p, o, f, m, gg, s⟩)).toArray 41 (0, 0)) ∧ w.grownBy w' (some g) := by
  have hov : ∀ lb cb, (callFunc 71 #[.slice (some ⟨h, 0, none⟩) 1 1, .slice (some ⟨g, (i + 1) * 6, none⟩) lb cb]).run Try.prog w = .ok (.value (.bool false)) w := fun lb cb => by
    rw [run_callFunc_extern Try.func71 (by kernel_rfl) (by kernel_rfl) (by kernel_rfl) (e := Extern.SlicesOverlaps.overlaps #[22, 22] #[4]) (by kernel_rfl),
      Lib.run_overlaps_apart w 22 4 41 Try.underlying22 6 zero6 ⟨h, 0, none⟩ ⟨g, (i + 1) * 6, none⟩ 1 1 lb cb hne 41 41 6 cur.toArray.size (by simp [World.shape?, hh]) (by simp [World.shape?, hg]) (by rw [List.size_toArray, hs]; omega) (frozen_of_row _ _ _ _ _ hh) (frozen_of_row _ _ _ _ _ hh)]
    rfl
  have hdl : (cellsOf (l.drop i)).length = (n - i) * 6 := by rw [cellsOf_len, List.length_drop, hn]
  have hcell : ∀ j v, (cellsOf (l.drop i))[j]? = some v → w.cell? ⟨g, i * 6 + j, none⟩ = some v := fun j v hj => by
    have hj2 : j < (n - i) * 6 := by rw [← hdl]; exact (List.getElem?_eq_some_iff.1 hj).1
    rw [← cellsOf_drop (by omega), List.getElem?_drop, ← ht, List.getElem?_take, if_pos (by omega)] at hj
    rw [cell_of_row _ _ _ _ _ _ hg, ← hj, List.getElem?_toArray]
  have hfit1 : (i + 1) * 6 + (cellsOf (l.drop i)).length ≤ cur.length := by omega
  obtain ⟨c1, hc1⟩ : ∃ c1, c1 = spl cur ((i + 1) * 6) (cellsOf (l.drop i)) := ⟨_, rfl⟩
  have hc1l : c1.length = cur.length := by rw [hc1]; exact spl_len hfit1
  have hcp1 : ∀ ty dc sc, (Builtin.copy_ #[22, 22] ty #[.slice (some ⟨g, (i + 1) * 6, none⟩) (n - i) dc, .slice (some ⟨g, i * 6, none⟩) (n + 1 - i) sc]).run Try.prog w.drew = .ok (goInt (Nat.min (n + 1 - i) (n - i))) (w.drew.setRow g c1.toArray) := fun ty dc sc => by
    rw [hc1]
    refine run_copy_el w.drew ty g ((i + 1) * 6) (n - i) dc ⟨g, i * 6, none⟩ (n + 1 - i) sc cur _ (cellsOf (l.drop i)) hg (by rw [hdl]; congr 1; simp only [Nat.min_def]; split <;> omega) (fun j v hj => ?_) hfit1 (cellsOf_one _)
    rw [Addr.add_lit]; exact hcell j v hj
  have hcp2 : ∀ W : World, W.heap = (w.drew.setRow g c1.toArray).heap → ∀ ty dc, (Builtin.copy_ #[22, 22] ty #[.slice (some ⟨g, i * 6, none⟩) (n + 1 - i) dc, .slice (some ⟨h, 0, none⟩) 1 1]).run Try.prog W = .ok (goInt (Nat.min 1 (n + 1 - i))) (W.setRow g (spl c1 (i * 6) (El.cells ⟨p, o, f, m, gg, s⟩)).toArray) := fun W hW ty dc => by
    refine run_copy_el W ty g (i * 6) (n + 1 - i) dc ⟨h, 0, none⟩ 1 1 c1 41 _ (by rw [hW]; exact setRow_heap _ _ _ _ _ _ hg) (by show 6 = _; simp only [Nat.min_def]; split <;> omega) (fun j v hj => ?_) (by show _ + 6 ≤ _; omega) (cells_one _)
    have e : (⟨h, 0, none⟩ : Addr).add j = ⟨h, j, none⟩ := by unfold Addr.add; split <;> simp_all
    have hhW : W.heap[h]? = some (.cells #[.int .i64 p, .int .i64 o, .int .i64 f, .int .i64 m, .int .i64 gg, .string s] 41 (0, 0)) := by rw [hW, setRow_other _ _ _ _ hne]; exact hh
    rw [e, cell_of_row _ _ _ _ _ _ hhW, ← hj]; simp [El.cells]
  have hfin : ∀ W : World, W.heap = (w.drew.setRow g c1.toArray).heap → W.os = w.os → W.tape = w.tape → W.output = w.output → (W.setRow g (spl c1 (i * 6) (El.cells ⟨p, o, f, m, gg, s⟩)).toArray).heap[g]? = some (.cells (spl c1 (i * 6) (El.cells ⟨p, o, f, m, gg, s⟩)).toArray 41 (0, 0)) ∧ w.grownBy (W.setRow g (spl c1 (i * 6) (El.cells ⟨p, o, f, m, gg, s⟩)).toArray) (some g) := fun W hW h1 h2 h3 => by
    refine ⟨setRow_heap _ _ c1.toArray _ _ _ (by rw [hW]; exact setRow_heap _ _ _ _ _ _ hg), h1, h2, h3, ?_, fun k hk hne' => ?_⟩
    · rw [show (W.setRow g _).heap.size = W.heap.size by simp, hW]; simp
    · have hkg : k ≠ g := fun e => hne' (by rw [e])
      rw [setRow_other _ _ _ _ hkg, hW, setRow_other _ _ _ _ hkg]
      rfl
  rw [← hc1]
  have hin : i ≤ n := by omega
  have hz2 : ¬ ((i : Int) = (n : Int)) := by omega
  have hw1 : IntKind.i64.wrap ((i : Int) + 1) = (i : Int) + 1 := by rw [IntKind.wrap_i64]; omega
  have hb1 : (0 : Int) ≤ (i : Int) + 1 := by omega
  have htn : ((i : Int) + 1).toNat = i + 1 := by omega
  have hb2 : ¬ (cap = i + 1) := by omega
  have hb3 : (i : Int) ≤ (n : Int) + 1 := by omega
  have hb4 : ¬ (cap = i) := by omega
  have hb5 : (i : Int) < (n : Int) := by omega
  have hb6 : (n : Int) + 1 ≤ (cap : Int) := by omega
  clear hdl hcell hfit1 hc1 hc1l hn ht hs hg hh
  go_enter Try.func58, Try.ntmps58
  go_wp2_with (simp only [hov])
  go_region_law (refine step_copy_known rfl _ _ 22 rfl _ _ (by simp [Act.eval, Act.put]) (by simp [Act.eval, Act.put]) (hcp1 _ _ _) ?_)
  go_wp2_with (at_builtin; refine wpList_copy_known rfl _ _ 22 rfl _ _ rfl rfl (hcp2 _ rfl _ _) ?_)
  go_ret
  exact ⟨rfl, hfin _ rfl rfl rfl rfl⟩
def GrowEnd (w : World) (l : List El) (i : Nat) (x : El) (e : Ending) (w' : World) : Prop :=
 ∃ (G : Nat) (C : List Value), e = .returned (.slice (some ⟨w.heap.size, 0, none⟩) (l.length + 1) G) ∧ l.length + 1 ≤ G ∧ G ≤ maxLen ∧ C.length = G * 6 ∧ C.take (i * 6) = cellsOf (l.take i) ∧
  w'.heap[w.heap.size]? = some (.cells (spl (spl C (i * 6) x.cells) ((i + 1) * 6) (cellsOf (l.drop i))).toArray 41 (0, 0)) ∧ Calm w w'
set_option maxHeartbeats 8000000 in
theorem insert_grow (g h i n cap : Nat) (l : List El) (cur : List Value) (p o f m gg : Int) (s : ByteArray) (w : World) (hn : n = l.length) (hi : i < n) (hn4 : n ≤ 400) (hnc : n ≤ cap) (hroom : cap < n + 1)
    (hg : w.heap[g]? = some (.cells cur.toArray 41 (0, 0))) (ht : cur.take (n * 6) = cellsOf l) (hh : w.heap[h]? = some (.cells #[.int .i64 p, .int .i64 o, .int .i64 f, .int .i64 m, .int .i64 gg, .string s] 41 (0, 0))) :
    Calls Try.prog 58 #[.slice (some ⟨g, 0, none⟩) n cap, .int .i64 i, .slice (some ⟨h, 0, none⟩) 1 1] w (GrowEnd w l i ⟨p, o, f, m, gg, s⟩) := by
  obtain ⟨i0, hi0, hz0, hzs, hzb⟩ := info_parts infoElem
  have hgw : g < w.heap.size := (Array.getElem?_eq_some_iff.1 hg).1
  have hhw : h < w.heap.size := (Array.getElem?_eq_some_iff.1 hh).1
  have hcl : ∀ j v, (cellsOf l)[j]? = some v → w.cell? ⟨g, j, none⟩ = some v := fun j v hj => by
    have hj2 : j < n * 6 := by rw [hn, ← cellsOf_len]; exact (List.getElem?_eq_some_iff.1 hj).1
    rw [← ht, List.getElem?_take, if_pos hj2] at hj
    rw [cell_of_row _ _ _ _ _ _ hg, ← hj, List.getElem?_toArray]
  have hdl : (cellsOf (l.drop i)).length = (n - i) * 6 := by rw [cellsOf_len, List.length_drop, hn]
  have htl : (cellsOf (l.take i)).length = i * 6 := by rw [cellsOf_len, List.length_take]; congr 1; omega
  have hkk : (n : Int) + 1 - (i : Int) = ((n + 1 - i : Nat) : Int) := by omega
  have hik : i + (n + 1 - i) = n + 1 := by omega
  have hold : (Builtin.firstCells i0.size i (.slice (some ⟨g, 0, none⟩) i cap)).run Try.prog w.drew = .ok (cellsOf (l.take i)).toArray w.drew := by
    rw [hzs]
    refine run_firstCells_some w.drew 6 i ⟨g, 0, none⟩ i cap (cellsOf (l.take i)) htl fun j v hj => ?_
    have e : (⟨g, 0, none⟩ : Addr).add j = ⟨g, j, none⟩ := by unfold Addr.add; split <;> simp_all
    rw [e]
    rw [← cellsOf_take (by omega), List.getElem?_take] at hj
    split at hj
    · exact hcl j v hj
    · cases hj
  obtain ⟨G, hG⟩ : ∃ G, G = grownCap w (n + 1) cap 41 := ⟨_, rfl⟩
  obtain ⟨C, hC⟩ : ∃ C : List Value, C = cellsOf (l.take i) ++ (Builtin.zeroCells (Value.agg #[.int .i64 0, .int .i64 0, .int .i64 0, .int .i64 0, .int .i64 0, .string ByteArray.empty]).cells (n + 1 - i)).toList ++ (Builtin.zeroCells (Value.agg #[.int .i64 0, .int .i64 0, .int .i64 0, .int .i64 0, .int .i64 0, .string ByteArray.empty]).cells (G - (n + 1))).toList := ⟨_, rfl⟩
  have hGn : n + 1 ≤ G := by rw [hG]; exact grownCap_ge w _ _ _
  have hGm : G ≤ maxLen := by rw [hG]; exact grownCap_le_maxLen w (n + 1) cap _ (by unfold maxLen; omega)
  have hCl : C.length = G * 6 := by
    rw [hC, List.length_append, List.length_append, htl, Array.length_toList, Array.length_toList, size_zeroCells, size_zeroCells]
    show i * 6 + (n + 1 - i) * 6 + (G - (n + 1)) * 6 = G * 6
    omega
  have hCt : C.take (i * 6) = cellsOf (l.take i) := by rw [hC, List.append_assoc]; exact List.take_left' htl
  have hrz : ∀ ty, (Builtin.append_ #[22, 3] ty #[.slice (some ⟨g, 0, none⟩) i cap, .int .i64 ((n : Int) + 1 - (i : Int))]).run Try.prog w = .ok (.slice (some ⟨w.heap.size, 0, none⟩) (n + 1) G) (w.drew.alloc (.cells C.toArray 41)) := fun ty => by
    have h := Lib.run_append_grow_zeros w 22 3 ty 41 i0 _ .i64 .i64 Try.underlying22 Try.underlying3 hi0 hz0 (some ⟨g, 0, none⟩) i cap (cellsOf (l.take i)) hold (n + 1 - i) (by omega) (by omega) (by omega) (by omega) (by rw [hzb]; omega) (by rw [hzb, hik]; exact growslice_fits hroom (by omega))
    rw [hik, ← hG] at h
    rw [hkk, h, hC]
    exact congrArg (fun x => Result.ok _ (w.drew.alloc (.cells x 41))) (Array.toList_inj.1 (by simp))
  obtain ⟨W1, hW1⟩ : ∃ W1, W1 = w.drew.alloc (.cells C.toArray 41) := ⟨_, rfl⟩
  have hHg : W1.heap[w.heap.size]? = some (.cells C.toArray 41 (0, 0)) := by rw [hW1]; exact heap_alloc_new w.drew _
  have hGg : W1.heap[g]? = some (.cells cur.toArray 41 (0, 0)) := by rw [hW1, Below.heap_alloc w.drew _ _ hgw]; exact hg
  have hHh : W1.heap[h]? = some (.cells #[.int .i64 p, .int .i64 o, .int .i64 f, .int .i64 m, .int .i64 gg, .string s] 41 (0, 0)) := by rw [hW1, Below.heap_alloc w.drew _ _ hhw]; exact hh
  obtain ⟨c1, hc1⟩ : ∃ c1, c1 = spl C (i * 6) (El.cells ⟨p, o, f, m, gg, s⟩) := ⟨_, rfl⟩
  have hc1l : c1.length = C.length := by rw [hc1]; exact spl_len (by show _ + 6 ≤ _; omega)
  have hcpA : ∀ W : World, W.heap = W1.heap → ∀ ty dc, (Builtin.copy_ #[22, 22] ty #[.slice (some ⟨w.heap.size, i * 6, none⟩) (n + 1 - i) dc, .slice (some ⟨h, 0, none⟩) 1 1]).run Try.prog W = .ok (goInt (Nat.min 1 (n + 1 - i))) (W.setRow w.heap.size c1.toArray) := fun W hW ty dc => by
    rw [hc1]
    refine run_copy_el W ty w.heap.size (i * 6) (n + 1 - i) dc ⟨h, 0, none⟩ 1 1 C 41 _ (by rw [hW]; exact hHg) (by show 6 = _; simp only [Nat.min_def]; split <;> omega) (fun j v hj => ?_) (by show _ + 6 ≤ _; omega) (cells_one _)
    have e : (⟨h, 0, none⟩ : Addr).add j = ⟨h, j, none⟩ := by unfold Addr.add; split <;> simp_all
    rw [e, cell_of_row _ _ _ _ _ _ (by rw [hW]; exact hHh), ← hj]; simp [El.cells]
  have hcpB : ∀ W : World, W.heap = (W1.setRow w.heap.size c1.toArray).heap → ∀ ty dc sc, (Builtin.copy_ #[22, 22] ty #[.slice (some ⟨w.heap.size, (i + 1) * 6, none⟩) (n - i) dc, .slice (some ⟨g, i * 6, none⟩) (n - i) sc]).run Try.prog W = .ok (goInt (Nat.min (n - i) (n - i))) (W.setRow w.heap.size (spl c1 ((i + 1) * 6) (cellsOf (l.drop i))).toArray) := fun W hW ty dc sc => by
    refine run_copy_el W ty w.heap.size ((i + 1) * 6) (n - i) dc ⟨g, i * 6, none⟩ (n - i) sc c1 41 _ (by rw [hW]; exact setRow_heap _ _ _ _ _ _ hHg) (by rw [hdl]; congr 1; exact (Nat.min_self _).symm) (fun j v hj => ?_) (by rw [hdl]; omega) (cellsOf_one _)
    rw [Addr.add_lit, cell_of_row _ _ _ _ _ _ (show W.heap[g]? = _ by rw [hW, setRow_other _ _ _ _ (by omega)]; exact hGg)]
    rw [← cellsOf_drop (by omega), List.getElem?_drop, ← ht, List.getElem?_take] at hj
    split at hj
    · rw [← hj, List.getElem?_toArray]
    · cases hj
  have hfin : ∀ W : World, W.heap = (W1.setRow w.heap.size c1.toArray).heap → W.os = w.os → W.tape = w.tape → W.output = w.output → (W.setRow w.heap.size (spl c1 ((i + 1) * 6) (cellsOf (l.drop i))).toArray).heap[w.heap.size]? = some (.cells (spl c1 ((i + 1) * 6) (cellsOf (l.drop i))).toArray 41 (0, 0)) ∧ Calm w (W.setRow w.heap.size (spl c1 ((i + 1) * 6) (cellsOf (l.drop i))).toArray) := fun W hW h1 h2 h3 => by
    refine ⟨setRow_heap _ _ c1.toArray _ _ _ (by rw [hW]; exact setRow_heap _ _ _ _ _ _ hHg), h1, h2, h3, ?_, fun k hk => ?_⟩
    · rw [show (W.setRow w.heap.size _).heap.size = W.heap.size by simp, hW, hW1]; simp
    · rw [setRow_other _ _ _ _ (by omega), hW, setRow_other _ _ _ _ (by omega), hW1]
      exact Below.heap_alloc w.drew _ _ hk
  have hGi : ¬ (G = i) := by omega
  have hGim : ¬ (G = i + 1) := by omega
  have hci : ¬ (cap = i) := by omega
  have hG63 : G ≤ 9223372036854775807 := by unfold maxLen at hGm; omega
  have HEND : ∀ w', w'.heap[w.heap.size]? = some (.cells (spl c1 ((i + 1) * 6) (cellsOf (l.drop i))).toArray 41 (0, 0)) → Calm w w' → GrowEnd w l i ⟨p, o, f, m, gg, s⟩ (.returned (.slice (some ⟨w.heap.size, 0, none⟩) (n + 1) G)) w' := fun w' h1 h2 =>
    ⟨G, C, by rw [hn], by omega, hGm, hCl, hCt, by rw [hc1] at h1; exact h1, h2⟩
  have hz2 : ¬ ((i : Int) = (n : Int)) := by omega
  have hz3 : (cap : Int) < (n : Int) + 1 := by omega
  have hw1 : IntKind.i64.wrap ((i : Int) + 1) = (i : Int) + 1 := by rw [IntKind.wrap_i64]; omega
  have hb1 : (0 : Int) ≤ (i : Int) + 1 := by omega
  have hin : i ≤ n := by omega
  have htn : ((i : Int) + 1).toNat = i + 1 := by omega
  have hb3 : (i : Int) ≤ (n : Int) := by omega
  subst hW1
  clear hkk hik hold hG hC hGn hGm hCl hCt hc1 hc1l hcl hdl htl hn ht hg hh hHg hGg hHh hi0 hz0 hzs hzb hgw hhw
  go_enter Try.func58, Try.ntmps58
  go_wp2_with (first
    | (at_builtin; refine Lib.wpList_append_run _ rfl _ _ _ _ rfl _ _ rfl rfl _ _ (hrz _) ?_)
    | (refine wpList_copy_known rfl _ _ 22 rfl _ _ rfl rfl (v' := goInt (Nat.min 1 (n + 1 - i))) (w' := ((w.alloc (.cells C.toArray 41)).drew).setRow w.heap.size c1.toArray) (by exact hcpA ((w.alloc (.cells C.toArray 41)).drew) rfl _ _) ?_))
  go_region_law (refine step_copy_known rfl _ _ 22 rfl (.slice (some ⟨w.heap.size, (i + 1) * 6, none⟩) (n - i) (G - (i + 1))) (.slice (some ⟨g, i * 6, none⟩) (n - i) (cap - i)) (by simp [Act.eval, Act.put]) (by simp [Act.eval, Act.put]) (v' := goInt (Nat.min (n - i) (n - i))) (w' := ((((w.alloc (.cells C.toArray 41)).drew).setRow w.heap.size c1.toArray).drew).setRow w.heap.size (spl c1 ((i + 1) * 6) (cellsOf (l.drop i))).toArray) (by exact hcpB ((((w.alloc (.cells C.toArray 41)).drew).setRow w.heap.size c1.toArray).drew) rfl _ _ _) ?_)
  go_wp2_with fail
  go_ret
  exact HEND _ (hfin ((((w.alloc (.cells C.toArray 41)).drew).setRow w.heap.size c1.toArray).drew) rfl rfl rfl rfl).1 (hfin ((((w.alloc (.cells C.toArray 41)).drew).setRow w.heap.size c1.toArray).drew) rfl rfl rfl rfl).2
set_option maxHeartbeats 8000000 in
theorem insert_any (base h i : Nat) (v : Value) (l : List El) (p o f m gg : Int) (s : ByteArray) (w : World) (hi : i ≤ l.length) (hl : l.length ≤ 400) (ho : OwnR base w v l) (hb : base ≤ w.heap.size)
    (hh : w.heap[h]? = some (.cells #[.int .i64 p, .int .i64 o, .int .i64 f, .int .i64 m, .int .i64 gg, .string s] 41 (0, 0))) (hne : v.ownBlock ≠ some h) :
    Calls Try.prog 58 #[v, .int .i64 i, .slice (some ⟨h, 0, none⟩) 1 1] w (OwnEnd base (insAt l i ⟨p, o, f, m, gg, s⟩) w) := by
  have hend : i = l.length → insAt l i ⟨p, o, f, m, gg, s⟩ = l ++ [⟨p, o, f, m, gg, s⟩] := fun h => by unfold insAt; rw [h, List.take_length, List.drop_length]
  rcases id ho.2 with ⟨rfl, hl0⟩ | ⟨g, cap, cur, rfl, hbg, hg, hnc, hcm, hcs, ht⟩
  · have h0 : i = l.length := by omega
    rw [hend h0]
    have h1 : i = 0 := by omega
    subst h1
    have HO := Lib.hid ho
    clear ho hend hi h0
    go_enter Try.func58, Try.ntmps58
    go_wp2_with (at_builtin; refine wpList_append_el rfl _ _ rfl base _ l rfl HO.out h _ p o f m gg s _ rfl hh (by omega) hb ?_; intro v' w9 ho9 hc9)
    have HO9 := Lib.hid ho9
    have HC9 := Lib.hid hc9
    clear ho9 hc9
    go_wp2_with fail
    go_ret
    exact ⟨_, rfl, HO9.out, HC9.out⟩
  · have hcs' : cur.toList.length = cap * 6 := by simpa using hcs
    have hg' : w.heap[g]? = some (.cells cur.toList.toArray 41 (0, 0)) := by simpa using hg
    have hc63 : cap ≤ 9223372036854775807 := by unfold maxLen at hcm; exact hcm
    have hKe : ∀ w', w.grownBy w' (some g) → Keeps base w w' := fun w' hgr w0 h0 hc => Below.grown hc hgr hc.size fun k hk => by injection hk with hk; omega
    by_cases hin : i = l.length
    · rw [hend hin]
      have HO := Lib.hid ho
      obtain ⟨n, hn⟩ : ∃ n, n = l.length := ⟨_, rfl⟩
      have hin' : i = n := by omega
      rw [← hn] at HO ⊢
      have hn4 : n ≤ 400 := by omega
      have hll : l.length ≤ 1000000 := by omega
      have hnc' : n ≤ cap := by omega
      clear ho hend hi hin hn hl hcs' hg' hKe ht hcs hnc
      subst hin'
      by_cases hci : cap = i
      all_goals
        first | subst hci | skip
        go_enter Try.func58, Try.ntmps58
        go_wp2_with (at_builtin; refine wpList_append_el rfl _ _ rfl base _ l rfl HO.out h _ p o f m gg s _ rfl hh hll hb ?_; intro v' w9 ho9 hc9)
        have HO9 := Lib.hid ho9
        have HC9 := Lib.hid hc9
        clear ho9 hc9
        go_wp2_with fail
        go_ret
        exact ⟨_, rfl, HO9.out, HC9.out⟩
    · by_cases hroom : l.length + 1 ≤ cap
      · refine (insert_shift g h i l.length cap l cur.toList p o f m gg s w rfl (by omega) hl hroom hc63 hg' hcs' ht hh (fun e => hne (by simp [Value.ownBlock, e]))).mono fun e w' ⟨he, hr, hgr⟩ => ⟨_, he, ?_, hKe w' hgr⟩
        rw [row_shift _ (by omega) ht (by omega)] at hr
        have hil := insAt_len ⟨p, o, f, m, gg, s⟩ hi
        rw [← hil]
        have hlc : (cellsOf (insAt l i ⟨p, o, f, m, gg, s⟩)).length = (l.length + 1) * 6 := by rw [cellsOf_len, hil]
        exact OwnR.row hbg hr (by omega) hcm (by rw [List.length_append, hlc, List.length_drop]; omega) (List.take_left' (by rw [cellsOf_len]))
      · refine (insert_grow g h i l.length cap l cur.toList p o f m gg s w rfl (by omega) hl hnc (by omega) hg' ht hh).mono fun e w' ⟨G, C, he, h1, h2, h3, h4, hr, hc⟩ => ⟨_, he, ?_, fun w0 h0 hcc => hcc.call hc⟩
        rw [row_fresh _ (by omega) h4 (by omega)] at hr
        have hil := insAt_len ⟨p, o, f, m, gg, s⟩ hi
        rw [← hil]
        have hlc : (cellsOf (insAt l i ⟨p, o, f, m, gg, s⟩)).length = (l.length + 1) * 6 := by rw [cellsOf_len, hil]
        exact OwnR.row hb hr (by omega) h2 (by rw [List.length_append, hlc, List.length_drop]; omega) (List.take_left' (by rw [cellsOf_len]))
open Go.RowKit
set_option maxHeartbeats 4000000 in
theorem after_any (A : Option Addr) (c : Nat) (l : List El) (p o f m : Int) (w : World) (hn : l.length ≤ 400) (hL : Lies w A l) (hS : l.Pairwise Fol) :
    Calls Try.prog 59 #[.slice A l.length c, .agg #[.int .i64 p, .int .i64 o, .int .i64 f, .int .i64 m]] w fun e w' => e = .returned (.int .i64 (pos l (p, o, f) m)) ∧ Calm w w' := by
  have C : ∀ u B1 B2, Calm w u → Boxes B1 B2 A l.length c p o f m u → Calls Try.prog 49 #[.int .i64 l.length, .func (.func 73) #[] #[.pointer (some ⟨B1, 0, none⟩), .pointer (some ⟨B2, 0, none⟩)]] u fun e w' => e = .returned (.int .i64 (pos l (p, o, f) m)) ∧ Calm u w' :=
    fun u B1 B2 hu hB => search_any B1 B2 A c l p o f m u hn (hL.calm hu) hS hB
  generalize pos l (p, o, f) m = r at C ⊢
  clear hL hS
  go_enter Try.func59, Try.ntmps59
  go_wp2_with (go_at_call 49; refine (C _ _ _ (((Calm.refl _).alloc _).alloc _) ⟨heap_past _ (heap_new _ _), by simpa using heap_new (w.alloc (.cells #[.slice A l.length c] 22)) (.cells #[.int .i64 p, .int .i64 o, .int .i64 f, .int .i64 m] 94)⟩).mono ?_; rintro e w1 ⟨rfl, hb1⟩)
  go_ret
  exact ⟨rfl, by repeat (first | (with_reducible exact Calm.refl _) | (with_reducible refine Calm.alloc ?_ _) | (with_reducible refine Calm.drew ?_) | (with_reducible refine Calm.drewN ?_ _) | (refine Calm.call ?_ (by with_reducible assumption)))⟩
set_option maxHeartbeats 4000000 in
theorem liveRun_any (A : Option Addr) (d : Nat) (l : List El) (p' o' f' t : Int) (w : World) (hn : l.length ≤ 400) (hL : Lies w A l) (hS : l.Pairwise Fol) :
    Calls Try.prog 42 #[.slice A l.length d, .agg #[.int .i64 p', .int .i64 o', .int .i64 f'], .int .i64 t] w fun e w' => e = .returned (.tuple #[.int .i64 (if hitB l (pos l (p', o', f') t) (p', o', f') t then (pos l (p', o', f') t : Int) - 1 else 0), .bool (hitB l (pos l (p', o', f') t) (p', o', f') t)]) ∧ Calm w w' := by
  have C : ∀ u, Calm w u → Calls Try.prog 59 #[.slice A l.length d, .agg #[.int .i64 p', .int .i64 o', .int .i64 f', .int .i64 t]] u fun e w' => e = .returned (.int .i64 (pos l (p', o', f') t)) ∧ Calm u w' :=
    fun u hu => after_any A d l p' o' f' t u hn (hL.calm hu) hS
  have hpl := pos_le l (p', o', f') t
  generalize pos l (p', o', f') t = c at C hpl ⊢
  have hx : (w.alloc (.cells #[.int .i64 p', .int .i64 o', .int .i64 f'] 39)).heap[w.heap.size]? = some (.cells #[.int .i64 p', .int .i64 o', .int .i64 f'] 39 (0, 0)) := heap_new _ _
  have hw0 := (Calm.refl w).alloc (.cells #[.int .i64 p', .int .i64 o', .int .i64 f'] 39)
  by_cases h0 : c = 0
  · subst h0
    rw [hitB_none]
    go_enter Try.func42, Try.ntmps42
    go_wp2_with (go_at_call 59; refine (C _ hw0).mono ?_; rintro e w1 ⟨rfl, hb1⟩; have hu := hw0.call hb1; clear hx hw0 C hb1)
    refine wp_region_plan [.val (.int .i64 (-1)), .val (.bool true), .val (.bool true), .idle, .idle, .idle, .idle, .idle, .idle, .idle, .val (.bool true), .val (.bool true), .idle, .idle, .idle, .idle, .idle, .idle, .idle, .val (.bool true)] (by kernel_rfl) (by kernel_rfl) (by kernel_rfl) ?_
    intro X
    iterate 3
      refine plan_val (by kernel_rfl) (fun u hu => ?_) ?_
      · obtain ⟨hc, hf, hz⟩ := hu.of_drew.facts
        go_simp
      simp only [Act.put, List.setIfInBounds_toArray, List.set_cons_zero, List.set_cons_succ, Nat.reduceAdd]
    iterate 7
      refine plan_idle (by kernel_rfl) ?_
      simp only [Act.put, List.setIfInBounds_toArray, List.set_cons_zero, List.set_cons_succ, Nat.reduceAdd]
    iterate 2
      refine plan_val (by kernel_rfl) (fun u hu => ?_) ?_
      · obtain ⟨hc, hf, hz⟩ := hu.of_drew.facts
        go_simp
      simp only [Act.put, List.setIfInBounds_toArray, List.set_cons_zero, List.set_cons_succ, Nat.reduceAdd]
    iterate 7
      refine plan_idle (by kernel_rfl) ?_
      simp only [Act.put, List.setIfInBounds_toArray, List.set_cons_zero, List.set_cons_succ, Nat.reduceAdd]
    iterate 1
      refine plan_val (by kernel_rfl) (fun u hu => ?_) ?_
      · obtain ⟨hc, hf, hz⟩ := hu.of_drew.facts
        go_simp
      simp only [Act.put, List.setIfInBounds_toArray, List.set_cons_zero, List.set_cons_succ, Nat.reduceAdd]
    refine plan_end ?_
    intro w' hB
    have hk := hB.calm.of_drew
    clear hB
    go_wp2_with fail
    go_ret2
    exact ⟨rfl, hu.call hk⟩
  obtain ⟨b, q, p, o, f, m, g, s, rfl, hb, HE, hm, c0, c1, c2, c3, c4, c5⟩ := hL.get (k := c - 1) (by omega)
  have hH := hitB_some (k := (p', o', f')) (t := t) (by omega : 0 < c) HE.out
  simp only [El.key, El.live] at hH
  have z0 : 0 < c := by omega
  have z1 : IntKind.i64.wrap ((c : Int) - 1) = (c : Int) - 1 := IntWalk.i64_in _ (by omega)
  have z2 : ((c : Int) - 1).toNat = c - 1 := by omega
  have z3 : 0 ≤ (c : Int) - 1 := by omega
  have z4 : (c : Int) - 1 < l.length := by omega
  have z5 : 1 ≤ (c : Int) := by omega
  have Z : (0 < c ∧ IntKind.i64.wrap ((c : Int) - 1) = (c : Int) - 1 ∧ ((c : Int) - 1).toNat = c - 1 ∧ 0 ≤ (c : Int) - 1 ∧ (c : Int) - 1 < l.length ∧ 1 ≤ (c : Int)) := ⟨z0, z1, z2, z3, z4, z5⟩
  have ZZ := Lib.hid Z
  clear Z z0 z1 z2 z3 z4 h0
  generalize hb0 : hitB l c (p', o', f') t = r at hH ⊢
  clear hb0 hL HE hS
  generalize l.length = n at *
  have hc9 : (c : Int) ≤ 400 := by omega
  go_enter Try.func42, Try.ntmps42
  go_upto_region 2 with (go_at_call 59; refine (C _ hw0).mono ?_; rintro e w1 ⟨rfl, hb1⟩; have hu := hw0.call hb1; replace hx := (hb1.block (by simp)).trans hx; clear C hw0)
  obtain ⟨z0, z1, z2, z3, z4, z5'⟩ := ZZ.out
  have hvc := hu.facts.1
  replace c0 := (hvc _ _ hb).trans c0; replace c1 := (hvc _ _ hb).trans c1; replace c2 := (hvc _ _ hb).trans c2; replace c3 := (hvc _ _ hb).trans c3; replace c4 := (hvc _ _ hb).trans c4; replace c5 := (hvc _ _ hb).trans c5
  have hb2 : b < w1.heap.size := Nat.lt_of_lt_of_le hb hu.size
  obtain ⟨x0, x1, x2, hxs⟩ := row3 hx
  clear hvc hb1 hx ZZ hb
  by_cases hK : (p, o, f) = (p', o', f')
  rotate_left
  · have e0 : r = false := by rw [hH]; simp [hK]
    subst e0
    clear hH
    have h3 : ¬ p = p' ∨ (p = p' ∧ ¬ o = o') ∨ (p = p' ∧ o = o' ∧ ¬ f = f') := by simp only [Prod.mk.injEq] at hK; omega
    clear hK
    rcases h3 with h3 | ⟨h3, h4⟩ | ⟨h3, h4, h5⟩
    · skip
      refine wp_region_plan [.val (.int .i64 ((c : Int) - 1)), .val (.bool false), .val (.bool false), .val (.slice (some ⟨b, q, none⟩) n d), .val (.int .i64 ((c : Int) - 1)), .val (.pointer (some ⟨b, q + (c - 1) * 6, none⟩)), .val (.pointer (some ⟨b, q + (c - 1) * 6, none⟩)), .val (.agg #[.int .i64 p, .int .i64 o, .int .i64 f]), .val (.agg #[.int .i64 p', .int .i64 o', .int .i64 f']), .val (.bool true), .val (.bool true), .val (.bool true), .idle, .idle, .idle, .idle, .idle, .idle, .idle, .val (.bool true)] (by kernel_rfl) (by kernel_rfl) (by kernel_rfl) ?_
      intro X
      iterate 12
        refine plan_val (by kernel_rfl) (fun u hu => ?_) ?_
        · obtain ⟨hc, hf, hz⟩ := hu.of_drew.facts
          go_simp
        simp only [Act.put, List.setIfInBounds_toArray, List.set_cons_zero, List.set_cons_succ, Nat.reduceAdd]
      iterate 7
        refine plan_idle (by kernel_rfl) ?_
        simp only [Act.put, List.setIfInBounds_toArray, List.set_cons_zero, List.set_cons_succ, Nat.reduceAdd]
      iterate 1
        refine plan_val (by kernel_rfl) (fun u hu => ?_) ?_
        · obtain ⟨hc, hf, hz⟩ := hu.of_drew.facts
          go_simp
        simp only [Act.put, List.setIfInBounds_toArray, List.set_cons_zero, List.set_cons_succ, Nat.reduceAdd]
      refine plan_end ?_
      intro w' hB
      have hk := hB.calm.of_drew
      clear hB
      clear z0 z1 z2 z3 z4 z5
      go_wp2_with fail
      go_ret2
      exact ⟨rfl, hu.call hk⟩
    · skip
      subst h3
      refine wp_region_plan [.val (.int .i64 ((c : Int) - 1)), .val (.bool false), .val (.bool false), .val (.slice (some ⟨b, q, none⟩) n d), .val (.int .i64 ((c : Int) - 1)), .val (.pointer (some ⟨b, q + (c - 1) * 6, none⟩)), .val (.pointer (some ⟨b, q + (c - 1) * 6, none⟩)), .val (.agg #[.int .i64 p, .int .i64 o, .int .i64 f]), .val (.agg #[.int .i64 p, .int .i64 o', .int .i64 f']), .val (.bool true), .val (.bool true), .val (.bool true), .idle, .idle, .idle, .idle, .idle, .idle, .idle, .val (.bool true)] (by kernel_rfl) (by kernel_rfl) (by kernel_rfl) ?_
      intro X
      iterate 12
        refine plan_val (by kernel_rfl) (fun u hu => ?_) ?_
        · obtain ⟨hc, hf, hz⟩ := hu.of_drew.facts
          go_simp
        simp only [Act.put, List.setIfInBounds_toArray, List.set_cons_zero, List.set_cons_succ, Nat.reduceAdd]
      iterate 7
        refine plan_idle (by kernel_rfl) ?_
        simp only [Act.put, List.setIfInBounds_toArray, List.set_cons_zero, List.set_cons_succ, Nat.reduceAdd]
      iterate 1
        refine plan_val (by kernel_rfl) (fun u hu => ?_) ?_
        · obtain ⟨hc, hf, hz⟩ := hu.of_drew.facts
          go_simp
        simp only [Act.put, List.setIfInBounds_toArray, List.set_cons_zero, List.set_cons_succ, Nat.reduceAdd]
      refine plan_end ?_
      intro w' hB
      have hk := hB.calm.of_drew
      clear hB
      clear z0 z1 z2 z3 z4 z5
      go_wp2_with fail
      go_ret2
      exact ⟨rfl, hu.call hk⟩
    · skip
      subst h3
      subst h4
      refine wp_region_plan [.val (.int .i64 ((c : Int) - 1)), .val (.bool false), .val (.bool false), .val (.slice (some ⟨b, q, none⟩) n d), .val (.int .i64 ((c : Int) - 1)), .val (.pointer (some ⟨b, q + (c - 1) * 6, none⟩)), .val (.pointer (some ⟨b, q + (c - 1) * 6, none⟩)), .val (.agg #[.int .i64 p, .int .i64 o, .int .i64 f]), .val (.agg #[.int .i64 p, .int .i64 o, .int .i64 f']), .val (.bool true), .val (.bool true), .val (.bool true), .idle, .idle, .idle, .idle, .idle, .idle, .idle, .val (.bool true)] (by kernel_rfl) (by kernel_rfl) (by kernel_rfl) ?_
      intro X
      iterate 12
        refine plan_val (by kernel_rfl) (fun u hu => ?_) ?_
        · obtain ⟨hc, hf, hz⟩ := hu.of_drew.facts
          go_simp
        simp only [Act.put, List.setIfInBounds_toArray, List.set_cons_zero, List.set_cons_succ, Nat.reduceAdd]
      iterate 7
        refine plan_idle (by kernel_rfl) ?_
        simp only [Act.put, List.setIfInBounds_toArray, List.set_cons_zero, List.set_cons_succ, Nat.reduceAdd]
      iterate 1
        refine plan_val (by kernel_rfl) (fun u hu => ?_) ?_
        · obtain ⟨hc, hf, hz⟩ := hu.of_drew.facts
          go_simp
        simp only [Act.put, List.setIfInBounds_toArray, List.set_cons_zero, List.set_cons_succ, Nat.reduceAdd]
      refine plan_end ?_
      intro w' hB
      have hk := hB.calm.of_drew
      clear hB
      clear z0 z1 z2 z3 z4 z5
      go_wp2_with fail
      go_ret2
      exact ⟨rfl, hu.call hk⟩
  simp only [Prod.mk.injEq] at hK
  obtain ⟨rfl, rfl, rfl⟩ := hK
  by_cases hl : liveP m g t
  · have e0 : r = true := by rw [hH]; simp [hl]
    subst e0
    have L : ∀ u, Calls Try.prog 63 #[.agg #[.int .i64 p, .int .i64 o, .int .i64 f, .int .i64 m, .int .i64 g, .string s], .int .i64 t] u fun e w' => e = .returned (.bool true) ∧ Calm u w' := fun u => (live_any p o f m g t s u).mono fun e w' h => ⟨h.1.trans (ret_bool (decide_eq_true hl)), h.2⟩
    clear hH hl
    refine wp_region_plan [.val (.int .i64 ((c : Int) - 1)), .val (.bool false), .val (.bool false), .val (.slice (some ⟨b, q, none⟩) n d), .val (.int .i64 ((c : Int) - 1)), .val (.pointer (some ⟨b, q + (c - 1) * 6, none⟩)), .val (.pointer (some ⟨b, q + (c - 1) * 6, none⟩)), .val (.agg #[.int .i64 p, .int .i64 o, .int .i64 f]), .val (.agg #[.int .i64 p, .int .i64 o, .int .i64 f]), .val (.bool false), .val (.bool false), .val (.bool false), .val (.slice (some ⟨b, q, none⟩) n d), .val (.int .i64 ((c : Int) - 1)), .val (.pointer (some ⟨b, q + (c - 1) * 6, none⟩)), .val (.agg #[.int .i64 p, .int .i64 o, .int .i64 f, .int .i64 m, .int .i64 g, .string s]), .val (.int .i64 (t)), .val (.bool true), .val (.bool false), .val (.bool false)] (by kernel_rfl) (by kernel_rfl) (by kernel_rfl) ?_
    intro X
    iterate 20
      refine plan_val (by kernel_rfl) (fun u hu => ?_) ?_
      · obtain ⟨hc, hf, hz⟩ := hu.of_drew.facts
        go_simp
        all_goals first
          | (go_at_call 63; exact L _)
      simp only [Act.put, List.setIfInBounds_toArray, List.set_cons_zero, List.set_cons_succ, Nat.reduceAdd]
    refine plan_end ?_
    intro w' hB
    have hk := hB.calm.of_drew
    clear hB
    clear z0 z1 z2 z3 z4 z5
    go_wp2_with fail
    go_ret2
    exact ⟨rfl, hu.call hk⟩
  · have e0 : r = false := by rw [hH]; simp [hl]
    subst e0
    have L : ∀ u, Calls Try.prog 63 #[.agg #[.int .i64 p, .int .i64 o, .int .i64 f, .int .i64 m, .int .i64 g, .string s], .int .i64 t] u fun e w' => e = .returned (.bool false) ∧ Calm u w' := fun u => (live_any p o f m g t s u).mono fun e w' h => ⟨h.1.trans (ret_bool (decide_eq_false hl)), h.2⟩
    clear hH hl
    refine wp_region_plan [.val (.int .i64 ((c : Int) - 1)), .val (.bool false), .val (.bool false), .val (.slice (some ⟨b, q, none⟩) n d), .val (.int .i64 ((c : Int) - 1)), .val (.pointer (some ⟨b, q + (c - 1) * 6, none⟩)), .val (.pointer (some ⟨b, q + (c - 1) * 6, none⟩)), .val (.agg #[.int .i64 p, .int .i64 o, .int .i64 f]), .val (.agg #[.int .i64 p, .int .i64 o, .int .i64 f]), .val (.bool false), .val (.bool false), .val (.bool false), .val (.slice (some ⟨b, q, none⟩) n d), .val (.int .i64 ((c : Int) - 1)), .val (.pointer (some ⟨b, q + (c - 1) * 6, none⟩)), .val (.agg #[.int .i64 p, .int .i64 o, .int .i64 f, .int .i64 m, .int .i64 g, .string s]), .val (.int .i64 (t)), .val (.bool false), .val (.bool true), .val (.bool true)] (by kernel_rfl) (by kernel_rfl) (by kernel_rfl) ?_
    intro X
    iterate 20
      refine plan_val (by kernel_rfl) (fun u hu => ?_) ?_
      · obtain ⟨hc, hf, hz⟩ := hu.of_drew.facts
        go_simp
        all_goals first
          | (go_at_call 63; exact L _)
      simp only [Act.put, List.setIfInBounds_toArray, List.set_cons_zero, List.set_cons_succ, Nat.reduceAdd]
    refine plan_end ?_
    intro w' hB
    have hk := hB.calm.of_drew
    clear hB
    clear z0 z1 z2 z3 z4 z5
    go_wp2_with fail
    go_ret2
    exact ⟨rfl, hu.call hk⟩
open Go.RowKit
set_option maxHeartbeats 4000000 in
theorem checkWrite_any (A : Option Addr) (c : Nat) (l : List El) (p o f m g : Int) (s : ByteArray) (w : World) (hn : l.length ≤ 9223372036854775807) (hL : Lies w A l) :
    Calls Try.prog 57 #[.slice A l.length c, .agg #[.int .i64 p, .int .i64 o, .int .i64 f, .int .i64 m, .int .i64 g, .string s]] w fun e w' => e = .returned (.int .i64 (wrErr l ⟨p, o, f, m, g, s⟩)) ∧ Calm w w' := by
  have hx := heap_new w (.cells #[.int .i64 p, .int .i64 o, .int .i64 f, .int .i64 m, .int .i64 g, .string s] 41)
  have hu := (Calm.refl w).alloc (.cells #[.int .i64 p, .int .i64 o, .int .i64 f, .int .i64 m, .int .i64 g, .string s] 41)
  have cL : ∀ u, Calm w u → Calls Try.prog 26 #[.slice A l.length c] u fun e w' => e = .returned (.tuple #[.int .i64 (if runErr l = 0 then latest l else 0), .int .i64 (runErr l)]) ∧ Calm u w' := fun u hu => runLast_any A c l u hn (hL.calm hu)
  by_cases he : runErr l = 0
  rotate_left
  · have e1 : wrErr l ⟨p, o, f, m, g, s⟩ = runErr l := by unfold wrErr; rw [if_neg he]
    rw [e1]
    rw [if_neg he] at cL
    have b1 : (runErr l != 0) = true := by simpa using he
    clear e1 he hL
    go_enter Try.func57, Try.ntmps57
    go_wp2_with (go_at_call 26; refine (cL _ hu).mono ?_; rintro e w1 ⟨rfl, hb1⟩; replace hu := hu.call hb1)
    go_ret
    exact ⟨rfl, hu⟩
  rw [if_pos he, he] at cL
  have cE := elemCheck_any p o f m g s
  by_cases h2 : elemErr p o f m g s.size = 0
  rotate_left
  · have e1 : wrErr l ⟨p, o, f, m, g, s⟩ = elemErr p o f m g s.size := by
      unfold wrErr; rw [if_pos he]
      exact if_neg h2
    rw [e1]
    have b1 : (elemErr p o f m g s.size != 0) = true := by simpa using h2
    clear e1 he h2 hL
    generalize latest l = t0 at cL
    go_enter Try.func57, Try.ntmps57
    go_wp2_with (first
      | (go_at_call 26; refine (cL _ hu).mono ?_; rintro e w1 ⟨rfl, hb1⟩; replace hu := hu.call hb1; replace hx := (hb1.block (row6 hx).2.2.2.2.2.2).trans hx; obtain ⟨x0, x1, x2, x3, x4, x5, hxs⟩ := row6 hx; clear hb1)
      | (go_at_call 54; refine (cE _).mono ?_; rintro e w1 ⟨rfl, hb1⟩; replace hu := hu.call hb1))
    go_ret
    exact ⟨rfl, hu⟩
  have e1 : wrErr l ⟨p, o, f, m, g, s⟩ = if m < latest l then 9 else 0 := by
    unfold wrErr; rw [if_pos he]
    exact if_pos h2
  rw [e1]
  rw [h2] at cE
  clear e1 he h2 hL
  generalize latest l = t0 at cL
  by_cases h3 : m < t0
  · rw [if_pos h3]
    go_enter Try.func57, Try.ntmps57
    go_wp2_with (first
      | (go_at_call 26; refine (cL _ hu).mono ?_; rintro e w1 ⟨rfl, hb1⟩; replace hu := hu.call hb1; replace hx := (hb1.block (row6 hx).2.2.2.2.2.2).trans hx; obtain ⟨x0, x1, x2, x3, x4, x5, hxs⟩ := row6 hx; clear hb1)
      | (go_at_call 54; refine (cE _).mono ?_; rintro e w1 ⟨rfl, hb1⟩; replace hu := hu.call hb1; replace hx := (hb1.block (row6 hx).2.2.2.2.2.2).trans hx; obtain ⟨x0, x1, x2, x3, x4, x5, hxs⟩ := row6 hx; clear hb1))
    go_ret
    exact ⟨rfl, hu⟩
  · rw [if_neg h3]
    go_enter Try.func57, Try.ntmps57
    go_wp2_with (first
      | (go_at_call 26; refine (cL _ hu).mono ?_; rintro e w1 ⟨rfl, hb1⟩; replace hu := hu.call hb1; replace hx := (hb1.block (row6 hx).2.2.2.2.2.2).trans hx; obtain ⟨x0, x1, x2, x3, x4, x5, hxs⟩ := row6 hx; clear hb1)
      | (go_at_call 54; refine (cE _).mono ?_; rintro e w1 ⟨rfl, hb1⟩; replace hu := hu.call hb1; replace hx := (hb1.block (row6 hx).2.2.2.2.2.2).trans hx; obtain ⟨x0, x1, x2, x3, x4, x5, hxs⟩ := row6 hx; clear hb1))
    go_ret
    exact ⟨rfl, hu⟩
open Go.RowKit
set_option maxHeartbeats 16000000 in
theorem runPut_any (A : Option Addr) (d : Nat) (l : List El) (p' o' f' : Int) (s' : ByteArray) (t : Int) (w : World) (hn : l.length ≤ 9223372036854775807) (hL : Lies w A l) :
    Calls Try.prog 38 #[.slice A l.length d, .agg #[.int .i64 p', .int .i64 o', .int .i64 f'], .string s', .int .i64 t] w (SlEnd (if putErr l (p', o', f') s' t = 0 then putR l (p', o', f') s' t else []) (putErr l (p', o', f') s' t) w) := by
  have hy : ((w.alloc (.cells #[.int .i64 p', .int .i64 o', .int .i64 f'] 39)).alloc (.cells #[.int .i64 p', .int .i64 o', .int .i64 f', .int .i64 t, .int .i64 0, .string s'] 41)).heap[w.heap.size]? = some (.cells #[.int .i64 p', .int .i64 o', .int .i64 f'] 39 (0, 0)) := heap_past _ (heap_new _ _)
  have hz : ((w.alloc (.cells #[.int .i64 p', .int .i64 o', .int .i64 f'] 39)).alloc (.cells #[.int .i64 p', .int .i64 o', .int .i64 f', .int .i64 t, .int .i64 0, .string s'] 41)).heap[w.heap.size + 1]? = some (.cells #[.int .i64 p', .int .i64 o', .int .i64 f', .int .i64 t, .int .i64 0, .string s'] 41 (0, 0)) := by simpa using heap_new (w.alloc (.cells #[.int .i64 p', .int .i64 o', .int .i64 f'] 39)) (.cells #[.int .i64 p', .int .i64 o', .int .i64 f', .int .i64 t, .int .i64 0, .string s'] 41)
  have hu := ((Calm.refl w).alloc (.cells #[.int .i64 p', .int .i64 o', .int .i64 f'] 39)).alloc (.cells #[.int .i64 p', .int .i64 o', .int .i64 f', .int .i64 t, .int .i64 0, .string s'] 41)
  have cW : ∀ u, Calm w u → Calls Try.prog 57 #[.slice A l.length d, .agg #[.int .i64 p', .int .i64 o', .int .i64 f', .int .i64 t, .int .i64 0, .string s']] u fun e w' => e = .returned (.int .i64 (wrErr l (fresh (p', o', f') s' t))) ∧ Calm u w' := fun u hu => checkWrite_any A d l p' o' f' t 0 s' u hn (hL.calm hu)
  by_cases he : wrErr l (fresh (p', o', f') s' t) = 0
  rotate_left
  · have e1 : putErr l (p', o', f') s' t = wrErr l (fresh (p', o', f') s' t) := by unfold putErr; rw [if_neg he]
    rw [e1, if_neg he]
    have b1 : (wrErr l (fresh (p', o', f') s' t) != 0) = true := by simpa using he
    generalize wrErr l (fresh (p', o', f') s' t) = x at b1 cW
    clear he e1 hL
    go_enter Try.func38, Try.ntmps38
    go_wp2_with (go_at_call 57; refine (cW _ hu).mono ?_; rintro e w1 ⟨rfl, hb1⟩; replace hy := (hb1.block (row3 hy).2.2.2).trans hy; replace hz := (hb1.block (row6 hz).2.2.2.2.2.2).trans hz; replace hu := hu.call hb1; clear hb1; obtain ⟨y0, y1, y2, hys⟩ := row3 hy; obtain ⟨z0, z1, z2, z3, z4, z5, hzs⟩ := row6 hz)
    go_ret2
    exact ⟨_, rfl, Sl.nil _ _ _, hu⟩
  rw [he] at cW
  have hgood := fun hp : putErr l (p', o', f') s' t = 0 => put_good he hp
  obtain ⟨hG, hx, hlt⟩ := wrErr_zero.1 he
  obtain ⟨q1, q2, q3⟩ := sizes he
  have hpe : putErr l (p', o', f') s' t = if l.any (isSame (p', o', f') t) then 0 else if 400 ≤ l.length then 8 else 0 := by unfold putErr; rw [if_pos he]
  have hlt' : latest l ≤ t := hlt
  have hn4 := hG.1
  have cV : ∀ u, Calm w u → Calls Try.prog 42 #[.slice A l.length d, .agg #[.int .i64 p', .int .i64 o', .int .i64 f'], .int .i64 t] u fun e w' => e = .returned (.tuple #[.int .i64 (if hitB l (pos l (p', o', f') t) (p', o', f') t then (pos l (p', o', f') t : Int) - 1 else 0), .bool (hitB l (pos l (p', o', f') t) (p', o', f') t)]) ∧ Calm u w' :=
    fun u hu => liveRun_any A d l p' o' f' t u hn4 (hL.calm hu) hG.2.2
  have cC : ∀ u, Calm w u → Calls Try.prog 37 #[.slice A l.length d] u fun e w' => ∃ v, e = .returned v ∧ OwnR u.heap.size w' v l ∧ Calm u w' := fun u hu => clone_any A d l u hn4 (hL.calm hu)
  rcases hit_open hG (p', o', f') hlt' with ⟨h1, h2, hi, h3, h4⟩ | ⟨h1, h2⟩
  · rw [h1, if_pos rfl, show (pos l (p', o', f') t : Int) - 1 = ((pos l (p', o', f') t - 1 : Nat) : Int) by omega] at cV
    have hpos : pos l (p', o', f') t = (pos l (p', o', f') t - 1) + 1 := by omega
    by_cases hm : l[pos l (p', o', f') t - 1].m = t
    · obtain ⟨e1, e2⟩ := put_same (s := s') hi h3 h4 hm
      have e3 : putErr l (p', o', f') s' t = 0 := by rw [hpe, e1]; rfl
      have hgd := hgood e3
      rw [e3, if_pos rfl]
      rw [e2] at hgd ⊢
      generalize pos l (p', o', f') t - 1 = j at hi hm hgd cV ⊢
      clear e1 e2 e3 h1 h2 h3 h4 hpe hgood hpos hlt' hlt hx he hG
      have hwf := hgd.wf
      obtain ⟨b, q, p, o, f, m, g, s, rfl, hb, HE, hm', c0, c1, c2, c3, c4, c5⟩ := hL.get hi
      have e4 : l[j] = ⟨p, o, f, m, g, s⟩ := (List.getElem?_eq_some_iff.1 HE.out).2
      rw [e4] at hm
      simp only at hm
      subst hm
      have hC3 : ∀ u, Calm w u → u.cell? ⟨b, q + j * 6 + 3, none⟩ = some (.int .i64 m) := fun u hu => (hu.facts.1 _ _ hb).trans c3
      have hjz : (j : Int) < (l.length : Int) := by omega
      have E4 := Lib.hid e4
      clear c0 c1 c2 c3 c4 c5 HE e4 hL
      go_enter Try.func38, Try.ntmps38
      go_wp2_with (first
        | (go_at_call 57; refine (cW _ hu).mono ?_; rintro e w1 ⟨rfl, hb1⟩; replace hy := (hb1.block (row3 hy).2.2.2).trans hy; replace hz := (hb1.block (row6 hz).2.2.2.2.2.2).trans hz; replace hu := hu.call hb1; clear hb1; obtain ⟨y0, y1, y2, hys⟩ := row3 hy; obtain ⟨z0, z1, z2, z3, z4, z5, hzs⟩ := row6 hz; clear cW)
        | (go_at_call 42; refine (cV _ hu).mono ?_; rintro e w1 ⟨rfl, hb1⟩; replace hy := (hb1.block (row3 hy).2.2.2).trans hy; replace hz := (hb1.block (row6 hz).2.2.2.2.2.2).trans hz; replace hu := hu.call hb1; clear hb1; obtain ⟨y0, y1, y2, hys⟩ := row3 hy; obtain ⟨z0, z1, z2, z3, z4, z5, hzs⟩ := row6 hz; have c3 := hC3 _ hu; clear cV hC3)
        | (go_at_call 37; refine (cC _ hu).mono ?_; rintro e w2 ⟨v, rfl, ho, hb1⟩; obtain ⟨g', cap, rfl⟩ := ho.some (by omega); have HO := Lib.hid ho; obtain ⟨⟨d0, d1, d2, d3, d4, d5⟩, hfz, hbg, hgl, _, hcn⟩ := ho.cell hi; have hfz5 := hfz (j * 6 + 5); have hu2 := hu.call hb1; have hbw := Nat.le_trans hu.size hbg; clear cC ho hfz))
      go_ret2
      exact ⟨_, rfl, (HO.out.set (x := { l[j] with s := s' }) hi (by omega) (by rw [E4.out]; rfl)).sl hwf, hu2.setCell hbw _⟩
    · obtain ⟨e1, e2, e3, e4⟩ := put_new (s := s') hG hi h3 h4 hm hlt' q2 q1
      have hpe2 : putErr l (p', o', f') s' t = if 400 ≤ l.length then 8 else 0 := by rw [hpe, e1]; rfl
      have hm2 : ¬ (l[pos l (p', o', f') t - 1].m = t) := hm
      obtain ⟨b, q, p, o, f, m, g, s, rfl, hb, HE, hm', c0, c1, c2, c3, c4, c5⟩ := hL.get hi
      have e5 : l[pos l (p', o', f') t - 1] = ⟨p, o, f, m, g, s⟩ := (List.getElem?_eq_some_iff.1 HE.out).2
      rw [e5] at hm2
      simp only at hm2
      have hC3 : ∀ u, Calm w u → u.cell? ⟨b, q + (pos l (p', o', f') t - 1) * 6 + 3, none⟩ = some (.int .i64 m) := fun u hu => (hu.facts.1 _ _ hb).trans c3
      have E5 := Lib.hid e5
      clear c0 c1 c2 c3 c4 c5 HE e5 hL
      by_cases hfull : 400 ≤ l.length
      · rw [if_pos hfull] at hpe2
        rw [hpe2, if_neg (by decide)]
        have hl4 : (l.length : Int) = 400 := by omega
        have hjz : ((pos l (p', o', f') t - 1 : Nat) : Int) < (l.length : Int) := by omega
        generalize pos l (p', o', f') t - 1 = j at *
        clear hgood hpe hpe2 e1 e2 e3 e4 h1 h2 h3 h4 hpos hlt hlt' hx he hG hm
        clear hfull hn4
        go_enter Try.func38, Try.ntmps38
        go_wp2_with (first
          | (go_at_call 57; refine (cW _ hu).mono ?_; rintro e w1 ⟨rfl, hb1⟩; replace hy := (hb1.block (row3 hy).2.2.2).trans hy; replace hz := (hb1.block (row6 hz).2.2.2.2.2.2).trans hz; replace hu := hu.call hb1; clear hb1; obtain ⟨y0, y1, y2, hys⟩ := row3 hy; obtain ⟨z0, z1, z2, z3, z4, z5, hzs⟩ := row6 hz; clear cW)
          | (go_at_call 42; refine (cV _ hu).mono ?_; rintro e w1 ⟨rfl, hb1⟩; replace hy := (hb1.block (row3 hy).2.2.2).trans hy; replace hz := (hb1.block (row6 hz).2.2.2.2.2.2).trans hz; replace hu := hu.call hb1; clear hb1; obtain ⟨y0, y1, y2, hys⟩ := row3 hy; obtain ⟨z0, z1, z2, z3, z4, z5, hzs⟩ := row6 hz; have c3 := hC3 _ hu; clear cV hC3))
        go_ret2
        exact ⟨_, rfl, Sl.nil _ _ _, hu⟩
      · rw [if_neg hfull] at hpe2
        have hgd := hgood hpe2
        rw [hpe2, if_pos rfl]
        rw [e4] at hgd ⊢
        have hl4 : ¬ ((l.length : Int) = 400) := by omega
        have hpl := pos_le l (p', o', f') t
        have HP := Lib.hid hpos
        clear hgood hpe hpe2 e1 e4 h1 h2 h3 h4 hpos hlt hlt' hx he hG hm
        generalize hpj : pos l (p', o', f') t - 1 = j at *
        have hjz : (j : Int) < (l.length : Int) := by omega
        have hq : (l.set j { l[j] with g := t }) = l.set j ⟨p, o, f, m, t, s⟩ := by rw [E5.out]
        rw [hq] at hgd e2 e3 ⊢
        clear hq hpj
        go_enter Try.func38, Try.ntmps38
        go_upto_region 15 with (first
          | (go_at_call 57; refine (cW _ hu).mono ?_; rintro e w1 ⟨rfl, hb1⟩; replace hy := (hb1.block (row3 hy).2.2.2).trans hy; replace hz := (hb1.block (row6 hz).2.2.2.2.2.2).trans hz; replace hu := hu.call hb1; clear hb1; obtain ⟨y0, y1, y2, hys⟩ := row3 hy; obtain ⟨z0, z1, z2, z3, z4, z5, hzs⟩ := row6 hz; clear cW)
          | (go_at_call 42; refine (cV _ hu).mono ?_; rintro e w1 ⟨rfl, hb1⟩; replace hy := (hb1.block (row3 hy).2.2.2).trans hy; replace hz := (hb1.block (row6 hz).2.2.2.2.2.2).trans hz; replace hu := hu.call hb1; clear hb1; obtain ⟨y0, y1, y2, hys⟩ := row3 hy; obtain ⟨z0, z1, z2, z3, z4, z5, hzs⟩ := row6 hz; have c3 := hC3 _ hu; clear cV hC3)
          | (go_at_call 37; refine (cC _ hu).mono ?_; rintro e w2 ⟨v, rfl, ho, hb1⟩; obtain ⟨g', cap, rfl⟩ := ho.some (by omega); have HO := Lib.hid ho; obtain ⟨⟨d0, d1, d2, d3, d4, d5⟩, hfz, hbg, hgl, _, hcn⟩ := ho.cell hi; have hfz4 := hfz (j * 6 + 4); have hz2 := (hb1.block (row6 hz).2.2.2.2.2.2).trans hz; have hu2 := hu.call hb1; have hbw := Nat.le_trans hu.size hbg; clear cC ho hfz))
        have HO2 := Lib.hid (HO.out.set (x := ⟨p, o, f, m, t, s⟩) hi (by omega : 4 < 6) (by rw [E5.out]; rfl : _ = l[j].cells.set 4 (.int .i64 t)))
        have hz3 := (Below.heap_setCell w2 ⟨g', j * 6 + 4, none⟩ (.int .i64 t) (w.heap.size + 1) (by show _ ≠ g'; omega)).trans hz2
        have hu3 := hu2.setCell (p := ⟨g', j * 6 + 4, none⟩) hbw (.int .i64 t)
        have hwl : w1.heap.size ≤ (w2.setCell ⟨g', j * 6 + 4, none⟩ (.int .i64 t)).heap.size := by simp; omega
        generalize w2.setCell ⟨g', j * 6 + 4, none⟩ (.int .i64 t) = w3 at HO2 hz3 hu3 hwl ⊢
        have hwf := e2.wf
        have hL1 := (HO2.out.reads hwf).2
        have cF : ∀ u, Calm w3 u → Calls Try.prog 59 #[.slice (some ⟨g', 0, none⟩) l.length cap, .agg #[.int .i64 p', .int .i64 o', .int .i64 f', .int .i64 t]] u fun e w' => e = .returned (.int .i64 (pos l (p', o', f') t)) ∧ Calm u w' := fun u hu => by
          have h := after_any (some ⟨g', 0, none⟩) cap (l.set j ⟨p, o, f, m, t, s⟩) p' o' f' t u (by rw [List.length_set]; exact hn4) (hL1.calm hu) e2.2.2
          rw [List.length_set, show pos (l.set j ⟨p, o, f, m, t, s⟩) (p', o', f') t = pos l (p', o', f') t from by rw [← E5.out] at *; exact e3] at h
          exact h
        have cI : ∀ u h, Calm w3 u → w3.drew.heap.size ≤ h → u.heap[h]? = some (.cells #[.int .i64 p', .int .i64 o', .int .i64 f', .int .i64 t, .int .i64 0, .string s'] 41 (0, 0)) → Calls Try.prog 58 #[.slice (some ⟨g', 0, none⟩) l.length cap, .int .i64 (pos l (p', o', f') t), .slice (some ⟨h, 0, none⟩) 1 1] u (OwnEnd w1.heap.size (insAt (l.set j ⟨p, o, f, m, t, s⟩) (pos l (p', o', f') t) (fresh (p', o', f') s' t)) u) := fun u h hv hgh0 hh =>
          have hgh : g' < h := Nat.lt_of_lt_of_le (HO2.out.lt g' rfl).2 hgh0
          insert_any w1.heap.size h (pos l (p', o', f') t) _ (l.set j ⟨p, o, f, m, t, s⟩) p' o' f' t 0 s' u (by rw [List.length_set]; exact hpl) (by rw [List.length_set]; exact hn4) (HO2.out.calm hv) (Nat.le_trans hwl hv.size) hh (fun e => Nat.ne_of_lt hgh (by simpa [Value.ownBlock] using e))
        have hwf2 := Lib.hid hgd.wf
        have hw1 := hu.size
        clear hgd e2 e3 HP hpl E5 HO HO2 hL1 hwf d0 d1 d2 d3 d4 d5 hfz4 hz2 hu2 hwl y0 y1 y2 hys z0 z1 z2 z3 z4 z5 hzs hy hz c3
        generalize pos l (p', o', f') t = P at *
        generalize insAt (l.set j ⟨p, o, f, m, t, s⟩) P (fresh (p', o', f') s' t) = R at *
        obtain ⟨z0, z1, z2, z3, z4, z5, hzs⟩ := row6 hz3
        have HW1 := Lib.hid hw1
        clear hw1 q1 q2 q3 hn hn4 hm2 hb hm' hfull hl4 hjz hi hb1 hbg hgl hcn hbw hz3
        refine wp_region_plan_tail 7 [.val (.slice (some ⟨g', 0, none⟩) l.length cap), .val (.slice (some ⟨g', 0, none⟩) l.length cap), .val (.agg #[.int .i64 p', .int .i64 o', .int .i64 f', .int .i64 t, .int .i64 0, .string s']), .val (.agg #[.int .i64 p', .int .i64 o', .int .i64 f', .int .i64 t]), .val (.int .i64 P), .val (.agg #[.int .i64 p', .int .i64 o', .int .i64 f', .int .i64 t, .int .i64 0, .string s']), .new #[.int .i64 p', .int .i64 o', .int .i64 f', .int .i64 t, .int .i64 0, .string s'] 41 (some 1)] (by kernel_rfl) (by kernel_rfl) (by kernel_rfl) (by kernel_rfl) ?_
        intro X
        simp only [List.take_succ_cons, List.take_zero, List.drop_succ_cons, List.drop_zero]
        iterate 6
          refine plan_val (by kernel_rfl) (fun u hu => ?_) ?_
          · obtain ⟨hc, hf, hz⟩ := hu.of_drew.facts
            go_simp
            all_goals first
              | (go_at_call 60; exact spot_any _ _ _ _ _ _ _)
              | (go_at_call 59; exact cF _ hu.of_drew)
          simp only [Act.put, List.setIfInBounds_toArray, List.set_cons_zero, List.set_cons_succ, Nat.reduceAdd]
        refine plan_lit (by kernel_rfl) (fun u => ?_) ?_
        · go_simp
        simp only [Act.put, List.setIfInBounds_toArray, List.set_cons_zero, List.set_cons_succ, Nat.reduceAdd]
        refine plan_end ?_
        intro w' hB
        have hr6 := hB.row 6 _ _ rfl
        have hk := hB.calm.of_drew
        clear hB
        have hI := cI w' (X 6) hk hr6.1 hr6.2
        clear hr6 cI cF
        go_wp2_with (go_at_call 58; refine hI.mono ?_; rintro e w9 ⟨v9, rfl, ho9, hk9⟩; have HO9 := Lib.hid ho9; have hu9 := hk9 w HW1.out (hu3.call hk); clear ho9 hk9)
        go_ret2
        exact ⟨_, rfl, HO9.out.sl hwf2.out, hu9⟩
  · rw [h1] at cV
    simp only [Bool.false_eq_true, if_false] at cV
    obtain ⟨e1, e2⟩ := put_none (s := s') (t := t) hG h2
    have hpe2 : putErr l (p', o', f') s' t = if 400 ≤ l.length then 8 else 0 := by rw [hpe, e1]; rfl
    by_cases hfull : 400 ≤ l.length
    · rw [if_pos hfull] at hpe2
      rw [hpe2, if_neg (by decide)]
      have hl4 : (l.length : Int) = 400 := by omega
      clear hgood hpe hpe2 e1 e2 h1 h2 hlt hlt' hx he hG hL hfull hn4
      go_enter Try.func38, Try.ntmps38
      go_wp2_with (first
        | (go_at_call 57; refine (cW _ hu).mono ?_; rintro e w1 ⟨rfl, hb1⟩; replace hy := (hb1.block (row3 hy).2.2.2).trans hy; replace hz := (hb1.block (row6 hz).2.2.2.2.2.2).trans hz; replace hu := hu.call hb1; clear hb1; obtain ⟨y0, y1, y2, hys⟩ := row3 hy; obtain ⟨z0, z1, z2, z3, z4, z5, hzs⟩ := row6 hz; clear cW)
        | (go_at_call 42; refine (cV _ hu).mono ?_; rintro e w1 ⟨rfl, hb1⟩; replace hy := (hb1.block (row3 hy).2.2.2).trans hy; replace hz := (hb1.block (row6 hz).2.2.2.2.2.2).trans hz; replace hu := hu.call hb1; clear hb1; obtain ⟨y0, y1, y2, hys⟩ := row3 hy; obtain ⟨z0, z1, z2, z3, z4, z5, hzs⟩ := row6 hz; clear cV))
      go_ret2
      exact ⟨_, rfl, Sl.nil _ _ _, hu⟩
    · rw [if_neg hfull] at hpe2
      have hgd := hgood hpe2
      rw [hpe2, if_pos rfl]
      rw [e2] at hgd ⊢
      have hl4 : ¬ ((l.length : Int) = 400) := by omega
      have hpl := pos_le l (p', o', f') t
      have HG := Lib.hid hG
      clear hgood hpe hpe2 e1 e2 h1 h2 hlt hlt' hx he hG hL
      go_enter Try.func38, Try.ntmps38
      go_upto_region 15 with (first
        | (go_at_call 57; refine (cW _ hu).mono ?_; rintro e w1 ⟨rfl, hb1⟩; replace hy := (hb1.block (row3 hy).2.2.2).trans hy; replace hz := (hb1.block (row6 hz).2.2.2.2.2.2).trans hz; replace hu := hu.call hb1; clear hb1; obtain ⟨y0, y1, y2, hys⟩ := row3 hy; obtain ⟨z0, z1, z2, z3, z4, z5, hzs⟩ := row6 hz; clear cW)
        | (go_at_call 42; refine (cV _ hu).mono ?_; rintro e w1 ⟨rfl, hb1⟩; replace hy := (hb1.block (row3 hy).2.2.2).trans hy; replace hz := (hb1.block (row6 hz).2.2.2.2.2.2).trans hz; replace hu := hu.call hb1; clear hb1; obtain ⟨y0, y1, y2, hys⟩ := row3 hy; obtain ⟨z0, z1, z2, z3, z4, z5, hzs⟩ := row6 hz; clear cV)
        | (go_at_call 37; refine (cC _ hu).mono ?_; rintro e w3 ⟨v, rfl, ho, hb1⟩; obtain ⟨A1, c1, rfl, _, _, hL1⟩ := ho.lies HG.out.wf; have HO2 := Lib.hid ho; have hz3 := (hb1.block (row6 hz).2.2.2.2.2.2).trans hz; have hu3 := hu.call hb1; have hwl := hb1.size; have hw1 := hu.size; clear cC ho))
      have cF : ∀ u, Calm w3 u → Calls Try.prog 59 #[.slice A1 l.length c1, .agg #[.int .i64 p', .int .i64 o', .int .i64 f', .int .i64 t]] u fun e w' => e = .returned (.int .i64 (pos l (p', o', f') t)) ∧ Calm u w' := fun u hu =>
        after_any A1 c1 l p' o' f' t u hn4 (hL1.calm hu) HG.out.2.2
      have cI : ∀ u h, Calm w3 u → w3.drew.heap.size ≤ h → u.heap[h]? = some (.cells #[.int .i64 p', .int .i64 o', .int .i64 f', .int .i64 t, .int .i64 0, .string s'] 41 (0, 0)) → Calls Try.prog 58 #[.slice A1 l.length c1, .int .i64 (pos l (p', o', f') t), .slice (some ⟨h, 0, none⟩) 1 1] u (OwnEnd w1.heap.size (insAt l (pos l (p', o', f') t) (fresh (p', o', f') s' t)) u) := fun u h hv hgh0 hh =>
        insert_any w1.heap.size h (pos l (p', o', f') t) _ l p' o' f' t 0 s' u hpl hn4 (HO2.out.calm hv) (Nat.le_trans hwl hv.size) hh (fun e => by have h9 := (HO2.out.lt h e).2; exact absurd hgh0 (Nat.not_le.2 h9))
      have hwf2 := Lib.hid hgd.wf
      clear hgd hpl HG HO2 hL1 hwl y0 y1 y2 hys z0 z1 z2 z3 z4 z5 hzs hy hz
      generalize pos l (p', o', f') t = P at *
      generalize insAt l P (fresh (p', o', f') s' t) = R at *
      obtain ⟨z0, z1, z2, z3, z4, z5, hzs⟩ := row6 hz3
      have HW1 := Lib.hid hw1
      clear hw1 q1 q2 q3 hn hn4 hfull hl4 hb1 hz3
      refine wp_region_plan_tail 7 [.val (.slice A1 l.length c1), .val (.slice A1 l.length c1), .val (.agg #[.int .i64 p', .int .i64 o', .int .i64 f', .int .i64 t, .int .i64 0, .string s']), .val (.agg #[.int .i64 p', .int .i64 o', .int .i64 f', .int .i64 t]), .val (.int .i64 P), .val (.agg #[.int .i64 p', .int .i64 o', .int .i64 f', .int .i64 t, .int .i64 0, .string s']), .new #[.int .i64 p', .int .i64 o', .int .i64 f', .int .i64 t, .int .i64 0, .string s'] 41 (some 1)] (by kernel_rfl) (by kernel_rfl) (by kernel_rfl) (by kernel_rfl) ?_
      intro X
      simp only [List.take_succ_cons, List.take_zero, List.drop_succ_cons, List.drop_zero]
      iterate 6
        refine plan_val (by kernel_rfl) (fun u hu => ?_) ?_
        · obtain ⟨hc, hf, hz⟩ := hu.of_drew.facts
          go_simp
          all_goals first
            | (go_at_call 60; exact spot_any _ _ _ _ _ _ _)
            | (go_at_call 59; exact cF _ hu.of_drew)
        simp only [Act.put, List.setIfInBounds_toArray, List.set_cons_zero, List.set_cons_succ, Nat.reduceAdd]
      refine plan_lit (by kernel_rfl) (fun u => ?_) ?_
      · go_simp
      simp only [Act.put, List.setIfInBounds_toArray, List.set_cons_zero, List.set_cons_succ, Nat.reduceAdd]
      refine plan_end ?_
      intro w' hB
      have hr6 := hB.row 6 _ _ rfl
      have hk := hB.calm.of_drew
      clear hB
      have hI := cI w' (X 6) hk hr6.1 hr6.2
      clear hr6 cI cF
      go_wp2_with (go_at_call 58; refine hI.mono ?_; rintro e w9 ⟨v9, rfl, ho9, hk9⟩; have HO9 := Lib.hid ho9; have hu9 := hk9 w HW1.out (hu3.call hk); clear ho9 hk9)
      go_ret2
      exact ⟨_, rfl, HO9.out.sl hwf2.out, hu9⟩
end Go.Proofs.Ytcjndjabhhpheaa
