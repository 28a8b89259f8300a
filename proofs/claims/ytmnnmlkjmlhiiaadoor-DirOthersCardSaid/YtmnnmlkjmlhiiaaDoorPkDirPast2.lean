/- Texts of one kind in one file. -/
import Derived.Deep.LoopGhost
import Derived.Outline
import Derived.IntWalk
import Derived.Deep.AppendSrc
import Derived.Deep.RegionLaw
import Derived.Laws.Externs
import Derived.Lib.AppendZerosOnto
import Derived.Lib.Overlaps
import Derived.Lib.SliceRun
import Derived.Lib.Hide
import Derived.Laws.BitsAll
import Derived.Test.YtmnnmlkjmlhiiaaDoorShelfD
import Derived.Lib.SmallJoins
import Derived.Lib.AtoiErrMem
import Derived.WalkSmall
import Derived.Shelf.Strconv.ErrVarAll
import Derived.Deep.MidRow
import Derived.Deep.RegionWith
import Derived.Test.YtmnnmlkjmlhiiaaDoorPkDirPast1
set_option maxRecDepth 100000
namespace Go.Proofs.YtmnnmlkjmlhiiaaDoor
open Go.RowKit
theorem decide_Fol (p o f m g : Int) (s : ByteArray) (p' o' f' m' g' : Int) (s' : ByteArray) :
    decide (Fol ⟨p, o, f, m, g, s⟩ ⟨p', o', f', m', g', s'⟩) = (decide (scmp p o f m p' o' f' m' = -1) && (!decide ((p, o, f) = (p', o', f')) || !decide (liveP m g m'))) := by
  rw [Bool.eq_iff_iff]
  simp only [Bool.and_eq_true, Bool.or_eq_true, decide_eq_true_eq, Bool.not_eq_true', decide_eq_false_iff_not]
  have h := scmp_sLt (a := ⟨p, o, f, m, g, s⟩) (b := ⟨p', o', f', m', g', s'⟩)
  simp only at h
  rw [h]
  unfold Fol
  simp only [El.key]
  constructor
  · rintro ⟨h1, h2⟩
    refine ⟨h1, ?_⟩
    by_cases e : (p, o, f) = (p', o', f')
    · right; have := h2 e; unfold liveP; omega
    · exact .inl e
  · rintro ⟨h1, h2⟩
    refine ⟨h1, fun e => ?_⟩
    rcases h2 with h2 | h2
    · exact absurd e h2
    · rw [e, sLt_same] at h1
      unfold liveP at h2; omega
set_option maxHeartbeats 2000000 in
theorem follows_any (p o f m g : Int) (s : ByteArray) (p' o' f' m' g' : Int) (s' : ByteArray) (w : World) :
    Calls Tryd.prog 44 #[.agg #[.int .i64 p, .int .i64 o, .int .i64 f, .int .i64 m, .int .i64 g, .string s], .agg #[.int .i64 p', .int .i64 o', .int .i64 f', .int .i64 m', .int .i64 g', .string s']] w fun e w' => e = .returned (.bool (decide (Fol ⟨p, o, f, m, g, s⟩ ⟨p', o', f', m', g', s'⟩))) ∧ Calm w w' := by
  rw [decide_Fol]
  have hc := scmp_or p o f m p' o' f' m'
  generalize hK : scmp p o f m p' o' f' m' = c at hc ⊢
  have cS : ∀ u, Calls Tryd.prog 38 #[.agg #[.int .i64 p, .int .i64 o, .int .i64 f, .int .i64 m], .agg #[.int .i64 p', .int .i64 o', .int .i64 f', .int .i64 m']] u fun e w' => e = .returned (.int .i64 c) ∧ Calm u w' := fun u => hK ▸ cmpSpot_any p o f m p' o' f' m' u
  clear hK
  go_enter Tryd.func44, Tryd.ntmps44
  go_upto_region 1 with fail
  have hx : ((w.alloc (.cells #[.int .i64 p, .int .i64 o, .int .i64 f, .int .i64 m, .int .i64 g, .string s] 49)).alloc (.cells #[.int .i64 p', .int .i64 o', .int .i64 f', .int .i64 m', .int .i64 g', .string s'] 49)).heap[w.heap.size]? = some (.cells #[.int .i64 p, .int .i64 o, .int .i64 f, .int .i64 m, .int .i64 g, .string s] 49 (0, 0)) := heap_past _ (heap_new _ _)
  have hy : ((w.alloc (.cells #[.int .i64 p, .int .i64 o, .int .i64 f, .int .i64 m, .int .i64 g, .string s] 49)).alloc (.cells #[.int .i64 p', .int .i64 o', .int .i64 f', .int .i64 m', .int .i64 g', .string s'] 49)).heap[w.heap.size + 1]? = some (.cells #[.int .i64 p', .int .i64 o', .int .i64 f', .int .i64 m', .int .i64 g', .string s'] 49 (0, 0)) := by simpa using heap_new (w.alloc (.cells #[.int .i64 p, .int .i64 o, .int .i64 f, .int .i64 m, .int .i64 g, .string s] 49)) (.cells #[.int .i64 p', .int .i64 o', .int .i64 f', .int .i64 m', .int .i64 g', .string s'] 49)
  have hu : Calm w ((w.alloc (.cells #[.int .i64 p, .int .i64 o, .int .i64 f, .int .i64 m, .int .i64 g, .string s] 49)).alloc (.cells #[.int .i64 p', .int .i64 o', .int .i64 f', .int .i64 m', .int .i64 g', .string s'] 49)) := ((Calm.refl _).alloc _).alloc _
  generalize ((w.alloc (.cells #[.int .i64 p, .int .i64 o, .int .i64 f, .int .i64 m, .int .i64 g, .string s] 49)).alloc (.cells #[.int .i64 p', .int .i64 o', .int .i64 f', .int .i64 m', .int .i64 g', .string s'] 49)) = wc at hx hy hu ⊢
  obtain ⟨x0, x1, x2, x3, x4, x5, hxs⟩ := row6 hx
  obtain ⟨y0, y1, y2, y3, y4, y5, hys⟩ := row6 hy
  refine wp_region_plan [.val (.agg #[.int .i64 p, .int .i64 o, .int .i64 f, .int .i64 m, .int .i64 g, .string s]), .val (.agg #[.int .i64 p, .int .i64 o, .int .i64 f, .int .i64 m]), .val (.agg #[.int .i64 p', .int .i64 o', .int .i64 f', .int .i64 m', .int .i64 g', .string s']), .val (.agg #[.int .i64 p', .int .i64 o', .int .i64 f', .int .i64 m']), .val (.int .i64 c), .val (.bool (decide (0 ≤ c)))] (by kernel_rfl) (by kernel_rfl) (by kernel_rfl) ?_
  intro X
  iterate 6
    refine plan_val (by kernel_rfl) (fun u hu => ?_) ?_
    · obtain ⟨hc, hf, hz⟩ := hu.of_drew.facts
      go_simp
      all_goals first
        | (go_at_call 23; exact spot_any _ _ _ _ _ _ _)
        | (go_at_call 38; exact cS _)
    simp only [Act.put, List.setIfInBounds_toArray, List.set_cons_zero, List.set_cons_succ, Nat.reduceAdd]
  refine plan_end ?_
  intro w' hB
  have hk := hB.calm.of_drew
  clear hB cS
  replace hx := (hk.block hxs).trans hx
  replace hy := (hk.block hys).trans hy
  replace hu := hu.call hk
  clear hk x0 x1 x2 x3 x4 x5 y0 y1 y2 y3 y4 y5 hxs hys
  obtain ⟨x0, x1, x2, x3, x4, x5, hxs⟩ := row6 hx
  obtain ⟨y0, y1, y2, y3, y4, y5, hys⟩ := row6 hy
  by_cases h1 : 0 ≤ c
  · have e1 : decide (0 ≤ c) = true := decide_eq_true h1
    have e2 : decide (c = -1) = false := decide_eq_false (by omega)
    go_wp2_with fail
    go_ret
    exact ⟨by rw [e2]; rfl, hu⟩
  · have e1 : decide (0 ≤ c) = false := decide_eq_false h1
    have e2 : c = -1 := by omega
    subst e2
    clear hc h1
    go_wp2_with (go_at_call 33; refine (live_any _ _ _ _ _ _ _ _).mono ?_; rintro e w1 ⟨rfl, hb1⟩)
    all_goals
      go_ret
      exact ⟨rfl, by first | exact hu | exact hu.call (by assumption)⟩
theorem stepErr_err {l : List El} {k : Nat} {e : El} (h : l[k]? = some e) (he : e.err ≠ 0) : stepErr l k = e.err := by
 unfold stepErr; rw [h]; simp only; rw [if_pos he]
theorem runErr_at {l : List El} {k : Nat} (hl : ¬ 400 < l.length) (h : ∀ j, j < k → stepErr l j = 0) (hk : stepErr l k ≠ 0) (hlt : k < l.length) : stepErr l k = runErr l := by
 unfold runErr; rw [if_neg hl, firstErr_at h hk hlt]
theorem runErr_good {l : List El} (hl : ¬ 400 < l.length) (h : ∀ j, j < l.length → stepErr l j = 0) : 0 = runErr l := by
 unfold runErr; rw [if_neg hl, firstErr_zero.2 h]
theorem stepErr_form {l : List El} {k : Nat} {e d : El} (h : l[k]? = some e) (he : e.err = 0) (h0 : 0 < k) (hd : l[k - 1]? = some d) : stepErr l k = if Fol d e then 0 else 3 := by
 unfold stepErr; rw [h]; simp only; rw [if_neg (by simpa using he), if_neg (by omega), hd]
theorem stepErr_first {l : List El} {e : El} (h : l[0]? = some e) (he : e.err = 0) : stepErr l 0 = 0 := by
 unfold stepErr; rw [h]; simp only; rw [if_neg (by simpa using he)]; rfl
def NoErr (l : List El) (k : Nat) : Prop := ∀ j, j < k → stepErr l j = 0
set_option maxHeartbeats 4000000 in
theorem runCheck_any (A : Option Addr) (c : Nat) (l : List El) (w : World) (hn : l.length ≤ 9223372036854775807) (hL : Lies w A l) :
    Calls Tryd.prog 29 #[.slice A l.length c] w fun e w' => e = .returned (.int .i64 (runErr l)) ∧ Calm w w' := by
  by_cases hbig : 400 < l.length
  · have K : Hid (2 = runErr l) := by show _ = _; unfold runErr; rw [if_pos hbig]
    go_enter Tryd.func29, Tryd.ntmps29
    go_wp2_with fail
    go_ret
    exact ⟨ret_int K.out, Calm.refl _⟩
  go_enter Tryd.func29, Tryd.ntmps29
  go_wp2_with fail
  go_loopw [11] (fun i wr => ∃ k : Nat, k ≤ l.length ∧ i = .int .i64 k ∧ Calm w wr ∧ NoErr l k) (fun i _ => l.length - (intOf i).toNat)
  case atStart => exact ⟨0, Nat.zero_le _, rfl, Calm.refl _, fun j hj => absurd hj (Nat.not_lt_zero _)⟩
  case round =>
    obtain ⟨k, hk, rfl, hu, hN⟩ := hrel
    by_cases hlt : k < l.length
    rotate_left
    · have hkl : k = l.length := by omega
      have K : Hid (0 = runErr l) := runErr_good hbig (by rw [← hkl]; exact hN)
      clear hkl
      go_wp2_with fail
      go_ret
      exact ⟨ret_int K.out, hu⟩
    obtain ⟨b, q, p, o, f, m, g, s, rfl, hb, HE, hm, c0, c1, c2, c3, c4, c5⟩ := (hL.calm hu).get hlt
    by_cases he : elemErr p o f m g s.size = 0
    rotate_left
    · have b1 : (elemErr p o f m g s.size != 0) = true := by simpa using he
      have K : Hid (elemErr p o f m g s.size = runErr l) := by
        have h1 := stepErr_err HE.out (show El.err ⟨p, o, f, m, g, s⟩ ≠ 0 from he)
        rw [← runErr_at hbig hN (by rw [h1]; exact he) hlt, h1]; rfl
      clear he
      go_wp2_with (go_at_call 32; refine (elemCheck_any _ _ _ _ _ _ _).mono ?_; rintro e w1 ⟨rfl, hb1⟩)
      go_ret
      exact ⟨ret_int K.out, by repeat (first | (with_reducible exact Calm.refl _) | (with_reducible refine Calm.alloc ?_ _) | (with_reducible refine Calm.drew ?_) | (with_reducible refine Calm.drewN ?_ _) | (refine Calm.call ?_ (by with_reducible assumption)))⟩
    have b1 : (elemErr p o f m g s.size != 0) = false := by simpa using he
    have HE0 : Hid (elemErr p o f m g s.size = 0) := he
    clear he
    by_cases hk0 : k = 0
    · subst hk0
      have hN1 : NoErr l 1 := fun j hj => by
        have : j = 0 := by omega
        subst this
        exact stepErr_first HE.out HE0.out
      simp only [Nat.zero_mul, Nat.add_zero] at c0 c1 c2 c3 c4 c5
      go_wp2_with (go_at_call 32; refine (elemCheck_any _ _ _ _ _ _ _).mono ?_; rintro e w1 ⟨rfl, hb1⟩)
      refine wp_region_plan [.val (.int .i64 0), .val (.bool false), .val (.bool false), .idle, .idle, .idle, .idle, .idle, .idle, .idle, .idle, .val (.bool false)] (by kernel_rfl) (by kernel_rfl) (by kernel_rfl) ?_
      intro X
      iterate 3
        refine plan_val (by kernel_rfl) (fun u hu => ?_) ?_
        · obtain ⟨hc, hf, hz⟩ := hu.of_drew.facts
          go_simp
        simp only [Act.put, List.setIfInBounds_toArray, List.set_cons_zero, List.set_cons_succ, Nat.reduceAdd]
      iterate 8
        refine plan_idle (by kernel_rfl) ?_
        simp only [Act.put, List.setIfInBounds_toArray, List.set_cons_zero, List.set_cons_succ, Nat.reduceAdd]
      iterate 1
        refine plan_val (by kernel_rfl) (fun u hu => ?_) ?_
        · obtain ⟨hc, hf, hz⟩ := hu.of_drew.facts
          go_simp
        simp only [Act.put, List.setIfInBounds_toArray, List.set_cons_zero, List.set_cons_succ, Nat.reduceAdd]
      refine plan_end ?_
      intro w' hB
      have hk := hB.calm.of_drew
      clear hB
      go_wp2_with fail
      exact ⟨⟨1, by omega, rfl, ((hu.alloc _).call hb1).call hk, hN1⟩, by simp [intOf]; omega⟩
    obtain ⟨p', o', f', m', g', s', HE', hm', d0, d1, d2, d3, d4, d5⟩ := (hL.calm hu).get2 (k := k - 1) (by omega)
    have hS := stepErr_form HE.out HE0.out (by omega) HE'.out
    have hk1 : 1 ≤ k := by omega
    by_cases hF : Fol ⟨p', o', f', m', g', s'⟩ ⟨p, o, f, m, g, s⟩
    · have b2 : decide (Fol ⟨p', o', f', m', g', s'⟩ ⟨p, o, f, m, g, s⟩) = true := decide_eq_true hF
      rw [if_pos hF] at hS
      have hN1 : NoErr l (k + 1) := fun j hj => by
        rcases Nat.lt_or_ge j k with h | h
        · exact hN j h
        · rw [show j = k by omega]; exact hS
      clear hS hF hk0
      go_wp2_with (go_at_call 32; refine (elemCheck_any _ _ _ _ _ _ _).mono ?_; rintro e w1 ⟨rfl, hb1⟩)
      have hx := (hb1.block (k := wr.heap.size) (by simp)).trans (heap_new wr _)
      obtain ⟨x0, x1, x2, x3, x4, x5, hxs⟩ := row6 hx
      have hv := ((Calm.refl wr).alloc _).call hb1
      have hv1 := hu.call hv
      have hb2 : b < w1.heap.size := Nat.lt_of_lt_of_le hb hv.size
      have hvc := hv.facts.1
      replace d0 := (hvc _ _ hb).trans d0; replace d1 := (hvc _ _ hb).trans d1; replace d2 := (hvc _ _ hb).trans d2; replace d3 := (hvc _ _ hb).trans d3; replace d4 := (hvc _ _ hb).trans d4; replace d5 := (hvc _ _ hb).trans d5
      clear hvc hv hb1 hx c0 c1 c2 c3 c4 c5 b1 hL
      have F : ∀ u, Calls Tryd.prog 44 #[.agg #[.int .i64 p', .int .i64 o', .int .i64 f', .int .i64 m', .int .i64 g', .string s'], .agg #[.int .i64 p, .int .i64 o, .int .i64 f, .int .i64 m, .int .i64 g, .string s]] u fun e w' => e = .returned (.bool true) ∧ Calm u w' := fun u => by
        rw [← b2]; exact follows_any p' o' f' m' g' s' p o f m g s u
      clear b2
      have z0 : 0 < k := hk1
      have z1 : IntKind.i64.wrap ((k : Int) - 1) = (k : Int) - 1 := IntWalk.i64_in _ (by omega)
      have z2 : ((k : Int) - 1).toNat = k - 1 := by omega
      have z3 : 0 ≤ (k : Int) - 1 := by omega
      have z4 : (k : Int) - 1 < l.length := by omega
      have z5 : 1 ≤ (k : Int) := by omega
      refine wp_region_plan [.val (.int .i64 k), .val (.bool true), .val (.bool true), .val (.slice (some ⟨b, q, none⟩) l.length c), .val (.int .i64 k), .val (.int .i64 (k - 1)), .val (.pointer (some ⟨b, q + (k - 1) * 6, none⟩)), .val (.agg #[.int .i64 p', .int .i64 o', .int .i64 f', .int .i64 m', .int .i64 g', .string s']), .val (.agg #[.int .i64 p, .int .i64 o, .int .i64 f, .int .i64 m, .int .i64 g, .string s]), .val (.bool true), .val (.bool false), .val (.bool false)] (by kernel_rfl) (by kernel_rfl) (by kernel_rfl) ?_
      intro X
      iterate 12
        refine plan_val (by kernel_rfl) (fun u hu => ?_) ?_
        · obtain ⟨hc, hf, hz⟩ := hu.of_drew.facts
          go_simp
          all_goals first
            | (go_at_call 44; exact F _)
        simp only [Act.put, List.setIfInBounds_toArray, List.set_cons_zero, List.set_cons_succ, Nat.reduceAdd]
      refine plan_end ?_
      intro w' hB
      have hk := hB.calm.of_drew
      clear hB z0 z1 z2 z3 z4 z5
      go_wp2_with fail
      go_roundw
      case rel => exact ⟨k + 1, by omega, by go_num, hv1.call hk, hN1⟩
      case measure => simp [intOf]; omega
    · have b2 : decide (Fol ⟨p', o', f', m', g', s'⟩ ⟨p, o, f, m, g, s⟩) = false := decide_eq_false hF
      rw [if_neg hF] at hS
      have K : Hid (3 = runErr l) := hS.symm.trans (runErr_at hbig hN (by rw [hS]; decide) hlt)
      clear hS hF hk0
      go_wp2_with (go_at_call 32; refine (elemCheck_any _ _ _ _ _ _ _).mono ?_; rintro e w1 ⟨rfl, hb1⟩)
      have hx := (hb1.block (k := wr.heap.size) (by simp)).trans (heap_new wr _)
      obtain ⟨x0, x1, x2, x3, x4, x5, hxs⟩ := row6 hx
      have hv := ((Calm.refl wr).alloc _).call hb1
      have hv1 := hu.call hv
      have hb2 : b < w1.heap.size := Nat.lt_of_lt_of_le hb hv.size
      have hvc := hv.facts.1
      replace d0 := (hvc _ _ hb).trans d0; replace d1 := (hvc _ _ hb).trans d1; replace d2 := (hvc _ _ hb).trans d2; replace d3 := (hvc _ _ hb).trans d3; replace d4 := (hvc _ _ hb).trans d4; replace d5 := (hvc _ _ hb).trans d5
      clear hvc hv hb1 hx c0 c1 c2 c3 c4 c5 b1 hL
      have F : ∀ u, Calls Tryd.prog 44 #[.agg #[.int .i64 p', .int .i64 o', .int .i64 f', .int .i64 m', .int .i64 g', .string s'], .agg #[.int .i64 p, .int .i64 o, .int .i64 f, .int .i64 m, .int .i64 g, .string s]] u fun e w' => e = .returned (.bool false) ∧ Calm u w' := fun u => by
        rw [← b2]; exact follows_any p' o' f' m' g' s' p o f m g s u
      clear b2
      have z0 : 0 < k := hk1
      have z1 : IntKind.i64.wrap ((k : Int) - 1) = (k : Int) - 1 := IntWalk.i64_in _ (by omega)
      have z2 : ((k : Int) - 1).toNat = k - 1 := by omega
      have z3 : 0 ≤ (k : Int) - 1 := by omega
      have z4 : (k : Int) - 1 < l.length := by omega
      have z5 : 1 ≤ (k : Int) := by omega
      refine wp_region_plan [.val (.int .i64 k), .val (.bool true), .val (.bool true), .val (.slice (some ⟨b, q, none⟩) l.length c), .val (.int .i64 k), .val (.int .i64 (k - 1)), .val (.pointer (some ⟨b, q + (k - 1) * 6, none⟩)), .val (.agg #[.int .i64 p', .int .i64 o', .int .i64 f', .int .i64 m', .int .i64 g', .string s']), .val (.agg #[.int .i64 p, .int .i64 o, .int .i64 f, .int .i64 m, .int .i64 g, .string s]), .val (.bool false), .val (.bool true), .val (.bool true)] (by kernel_rfl) (by kernel_rfl) (by kernel_rfl) ?_
      intro X
      iterate 12
        refine plan_val (by kernel_rfl) (fun u hu => ?_) ?_
        · obtain ⟨hc, hf, hz⟩ := hu.of_drew.facts
          go_simp
          all_goals first
            | (go_at_call 44; exact F _)
        simp only [Act.put, List.setIfInBounds_toArray, List.set_cons_zero, List.set_cons_succ, Nat.reduceAdd]
      refine plan_end ?_
      intro w' hB
      have hk := hB.calm.of_drew
      clear hB z0 z1 z2 z3 z4 z5
      go_wp2_with fail
      go_ret
      exact ⟨ret_int K.out, hv1.call hk⟩
set_option maxHeartbeats 4000000 in
theorem runLast_any (A : Option Addr) (c : Nat) (l : List El) (w : World) (hn : l.length ≤ 9223372036854775807) (hL : Lies w A l) :
    Calls Tryd.prog 31 #[.slice A l.length c] w fun e w' => e = .returned (.tuple #[.int .i64 (if runErr l = 0 then latest l else 0), .int .i64 (runErr l)]) ∧ Calm w w' := by
  by_cases he : runErr l = 0
  rotate_left
  · have b1 : (runErr l != 0) = true := by simpa using he
    rw [if_neg he]
    clear he
    go_enter Tryd.func31, Tryd.ntmps31
    go_wp2_with (go_at_call 29; refine (runCheck_any _ _ _ _ hn hL).mono ?_; rintro e w1 ⟨rfl, hb1⟩)
    go_ret2
    exact ⟨rfl, hb1⟩
  have b1 : (runErr l != 0) = false := by simpa using he
  rw [if_pos he]
  have HE : Hid (runErr l = 0) := he
  clear he
  go_enter Tryd.func31, Tryd.ntmps31
  go_wp2_with (go_at_call 29; refine (runCheck_any _ _ _ _ hn hL).mono ?_; rintro e w1 ⟨rfl, hb1⟩)
  go_loopw [5, 15] (fun t i wr => ∃ k : Nat, k ≤ l.length ∧ i = .int .i64 k ∧ t = .int .i64 (latest (l.take k)) ∧ Calm w wr) (fun _ i _ => l.length - (intOf i).toNat)
  case atStart => exact ⟨0, Nat.zero_le _, rfl, rfl, hb1⟩
  case round =>
    obtain ⟨k, hk, rfl, rfl, hu⟩ := hrel
    by_cases hlt : k < l.length
    rotate_left
    · have K : Hid (latest (l.take k) = latest l) := by show _ = _; rw [List.take_of_length_le (by omega)]
      go_wp2_with fail
      go_ret2
      exact ⟨by rw [HE.out]; first | rfl | (rw [← K.out]; rfl), hu⟩
    obtain ⟨b, q, p, o, f, m, g, s, rfl, hb, HE, hm, c0, c1, c2, c3, c4, c5⟩ := (hL.calm hu).get hlt
    have K : Hid (latest (l.take (k + 1)) = if latest (l.take k) < lastOf m g then lastOf m g else latest (l.take k)) := by
      show _ = _
      rw [latest_take hlt, (List.getElem?_eq_some_iff.1 HE.out).2]
      rfl
    generalize latest (l.take k) = t0 at K ⊢
    go_wp2_with (go_at_call 46; refine (last_any _ _ _ _ _ _ _).mono ?_; rintro e w1 ⟨rfl, hb1⟩)
    go_roundw
    case rel => exact ⟨k + 1, by omega, by go_num, by first | (rw [K.out]; done) | (rw [K.out]; congr 1; rw [Int.max_def]; split <;> split <;> omega), (hu.alloc _).call hb1⟩
    case measure => simp [intOf]; omega
open Go.RowKit
theorem decide_gt (p o f m p' o' f' m' : Int) : decide (0 < scmp p o f m p' o' f' m') = decide (sLt (p', o', f') m' (p, o, f) m) := by
 rw [Bool.eq_iff_iff, decide_eq_true_eq, decide_eq_true_eq]
 have h := scmp_sLt (a := ⟨p, o, f, m, 0, ByteArray.empty⟩) (b := ⟨p', o', f', m', 0, ByteArray.empty⟩)
 simp only [El.key] at h
 have h0 : scmp p o f m p' o' f' m' = 0 ↔ (p, o, f) = (p', o', f') ∧ m = m' := by rw [scmp_eq, kcmp_key]
 rcases scmp_or p o f m p' o' f' m' with h1 | h1 | h1
 ·rw [h1]
  constructor
  ·intro h2; omega
  ·intro h2; exact absurd (h.1 h1) (sLt_asymm h2)
 ·rw [h1]
  obtain ⟨e1, e2⟩ := h0.1 h1
  rw [e1, e2]
  constructor
  ·intro h2; omega
  ·intro h2; exact absurd h2 (sLt_irrefl _ _)
 ·rw [h1]
  constructor
  ·intro _
   rcases sLt_tri (p, o, f) m (p', o', f') m' with h2 | h2 | h2
   ·rw [h.2 h2] at h1; omega
   ·rw [h0.2 h2] at h1; omega
   ·exact h2
  ·intro _; omega
set_option maxHeartbeats 4000000 in
theorem after1_any (B1 B2 : Nat) (A : Option Addr) (c : Nat) (l : List El) (p' o' f' m' : Int) (i : Nat) (w : World) (hi : i < l.length) (hL : Lies w A l)
    (hx : w.heap[B1]? = some (.cells #[.slice A l.length c] 22 (0, 0))) (hy : w.heap[B2]? = some (.cells #[.int .i64 p', .int .i64 o', .int .i64 f', .int .i64 m'] 59 (0, 0))) :
    Calls Tryd.prog 37 #[.int .i64 i, .pointer (some ⟨B1, 0, none⟩), .pointer (some ⟨B2, 0, none⟩)] w fun e w' => e = .returned (.bool (decide (sLt (p', o', f') m' l[i].key l[i].m))) ∧ Calm w w' := by
  obtain ⟨b, q, p, o, f, m, g, s, rfl, hb, HE, hm, c0, c1, c2, c3, c4, c5⟩ := hL.get hi
  have hK : Hid (decide (0 < scmp p o f m p' o' f' m') = decide (sLt (p', o', f') m' l[i].key l[i].m)) := by
    rw [(List.getElem?_eq_some_iff.1 HE.out).2]; exact decide_gt _ _ _ _ _ _ _ _
  generalize decide (sLt (p', o', f') m' l[i].key l[i].m) = r at hK ⊢
  clear hL HE
  have x0 := cell_of_row _ _ 0 _ _ _ hx
  simp only [List.getElem?_toArray, List.getElem?_cons_zero] at x0
  have hxs := (Array.getElem?_eq_some_iff.1 hx).1
  obtain ⟨y0, y1, y2, y3, hys⟩ := row4 hy
  have hiz : (i : Int) < (l.length : Int) := by omega
  generalize l.length = n at *
  clear hx hy
  go_enter Tryd.func37, Tryd.ntmps37
  go_wp2_with fail
  refine wp_region_plan [.val (.slice (some ⟨b, q, none⟩) n c), .val (.int .i64 i), .val (.pointer (some ⟨b, q + i * 6, none⟩)), .val (.agg #[.int .i64 p, .int .i64 o, .int .i64 f, .int .i64 m, .int .i64 g, .string s]), .val (.agg #[.int .i64 p, .int .i64 o, .int .i64 f, .int .i64 m]), .val (.agg #[.int .i64 p', .int .i64 o', .int .i64 f', .int .i64 m']), .val (.int .i64 (scmp p o f m p' o' f' m')), .val (.bool (decide (0 < scmp p o f m p' o' f' m'))), .val (.bool (decide (0 < scmp p o f m p' o' f' m')))] (by kernel_rfl) (by kernel_rfl) (by kernel_rfl) ?_
  intro X
  iterate 9
    refine plan_val (by kernel_rfl) (fun u hu => ?_) ?_
    · obtain ⟨hc, hf, hz⟩ := hu.of_drew.facts
      go_simp
      all_goals first
        | (go_at_call 23; exact spot_any _ _ _ _ _ _ _)
        | (go_at_call 38; exact cmpSpot_any _ _ _ _ _ _ _ _ _)
    simp only [Act.put, List.setIfInBounds_toArray, List.set_cons_zero, List.set_cons_succ, Nat.reduceAdd]
  refine plan_end ?_
  intro w' hB
  have hk := hB.calm.of_drew
  clear hB
  go_wp2_with fail
  go_ret
  exact ⟨ret_bool hK.out, hk⟩
def Boxes (B1 B2 : Nat) (A : Option Addr) (n c : Nat) (p' o' f' m' : Int) (w : World) : Prop :=
 w.heap[B1]? = some (.cells #[.slice A n c] 22 (0, 0)) ∧ w.heap[B2]? = some (.cells #[.int .i64 p', .int .i64 o', .int .i64 f', .int .i64 m'] 59 (0, 0))
theorem Boxes.calm {B1 B2 : Nat} {A : Option Addr} {n c : Nat} {p' o' f' m' : Int} {w w' : World} (h : Boxes B1 B2 A n c p' o' f' m' w) (hb : Calm w w') : Boxes B1 B2 A n c p' o' f' m' w' :=
 ⟨(hb.block (Array.getElem?_eq_some_iff.1 h.1).1).trans h.1, (hb.block (Array.getElem?_eq_some_iff.1 h.2).1).trans h.2⟩
set_option maxHeartbeats 4000000 in
theorem search_any (B1 B2 : Nat) (A : Option Addr) (c : Nat) (l : List El) (p' o' f' m' : Int) (w : World) (hn : l.length ≤ 400) (hL : Lies w A l) (hS : l.Pairwise Fol) (hB : Boxes B1 B2 A l.length c p' o' f' m' w) :
    Calls Tryd.prog 36 #[.int .i64 l.length, .func (.func 37) #[] #[.pointer (some ⟨B1, 0, none⟩), .pointer (some ⟨B2, 0, none⟩)]] w fun e w' => e = .returned (.int .i64 (pos l (p', o', f') m')) ∧ Calm w w' := by
  have C : ∀ (u : World) (i : Nat) (r : Bool) (h : i < l.length), Calm w u → decide (sLt (p', o', f') m' l[i].key l[i].m) = r →
      Calls Tryd.prog 37 (#[.int .i64 i] ++ #[.pointer (some ⟨B1, 0, none⟩), .pointer (some ⟨B2, 0, none⟩)]) u fun e w' => e = .returned (.bool r) ∧ Calm u w' := fun u i r h hu hr => by
    rw [← hr]; exact after1_any B1 B2 A c l p' o' f' m' i u h (hL.calm hu) (hB.calm hu).1 (hB.calm hu).2
  have M : ∀ i j (hi : i < l.length) (hj : j < l.length), i ≤ j → sLt (p', o', f') m' l[i].key l[i].m → sLt (p', o', f') m' l[j].key l[j].m := fun i j hi hj hij h => by
    rcases Nat.lt_or_eq_of_le hij with h1 | h1
    · exact sLt_trans h (List.pairwise_iff_getElem.1 hS i j hi hj h1).1
    · subst h1; exact h
  clear hL hB hS
  go_enter Tryd.func36, Tryd.ntmps36
  go_wp2_with fail
  go_loopg [5, 6] l.length (fun kx s5 s6 wr => ∃ lo hi : Nat, s5 = .int .i64 lo ∧ s6 = .int .i64 hi ∧ lo ≤ hi ∧ hi ≤ l.length ∧ hi - lo ≤ kx ∧ Calm w wr ∧
    Hid ((∀ t (h : t < l.length), t < lo → ¬ sLt (p', o', f') m' l[t].key l[t].m) ∧ (∀ t (h : t < l.length), hi ≤ t → sLt (p', o', f') m' l[t].key l[t].m)))
  case atStart => exact ⟨0, l.length, rfl, rfl, Nat.zero_le _, Nat.le_refl _, by omega, Calm.refl _, show _ ∧ _ from ⟨fun t h ht => absurd ht (Nat.not_lt_zero _), fun t h1 h2 => by omega⟩⟩
  case round =>
    obtain ⟨lo, hi, rfl, rfl, hlh, hin, hg, hu, I⟩ := hrel
    by_cases hlt : lo < hi
    · have hmid : (lo + hi) / 2 < l.length := by omega
      cases hp : decide (sLt (p', o', f') m' l[(lo + hi) / 2].key l[(lo + hi) / 2].m)
      · have hc := C wr ((lo + hi) / 2) false hmid hu hp
        rw [show (((lo + hi) / 2 : Nat) : Int) = ((lo : Int) + (hi : Int)) / 2 by omega] at hc
        have I2 : Hid ((∀ t (h : t < l.length), t < (lo + hi) / 2 + 1 → ¬ sLt (p', o', f') m' l[t].key l[t].m) ∧ (∀ t (h : t < l.length), hi ≤ t → sLt (p', o', f') m' l[t].key l[t].m)) := show _ ∧ _ from
          ⟨fun t h ht h2 => absurd (M t _ h hmid (by omega) h2) (of_decide_eq_false hp), I.out.2⟩
        clear hp C
        go_wp2_with (go_at_call 37; refine hc.mono ?_; rintro e w1 ⟨rfl, hb1⟩)
        go_roundg (hi - ((lo + hi) / 2 + 1))
        case measure => omega
        case rel => exact ⟨(lo + hi) / 2 + 1, hi, by rw [show ((lo : Int) + (hi : Int)) / 2 + 1 = (((lo + hi) / 2 + 1 : Nat) : Int) by omega], rfl, by omega, hin, Nat.le_refl _, hu.call hb1, I2⟩
      · have hc := C wr ((lo + hi) / 2) true hmid hu hp
        rw [show (((lo + hi) / 2 : Nat) : Int) = ((lo : Int) + (hi : Int)) / 2 by omega] at hc
        have I2 : Hid ((∀ t (h : t < l.length), t < lo → ¬ sLt (p', o', f') m' l[t].key l[t].m) ∧ (∀ t (h : t < l.length), (lo + hi) / 2 ≤ t → sLt (p', o', f') m' l[t].key l[t].m)) := show _ ∧ _ from
          ⟨I.out.1, fun t h ht => M _ t hmid h ht (of_decide_eq_true hp)⟩
        clear hp C
        go_wp2_with (go_at_call 37; refine hc.mono ?_; rintro e w1 ⟨rfl, hb1⟩)
        go_roundg ((lo + hi) / 2 - lo)
        case measure => omega
        case rel => exact ⟨lo, (lo + hi) / 2, rfl, by rw [show ((lo : Int) + (hi : Int)) / 2 = (((lo + hi) / 2 : Nat) : Int) by omega], by omega, by omega, Nat.le_refl _, hu.call hb1, I2⟩
    · obtain rfl : hi = lo := by omega
      have K : Hid (pos l (p', o', f') m' = hi) := pos_part hin (fun i h hi' => I.out.1 i h hi') (fun i h hi' => I.out.2 i h hi')
      clear C
      go_wp2_with fail
      go_ret
      exact ⟨by rw [K.out]; rfl, hu⟩
open Go.RowKit
def Keeps (base : Nat) (w w' : World) : Prop := ∀ w0 : World, w0.heap.size ≤ base → Calm w0 w → Calm w0 w'
def OwnEnd (base : Nat) (l : List El) (w : World) (e : Ending) (w' : World) : Prop := ∃ v, e = .returned v ∧ OwnR base w' v l ∧ Keeps base w w'
theorem infoElem6s : (Tryd.prog.info? 49).map (·.size) = some 6 := by kernel_rfl
def spl (cur : List Value) (o : Nat) (cs : List Value) : List Value := cur.take o ++ cs ++ cur.drop (o + cs.length)
/-- copy(d, s) of records, into a row. -/
theorem run_copy_el (w : World) (ty : TypeId) (g o dLen dCap : Nat) (a : Addr) (sLen sCap : Nat) (cur : List Value) (t : TypeId) (cs : List Value)
    (hg : w.heap[g]? = some (.cells cur.toArray t (0, 0))) (hn : cs.length = Nat.min sLen dLen * 6)
    (hsrc : ∀ j v, cs[j]? = some v → w.cell? (a.add j) = some v) (hfit : o + cs.length ≤ cur.length) (h1 : ∀ v ∈ cs, v.oneCell' = true) :
    (Builtin.copy_ #[22, 22] ty #[.slice (some ⟨g, o, none⟩) dLen dCap, .slice (some a) sLen sCap]).run Tryd.prog w =
      .ok (goInt (Nat.min sLen dLen)) (w.setRow g (spl cur o cs).toArray) := by
  have hl := run_loadCells_list (P := Tryd.prog) w a cs hsrc
  have hst := run_storeCells_at Tryd.prog g o t cs 0 cur.toArray w hg (by simpa using hfit) h1
  have hs := infoElem6s
  cases hq : Tryd.prog.info? 49 with
  | none => simp [hq] at hs
  | some i =>
    have hi : i.size = 6 := by simpa [hq] using hs
    simp [Builtin.copy_, run_underlying Tryd.underlying22, Builtin.lenOf, Builtin.firstCells, sizeOf, typeInfo, hq, hi, ← hn, hl, hst, spl]
/-- A copy whose run is known, as an operation of a plain region and of one that draws. -/
theorem wpList_copy_known {P : Program} {w : World} {ops : Array Oper} {rest : List Oper} {o : Oper} {a : Act} {Q : Exit → Act → World → Prop} (hgd : o.guard = none) (d s : Operand) (t : TypeId)
    (ho : o.op = .call { callee := .builtin .copy, args := #[d, s], argTypes := #[t, t] }) (v u : Value) (hd : a.eval d = v) (hs : a.eval s = u) {v' : Value} {w' : World}
    (hr : (Builtin.copy_ #[t, t] o.type #[v, u]).run P w = .ok v' w') (h : wpList P ops Q rest (a.put o.dst v') w') : wpList P ops Q (o :: rest) a w :=
  wpList_plain hgd fun _ hK => by
    unfold Oper.wp execOp
    simp only [ho, resolve, invoke, builtin, Sem.run_bind, Sem.run_pure, Result.andThen_ok, List.map_toArray, List.map_cons, List.map_nil, hd, hs, hr]
    exact hK _ _ h
theorem step_copy_known {P : Program} {ops : Array Oper} {o : Oper} {a : Act} {w : World} {K : Act → World → Prop} {Q : Exit → Act → World → Prop} {E : Prop}
    (hg : o.guard = none) (d x : Operand) (t : TypeId) (hop : o.op = Op.call { callee := Callee.builtin Builtin.copy, args := #[d, x], argTypes := #[t, t] })
    (v u : Value) (hd : a.eval d = v) (hx : a.eval x = u) {v' : Value} {w' : World} (hr : (Builtin.copy_ #[t, t] o.type #[v, u]).run P w = .ok v' w') (hK : K (a.put o.dst v') w') :
    if Region.wanted o (yielded ops a.tmps) = true then Oper.wp P o a w K Q else E := by
  have hw : Region.wanted o (yielded ops a.tmps) = true := by simp [Region.wanted, hg]
  rw [if_pos hw]
  unfold Oper.wp
  simp only [execOp, hop, resolve, invoke, builtin, Sem.run_bind, Sem.run_pure, Result.andThen_ok, List.map_toArray, List.map_cons, List.map_nil, hd, hx, hr]
  exact hK
theorem Lies.cells {w : World} {b q : Nat} {l : List El} (h : Lies w (some ⟨b, q, none⟩) l) : ∀ j v, (cellsOf l)[j]? = some v → w.cell? ⟨b, q + j, none⟩ = some v := fun j v hj => by
 have hlt : j < l.length * 6 := by rw [← cellsOf_len]; exact (List.getElem?_eq_some_iff.1 hj).1
 have hk : j / 6 < l.length := by omega
 have hel := List.getElem?_eq_getElem hk
 obtain ⟨b', q', hA, _, hat⟩ := h.2 (by omega)
 injection hA with hA
 injection hA with h1 h2
 subst h1; subst h2
 have h6 := hat _ _ hel
 rw [show j = j / 6 * 6 + j % 6 by omega, cellsOf_at l (j / 6) (j % 6) _ hel (by omega)] at hj
 have hm : j % 6 < 6 := by omega
 obtain ⟨h0, h1, h2, h3, h4, h5⟩ := h6
 rw [show q + j = q + j / 6 * 6 + j % 6 by omega]
 rcases (by omega : j % 6 = 0 ∨ j % 6 = 1 ∨ j % 6 = 2 ∨ j % 6 = 3 ∨ j % 6 = 4 ∨ j % 6 = 5) with e | e | e | e | e | e <;> rw [e] at hj ⊢ <;> simp [El.cells] at hj <;> subst hj <;> assumption
set_option maxHeartbeats 4000000 in
theorem clone_any (A : Option Addr) (c : Nat) (l : List El) (w : World) (hn : l.length ≤ 400) (hL : Lies w A l) :
    Calls Tryd.prog 20 #[.slice A l.length c] w fun e w' => ∃ v, e = .returned v ∧ OwnR w.heap.size w' v l ∧ Calm w w' := by
  rcases A with _ | ⟨b, q, sp⟩
  · have h0 : l = [] := by
      rcases Nat.eq_zero_or_pos l.length with h | h
      · exact List.eq_nil_of_length_eq_zero h
      · obtain ⟨_, _, h1, _⟩ := hL.2 h; cases h1
    subst h0
    have q22 : ∀ (w : World) (n c n' c' : Nat), (binOp .eql 22 (.slice none n c) (.slice none n' c')).run Tryd.prog w = .ok (.bool true) w := fun w n c n' c' => Lib.run_eql_slice_nil w _ _ none n c n' c' Tryd.underlying22
    go_enter Tryd.func20, Tryd.ntmps20
    go_wp2_with fail
    go_ret
    exact ⟨_, rfl, OwnR.nil _ _, Calm.refl _⟩
  · obtain ⟨i0, hi, hz0, hz1, hz2⟩ := info_parts infoElem
    have q22 : ∀ (w : World) (a : Addr) (n c n' c' : Nat), (binOp .eql 22 (.slice (some a) n c) (.slice none n' c')).run Tryd.prog w = .ok (.bool false) w := fun w a n c n' c' => Lib.run_eql_slice_nil w _ _ (some a) n c n' c' Tryd.underlying22
    have hsrc : Hid (∀ j v, (cellsOf l)[j]? = some v → (w.alloc (.cells #[] 49)).cell? ((⟨b, q, sp⟩ : Addr).add j) = some v) := show ∀ _, _ from fun j v hj => by
      have hlt : j < l.length * 6 := by rw [← cellsOf_len]; exact (List.getElem?_eq_some_iff.1 hj).1
      obtain ⟨b', q', hA, hb, _⟩ := hL.2 (by omega)
      injection hA with hA
      injection hA with h1 h2 h3
      subst h1; subst h2; subst h3
      have := hL.cells j v hj
      have e : (⟨b, q, none⟩ : Addr).add j = ⟨b, q + j, none⟩ := by unfold Addr.add; split <;> simp_all
      rw [e, World.cell?_alloc_lt _ _ _ hb]; exact this
    have hlen : (cellsOf l).length = l.length * 6 := cellsOf_len l
    have HLEN := Lib.hid hlen
    have hone : Hid (∀ u ∈ cellsOf l, u.oneCell' = true) := cellsOf_one l
    have hbig : l.length * 56 ≤ 140737488355328 := by omega
    have hmax : l.length ≤ maxLen := by unfold maxLen; omega
    clear hlen hL
    go_enter Tryd.func20, Tryd.ntmps20
    go_wp2_with (at_builtin; refine wpList_append_own _ rfl _ _ 22 rfl w.heap.size 49 i0 _ 6 56 Tryd.underlying22 hi hz0 hz1 hz2 rfl (by decide) _ _ _ rfl (World.ownsRow_made w #[] 0 (Nat.le_refl _) (Nat.zero_le _) (by simp)) ⟨b, q, sp⟩ l.length c (cellsOf l) rfl HLEN.out hsrc.out hone.out (by rw [Nat.zero_add]; exact hmax) (by rw [Nat.zero_add]; exact hbig) (by simp) ?_; intro v' w1 hown hgrow _)
    have hO : OwnR w.heap.size w1 v' l := by unfold OwnR; simpa using hown
    have hC : Calm w w1 := Below.grown ((Calm.refl w).alloc _) hgrow (by simp) (by intro k hk; cases hk; exact Nat.le_refl _)
    clear hown hgrow
    go_wp2_with fail
    go_ret
    exact ⟨_, rfl, hO, hC⟩
theorem insAt_len {l : List El} {i : Nat} (e : El) (hi : i ≤ l.length) : (insAt l i e).length = l.length + 1 := by
 unfold insAt; rw [List.length_append, List.length_cons, List.length_take, List.length_drop]; omega
theorem cellsOf_app (a b : List El) : cellsOf (a ++ b) = cellsOf a ++ cellsOf b := by unfold cellsOf; simp
theorem cellsOf_take {l : List El} {i : Nat} (hi : i ≤ l.length) : (cellsOf l).take (i * 6) = cellsOf (l.take i) := by
 have h := cellsOf_app (l.take i) (l.drop i)
 rw [List.take_append_drop] at h
 rw [h]
 exact List.take_left' (by rw [cellsOf_len, List.length_take]; congr 1; omega)
theorem cellsOf_drop {l : List El} {i : Nat} (hi : i ≤ l.length) : (cellsOf l).drop (i * 6) = cellsOf (l.drop i) := by
 have h := cellsOf_app (l.take i) (l.drop i)
 rw [List.take_append_drop] at h
 rw [h]
 exact List.drop_left' (by rw [cellsOf_len, List.length_take]; congr 1; omega)
theorem cellsOf_ins (l : List El) (i : Nat) (e : El) : cellsOf (insAt l i e) = cellsOf (l.take i) ++ e.cells ++ cellsOf (l.drop i) := by
 unfold insAt; rw [cellsOf_app, List.append_assoc]; rfl
theorem spl_mid (a x c y : List Value) (h : x.length = y.length) (o : Nat) (ho : o = a.length) : spl (a ++ x ++ c) o y = a ++ y ++ c := by
 subst ho
 have e1 : (a ++ x ++ c).take a.length = a := by rw [List.append_assoc]; exact List.take_left' rfl
 have e2 : (a ++ x ++ c).drop (a.length + y.length) = c := List.drop_left' (by rw [List.length_append, h])
 unfold spl
 rw [e1, e2]
theorem parts {cur : List Value} {l : List El} {i : Nat} (hc : cur.take (l.length * 6) = cellsOf l) (hs : (l.length + 1) * 6 ≤ cur.length) :
    ∃ d r, cur = cellsOf (l.take i) ++ cellsOf (l.drop i) ++ d ++ r ∧ d.length = 6 ∧ r = cur.drop ((l.length + 1) * 6) := by
  refine ⟨(cur.drop (l.length * 6)).take 6, cur.drop ((l.length + 1) * 6), ?_, ?_, rfl⟩
  · rw [← cellsOf_app, List.take_append_drop, ← hc, List.append_assoc]
    have h1 : (cur.drop (l.length * 6)).drop 6 = cur.drop ((l.length + 1) * 6) := by rw [List.drop_drop]; congr 1; omega
    rw [← h1, List.take_append_drop, List.take_append_drop]
  · rw [List.length_take, List.length_drop]; omega
theorem row_shift {cur : List Value} {l : List El} {i : Nat} (e : El) (hi : i ≤ l.length) (hc : cur.take (l.length * 6) = cellsOf l) (hs : (l.length + 1) * 6 ≤ cur.length) :
    spl (spl cur ((i + 1) * 6) (cellsOf (l.drop i))) (i * 6) e.cells = cellsOf (insAt l i e) ++ cur.drop ((l.length + 1) * 6) := by
  obtain ⟨d, r, hcur, hd, hr⟩ := parts (i := i) hc hs
  have hl1 : (cellsOf (l.take i)).length = i * 6 := by rw [cellsOf_len, List.length_take]; congr 1; omega
  have hl2 : (cellsOf (l.drop i)).length = (l.length - i) * 6 := by rw [cellsOf_len, List.length_drop]
  rw [← hr]
  obtain ⟨x, y, hxy, hx⟩ : ∃ x y, cellsOf (l.drop i) ++ d = x ++ y ∧ x.length = 6 := ⟨(cellsOf (l.drop i) ++ d).take 6, (cellsOf (l.drop i) ++ d).drop 6, (List.take_append_drop _ _).symm, by rw [List.length_take, List.length_append]; omega⟩
  have hy : y.length = (cellsOf (l.drop i)).length := by
    have := congrArg List.length hxy
    rw [List.length_append, List.length_append] at this; omega
  have h1 : cur = (cellsOf (l.take i) ++ x) ++ y ++ r := by
    rw [hcur, List.append_assoc (cellsOf (l.take i)), hxy]; simp
  have h2 : spl cur ((i + 1) * 6) (cellsOf (l.drop i)) = (cellsOf (l.take i) ++ x) ++ cellsOf (l.drop i) ++ r := by
    rw [h1]
    exact spl_mid _ _ _ _ hy _ (by rw [List.length_append, hl1, hx]; omega)
  rw [h2, cellsOf_ins]
  have h3 := spl_mid (cellsOf (l.take i)) x (cellsOf (l.drop i) ++ r) e.cells (by rw [hx]; rfl) (i * 6) hl1.symm
  rw [show (cellsOf (l.take i) ++ x) ++ cellsOf (l.drop i) ++ r = cellsOf (l.take i) ++ x ++ (cellsOf (l.drop i) ++ r) by simp, h3]
  simp
theorem row_fresh {cur : List Value} {l : List El} {i : Nat} (e : El) (hi : i ≤ l.length) (hc : cur.take (i * 6) = cellsOf (l.take i)) (hs : (l.length + 1) * 6 ≤ cur.length) :
    spl (spl cur (i * 6) e.cells) ((i + 1) * 6) (cellsOf (l.drop i)) = cellsOf (insAt l i e) ++ cur.drop ((l.length + 1) * 6) := by
  have hl1 : (cellsOf (l.take i)).length = i * 6 := by rw [cellsOf_len, List.length_take]; congr 1; omega
  have hl2 : (cellsOf (l.drop i)).length = (l.length - i) * 6 := by rw [cellsOf_len, List.length_drop]
  obtain ⟨x, y, hxy, hx, hy⟩ : ∃ x y, cur = cellsOf (l.take i) ++ x ++ y ++ cur.drop ((l.length + 1) * 6) ∧ x.length = 6 ∧ y.length = (cellsOf (l.drop i)).length := by
    refine ⟨(cur.drop (i * 6)).take 6, ((cur.drop (i * 6)).drop 6).take ((l.length - i) * 6), ?_, ?_, ?_⟩
    · rw [← hc]
      have h1 : cur.drop ((l.length + 1) * 6) = ((cur.drop (i * 6)).drop 6).drop ((l.length - i) * 6) := by rw [List.drop_drop, List.drop_drop]; congr 1; omega
      rw [h1, List.append_assoc, List.take_append_drop, List.append_assoc, List.take_append_drop, List.take_append_drop]
    · rw [List.length_take, List.length_drop]; omega
    · rw [List.length_take, List.length_drop, List.length_drop, hl2]; omega
  generalize cur.drop ((l.length + 1) * 6) = r at hxy ⊢
  rw [hxy, cellsOf_ins]
  have h2 := spl_mid (cellsOf (l.take i)) x (y ++ r) e.cells (by rw [hx]; rfl) (i * 6) hl1.symm
  rw [show cellsOf (l.take i) ++ x ++ y ++ r = cellsOf (l.take i) ++ x ++ (y ++ r) by simp, h2]
  have h3 := spl_mid (cellsOf (l.take i) ++ e.cells) y r (cellsOf (l.drop i)) hy ((i + 1) * 6) (by rw [List.length_append, hl1]; show _ = _ + 6; omega)
  rw [show cellsOf (l.take i) ++ e.cells ++ (y ++ r) = cellsOf (l.take i) ++ e.cells ++ y ++ r by simp, h3]
/-- A row whose first cells are those of l, in a block from base on. -/
theorem OwnR.row {base g cap : Nat} {w : World} {l : List El} {cur : List Value} (hb : base ≤ g) (hg : w.heap[g]? = some (.cells cur.toArray 49 (0, 0))) (hn : l.length ≤ cap) (hc : cap ≤ maxLen) (hs : cur.length = cap * 6) (ht : cur.take (l.length * 6) = cellsOf l) :
    OwnR base w (.slice (some ⟨g, 0, none⟩) l.length cap) l :=
  ⟨cellsOf_len l, .inr ⟨g, cap, cur.toArray, rfl, hb, hg, hn, hc, by simpa using hs, by simpa using ht⟩⟩
theorem spl_len {cur cs : List Value} {o : Nat} (h : o + cs.length ≤ cur.length) : (spl cur o cs).length = cur.length := by
 unfold spl; simp only [List.length_append, List.length_take, List.length_drop]; omega
theorem cellsOf_set : ∀ {l : List El} {i j : Nat} {u : Value} {x : El} (hi : i < l.length) (_ : j < 6) (_ : x.cells = l[i].cells.set j u), (cellsOf l).set (i * 6 + j) u = cellsOf (l.set i x)
 | [], _, _, _, _, hi, _, _ => absurd hi (by simp)
 |y :: l, 0, j, u, x, hi, hj, hx => by
  show (y.cells ++ cellsOf l).set (0 * 6 + j) u = x.cells ++ cellsOf l
  rw [Nat.zero_mul, Nat.zero_add, List.set_append_left _ _ (by rw [cells_len]; exact hj), hx]
  rfl
 |y :: l, i + 1, j, u, x, hi, hj, hx => by
  show (y.cells ++ cellsOf l).set ((i + 1) * 6 + j) u = y.cells ++ cellsOf (l.set i x)
  rw [List.set_append_right _ _ (by rw [cells_len]; omega), cells_len, show (i + 1) * 6 + j - 6 = i * 6 + j by omega]
  congr 1
  exact cellsOf_set (l := l) (i := i) (by simpa using hi) hj hx
/-- One field of a record is stored in an owned row. -/
theorem OwnR.set {base g n cap i j : Nat} {w : World} {l : List El} {u : Value} {x : El} (h : OwnR base w (.slice (some ⟨g, 0, none⟩) n cap) l) (hi : i < l.length) (hj : j < 6) (hx : x.cells = l[i].cells.set j u) :
    OwnR base (w.setCell ⟨g, i * 6 + j, none⟩ u) (.slice (some ⟨g, 0, none⟩) n cap) (l.set i x) := by
  have hn : n = l.length := by
    rcases h.2 with ⟨h1, _⟩ | ⟨g', cap', cur, h1, _⟩
    · cases h1
    · injection h1
  subst hn
  have h1 := (World.ownsRow.stored h (i * 6 + j) u).1
  unfold OwnR
  rw [List.length_set, ← cellsOf_set hi hj hx]
  exact h1
theorem OwnR.cell {base g n cap i : Nat} {w : World} {l : List El} (h : OwnR base w (.slice (some ⟨g, 0, none⟩) n cap) l) (hi : i < l.length) : ElAt w g (i * 6) l[i] ∧ (∀ j, w.frozen? ⟨g, j, none⟩ = false) ∧ base ≤ g ∧ g < w.heap.size ∧ n = l.length ∧ n ≤ cap := by
 have hn : n = l.length ∧ n ≤ cap := by
  rcases h.2 with ⟨h1, _⟩ | ⟨g', cap', cur, h1, _, _, h2, _⟩
  ·cases h1
  ·injection h1 with h3 h4 h5
   exact ⟨h4, by omega⟩
 obtain ⟨hn, hnc⟩ := hn
 subst hn
 have key : ∀ j, j < 6 → w.cell? ⟨g, i * 6 + j, none⟩ = l[i].cells[j]? := fun j hj => by
  rw [World.ownsRow.cellAt h (i * 6 + j) (by omega), cellsOf_at l i j _ (List.getElem?_eq_getElem hi) hj]
 have hlt := h.lt g rfl
 exact ⟨⟨key 0 (by omega), key 1 (by omega), key 2 (by omega), key 3 (by omega), key 4 (by omega), key 5 (by omega)⟩, fun j => World.ownsRow.frozenAt h j, hlt.1, hlt.2, rfl, hnc⟩
theorem OwnR.some {base : Nat} {w : World} {v : Value} {l : List El} (h : OwnR base w v l) (hl : 0 < l.length) : ∃ g cap, v = .slice (some ⟨g, 0, none⟩) l.length cap := by
 rcases h.2 with ⟨_, h1⟩ | ⟨g', cap', cur, h1, _⟩
 ·omega
 ·exact ⟨g', cap', h1⟩
theorem OwnR.reads {base n c : Nat} {A : Option Addr} {w : World} {l : List El} (h : OwnR base w (.slice A n c) l) (hw : ∀ e ∈ l, e.wf) : n = l.length ∧ Lies w A l := by
 obtain ⟨A', c', hv, _, _, hL⟩ := h.lies hw
 injection hv with h1 h2 h3
 subst h1
 exact ⟨h2, hL⟩
theorem Good.wf {l : List El} (h : Good l) : ∀ e ∈ l, e.wf := fun e he => by
 have := mem_bounds h he
 unfold El.wf; omega
open Go.RowKit
theorem ret_u16 {a b : Int} (h : a = b) : Ending.returned (.int .u16 a) = .returned (.int .u16 b) := by rw [h]
set_option maxHeartbeats 1000000 in
theorem shift_any (r : BitVec 16) (w : World) : Calls Tryd.prog 43 #[.int .u16 (r.toNat : Int)] w fun e w' => e = .returned (.int .u16 ((shB r).toNat : Int)) ∧ w = w' := by
 have hr := r.isLt
 by_cases h : 32768 ≤ r.toNat
 ·have H := Lib.hid (shB_top r h)
  generalize (shB r).toNat = z at H ⊢
  generalize r.toNat = n at *
  have b1 : ((n : Int) / 32768 == 1) = true := by rw [beq_iff_eq]; omega
  go_enter Tryd.func43, Tryd.ntmps43
  go_wp2
  go_ret
  refine ⟨ret_u16 ?_, rfl⟩
  rw [H.out, IntKind.wrap_u16, ← Go.u16_xor_nat _ _ (Nat.mod_lt _ (by decide)) (by decide)]
  congr 1
 ·have H := Lib.hid (shB_low r (by omega))
  generalize (shB r).toNat = z at H ⊢
  generalize r.toNat = n at *
  have b1 : ((n : Int) / 32768 == 1) = false := by rw [beq_eq_false_iff_ne]; omega
  go_enter Tryd.func43, Tryd.ntmps43
  go_wp2
  go_ret
  refine ⟨ret_u16 ?_, rfl⟩
  rw [H.out]
  omega
theorem shN_succ (n : Nat) (a : BitVec 16) : shN (n + 1) a = shB (shN n a) := (shB_shN n a).symm
theorem take_snoc (s : ByteArray) (k : Nat) (h : k < s.size) : s.data.toList.take (k + 1) = s.data.toList.take k ++ [s[k]] := by
 rw [List.take_succ_eq_append_getElem (by simpa using h)]; rfl
theorem byte_in (r : BitVec 16) (c : UInt8) : bits .xor .u16 (r.toNat : Int) ((c.toNat : Int) * 256) = ((r ^^^ (BitVec.ofNat 16 c.toNat <<< 8)).toNat : Int) := by
 have hc := c.toNat_lt
 have hr := r.isLt
 rw [stp_in, ← Go.u16_xor_nat _ _ hr (by omega)]
 congr 1
set_option maxHeartbeats 1000000 in
theorem sumOf_any (s : ByteArray) (w : World) (hs : s.size ≤ maxLen) : Calls Tryd.prog 28 #[.string s] w fun e w' => e = .returned (.int .i64 ((crc s.data.toList).toNat : Int)) ∧ w = w' := by
 unfold maxLen at hs
 go_enter Tryd.func28, Tryd.ntmps28
 go_wp2
 go_loop [3, 7] (fun r i => ∃ k : Nat, k ≤ s.size ∧ i = .int .i64 k ∧ r = .int .u16 ((crc (s.data.toList.take k)).toNat)) (fun _ i => s.size - (intOf i).toNat)
 case atStart => exact ⟨0, Nat.zero_le _, rfl, rfl⟩
 case round =>
  obtain ⟨k, hk, rfl, rfl⟩ := hrel
  have hr := (crc (s.data.toList.take k)).isLt
  by_cases hlt : k < s.size
  ·have hts := Lib.hid (take_snoc s k hlt)
   have hc := s[k].toNat_lt
   go_wp2
   go_loop [3, 17] (fun r i => ∃ j : Nat, j ≤ 8 ∧ i = .int .i64 j ∧ r = .int .u16 ((shN j (crc (s.data.toList.take k) ^^^ (BitVec.ofNat 16 s[k].toNat <<< 8))).toNat)) (fun _ i => 8 - (intOf i).toNat)
   case atStart => exact ⟨0, Nat.zero_le _, rfl, by rw [byte_in]; rfl⟩
   case round =>
    obtain ⟨j, hj, rfl, rfl⟩ := hrel
    have hr2 := (shN j (crc (s.data.toList.take k) ^^^ (BitVec.ofNat 16 s[k].toNat <<< 8))).isLt
    have hsu := Lib.hid (shN_succ j (crc (s.data.toList.take k) ^^^ (BitVec.ofNat 16 s[k].toNat <<< 8)))
    by_cases hj8 : j < 8
    ·go_wp2_with (go_at_call 43; refine (shift_any _ _).mono ?_; rintro e w1 ⟨rfl, rfl⟩)
     go_round
     case rel => exact ⟨j + 1, by omega, by go_num, by rw [hsu.out]⟩
     case measure => simp [intOf]; omega
    ·obtain rfl : 8 = j := by omega
     go_wp2
     go_round
     case rel => exact ⟨k + 1, by omega, by go_num, by rw [hts.out, crc_snoc]; rfl⟩
     case measure => simp [intOf]; omega
  ·go_wp2
   go_ret
   exact ⟨ret_int (by rw [List.take_of_length_le (by simp; omega)]), rfl⟩
open Go.ChangeShapes Go.WideShapes Go.ChangeAt Go.RowKit
def nameC (b : UInt8) : Bool := decide (33 ≤ b.toNat ∧ b.toNat ≤ 126 ∧ b.toNat ≠ 47 ∧ b.toNat ≠ 64)
def nameLen (s : ByteArray) : Prop := 1 ≤ s.size ∧ s.size ≤ 12 ∧ s ≠ { data := #[46] } ∧ s ≠ { data := #[46, 46] }
instance (s : ByteArray) : Decidable (nameLen s) := by unfold nameLen; infer_instance
def nameOk (s : ByteArray) : Bool := decide (nameLen s) && s.data.toList.all nameC
def slotN (s : ByteArray) : Int := 1000000 + 8 * ((crc s.data.toList).toNat % 1000 : Int)
theorem slotN_bounds (s : ByteArray) : 1000000 ≤ slotN s ∧ slotN s ≤ 1007992 := by unfold slotN; omega
theorem isObj_any (n : Int) (w : World) : Calls Tryd.prog 9 #[.int .i64 n] w fun e w' => e = .returned (.bool (decide (0 ≤ n ∧ n ≤ 1048576))) ∧ w = w' := by
 by_cases h0 : 0 ≤ n
 ·by_cases h1 : n ≤ 1048576
  ·rw [decide_eq_true ⟨h0, h1⟩]
   go_enter Tryd.func9, Tryd.ntmps9
   go_wp2_with fail
   go_ret
   exact ⟨rfl, rfl⟩
  ·rw [decide_eq_false (fun h => h1 h.2)]
   go_enter Tryd.func9, Tryd.ntmps9
   go_wp2_with fail
   go_ret
   exact ⟨rfl, rfl⟩
 ·rw [decide_eq_false (fun h => h0 h.1)]
  go_enter Tryd.func9, Tryd.ntmps9
  go_wp2_with fail
  go_ret
  exact ⟨rfl, rfl⟩
theorem slot_any (s : ByteArray) (w : World) (hs : s.size ≤ maxLen) : Calls Tryd.prog 16 #[.string s] w fun e w' => e = .returned (.int .i64 (slotN s)) ∧ w = w' := by
 have cS := sumOf_any s w hs
 have hb := (crc s.data.toList).isLt
 unfold slotN
 generalize (crc s.data.toList).toNat = c at cS hb ⊢
 go_enter Tryd.func16, Tryd.ntmps16
 go_wp2_with (go_at_call 28; (with_reducible refine cS.mono ?_); rintro e w1 ⟨rfl, rfl⟩)
 go_ret
 exact ⟨ret_int (by go_num), rfl⟩
open Go.ChangeShapes Go.WideShapes Go.ChangeAt Go.RowKit
theorem str_neL {s : ByteArray} {l : List UInt8} (h : s ≠ { data := l.toArray }) : (s.toList == l) = false := by
 cases e : s.toList == l
 ·rfl
 ·exfalso
  rw [beq_iff_eq, ByteArray.toList_eq] at e
  exact h (ByteArray.ext (Array.toList_inj.1 (by simpa using e)))
theorem nameOk_bad {s : ByteArray} (h : ¬ nameLen s) : nameOk s = false := by unfold nameOk; rw [decide_eq_false h]; rfl
set_option maxHeartbeats 1000000 in
theorem dirName_any (s : ByteArray) (w : World) (hs : s.size ≤ maxLen) : Calls Tryd.prog 15 #[.string s] w fun e w' => e = .returned (.bool (nameOk s)) ∧ w = w' := by
 unfold maxLen at hs
 by_cases hl : nameLen s
 rotate_left
 ·rw [nameOk_bad hl]
  by_cases h1 : 1 ≤ s.size
  ·by_cases h2 : s.size ≤ 12
   ·by_cases h3 : s = { data := #[46] }
    ·subst h3
     go_enter Tryd.func15, Tryd.ntmps15
     go_wp2_with fail
     go_ret
     exact ⟨rfl, rfl⟩
    ·have h4 : s = { data := #[46, 46] } := Decidable.byContradiction fun h => hl ⟨h1, h2, h3, h⟩
     subst h4
     go_enter Tryd.func15, Tryd.ntmps15
     go_wp2_with fail
     go_ret
     exact ⟨rfl, rfl⟩
   ·clear hl
    go_enter Tryd.func15, Tryd.ntmps15
    go_wp2_with fail
    go_ret
    exact ⟨rfl, rfl⟩
  ·clear hl
   go_enter Tryd.func15, Tryd.ntmps15
   go_wp2_with fail
   go_ret
   exact ⟨rfl, rfl⟩
 have hN : nameOk s = s.data.toList.all nameC := by unfold nameOk; rw [decide_eq_true hl]; rfl
 have HN := Lib.hid hN
 obtain ⟨h1, h2, h3, h4⟩ := hl
 have b3 : (s.toList == [46]) = false := str_neL h3
 have b4 : (s.toList == [46, 46]) = false := str_neL h4
 clear hN
 generalize nameOk s = r at HN ⊢
 go_enter Tryd.func15, Tryd.ntmps15
 go_wp2_with fail
 go_loop [22] (fun i => ∃ k : Nat, k ≤ s.size ∧ i = .int .i64 k ∧ Hid (∀ j (hj : j < s.size), j < k → nameC s[j] = true)) (fun i => s.size - (intOf i).toNat)
 case atStart => exact ⟨0, Nat.zero_le _, rfl, show ∀ _, _ from fun j _ hj => absurd hj (Nat.not_lt_zero _)⟩
 case round =>
  obtain ⟨k, hk, rfl, HK⟩ := hrel
  by_cases hlt : k < s.size
  rotate_left
  ·have hT : r = true := by
    rw [HN.out, List.all_eq_true]
    intro b hb
    obtain ⟨j, hj, rfl⟩ := List.getElem_of_mem hb
    rw [Array.length_toList] at hj
    have := HK.out j hj (by have : j < s.size := hj; omega)
    rw [Array.getElem_toList]
    exact this
   subst hT
   clear HK HN
   go_wp2_with fail
   go_ret
   exact ⟨rfl, rfl⟩
  have hc := s[k].toNat_lt
  by_cases hb : nameC s[k] = true
  ·have HK2 : Hid (∀ j (hj : j < s.size), j < k + 1 → nameC s[j] = true) := show ∀ _, _ from fun j hj h => by
    rcases Nat.lt_or_ge j k with h5 | h5
    ·exact HK.out j hj h5
    ·obtain rfl : j = k := by omega
     exact hb
   simp only [nameC, decide_eq_true_eq] at hb
   obtain ⟨c1, c2, c3, c4⟩ := hb
   have e3 : (((s[k].toNat : Nat) : Int) == 47) = false := by simp; omega
   have e4 : (((s[k].toNat : Nat) : Int) == 64) = false := by simp; omega
   clear HK
   go_wp2_with fail
   go_round
   case rel => exact ⟨k + 1, by omega, by go_num, HK2⟩
   case measure => simp [intOf]; omega
  ·have hF : r = false := by
    rw [HN.out, List.all_eq_false]
    exact ⟨s[k], by
     show s.data[k] ∈ s.data.toList
     exact Array.getElem_mem_toList .., hb⟩
   subst hF
   simp only [nameC, decide_eq_true_eq] at hb
   have hb2 : s[k].toNat < 33 ∨ (33 ≤ s[k].toNat ∧ 126 < s[k].toNat) ∨ (33 ≤ s[k].toNat ∧ s[k].toNat ≤ 126 ∧ s[k].toNat = 47) ∨ (33 ≤ s[k].toNat ∧ s[k].toNat ≤ 126 ∧ s[k].toNat ≠ 47 ∧ s[k].toNat = 64) := by
    omega
   clear hb HK HN
   rcases hb2 with c1 | ⟨c1, c2⟩ | ⟨c1, c2, c3⟩ | ⟨c1, c2, c4, c3⟩
   ·go_wp2_with fail
    go_ret
    exact ⟨rfl, rfl⟩
   ·go_wp2_with fail
    go_ret
    exact ⟨rfl, rfl⟩
   ·have e3 : (((s[k].toNat : Nat) : Int) == 47) = true := by simp; omega
    go_wp2_with fail
    go_ret
    exact ⟨rfl, rfl⟩
   ·have e3 : (((s[k].toNat : Nat) : Int) == 47) = false := by simp; omega
    have e4 : (((s[k].toNat : Nat) : Int) == 64) = true := by simp; omega
    go_wp2_with fail
    go_ret
    exact ⟨rfl, rfl⟩
open Go.ChangeShapes Go.WideShapes Go.ChangeAt Go.RowKit
def ItoaTab (w : World) : Prop := Lib.TabIs Tryd.prog w "internal/strconv.uint64pow10" .u64 Lib.pow10Tab
def itoaB (n : Int) : ByteArray := ⟨(Lib.itoa n).toArray⟩
def textB (n : Int) (s : ByteArray) : ByteArray := itoaB n ++ { data := #[58] } ++ s
theorem calm_grow (w : World) (k : Nat) (os : Array Obj) : Calm w (Sort.grow (w.drewN k) os) := by
 refine Below.trans (b := w.drewN k) ((Calm.refl w).drewN k) ?_
 refine ⟨rfl, rfl, rfl, ?_, fun j hj => ?_⟩
 ·simp [Sort.grow, World.drewN]
 ·simp only [Sort.grow]
  exact Array.getElem?_append_left (by simpa [World.drewN] using hj)
theorem dec_len : ∀ (k n : Nat), n < 10 ^ (k + 1) → (Lib.decDigits n).length ≤ k + 1
 | 0, n, h => by rw [Lib.decDigits, dif_pos (by omega)]; simp
 |k + 1, n, h => by
  rw [Lib.decDigits]
  split
  ·simp
  ·rw [List.length_append, List.length_singleton]
   have := dec_len k (n / 10) (by
    rw [Nat.div_lt_iff_lt_mul (by decide)]
    rw [Nat.pow_succ] at h
    exact h)
   omega
theorem itoa_len {n : Int} (h0 : 0 ≤ n) (h1 : n ≤ 1048576) : (itoaB n).size ≤ 7 := by
 have h := dec_len 6 n.toNat (by omega)
 have e : (Lib.itoa n) = Lib.decDigits n.toNat := by unfold Lib.itoa; rw [if_neg (by omega)]
 unfold itoaB
 show (Lib.itoa n).toArray.size ≤ 7
 rw [e, List.size_toArray]
 exact h
theorem text_any (s : ByteArray) (n : Int) (w : World) (hs : s.size ≤ 1000000) (h0 : 0 ≤ n) (h1 : n ≤ 1048576) (hT : ItoaTab w) : Calls Tryd.prog 12 #[.string s, .int .i64 n] w fun e w' => e = .returned (.string (textB n s)) ∧ Calm w w' := by
 have cI := Tryd.strconv_Itoa n (by omega) (by omega) w hT
 have hl := itoa_len h0 h1
 unfold textB
 have e9 : (⟨(Lib.itoa n).toArray⟩ : ByteArray) = itoaB n := rfl
 rw [e9] at cI
 generalize itoaB n = D at *
 go_enter Tryd.func12, Tryd.ntmps12
 go_wp2_with (go_at_call 24; (with_reducible refine cI.mono ?_); rintro e w1 ⟨rfl, kk, os, hw⟩; have hk := hw ▸ calm_grow w kk os; clear hw)
 go_ret
 exact ⟨rfl, hk⟩
open Go.ChangeShapes Go.WideShapes Go.ChangeAt Go.RowKit
structure DirW (w : World) : Prop where
 tab : ItoaTab w
 len : ∃ m : Int, w.cell? ⟨1, 0, none⟩ = some (.int .i64 m)
 syn : ∃ tp p, w.var? Tryd.prog "strconv.ErrSyntax" = some #[.iface tp p]
 rng : ∃ tp p, w.var? Tryd.prog "strconv.ErrRange" = some #[.iface tp p]
 size : 1 < w.heap.size
theorem var_calm {w w' : World} {n : String} {cs : Array Value} (hb : Calm w w') (h : w.var? Tryd.prog n = some cs) : w'.var? Tryd.prog n = some cs := by
 unfold World.var? at h ⊢
 cases hg : Tryd.prog.globalNamed n with
 |none => rw [hg] at h; exact h
 |some g =>
  rw [hg] at h
  simp only [Option.bind_some] at h ⊢
  have hlt : g < w.heap.size := by
   rcases Nat.lt_or_ge g w.heap.size with h1 | h1
   ·exact h1
   ·rw [Array.getElem?_eq_none h1] at h; simp at h
  rw [hb.block hlt]
  exact h
theorem DirW.calm {w w' : World} (h : DirW w) (hb : Calm w w') : DirW w' where
 tab := by have := h.tab; unfold ItoaTab Lib.TabIs at this ⊢; exact var_calm hb this
 len := by
  obtain ⟨m, hm⟩ := h.len
  exact ⟨m, (hb.facts.1 _ _ h.size).trans hm⟩
 syn := by obtain ⟨tp, p, h⟩ := h.syn; exact ⟨tp, p, var_calm hb h⟩
 rng := by obtain ⟨tp, p, h⟩ := h.rng; exact ⟨tp, p, var_calm hb h⟩
 size := Nat.lt_of_lt_of_le h.size hb.size
def digB (s : ByteArray) : ByteArray := ⟨(Lib.cut s.data.toList [58]).1.toArray⟩
def namB (s : ByteArray) : ByteArray := ⟨(Lib.cut s.data.toList [58]).2.1.toArray⟩
theorem cut_any (s : ByteArray) (w : World) (hs : s.size ≤ 40) (h : DirW w) : Calls Tryd.prog 41 #[.string s, .string { data := #[58] }] w fun e w' => (∃ b, e = .returned (.tuple #[.string (digB s), .string (namB s), .bool b])) ∧ Calm w w' := by
 obtain ⟨m, hm⟩ := h.len
 refine (Tryd.strings_Cut s { data := #[58] } m w (by omega) hm).mono fun e w' h2 => ?_
 obtain ⟨rfl, n, rfl⟩ := h2
 exact ⟨⟨_, rfl⟩, (Calm.refl w).drewN n⟩
theorem dig_size (s : ByteArray) : (digB s).size ≤ s.size := by
 unfold digB
 show (Lib.cut s.data.toList [58]).1.toArray.size ≤ _
 rw [List.size_toArray]
 have e : s.size = s.data.toList.length := by rw [Array.length_toList]; rfl
 unfold Lib.cut
 split
 ·simp only [List.length_take]; omega
 ·simp only; omega
theorem nam_size (s : ByteArray) : (namB s).size ≤ s.size := by
 unfold namB
 show (Lib.cut s.data.toList [58]).2.1.toArray.size ≤ _
 rw [List.size_toArray]
 have e : s.size = s.data.toList.length := by rw [Array.length_toList]; rfl
 unfold Lib.cut
 split
 ·simp only [List.length_drop]; omega
 ·simp
def atoiV (s : ByteArray) : Option Int := match Lib.atoiAll s.data.toList with | .ok v => some v | _ => none
theorem atoi_some (s : ByteArray) (v : Int) (w : World) (hs : s.size ≤ 40) (h : atoiV s = some v) : Calls Tryd.prog 42 #[.string s] w fun e w' => e = .returned (.tuple #[.int .i64 v, .nilIface]) ∧ Calm w w' := by
 unfold atoiV at h
 rcases ha : Lib.atoiAll s.data.toList with v' | _ | _
 ·rw [ha] at h
  injection h with h
  subst h
  refine (Tryd.strconv_Atoi_ok s (by omega) v' ha w).mono fun e w' h2 => ?_
  obtain ⟨rfl, h2⟩ := h2
  refine ⟨rfl, ?_⟩
  rcases h2 with rfl | ⟨t, rfl⟩
  ·exact Calm.refl _
  ·exact Lib.bytesWorld_below w _ t
 ·rw [ha] at h; cases h
 ·rw [ha] at h; cases h
theorem atoi_none (s : ByteArray) (w : World) (hs : s.size ≤ 40) (hD : DirW w) (h : atoiV s = none) : Calls Tryd.prog 42 #[.string s] w fun e w' => (∃ (n : Int) (t : TypeId) (N : Nat), e = .returned (.tuple #[.int .i64 n, .iface t (.pointer (some ⟨N, 0, none⟩))])) ∧ Calm w w' := by
 unfold atoiV at h
 rcases ha : Lib.atoiAll s.data.toList with v' | _ | _
 ·rw [ha] at h; cases h
 ·obtain ⟨tp, p, hv⟩ := hD.syn
  have h9 : Calls Tryd.prog 42 #[.string s] w fun e w' => ∃ N, e = .returned (.tuple #[.int .i64 0, .iface 105 (.pointer (some ⟨N, 0, none⟩))]) ∧ w.heap.size ≤ N ∧ w'.heap[N]? = some (.cells #[.string ⟨#[65, 116, 111, 105]⟩, .string s, .iface tp p] 119 (0, 0)) ∧ Below w.heap.size w w' := Any.strconv_Atoi_syntax_var Tryd.laysC172 s (by omega) ha tp p w hv
  refine h9.mono fun e w' h2 => ?_
  obtain ⟨N, h1, _, _, h4⟩ := h2
  exact ⟨⟨_, _, N, h1⟩, h4⟩
 ·obtain ⟨tp, p, hv⟩ := hD.rng
  have h9 : Calls Tryd.prog 42 #[.string s] w fun e w' => ∃ N, e = .returned (.tuple #[.int .i64 (Lib.atoiSat s.data.toList), .iface 105 (.pointer (some ⟨N, 0, none⟩))]) ∧ w.heap.size ≤ N ∧ w'.heap[N]? = some (.cells #[.string ⟨#[65, 116, 111, 105]⟩, .string s, .iface tp p] 119 (0, 0)) ∧ Below w.heap.size w w' := Any.strconv_Atoi_range_var Tryd.laysC172 s (by omega) ha tp p w hv
  refine h9.mono fun e w' h2 => ?_
  obtain ⟨N, h1, _, _, h4⟩ := h2
  exact ⟨⟨_, _, N, h1⟩, h4⟩
def prsOk (f : Int) (s : ByteArray) (v : Int) : Prop := (0 ≤ v ∧ v ≤ 1048576) ∧ nameOk (namB s) = true ∧ textB v (namB s) = s ∧ slotN (namB s) ≤ f ∧ f < slotN (namB s) + 8
instance (f : Int) (s : ByteArray) (v : Int) : Decidable (prsOk f s v) := by unfold prsOk; infer_instance
def parseV (f : Int) (s : ByteArray) : Option Int := match atoiV (digB s) with
 |some v => if prsOk f s v then some v else none
 |none => none
open Go.ChangeShapes Go.WideShapes Go.ChangeAt Go.RowKit
theorem ent_two (w : World) (o o' : Obj) : ((w.alloc o).alloc o').heap[w.heap.size + 1]? = some o' := by simpa using heap_new (w.alloc o) o'
theorem row6K {w : World} {g t : Nat} {a b c d x y : Value} {fr : Nat × Nat} (h : w.heap[g]? = some (.cells #[a, b, c, d, x, y] t fr)) : w.cell? ⟨g, 0, none⟩ = some a ∧ w.cell? ⟨g, 1, none⟩ = some b ∧ w.cell? ⟨g, 2, none⟩ = some c ∧ w.cell? ⟨g, 5, none⟩ = some y ∧ g < w.heap.size :=
 ⟨cell_of_row _ _ 0 _ _ _ h, cell_of_row _ _ 1 _ _ _ h, cell_of_row _ _ 2 _ _ _ h, cell_of_row _ _ 5 _ _ _ h, (Array.getElem?_eq_some_iff.1 h).1⟩
theorem row5D {w : World} {g t : Nat} {a b c d x : Value} {fr : Nat × Nat} (h : w.heap[g]? = some (.cells #[a, b, c, d, x] t fr)) : w.cell? ⟨g, 0, none⟩ = some a ∧ w.cell? ⟨g, 1, none⟩ = some b ∧ w.cell? ⟨g, 2, none⟩ = some c ∧ w.cell? ⟨g, 3, none⟩ = some d ∧ w.cell? ⟨g, 4, none⟩ = some x ∧ g < w.heap.size :=
 ⟨cell_of_row _ _ 0 _ _ _ h, cell_of_row _ _ 1 _ _ _ h, cell_of_row _ _ 2 _ _ _ h, cell_of_row _ _ 3 _ _ _ h, cell_of_row _ _ 4 _ _ _ h, (Array.getElem?_eq_some_iff.1 h).1⟩
theorem free5D {w : World} {g t : Nat} {cs : Array Value} (h : w.heap[g]? = some (.cells cs t (0, 0))) : w.frozen? ⟨g, 0, none⟩ = false ∧ w.frozen? ⟨g, 1, none⟩ = false ∧ w.frozen? ⟨g, 2, none⟩ = false ∧ w.frozen? ⟨g, 3, none⟩ = false ∧ w.frozen? ⟨g, 4, none⟩ = false :=
 ⟨frozen_of_row _ _ _ _ _ h, frozen_of_row _ _ _ _ _ h, frozen_of_row _ _ _ _ _ h, frozen_of_row _ _ _ _ _ h, frozen_of_row _ _ _ _ _ h⟩
def World.fiveD (w : World) (g : Nat) (b0 b1 b2 b3 b4 : Value) : World := ((((w.setCell ⟨g, 0, none⟩ b0).setCell ⟨g, 1, none⟩ b1).setCell ⟨g, 2, none⟩ b2).setCell ⟨g, 3, none⟩ b3).setCell ⟨g, 4, none⟩ b4
theorem set5D {w : World} {g t : Nat} {a0 a1 a2 a3 a4 : Value} (h : w.heap[g]? = some (.cells #[a0, a1, a2, a3, a4] t (0, 0))) (b0 b1 b2 b3 b4 : Value) : (World.fiveD w g b0 b1 b2 b3 b4).heap[g]? = some (.cells #[b0, b1, b2, b3, b4] t (0, 0)) := by
 have h1 := heap_setCell_same w g 0 _ t b0 h
 have h2 := heap_setCell_same _ g 1 _ t b1 h1
 have h3 := heap_setCell_same _ g 2 _ t b2 h2
 have h4 := heap_setCell_same _ g 3 _ t b3 h3
 exact heap_setCell_same _ g 4 _ t b4 h4
theorem Calm.fiveD {a w : World} (h : Calm a w) {g : Nat} (hg : a.heap.size ≤ g) (b0 b1 b2 b3 b4 : Value) : Calm a (World.fiveD w g b0 b1 b2 b3 b4) :=
 ((((h.setCell (p := ⟨g, 0, none⟩) hg b0).setCell (p := ⟨g, 1, none⟩) hg b1).setCell (p := ⟨g, 2, none⟩) hg b2).setCell (p := ⟨g, 3, none⟩) hg b3).setCell (p := ⟨g, 4, none⟩) hg b4
theorem str_neL2 {s s' : ByteArray} (h : s ≠ s') : (s.toList == s'.toList) = false := by
 cases e : s.toList == s'.toList
 ·rfl
 ·exfalso
  rw [beq_iff_eq, ByteArray.toList_eq, ByteArray.toList_eq] at e
  exact h (ByteArray.ext (Array.toList_inj.1 e))
theorem infoEnt : (Tryd.prog.info? 34).map (·.size) = some 5 := by kernel_rfl
theorem results_ent {fn : Func} {p q : Tmp} (h : fn.results = #[.cell p 34, .tmp q]) (tmps : Array Value) (w : World) (g : Nat) (t : TypeId) (cs : Array Value) (v : Value) (fr : Nat × Nat)
    (hp : tmps.getD p undef = .pointer (some ⟨g, 0, none⟩)) (hq : tmps.getD q undef = v) (hg : w.heap[g]? = some (.cells cs t fr)) (hsz : cs.size = 5) :
    (results fn tmps).run Tryd.prog w = .ok (.tuple #[.agg cs, v]) w := by
  have hp' : tmps[p]?.getD undef = .pointer (some ⟨g, 0, none⟩) := by simpa using hp
  have hq' : tmps[q]?.getD undef = v := by simpa using hq
  have hi : (Tryd.prog.info? 34).map (·.size) = some cs.size := by rw [hsz]; exact infoEnt
  simp [results, h, hp', hq', asAddr, run_loadVar_row w g t 34 cs fr _ hg Tryd.underlying34 rfl hi]
theorem end_ent {P : Program} {fn : Func} {p q : Tmp} {Q : Ending → World → Prop} (hP : P = Tryd.prog) (h : fn.results = #[.cell p 34, .tmp q]) (a : Act) (w : World) (g : Nat) (t : TypeId) (cs : Array Value) (v : Value) (fr : Nat × Nat) (hd : a.defers = [])
    (hp : a.tmps.getD p undef = .pointer (some ⟨g, 0, none⟩)) (hq : a.tmps.getD q undef = v) (hg : w.heap[g]? = some (.cells cs t fr)) (hsz : cs.size = 5) (hQ : Q (.returned (.tuple #[.agg cs, v])) w) : bodyPost P fn Q .ret a w := by
  subst hP
  exact bodyPost_ret (v := .tuple #[.agg cs, v]) (results_ent h a.tmps w g t cs v fr hp hq hg hsz) hd hQ
def PrEnd (p o f : Int) (s : ByteArray) (w : World) (e : Ending) (w' : World) : Prop := e = .returned (match parseV f s with
 |some v => .tuple #[.agg #[.int .i64 p, .int .i64 o, .int .i64 f, .string (namB s), .int .i64 v], .bool true]
 |none => .tuple #[.agg #[.int .i64 0, .int .i64 0, .int .i64 0, .string { data := #[] }, .int .i64 0], .bool false]) ∧ Calm w w'
theorem PrEnd.no {p o f : Int} {s : ByteArray} {w : World} {e : Ending} {w' : World} (h : parseV f s = none) (h1 : e = .returned (.tuple #[.agg #[.int .i64 0, .int .i64 0, .int .i64 0, .string { data := #[] }, .int .i64 0], .bool false])) (h2 : Calm w w') : PrEnd p o f s w e w' := by
 unfold PrEnd; rw [h]; exact ⟨h1, h2⟩
theorem PrEnd.yes {p o f v : Int} {s : ByteArray} {w : World} {e : Ending} {w' : World} (h : parseV f s = some v) (h1 : e = .returned (.tuple #[.agg #[.int .i64 p, .int .i64 o, .int .i64 f, .string (namB s), .int .i64 v], .bool true])) (h2 : Calm w w') : PrEnd p o f s w e w' := by
 unfold PrEnd; rw [h]; exact ⟨h1, h2⟩
set_option maxHeartbeats 8000000 in
theorem dirParse_any (p o f m g : Int) (s : ByteArray) (w : World) (hs : s.size ≤ 40) (hD : DirW w) : Calls Tryd.prog 27 #[.agg #[.int .i64 p, .int .i64 o, .int .i64 f, .int .i64 m, .int .i64 g, .string s]] w (PrEnd p o f s w) := by
 have cCut := fun u (hu : Calm w u) => cut_any s u hs (hD.calm hu)
 have hds : (digB s).size ≤ 40 := Nat.le_trans (dig_size s) hs
 have hns : (namB s).size ≤ 40 := Nat.le_trans (nam_size s) hs
 have cN := fun u => dirName_any (namB s) u (by unfold maxLen; omega)
 have cS := fun u => slot_any (namB s) u (by unfold maxLen; omega)
 have hsb := slotN_bounds (namB s)
 have hx := heap_past (.cells #[.int .i64 0, .int .i64 0, .int .i64 0, .string { data := #[] }, .int .i64 0] 34) (heap_new w (.cells #[.int .i64 p, .int .i64 o, .int .i64 f, .int .i64 m, .int .i64 g, .string s] 49))
 have hz : ((w.alloc (.cells #[.int .i64 p, .int .i64 o, .int .i64 f, .int .i64 m, .int .i64 g, .string s] 49)).alloc (.cells #[.int .i64 0, .int .i64 0, .int .i64 0, .string { data := #[] }, .int .i64 0] 34)).heap[w.heap.size + 1]? = some (.cells #[.int .i64 0, .int .i64 0, .int .i64 0, .string { data := #[] }, .int .i64 0] 34 (0, 0)) := ent_two w _ _
 have hu := ((Calm.refl w).alloc (.cells #[.int .i64 p, .int .i64 o, .int .i64 f, .int .i64 m, .int .i64 g, .string s] 49)).alloc (.cells #[.int .i64 0, .int .i64 0, .int .i64 0, .string { data := #[] }, .int .i64 0] 34)
 have hsz : ((w.alloc (.cells #[.int .i64 p, .int .i64 o, .int .i64 f, .int .i64 m, .int .i64 g, .string s] 49)).alloc (.cells #[.int .i64 0, .int .i64 0, .int .i64 0, .string { data := #[] }, .int .i64 0] 34)).heap.size = w.heap.size + 2 := by simp
 obtain ⟨Post, hPost⟩ : ∃ P, P = PrEnd p o f s w := ⟨_, rfl⟩
 rw [← hPost]
 have HPN : Hid (parseV f s = none → ∀ e w', e = .returned (.tuple #[.agg #[.int .i64 0, .int .i64 0, .int .i64 0, .string { data := #[] }, .int .i64 0], .bool false]) → Calm w w' → Post e w') := show _ → _ from fun h e w' h1 h2 => by rw [hPost]; exact PrEnd.no h h1 h2
 have HPY : Hid (∀ v, parseV f s = some v → ∀ e w', e = .returned (.tuple #[.agg #[.int .i64 p, .int .i64 o, .int .i64 f, .string (namB s), .int .i64 v], .bool true]) → Calm w w' → Post e w') := show ∀ _, _ from fun v h e w' h1 h2 => by rw [hPost]; exact PrEnd.yes h h1 h2
 clear hPost
 go_enter Tryd.func27, Tryd.ntmps27
 go_upto_region 1 with fail
 generalize ((w.alloc (.cells #[.int .i64 p, .int .i64 o, .int .i64 f, .int .i64 m, .int .i64 g, .string s] 49)).alloc (.cells #[.int .i64 0, .int .i64 0, .int .i64 0, .string { data := #[] }, .int .i64 0] 34)) = w2 at hx hz hu hsz ⊢
 have HX := Lib.hid hx
 have HZ := Lib.hid hz
 have hzl : w.heap.size + 1 < w2.heap.size := by omega
 have hxl : w.heap.size < w2.heap.size := by omega
 have x5 := (row6K hx).2.2.2.1
 clear hx hz hsz
 go_upto_region 2 with (go_at_call 41; (with_reducible refine (cCut _ hu).mono ?_); rintro e w3 ⟨⟨bb, rfl⟩, hb⟩; replace HX := Lib.hid ((hb.block hxl).trans HX.out); replace HZ := Lib.hid ((hb.block hzl).trans HZ.out); replace hxl := Nat.lt_of_lt_of_le hxl hb.size; replace hzl := Nat.lt_of_lt_of_le hzl hb.size; replace hu := hu.call hb; clear hb cCut)
 clear x5
 cases hA : atoiV (digB s) with
 |none =>
  have hP : parseV f s = none := by unfold parseV; rw [hA]
  have cA := fun u (hu : Calm w u) => atoi_none (digB s) u hds (hD.calm hu) hA
  clear hA
  generalize digB s = D at *
  generalize namB s = NM at *
  go_upto_region 4 with (go_at_call 42; (with_reducible refine (cA _ hu).mono ?_); rintro e w4 ⟨⟨n, t, N, rfl⟩, hb⟩; replace HX := Lib.hid ((hb.block hxl).trans HX.out); replace HZ := Lib.hid ((hb.block hzl).trans HZ.out); replace hxl := Nat.lt_of_lt_of_le hxl hb.size; replace hzl := Nat.lt_of_lt_of_le hzl hb.size; replace hu := hu.call hb; clear hb cA)
  obtain ⟨z0, z1, z2, z3, z4, zl⟩ := row5D HZ.out
  obtain ⟨q0, q1, q2, q3, q4⟩ := free5D HZ.out
  go_wp2_with fail
  (try simp only [Exit.inBlock, Exit.then])
  refine end_ent (p := 2) (q := 3) rfl rfl _ _ (w.heap.size + 1) _ #[.int .i64 0, .int .i64 0, .int .i64 0, .string { data := #[] }, .int .i64 0] _ _ rfl rfl rfl (set5D HZ.out _ _ _ _ _) rfl ?_
  exact HPN.out hP _ _ rfl (hu.fiveD (by omega) _ _ _ _ _)
 |some v =>
  have hP : parseV f s = if prsOk f s v then some v else none := by unfold parseV; rw [hA]
  have cA := fun u => atoi_some (digB s) v u hds hA
  clear hA
  have cO := fun u => isObj_any v u
  have hPN : ¬ prsOk f s v → parseV f s = none := fun h => by rw [hP, if_neg h]
  have hPY : prsOk f s v → parseV f s = some v := fun h => by rw [hP, if_pos h]
  clear hP
  have cT := fun u (hu : Calm w u) (h : 0 ≤ v ∧ v ≤ 1048576) => text_any (namB s) v u (by omega) h.1 h.2 (hD.calm hu).tab
  unfold prsOk at hPN hPY
  generalize digB s = D at *
  generalize namB s = NM at *
  generalize slotN NM = SL at *
  generalize parseV f s = PV at *
  generalize textB v NM = TX at *
  go_upto_region 3 with (go_at_call 42; (with_reducible refine (cA _).mono ?_); rintro e w4 ⟨rfl, hb⟩; replace HX := Lib.hid ((hb.block hxl).trans HX.out); replace HZ := Lib.hid ((hb.block hzl).trans HZ.out); replace hxl := Nat.lt_of_lt_of_le hxl hb.size; replace hzl := Nat.lt_of_lt_of_le hzl hb.size; replace hu := hu.call hb; clear hb cA)
  by_cases h1 : 0 ≤ v ∧ v ≤ 1048576
  rotate_left
  ·have hP := hPN (fun h => h1 h.1)
   rw [decide_eq_false h1] at cO
   clear hPN hPY
   go_upto_region 4 with (go_at_call 9; (with_reducible refine (cO _).mono ?_); rintro e w5 ⟨rfl, rfl⟩)
   obtain ⟨z0, z1, z2, z3, z4, zl⟩ := row5D HZ.out
   obtain ⟨q0, q1, q2, q3, q4⟩ := free5D HZ.out
   go_wp2_with fail
   (try simp only [Exit.inBlock, Exit.then])
   refine end_ent (p := 2) (q := 3) rfl rfl _ _ (w.heap.size + 1) _ #[.int .i64 0, .int .i64 0, .int .i64 0, .string { data := #[] }, .int .i64 0] _ _ rfl rfl rfl (set5D HZ.out _ _ _ _ _) rfl ?_
   exact HPN.out hP _ _ rfl (hu.fiveD (by omega) _ _ _ _ _)
  rw [decide_eq_true h1] at cO
  by_cases h2 : nameOk NM = true
  rotate_left
  ·have hP := hPN (fun h => h2 h.2.1)
   rw [Bool.not_eq_true] at h2
   rw [h2] at cN
   clear hPN hPY
   go_upto_region 4 with (first
    |(go_at_call 9; (with_reducible refine (cO _).mono ?_); rintro e w5 ⟨rfl, rfl⟩)
    |(go_at_call 15; (with_reducible refine (cN _).mono ?_); rintro e w5 ⟨rfl, rfl⟩))
   obtain ⟨z0, z1, z2, z3, z4, zl⟩ := row5D HZ.out
   obtain ⟨q0, q1, q2, q3, q4⟩ := free5D HZ.out
   go_wp2_with fail
   (try simp only [Exit.inBlock, Exit.then])
   refine end_ent (p := 2) (q := 3) rfl rfl _ _ (w.heap.size + 1) _ #[.int .i64 0, .int .i64 0, .int .i64 0, .string { data := #[] }, .int .i64 0] _ _ rfl rfl rfl (set5D HZ.out _ _ _ _ _) rfl ?_
   exact HPN.out hP _ _ rfl (hu.fiveD (by omega) _ _ _ _ _)
  rw [h2] at cN
  go_upto_region 5 with (first
   |(go_at_call 9; (with_reducible refine (cO _).mono ?_); rintro e w5 ⟨rfl, rfl⟩)
   |(go_at_call 15; (with_reducible refine (cN _).mono ?_); rintro e w5 ⟨rfl, rfl⟩))
  have HU := Lib.hid hu
  clear hu cO cN
  have x5 := (row6K HX.out).2.2.2.1
  by_cases h3 : TX = s
  rotate_left
  ·have hP := hPN (fun h => h3 h.2.2.1)
   have b1 : (TX.toList == s.toList) = false := str_neL2 h3
   clear hPN hPY
   refine wp_region_plan [.val (.string NM), .val (.int .i64 (v)), .val (.string TX), .val (.pointer (some ⟨w.heap.size, 5, none⟩)), .val (.string s), .val (.bool true)] (by kernel_rfl) (by kernel_rfl) (by kernel_rfl) ?_
   intro X
   iterate 6
    refine plan_val (by kernel_rfl) (fun u hu => ?_) ?_
    ·obtain ⟨hc, hf, hz⟩ := hu.of_drew.facts
     go_simp
     all_goals first
      |((go_at_call 12; (with_reducible exact cT _ (HU.out.call hu.of_drew) h1)))
      |((simp [b1]; done))
      |(omega)
      |((simp; done))
    simp only [Act.put, List.setIfInBounds_toArray, List.set_cons_zero, List.set_cons_succ, Nat.reduceAdd]
   refine plan_end ?_
   intro w' hB
   have hk := hB.calm.of_drew
   clear hB
   have hu := HU.out.call hk
   replace HX := Lib.hid ((hk.block hxl).trans HX.out)
   replace HZ := Lib.hid ((hk.block hzl).trans HZ.out)
   replace hzl := Nat.lt_of_lt_of_le hzl hk.size
   clear hk x5
   go_upto_region 6 with fail
   obtain ⟨z0, z1, z2, z3, z4, zl⟩ := row5D HZ.out
   obtain ⟨q0, q1, q2, q3, q4⟩ := free5D HZ.out
   go_wp2_with fail
   (try simp only [Exit.inBlock, Exit.then])
   refine end_ent (p := 2) (q := 3) rfl rfl _ _ (w.heap.size + 1) _ #[.int .i64 0, .int .i64 0, .int .i64 0, .string { data := #[] }, .int .i64 0] _ _ rfl rfl rfl (set5D HZ.out _ _ _ _ _) rfl ?_
   exact HPN.out hP _ _ rfl (hu.fiveD (by omega) _ _ _ _ _)
  have b1 : (TX.toList == s.toList) = true := by rw [h3]; exact beq_self_eq_true _
  have H3 := Lib.hid h3
  clear h3
  refine wp_region_plan [.val (.string NM), .val (.int .i64 (v)), .val (.string TX), .val (.pointer (some ⟨w.heap.size, 5, none⟩)), .val (.string s), .val (.bool false)] (by kernel_rfl) (by kernel_rfl) (by kernel_rfl) ?_
  intro X
  iterate 6
   refine plan_val (by kernel_rfl) (fun u hu => ?_) ?_
   ·obtain ⟨hc, hf, hz⟩ := hu.of_drew.facts
    go_simp
    all_goals first
     |((go_at_call 12; (with_reducible exact cT _ (HU.out.call hu.of_drew) h1)))
     |((simp [b1]; done))
     |(omega)
     |((simp; done))
   simp only [Act.put, List.setIfInBounds_toArray, List.set_cons_zero, List.set_cons_succ, Nat.reduceAdd]
  refine plan_end ?_
  intro w' hB
  have hk := hB.calm.of_drew
  clear hB
  have hu := HU.out.call hk
  replace HX := Lib.hid ((hk.block hxl).trans HX.out)
  replace HZ := Lib.hid ((hk.block hzl).trans HZ.out)
  replace hzl := Nat.lt_of_lt_of_le hzl hk.size
  replace hxl := Nat.lt_of_lt_of_le hxl hk.size
  clear hk x5 b1 cT HU
  go_upto_region 7 with fail
  obtain ⟨y0, y1, y2, y5, yl⟩ := row6K HX.out
  have HU := Lib.hid hu
  clear hu
  by_cases h4 : SL ≤ f
  rotate_left
  ·have hP := hPN (fun h => h4 h.2.2.2.1)
   clear hPN hPY
   refine wp_region_plan [.val (.pointer (some ⟨w.heap.size, 0, none⟩)), .val (.pointer (some ⟨w.heap.size, 2, none⟩)), .val (.int .i64 (f)), .val (.string NM), .val (.int .i64 (SL)), .val (.bool true), .val (.bool true), .idle, .idle, .idle, .idle, .idle, .idle, .idle, .val (.bool true)] (by kernel_rfl) (by kernel_rfl) (by kernel_rfl) ?_
   intro X
   iterate 7
    refine plan_val (by kernel_rfl) (fun u hu => ?_) ?_
    ·obtain ⟨hc, hf, hz⟩ := hu.of_drew.facts
     go_simp
     all_goals first
      |((go_at_call 16; (with_reducible exact (cS _).mono fun _ _ h => ⟨h.1, h.2 ▸ Calm.refl _⟩)))
      |(omega)
      |((simp; omega))
      |((simp; done))
    simp only [Act.put, List.setIfInBounds_toArray, List.set_cons_zero, List.set_cons_succ, Nat.reduceAdd]
   iterate 7
    refine plan_idle (by kernel_rfl) ?_
    simp only [Act.put, List.setIfInBounds_toArray, List.set_cons_zero, List.set_cons_succ, Nat.reduceAdd]
   iterate 1
    refine plan_val (by kernel_rfl) (fun u hu => ?_) ?_
    ·obtain ⟨hc, hf, hz⟩ := hu.of_drew.facts
     go_simp
     all_goals first
      |((go_at_call 16; (with_reducible exact (cS _).mono fun _ _ h => ⟨h.1, h.2 ▸ Calm.refl _⟩)))
      |(omega)
      |((simp; omega))
      |((simp; done))
    simp only [Act.put, List.setIfInBounds_toArray, List.set_cons_zero, List.set_cons_succ, Nat.reduceAdd]
   refine plan_end ?_
   intro w' hB
   have hk := hB.calm.of_drew
   clear hB
   have hu := HU.out.call hk
   replace HX := Lib.hid ((hk.block hxl).trans HX.out)
   replace HZ := Lib.hid ((hk.block hzl).trans HZ.out)
   replace hzl := Nat.lt_of_lt_of_le hzl hk.size
   clear hk y0 y1 y2 y5 yl
   go_upto_region 8 with fail
   obtain ⟨z0, z1, z2, z3, z4, zl⟩ := row5D HZ.out
   obtain ⟨q0, q1, q2, q3, q4⟩ := free5D HZ.out
   go_wp2_with fail
   (try simp only [Exit.inBlock, Exit.then])
   refine end_ent (p := 2) (q := 3) rfl rfl _ _ (w.heap.size + 1) _ #[.int .i64 0, .int .i64 0, .int .i64 0, .string { data := #[] }, .int .i64 0] _ _ rfl rfl rfl (set5D HZ.out _ _ _ _ _) rfl ?_
   exact HPN.out hP _ _ rfl (hu.fiveD (by omega) _ _ _ _ _)
  by_cases h5 : f < SL + 8
  rotate_left
  ·have hP := hPN (fun h => h5 h.2.2.2.2)
   clear hPN hPY
   refine wp_region_plan [.val (.pointer (some ⟨w.heap.size, 0, none⟩)), .val (.pointer (some ⟨w.heap.size, 2, none⟩)), .val (.int .i64 (f)), .val (.string NM), .val (.int .i64 (SL)), .val (.bool false), .val (.bool false), .val (.pointer (some ⟨w.heap.size, 0, none⟩)), .val (.pointer (some ⟨w.heap.size, 2, none⟩)), .val (.int .i64 (f)), .val (.string NM), .val (.int .i64 (SL)), .val (.int .i64 ((SL + 8))), .val (.bool true), .val (.bool true)] (by kernel_rfl) (by kernel_rfl) (by kernel_rfl) ?_
   intro X
   iterate 15
    refine plan_val (by kernel_rfl) (fun u hu => ?_) ?_
    ·obtain ⟨hc, hf, hz⟩ := hu.of_drew.facts
     go_simp
     all_goals first
      |((exact IntWalk.i64_in _ (by omega)))
      |((go_at_call 16; (with_reducible exact (cS _).mono fun _ _ h => ⟨h.1, h.2 ▸ Calm.refl _⟩)))
      |(omega)
      |((simp; omega))
      |((simp; done))
    simp only [Act.put, List.setIfInBounds_toArray, List.set_cons_zero, List.set_cons_succ, Nat.reduceAdd]
   refine plan_end ?_
   intro w' hB
   have hk := hB.calm.of_drew
   clear hB
   have hu := HU.out.call hk
   replace HX := Lib.hid ((hk.block hxl).trans HX.out)
   replace HZ := Lib.hid ((hk.block hzl).trans HZ.out)
   replace hzl := Nat.lt_of_lt_of_le hzl hk.size
   clear hk y0 y1 y2 y5 yl
   go_upto_region 8 with fail
   obtain ⟨z0, z1, z2, z3, z4, zl⟩ := row5D HZ.out
   obtain ⟨q0, q1, q2, q3, q4⟩ := free5D HZ.out
   go_wp2_with fail
   (try simp only [Exit.inBlock, Exit.then])
   refine end_ent (p := 2) (q := 3) rfl rfl _ _ (w.heap.size + 1) _ #[.int .i64 0, .int .i64 0, .int .i64 0, .string { data := #[] }, .int .i64 0] _ _ rfl rfl rfl (set5D HZ.out _ _ _ _ _) rfl ?_
   exact HPN.out hP _ _ rfl (hu.fiveD (by omega) _ _ _ _ _)
  have hP := hPY ⟨h1, h2, H3.out, h4, h5⟩
  clear hPN hPY
  refine wp_region_plan [.val (.pointer (some ⟨w.heap.size, 0, none⟩)), .val (.pointer (some ⟨w.heap.size, 2, none⟩)), .val (.int .i64 (f)), .val (.string NM), .val (.int .i64 (SL)), .val (.bool false), .val (.bool false), .val (.pointer (some ⟨w.heap.size, 0, none⟩)), .val (.pointer (some ⟨w.heap.size, 2, none⟩)), .val (.int .i64 (f)), .val (.string NM), .val (.int .i64 (SL)), .val (.int .i64 ((SL + 8))), .val (.bool false), .val (.bool false)] (by kernel_rfl) (by kernel_rfl) (by kernel_rfl) ?_
  intro X
  iterate 15
   refine plan_val (by kernel_rfl) (fun u hu => ?_) ?_
   ·obtain ⟨hc, hf, hz⟩ := hu.of_drew.facts
    go_simp
    all_goals first
     |((exact IntWalk.i64_in _ (by omega)))
     |((go_at_call 16; (with_reducible exact (cS _).mono fun _ _ h => ⟨h.1, h.2 ▸ Calm.refl _⟩)))
     |(omega)
     |((simp; omega))
     |((simp; done))
   simp only [Act.put, List.setIfInBounds_toArray, List.set_cons_zero, List.set_cons_succ, Nat.reduceAdd]
  refine plan_end ?_
  intro w' hB
  have hk := hB.calm.of_drew
  clear hB
  have hu := HU.out.call hk
  replace HX := Lib.hid ((hk.block hxl).trans HX.out)
  replace HZ := Lib.hid ((hk.block hzl).trans HZ.out)
  replace hzl := Nat.lt_of_lt_of_le hzl hk.size
  clear hk y0 y1 y2 y5 yl
  obtain ⟨y0, y1, y2, y5, yl⟩ := row6K HX.out
  obtain ⟨z0, z1, z2, z3, z4, zl⟩ := row5D HZ.out
  obtain ⟨q0, q1, q2, q3, q4⟩ := free5D HZ.out
  go_wp2_with (refine wpList_load_mid rfl 32 (.tmp 57) rfl w.heap.size 0 rfl [.int .i64 p, .int .i64 o, .int .i64 f] _ (range_key HX.out) Tryd.underlying32 rfl rfl ?_)
  (try simp only [Exit.inBlock, Exit.then])
  refine end_ent (p := 2) (q := 3) rfl rfl _ _ (w.heap.size + 1) _ #[.int .i64 p, .int .i64 o, .int .i64 f, .string NM, .int .i64 v] _ _ rfl rfl rfl (set5D HZ.out _ _ _ _ _) rfl ?_
  exact HPY.out v hP _ _ rfl (hu.fiveD (by omega) _ _ _ _ _)
open Go.RowKit
def SlEnd (l : List El) (n : Int) (w : World) (e : Ending) (w' : World) : Prop := ∃ v, e = .returned (.tuple #[v, .int .i64 n]) ∧ Sl w' v l ∧ Calm w w'
theorem OwnR.sl {base : Nat} {w : World} {v : Value} {l : List El} (h : OwnR base w v l) (hw : ∀ e ∈ l, e.wf) : Sl w v l := by
 obtain ⟨A, c, hv, h1, h2, h3⟩ := h.lies hw
 exact ⟨A, c, hv, by omega, h3⟩
theorem inR_iff (p o f m g : Int) (s : ByteArray) (p' o' f' p2 o2 f2 t : Int) : inR (p', o', f') (p2, o2, f2) t ⟨p, o, f, m, g, s⟩ = true ↔ kcmp p' o' f' p o f ≤ 0 ∧ kcmp p o f p2 o2 f2 ≤ 0 ∧ liveP m g t := by
 unfold inR
 rw [decide_eq_true_eq]
 have h1 : kLt (p, o, f) (p', o', f') ↔ kcmp p' o' f' p o f = 1 := kcmp_kGt.symm
 have h2 : kLt (p2, o2, f2) (p, o, f) ↔ kcmp p o f p2 o2 f2 = 1 := kcmp_kGt.symm
 simp only [El.key, El.live]
 rw [h1, h2]
 rcases kcmp_or p' o' f' p o f with h | h | h <;> rcases kcmp_or p o f p2 o2 f2 with h' | h' | h' <;> simp [h, h']
set_option maxHeartbeats 8000000 in
theorem runRange_any (A : Option Addr) (d : Nat) (l : List El) (p' o' f' p2 o2 f2 t : Int) (w : World) (hn : l.length ≤ 9223372036854775807) (hL : Lies w A l) :
    Calls Tryd.prog 26 #[.slice A l.length d, .agg #[.int .i64 p', .int .i64 o', .int .i64 f'], .agg #[.int .i64 p2, .int .i64 o2, .int .i64 f2], .int .i64 t] w (SlEnd (if rgErr l (p', o', f') (p2, o2, f2) = 0 then rangeR l (p', o', f') (p2, o2, f2) t else []) (rgErr l (p', o', f') (p2, o2, f2)) w) := by
  have cC : ∀ u, Calm w u → Calls Tryd.prog 29 #[.slice A l.length d] u fun e w' => e = .returned (.int .i64 (runErr l)) ∧ Calm u w' := fun u hu => runCheck_any A d l u hn (hL.calm hu)
  have cK := keyCheck_any p' o' f'
  have cK2 := keyCheck_any p2 o2 f2
  have hx : ((w.alloc (.cells #[.int .i64 p', .int .i64 o', .int .i64 f'] 32)).alloc (.cells #[.int .i64 p2, .int .i64 o2, .int .i64 f2] 32)).heap[w.heap.size]? = some (.cells #[.int .i64 p', .int .i64 o', .int .i64 f'] 32 (0, 0)) := heap_past _ (heap_new _ _)
  have hy : ((w.alloc (.cells #[.int .i64 p', .int .i64 o', .int .i64 f'] 32)).alloc (.cells #[.int .i64 p2, .int .i64 o2, .int .i64 f2] 32)).heap[w.heap.size + 1]? = some (.cells #[.int .i64 p2, .int .i64 o2, .int .i64 f2] 32 (0, 0)) := by simpa using heap_new (w.alloc (.cells #[.int .i64 p', .int .i64 o', .int .i64 f'] 32)) (.cells #[.int .i64 p2, .int .i64 o2, .int .i64 f2] 32)
  have hu := ((Calm.refl w).alloc (.cells #[.int .i64 p', .int .i64 o', .int .i64 f'] 32)).alloc (.cells #[.int .i64 p2, .int .i64 o2, .int .i64 f2] 32)
  by_cases he : runErr l = 0
  rotate_left
  · have e1 : rgErr l (p', o', f') (p2, o2, f2) = runErr l := by simp [rgErr, he]
    rw [e1, if_neg he]
    have b1 : (runErr l != 0) = true := by simpa using he
    clear he e1 hL cK cK2
    go_enter Tryd.func26, Tryd.ntmps26
    go_wp2_with (go_at_call 29; refine (cC _ hu).mono ?_; rintro e w1 ⟨rfl, hb1⟩; replace hx := (hb1.block (row3 hx).2.2.2).trans hx; replace hy := (hb1.block (row3 hy).2.2.2).trans hy; replace hu := hu.call hb1; clear hb1; obtain ⟨x0, x1, x2, hxs⟩ := row3 hx; obtain ⟨y0, y1, y2, hys⟩ := row3 hy)
    go_ret2
    exact ⟨_, rfl, Sl.nil _ _ _, hu⟩
  have hG := runErr_zero.1 he
  rw [he] at cC
  by_cases hk : keyErr p' o' f' = 0
  rotate_left
  · have e1 : rgErr l (p', o', f') (p2, o2, f2) = keyErr p' o' f' := by simp [rgErr, he, kErr, hk]
    rw [e1, if_neg hk]
    have b1 : (keyErr p' o' f' != 0) = true := by simpa using hk
    clear he hk e1 hL hG cK2
    go_enter Tryd.func26, Tryd.ntmps26
    go_wp2_with (first
      | (go_at_call 29; refine (cC _ hu).mono ?_; rintro e w1 ⟨rfl, hb1⟩; replace hx := (hb1.block (row3 hx).2.2.2).trans hx; replace hy := (hb1.block (row3 hy).2.2.2).trans hy; replace hu := hu.call hb1; clear hb1; obtain ⟨x0, x1, x2, hxs⟩ := row3 hx; obtain ⟨y0, y1, y2, hys⟩ := row3 hy)
      | (go_at_call 30; refine (cK _).mono ?_; rintro e w1 ⟨rfl, hb1⟩; replace hx := (hb1.block (row3 hx).2.2.2).trans hx; replace hy := (hb1.block (row3 hy).2.2.2).trans hy; replace hu := hu.call hb1; clear hb1; obtain ⟨x0, x1, x2, hxs⟩ := row3 hx; obtain ⟨y0, y1, y2, hys⟩ := row3 hy))
    go_ret2
    exact ⟨_, rfl, Sl.nil _ _ _, hu⟩
  by_cases hk2 : keyErr p2 o2 f2 = 0
  rotate_left
  · have e1 : rgErr l (p', o', f') (p2, o2, f2) = keyErr p2 o2 f2 := by simp [rgErr, he, kErr, hk]
    rw [e1, if_neg hk2]
    rw [hk] at cK
    have b1 : (keyErr p2 o2 f2 != 0) = true := by simpa using hk2
    clear he hk hk2 e1 hL hG
    go_enter Tryd.func26, Tryd.ntmps26
    go_wp2_with (first
      | (go_at_call 29; refine (cC _ hu).mono ?_; rintro e w1 ⟨rfl, hb1⟩; replace hx := (hb1.block (row3 hx).2.2.2).trans hx; replace hy := (hb1.block (row3 hy).2.2.2).trans hy; replace hu := hu.call hb1; clear hb1; obtain ⟨x0, x1, x2, hxs⟩ := row3 hx; obtain ⟨y0, y1, y2, hys⟩ := row3 hy)
      | (go_at_call 30; refine (cK _).mono ?_; rintro e w1 ⟨rfl, hb1⟩; replace hx := (hb1.block (row3 hx).2.2.2).trans hx; replace hy := (hb1.block (row3 hy).2.2.2).trans hy; replace hu := hu.call hb1; clear hb1; obtain ⟨x0, x1, x2, hxs⟩ := row3 hx; obtain ⟨y0, y1, y2, hys⟩ := row3 hy; clear cK)
      | (go_at_call 30; refine (cK2 _).mono ?_; rintro e w1 ⟨rfl, hb1⟩; replace hx := (hb1.block (row3 hx).2.2.2).trans hx; replace hy := (hb1.block (row3 hy).2.2.2).trans hy; replace hu := hu.call hb1; clear hb1; obtain ⟨x0, x1, x2, hxs⟩ := row3 hx; obtain ⟨y0, y1, y2, hys⟩ := row3 hy))
    go_ret2
    exact ⟨_, rfl, Sl.nil _ _ _, hu⟩
  have e1 : rgErr l (p', o', f') (p2, o2, f2) = 0 := by simp [rgErr, he, kErr, hk, hk2]
  rw [e1, if_pos rfl]
  rw [hk] at cK
  rw [hk2] at cK2
  have hn4 : l.length ≤ 400 := hG.1
  clear he hk hk2 e1 hG
  go_enter Tryd.func26, Tryd.ntmps26
  go_wp2_with (first
    | (go_at_call 29; refine (cC _ hu).mono ?_; rintro e w1 ⟨rfl, hb1⟩; replace hx := (hb1.block (row3 hx).2.2.2).trans hx; replace hy := (hb1.block (row3 hy).2.2.2).trans hy; replace hu := hu.call hb1; clear hb1; obtain ⟨x0, x1, x2, hxs⟩ := row3 hx; obtain ⟨y0, y1, y2, hys⟩ := row3 hy; clear cC)
    | (go_at_call 30; refine (cK _).mono ?_; rintro e w1 ⟨rfl, hb1⟩; replace hx := (hb1.block (row3 hx).2.2.2).trans hx; replace hy := (hb1.block (row3 hy).2.2.2).trans hy; replace hu := hu.call hb1; clear hb1; obtain ⟨x0, x1, x2, hxs⟩ := row3 hx; obtain ⟨y0, y1, y2, hys⟩ := row3 hy; clear cK)
    | (go_at_call 30; refine (cK2 _).mono ?_; rintro e w1 ⟨rfl, hb1⟩; replace hx := (hb1.block (row3 hx).2.2.2).trans hx; replace hy := (hb1.block (row3 hy).2.2.2).trans hy; replace hu := hu.call hb1; clear hb1; obtain ⟨x0, x1, x2, hxs⟩ := row3 hx; obtain ⟨y0, y1, y2, hys⟩ := row3 hy; clear cK2))
  have hRL : ∀ k, (rangeR (l.take k) (p', o', f') (p2, o2, f2) t).length ≤ 400 := fun k => by
    have h1 := rangeR_le (l.take k) (p', o', f') (p2, o2, f2) t
    have h2 : (l.take k).length ≤ l.length := List.length_take_le' _ _
    omega
  replace hL := hL.calm hu
  clear x0 x1 x2 y0 y1 y2 hxs hys
  obtain ⟨w3, hw3⟩ : ∃ w3 : World, w3 = w1 := ⟨_, rfl⟩
  subst hw3
  go_loopw [13, 33] (fun v i wr => ∃ k : Nat, k ≤ l.length ∧ i = .int .i64 k ∧ Calm w3 wr ∧ Hid (OwnR w3.heap.size wr v (rangeR (l.take k) (p', o', f') (p2, o2, f2) t))) (fun _ i _ => l.length - (intOf i).toNat)
  case atStart => exact ⟨0, Nat.zero_le _, rfl, Calm.refl _, show OwnR _ _ _ _ from OwnR.nil _ _⟩
  case round =>
    obtain ⟨k, hk, rfl, hur, ho⟩ := hrel
    by_cases hlt : k < l.length
    rotate_left
    · have K : Hid (rangeR (l.take k) (p', o', f') (p2, o2, f2) t = rangeR l (p', o', f') (p2, o2, f2) t) := by show _ = _; rw [List.take_of_length_le (by omega)]
      rw [K.out] at ho
      have hS := ho.out.sl fun e he => hL.1 e (List.mem_filter.1 he).1
      replace hur := hu.call hur
      clear K ho
      go_wp2_with fail
      go_ret2
      exact ⟨_, rfl, hS, hur⟩
    replace hx := (hur.block (row3 hx).2.2.2).trans hx
    replace hy := (hur.block (row3 hy).2.2.2).trans hy
    obtain ⟨b, q, p, o, f, m, g, s, rfl, hb, HE, hm, c0, c1, c2, c3, c4, c5⟩ := (hL.calm hur).get hlt
    have hT := rangeR_take HE.out (p', o', f') (p2, o2, f2) t
    have hI := inR_iff p o f m g s p' o' f' p2 o2 f2 t
    have hz : (wr.alloc (.cells #[.int .i64 p, .int .i64 o, .int .i64 f, .int .i64 m, .int .i64 g, .string s] 49)).heap[wr.heap.size]? = some (.cells #[.int .i64 p, .int .i64 o, .int .i64 f, .int .i64 m, .int .i64 g, .string s] 49 (0, 0)) := heap_new _ _
    replace hx := heap_past (.cells #[.int .i64 p, .int .i64 o, .int .i64 f, .int .i64 m, .int .i64 g, .string s] 49) hx
    replace hy := heap_past (.cells #[.int .i64 p, .int .i64 o, .int .i64 f, .int .i64 m, .int .i64 g, .string s] 49) hy
    replace ho := Lib.hid (ho.out.calm ((Calm.refl wr).alloc (.cells #[.int .i64 p, .int .i64 o, .int .i64 f, .int .i64 m, .int .i64 g, .string s] 49)))
    replace hur := hur.alloc (.cells #[.int .i64 p, .int .i64 o, .int .i64 f, .int .i64 m, .int .i64 g, .string s] 49)
    have hRk := hRL k
    obtain ⟨x0, x1, x2, hxs⟩ := row3 hx
    obtain ⟨y0, y1, y2, hys⟩ := row3 hy
    obtain ⟨z0, z1, z2, z3, z4, z5, hzs⟩ := row6 hz
    clear HE hRL hL
    have cA := cmp_any p' o' f' p o f
    have cB := cmp_any p o f p2 o2 f2
    have cL := live_any p o f m g t s
    generalize kcmp p' o' f' p o f = k1 at cA hI
    generalize kcmp p o f p2 o2 f2 = k2 at cB hI
    by_cases hin : inR (p', o', f') (p2, o2, f2) t ⟨p, o, f, m, g, s⟩ = true
    · rw [if_pos hin] at hT
      obtain ⟨h1, h2, h3⟩ := hI.1 hin
      rw [decide_eq_true h3] at cL
      have HT := Lib.hid hT
      clear hI hin h3 hT
      go_wp2_with (first
        | (go_at_call 40; refine (cA _).mono ?_; rintro e w1 ⟨rfl, hb1⟩; replace hx := (hb1.block (row3 hx).2.2.2).trans hx; replace hy := (hb1.block (row3 hy).2.2.2).trans hy; replace hz := (hb1.block (row6 hz).2.2.2.2.2.2).trans hz; replace ho := Lib.hid (ho.out.calm hb1); replace hur := hur.call hb1; clear hb1; obtain ⟨x0, x1, x2, hxs⟩ := row3 hx; obtain ⟨y0, y1, y2, hys⟩ := row3 hy; obtain ⟨z0, z1, z2, z3, z4, z5, hzs⟩ := row6 hz; clear cA)
        | (go_at_call 40; refine (cB _).mono ?_; rintro e w1 ⟨rfl, hb1⟩; replace hx := (hb1.block (row3 hx).2.2.2).trans hx; replace hy := (hb1.block (row3 hy).2.2.2).trans hy; replace hz := (hb1.block (row6 hz).2.2.2.2.2.2).trans hz; replace ho := Lib.hid (ho.out.calm hb1); replace hur := hur.call hb1; clear hb1; obtain ⟨x0, x1, x2, hxs⟩ := row3 hx; obtain ⟨y0, y1, y2, hys⟩ := row3 hy; obtain ⟨z0, z1, z2, z3, z4, z5, hzs⟩ := row6 hz; clear cB)
        | (go_at_call 33; refine (cL _).mono ?_; rintro e w1 ⟨rfl, hb1⟩; replace hx := (hb1.block (row3 hx).2.2.2).trans hx; replace hy := (hb1.block (row3 hy).2.2.2).trans hy; replace hz := (hb1.block (row6 hz).2.2.2.2.2.2).trans hz; replace ho := Lib.hid (ho.out.calm hb1); replace hur := hur.call hb1; clear hb1; obtain ⟨x0, x1, x2, hxs⟩ := row3 hx; obtain ⟨y0, y1, y2, hys⟩ := row3 hy; obtain ⟨z0, z1, z2, z3, z4, z5, hzs⟩ := row6 hz)
        | (at_builtin; refine wpList_append_el rfl _ _ rfl _ _ _ rfl (ho.out.calm ((Calm.refl _).alloc _)) _ _ p o f m g s _ rfl (heap_new _ _) (by omega) (by simp; exact Nat.le_succ_of_le hur.size) ?_; intro v' w9 ho9 hc9; have hur9 := hc9 _ (Nat.le_refl _) (hur.alloc _); rw [← HT.out] at ho9))
      have HO := Lib.hid ho9
      clear ho9 HT hc9
      go_roundw
      case rel => exact ⟨k + 1, by omega, by go_num, hur9, HO⟩
      case measure => simp [intOf]; omega
    · rw [if_neg hin, List.append_nil] at hT
      rw [← hT] at ho
      clear hT
      have hc : ¬ k1 ≤ 0 ∨ (k1 ≤ 0 ∧ ¬ k2 ≤ 0) ∨ (k1 ≤ 0 ∧ k2 ≤ 0 ∧ ¬ liveP m g t) := by
        by_cases a1 : k1 ≤ 0
        · by_cases a2 : k2 ≤ 0
          · exact .inr (.inr ⟨a1, a2, fun a3 => hin (hI.2 ⟨a1, a2, a3⟩)⟩)
          · exact .inr (.inl ⟨a1, a2⟩)
        · exact .inl a1
      clear hI hin
      rcases hc with h1 | ⟨h1, h2⟩ | ⟨h1, h2, h3⟩
      all_goals
        try rw [decide_eq_false h3] at cL
        try clear h3
        go_wp2_with (first
          | (go_at_call 40; refine (cA _).mono ?_; rintro e w1 ⟨rfl, hb1⟩; replace hx := (hb1.block (row3 hx).2.2.2).trans hx; replace hy := (hb1.block (row3 hy).2.2.2).trans hy; replace hz := (hb1.block (row6 hz).2.2.2.2.2.2).trans hz; replace ho := Lib.hid (ho.out.calm hb1); replace hur := hur.call hb1; clear hb1; obtain ⟨x0, x1, x2, hxs⟩ := row3 hx; obtain ⟨y0, y1, y2, hys⟩ := row3 hy; obtain ⟨z0, z1, z2, z3, z4, z5, hzs⟩ := row6 hz; clear cA)
          | (go_at_call 40; refine (cB _).mono ?_; rintro e w1 ⟨rfl, hb1⟩; replace hx := (hb1.block (row3 hx).2.2.2).trans hx; replace hy := (hb1.block (row3 hy).2.2.2).trans hy; replace hz := (hb1.block (row6 hz).2.2.2.2.2.2).trans hz; replace ho := Lib.hid (ho.out.calm hb1); replace hur := hur.call hb1; clear hb1; obtain ⟨x0, x1, x2, hxs⟩ := row3 hx; obtain ⟨y0, y1, y2, hys⟩ := row3 hy; obtain ⟨z0, z1, z2, z3, z4, z5, hzs⟩ := row6 hz; clear cB)
          | (go_at_call 33; refine (cL _).mono ?_; rintro e w1 ⟨rfl, hb1⟩; replace hx := (hb1.block (row3 hx).2.2.2).trans hx; replace hy := (hb1.block (row3 hy).2.2.2).trans hy; replace hz := (hb1.block (row6 hz).2.2.2.2.2.2).trans hz; replace ho := Lib.hid (ho.out.calm hb1); replace hur := hur.call hb1; clear hb1; obtain ⟨x0, x1, x2, hxs⟩ := row3 hx; obtain ⟨y0, y1, y2, hys⟩ := row3 hy; obtain ⟨z0, z1, z2, z3, z4, z5, hzs⟩ := row6 hz))
        go_roundw
        case rel => exact ⟨k + 1, by omega, by go_num, hur, ho⟩
        case measure => simp [intOf]; omega
open Go.RowKit
section
variable {α : Type} {cv : α → List Value} {N : Nat}
def LiesG (cv : α → List Value) (N : Nat) (w : World) (A : Option Addr) (l : List α) : Prop :=
 0 < l.length → ∃ b q, A = some ⟨b, q, none⟩ ∧ b < w.heap.size ∧ ∀ (k : Nat) (x : α), l[k]? = some x → ∀ j, j < N → w.cell? ⟨b, q + k * N + j, none⟩ = (cv x)[j]?
def cvs (cv : α → List Value) (l : List α) : List Value := l.flatMap cv
def OwnG (t : TypeId) (cv : α → List Value) (N : Nat) (base : Nat) (w : World) (v : Value) (l : List α) : Prop := w.ownsRow base t N v l.length (cvs cv l)
theorem LiesG.calm {w w' : World} {A : Option Addr} {l : List α} (h : LiesG cv N w A l) (hb : Calm w w') : LiesG cv N w' A l := fun hl => by
 obtain ⟨b, q, hA, hlt, hk⟩ := h hl
 exact ⟨b, q, hA, Nat.lt_of_lt_of_le hlt hb.size, fun k x hx j hj => (hb.facts.1 b _ hlt).trans (hk k x hx j hj)⟩
theorem LiesG.nil_ {w : World} {A : Option Addr} : LiesG cv N w A ([] : List α) := fun h => absurd h (by simp)
theorem cvs_at (hN : ∀ x, (cv x).length = N) : ∀ (l : List α) (k j : Nat) (e : α), l[k]? = some e → j < N → (cvs cv l)[k * N + j]? = (cv e)[j]?
 | [], k, j, e, h, _ => by simp at h
 |x :: l, 0, j, e, h, hj => by
  simp at h; subst h
  show (cv x ++ cvs cv l)[0 * N + j]? = _
  rw [Nat.zero_mul, Nat.zero_add, List.getElem?_append_left (by rw [hN]; exact hj)]
 |x :: l, k + 1, j, e, h, hj => by
  show (cv x ++ cvs cv l)[(k + 1) * N + j]? = _
  rw [Nat.succ_mul, List.getElem?_append_right (by rw [hN]; omega), hN]
  rw [show k * N + N + j - N = k * N + j by omega]
  exact cvs_at hN l k j e (by simpa using h) hj
theorem cvs_snoc (l : List α) (e : α) : cvs cv (l ++ [e]) = cvs cv l ++ cv e := by unfold cvs; simp
section
variable {t : TypeId} {base : Nat} {w w' : World} {v : Value} {l : List α}
theorem OwnG.lt (h : OwnG t cv N base w v l) : ∀ k, v.ownBlock = some k → base ≤ k ∧ k < w.heap.size := World.ownsRow.lt h
theorem OwnG.calm (h : OwnG t cv N base w v l) (hb : Calm w w') : OwnG t cv N base w' v l := World.ownsRow.kept h (hb.grownBy none) (by
 rcases v.ownBlock with _ | k
 ·exact .inl rfl
 ·exact .inr (by simp))
theorem OwnG.nil (t : TypeId) (cv : α → List Value) (N : Nat) (base : Nat) (w : World) : OwnG t cv N base w (.slice none 0 0) [] := World.ownsRow_nil _ _ _ _
theorem OwnG.weaken {base' : Nat} (h : OwnG t cv N base w v l) (hb : base' ≤ base) : OwnG t cv N base' w v l := ⟨h.1, h.2.imp id fun ⟨g, cap, cur, h1, h2, h3⟩ => ⟨g, cap, cur, h1, Nat.le_trans hb h2, h3⟩⟩
theorem Calm.grownG {a : World} (h : Calm a w) (hb : a.heap.size ≤ base) (ho : OwnG t cv N base w v l) (hg : w.grownBy w' v.ownBlock) : Calm a w' :=
 Below.grown h hg h.size fun k hk => Nat.le_trans hb (ho.lt k hk).1
theorem OwnG.lies (hN : ∀ x, (cv x).length = N) (h : OwnG t cv N base w v l) : ∃ A c, v = .slice A l.length c ∧ l.length ≤ c ∧ c ≤ 9223372036854775807 ∧ LiesG cv N w A l := by
 rcases h.2 with ⟨rfl, hl⟩ | ⟨g, cap, cur, rfl, _, hg, hnc, hcm, _, ht⟩
 ·have : l = [] := List.eq_nil_of_length_eq_zero hl
  subst this
  exact ⟨none, 0, rfl, Nat.le_refl _, by omega, LiesG.nil_⟩
 ·refine ⟨some ⟨g, 0, none⟩, cap, rfl, hnc, by simp only [maxLen] at hcm; omega, fun hpos => ⟨g, 0, rfl, (Array.getElem?_eq_some_iff.1 hg).1, fun k e he j hj => ?_⟩⟩
  have hk : k < l.length := (List.getElem?_eq_some_iff.1 he).1
  have hkn : k * N + j < l.length * N := by
   have := Nat.mul_le_mul_right N (show k + 1 ≤ l.length from hk)
   rw [Nat.succ_mul] at this
   omega
  rw [Nat.zero_add, cell_of_row w g _ cur _ (0, 0) hg, ← cvs_at hN l k j e he hj, ← ht, List.getElem?_take, if_pos hkn, Array.getElem?_toList]
end
end
open Go.ChangeShapes Go.WideShapes Go.ChangeAt Go.RowKit
structure Ent where
 p : Int
 o : Int
 f : Int
 nm : ByteArray
 of : Int
def entV (x : Ent) : List Value := [.int .i64 x.p, .int .i64 x.o, .int .i64 x.f, .string x.nm, .int .i64 x.of]
theorem entV_len (x : Ent) : (entV x).length = 5 := rfl
theorem entV_one (x : Ent) : ∀ u ∈ entV x, u.oneCell' = true := by intro u hu; simp only [entV, List.mem_cons, List.not_mem_nil, or_false] at hu; rcases hu with rfl | rfl | rfl | rfl | rfl <;> rfl
abbrev OwnE (base : Nat) (w : World) (v : Value) (l : List Ent) : Prop := OwnG 34 entV 5 base w v l
def entOf (e : El) : Option Ent := (parseV e.f e.s).map fun v => ⟨e.p, e.o, e.f, namB e.s, v⟩
def entsL (l : List El) (p o t : Int) : List Ent := (rangeR l (p, o, 0) (p, o, 1073741824) t).filterMap entOf
def entsErr (l : List El) (p o : Int) : Int := rgErr l (p, o, 0) (p, o, 1073741824)
theorem ne_rd {n : Int} (h : n ≠ 0) : (n != 0) = true := by simpa using h
theorem infoEntZ : (Tryd.prog.info? 34).map (fun i => (i.zero, i.size, i.bytes)) = some (some (.agg #[.int .i64 0, .int .i64 0, .int .i64 0, .string ByteArray.empty, .int .i64 0]), 5, 48) := by kernel_rfl
theorem wpList_append_ent {ops : Array Oper} {rest : List Oper} {o : Oper} {a : Act} {w : World} {Q : Exit → Act → World → Prop} (hgd : o.guard = none) (s x : Operand)
    (ho : o.op = .call { callee := .builtin .append, args := #[s, x], argTypes := #[43, 43] })
    (base : Nat) (v : Value) (l : List Ent) (hs : a.eval s = v) (hown : OwnE base w v l) (g t : Nat) (e : Ent) (fr : Nat × Nat)
    (hx : a.eval x = .slice (some ⟨g, 0, none⟩) 1 1) (hg : w.heap[g]? = some (.cells #[.int .i64 e.p, .int .i64 e.o, .int .i64 e.f, .string e.nm, .int .i64 e.of] t fr)) (hl : l.length ≤ 1000000) (hbase : base ≤ w.heap.size)
    (h : ∀ v' w', OwnE base w' v' (l ++ [e]) → (∀ w0 : World, w0.heap.size ≤ base → Calm w0 w → Calm w0 w') → wpList Tryd.prog ops Q rest (a.put o.dst v') w') : wpList Tryd.prog ops Q (o :: rest) a w := by
  obtain ⟨i0, hi, hz0, hz1, hz2⟩ := info_parts infoEntZ
  refine wpList_append_own w hgd s x _ ho base 34 i0 _ 5 48 Tryd.underlying43 hi hz0 hz1 hz2 rfl (by decide) v _ _ hs hown ⟨g, 0, none⟩ 1 1 (entV e) hx rfl (fun j u hj => ?_) (entV_one e) (by unfold maxLen; omega) (by omega) hbase fun v' w' h1 h2 _ => ?_
  · have : (⟨g, 0, none⟩ : Addr).add j = ⟨g, j, none⟩ := by unfold Addr.add; split <;> simp_all
    rw [this, cell_of_row w g j _ t fr hg, ← hj]
    simp [entV]
  · refine h v' w' ?_ fun w0 h0 hc => hc.grownG h0 hown h2
    unfold OwnE OwnG
    rw [List.length_append, cvs_snoc]
    exact h1
def EnEnd (L : List Ent) (E : Int) (w : World) (e : Ending) (w' : World) : Prop := ∃ v, e = .returned (.tuple #[v, .int .i64 E]) ∧ OwnE w.heap.size w' v L ∧ Calm w w'
theorem range_sub (l : List El) (lo hi : Int × Int × Int) (t : Int) : ∀ e ∈ rangeR l lo hi t, e ∈ l := fun e he => by
 unfold rangeR at he
 exact (List.mem_filter.1 he).1
theorem filterMap_take {l : List El} {k : Nat} {e : El} (h : l[k]? = some e) (q : El → Option Ent) : (l.take (k + 1)).filterMap q = (l.take k).filterMap q ++ (match q e with | some x => [x] | none => []) := by
 rw [take_snoc3 h, List.filterMap_append]
 congr 1
 cases hq : q e <;> simp [hq]
set_option maxHeartbeats 4000000 in
theorem entries_any (A : Option Addr) (c : Nat) (l : List El) (p o t : Int) (w : World) (hn : l.length ≤ 9223372036854775807) (hL : Lies w A l) (hD : DirW w) :
    Calls Tryd.prog 14 #[.slice A l.length c, .int .i64 p, .int .i64 o, .int .i64 t] w (EnEnd (if entsErr l p o = 0 then entsL l p o t else []) (entsErr l p o) w) := by
  have cR := fun u (hu : Calm w u) => runRange_any A c l p o 0 p o 1073741824 t u hn (hL.calm hu)
  have hu := ((Calm.refl w).alloc (.cells #[.int .i64 p, .int .i64 o, .int .i64 0] 32)).alloc (.cells #[.int .i64 p, .int .i64 o, .int .i64 1073741824] 32)
  unfold SlEnd at cR
  by_cases hE : entsErr l p o = 0
  rotate_left
  · rw [if_neg hE]
    unfold entsErr at hE ⊢
    simp only [if_neg hE] at cR
    generalize rgErr l (p, o, 0) (p, o, 1073741824) = E at *
    have b1 := ne_rd hE
    go_enter Tryd.func14, Tryd.ntmps14
    go_wp2_with (go_at_call 26; (with_reducible refine (cR _ hu).mono ?_); rintro e w1 ⟨v, rfl, hs, hb⟩; obtain ⟨A1, c1, rfl, _, _⟩ := hs; replace hu := hu.call hb; clear hb cR)
    go_ret2
    exact ⟨_, rfl, OwnG.nil _ _ _ _ _, hu⟩
  rw [if_pos hE, hE]
  unfold entsErr at hE
  simp only [hE, if_pos] at cR
  have hG : Good l := runErr_zero.1 (by
    unfold rgErr at hE
    split at hE
    · rename_i h; exact h
    · rename_i h; exact absurd hE h)
  have hl4 := hG.1
  obtain ⟨M, hM⟩ : ∃ M, M = rangeR l (p, o, 0) (p, o, 1073741824) t := ⟨_, rfl⟩
  rw [← hM] at cR
  have hMl : M.length ≤ 400 := by rw [hM]; exact Nat.le_trans (rangeR_le _ _ _ _) hl4
  have hMs : ∀ e ∈ M, e.s.size ≤ 40 := fun e he => by
    have h1 := err_zero (hG.2.1 e (range_sub l _ _ _ e (hM ▸ he)))
    have := h1.2.2.2.2.2.2.2.2.2.2
    omega
  have HMS := Lib.hid hMs
  have hent : entsL l p o t = M.filterMap entOf := by unfold entsL; rw [hM]
  rw [hent]
  clear hE hG hM hMs hent hL
  go_enter Tryd.func14, Tryd.ntmps14
  go_upto_region 6 with (go_at_call 26; (with_reducible refine (cR _ hu).mono ?_); rintro e w1 ⟨v, rfl, hs, hb⟩; obtain ⟨A1, c1, rfl, _, hl1⟩ := hs; have HL1 := Lib.hid hl1; replace hu := hu.call hb; clear hb cR hl1)
  have hu1 := hu
  clear hu
  go_wp2_with fail
  go_loopw [14, 38] (fun v i wr => ∃ k : Nat, k ≤ M.length ∧ i = .int .i64 k ∧ Calm w1 wr ∧ Hid (OwnE w1.heap.size wr v ((M.take k).filterMap entOf))) (fun _ i _ => M.length - (intOf i).toNat)
  case atStart => exact ⟨0, Nat.zero_le _, rfl, Calm.refl _, show OwnG _ _ _ _ _ _ _ from OwnG.nil _ _ _ _ _⟩
  case round =>
    obtain ⟨k, hk, rfl, hv, HT⟩ := hrel
    by_cases hlt : k < M.length
    rotate_left
    · have HT2 := HT.out
      rw [List.take_of_length_le (by omega)] at HT2
      have HT3 := Lib.hid HT2
      clear HT2
      go_wp2_with fail
      go_ret2
      exact ⟨_, rfl, HT3.out.weaken hu1.size, hu1.call hv⟩
    obtain ⟨b, q, p1, o1, f1, m1, g1, s1, rfl, hb, HE, hm, c0, c1, c2, c3, c4, c5⟩ := (HL1.out.calm hv).get hlt
    have hs1 : s1.size ≤ 40 := HMS.out _ (List.mem_of_getElem? HE.out)
    have hs := hv.size
    have hF := filterMap_take HE.out entOf
    have hl1 : ((M.take k).filterMap entOf).length ≤ 1000000 := Nat.le_trans (List.length_filterMap_le _ _) (by rw [List.length_take]; omega)
    have hv2 := hv.alloc (.cells #[.int .i64 p1, .int .i64 o1, .int .i64 f1, .int .i64 m1, .int .i64 g1, .string s1] 49)
    have HT2 := Lib.hid (HT.out.calm ((Calm.refl wr).alloc (.cells #[.int .i64 p1, .int .i64 o1, .int .i64 f1, .int .i64 m1, .int .i64 g1, .string s1] 49)))
    have cP := fun u (hu : Calm w1 u) => dirParse_any p1 o1 f1 m1 g1 s1 u hs1 (hD.calm (hu1.call hu))
    unfold PrEnd at cP
    have hent : entOf ⟨p1, o1, f1, m1, g1, s1⟩ = (parseV f1 s1).map fun v => ⟨p1, o1, f1, namB s1, v⟩ := rfl
    rw [hent] at hF
    clear HE HT hent
    cases hp : parseV f1 s1 with
    | none =>
      rw [hp] at cP hF
      simp only [Option.map_none, List.append_nil] at hF
      have HF := Lib.hid hF
      clear hF hp
      go_wp2_with (go_at_call 27; (with_reducible refine (cP _ hv2).mono ?_); rintro e w2 ⟨rfl, hb2⟩; replace HT2 := Lib.hid ((HT2.out.calm hb2).calm ((Calm.refl _).alloc (.cells #[.int .i64 0, .int .i64 0, .int .i64 0, .string { data := #[] }, .int .i64 0] 34))); replace hv2 := (hv2.call hb2).alloc (.cells #[.int .i64 0, .int .i64 0, .int .i64 0, .string { data := #[] }, .int .i64 0] 34); clear hb2 cP)
      go_roundw
      case rel => exact ⟨k + 1, by omega, by go_num, hv2, show OwnG _ _ _ _ _ _ _ from by rw [HF.out]; exact HT2.out⟩
      case measure => simp [intOf]; omega
    | some vv =>
      rw [hp] at cP hF
      simp only [Option.map_some] at hF
      have HF := Lib.hid hF
      clear hF hp
      generalize namB s1 = NM at *
      go_wp2_with (first
        | (go_at_call 27; (with_reducible refine (cP _ hv2).mono ?_); rintro e w2 ⟨rfl, hb2⟩; replace HT2 := Lib.hid (((HT2.out.calm hb2).calm ((Calm.refl _).alloc (.cells #[.int .i64 p1, .int .i64 o1, .int .i64 f1, .string NM, .int .i64 vv] 34))).calm ((Calm.refl _).alloc (.cells #[.int .i64 p1, .int .i64 o1, .int .i64 f1, .string NM, .int .i64 vv] 34))); replace hv2 := ((hv2.call hb2).alloc (.cells #[.int .i64 p1, .int .i64 o1, .int .i64 f1, .string NM, .int .i64 vv] 34)).alloc (.cells #[.int .i64 p1, .int .i64 o1, .int .i64 f1, .string NM, .int .i64 vv] 34); clear hb2 cP)
        | (at_builtin; refine wpList_append_ent rfl _ _ rfl w1.heap.size _ _ rfl HT2.out _ _ ⟨p1, o1, f1, NM, vv⟩ _ rfl (ent_two _ _ _) hl1 hv2.size ?_; intro v' w9 ho9 hk9; have HT9 := Lib.hid ho9; have hv9 := hk9 w1 (Nat.le_refl _) hv2; clear ho9 hk9))
      go_roundw
      case rel => exact ⟨k + 1, by omega, by go_num, hv9, show OwnG _ _ _ _ _ _ _ from by rw [HF.out]; exact HT9.out⟩
      case measure => simp [intOf]; omega
open Go.ChangeShapes Go.WideShapes Go.ChangeAt Go.RowKit
def zE : Ent := ⟨0, 0, 0, { data := #[] }, 0⟩
def isNm (nm : ByteArray) (x : Ent) : Bool := decide (x.nm = nm)
def fsX (l : List El) (p o : Int) (nm : ByteArray) (t : Int) : Ent := if entsErr l p o = 0 ∧ nameOk nm = true then ((entsL l p o t).find? (isNm nm)).getD zE else zE
def fsErr (l : List El) (p o : Int) (nm : ByteArray) (t : Int) : Int := if entsErr l p o = 0 then (if nameOk nm = true then (if (entsL l p o t).any (isNm nm) = true then 0 else 4) else 3) else entsErr l p o
def FsEnd (E : Int) (x : Ent) (w : World) (e : Ending) (w' : World) : Prop := e = .returned (.tuple #[.agg (entV x).toArray, .int .i64 E]) ∧ Calm w w'
theorem find_at {N : List Ent} {q : Ent → Bool} {k : Nat} {x : Ent} (hk : N[k]? = some x) (h : ∀ j (hj : j < N.length), j < k → q N[j] = false) (hx : q x = true) : N.find? q = some x := by
 have hlt : k < N.length := (List.getElem?_eq_some_iff.1 hk).1
 have e : N = N.take k ++ x :: N.drop (k + 1) := by
  have h1 := (List.getElem?_eq_some_iff.1 hk).2
  rw [← h1, List.getElem_cons_drop, List.take_append_drop]
 have hn : (N.take k).find? q = none := List.find?_eq_none.2 fun y hy => by
  obtain ⟨j, hj, rfl⟩ := List.getElem_of_mem hy
  rw [List.length_take] at hj
  rw [List.getElem_take, h j (by omega) (by omega)]
  decide
 rw [e, List.find?_append, hn, Option.none_or, List.find?_cons_of_pos hx]
theorem LiesG.five {w : World} {A : Option Addr} {N : List Ent} {k : Nat} (h : LiesG entV 5 w A N) (hk : k < N.length) : ∃ b q x, A = some ⟨b, q, none⟩ ∧ b < w.heap.size ∧ Hid (N[k]? = some x) ∧ w.cell? ⟨b, q + k * 5, none⟩ = some (.int .i64 x.p) ∧ w.cell? ⟨b, q + k * 5 + 1, none⟩ = some (.int .i64 x.o) ∧ w.cell? ⟨b, q + k * 5 + 2, none⟩ = some (.int .i64 x.f) ∧ w.cell? ⟨b, q + k * 5 + 3, none⟩ = some (.string x.nm) ∧ w.cell? ⟨b, q + k * 5 + 4, none⟩ = some (.int .i64 x.of) := by
 obtain ⟨b, q, hA, hb, hc⟩ := h (by omega)
 have hx : N[k]? = some N[k] := List.getElem?_eq_getElem hk
 have hc2 := hc k N[k] hx
 exact ⟨b, q, N[k], hA, hb, hx, hc2 0 (by decide), hc2 1 (by decide), hc2 2 (by decide), hc2 3 (by decide), hc2 4 (by decide)⟩
set_option maxHeartbeats 8000000 in
theorem dirFirst_any (A : Option Addr) (c : Nat) (l : List El) (p o : Int) (nm : ByteArray) (t : Int) (w : World) (hn : l.length ≤ 9223372036854775807) (hL : Lies w A l) (hD : DirW w) (hs : nm.size ≤ maxLen) :
    Calls Tryd.prog 8 #[.slice A l.length c, .int .i64 p, .int .i64 o, .string nm, .int .i64 t] w (FsEnd (fsErr l p o nm t) (fsX l p o nm t) w) := by
  have cE := fun u (hu : Calm w u) => entries_any A c l p o t u hn (hL.calm hu) (hD.calm hu)
  unfold EnEnd at cE
  have cN := fun u => dirName_any nm u hs
  have hz := heap_new w (.cells #[.int .i64 0, .int .i64 0, .int .i64 0, .string { data := #[] }, .int .i64 0] 34)
  have hu := (Calm.refl w).alloc (.cells #[.int .i64 0, .int .i64 0, .int .i64 0, .string { data := #[] }, .int .i64 0] 34)
  have hsz : (w.alloc (.cells #[.int .i64 0, .int .i64 0, .int .i64 0, .string { data := #[] }, .int .i64 0] 34)).heap.size = w.heap.size + 1 := by simp
  obtain ⟨EE, hEE⟩ : ∃ E, E = fsErr l p o nm t := ⟨_, rfl⟩
  obtain ⟨XX, hXX⟩ : ∃ x, x = fsX l p o nm t := ⟨_, rfl⟩
  obtain ⟨Post, hPost⟩ : ∃ P, P = FsEnd EE XX w := ⟨_, rfl⟩
  rw [← hEE, ← hXX, ← hPost]
  have HP : Hid (∀ E x, EE = E → XX = x → ∀ e w', e = .returned (.tuple #[.agg #[.int .i64 x.p, .int .i64 x.o, .int .i64 x.f, .string x.nm, .int .i64 x.of], .int .i64 E]) → Calm w w' → Post e w') := show ∀ _, _ from fun E x h1 h2 e w' h3 h4 => by
    rw [hPost, h1, h2]; exact ⟨h3, h4⟩
  unfold fsErr at hEE
  unfold fsX at hXX
  clear hPost
  generalize entsErr l p o = EN at *
  generalize entsL l p o t = N at *
  go_enter Tryd.func8, Tryd.ntmps8
  go_upto_region 1 with fail
  generalize (w.alloc (.cells #[.int .i64 0, .int .i64 0, .int .i64 0, .string { data := #[] }, .int .i64 0] 34)) = w2 at hz hu hsz ⊢
  have HZ := Lib.hid hz
  have hzl : w.heap.size < w2.heap.size := by omega
  clear hz hsz
  by_cases hE : EN = 0
  rotate_left
  · have h1 : EE = EN := hEE.trans (if_neg hE)
    have h2 : XX = zE := hXX.trans (if_neg fun h => hE h.1)
    have b1 := ne_rd hE
    simp only [if_neg hE] at cE
    clear hEE hXX
    go_upto_region 3 with (go_at_call 14; (with_reducible refine (cE _ hu).mono ?_); rintro e w3 ⟨v, rfl, ho, hb⟩; replace HZ := Lib.hid ((hb.block hzl).trans HZ.out); replace hzl := Nat.lt_of_lt_of_le hzl hb.size; replace hu := hu.call hb; clear hb cE ho)
    obtain ⟨z0, z1, z2, z3, z4, zl⟩ := row5D HZ.out
    obtain ⟨q0, q1, q2, q3, q4⟩ := free5D HZ.out
    go_wp2_with fail
    (try simp only [Exit.inBlock, Exit.then])
    refine end_ent (p := 10) (q := 11) rfl rfl _ _ w.heap.size _ #[.int .i64 0, .int .i64 0, .int .i64 0, .string { data := #[] }, .int .i64 0] _ _ rfl rfl rfl (set5D HZ.out _ _ _ _ _) rfl ?_
    exact HP.out EN zE h1 h2 _ _ rfl (hu.fiveD (Nat.le_refl _) _ _ _ _ _)
  subst hE
  simp only [if_pos] at cE
  replace hEE := hEE.trans (if_pos rfl)
  go_upto_region 4 with (go_at_call 14; (with_reducible refine (cE _ hu).mono ?_); rintro e w3 ⟨v, rfl, ho, hb⟩; obtain ⟨A1, c1, rfl, hc1, hcc1, hl1⟩ := ho.lies entV_len; have HL1 := Lib.hid hl1; replace HZ := Lib.hid ((hb.block hzl).trans HZ.out); replace hzl := Nat.lt_of_lt_of_le hzl hb.size; replace hu := hu.call hb; clear hb cE ho hl1)
  by_cases hO : nameOk nm = true
  rotate_left
  · have h1 : EE = 3 := hEE.trans (if_neg hO)
    have h2 : XX = zE := hXX.trans (if_neg fun h => hO h.2)
    rw [Bool.not_eq_true] at hO
    rw [hO] at cN
    clear hEE hXX
    go_upto_region 5 with (go_at_call 15; (with_reducible refine (cN _).mono ?_); rintro e w5 ⟨rfl, rfl⟩)
    obtain ⟨z0, z1, z2, z3, z4, zl⟩ := row5D HZ.out
    obtain ⟨q0, q1, q2, q3, q4⟩ := free5D HZ.out
    go_wp2_with fail
    (try simp only [Exit.inBlock, Exit.then])
    refine end_ent (p := 10) (q := 11) rfl rfl _ _ w.heap.size _ #[.int .i64 0, .int .i64 0, .int .i64 0, .string { data := #[] }, .int .i64 0] _ _ rfl rfl rfl (set5D HZ.out _ _ _ _ _) rfl ?_
    exact HP.out 3 zE h1 h2 _ _ rfl (hu.fiveD (Nat.le_refl _) _ _ _ _ _)
  have hEE2 := hEE.trans (if_pos hO)
  have hXX2 := hXX.trans (if_pos ⟨(by first | rfl | trivial), hO⟩)
  rw [hO] at cN
  clear hEE hXX
  have HEE := Lib.hid hEE2
  have HXX := Lib.hid hXX2
  clear hEE2 hXX2
  go_upto_region 6 with (go_at_call 15; (with_reducible refine (cN _).mono ?_); rintro e w5 ⟨rfl, rfl⟩)
  go_wp2_with fail
  go_loopw [34] (fun i wr => ∃ k : Nat, k ≤ N.length ∧ i = .int .i64 k ∧ Calm w3 wr ∧ Calm w wr ∧ Hid (wr.heap[w.heap.size]? = some (.cells #[.int .i64 0, .int .i64 0, .int .i64 0, .string { data := #[] }, .int .i64 0] 34 (0, 0))) ∧ Hid (∀ j (hj : j < N.length), j < k → isNm nm N[j] = false)) (fun i _ => N.length - (intOf i).toNat)
  case atStart => exact ⟨0, Nat.zero_le _, rfl, Calm.refl _, hu, HZ, show ∀ _, _ from fun j _ hj => absurd hj (Nat.not_lt_zero _)⟩
  case round =>
    obtain ⟨k, hk, rfl, hv, hu, HZ, HK⟩ := hrel
    by_cases hlt : k < N.length
    rotate_left
    · have hA : N.any (isNm nm) = false := by
        rw [List.any_eq_false]
        intro y hy
        obtain ⟨j, hj, rfl⟩ := List.getElem_of_mem hy
        rw [HK.out j hj (by omega)]; decide
      have hF : N.find? (isNm nm) = none := List.find?_eq_none.2 fun y hy => by
        have := (List.any_eq_false.1 hA) y hy
        exact this
      have h1 : EE = 4 := HEE.out.trans (by rw [hA]; rfl)
      have h2 : XX = zE := HXX.out.trans (by rw [hF]; rfl)
      clear hA hF
      obtain ⟨z0, z1, z2, z3, z4, zl⟩ := row5D HZ.out
      obtain ⟨q0, q1, q2, q3, q4⟩ := free5D HZ.out
      go_wp2_with fail
      (try simp only [Exit.inBlock, Exit.then])
      refine end_ent (p := 10) (q := 11) rfl rfl _ _ w.heap.size _ #[.int .i64 0, .int .i64 0, .int .i64 0, .string { data := #[] }, .int .i64 0] _ _ rfl rfl rfl (set5D HZ.out _ _ _ _ _) rfl ?_
      exact HP.out 4 zE h1 h2 _ _ rfl (hu.fiveD (Nat.le_refl _) _ _ _ _ _)
    obtain ⟨b, q, x, rfl, hb, HE, c0, c1', c2, c3, c4⟩ := (LiesG.calm HL1.out hv).five hlt
    have hzl2 : w.heap.size < wr.heap.size := (Array.getElem?_eq_some_iff.1 HZ.out).1
    by_cases hq : x.nm = nm
    · have hQ : isNm nm x = true := decide_eq_true hq
      have hF := find_at HE.out HK.out hQ
      have hA : N.any (isNm nm) = true := List.any_eq_true.2 ⟨x, List.mem_of_getElem? HE.out, hQ⟩
      have h1 : EE = 0 := HEE.out.trans (by rw [hA]; rfl)
      have h2 : XX = x := HXX.out.trans (by rw [hF]; rfl)
      have b1 : (x.nm.toList == nm.toList) = true := by rw [hq]; exact beq_self_eq_true _
      have HQ := Lib.hid hq
      clear hA hF hQ hq HK HEE HXX
      replace HZ := Lib.hid ((((Calm.refl wr).alloc (.cells #[.int .i64 x.p, .int .i64 x.o, .int .i64 x.f, .string x.nm, .int .i64 x.of] 34)).block hzl2).trans HZ.out)
      replace hu := hu.alloc (.cells #[.int .i64 x.p, .int .i64 x.o, .int .i64 x.f, .string x.nm, .int .i64 x.of] 34)
      go_upto_region 10 with fail
      have hB := heap_new wr (.cells #[.int .i64 x.p, .int .i64 x.o, .int .i64 x.f, .string x.nm, .int .i64 x.of] 34)
      clear c0 c1' c2 c3 c4 hb hzl2 hv
      generalize wr.heap.size = gg at *
      generalize (wr.alloc (.cells #[.int .i64 x.p, .int .i64 x.o, .int .i64 x.f, .string x.nm, .int .i64 x.of] 34)) = w9 at HZ hu hB ⊢
      obtain ⟨y0, y1, y2, y3, y4, yl⟩ := row5D hB
      clear hB
      obtain ⟨z0, z1, z2, z3, z4, zl⟩ := row5D HZ.out
      obtain ⟨q0, q1, q2, q3, q4⟩ := free5D HZ.out
      go_wp2_with fail
      (try simp only [Exit.inBlock, Exit.then])
      refine end_ent (p := 10) (q := 11) rfl rfl _ _ w.heap.size _ #[.int .i64 x.p, .int .i64 x.o, .int .i64 x.f, .string x.nm, .int .i64 x.of] _ _ rfl rfl rfl (set5D HZ.out _ _ _ _ _) rfl ?_
      exact HP.out 0 x h1 h2 _ _ rfl (hu.fiveD (Nat.le_refl _) _ _ _ _ _)
    · have hQ : isNm nm x = false := decide_eq_false hq
      have b1 : (x.nm.toList == nm.toList) = false := str_neL2 hq
      have HK2 : Hid (∀ j (hj : j < N.length), j < k + 1 → isNm nm N[j] = false) := show ∀ _, _ from fun j hj h => by
        rcases Nat.lt_or_ge j k with h5 | h5
        · exact HK.out j hj h5
        · obtain rfl : j = k := by omega
          rw [(List.getElem?_eq_some_iff.1 HE.out).2]; exact hQ
      clear hQ hq HK HE
      replace HZ := Lib.hid ((((Calm.refl wr).alloc (.cells #[.int .i64 x.p, .int .i64 x.o, .int .i64 x.f, .string x.nm, .int .i64 x.of] 34)).block hzl2).trans HZ.out)
      replace hu := hu.alloc (.cells #[.int .i64 x.p, .int .i64 x.o, .int .i64 x.f, .string x.nm, .int .i64 x.of] 34)
      replace hv := hv.alloc (.cells #[.int .i64 x.p, .int .i64 x.o, .int .i64 x.f, .string x.nm, .int .i64 x.of] 34)
      go_wp2_with fail
      go_roundw
      case rel => exact ⟨k + 1, by omega, by go_num, hv, hu, HZ, HK2⟩
      case measure => simp [intOf]; omega
/-- What dir.Find answers. -/
theorem dirFind_any (A : Option Addr) (c : Nat) (l : List El) (p o : Int) (nm : ByteArray) (t : Int) (w : World) (hn : l.length ≤ 9223372036854775807) (hL : Lies w A l) (hD : DirW w) (hs : nm.size ≤ maxLen) :
    Calls Tryd.prog 7 #[.slice A l.length c, .int .i64 p, .int .i64 o, .string nm, .int .i64 t] w fun e w' => e = .returned (.tuple #[.int .i64 (fsX l p o nm t).of, .int .i64 (fsErr l p o nm t)]) ∧ Calm w w' := by
  have cF := dirFirst_any A c l p o nm t w hn hL hD hs
  unfold FsEnd entV at cF
  generalize fsX l p o nm t = x at *
  generalize fsErr l p o nm t = E at *
  go_enter Tryd.func7, Tryd.ntmps7
  go_wp2_with (go_at_call 8; (with_reducible refine cF.mono ?_); rintro e w1 ⟨rfl, hb⟩; have hu := hb.alloc (.cells #[.int .i64 x.p, .int .i64 x.o, .int .i64 x.f, .string x.nm, .int .i64 x.of] 34); clear hb)
  go_ret2
  exact ⟨rfl, hu⟩
open Go.RowKit
theorem zero6 : ∀ w, (Go.sizeOf 49).run Tryd.prog w = .ok 6 w := fun _ => by kernel_rfl
set_option maxHeartbeats 8000000 in
theorem insert_shift (g h i n cap : Nat) (l : List El) (cur : List Value) (p o f m gg : Int) (s : ByteArray) (w : World) (hn : n = l.length) (hi : i < n) (hn4 : n ≤ 400) (hroom : n + 1 ≤ cap) (hc63 : cap ≤ 9223372036854775807)
    (hg : w.heap[g]? = some (.cells cur.toArray 49 (0, 0))) (hs : cur.length = cap * 6) (ht : cur.take (n * 6) = cellsOf l) (hh : w.heap[h]? = some (.cells #[.int .i64 p, .int .i64 o, .int .i64 f, .int .i64 m, .int .i64 gg, .string s] 49 (0, 0))) (hne : h ≠ g) :
    Calls Tryd.prog 21 #[.slice (some ⟨g, 0, none⟩) n cap, .int .i64 i, .slice (some ⟨h, 0, none⟩) 1 1] w fun e w' => e = .returned (.slice (some ⟨g, 0, none⟩) (n + 1) cap) ∧
      w'.heap[g]? = some (.cells (spl (spl cur ((i + 1) * 6) (cellsOf (l.drop i))) (i * 6) (El.cells ⟨p, o, f, m, gg, s⟩)).toArray 49 (0, 0)) ∧ w.grownBy w' (some g) := by
  have hov : ∀ lb cb, (callFunc 34 #[.slice (some ⟨h, 0, none⟩) 1 1, .slice (some ⟨g, (i + 1) * 6, none⟩) lb cb]).run Tryd.prog w = .ok (.value (.bool false)) w := fun lb cb => by
    rw [run_callFunc_extern Tryd.func34 (by kernel_rfl) (by kernel_rfl) (by kernel_rfl) (e := Extern.SlicesOverlaps.overlaps #[22, 22] #[4]) (by kernel_rfl),
      Lib.run_overlaps_apart w 22 4 49 Tryd.underlying22 6 zero6 ⟨h, 0, none⟩ ⟨g, (i + 1) * 6, none⟩ 1 1 lb cb hne 49 49 6 cur.toArray.size (by simp [World.shape?, hh]) (by simp [World.shape?, hg]) (by rw [List.size_toArray, hs]; omega) (frozen_of_row _ _ _ _ _ hh) (frozen_of_row _ _ _ _ _ hh)]
    rfl
  have hdl : (cellsOf (l.drop i)).length = (n - i) * 6 := by rw [cellsOf_len, List.length_drop, hn]
  have hcell : ∀ j v, (cellsOf (l.drop i))[j]? = some v → w.cell? ⟨g, i * 6 + j, none⟩ = some v := fun j v hj => by
    have hj2 : j < (n - i) * 6 := by rw [← hdl]; exact (List.getElem?_eq_some_iff.1 hj).1
    rw [← cellsOf_drop (by omega), List.getElem?_drop, ← ht, List.getElem?_take, if_pos (by omega)] at hj
    rw [cell_of_row _ _ _ _ _ _ hg, ← hj, List.getElem?_toArray]
  have hfit1 : (i + 1) * 6 + (cellsOf (l.drop i)).length ≤ cur.length := by omega
  obtain ⟨c1, hc1⟩ : ∃ c1, c1 = spl cur ((i + 1) * 6) (cellsOf (l.drop i)) := ⟨_, rfl⟩
  have hc1l : c1.length = cur.length := by rw [hc1]; exact spl_len hfit1
  have hcp1 : ∀ ty dc sc, (Builtin.copy_ #[22, 22] ty #[.slice (some ⟨g, (i + 1) * 6, none⟩) (n - i) dc, .slice (some ⟨g, i * 6, none⟩) (n + 1 - i) sc]).run Tryd.prog w.drew = .ok (goInt (Nat.min (n + 1 - i) (n - i))) (w.drew.setRow g c1.toArray) := fun ty dc sc => by
    rw [hc1]
    refine run_copy_el w.drew ty g ((i + 1) * 6) (n - i) dc ⟨g, i * 6, none⟩ (n + 1 - i) sc cur _ (cellsOf (l.drop i)) hg (by rw [hdl]; congr 1; simp only [Nat.min_def]; split <;> omega) (fun j v hj => ?_) hfit1 (cellsOf_one _)
    rw [Addr.add_lit]; exact hcell j v hj
  have hcp2 : ∀ W : World, W.heap = (w.drew.setRow g c1.toArray).heap → ∀ ty dc, (Builtin.copy_ #[22, 22] ty #[.slice (some ⟨g, i * 6, none⟩) (n + 1 - i) dc, .slice (some ⟨h, 0, none⟩) 1 1]).run Tryd.prog W = .ok (goInt (Nat.min 1 (n + 1 - i))) (W.setRow g (spl c1 (i * 6) (El.cells ⟨p, o, f, m, gg, s⟩)).toArray) := fun W hW ty dc => by
    refine run_copy_el W ty g (i * 6) (n + 1 - i) dc ⟨h, 0, none⟩ 1 1 c1 49 _ (by rw [hW]; exact setRow_heap _ _ _ _ _ _ hg) (by show 6 = _; simp only [Nat.min_def]; split <;> omega) (fun j v hj => ?_) (by show _ + 6 ≤ _; omega) (cells_one _)
    have e : (⟨h, 0, none⟩ : Addr).add j = ⟨h, j, none⟩ := by unfold Addr.add; split <;> simp_all
    have hhW : W.heap[h]? = some (.cells #[.int .i64 p, .int .i64 o, .int .i64 f, .int .i64 m, .int .i64 gg, .string s] 49 (0, 0)) := by rw [hW, setRow_other _ _ _ _ hne]; exact hh
    rw [e, cell_of_row _ _ _ _ _ _ hhW, ← hj]; simp [El.cells]
  have hfin : ∀ W : World, W.heap = (w.drew.setRow g c1.toArray).heap → W.os = w.os → W.tape = w.tape → W.output = w.output → (W.setRow g (spl c1 (i * 6) (El.cells ⟨p, o, f, m, gg, s⟩)).toArray).heap[g]? = some (.cells (spl c1 (i * 6) (El.cells ⟨p, o, f, m, gg, s⟩)).toArray 49 (0, 0)) ∧ w.grownBy (W.setRow g (spl c1 (i * 6) (El.cells ⟨p, o, f, m, gg, s⟩)).toArray) (some g) := fun W hW h1 h2 h3 => by
    refine ⟨setRow_heap _ _ c1.toArray _ _ _ (by rw [hW]; exact setRow_heap _ _ _ _ _ _ hg), h1, h2, h3, ?_, fun k hk hne' => ?_⟩
    · rw [show (W.setRow g _).heap.size = W.heap.size by simp, hW]; simp
    · have hkg : k ≠ g := fun e => hne' (by rw [e])
      rw [setRow_other _ _ _ _ hkg, hW, setRow_other _ _ _ _ hkg]
      rfl
  rw [← hc1]
  have hin : i ≤ n := by omega
  have hz2 : ¬ ((i : Int) = (n : Int)) := by omega
  have hw1 : IntKind.i64.wrap ((i : Int) + 1) = (i : Int) + 1 := by rw [IntKind.wrap_i64]; omega
  have hb1 : (0 : Int) ≤ (i : Int) + 1 := by omega
  have htn : ((i : Int) + 1).toNat = i + 1 := by omega
  have hb2 : ¬ (cap = i + 1) := by omega
  have hb3 : (i : Int) ≤ (n : Int) + 1 := by omega
  have hb4 : ¬ (cap = i) := by omega
  have hb5 : (i : Int) < (n : Int) := by omega
  have hb6 : (n : Int) + 1 ≤ (cap : Int) := by omega
  clear hdl hcell hfit1 hc1 hc1l hn ht hs hg hh
  go_enter Tryd.func21, Tryd.ntmps21
  go_wp2_with (simp only [hov])
  go_region_law (refine step_copy_known rfl _ _ 22 rfl _ _ (by simp [Act.eval, Act.put]) (by simp [Act.eval, Act.put]) (hcp1 _ _ _) ?_)
  go_wp2_with (at_builtin; refine wpList_copy_known rfl _ _ 22 rfl _ _ rfl rfl (hcp2 _ rfl _ _) ?_)
  go_ret
  exact ⟨rfl, hfin _ rfl rfl rfl rfl⟩
def GrowEnd (w : World) (l : List El) (i : Nat) (x : El) (e : Ending) (w' : World) : Prop :=
 ∃ (G : Nat) (C : List Value), e = .returned (.slice (some ⟨w.heap.size, 0, none⟩) (l.length + 1) G) ∧ l.length + 1 ≤ G ∧ G ≤ maxLen ∧ C.length = G * 6 ∧ C.take (i * 6) = cellsOf (l.take i) ∧
  w'.heap[w.heap.size]? = some (.cells (spl (spl C (i * 6) x.cells) ((i + 1) * 6) (cellsOf (l.drop i))).toArray 49 (0, 0)) ∧ Calm w w'
set_option maxHeartbeats 8000000 in
theorem insert_grow (g h i n cap : Nat) (l : List El) (cur : List Value) (p o f m gg : Int) (s : ByteArray) (w : World) (hn : n = l.length) (hi : i < n) (hn4 : n ≤ 400) (hnc : n ≤ cap) (hroom : cap < n + 1)
    (hg : w.heap[g]? = some (.cells cur.toArray 49 (0, 0))) (ht : cur.take (n * 6) = cellsOf l) (hh : w.heap[h]? = some (.cells #[.int .i64 p, .int .i64 o, .int .i64 f, .int .i64 m, .int .i64 gg, .string s] 49 (0, 0))) :
    Calls Tryd.prog 21 #[.slice (some ⟨g, 0, none⟩) n cap, .int .i64 i, .slice (some ⟨h, 0, none⟩) 1 1] w (GrowEnd w l i ⟨p, o, f, m, gg, s⟩) := by
  obtain ⟨i0, hi0, hz0, hzs, hzb⟩ := info_parts infoElem
  have hgw : g < w.heap.size := (Array.getElem?_eq_some_iff.1 hg).1
  have hhw : h < w.heap.size := (Array.getElem?_eq_some_iff.1 hh).1
  have hcl : ∀ j v, (cellsOf l)[j]? = some v → w.cell? ⟨g, j, none⟩ = some v := fun j v hj => by
    have hj2 : j < n * 6 := by rw [hn, ← cellsOf_len]; exact (List.getElem?_eq_some_iff.1 hj).1
    rw [← ht, List.getElem?_take, if_pos hj2] at hj
    rw [cell_of_row _ _ _ _ _ _ hg, ← hj, List.getElem?_toArray]
  have hdl : (cellsOf (l.drop i)).length = (n - i) * 6 := by rw [cellsOf_len, List.length_drop, hn]
  have htl : (cellsOf (l.take i)).length = i * 6 := by rw [cellsOf_len, List.length_take]; congr 1; omega
  have hkk : (n : Int) + 1 - (i : Int) = ((n + 1 - i : Nat) : Int) := by omega
  have hik : i + (n + 1 - i) = n + 1 := by omega
  have hold : (Builtin.firstCells i0.size i (.slice (some ⟨g, 0, none⟩) i cap)).run Tryd.prog w.drew = .ok (cellsOf (l.take i)).toArray w.drew := by
    rw [hzs]
    refine run_firstCells_some w.drew 6 i ⟨g, 0, none⟩ i cap (cellsOf (l.take i)) htl fun j v hj => ?_
    have e : (⟨g, 0, none⟩ : Addr).add j = ⟨g, j, none⟩ := by unfold Addr.add; split <;> simp_all
    rw [e]
    rw [← cellsOf_take (by omega), List.getElem?_take] at hj
    split at hj
    · exact hcl j v hj
    · cases hj
  obtain ⟨G, hG⟩ : ∃ G, G = grownCap w (n + 1) cap 49 := ⟨_, rfl⟩
  obtain ⟨C, hC⟩ : ∃ C : List Value, C = cellsOf (l.take i) ++ (Builtin.zeroCells (Value.agg #[.int .i64 0, .int .i64 0, .int .i64 0, .int .i64 0, .int .i64 0, .string ByteArray.empty]).cells (n + 1 - i)).toList ++ (Builtin.zeroCells (Value.agg #[.int .i64 0, .int .i64 0, .int .i64 0, .int .i64 0, .int .i64 0, .string ByteArray.empty]).cells (G - (n + 1))).toList := ⟨_, rfl⟩
  have hGn : n + 1 ≤ G := by rw [hG]; exact grownCap_ge w _ _ _
  have hGm : G ≤ maxLen := by rw [hG]; exact grownCap_le_maxLen w (n + 1) cap _ (by unfold maxLen; omega)
  have hCl : C.length = G * 6 := by
    rw [hC, List.length_append, List.length_append, htl, Array.length_toList, Array.length_toList, size_zeroCells, size_zeroCells]
    show i * 6 + (n + 1 - i) * 6 + (G - (n + 1)) * 6 = G * 6
    omega
  have hCt : C.take (i * 6) = cellsOf (l.take i) := by rw [hC, List.append_assoc]; exact List.take_left' htl
  have hrz : ∀ ty, (Builtin.append_ #[22, 3] ty #[.slice (some ⟨g, 0, none⟩) i cap, .int .i64 ((n : Int) + 1 - (i : Int))]).run Tryd.prog w = .ok (.slice (some ⟨w.heap.size, 0, none⟩) (n + 1) G) (w.drew.alloc (.cells C.toArray 49)) := fun ty => by
    have h := Lib.run_append_grow_zeros w 22 3 ty 49 i0 _ .i64 .i64 Tryd.underlying22 Tryd.underlying3 hi0 hz0 (some ⟨g, 0, none⟩) i cap (cellsOf (l.take i)) hold (n + 1 - i) (by omega) (by omega) (by omega) (by omega) (by rw [hzb]; omega) (by rw [hzb, hik]; exact growslice_fits hroom (by omega))
    rw [hik, ← hG] at h
    rw [hkk, h, hC]
    exact congrArg (fun x => Result.ok _ (w.drew.alloc (.cells x 49))) (Array.toList_inj.1 (by simp))
  obtain ⟨W1, hW1⟩ : ∃ W1, W1 = w.drew.alloc (.cells C.toArray 49) := ⟨_, rfl⟩
  have hHg : W1.heap[w.heap.size]? = some (.cells C.toArray 49 (0, 0)) := by rw [hW1]; exact heap_alloc_new w.drew _
  have hGg : W1.heap[g]? = some (.cells cur.toArray 49 (0, 0)) := by rw [hW1, Below.heap_alloc w.drew _ _ hgw]; exact hg
  have hHh : W1.heap[h]? = some (.cells #[.int .i64 p, .int .i64 o, .int .i64 f, .int .i64 m, .int .i64 gg, .string s] 49 (0, 0)) := by rw [hW1, Below.heap_alloc w.drew _ _ hhw]; exact hh
  obtain ⟨c1, hc1⟩ : ∃ c1, c1 = spl C (i * 6) (El.cells ⟨p, o, f, m, gg, s⟩) := ⟨_, rfl⟩
  have hc1l : c1.length = C.length := by rw [hc1]; exact spl_len (by show _ + 6 ≤ _; omega)
  have hcpA : ∀ W : World, W.heap = W1.heap → ∀ ty dc, (Builtin.copy_ #[22, 22] ty #[.slice (some ⟨w.heap.size, i * 6, none⟩) (n + 1 - i) dc, .slice (some ⟨h, 0, none⟩) 1 1]).run Tryd.prog W = .ok (goInt (Nat.min 1 (n + 1 - i))) (W.setRow w.heap.size c1.toArray) := fun W hW ty dc => by
    rw [hc1]
    refine run_copy_el W ty w.heap.size (i * 6) (n + 1 - i) dc ⟨h, 0, none⟩ 1 1 C 49 _ (by rw [hW]; exact hHg) (by show 6 = _; simp only [Nat.min_def]; split <;> omega) (fun j v hj => ?_) (by show _ + 6 ≤ _; omega) (cells_one _)
    have e : (⟨h, 0, none⟩ : Addr).add j = ⟨h, j, none⟩ := by unfold Addr.add; split <;> simp_all
    rw [e, cell_of_row _ _ _ _ _ _ (by rw [hW]; exact hHh), ← hj]; simp [El.cells]
  have hcpB : ∀ W : World, W.heap = (W1.setRow w.heap.size c1.toArray).heap → ∀ ty dc sc, (Builtin.copy_ #[22, 22] ty #[.slice (some ⟨w.heap.size, (i + 1) * 6, none⟩) (n - i) dc, .slice (some ⟨g, i * 6, none⟩) (n - i) sc]).run Tryd.prog W = .ok (goInt (Nat.min (n - i) (n - i))) (W.setRow w.heap.size (spl c1 ((i + 1) * 6) (cellsOf (l.drop i))).toArray) := fun W hW ty dc sc => by
    refine run_copy_el W ty w.heap.size ((i + 1) * 6) (n - i) dc ⟨g, i * 6, none⟩ (n - i) sc c1 49 _ (by rw [hW]; exact setRow_heap _ _ _ _ _ _ hHg) (by rw [hdl]; congr 1; exact (Nat.min_self _).symm) (fun j v hj => ?_) (by rw [hdl]; omega) (cellsOf_one _)
    rw [Addr.add_lit, cell_of_row _ _ _ _ _ _ (show W.heap[g]? = _ by rw [hW, setRow_other _ _ _ _ (by omega)]; exact hGg)]
    rw [← cellsOf_drop (by omega), List.getElem?_drop, ← ht, List.getElem?_take] at hj
    split at hj
    · rw [← hj, List.getElem?_toArray]
    · cases hj
  have hfin : ∀ W : World, W.heap = (W1.setRow w.heap.size c1.toArray).heap → W.os = w.os → W.tape = w.tape → W.output = w.output → (W.setRow w.heap.size (spl c1 ((i + 1) * 6) (cellsOf (l.drop i))).toArray).heap[w.heap.size]? = some (.cells (spl c1 ((i + 1) * 6) (cellsOf (l.drop i))).toArray 49 (0, 0)) ∧ Calm w (W.setRow w.heap.size (spl c1 ((i + 1) * 6) (cellsOf (l.drop i))).toArray) := fun W hW h1 h2 h3 => by
    refine ⟨setRow_heap _ _ c1.toArray _ _ _ (by rw [hW]; exact setRow_heap _ _ _ _ _ _ hHg), h1, h2, h3, ?_, fun k hk => ?_⟩
    · rw [show (W.setRow w.heap.size _).heap.size = W.heap.size by simp, hW, hW1]; simp
    · rw [setRow_other _ _ _ _ (by omega), hW, setRow_other _ _ _ _ (by omega), hW1]
      exact Below.heap_alloc w.drew _ _ hk
  have hGi : ¬ (G = i) := by omega
  have hGim : ¬ (G = i + 1) := by omega
  have hci : ¬ (cap = i) := by omega
  have hG63 : G ≤ 9223372036854775807 := by unfold maxLen at hGm; omega
  have HEND : ∀ w', w'.heap[w.heap.size]? = some (.cells (spl c1 ((i + 1) * 6) (cellsOf (l.drop i))).toArray 49 (0, 0)) → Calm w w' → GrowEnd w l i ⟨p, o, f, m, gg, s⟩ (.returned (.slice (some ⟨w.heap.size, 0, none⟩) (n + 1) G)) w' := fun w' h1 h2 =>
    ⟨G, C, by rw [hn], by omega, hGm, hCl, hCt, by rw [hc1] at h1; exact h1, h2⟩
  have hz2 : ¬ ((i : Int) = (n : Int)) := by omega
  have hz3 : (cap : Int) < (n : Int) + 1 := by omega
  have hw1 : IntKind.i64.wrap ((i : Int) + 1) = (i : Int) + 1 := by rw [IntKind.wrap_i64]; omega
  have hb1 : (0 : Int) ≤ (i : Int) + 1 := by omega
  have hin : i ≤ n := by omega
  have htn : ((i : Int) + 1).toNat = i + 1 := by omega
  have hb3 : (i : Int) ≤ (n : Int) := by omega
  subst hW1
  clear hkk hik hold hG hC hGn hGm hCl hCt hc1 hc1l hcl hdl htl hn ht hg hh hHg hGg hHh hi0 hz0 hzs hzb hgw hhw
  go_enter Tryd.func21, Tryd.ntmps21
  go_wp2_with (first
    | (at_builtin; refine Lib.wpList_append_run _ rfl _ _ _ _ rfl _ _ rfl rfl _ _ (hrz _) ?_)
    | (refine wpList_copy_known rfl _ _ 22 rfl _ _ rfl rfl (v' := goInt (Nat.min 1 (n + 1 - i))) (w' := ((w.alloc (.cells C.toArray 49)).drew).setRow w.heap.size c1.toArray) (by exact hcpA ((w.alloc (.cells C.toArray 49)).drew) rfl _ _) ?_))
  go_region_law (refine step_copy_known rfl _ _ 22 rfl (.slice (some ⟨w.heap.size, (i + 1) * 6, none⟩) (n - i) (G - (i + 1))) (.slice (some ⟨g, i * 6, none⟩) (n - i) (cap - i)) (by simp [Act.eval, Act.put]) (by simp [Act.eval, Act.put]) (v' := goInt (Nat.min (n - i) (n - i))) (w' := ((((w.alloc (.cells C.toArray 49)).drew).setRow w.heap.size c1.toArray).drew).setRow w.heap.size (spl c1 ((i + 1) * 6) (cellsOf (l.drop i))).toArray) (by exact hcpB ((((w.alloc (.cells C.toArray 49)).drew).setRow w.heap.size c1.toArray).drew) rfl _ _ _) ?_)
  go_wp2_with fail
  go_ret
  exact HEND _ (hfin ((((w.alloc (.cells C.toArray 49)).drew).setRow w.heap.size c1.toArray).drew) rfl rfl rfl rfl).1 (hfin ((((w.alloc (.cells C.toArray 49)).drew).setRow w.heap.size c1.toArray).drew) rfl rfl rfl rfl).2
set_option maxHeartbeats 8000000 in
theorem insert_any (base h i : Nat) (v : Value) (l : List El) (p o f m gg : Int) (s : ByteArray) (w : World) (hi : i ≤ l.length) (hl : l.length ≤ 400) (ho : OwnR base w v l) (hb : base ≤ w.heap.size)
    (hh : w.heap[h]? = some (.cells #[.int .i64 p, .int .i64 o, .int .i64 f, .int .i64 m, .int .i64 gg, .string s] 49 (0, 0))) (hne : v.ownBlock ≠ some h) :
    Calls Tryd.prog 21 #[v, .int .i64 i, .slice (some ⟨h, 0, none⟩) 1 1] w (OwnEnd base (insAt l i ⟨p, o, f, m, gg, s⟩) w) := by
  have hend : i = l.length → insAt l i ⟨p, o, f, m, gg, s⟩ = l ++ [⟨p, o, f, m, gg, s⟩] := fun h => by unfold insAt; rw [h, List.take_length, List.drop_length]
  rcases id ho.2 with ⟨rfl, hl0⟩ | ⟨g, cap, cur, rfl, hbg, hg, hnc, hcm, hcs, ht⟩
  · have h0 : i = l.length := by omega
    rw [hend h0]
    have h1 : i = 0 := by omega
    subst h1
    have HO := Lib.hid ho
    clear ho hend hi h0
    go_enter Tryd.func21, Tryd.ntmps21
    go_wp2_with (at_builtin; refine wpList_append_el rfl _ _ rfl base _ l rfl HO.out h _ p o f m gg s _ rfl hh (by omega) hb ?_; intro v' w9 ho9 hc9)
    have HO9 := Lib.hid ho9
    have HC9 := Lib.hid hc9
    clear ho9 hc9
    go_wp2_with fail
    go_ret
    exact ⟨_, rfl, HO9.out, HC9.out⟩
  · have hcs' : cur.toList.length = cap * 6 := by simpa using hcs
    have hg' : w.heap[g]? = some (.cells cur.toList.toArray 49 (0, 0)) := by simpa using hg
    have hc63 : cap ≤ 9223372036854775807 := by unfold maxLen at hcm; exact hcm
    have hKe : ∀ w', w.grownBy w' (some g) → Keeps base w w' := fun w' hgr w0 h0 hc => Below.grown hc hgr hc.size fun k hk => by injection hk with hk; omega
    by_cases hin : i = l.length
    · rw [hend hin]
      have HO := Lib.hid ho
      obtain ⟨n, hn⟩ : ∃ n, n = l.length := ⟨_, rfl⟩
      have hin' : i = n := by omega
      rw [← hn] at HO ⊢
      have hn4 : n ≤ 400 := by omega
      have hll : l.length ≤ 1000000 := by omega
      have hnc' : n ≤ cap := by omega
      clear ho hend hi hin hn hl hcs' hg' hKe ht hcs hnc
      subst hin'
      by_cases hci : cap = i
      all_goals
        first | subst hci | skip
        go_enter Tryd.func21, Tryd.ntmps21
        go_wp2_with (at_builtin; refine wpList_append_el rfl _ _ rfl base _ l rfl HO.out h _ p o f m gg s _ rfl hh hll hb ?_; intro v' w9 ho9 hc9)
        have HO9 := Lib.hid ho9
        have HC9 := Lib.hid hc9
        clear ho9 hc9
        go_wp2_with fail
        go_ret
        exact ⟨_, rfl, HO9.out, HC9.out⟩
    · by_cases hroom : l.length + 1 ≤ cap
      · refine (insert_shift g h i l.length cap l cur.toList p o f m gg s w rfl (by omega) hl hroom hc63 hg' hcs' ht hh (fun e => hne (by simp [Value.ownBlock, e]))).mono fun e w' ⟨he, hr, hgr⟩ => ⟨_, he, ?_, hKe w' hgr⟩
        rw [row_shift _ (by omega) ht (by omega)] at hr
        have hil := insAt_len ⟨p, o, f, m, gg, s⟩ hi
        rw [← hil]
        have hlc : (cellsOf (insAt l i ⟨p, o, f, m, gg, s⟩)).length = (l.length + 1) * 6 := by rw [cellsOf_len, hil]
        exact OwnR.row hbg hr (by omega) hcm (by rw [List.length_append, hlc, List.length_drop]; omega) (List.take_left' (by rw [cellsOf_len]))
      · refine (insert_grow g h i l.length cap l cur.toList p o f m gg s w rfl (by omega) hl hnc (by omega) hg' ht hh).mono fun e w' ⟨G, C, he, h1, h2, h3, h4, hr, hc⟩ => ⟨_, he, ?_, fun w0 h0 hcc => hcc.call hc⟩
        rw [row_fresh _ (by omega) h4 (by omega)] at hr
        have hil := insAt_len ⟨p, o, f, m, gg, s⟩ hi
        rw [← hil]
        have hlc : (cellsOf (insAt l i ⟨p, o, f, m, gg, s⟩)).length = (l.length + 1) * 6 := by rw [cellsOf_len, hil]
        exact OwnR.row hb hr (by omega) h2 (by rw [List.length_append, hlc, List.length_drop]; omega) (List.take_left' (by rw [cellsOf_len]))
open Go.RowKit
set_option maxHeartbeats 4000000 in
theorem after_any (A : Option Addr) (c : Nat) (l : List El) (p o f m : Int) (w : World) (hn : l.length ≤ 400) (hL : Lies w A l) (hS : l.Pairwise Fol) :
    Calls Tryd.prog 22 #[.slice A l.length c, .agg #[.int .i64 p, .int .i64 o, .int .i64 f, .int .i64 m]] w fun e w' => e = .returned (.int .i64 (pos l (p, o, f) m)) ∧ Calm w w' := by
  have C : ∀ u B1 B2, Calm w u → Boxes B1 B2 A l.length c p o f m u → Calls Tryd.prog 36 #[.int .i64 l.length, .func (.func 37) #[] #[.pointer (some ⟨B1, 0, none⟩), .pointer (some ⟨B2, 0, none⟩)]] u fun e w' => e = .returned (.int .i64 (pos l (p, o, f) m)) ∧ Calm u w' :=
    fun u B1 B2 hu hB => search_any B1 B2 A c l p o f m u hn (hL.calm hu) hS hB
  generalize pos l (p, o, f) m = r at C ⊢
  clear hL hS
  go_enter Tryd.func22, Tryd.ntmps22
  go_wp2_with (go_at_call 36; refine (C _ _ _ (((Calm.refl _).alloc _).alloc _) ⟨heap_past _ (heap_new _ _), by simpa using heap_new (w.alloc (.cells #[.slice A l.length c] 22)) (.cells #[.int .i64 p, .int .i64 o, .int .i64 f, .int .i64 m] 59)⟩).mono ?_; rintro e w1 ⟨rfl, hb1⟩)
  go_ret
  exact ⟨rfl, by repeat (first | (with_reducible exact Calm.refl _) | (with_reducible refine Calm.alloc ?_ _) | (with_reducible refine Calm.drew ?_) | (with_reducible refine Calm.drewN ?_ _) | (refine Calm.call ?_ (by with_reducible assumption)))⟩
set_option maxHeartbeats 4000000 in
theorem liveRun_any (A : Option Addr) (d : Nat) (l : List El) (p' o' f' t : Int) (w : World) (hn : l.length ≤ 400) (hL : Lies w A l) (hS : l.Pairwise Fol) :
    Calls Tryd.prog 19 #[.slice A l.length d, .agg #[.int .i64 p', .int .i64 o', .int .i64 f'], .int .i64 t] w fun e w' => e = .returned (.tuple #[.int .i64 (if hitB l (pos l (p', o', f') t) (p', o', f') t then (pos l (p', o', f') t : Int) - 1 else 0), .bool (hitB l (pos l (p', o', f') t) (p', o', f') t)]) ∧ Calm w w' := by
  have C : ∀ u, Calm w u → Calls Tryd.prog 22 #[.slice A l.length d, .agg #[.int .i64 p', .int .i64 o', .int .i64 f', .int .i64 t]] u fun e w' => e = .returned (.int .i64 (pos l (p', o', f') t)) ∧ Calm u w' :=
    fun u hu => after_any A d l p' o' f' t u hn (hL.calm hu) hS
  have hpl := pos_le l (p', o', f') t
  generalize pos l (p', o', f') t = c at C hpl ⊢
  have hx : (w.alloc (.cells #[.int .i64 p', .int .i64 o', .int .i64 f'] 32)).heap[w.heap.size]? = some (.cells #[.int .i64 p', .int .i64 o', .int .i64 f'] 32 (0, 0)) := heap_new _ _
  have hw0 := (Calm.refl w).alloc (.cells #[.int .i64 p', .int .i64 o', .int .i64 f'] 32)
  by_cases h0 : c = 0
  · subst h0
    rw [hitB_none]
    go_enter Tryd.func19, Tryd.ntmps19
    go_wp2_with (go_at_call 22; refine (C _ hw0).mono ?_; rintro e w1 ⟨rfl, hb1⟩; have hu := hw0.call hb1; clear hx hw0 C hb1)
    refine wp_region_plan [.val (.int .i64 (-1)), .val (.bool true), .val (.bool true), .idle, .idle, .idle, .idle, .idle, .idle, .idle, .val (.bool true), .val (.bool true), .idle, .idle, .idle, .idle, .idle, .idle, .idle, .val (.bool true)] (by kernel_rfl) (by kernel_rfl) (by kernel_rfl) ?_
    intro X
    iterate 3
      refine plan_val (by kernel_rfl) (fun u hu => ?_) ?_
      · obtain ⟨hc, hf, hz⟩ := hu.of_drew.facts
        go_simp
      simp only [Act.put, List.setIfInBounds_toArray, List.set_cons_zero, List.set_cons_succ, Nat.reduceAdd]
    iterate 7
      refine plan_idle (by kernel_rfl) ?_
      simp only [Act.put, List.setIfInBounds_toArray, List.set_cons_zero, List.set_cons_succ, Nat.reduceAdd]
    iterate 2
      refine plan_val (by kernel_rfl) (fun u hu => ?_) ?_
      · obtain ⟨hc, hf, hz⟩ := hu.of_drew.facts
        go_simp
      simp only [Act.put, List.setIfInBounds_toArray, List.set_cons_zero, List.set_cons_succ, Nat.reduceAdd]
    iterate 7
      refine plan_idle (by kernel_rfl) ?_
      simp only [Act.put, List.setIfInBounds_toArray, List.set_cons_zero, List.set_cons_succ, Nat.reduceAdd]
    iterate 1
      refine plan_val (by kernel_rfl) (fun u hu => ?_) ?_
      · obtain ⟨hc, hf, hz⟩ := hu.of_drew.facts
        go_simp
      simp only [Act.put, List.setIfInBounds_toArray, List.set_cons_zero, List.set_cons_succ, Nat.reduceAdd]
    refine plan_end ?_
    intro w' hB
    have hk := hB.calm.of_drew
    clear hB
    go_wp2_with fail
    go_ret2
    exact ⟨rfl, hu.call hk⟩
  obtain ⟨b, q, p, o, f, m, g, s, rfl, hb, HE, hm, c0, c1, c2, c3, c4, c5⟩ := hL.get (k := c - 1) (by omega)
  have hH := hitB_some (k := (p', o', f')) (t := t) (by omega : 0 < c) HE.out
  simp only [El.key, El.live] at hH
  have z0 : 0 < c := by omega
  have z1 : IntKind.i64.wrap ((c : Int) - 1) = (c : Int) - 1 := IntWalk.i64_in _ (by omega)
  have z2 : ((c : Int) - 1).toNat = c - 1 := by omega
  have z3 : 0 ≤ (c : Int) - 1 := by omega
  have z4 : (c : Int) - 1 < l.length := by omega
  have z5 : 1 ≤ (c : Int) := by omega
  have Z : (0 < c ∧ IntKind.i64.wrap ((c : Int) - 1) = (c : Int) - 1 ∧ ((c : Int) - 1).toNat = c - 1 ∧ 0 ≤ (c : Int) - 1 ∧ (c : Int) - 1 < l.length ∧ 1 ≤ (c : Int)) := ⟨z0, z1, z2, z3, z4, z5⟩
  have ZZ := Lib.hid Z
  clear Z z0 z1 z2 z3 z4 h0
  generalize hb0 : hitB l c (p', o', f') t = r at hH ⊢
  clear hb0 hL HE hS
  generalize l.length = n at *
  have hc9 : (c : Int) ≤ 400 := by omega
  go_enter Tryd.func19, Tryd.ntmps19
  go_upto_region 2 with (go_at_call 22; refine (C _ hw0).mono ?_; rintro e w1 ⟨rfl, hb1⟩; have hu := hw0.call hb1; replace hx := (hb1.block (by simp)).trans hx; clear C hw0)
  obtain ⟨z0, z1, z2, z3, z4, z5'⟩ := ZZ.out
  have hvc := hu.facts.1
  replace c0 := (hvc _ _ hb).trans c0; replace c1 := (hvc _ _ hb).trans c1; replace c2 := (hvc _ _ hb).trans c2; replace c3 := (hvc _ _ hb).trans c3; replace c4 := (hvc _ _ hb).trans c4; replace c5 := (hvc _ _ hb).trans c5
  have hb2 : b < w1.heap.size := Nat.lt_of_lt_of_le hb hu.size
  obtain ⟨x0, x1, x2, hxs⟩ := row3 hx
  clear hvc hb1 hx ZZ hb
  by_cases hK : (p, o, f) = (p', o', f')
  rotate_left
  · have e0 : r = false := by rw [hH]; simp [hK]
    subst e0
    clear hH
    have h3 : ¬ p = p' ∨ (p = p' ∧ ¬ o = o') ∨ (p = p' ∧ o = o' ∧ ¬ f = f') := by simp only [Prod.mk.injEq] at hK; omega
    clear hK
    rcases h3 with h3 | ⟨h3, h4⟩ | ⟨h3, h4, h5⟩
    · skip
      refine wp_region_plan [.val (.int .i64 ((c : Int) - 1)), .val (.bool false), .val (.bool false), .val (.slice (some ⟨b, q, none⟩) n d), .val (.int .i64 ((c : Int) - 1)), .val (.pointer (some ⟨b, q + (c - 1) * 6, none⟩)), .val (.pointer (some ⟨b, q + (c - 1) * 6, none⟩)), .val (.agg #[.int .i64 p, .int .i64 o, .int .i64 f]), .val (.agg #[.int .i64 p', .int .i64 o', .int .i64 f']), .val (.bool true), .val (.bool true), .val (.bool true), .idle, .idle, .idle, .idle, .idle, .idle, .idle, .val (.bool true)] (by kernel_rfl) (by kernel_rfl) (by kernel_rfl) ?_
      intro X
      iterate 12
        refine plan_val (by kernel_rfl) (fun u hu => ?_) ?_
        · obtain ⟨hc, hf, hz⟩ := hu.of_drew.facts
          go_simp
        simp only [Act.put, List.setIfInBounds_toArray, List.set_cons_zero, List.set_cons_succ, Nat.reduceAdd]
      iterate 7
        refine plan_idle (by kernel_rfl) ?_
        simp only [Act.put, List.setIfInBounds_toArray, List.set_cons_zero, List.set_cons_succ, Nat.reduceAdd]
      iterate 1
        refine plan_val (by kernel_rfl) (fun u hu => ?_) ?_
        · obtain ⟨hc, hf, hz⟩ := hu.of_drew.facts
          go_simp
        simp only [Act.put, List.setIfInBounds_toArray, List.set_cons_zero, List.set_cons_succ, Nat.reduceAdd]
      refine plan_end ?_
      intro w' hB
      have hk := hB.calm.of_drew
      clear hB
      clear z0 z1 z2 z3 z4 z5
      go_wp2_with fail
      go_ret2
      exact ⟨rfl, hu.call hk⟩
    · skip
      subst h3
      refine wp_region_plan [.val (.int .i64 ((c : Int) - 1)), .val (.bool false), .val (.bool false), .val (.slice (some ⟨b, q, none⟩) n d), .val (.int .i64 ((c : Int) - 1)), .val (.pointer (some ⟨b, q + (c - 1) * 6, none⟩)), .val (.pointer (some ⟨b, q + (c - 1) * 6, none⟩)), .val (.agg #[.int .i64 p, .int .i64 o, .int .i64 f]), .val (.agg #[.int .i64 p, .int .i64 o', .int .i64 f']), .val (.bool true), .val (.bool true), .val (.bool true), .idle, .idle, .idle, .idle, .idle, .idle, .idle, .val (.bool true)] (by kernel_rfl) (by kernel_rfl) (by kernel_rfl) ?_
      intro X
      iterate 12
        refine plan_val (by kernel_rfl) (fun u hu => ?_) ?_
        · obtain ⟨hc, hf, hz⟩ := hu.of_drew.facts
          go_simp
        simp only [Act.put, List.setIfInBounds_toArray, List.set_cons_zero, List.set_cons_succ, Nat.reduceAdd]
      iterate 7
        refine plan_idle (by kernel_rfl) ?_
        simp only [Act.put, List.setIfInBounds_toArray, List.set_cons_zero, List.set_cons_succ, Nat.reduceAdd]
      iterate 1
        refine plan_val (by kernel_rfl) (fun u hu => ?_) ?_
        · obtain ⟨hc, hf, hz⟩ := hu.of_drew.facts
          go_simp
        simp only [Act.put, List.setIfInBounds_toArray, List.set_cons_zero, List.set_cons_succ, Nat.reduceAdd]
      refine plan_end ?_
      intro w' hB
      have hk := hB.calm.of_drew
      clear hB
      clear z0 z1 z2 z3 z4 z5
      go_wp2_with fail
      go_ret2
      exact ⟨rfl, hu.call hk⟩
    · skip
      subst h3
      subst h4
      refine wp_region_plan [.val (.int .i64 ((c : Int) - 1)), .val (.bool false), .val (.bool false), .val (.slice (some ⟨b, q, none⟩) n d), .val (.int .i64 ((c : Int) - 1)), .val (.pointer (some ⟨b, q + (c - 1) * 6, none⟩)), .val (.pointer (some ⟨b, q + (c - 1) * 6, none⟩)), .val (.agg #[.int .i64 p, .int .i64 o, .int .i64 f]), .val (.agg #[.int .i64 p, .int .i64 o, .int .i64 f']), .val (.bool true), .val (.bool true), .val (.bool true), .idle, .idle, .idle, .idle, .idle, .idle, .idle, .val (.bool true)] (by kernel_rfl) (by kernel_rfl) (by kernel_rfl) ?_
      intro X
      iterate 12
        refine plan_val (by kernel_rfl) (fun u hu => ?_) ?_
        · obtain ⟨hc, hf, hz⟩ := hu.of_drew.facts
          go_simp
        simp only [Act.put, List.setIfInBounds_toArray, List.set_cons_zero, List.set_cons_succ, Nat.reduceAdd]
      iterate 7
        refine plan_idle (by kernel_rfl) ?_
        simp only [Act.put, List.setIfInBounds_toArray, List.set_cons_zero, List.set_cons_succ, Nat.reduceAdd]
      iterate 1
        refine plan_val (by kernel_rfl) (fun u hu => ?_) ?_
        · obtain ⟨hc, hf, hz⟩ := hu.of_drew.facts
          go_simp
        simp only [Act.put, List.setIfInBounds_toArray, List.set_cons_zero, List.set_cons_succ, Nat.reduceAdd]
      refine plan_end ?_
      intro w' hB
      have hk := hB.calm.of_drew
      clear hB
      clear z0 z1 z2 z3 z4 z5
      go_wp2_with fail
      go_ret2
      exact ⟨rfl, hu.call hk⟩
  simp only [Prod.mk.injEq] at hK
  obtain ⟨rfl, rfl, rfl⟩ := hK
  by_cases hl : liveP m g t
  · have e0 : r = true := by rw [hH]; simp [hl]
    subst e0
    have L : ∀ u, Calls Tryd.prog 33 #[.agg #[.int .i64 p, .int .i64 o, .int .i64 f, .int .i64 m, .int .i64 g, .string s], .int .i64 t] u fun e w' => e = .returned (.bool true) ∧ Calm u w' := fun u => (live_any p o f m g t s u).mono fun e w' h => ⟨h.1.trans (ret_bool (decide_eq_true hl)), h.2⟩
    clear hH hl
    refine wp_region_plan [.val (.int .i64 ((c : Int) - 1)), .val (.bool false), .val (.bool false), .val (.slice (some ⟨b, q, none⟩) n d), .val (.int .i64 ((c : Int) - 1)), .val (.pointer (some ⟨b, q + (c - 1) * 6, none⟩)), .val (.pointer (some ⟨b, q + (c - 1) * 6, none⟩)), .val (.agg #[.int .i64 p, .int .i64 o, .int .i64 f]), .val (.agg #[.int .i64 p, .int .i64 o, .int .i64 f]), .val (.bool false), .val (.bool false), .val (.bool false), .val (.slice (some ⟨b, q, none⟩) n d), .val (.int .i64 ((c : Int) - 1)), .val (.pointer (some ⟨b, q + (c - 1) * 6, none⟩)), .val (.agg #[.int .i64 p, .int .i64 o, .int .i64 f, .int .i64 m, .int .i64 g, .string s]), .val (.int .i64 (t)), .val (.bool true), .val (.bool false), .val (.bool false)] (by kernel_rfl) (by kernel_rfl) (by kernel_rfl) ?_
    intro X
    iterate 20
      refine plan_val (by kernel_rfl) (fun u hu => ?_) ?_
      · obtain ⟨hc, hf, hz⟩ := hu.of_drew.facts
        go_simp
        all_goals first
          | (go_at_call 33; exact L _)
      simp only [Act.put, List.setIfInBounds_toArray, List.set_cons_zero, List.set_cons_succ, Nat.reduceAdd]
    refine plan_end ?_
    intro w' hB
    have hk := hB.calm.of_drew
    clear hB
    clear z0 z1 z2 z3 z4 z5
    go_wp2_with fail
    go_ret2
    exact ⟨rfl, hu.call hk⟩
  · have e0 : r = false := by rw [hH]; simp [hl]
    subst e0
    have L : ∀ u, Calls Tryd.prog 33 #[.agg #[.int .i64 p, .int .i64 o, .int .i64 f, .int .i64 m, .int .i64 g, .string s], .int .i64 t] u fun e w' => e = .returned (.bool false) ∧ Calm u w' := fun u => (live_any p o f m g t s u).mono fun e w' h => ⟨h.1.trans (ret_bool (decide_eq_false hl)), h.2⟩
    clear hH hl
    refine wp_region_plan [.val (.int .i64 ((c : Int) - 1)), .val (.bool false), .val (.bool false), .val (.slice (some ⟨b, q, none⟩) n d), .val (.int .i64 ((c : Int) - 1)), .val (.pointer (some ⟨b, q + (c - 1) * 6, none⟩)), .val (.pointer (some ⟨b, q + (c - 1) * 6, none⟩)), .val (.agg #[.int .i64 p, .int .i64 o, .int .i64 f]), .val (.agg #[.int .i64 p, .int .i64 o, .int .i64 f]), .val (.bool false), .val (.bool false), .val (.bool false), .val (.slice (some ⟨b, q, none⟩) n d), .val (.int .i64 ((c : Int) - 1)), .val (.pointer (some ⟨b, q + (c - 1) * 6, none⟩)), .val (.agg #[.int .i64 p, .int .i64 o, .int .i64 f, .int .i64 m, .int .i64 g, .string s]), .val (.int .i64 (t)), .val (.bool false), .val (.bool true), .val (.bool true)] (by kernel_rfl) (by kernel_rfl) (by kernel_rfl) ?_
    intro X
    iterate 20
      refine plan_val (by kernel_rfl) (fun u hu => ?_) ?_
      · obtain ⟨hc, hf, hz⟩ := hu.of_drew.facts
        go_simp
        all_goals first
          | (go_at_call 33; exact L _)
      simp only [Act.put, List.setIfInBounds_toArray, List.set_cons_zero, List.set_cons_succ, Nat.reduceAdd]
    refine plan_end ?_
    intro w' hB
    have hk := hB.calm.of_drew
    clear hB
    clear z0 z1 z2 z3 z4 z5
    go_wp2_with fail
    go_ret2
    exact ⟨rfl, hu.call hk⟩
open Go.RowKit
set_option maxHeartbeats 4000000 in
theorem checkWrite_any (A : Option Addr) (c : Nat) (l : List El) (p o f m g : Int) (s : ByteArray) (w : World) (hn : l.length ≤ 9223372036854775807) (hL : Lies w A l) :
    Calls Tryd.prog 18 #[.slice A l.length c, .agg #[.int .i64 p, .int .i64 o, .int .i64 f, .int .i64 m, .int .i64 g, .string s]] w fun e w' => e = .returned (.int .i64 (wrErr l ⟨p, o, f, m, g, s⟩)) ∧ Calm w w' := by
  have hx := heap_new w (.cells #[.int .i64 p, .int .i64 o, .int .i64 f, .int .i64 m, .int .i64 g, .string s] 49)
  have hu := (Calm.refl w).alloc (.cells #[.int .i64 p, .int .i64 o, .int .i64 f, .int .i64 m, .int .i64 g, .string s] 49)
  have cL : ∀ u, Calm w u → Calls Tryd.prog 31 #[.slice A l.length c] u fun e w' => e = .returned (.tuple #[.int .i64 (if runErr l = 0 then latest l else 0), .int .i64 (runErr l)]) ∧ Calm u w' := fun u hu => runLast_any A c l u hn (hL.calm hu)
  by_cases he : runErr l = 0
  rotate_left
  · have e1 : wrErr l ⟨p, o, f, m, g, s⟩ = runErr l := by unfold wrErr; rw [if_neg he]
    rw [e1]
    rw [if_neg he] at cL
    have b1 : (runErr l != 0) = true := by simpa using he
    clear e1 he hL
    go_enter Tryd.func18, Tryd.ntmps18
    go_wp2_with (go_at_call 31; refine (cL _ hu).mono ?_; rintro e w1 ⟨rfl, hb1⟩; replace hu := hu.call hb1)
    go_ret
    exact ⟨rfl, hu⟩
  rw [if_pos he, he] at cL
  have cE := elemCheck_any p o f m g s
  by_cases h2 : elemErr p o f m g s.size = 0
  rotate_left
  · have e1 : wrErr l ⟨p, o, f, m, g, s⟩ = elemErr p o f m g s.size := by
      unfold wrErr; rw [if_pos he]
      exact if_neg h2
    rw [e1]
    have b1 : (elemErr p o f m g s.size != 0) = true := by simpa using h2
    clear e1 he h2 hL
    generalize latest l = t0 at cL
    go_enter Tryd.func18, Tryd.ntmps18
    go_wp2_with (first
      | (go_at_call 31; refine (cL _ hu).mono ?_; rintro e w1 ⟨rfl, hb1⟩; replace hu := hu.call hb1; replace hx := (hb1.block (row6 hx).2.2.2.2.2.2).trans hx; obtain ⟨x0, x1, x2, x3, x4, x5, hxs⟩ := row6 hx; clear hb1)
      | (go_at_call 32; refine (cE _).mono ?_; rintro e w1 ⟨rfl, hb1⟩; replace hu := hu.call hb1))
    go_ret
    exact ⟨rfl, hu⟩
  have e1 : wrErr l ⟨p, o, f, m, g, s⟩ = if m < latest l then 9 else 0 := by
    unfold wrErr; rw [if_pos he]
    exact if_pos h2
  rw [e1]
  rw [h2] at cE
  clear e1 he h2 hL
  generalize latest l = t0 at cL
  by_cases h3 : m < t0
  · rw [if_pos h3]
    go_enter Tryd.func18, Tryd.ntmps18
    go_wp2_with (first
      | (go_at_call 31; refine (cL _ hu).mono ?_; rintro e w1 ⟨rfl, hb1⟩; replace hu := hu.call hb1; replace hx := (hb1.block (row6 hx).2.2.2.2.2.2).trans hx; obtain ⟨x0, x1, x2, x3, x4, x5, hxs⟩ := row6 hx; clear hb1)
      | (go_at_call 32; refine (cE _).mono ?_; rintro e w1 ⟨rfl, hb1⟩; replace hu := hu.call hb1; replace hx := (hb1.block (row6 hx).2.2.2.2.2.2).trans hx; obtain ⟨x0, x1, x2, x3, x4, x5, hxs⟩ := row6 hx; clear hb1))
    go_ret
    exact ⟨rfl, hu⟩
  · rw [if_neg h3]
    go_enter Tryd.func18, Tryd.ntmps18
    go_wp2_with (first
      | (go_at_call 31; refine (cL _ hu).mono ?_; rintro e w1 ⟨rfl, hb1⟩; replace hu := hu.call hb1; replace hx := (hb1.block (row6 hx).2.2.2.2.2.2).trans hx; obtain ⟨x0, x1, x2, x3, x4, x5, hxs⟩ := row6 hx; clear hb1)
      | (go_at_call 32; refine (cE _).mono ?_; rintro e w1 ⟨rfl, hb1⟩; replace hu := hu.call hb1; replace hx := (hb1.block (row6 hx).2.2.2.2.2.2).trans hx; obtain ⟨x0, x1, x2, x3, x4, x5, hxs⟩ := row6 hx; clear hb1))
    go_ret
    exact ⟨rfl, hu⟩
open Go.RowKit
theorem delAt_len {l : List El} {i : Nat} (hi : i < l.length) : (delAt l i).length = l.length - 1 := by
 unfold delAt; rw [List.length_append, List.length_take, List.length_drop]; omega
theorem row_del {cur : List Value} {l : List El} {i : Nat} (z : List Value) (hi : i < l.length) (hc : cur.take (l.length * 6) = cellsOf l) (hs : l.length * 6 ≤ cur.length) :
    (spl (spl cur (i * 6) (cellsOf (l.drop (i + 1)))) ((l.length - 1) * 6) z).take ((l.length - 1) * 6) = cellsOf (delAt l i) := by
  have hl1 : (cellsOf (l.take i)).length = i * 6 := by rw [cellsOf_len, List.length_take]; congr 1; omega
  have hl2 : (cellsOf (l.drop (i + 1))).length = (l.length - (i + 1)) * 6 := by rw [cellsOf_len, List.length_drop]
  have h1 : cur.take (i * 6) = cellsOf (l.take i) := by
    rw [← cellsOf_take (by omega), ← hc, List.take_take]; congr 1; omega
  have h2 : (spl cur (i * 6) (cellsOf (l.drop (i + 1)))).take ((l.length - 1) * 6) = cellsOf (l.take i) ++ cellsOf (l.drop (i + 1)) := by
    unfold spl
    rw [h1]
    exact List.take_left' (by rw [List.length_append, hl1, hl2]; omega)
  have h3 : (l.length - 1) * 6 ≤ (spl cur (i * 6) (cellsOf (l.drop (i + 1)))).length := by rw [spl_len (by rw [hl2]; omega)]; omega
  generalize spl cur (i * 6) (cellsOf (l.drop (i + 1))) = c1 at h2 h3 ⊢
  have h4 : (spl c1 ((l.length - 1) * 6) z).take ((l.length - 1) * 6) = c1.take ((l.length - 1) * 6) := by
    unfold spl
    rw [List.append_assoc]
    exact List.take_left' (by rw [List.length_take]; omega)
  rw [h4, h2]
  unfold delAt
  rw [cellsOf_app]
/-- append(s[:i], s[j:]...) in a row with room for it, as a step of a region that draws. -/
theorem step_append_row {ops : Array Oper} {o : Oper} {a : Act} {w : World} {K : Act → World → Prop} {Q : Exit → Act → World → Prop} {E : Prop} (hgd : o.guard = none) (s x : Operand)
    (hop : o.op = Op.call { callee := Callee.builtin Builtin.append, args := #[s, x], argTypes := #[22, 22] })
    (g n cap : Nat) (hs : a.eval s = .slice (some ⟨g, 0, none⟩) n cap) (ad : Addr) (m c : Nat) (hx : a.eval x = .slice (some ad) m c) (cur : List Value) (hg : w.heap[g]? = some (.cells cur.toArray 49 (0, 0)))
    (news : List Value) (hl : news.length = m * 6) (hnews : ∀ j u, news[j]? = some u → w.cell? (ad.add j) = some u) (h1 : ∀ u ∈ news, u.oneCell' = true) (hroom : n + m ≤ cap) (hfit : n * 6 + news.length ≤ cur.length)
    (hK : K (a.put o.dst (.slice (some ⟨g, 0, none⟩) (n + m) cap)) (w.setRow g (spl cur (n * 6) news).toArray)) : if Region.wanted o (yielded ops a.tmps) = true then Oper.wp Tryd.prog o a w K Q else E := by
  have hw : Region.wanted o (yielded ops a.tmps) = true := by simp [Region.wanted, hgd]
  rw [if_pos hw]
  obtain ⟨i0, hi, hz0, hz1, hz2⟩ := info_parts infoElem
  have hr := run_append_room (P := Tryd.prog) w 22 o.type 49 i0 Tryd.underlying22 hi g n cap cur.toArray hg ad m c news (by rw [hz1]; exact hl) hnews h1 hroom (by rw [hz1]; simpa using hfit)
  rw [hz1] at hr
  unfold Oper.wp
  simp only [execOp, hop, resolve, invoke, builtin, Sem.run_bind, Sem.run_pure, Result.andThen_ok, List.map_toArray, List.map_cons, List.map_nil, hs, hx, hr]
  exact hK
def zeroVals : List Value := [.int .i64 0, .int .i64 0, .int .i64 0, .int .i64 0, .int .i64 0, .string ByteArray.empty]
theorem run_clear_el (w : World) (ty : TypeId) (g o c : Nat) (cur : List Value) (hg : w.heap[g]? = some (.cells cur.toArray 49 (0, 0))) (hfit : o + 6 ≤ cur.length) :
    (Builtin.clear_ #[22] ty #[.slice (some ⟨g, o, none⟩) 1 c]).run Tryd.prog w = .ok (.tuple #[]) (w.setRow g (spl cur o zeroVals).toArray) := by
  have hzc : (Builtin.zeroCells (Value.agg #[.int .i64 0, .int .i64 0, .int .i64 0, .int .i64 0, .int .i64 0, .string ByteArray.empty]).cells 1).toList = zeroVals := by kernel_rfl
  have hzd : (Builtin.zeroCells (Value.agg #[.int .i64 0, .int .i64 0, .int .i64 0, .int .i64 0, .int .i64 0, .string { data := #[] }]).cells 1).toList = zeroVals := hzc
  have hst := run_storeCells_at Tryd.prog g o 49 zeroVals 0 cur.toArray w hg (by simp [zeroVals]; omega) (by intro u hu; simp only [zeroVals, List.mem_cons, List.not_mem_nil, or_false] at hu; rcases hu with rfl | rfl | rfl | rfl | rfl | rfl <;> rfl)
  simp [Builtin.clear_, run_underlying Tryd.underlying22, hzd, hst, spl]
set_option maxHeartbeats 8000000 in
theorem delete_any (base g i n cap : Nat) (l : List El) (w : World) (hn : n = l.length) (hi : i < n) (hn4 : n ≤ 400) (ho : OwnR base w (.slice (some ⟨g, 0, none⟩) n cap) l) :
    Calls Tryd.prog 25 #[.slice (some ⟨g, 0, none⟩) n cap, .int .i64 i, .int .i64 ((i : Int) + 1)] w (OwnEnd base (delAt l i) w) := by
  rcases id ho.2 with ⟨h, _⟩ | ⟨g', cap', cur0, hv, hbg, hg0, hnc, hcm, hcs, ht⟩
  · cases h
  injection hv with h1 h2 h3
  injection h1 with h1
  injection h1 with h1
  subst h1; subst h3
  clear ho h2
  obtain ⟨cur, rfl⟩ : ∃ cur : List Value, cur.toArray = cur0 := ⟨cur0.toList, by simp⟩
  simp only [List.size_toArray] at hcs ht
  rw [← hn] at hnc ht
  have hc63 : cap ≤ 9223372036854775807 := by unfold maxLen at hcm; exact hcm
  have hdl : (cellsOf (l.drop (i + 1))).length = (n - (i + 1)) * 6 := by rw [cellsOf_len, List.length_drop, hn]
  have hfit1 : i * 6 + (cellsOf (l.drop (i + 1))).length ≤ cur.length := by omega
  obtain ⟨A, hA, hsrc⟩ : ∃ A : Addr, (if cap = i + 1 then some (⟨g, 0, none⟩ : Addr) else some ⟨g, (i + 1) * 6, none⟩) = some A ∧ Hid (∀ j u, (cellsOf (l.drop (i + 1)))[j]? = some u → w.drew.cell? (A.add j) = some u) := by
    by_cases h : cap = i + 1
    · refine ⟨⟨g, 0, none⟩, by simp [h], show ∀ _, _ from fun j u hu => ?_⟩
      have h0 : (cellsOf (l.drop (i + 1))).length = 0 := by rw [hdl]; omega
      rw [List.eq_nil_of_length_eq_zero h0] at hu; simp at hu
    · refine ⟨⟨g, (i + 1) * 6, none⟩, by simp [h], show ∀ _, _ from fun j u hu => ?_⟩
      have hj : j < (n - (i + 1)) * 6 := by rw [← hdl]; exact (List.getElem?_eq_some_iff.1 hu).1
      rw [← cellsOf_drop (by omega), List.getElem?_drop, ← ht, List.getElem?_take, if_pos (by omega)] at hu
      rw [Addr.add_lit]
      show w.cell? _ = _
      rw [cell_of_row _ _ _ _ _ _ hg0, ← hu, List.getElem?_toArray]
  obtain ⟨c1, hc1⟩ : ∃ c1, c1 = spl cur (i * 6) (cellsOf (l.drop (i + 1))) := ⟨_, rfl⟩
  have hc1l : c1.length = cur.length := by rw [hc1]; exact spl_len hfit1
  obtain ⟨W1, hW1⟩ : ∃ W1, W1 = w.drew.setRow g c1.toArray := ⟨_, rfl⟩
  have hWg : W1.heap[g]? = some (.cells c1.toArray 49 (0, 0)) := by rw [hW1]; exact setRow_heap _ _ _ _ _ _ hg0
  have hcl : ∀ ty c, (Builtin.clear_ #[22] ty #[.slice (some ⟨g, (n - 1) * 6, none⟩) (n - (n - 1)) c]).run Tryd.prog W1 = .ok (.tuple #[]) (W1.setRow g (spl c1 ((n - 1) * 6) zeroVals).toArray) := fun ty c => by
    rw [show n - (n - 1) = 1 by omega]; exact run_clear_el W1 ty g _ c c1 hWg (by omega)
  have hdn := delAt_len (l := l) (i := i) (by omega)
  have HEND : Hid (OwnEnd base (delAt l i) w (.returned (.slice (some ⟨g, 0, none⟩) (n - 1) cap)) (W1.setRow g (spl c1 ((n - 1) * 6) zeroVals).toArray)) := by
    refine ⟨_, rfl, ?_, fun w0 h0 hc => ?_⟩
    · have hfin : (W1.setRow g (spl c1 ((n - 1) * 6) zeroVals).toArray).heap[g]? = some (.cells (spl c1 ((n - 1) * 6) zeroVals).toArray 49 (0, 0)) := setRow_heap _ _ _ _ _ _ hWg
      rw [hn, ← hdn] at hfin ⊢
      refine OwnR.row hbg hfin (by omega) hcm (by rw [spl_len (by show _ + 6 ≤ _; omega)]; omega) ?_
      rw [hdn, hc1]
      exact row_del _ (by omega) (by rw [← hn]; exact ht) (by omega)
    · rw [hW1]
      exact ((hc.drew.setRow (by omega) _).setRow (by omega) _)
  have hW := Lib.hid hW1
  have HC := Lib.hid hc1
  have s1 := Lib.hid hdl
  have s2 : Hid (∀ u ∈ cellsOf (l.drop (i + 1)), u.oneCell' = true) := cellsOf_one _
  have s3 : Hid (w.drew.heap[g]? = some (.cells cur.toArray 49 (0, 0))) := hg0
  have s4 := Lib.hid hfit1
  have hic : i ≤ cap := by omega
  have hjc : i + 1 ≤ cap := by omega
  have hb5 : (i : Int) < (n : Int) := by omega
  have hb6 : (i : Int) + 1 ≤ (n : Int) := by omega
  have hb7 : ¬ ((i : Int) = (i : Int) + 1) := by omega
  have htn : ((i : Int) + 1).toNat = i + 1 := by omega
  have hb8 : (0 : Int) ≤ (i : Int) + 1 := by omega
  have hb9 : i + (n - (i + 1)) = n - 1 := by omega
  clear hW1 hWg hc1 hdl hfit1 hg0 hcs ht hdn hc1l hn
  go_enter Tryd.func25, Tryd.ntmps25
  go_wp2_with fail
  go_region_law (refine step_append_row rfl (.tmp 22) (.tmp 25) rfl g i cap (by simp [Act.eval, Act.put]) A (n - (i + 1)) (cap - (i + 1)) (by simp [Act.eval, Act.put]) cur s3.out (cellsOf (l.drop (i + 1))) s1.out hsrc.out s2.out (by omega) s4.out ?_; rw [← HC.out, ← hW.out])
  go_wp2_with fail
  go_ret
  exact HEND.out
end Go.Proofs.YtmnnmlkjmlhiiaaDoor
