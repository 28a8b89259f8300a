/- Texts of one kind in one file. -/
import Derived.Deep.LoopGhost
import Derived.Outline
import Derived.IntWalk
import Derived.Lib.Hide
import Derived.Laws.MakeOwn
import Derived.Lib.SliceRun
import Derived.Maps.AppendAt
import Derived.Test.YtbkafjffofaonaaPkPruneSteps1
set_option maxRecDepth 100000
namespace Go.Proofs.Ytbkafjffofaonaa
open Go.RowKit
theorem decide_Fol (p o f m g : Int) (s : ByteArray) (p' o' f' m' g' : Int) (s' : ByteArray) :
    decide (Fol ⟨p, o, f, m, g, s⟩ ⟨p', o', f', m', g', s'⟩) = (decide (scmp p o f m p' o' f' m' = -1) && (!decide ((p, o, f) = (p', o', f')) || !decide (liveP m g m'))) := by
  rw [Bool.eq_iff_iff]
  simp only [Bool.and_eq_true, Bool.or_eq_true, decide_eq_true_eq, Bool.not_eq_true', decide_eq_false_iff_not]
  have h := scmp_sLt (a := ⟨p, o, f, m, g, s⟩) (b := ⟨p', o', f', m', g', s'⟩)
  simp only at h
  rw [h]
  unfold Fol
  simp only [El.key]
  constructor
  · rintro ⟨h1, h2⟩
    refine ⟨h1, ?_⟩
    by_cases e : (p, o, f) = (p', o', f')
    · right; have := h2 e; unfold liveP; omega
    · exact .inl e
  · rintro ⟨h1, h2⟩
    refine ⟨h1, fun e => ?_⟩
    rcases h2 with h2 | h2
    · exact absurd e h2
    · rw [e, sLt_same] at h1
      unfold liveP at h2; omega
set_option maxHeartbeats 2000000 in
theorem follows_any (p o f m g : Int) (s : ByteArray) (p' o' f' m' g' : Int) (s' : ByteArray) (w : World) :
    Calls Try.prog 62 #[.agg #[.int .i64 p, .int .i64 o, .int .i64 f, .int .i64 m, .int .i64 g, .string s], .agg #[.int .i64 p', .int .i64 o', .int .i64 f', .int .i64 m', .int .i64 g', .string s']] w fun e w' => e = .returned (.bool (decide (Fol ⟨p, o, f, m, g, s⟩ ⟨p', o', f', m', g', s'⟩))) ∧ Calm w w' := by
  rw [decide_Fol]
  have hc := scmp_or p o f m p' o' f' m'
  generalize hK : scmp p o f m p' o' f' m' = c at hc ⊢
  have cS : ∀ u, Calls Try.prog 102 #[.agg #[.int .i64 p, .int .i64 o, .int .i64 f, .int .i64 m], .agg #[.int .i64 p', .int .i64 o', .int .i64 f', .int .i64 m']] u fun e w' => e = .returned (.int .i64 c) ∧ Calm u w' := fun u => hK ▸ cmpSpot_any p o f m p' o' f' m' u
  clear hK
  go_enter Try.func62, Try.ntmps62
  go_upto_region 1 with fail
  have hx : ((w.alloc (.cells #[.int .i64 p, .int .i64 o, .int .i64 f, .int .i64 m, .int .i64 g, .string s] 43)).alloc (.cells #[.int .i64 p', .int .i64 o', .int .i64 f', .int .i64 m', .int .i64 g', .string s'] 43)).heap[w.heap.size]? = some (.cells #[.int .i64 p, .int .i64 o, .int .i64 f, .int .i64 m, .int .i64 g, .string s] 43 (0, 0)) := heap_past _ (heap_new _ _)
  have hy : ((w.alloc (.cells #[.int .i64 p, .int .i64 o, .int .i64 f, .int .i64 m, .int .i64 g, .string s] 43)).alloc (.cells #[.int .i64 p', .int .i64 o', .int .i64 f', .int .i64 m', .int .i64 g', .string s'] 43)).heap[w.heap.size + 1]? = some (.cells #[.int .i64 p', .int .i64 o', .int .i64 f', .int .i64 m', .int .i64 g', .string s'] 43 (0, 0)) := by simpa using heap_new (w.alloc (.cells #[.int .i64 p, .int .i64 o, .int .i64 f, .int .i64 m, .int .i64 g, .string s] 43)) (.cells #[.int .i64 p', .int .i64 o', .int .i64 f', .int .i64 m', .int .i64 g', .string s'] 43)
  have hu : Calm w ((w.alloc (.cells #[.int .i64 p, .int .i64 o, .int .i64 f, .int .i64 m, .int .i64 g, .string s] 43)).alloc (.cells #[.int .i64 p', .int .i64 o', .int .i64 f', .int .i64 m', .int .i64 g', .string s'] 43)) := ((Calm.refl _).alloc _).alloc _
  generalize ((w.alloc (.cells #[.int .i64 p, .int .i64 o, .int .i64 f, .int .i64 m, .int .i64 g, .string s] 43)).alloc (.cells #[.int .i64 p', .int .i64 o', .int .i64 f', .int .i64 m', .int .i64 g', .string s'] 43)) = wc at hx hy hu ⊢
  obtain ⟨x0, x1, x2, x3, x4, x5, hxs⟩ := row6 hx
  obtain ⟨y0, y1, y2, y3, y4, y5, hys⟩ := row6 hy
  refine wp_region_plan [.val (.agg #[.int .i64 p, .int .i64 o, .int .i64 f, .int .i64 m, .int .i64 g, .string s]), .val (.agg #[.int .i64 p, .int .i64 o, .int .i64 f, .int .i64 m]), .val (.agg #[.int .i64 p', .int .i64 o', .int .i64 f', .int .i64 m', .int .i64 g', .string s']), .val (.agg #[.int .i64 p', .int .i64 o', .int .i64 f', .int .i64 m']), .val (.int .i64 c), .val (.bool (decide (0 ≤ c)))] (by kernel_rfl) (by kernel_rfl) (by kernel_rfl) ?_
  intro X
  iterate 6
    refine plan_val (by kernel_rfl) (fun u hu => ?_) ?_
    · obtain ⟨hc, hf, hz⟩ := hu.of_drew.facts
      go_simp
      all_goals first
        | (go_at_call 28; exact spot_any _ _ _ _ _ _ _)
        | (go_at_call 102; exact cS _)
    simp only [Act.put, List.setIfInBounds_toArray, List.set_cons_zero, List.set_cons_succ, Nat.reduceAdd]
  refine plan_end ?_
  intro w' hB
  have hk := hB.calm.of_drew
  clear hB cS
  replace hx := (hk.block hxs).trans hx
  replace hy := (hk.block hys).trans hy
  replace hu := hu.call hk
  clear hk x0 x1 x2 x3 x4 x5 y0 y1 y2 y3 y4 y5 hxs hys
  obtain ⟨x0, x1, x2, x3, x4, x5, hxs⟩ := row6 hx
  obtain ⟨y0, y1, y2, y3, y4, y5, hys⟩ := row6 hy
  by_cases h1 : 0 ≤ c
  · have e1 : decide (0 ≤ c) = true := decide_eq_true h1
    have e2 : decide (c = -1) = false := decide_eq_false (by omega)
    go_wp2_with fail
    go_ret
    exact ⟨by rw [e2]; rfl, hu⟩
  · have e1 : decide (0 ≤ c) = false := decide_eq_false h1
    have e2 : c = -1 := by omega
    subst e2
    clear hc h1
    go_wp2_with (go_at_call 103; refine (live_any _ _ _ _ _ _ _ _).mono ?_; rintro e w1 ⟨rfl, hb1⟩)
    all_goals
      go_ret
      exact ⟨rfl, by first | exact hu | exact hu.call (by assumption)⟩
theorem stepErr_err {l : List El} {k : Nat} {e : El} (h : l[k]? = some e) (he : e.err ≠ 0) : stepErr l k = e.err := by
 unfold stepErr; rw [h]; simp only; rw [if_pos he]
theorem runErr_at {l : List El} {k : Nat} (hl : ¬ 400 < l.length) (h : ∀ j, j < k → stepErr l j = 0) (hk : stepErr l k ≠ 0) (hlt : k < l.length) : stepErr l k = runErr l := by
 unfold runErr; rw [if_neg hl, firstErr_at h hk hlt]
theorem runErr_good {l : List El} (hl : ¬ 400 < l.length) (h : ∀ j, j < l.length → stepErr l j = 0) : 0 = runErr l := by
 unfold runErr; rw [if_neg hl, firstErr_zero.2 h]
theorem stepErr_form {l : List El} {k : Nat} {e d : El} (h : l[k]? = some e) (he : e.err = 0) (h0 : 0 < k) (hd : l[k - 1]? = some d) : stepErr l k = if Fol d e then 0 else 3 := by
 unfold stepErr; rw [h]; simp only; rw [if_neg (by simpa using he), if_neg (by omega), hd]
theorem stepErr_first {l : List El} {e : El} (h : l[0]? = some e) (he : e.err = 0) : stepErr l 0 = 0 := by
 unfold stepErr; rw [h]; simp only; rw [if_neg (by simpa using he)]; rfl
def NoErr (l : List El) (k : Nat) : Prop := ∀ j, j < k → stepErr l j = 0
set_option maxHeartbeats 4000000 in
theorem runCheck_any (A : Option Addr) (c : Nat) (l : List El) (w : World) (hn : l.length ≤ 9223372036854775807) (hL : Lies w A l) :
    Calls Try.prog 30 #[.slice A l.length c] w fun e w' => e = .returned (.int .i64 (runErr l)) ∧ Calm w w' := by
  by_cases hbig : 400 < l.length
  · have K : Hid (2 = runErr l) := by show _ = _; unfold runErr; rw [if_pos hbig]
    go_enter Try.func30, Try.ntmps30
    go_wp2_with fail
    go_ret
    exact ⟨ret_int K.out, Calm.refl _⟩
  go_enter Try.func30, Try.ntmps30
  go_wp2_with fail
  go_loopw [11] (fun i wr => ∃ k : Nat, k ≤ l.length ∧ i = .int .i64 k ∧ Calm w wr ∧ NoErr l k) (fun i _ => l.length - (intOf i).toNat)
  case atStart => exact ⟨0, Nat.zero_le _, rfl, Calm.refl _, fun j hj => absurd hj (Nat.not_lt_zero _)⟩
  case round =>
    obtain ⟨k, hk, rfl, hu, hN⟩ := hrel
    by_cases hlt : k < l.length
    rotate_left
    · have hkl : k = l.length := by omega
      have K : Hid (0 = runErr l) := runErr_good hbig (by rw [← hkl]; exact hN)
      clear hkl
      go_wp2_with fail
      go_ret
      exact ⟨ret_int K.out, hu⟩
    obtain ⟨b, q, p, o, f, m, g, s, rfl, hb, HE, hm, c0, c1, c2, c3, c4, c5⟩ := (hL.calm hu).get hlt
    by_cases he : elemErr p o f m g s.size = 0
    rotate_left
    · have b1 : (elemErr p o f m g s.size != 0) = true := by simpa using he
      have K : Hid (elemErr p o f m g s.size = runErr l) := by
        have h1 := stepErr_err HE.out (show El.err ⟨p, o, f, m, g, s⟩ ≠ 0 from he)
        rw [← runErr_at hbig hN (by rw [h1]; exact he) hlt, h1]; rfl
      clear he
      go_wp2_with (go_at_call 26; refine (elemCheck_any _ _ _ _ _ _ _).mono ?_; rintro e w1 ⟨rfl, hb1⟩)
      go_ret
      exact ⟨ret_int K.out, by repeat (first | (with_reducible exact Calm.refl _) | (with_reducible refine Calm.alloc ?_ _) | (with_reducible refine Calm.drew ?_) | (with_reducible refine Calm.drewN ?_ _) | (refine Calm.call ?_ (by with_reducible assumption)))⟩
    have b1 : (elemErr p o f m g s.size != 0) = false := by simpa using he
    have HE0 : Hid (elemErr p o f m g s.size = 0) := he
    clear he
    by_cases hk0 : k = 0
    · subst hk0
      have hN1 : NoErr l 1 := fun j hj => by
        have : j = 0 := by omega
        subst this
        exact stepErr_first HE.out HE0.out
      simp only [Nat.zero_mul, Nat.add_zero] at c0 c1 c2 c3 c4 c5
      go_wp2_with (go_at_call 26; refine (elemCheck_any _ _ _ _ _ _ _).mono ?_; rintro e w1 ⟨rfl, hb1⟩)
      refine wp_region_plan [.val (.int .i64 0), .val (.bool false), .val (.bool false), .idle, .idle, .idle, .idle, .idle, .idle, .idle, .idle, .val (.bool false)] (by kernel_rfl) (by kernel_rfl) (by kernel_rfl) ?_
      intro X
      iterate 3
        refine plan_val (by kernel_rfl) (fun u hu => ?_) ?_
        · obtain ⟨hc, hf, hz⟩ := hu.of_drew.facts
          go_simp
        simp only [Act.put, List.setIfInBounds_toArray, List.set_cons_zero, List.set_cons_succ, Nat.reduceAdd]
      iterate 8
        refine plan_idle (by kernel_rfl) ?_
        simp only [Act.put, List.setIfInBounds_toArray, List.set_cons_zero, List.set_cons_succ, Nat.reduceAdd]
      iterate 1
        refine plan_val (by kernel_rfl) (fun u hu => ?_) ?_
        · obtain ⟨hc, hf, hz⟩ := hu.of_drew.facts
          go_simp
        simp only [Act.put, List.setIfInBounds_toArray, List.set_cons_zero, List.set_cons_succ, Nat.reduceAdd]
      refine plan_end ?_
      intro w' hB
      have hk := hB.calm.of_drew
      clear hB
      go_wp2_with fail
      exact ⟨⟨1, by omega, rfl, ((hu.alloc _).call hb1).call hk, hN1⟩, by simp [intOf]; omega⟩
    obtain ⟨p', o', f', m', g', s', HE', hm', d0, d1, d2, d3, d4, d5⟩ := (hL.calm hu).get2 (k := k - 1) (by omega)
    have hS := stepErr_form HE.out HE0.out (by omega) HE'.out
    have hk1 : 1 ≤ k := by omega
    by_cases hF : Fol ⟨p', o', f', m', g', s'⟩ ⟨p, o, f, m, g, s⟩
    · have b2 : decide (Fol ⟨p', o', f', m', g', s'⟩ ⟨p, o, f, m, g, s⟩) = true := decide_eq_true hF
      rw [if_pos hF] at hS
      have hN1 : NoErr l (k + 1) := fun j hj => by
        rcases Nat.lt_or_ge j k with h | h
        · exact hN j h
        · rw [show j = k by omega]; exact hS
      clear hS hF hk0
      go_wp2_with (go_at_call 26; refine (elemCheck_any _ _ _ _ _ _ _).mono ?_; rintro e w1 ⟨rfl, hb1⟩)
      have hx := (hb1.block (k := wr.heap.size) (by simp)).trans (heap_new wr _)
      obtain ⟨x0, x1, x2, x3, x4, x5, hxs⟩ := row6 hx
      have hv := ((Calm.refl wr).alloc _).call hb1
      have hv1 := hu.call hv
      have hb2 : b < w1.heap.size := Nat.lt_of_lt_of_le hb hv.size
      have hvc := hv.facts.1
      replace d0 := (hvc _ _ hb).trans d0; replace d1 := (hvc _ _ hb).trans d1; replace d2 := (hvc _ _ hb).trans d2; replace d3 := (hvc _ _ hb).trans d3; replace d4 := (hvc _ _ hb).trans d4; replace d5 := (hvc _ _ hb).trans d5
      clear hvc hv hb1 hx c0 c1 c2 c3 c4 c5 b1 hL
      have F : ∀ u, Calls Try.prog 62 #[.agg #[.int .i64 p', .int .i64 o', .int .i64 f', .int .i64 m', .int .i64 g', .string s'], .agg #[.int .i64 p, .int .i64 o, .int .i64 f, .int .i64 m, .int .i64 g, .string s]] u fun e w' => e = .returned (.bool true) ∧ Calm u w' := fun u => by
        rw [← b2]; exact follows_any p' o' f' m' g' s' p o f m g s u
      clear b2
      have z0 : 0 < k := hk1
      have z1 : IntKind.i64.wrap ((k : Int) - 1) = (k : Int) - 1 := IntWalk.i64_in _ (by omega)
      have z2 : ((k : Int) - 1).toNat = k - 1 := by omega
      have z3 : 0 ≤ (k : Int) - 1 := by omega
      have z4 : (k : Int) - 1 < l.length := by omega
      have z5 : 1 ≤ (k : Int) := by omega
      refine wp_region_plan [.val (.int .i64 k), .val (.bool true), .val (.bool true), .val (.slice (some ⟨b, q, none⟩) l.length c), .val (.int .i64 k), .val (.int .i64 (k - 1)), .val (.pointer (some ⟨b, q + (k - 1) * 6, none⟩)), .val (.agg #[.int .i64 p', .int .i64 o', .int .i64 f', .int .i64 m', .int .i64 g', .string s']), .val (.agg #[.int .i64 p, .int .i64 o, .int .i64 f, .int .i64 m, .int .i64 g, .string s]), .val (.bool true), .val (.bool false), .val (.bool false)] (by kernel_rfl) (by kernel_rfl) (by kernel_rfl) ?_
      intro X
      iterate 12
        refine plan_val (by kernel_rfl) (fun u hu => ?_) ?_
        · obtain ⟨hc, hf, hz⟩ := hu.of_drew.facts
          go_simp
          all_goals first
            | (go_at_call 62; exact F _)
        simp only [Act.put, List.setIfInBounds_toArray, List.set_cons_zero, List.set_cons_succ, Nat.reduceAdd]
      refine plan_end ?_
      intro w' hB
      have hk := hB.calm.of_drew
      clear hB z0 z1 z2 z3 z4 z5
      go_wp2_with fail
      go_roundw
      case rel => exact ⟨k + 1, by omega, by go_num, hv1.call hk, hN1⟩
      case measure => simp [intOf]; omega
    · have b2 : decide (Fol ⟨p', o', f', m', g', s'⟩ ⟨p, o, f, m, g, s⟩) = false := decide_eq_false hF
      rw [if_neg hF] at hS
      have K : Hid (3 = runErr l) := hS.symm.trans (runErr_at hbig hN (by rw [hS]; decide) hlt)
      clear hS hF hk0
      go_wp2_with (go_at_call 26; refine (elemCheck_any _ _ _ _ _ _ _).mono ?_; rintro e w1 ⟨rfl, hb1⟩)
      have hx := (hb1.block (k := wr.heap.size) (by simp)).trans (heap_new wr _)
      obtain ⟨x0, x1, x2, x3, x4, x5, hxs⟩ := row6 hx
      have hv := ((Calm.refl wr).alloc _).call hb1
      have hv1 := hu.call hv
      have hb2 : b < w1.heap.size := Nat.lt_of_lt_of_le hb hv.size
      have hvc := hv.facts.1
      replace d0 := (hvc _ _ hb).trans d0; replace d1 := (hvc _ _ hb).trans d1; replace d2 := (hvc _ _ hb).trans d2; replace d3 := (hvc _ _ hb).trans d3; replace d4 := (hvc _ _ hb).trans d4; replace d5 := (hvc _ _ hb).trans d5
      clear hvc hv hb1 hx c0 c1 c2 c3 c4 c5 b1 hL
      have F : ∀ u, Calls Try.prog 62 #[.agg #[.int .i64 p', .int .i64 o', .int .i64 f', .int .i64 m', .int .i64 g', .string s'], .agg #[.int .i64 p, .int .i64 o, .int .i64 f, .int .i64 m, .int .i64 g, .string s]] u fun e w' => e = .returned (.bool false) ∧ Calm u w' := fun u => by
        rw [← b2]; exact follows_any p' o' f' m' g' s' p o f m g s u
      clear b2
      have z0 : 0 < k := hk1
      have z1 : IntKind.i64.wrap ((k : Int) - 1) = (k : Int) - 1 := IntWalk.i64_in _ (by omega)
      have z2 : ((k : Int) - 1).toNat = k - 1 := by omega
      have z3 : 0 ≤ (k : Int) - 1 := by omega
      have z4 : (k : Int) - 1 < l.length := by omega
      have z5 : 1 ≤ (k : Int) := by omega
      refine wp_region_plan [.val (.int .i64 k), .val (.bool true), .val (.bool true), .val (.slice (some ⟨b, q, none⟩) l.length c), .val (.int .i64 k), .val (.int .i64 (k - 1)), .val (.pointer (some ⟨b, q + (k - 1) * 6, none⟩)), .val (.agg #[.int .i64 p', .int .i64 o', .int .i64 f', .int .i64 m', .int .i64 g', .string s']), .val (.agg #[.int .i64 p, .int .i64 o, .int .i64 f, .int .i64 m, .int .i64 g, .string s]), .val (.bool false), .val (.bool true), .val (.bool true)] (by kernel_rfl) (by kernel_rfl) (by kernel_rfl) ?_
      intro X
      iterate 12
        refine plan_val (by kernel_rfl) (fun u hu => ?_) ?_
        · obtain ⟨hc, hf, hz⟩ := hu.of_drew.facts
          go_simp
          all_goals first
            | (go_at_call 62; exact F _)
        simp only [Act.put, List.setIfInBounds_toArray, List.set_cons_zero, List.set_cons_succ, Nat.reduceAdd]
      refine plan_end ?_
      intro w' hB
      have hk := hB.calm.of_drew
      clear hB z0 z1 z2 z3 z4 z5
      go_wp2_with fail
      go_ret
      exact ⟨ret_int K.out, hv1.call hk⟩
open Go.RowKit
theorem str_ne {s s' : ByteArray} (h : ¬ s = s') : (s.toList == s'.toList) = false := by
 cases e : s.toList == s'.toList
 ·rfl
 ·exfalso
  have h2 := eq_of_beq e
  rw [ByteArray.toList_eq, ByteArray.toList_eq] at h2
  exact h (ByteArray.ext (Array.toList_inj.1 h2))
set_option maxHeartbeats 8000000 in
theorem equal_any (A A' : Option Addr) (c c' : Nat) (l l' : List El) (w : World) (hn : l.length ≤ 9223372036854775807) (_hn' : l'.length ≤ 9223372036854775807) (hL : Lies w A l) (hL' : Lies w A' l') :
    Calls Try.prog 15 #[.slice A l.length c, .slice A' l'.length c'] w fun e w' => e = .returned (.bool (decide (l = l'))) ∧ Calm w w' := by
  by_cases hll : l.length = l'.length
  rotate_left
  · have hd : decide (l = l') = false := decide_eq_false fun h => hll (by rw [h])
    have hz : ¬ (l.length : Int) = (l'.length : Int) := by omega
    rw [hd]
    clear hd hll hL hL'
    go_enter Try.func15, Try.ntmps15
    go_wp2_with fail
    go_ret
    exact ⟨rfl, Calm.refl _⟩
  have HD : Hid (decide (l = l') = decide (l = l')) := rfl
  generalize hr : decide (l = l') = r
  have HR : Hid (decide (l = l') = r) := hr
  clear hr HD
  obtain ⟨n, hn1⟩ : ∃ n, n = l.length := ⟨_, rfl⟩
  have hn2 : n = l'.length := hn1.trans hll
  rw [← hn1, ← hn2]
  rw [← hn1] at hn
  have HN1 : Hid (n = l.length) := hn1
  have HN2 : Hid (n = l'.length) := hn2
  clear hn1 hn2 hll
  go_enter Try.func15, Try.ntmps15
  go_wp2_with fail
  go_loopw [13] (fun i wr => ∃ k : Nat, k ≤ n ∧ i = .int .i64 k ∧ Calm w wr ∧ Hid (∀ j, j < k → l[j]? = l'[j]?)) (fun i _ => n - (intOf i).toNat)
  case atStart => exact ⟨0, Nat.zero_le _, rfl, Calm.refl _, show ∀ _, _ from fun j h => absurd h (Nat.not_lt_zero _)⟩
  case round =>
    obtain ⟨k, hk, rfl, hu, hN⟩ := hrel
    by_cases hlt : k < n
    rotate_left
    · have K : Hid (r = true) := by
        rw [← HR.out]
        refine decide_eq_true (List.ext_getElem? fun j => ?_)
        rcases Nat.lt_or_ge j k with h | h
        · exact hN.out j h
        · rw [List.getElem?_eq_none (by rw [← HN1.out]; omega), List.getElem?_eq_none (by rw [← HN2.out]; omega)]
      clear HR
      go_wp2_with fail
      go_ret
      exact ⟨by rw [K.out]; rfl, hu⟩
    obtain ⟨b, q, p, o, f, m, g, s, rfl, hb, HE, hm, c0, c1, c2, c3, c4, c5⟩ := (hL.calm hu).get (by rw [← HN1.out]; exact hlt)
    obtain ⟨b', q', p', o', f', m', g', s', rfl, hb', HE', hm', d0, d1, d2, d3, d4, d5⟩ := (hL'.calm hu).get (by rw [← HN2.out]; exact hlt)
    have hiz : (k : Int) < (n : Int) := by omega
    have hDF : (⟨p, o, f, m, g, s⟩ : El) ≠ ⟨p', o', f', m', g', s'⟩ → l ≠ l' := fun h h2 => by
      have h3 := HE.out; rw [h2, HE'.out] at h3; injection h3 with h3; exact h h3.symm
    have hN1 : (⟨p, o, f, m, g, s⟩ : El) = ⟨p', o', f', m', g', s'⟩ → Hid (∀ j, j < k + 1 → l[j]? = l'[j]?) := fun h => show ∀ _, _ from fun j hj => by
      rcases Nat.lt_or_ge j k with h2 | h2
      · exact hN.out j h2
      · rw [show j = k by omega, HE.out, HE'.out, h]
    have HR2 := HR.out
    clear hL hL' HE HE' hm hm'
    have hcs : ¬ p = p' ∨ (p = p' ∧ ¬ o = o') ∨ (p = p' ∧ o = o' ∧ ¬ f = f') ∨ (p = p' ∧ o = o' ∧ f = f' ∧ ¬ m = m') ∨ (p = p' ∧ o = o' ∧ f = f' ∧ m = m' ∧ ¬ g = g') ∨ (p = p' ∧ o = o' ∧ f = f' ∧ m = m' ∧ g = g' ∧ ¬ s = s') ∨ (p = p' ∧ o = o' ∧ f = f' ∧ m = m' ∧ g = g' ∧ s = s') := by
      by_cases e0 : p = p' <;> by_cases e1 : o = o' <;> by_cases e2 : f = f' <;> by_cases e3 : m = m' <;> by_cases e4 : g = g' <;> by_cases e5 : s = s' <;> simp [*]
    rcases hcs with h0 | ⟨h0, h1⟩ | ⟨h0, h1, h2⟩ | ⟨h0, h1, h2, h3⟩ | ⟨h0, h1, h2, h3, h4⟩ | ⟨h0, h1, h2, h3, h4, h5⟩ | ⟨h0, h1, h2, h3, h4, h5⟩
    · skip
      go_wp2_with fail
      refine wp_region_plan [.val (.slice (some ⟨b, q, none⟩) n c), .val (.int .i64 ((k : Int))), .val (.pointer (some ⟨b, q + k * 6, none⟩)), .val (.agg #[.int .i64 p, .int .i64 o, .int .i64 f, .int .i64 m, .int .i64 g, .string s]), .val (.slice (some ⟨b', q', none⟩) n c'), .val (.int .i64 ((k : Int))), .val (.pointer (some ⟨b', q' + k * 6, none⟩)), .val (.agg #[.int .i64 p', .int .i64 o', .int .i64 f', .int .i64 m', .int .i64 g', .string s']), .val (.bool true)] (by kernel_rfl) (by kernel_rfl) (by kernel_rfl) ?_
      intro X
      iterate 9
        refine plan_val (by kernel_rfl) (fun u hu => ?_) ?_
        · obtain ⟨hc, hf, hz⟩ := hu.of_drew.facts
          go_simp
        simp only [Act.put, List.setIfInBounds_toArray, List.set_cons_zero, List.set_cons_succ, Nat.reduceAdd]
      refine plan_end ?_
      intro w' hB
      have hk := hB.calm.of_drew
      clear hB
      go_wp2_with fail
      go_ret
      exact ⟨ret_bool ((decide_eq_false (hDF (by simp [*]))).symm.trans HR2), hu.call hk⟩
    · skip
      subst h0
      go_wp2_with fail
      refine wp_region_plan [.val (.slice (some ⟨b, q, none⟩) n c), .val (.int .i64 ((k : Int))), .val (.pointer (some ⟨b, q + k * 6, none⟩)), .val (.agg #[.int .i64 p, .int .i64 o, .int .i64 f, .int .i64 m, .int .i64 g, .string s]), .val (.slice (some ⟨b', q', none⟩) n c'), .val (.int .i64 ((k : Int))), .val (.pointer (some ⟨b', q' + k * 6, none⟩)), .val (.agg #[.int .i64 p, .int .i64 o', .int .i64 f', .int .i64 m', .int .i64 g', .string s']), .val (.bool true)] (by kernel_rfl) (by kernel_rfl) (by kernel_rfl) ?_
      intro X
      iterate 9
        refine plan_val (by kernel_rfl) (fun u hu => ?_) ?_
        · obtain ⟨hc, hf, hz⟩ := hu.of_drew.facts
          go_simp
        simp only [Act.put, List.setIfInBounds_toArray, List.set_cons_zero, List.set_cons_succ, Nat.reduceAdd]
      refine plan_end ?_
      intro w' hB
      have hk := hB.calm.of_drew
      clear hB
      go_wp2_with fail
      go_ret
      exact ⟨ret_bool ((decide_eq_false (hDF (by simp [*]))).symm.trans HR2), hu.call hk⟩
    · skip
      subst h0
      subst h1
      go_wp2_with fail
      refine wp_region_plan [.val (.slice (some ⟨b, q, none⟩) n c), .val (.int .i64 ((k : Int))), .val (.pointer (some ⟨b, q + k * 6, none⟩)), .val (.agg #[.int .i64 p, .int .i64 o, .int .i64 f, .int .i64 m, .int .i64 g, .string s]), .val (.slice (some ⟨b', q', none⟩) n c'), .val (.int .i64 ((k : Int))), .val (.pointer (some ⟨b', q' + k * 6, none⟩)), .val (.agg #[.int .i64 p, .int .i64 o, .int .i64 f', .int .i64 m', .int .i64 g', .string s']), .val (.bool true)] (by kernel_rfl) (by kernel_rfl) (by kernel_rfl) ?_
      intro X
      iterate 9
        refine plan_val (by kernel_rfl) (fun u hu => ?_) ?_
        · obtain ⟨hc, hf, hz⟩ := hu.of_drew.facts
          go_simp
        simp only [Act.put, List.setIfInBounds_toArray, List.set_cons_zero, List.set_cons_succ, Nat.reduceAdd]
      refine plan_end ?_
      intro w' hB
      have hk := hB.calm.of_drew
      clear hB
      go_wp2_with fail
      go_ret
      exact ⟨ret_bool ((decide_eq_false (hDF (by simp [*]))).symm.trans HR2), hu.call hk⟩
    · skip
      subst h0
      subst h1
      subst h2
      go_wp2_with fail
      refine wp_region_plan [.val (.slice (some ⟨b, q, none⟩) n c), .val (.int .i64 ((k : Int))), .val (.pointer (some ⟨b, q + k * 6, none⟩)), .val (.agg #[.int .i64 p, .int .i64 o, .int .i64 f, .int .i64 m, .int .i64 g, .string s]), .val (.slice (some ⟨b', q', none⟩) n c'), .val (.int .i64 ((k : Int))), .val (.pointer (some ⟨b', q' + k * 6, none⟩)), .val (.agg #[.int .i64 p, .int .i64 o, .int .i64 f, .int .i64 m', .int .i64 g', .string s']), .val (.bool true)] (by kernel_rfl) (by kernel_rfl) (by kernel_rfl) ?_
      intro X
      iterate 9
        refine plan_val (by kernel_rfl) (fun u hu => ?_) ?_
        · obtain ⟨hc, hf, hz⟩ := hu.of_drew.facts
          go_simp
        simp only [Act.put, List.setIfInBounds_toArray, List.set_cons_zero, List.set_cons_succ, Nat.reduceAdd]
      refine plan_end ?_
      intro w' hB
      have hk := hB.calm.of_drew
      clear hB
      go_wp2_with fail
      go_ret
      exact ⟨ret_bool ((decide_eq_false (hDF (by simp [*]))).symm.trans HR2), hu.call hk⟩
    · skip
      subst h0
      subst h1
      subst h2
      subst h3
      go_wp2_with fail
      refine wp_region_plan [.val (.slice (some ⟨b, q, none⟩) n c), .val (.int .i64 ((k : Int))), .val (.pointer (some ⟨b, q + k * 6, none⟩)), .val (.agg #[.int .i64 p, .int .i64 o, .int .i64 f, .int .i64 m, .int .i64 g, .string s]), .val (.slice (some ⟨b', q', none⟩) n c'), .val (.int .i64 ((k : Int))), .val (.pointer (some ⟨b', q' + k * 6, none⟩)), .val (.agg #[.int .i64 p, .int .i64 o, .int .i64 f, .int .i64 m, .int .i64 g', .string s']), .val (.bool true)] (by kernel_rfl) (by kernel_rfl) (by kernel_rfl) ?_
      intro X
      iterate 9
        refine plan_val (by kernel_rfl) (fun u hu => ?_) ?_
        · obtain ⟨hc, hf, hz⟩ := hu.of_drew.facts
          go_simp
        simp only [Act.put, List.setIfInBounds_toArray, List.set_cons_zero, List.set_cons_succ, Nat.reduceAdd]
      refine plan_end ?_
      intro w' hB
      have hk := hB.calm.of_drew
      clear hB
      go_wp2_with fail
      go_ret
      exact ⟨ret_bool ((decide_eq_false (hDF (by simp [*]))).symm.trans HR2), hu.call hk⟩
    · skip
      subst h0
      subst h1
      subst h2
      subst h3
      subst h4
      have hs1 : (s.toList == s'.toList) = false := str_ne h5
      go_wp2_with fail
      refine wp_region_plan [.val (.slice (some ⟨b, q, none⟩) n c), .val (.int .i64 ((k : Int))), .val (.pointer (some ⟨b, q + k * 6, none⟩)), .val (.agg #[.int .i64 p, .int .i64 o, .int .i64 f, .int .i64 m, .int .i64 g, .string s]), .val (.slice (some ⟨b', q', none⟩) n c'), .val (.int .i64 ((k : Int))), .val (.pointer (some ⟨b', q' + k * 6, none⟩)), .val (.agg #[.int .i64 p, .int .i64 o, .int .i64 f, .int .i64 m, .int .i64 g, .string s']), .val (.bool true)] (by kernel_rfl) (by kernel_rfl) (by kernel_rfl) ?_
      intro X
      iterate 9
        refine plan_val (by kernel_rfl) (fun u hu => ?_) ?_
        · obtain ⟨hc, hf, hz⟩ := hu.of_drew.facts
          go_simp
        simp only [Act.put, List.setIfInBounds_toArray, List.set_cons_zero, List.set_cons_succ, Nat.reduceAdd]
      refine plan_end ?_
      intro w' hB
      have hk := hB.calm.of_drew
      clear hB
      clear hs1
      go_wp2_with fail
      go_ret
      exact ⟨ret_bool ((decide_eq_false (hDF (by simp [*]))).symm.trans HR2), hu.call hk⟩
    · skip
      subst h0
      subst h1
      subst h2
      subst h3
      subst h4
      subst h5
      have hN2 := hN1 rfl
      clear hN1 hDF
      go_wp2_with fail
      refine wp_region_plan [.val (.slice (some ⟨b, q, none⟩) n c), .val (.int .i64 ((k : Int))), .val (.pointer (some ⟨b, q + k * 6, none⟩)), .val (.agg #[.int .i64 p, .int .i64 o, .int .i64 f, .int .i64 m, .int .i64 g, .string s]), .val (.slice (some ⟨b', q', none⟩) n c'), .val (.int .i64 ((k : Int))), .val (.pointer (some ⟨b', q' + k * 6, none⟩)), .val (.agg #[.int .i64 p, .int .i64 o, .int .i64 f, .int .i64 m, .int .i64 g, .string s]), .val (.bool false)] (by kernel_rfl) (by kernel_rfl) (by kernel_rfl) ?_
      intro X
      iterate 9
        refine plan_val (by kernel_rfl) (fun u hu => ?_) ?_
        · obtain ⟨hc, hf, hz⟩ := hu.of_drew.facts
          go_simp
        simp only [Act.put, List.setIfInBounds_toArray, List.set_cons_zero, List.set_cons_succ, Nat.reduceAdd]
      refine plan_end ?_
      intro w' hB
      have hk := hB.calm.of_drew
      clear hB
      go_wp2_with fail
      go_roundw
      case rel => exact ⟨k + 1, by omega, by go_num, hu.call hk, hN2⟩
      case measure => simp [intOf]; omega
theorem equal_self (A A' : Option Addr) (c c' : Nat) (l : List El) (w : World) (hn : l.length ≤ 9223372036854775807) (hL : Lies w A l) (hL' : Lies w A' l) :
    Calls Try.prog 15 #[.slice A l.length c, .slice A' l.length c'] w fun e w' => e = .returned (.bool true) ∧ Calm w w' := by
  have h := equal_any A A' c c' l l w hn hn hL hL'
  rw [decide_eq_true (rfl : l = l)] at h
  exact h
open Go.RowKit
set_option maxHeartbeats 2000000 in
theorem hasKids_any (kd : Int) (A1 A2 A3 A4 : Option Addr) (c1 c2 c3 c4 : Nat) (E : List El) (K : List Int) (S : List Sp) (T : List Int) (w : World) (hk : K.length ≤ 9223372036854775807) (hs : S.length ≤ 9223372036854775807) (ht : T.length ≤ 9223372036854775807) :
    Calls Try.prog 111 #[.agg #[.int .i64 kd, .slice A1 E.length c1, .slice A2 K.length c2, .slice A3 S.length c3, .slice A4 T.length c4]] w fun e w' => e = .returned (.bool (decide (0 < K.length ∨ 0 < S.length ∨ 0 < T.length))) ∧ Calm w w' := by
  have hx := heap_new w (.cells #[.int .i64 kd, .slice A1 E.length c1, .slice A2 K.length c2, .slice A3 S.length c3, .slice A4 T.length c4] 32)
  have hu := (Calm.refl w).alloc (.cells #[.int .i64 kd, .slice A1 E.length c1, .slice A2 K.length c2, .slice A3 S.length c3, .slice A4 T.length c4] 32)
  obtain ⟨x0, x1, x2, x3, x4, hxs⟩ := row5 hx
  clear hx
  generalize K.length = nk at *
  generalize S.length = ns at *
  generalize T.length = nt at *
  go_enter Try.func111, Try.ntmps111
  go_wp2
  all_goals
    go_ret
    exact ⟨ret_bool (Bool.eq_iff_iff.2 (by simp at * <;> omega)), (Calm.refl _).alloc _⟩
set_option maxHeartbeats 2000000 in
theorem checkFree_any (kd : Int) (A1 A2 A3 A4 : Option Addr) (c1 c2 c3 c4 : Nat) (E : List El) (K : List Int) (S : List Sp) (T : List Int) (w : World) (he : E.length ≤ 9223372036854775807) (hk : K.length ≤ 9223372036854775807) (hs : S.length ≤ 9223372036854775807) (ht : T.length ≤ 9223372036854775807) :
    Calls Try.prog 71 #[.agg #[.int .i64 kd, .slice A1 E.length c1, .slice A2 K.length c2, .slice A3 S.length c3, .slice A4 T.length c4]] w fun e w' => e = .returned (.int .i64 (freeErr E K S T)) ∧ Calm w w' := by
  have hx := heap_new w (.cells #[.int .i64 kd, .slice A1 E.length c1, .slice A2 K.length c2, .slice A3 S.length c3, .slice A4 T.length c4] 32)
  have hu := (Calm.refl w).alloc (.cells #[.int .i64 kd, .slice A1 E.length c1, .slice A2 K.length c2, .slice A3 S.length c3, .slice A4 T.length c4] 32)
  have cH := fun u => hasKids_any kd A1 A2 A3 A4 c1 c2 c3 c4 E K S T u hk hs ht
  have hG : Hid (freeErr E K S T = if 0 < E.length ∨ decide (0 < K.length ∨ 0 < S.length ∨ 0 < T.length) = true then 3 else 0) := by show _ = _; unfold freeErr; simp
  generalize freeErr E K S T = R at hG ⊢
  generalize decide (0 < K.length ∨ 0 < S.length ∨ 0 < T.length) = b at cH hG
  obtain ⟨x0, x1, x2, x3, x4, hxs⟩ := row5 hx
  clear hx
  generalize E.length = ne at *
  rcases Nat.eq_zero_or_pos ne with rfl | h0
  · cases b
    all_goals
      go_enter Try.func71, Try.ntmps71
      go_wp2_with (go_at_call 111; (with_reducible refine (cH _).mono ?_); rintro e w1 ⟨rfl, hb1⟩; replace hu := hu.call hb1; clear hb1)
      go_ret
      exact ⟨ret_int (by rw [hG.out]; simp), hu⟩
  · go_enter Try.func71, Try.ntmps71
    go_wp2_with fail
    go_ret
    exact ⟨ret_int (by rw [hG.out]; simp [h0]), hu⟩
open Go.RowKit
theorem ge_rise (p' o' f' m' g' : Int) (s' : ByteArray) (p o f m g : Int) (s : ByteArray) : decide (0 ≤ scmp p' o' f' m' p o f m) = !decide (Rise ⟨p', o', f', m', g', s'⟩ ⟨p, o, f, m, g, s⟩) := by
 have h := scmp_sLt (a := ⟨p', o', f', m', g', s'⟩) (b := ⟨p, o, f, m, g, s⟩)
 simp only at h
 have h2 : Rise ⟨p', o', f', m', g', s'⟩ ⟨p, o, f, m, g, s⟩ ↔ scmp p' o' f' m' p o f m = -1 := h.symm
 rw [Bool.eq_iff_iff, decide_eq_true_eq, Bool.not_eq_true', decide_eq_false_iff_not, h2]
 rcases scmp_or p' o' f' m' p o f m with h1 | h1 | h1 <;> rw [h1] <;> omega
set_option maxHeartbeats 4000000 in
theorem checkElems_any (A : Option Addr) (c : Nat) (l : List El) (w : World) (hn : l.length ≤ 9223372036854775807) (hL : Lies w A l) :
    Calls Try.prog 112 #[.slice A l.length c] w fun e w' => e = .returned (.int .i64 (elsErr l)) ∧ Calm w w' := by
  go_enter Try.func112, Try.ntmps112
  go_wp2_with fail
  go_loopw [8] (fun i wr => ∃ k : Nat, k ≤ l.length ∧ i = .int .i64 k ∧ Calm w wr ∧ NoStep l k) (fun i _ => l.length - (intOf i).toNat)
  case atStart => exact ⟨0, Nat.zero_le _, rfl, Calm.refl _, NoStep.zero l⟩
  case round =>
    obtain ⟨k, hk, rfl, hu, hN⟩ := hrel
    by_cases hlt : k < l.length
    rotate_left
    · have K : Hid (0 = elsErr l) := hN.good (by omega)
      go_wp2_with fail
      go_ret
      exact ⟨ret_int K.out, hu⟩
    obtain ⟨b, q, p, o, f, m, g, s, rfl, hb, HE, hm, c0, c1, c2, c3, c4, c5⟩ := (hL.calm hu).get hlt
    by_cases he : elemErr p o f m g s.size = 0
    rotate_left
    · have b1 : (elemErr p o f m g s.size != 0) = true := by simpa using he
      have K : Hid (elemErr p o f m g s.size = elsErr l) := by
        have h1 := sStep_err HE.out (show El.err ⟨p, o, f, m, g, s⟩ ≠ 0 from he)
        rw [← hN.bad (by rw [h1]; exact he) hlt, h1]; rfl
      clear he
      go_wp2_with (go_at_call 26; refine (elemCheck_any _ _ _ _ _ _ _).mono ?_; rintro e w1 ⟨rfl, hb1⟩)
      go_ret
      exact ⟨ret_int K.out, by repeat (first | (with_reducible exact Calm.refl _) | (with_reducible refine Calm.alloc ?_ _) | (with_reducible refine Calm.drew ?_) | (with_reducible refine Calm.drewN ?_ _) | (refine Calm.call ?_ (by with_reducible assumption)))⟩
    have b1 : (elemErr p o f m g s.size != 0) = false := by simpa using he
    have HE0 : Hid (elemErr p o f m g s.size = 0) := he
    clear he
    by_cases hk0 : k = 0
    · subst hk0
      have hN1 : NoStep l 1 := hN.succ (sStep_first HE.out HE0.out)
      simp only [Nat.zero_mul, Nat.add_zero] at c0 c1 c2 c3 c4 c5
      go_wp2_with (go_at_call 26; refine (elemCheck_any _ _ _ _ _ _ _).mono ?_; rintro e w1 ⟨rfl, hb1⟩)
      refine wp_region_plan [.val (.int .i64 (0)), .val (.bool false), .val (.bool false), .idle, .idle, .idle, .idle, .idle, .idle, .idle, .idle, .idle, .idle, .val (.bool false)] (by kernel_rfl) (by kernel_rfl) (by kernel_rfl) ?_
      intro X
      iterate 3
        refine plan_val (by kernel_rfl) (fun u hu => ?_) ?_
        · obtain ⟨hc, hf, hz⟩ := hu.of_drew.facts
          go_simp
        simp only [Act.put, List.setIfInBounds_toArray, List.set_cons_zero, List.set_cons_succ, Nat.reduceAdd]
      iterate 10
        refine plan_idle (by kernel_rfl) ?_
        simp only [Act.put, List.setIfInBounds_toArray, List.set_cons_zero, List.set_cons_succ, Nat.reduceAdd]
      iterate 1
        refine plan_val (by kernel_rfl) (fun u hu => ?_) ?_
        · obtain ⟨hc, hf, hz⟩ := hu.of_drew.facts
          go_simp
        simp only [Act.put, List.setIfInBounds_toArray, List.set_cons_zero, List.set_cons_succ, Nat.reduceAdd]
      refine plan_end ?_
      intro w' hB
      have hk := hB.calm.of_drew
      clear hB
      go_wp2_with fail
      exact ⟨⟨1, by omega, rfl, ((hu.alloc _).call hb1).call hk, hN1⟩, by simp [intOf]; omega⟩
    obtain ⟨p', o', f', m', g', s', HE', hm', d0, d1, d2, d3, d4, d5⟩ := (hL.calm hu).get2 (k := k - 1) (by omega)
    have hS := sStep_form HE.out HE0.out (by omega) HE'.out
    have hk1 : 1 ≤ k := by omega
    have hge := ge_rise p' o' f' m' g' s' p o f m g s
    have cS := fun u => cmpSpot_any p' o' f' m' p o f m u
    generalize scmp p' o' f' m' p o f m = C at hge cS
    by_cases hF : Rise ⟨p', o', f', m', g', s'⟩ ⟨p, o, f, m, g, s⟩
    · rw [if_pos hF] at hS
      rw [decide_eq_true hF] at hge
      have hC : ¬ 0 ≤ C := by simpa using hge
      have hN1 : NoStep l (k + 1) := hN.succ hS
      clear hS hF hk0 hge
      go_wp2_with (go_at_call 26; refine (elemCheck_any _ _ _ _ _ _ _).mono ?_; rintro e w1 ⟨rfl, hb1⟩)
      have hx := (hb1.block (k := wr.heap.size) (by simp)).trans (heap_new wr _)
      obtain ⟨x0, x1, x2, x3, x4, x5, hxs⟩ := row6 hx
      have hv := ((Calm.refl wr).alloc _).call hb1
      have hv1 := hu.call hv
      have hb2 : b < w1.heap.size := Nat.lt_of_lt_of_le hb hv.size
      have hvc := hv.facts.1
      replace d0 := (hvc _ _ hb).trans d0; replace d1 := (hvc _ _ hb).trans d1; replace d2 := (hvc _ _ hb).trans d2; replace d3 := (hvc _ _ hb).trans d3; replace d4 := (hvc _ _ hb).trans d4; replace d5 := (hvc _ _ hb).trans d5
      clear hvc hv hb1 hx c0 c1 c2 c3 c4 c5 b1 hL
      have z0 : 0 < k := hk1
      have z1 : IntKind.i64.wrap ((k : Int) - 1) = (k : Int) - 1 := IntWalk.i64_in _ (by omega)
      have z2 : ((k : Int) - 1).toNat = k - 1 := by omega
      have z3 : 0 ≤ (k : Int) - 1 := by omega
      have z4 : (k : Int) - 1 < l.length := by omega
      have z5 : 1 ≤ (k : Int) := by omega
      refine wp_region_plan [.val (.int .i64 (k)), .val (.bool true), .val (.bool true), .val (.slice (some ⟨b, q, none⟩) l.length c), .val (.int .i64 (k)), .val (.int .i64 ((k : Int) - 1)), .val (.pointer (some ⟨b, q + (k - 1) * 6, none⟩)), .val (.agg #[.int .i64 p', .int .i64 o', .int .i64 f', .int .i64 m', .int .i64 g', .string s']), .val (.agg #[.int .i64 p', .int .i64 o', .int .i64 f', .int .i64 m']), .val (.agg #[.int .i64 p, .int .i64 o, .int .i64 f, .int .i64 m, .int .i64 g, .string s]), .val (.agg #[.int .i64 p, .int .i64 o, .int .i64 f, .int .i64 m]), .val (.int .i64 (C)), .val (.bool false), .val (.bool false)] (by kernel_rfl) (by kernel_rfl) (by kernel_rfl) ?_
      intro X
      iterate 14
        refine plan_val (by kernel_rfl) (fun u hu => ?_) ?_
        · obtain ⟨hc, hf, hz⟩ := hu.of_drew.facts
          go_simp
          all_goals first
            | ((go_at_call 28; exact spot_any _ _ _ _ _ _ _))
            | ((go_at_call 102; exact cS _))
        simp only [Act.put, List.setIfInBounds_toArray, List.set_cons_zero, List.set_cons_succ, Nat.reduceAdd]
      refine plan_end ?_
      intro w' hB
      have hk := hB.calm.of_drew
      clear hB
      clear z0 z1 z2 z3 z4 z5
      go_wp2_with fail
      go_roundw
      case rel => exact ⟨k + 1, by omega, by go_num, hv1.call hk, hN1⟩
      case measure => simp [intOf]; omega
    · rw [if_neg hF] at hS
      rw [decide_eq_false hF] at hge
      have hC : 0 ≤ C := by simpa using hge
      have K : Hid (3 = elsErr l) := hS.symm.trans (hN.bad (by rw [hS]; decide) hlt)
      clear hS hF hk0 hge
      go_wp2_with (go_at_call 26; refine (elemCheck_any _ _ _ _ _ _ _).mono ?_; rintro e w1 ⟨rfl, hb1⟩)
      have hx := (hb1.block (k := wr.heap.size) (by simp)).trans (heap_new wr _)
      obtain ⟨x0, x1, x2, x3, x4, x5, hxs⟩ := row6 hx
      have hv := ((Calm.refl wr).alloc _).call hb1
      have hv1 := hu.call hv
      have hb2 : b < w1.heap.size := Nat.lt_of_lt_of_le hb hv.size
      have hvc := hv.facts.1
      replace d0 := (hvc _ _ hb).trans d0; replace d1 := (hvc _ _ hb).trans d1; replace d2 := (hvc _ _ hb).trans d2; replace d3 := (hvc _ _ hb).trans d3; replace d4 := (hvc _ _ hb).trans d4; replace d5 := (hvc _ _ hb).trans d5
      clear hvc hv hb1 hx c0 c1 c2 c3 c4 c5 b1 hL
      have z0 : 0 < k := hk1
      have z1 : IntKind.i64.wrap ((k : Int) - 1) = (k : Int) - 1 := IntWalk.i64_in _ (by omega)
      have z2 : ((k : Int) - 1).toNat = k - 1 := by omega
      have z3 : 0 ≤ (k : Int) - 1 := by omega
      have z4 : (k : Int) - 1 < l.length := by omega
      have z5 : 1 ≤ (k : Int) := by omega
      refine wp_region_plan [.val (.int .i64 (k)), .val (.bool true), .val (.bool true), .val (.slice (some ⟨b, q, none⟩) l.length c), .val (.int .i64 (k)), .val (.int .i64 ((k : Int) - 1)), .val (.pointer (some ⟨b, q + (k - 1) * 6, none⟩)), .val (.agg #[.int .i64 p', .int .i64 o', .int .i64 f', .int .i64 m', .int .i64 g', .string s']), .val (.agg #[.int .i64 p', .int .i64 o', .int .i64 f', .int .i64 m']), .val (.agg #[.int .i64 p, .int .i64 o, .int .i64 f, .int .i64 m, .int .i64 g, .string s]), .val (.agg #[.int .i64 p, .int .i64 o, .int .i64 f, .int .i64 m]), .val (.int .i64 (C)), .val (.bool true), .val (.bool true)] (by kernel_rfl) (by kernel_rfl) (by kernel_rfl) ?_
      intro X
      iterate 14
        refine plan_val (by kernel_rfl) (fun u hu => ?_) ?_
        · obtain ⟨hc, hf, hz⟩ := hu.of_drew.facts
          go_simp
          all_goals first
            | ((go_at_call 28; exact spot_any _ _ _ _ _ _ _))
            | ((go_at_call 102; exact cS _))
        simp only [Act.put, List.setIfInBounds_toArray, List.set_cons_zero, List.set_cons_succ, Nat.reduceAdd]
      refine plan_end ?_
      intro w' hB
      have hk := hB.calm.of_drew
      clear hB
      clear z0 z1 z2 z3 z4 z5
      go_wp2_with fail
      go_ret
      exact ⟨ret_int K.out, hv1.call hk⟩
open Go.RowKit
def nilE : El := ⟨0, 0, 0, 0, 0, { data := #[] }⟩
def cellsL (l : List El) : List Value := l.flatMap El.cells
theorem cellsL_length (l : List El) : (cellsL l).length = l.length * 6 := by
 induction l with
 |nil => rfl
 |cons a l ih => simp [cellsL] at ih ⊢; rw [ih]; simp [El.cells]; omega
theorem cellsL_get (l : List El) : ∀ (i j : Nat), j < 6 → (cellsL l)[i * 6 + j]? = (l[i]?).bind fun e => e.cells[j]? := by
 induction l with
 |nil => intro i j _; simp [cellsL]
 |cons a l ih =>
  intro i j hj
  have e : cellsL (a :: l) = a.cells ++ cellsL l := by simp [cellsL]
  have h6 : a.cells.length = 6 := rfl
  rw [e]
  cases i with
  |zero => rw [List.getElem?_append_left (by omega)]; simp
  |succ i =>
   rw [List.getElem?_append_right (by omega), h6, show (i + 1) * 6 + j - 6 = i * 6 + j from by omega, ih i j hj]
   simp
def RowE (w : World) (g : Nat) (l : List El) : Prop := w.heap[g]? = some (.cells (cellsL l).toArray 43 (0, 0))
theorem RowE.lt {w : World} {g : Nat} {l : List El} (h : RowE w g l) : g < w.heap.size := (Array.getElem?_eq_some_iff.1 h).1
theorem RowE.calm {w w' : World} {g : Nat} {l : List El} (h : RowE w g l) (hb : Calm w w') : RowE w' g l := (hb.block h.lt).trans h
theorem RowE.cell {w : World} {g : Nat} {l : List El} (h : RowE w g l) {i j : Nat} (hj : j < 6) : w.cell? ⟨g, i * 6 + j, none⟩ = (l[i]?).bind fun e => e.cells[j]? := by
 rw [cell_of_row _ _ _ _ _ _ h, List.getElem?_toArray, cellsL_get _ _ _ hj]
theorem RowE.free {w : World} {g : Nat} {l : List El} (h : RowE w g l) (o : Nat) : w.frozen? ⟨g, o, none⟩ = false := frozen_of_row _ _ _ _ _ h
theorem RowE.lies {w : World} {g : Nat} {l : List El} (h : RowE w g l) (hw : ∀ e ∈ l, e.wf) : Lies w (some ⟨g, 0, none⟩) l := by
 refine ⟨hw, fun _ => ⟨g, 0, rfl, h.lt, fun k e he => ?_⟩⟩
 have c := fun j (hj : j < 6) => h.cell (i := k) hj
 simp only [he, Option.bind_some] at c
 refine ⟨?_, ?_, ?_, ?_, ?_, ?_⟩
 ·rw [Nat.zero_add]; exact c 0 (by omega)
 ·rw [Nat.zero_add]; exact c 1 (by omega)
 ·rw [Nat.zero_add]; exact c 2 (by omega)
 ·rw [Nat.zero_add]; exact c 3 (by omega)
 ·rw [Nat.zero_add]; exact c 4 (by omega)
 ·rw [Nat.zero_add]; exact c 5 (by omega)
theorem cellsL_append (a b : List El) : cellsL (a ++ b) = cellsL a ++ cellsL b := by simp [cellsL]
theorem set_sixth (X Y : List Value) (n i : Nat) (hX : X.length = n) (v : Value) : (X ++ Y).set (n + i) v = X ++ Y.set i v := by
 rw [List.set_append_right _ _ (by omega), hX, Nat.add_sub_cancel_left]
theorem six_set {l : List El} {j : Nat} (hj : j < l.length) (e : El) :
    ((((((cellsL l).set (j * 6) (.int .i64 e.p)).set (j * 6 + 1) (.int .i64 e.o)).set (j * 6 + 2) (.int .i64 e.f)).set (j * 6 + 3) (.int .i64 e.m)).set (j * 6 + 4) (.int .i64 e.g)).set (j * 6 + 5) (.string e.s) = cellsL (l.set j e) := by
  have hl : cellsL l = cellsL (l.take j) ++ (l[j].cells ++ cellsL (l.drop (j + 1))) := by
    have h1 : l = l.take j ++ l[j] :: l.drop (j + 1) := by rw [← List.drop_eq_getElem_cons hj, List.take_append_drop]
    calc cellsL l = cellsL (l.take j ++ l[j] :: l.drop (j + 1)) := congrArg cellsL h1
      _ = _ := by rw [cellsL_append, show cellsL (l[j] :: l.drop (j + 1)) = l[j].cells ++ cellsL (l.drop (j + 1)) from rfl]
  have hs : cellsL (l.set j e) = cellsL (l.take j) ++ (e.cells ++ cellsL (l.drop (j + 1))) := by
    rw [List.set_eq_take_append_cons_drop, if_pos hj, cellsL_append]; simp [cellsL]
  have hX : (cellsL (l.take j)).length = j * 6 := by rw [cellsL_length, List.length_take]; omega
  rw [hl, hs]
  generalize cellsL (l.take j) = X at hX
  generalize cellsL (l.drop (j + 1)) = Y
  rw [show (X ++ (l[j].cells ++ Y)).set (j * 6) (.int .i64 e.p) = X ++ (l[j].cells ++ Y).set 0 (.int .i64 e.p) from set_sixth X _ _ 0 hX _, set_sixth _ _ _ 1 hX, set_sixth _ _ _ 2 hX, set_sixth _ _ _ 3 hX, set_sixth _ _ _ 4 hX, set_sixth _ _ _ 5 hX]
  rfl
/-- The record at j stored anew. -/
theorem RowE.six {w : World} {g : Nat} {l : List El} (h : RowE w g l) {j : Nat} (hj : j < l.length) (e : El) :
    RowE ((((((w.setCell ⟨g, j * 6, none⟩ (.int .i64 e.p)).setCell ⟨g, j * 6 + 1, none⟩ (.int .i64 e.o)).setCell ⟨g, j * 6 + 2, none⟩ (.int .i64 e.f)).setCell ⟨g, j * 6 + 3, none⟩ (.int .i64 e.m)).setCell ⟨g, j * 6 + 4, none⟩ (.int .i64 e.g)).setCell ⟨g, j * 6 + 5, none⟩ (.string e.s)) g (l.set j e) := by
  have h1 := heap_setCell_same w g (j * 6) _ _ (.int .i64 e.p) h
  have h2 := heap_setCell_same _ g (j * 6 + 1) _ _ (.int .i64 e.o) h1
  have h3 := heap_setCell_same _ g (j * 6 + 2) _ _ (.int .i64 e.f) h2
  have h4 := heap_setCell_same _ g (j * 6 + 3) _ _ (.int .i64 e.m) h3
  have h5 := heap_setCell_same _ g (j * 6 + 4) _ _ (.int .i64 e.g) h4
  have h6 := heap_setCell_same _ g (j * 6 + 5) _ _ (.string e.s) h5
  simp only [List.setIfInBounds_toArray, six_set hj e] at h6
  exact h6
theorem infoElem6 : (Try.prog.info? 43).map (fun i => (i.zero, i.size, i.bytes)) = some (some (.agg #[.int .i64 0, .int .i64 0, .int .i64 0, .int .i64 0, .int .i64 0, .string { data := #[] }]), 6, 56) := by kernel_rfl
/-- make([]api.Elem, k). -/
theorem makeElems (w : World) (k : Nat) (hk : k ≤ 400) : (Instr.makeSlice 28 (.int .i64 (k : Int)) (.int .i64 (k : Int))).run Try.prog w =
    .ok (.slice (some ⟨w.heap.size, 0, none⟩) k k) (w.alloc (.cells (cellsL (List.replicate k nilE)).toArray 43)) := by
  obtain ⟨i, hi, hz, h1, h2⟩ : ∃ i, Try.prog.info? 43 = some i ∧ i.zero = some (.agg #[.int .i64 0, .int .i64 0, .int .i64 0, .int .i64 0, .int .i64 0, .string { data := #[] }]) ∧ i.size = 6 ∧ i.bytes = 56 := by
    have h := infoElem6
    match hi : Try.prog.info? 43, h with
    | some i, h =>
      simp only [Option.map_some, Option.some.injEq, Prod.mk.injEq] at h
      exact ⟨i, rfl, h.1, h.2.1, h.2.2⟩
  rw [run_make w 28 43 i _ Try.underlying28 hi hz .i64 .i64 k k (by omega) (by omega) (by rw [h2]; omega) (by omega), h1]
  have e : madeCells (Value.agg #[.int .i64 0, .int .i64 0, .int .i64 0, .int .i64 0, .int .i64 0, .string { data := #[] }]).cells (((k : Int)).toNat * 6) = (cellsL (List.replicate k nilE)).toArray := by
    rw [Int.toNat_natCast]
    apply Array.toList_inj.1
    apply List.ext_getElem?
    intro n
    rw [← Nat.div_add_mod' n 6, List.toList_toArray, cellsL_get _ _ _ (Nat.mod_lt _ (by omega)), List.getElem?_replicate]
    simp only [madeCells, Array.toList_map, Array.toList_range, List.getElem?_map, Value.cells]
    by_cases h : n / 6 < k
    · rw [if_pos h, List.getElem?_range (by omega)]
      have h6 : (n / 6 * 6 + n % 6) % 6 = n % 6 := by omega
      have h7 := Nat.mod_lt n (show 0 < 6 by omega)
      simp only [Option.map_some, Option.bind_some, nilE, El.cells]
      rw [show (#[Value.int IntKind.i64 0, Value.int IntKind.i64 0, Value.int IntKind.i64 0, Value.int IntKind.i64 0, Value.int IntKind.i64 0, Value.string { data := #[] }] : Array Value).size = 6 from rfl, h6]
      generalize n % 6 = j at h7
      match j, h7 with
      | 0, _ => rfl
      | 1, _ => rfl
      | 2, _ => rfl
      | 3, _ => rfl
      | 4, _ => rfl
      | 5, _ => rfl
    · rw [if_neg h, List.getElem?_eq_none (by simp; omega)]; rfl
  rw [e]; rfl
def laidL (S : List Sp) (k : Nat) : List El := (S.take k).map Sp.el ++ List.replicate (S.length - k) nilE
theorem laidL_length {S : List Sp} {k : Nat} (h : k ≤ S.length) : (laidL S k).length = S.length := by simp [laidL]; omega
theorem laidL_succ {S : List Sp} {k : Nat} {s : Sp} (h : S[k]? = some s) : (laidL S k).set k s.el = laidL S (k + 1) := by
 have hk : k < S.length := (List.getElem?_eq_some_iff.1 h).1
 have hs : S[k] = s := (List.getElem?_eq_some_iff.1 h).2
 have hl : ((S.take k).map Sp.el).length = k := by simp; omega
 unfold laidL
 rw [List.set_append_right _ _ (by omega), hl, Nat.sub_self, show S.length - k = (S.length - (k + 1)) + 1 from by omega, List.replicate_succ, List.set_cons_zero, List.take_succ_eq_append_getElem hk, List.map_append, List.append_assoc, hs]
 rfl
set_option maxHeartbeats 4000000 in
theorem records_any (A : Option Addr) (c : Nat) (S : List Sp) (w : World) (hn : S.length ≤ 400) (hL : LiesS w A S) :
    Calls Try.prog 113 #[.slice A S.length c] w fun e w' => ∃ g, e = .returned (.slice (some ⟨g, 0, none⟩) S.length S.length) ∧ Lies w' (some ⟨g, 0, none⟩) (S.map Sp.el) ∧ Calm w w' := by
  have hmk := makeElems w S.length hn
  have hwf : ∀ e ∈ S.map Sp.el, e.wf := fun e he => by
    obtain ⟨x, hx, rfl⟩ := List.mem_map.1 he
    exact hL.1 x hx
  go_enter Try.func113, Try.ntmps113
  go_wp2_with fail
  go_loopw [11] (fun i wr => ∃ k : Nat, k ≤ S.length ∧ i = .int .i64 k ∧ Calm w wr ∧ RowE wr w.heap.size (laidL S k)) (fun i _ => S.length - (intOf i).toNat)
  case atStart => exact ⟨0, Nat.zero_le _, rfl, (Calm.refl _).alloc _, by unfold laidL RowE; simpa using heap_new w (.cells (cellsL (List.replicate S.length nilE)).toArray 43)⟩
  case round =>
    obtain ⟨k, hk, rfl, hu, hR⟩ := hrel
    by_cases hlt : k < S.length
    rotate_left
    · obtain rfl : k = S.length := by omega
      rw [laidL, List.take_of_length_le (Nat.le_refl _), Nat.sub_self, List.replicate_zero, List.append_nil] at hR
      go_wp2_with fail
      go_ret
      exact ⟨_, rfl, hR.lies hwf, hu⟩
    obtain ⟨b, q, p, o, f, m, rfl, hb, HE, hm, c0, c1, c2, c3⟩ := (hL.calm hu).get hlt
    go_upto_region 5 with fail
    have hx := heap_new wr (.cells #[.int .i64 p, .int .i64 o, .int .i64 f, .int .i64 m] 62)
    have hv := (Calm.refl wr).alloc (.cells #[.int .i64 p, .int .i64 o, .int .i64 f, .int .i64 m] 62)
    generalize wr.alloc (.cells #[.int .i64 p, .int .i64 o, .int .i64 f, .int .i64 m] 62) = wz at hx hv ⊢
    obtain ⟨x0, x1, x2, x3, hxs⟩ := row4 hx
    have hRz := hR.calm hv
    have hlen : k < (laidL S k).length := by rw [laidL_length (by omega)]; exact hlt
    have hC := fun j (hj : j < 6) => hRz.cell (i := k) hj
    simp only [List.getElem?_eq_getElem hlen, Option.bind_some, El.cells] at hC
    have d0 := hC 0 (by omega)
    have d1 := hC 1 (by omega)
    have d2 := hC 2 (by omega)
    have d3 := hC 3 (by omega)
    have d4 := hC 4 (by omega)
    have d5 := hC 5 (by omega)
    simp only [Nat.add_zero, List.getElem?_cons_zero, List.getElem?_cons_succ] at d0 d1 d2 d3 d4 d5
    have f0 := hRz.free (k * 6)
    have f1 := hRz.free (k * 6 + 1)
    have f2 := hRz.free (k * 6 + 2)
    have f3 := hRz.free (k * 6 + 3)
    have f4 := hRz.free (k * 6 + 4)
    have f5 := hRz.free (k * 6 + 5)
    have hR2 := hRz.six hlen (Sp.el ⟨p, o, f, m⟩)
    rw [laidL_succ HE.out] at hR2
    have hu2 := ((((((hu.call hv).setCell (p := ⟨w.heap.size, k * 6, none⟩) (Nat.le_refl _) (.int .i64 p)).setCell (p := ⟨w.heap.size, k * 6 + 1, none⟩) (Nat.le_refl _) (.int .i64 o)).setCell (p := ⟨w.heap.size, k * 6 + 2, none⟩) (Nat.le_refl _) (.int .i64 f)).setCell (p := ⟨w.heap.size, k * 6 + 3, none⟩) (Nat.le_refl _) (.int .i64 m)).setCell (p := ⟨w.heap.size, k * 6 + 4, none⟩) (Nat.le_refl _) (.int .i64 0)).setCell (p := ⟨w.heap.size, k * 6 + 5, none⟩) (Nat.le_refl _) (.string { data := #[] })
    generalize (laidL S k)[k] = z at d0 d1 d2 d3 d4 d5
    clear hC hRz hv hx hR
    have H2 := Lib.hid hR2
    have U2 := Lib.hid hu2
    clear hR2 hu2
    go_wp2_with fail
    go_roundw
    case rel => exact ⟨k + 1, by omega, by go_num, U2.out, H2.out⟩
    case measure => simp [intOf]; omega
open Go.RowKit
set_option maxHeartbeats 4000000 in
theorem checkLeaf_any (kd : Int) (A1 A2 A3 A4 : Option Addr) (c1 c2 c3 c4 : Nat) (E : List El) (K : List Int) (S : List Sp) (T : List Int) (w : World) (h : NdAt w A1 A2 A3 A4 E K S T) :
    Calls Try.prog 72 #[.agg #[.int .i64 kd, .slice A1 E.length c1, .slice A2 K.length c2, .slice A3 S.length c3, .slice A4 T.length c4]] w fun e w' => e = .returned (.int .i64 (leafErr E K S T)) ∧ Calm w w' := by
  have cH := fun u => hasKids_any kd A1 A2 A3 A4 c1 c2 c3 c4 E K S T u h.nk h.ns h.nt
  have hx := heap_new w (.cells #[.int .i64 kd, .slice A1 E.length c1, .slice A2 K.length c2, .slice A3 S.length c3, .slice A4 T.length c4] 32)
  have hu := (Calm.refl w).alloc (.cells #[.int .i64 kd, .slice A1 E.length c1, .slice A2 K.length c2, .slice A3 S.length c3, .slice A4 T.length c4] 32)
  have hne := h.ne
  by_cases hB : 0 < K.length ∨ 0 < S.length ∨ 0 < T.length
  · have hG : Hid (3 = leafErr E K S T) := (if_pos hB).symm
    rw [decide_eq_true hB] at cH
    clear hB
    go_enter Try.func72, Try.ntmps72
    go_wp2_with (go_at_call 111; (with_reducible refine (cH _).mono ?_); rintro e w1 ⟨rfl, hb1⟩; replace hu := hu.call hb1; clear hb1)
    go_ret
    exact ⟨ret_int hG.out, hu⟩
  rw [decide_eq_false hB] at cH
  by_cases h8 : 8 < E.length
  · have hG : Hid (2 = leafErr E K S T) := by show _ = _; unfold leafErr; rw [if_neg hB, if_pos h8]
    have h8' : (8 : Int) < E.length := by omega
    clear hB h8
    go_enter Try.func72, Try.ntmps72
    go_wp2_with (go_at_call 111; (with_reducible refine (cH _).mono ?_); rintro e w1 ⟨rfl, hb1⟩; replace hu := hu.call hb1; replace hx := (hb1.block (row5 hx).2.2.2.2.2).trans hx; clear hb1; obtain ⟨x0, x1, x2, x3, x4, hxs⟩ := row5 hx)
    go_ret
    exact ⟨ret_int hG.out, hu⟩
  have hG : Hid (elsErr E = leafErr E K S T) := by show _ = _; unfold leafErr; rw [if_neg hB, if_neg h8]
  have h8' : (E.length : Int) ≤ 8 := by omega
  have hL : Hid (Lies w A1 E) := h.e
  clear hB h8
  go_enter Try.func72, Try.ntmps72
  go_wp2_with (first
    | (go_at_call 111; (with_reducible refine (cH _).mono ?_); rintro e w1 ⟨rfl, hb1⟩; replace hu := hu.call hb1; replace hx := (hb1.block (row5 hx).2.2.2.2.2).trans hx; clear hb1; obtain ⟨x0, x1, x2, x3, x4, hxs⟩ := row5 hx)
    | (go_at_call 112; refine (checkElems_any _ _ E _ hne (hL.out.calm hu)).mono ?_; rintro e w1 ⟨rfl, hb1⟩; replace hu := hu.call hb1; clear hb1))
  go_ret
  exact ⟨ret_int hG.out, hu⟩
open Go.RowKit
set_option maxHeartbeats 4000000 in
theorem checkInner_any (kd : Int) (A1 A2 A3 A4 : Option Addr) (c1 c2 c3 c4 : Nat) (E : List El) (K : List Int) (S : List Sp) (T : List Int) (w : World) (h : NdAt w A1 A2 A3 A4 E K S T) :
    Calls Try.prog 73 #[.agg #[.int .i64 kd, .slice A1 E.length c1, .slice A2 K.length c2, .slice A3 S.length c3, .slice A4 T.length c4]] w fun e w' => e = .returned (.int .i64 (innerErr E K S T)) ∧ Calm w w' := by
  have hx := heap_new w (.cells #[.int .i64 kd, .slice A1 E.length c1, .slice A2 K.length c2, .slice A3 S.length c3, .slice A4 T.length c4] 32)
  have hu := (Calm.refl w).alloc (.cells #[.int .i64 kd, .slice A1 E.length c1, .slice A2 K.length c2, .slice A3 S.length c3, .slice A4 T.length c4] 32)
  obtain ⟨hne, hnk, hns, hnt⟩ : _ ∧ _ ∧ _ ∧ _ := ⟨h.ne, h.nk, h.ns, h.nt⟩
  by_cases hF : formI E K S T
  · have hG : Hid (3 = innerErr E K S T) := (if_pos hF).symm
    unfold formI at hF
    generalize innerErr E K S T = R at hG ⊢
    generalize E.length = ne at *
    generalize K.length = nk at *
    generalize S.length = ns at *
    generalize T.length = nt at *
    obtain ⟨x0, x1, x2, x3, x4, hxs⟩ := row5 hx
    clear hx h
    have h4 : (0 : Int) < ne ∨ ((ne : Int) ≤ 0 ∧ (nk : Int) < 2) ∨ ((ne : Int) ≤ 0 ∧ (2 : Int) ≤ nk ∧ ns + 1 ≠ nk) ∨ ((ne : Int) ≤ 0 ∧ (2 : Int) ≤ nk ∧ ns + 1 = nk ∧ nt ≠ nk) := by omega
    clear hF
    rcases h4 with h4 | ⟨h4, h5⟩ | ⟨h4, h5, h6⟩ | ⟨h4, h5, h6, h7⟩
    · go_enter Try.func73, Try.ntmps73
      go_wp2_with fail
      go_ret
      exact ⟨ret_int hG.out, hu⟩
    · obtain rfl : ne = 0 := by omega
      clear h4
      go_enter Try.func73, Try.ntmps73
      go_wp2_with fail
      go_ret
      exact ⟨ret_int hG.out, hu⟩
    · obtain rfl : ne = 0 := by omega
      have b1 : ((ns : Int) != (nk : Int) - 1) = true := by rw [bne_iff_ne]; omega
      clear h4
      go_enter Try.func73, Try.ntmps73
      go_wp2_with fail
      go_ret
      exact ⟨ret_int hG.out, hu⟩
    · obtain rfl : ne = 0 := by omega
      have b1 : ((ns : Int) != (nk : Int) - 1) = false := by rw [bne_eq_false_iff_eq]; omega
      have b2 : ((nt : Int) != (nk : Int)) = true := by rw [bne_iff_ne]; omega
      clear h4 h6 h7
      go_enter Try.func73, Try.ntmps73
      go_wp2_with fail
      go_ret
      exact ⟨ret_int hG.out, hu⟩
  have hF2 : E.length = 0 ∧ 2 ≤ K.length ∧ S.length + 1 = K.length ∧ T.length = K.length := by unfold formI at hF; omega
  obtain ⟨hE0, hK2, hSK, hTK⟩ := hF2
  have b1 : ((S.length : Int) != (K.length : Int) - 1) = false := by rw [bne_eq_false_iff_eq]; omega
  have b2 : ((T.length : Int) != (K.length : Int)) = false := by rw [bne_eq_false_iff_eq]; omega
  have hK2' : (2 : Int) ≤ (K.length : Int) := by omega
  by_cases h8 : 8 < K.length
  · have hG : Hid (2 = innerErr E K S T) := by show _ = _; unfold innerErr; rw [if_neg hF, if_pos h8]
    have h8' : (8 : Int) < (K.length : Int) := by omega
    rw [hE0] at hx hu ⊢
    obtain ⟨x0, x1, x2, x3, x4, hxs⟩ := row5 hx
    clear hF hSK hTK h8
    go_enter Try.func73, Try.ntmps73
    go_wp2_with fail
    go_ret
    exact ⟨ret_int hG.out, hu⟩
  have h8' : (K.length : Int) ≤ 8 := by omega
  have hG : innerErr E K S T = if kidsErr K T ≠ 0 then kidsErr K T else elsErr (S.map Sp.el) := by unfold innerErr; rw [if_neg hF, if_neg h8]
  generalize innerErr E K S T = R at hG ⊢
  have HG := Lib.hid hG
  rw [hE0] at hx hu ⊢
  obtain ⟨hLK, hLS, hLT⟩ : Hid (LiesI w A2 K) ∧ Hid (LiesS w A3 S) ∧ Hid (LiesI w A4 T) := ⟨h.k, h.s, h.t⟩
  obtain ⟨x0, x1, x2, x3, x4, hxs⟩ := row5 hx
  have hTK' := Lib.hid hTK
  have hSK' := Lib.hid hSK
  have hS8 : S.length ≤ 400 := by omega
  clear hF hG h hE0 hSK hTK h8
  go_enter Try.func73, Try.ntmps73
  go_wp2_with fail
  go_loopw [38] (fun i wr => ∃ k : Nat, k ≤ K.length ∧ i = .int .i64 k ∧ Calm w wr ∧ wr.heap[w.heap.size]? = some (.cells #[.int .i64 kd, .slice A1 0 c1, .slice A2 K.length c2, .slice A3 S.length c3, .slice A4 T.length c4] 32 (0, 0)) ∧ NoKid K T k) (fun i _ => K.length - (intOf i).toNat)
  case atStart => exact ⟨0, Nat.zero_le _, rfl, hu, hx, NoKid.zero K T⟩
  case round =>
    obtain ⟨k, hk, rfl, hv, hy, hN⟩ := hrel
    clear x0 x1 x2 x3 x4 hxs hx hu
    obtain ⟨x0, x1, x2, x3, x4, hxs⟩ := row5 hy
    by_cases hlt : k < K.length
    rotate_left
    · have hK0 := hN.good (by omega)
      have K0 : Hid (R = elsErr (S.map Sp.el)) := HG.out.trans (by rw [hK0, if_neg (by simp)])
      clear hK0
      go_wp2_with (first
        | (go_at_call 113; refine (records_any _ _ S _ hS8 (hLS.out.calm hv)).mono ?_; rintro e w1 ⟨g, rfl, hL1, hb1⟩; replace hv := hv.call hb1; clear hb1; have HL1 := Lib.hid hL1; clear hL1)
        | (go_at_call 112; rw [show S.length = (S.map Sp.el).length from by simp]; refine (checkElems_any _ _ (S.map Sp.el) _ (by simp; omega) HL1.out).mono ?_; rintro e w1 ⟨rfl, hb1⟩; replace hv := hv.call hb1; clear hb1))
      go_ret
      exact ⟨ret_int K0.out.symm, hv⟩
    obtain ⟨b, q, x, rfl, hb, HX, cx⟩ := (hLK.out.calm hv).get hlt
    obtain ⟨b', q', y, rfl, hb', HY, cy⟩ := (hLT.out.calm hv).get (k := k) (by rw [hTK'.out]; exact hlt)
    have hst := kStep_at HX.out HY.out
    have hkT : (k : Int) < (T.length : Int) := by have := hTK'.out; omega
    by_cases hx1 : 0 ≤ x ∧ x ≤ 399
    rotate_left
    · rw [if_neg hx1] at hst
      have hR := hN.bad (by rw [hst]; decide) hlt
      have K1 : Hid (R = 1) := HG.out.trans (by rw [← hR, hst, if_pos (by decide)])
      have h2 : x < 0 ∨ 0 ≤ x ∧ 400 ≤ x := by omega
      clear hx1 hst hR
      rcases h2 with h2 | ⟨h2, h3⟩
      · go_wp2_with fail
        go_ret
        exact ⟨ret_int K1.out.symm, hv⟩
      · go_wp2_with fail
        go_ret
        exact ⟨ret_int K1.out.symm, hv⟩
    rw [if_pos hx1] at hst
    have h2 : 0 ≤ x := hx1.1
    have h3 : x < 400 := by omega
    by_cases hy1 : 0 ≤ y ∧ y ≤ 2147483647
    rotate_left
    · rw [if_neg hy1] at hst
      have hR := hN.bad (by rw [hst]; decide) hlt
      have K1 : Hid (R = 9) := HG.out.trans (by rw [← hR, hst, if_pos (by decide)])
      have h4 : y < 0 ∨ 0 ≤ y ∧ 2147483647 < y := by omega
      clear hy1 hx1 hst hR
      rcases h4 with h4 | ⟨h4, h5⟩
      · go_wp2_with fail
        go_ret
        exact ⟨ret_int K1.out.symm, hv⟩
      · go_wp2_with fail
        go_ret
        exact ⟨ret_int K1.out.symm, hv⟩
    rw [if_pos hy1] at hst
    have hN1 := hN.succ hst
    have h4 : 0 ≤ y := hy1.1
    have h5 : y ≤ 2147483647 := hy1.2
    clear hy1 hx1 hst hN
    go_wp2_with fail
    go_roundw
    case rel => exact ⟨k + 1, by omega, by go_num, hv, hy, hN1⟩
    case measure => simp [intOf]; omega
open Go.RowKit
theorem nd_free (E : List El) (K : List Int) (S : List Sp) (T : List Int) : ndErr 0 E K S T = freeErr E K S T := if_pos rfl
theorem nd_leaf (E : List El) (K : List Int) (S : List Sp) (T : List Int) : ndErr 1 E K S T = leafErr E K S T := by unfold ndErr; rw [if_neg (by decide), if_pos rfl]
theorem nd_inner (E : List El) (K : List Int) (S : List Sp) (T : List Int) : ndErr 2 E K S T = innerErr E K S T := by unfold ndErr; rw [if_neg (by decide), if_neg (by decide), if_pos rfl]
theorem nd_other {kd : Int} (h0 : kd ≠ 0) (h1 : kd ≠ 1) (h2 : kd ≠ 2) (E : List El) (K : List Int) (S : List Sp) (T : List Int) : ndErr kd E K S T = 3 := by unfold ndErr; rw [if_neg h0, if_neg h1, if_neg h2]
set_option maxHeartbeats 4000000 in
theorem nodeCheck_any (kd : Int) (A1 A2 A3 A4 : Option Addr) (c1 c2 c3 c4 : Nat) (E : List El) (K : List Int) (S : List Sp) (T : List Int) (w : World) (h : NdAt w A1 A2 A3 A4 E K S T) :
    Calls Try.prog 39 #[.agg #[.int .i64 kd, .slice A1 E.length c1, .slice A2 K.length c2, .slice A3 S.length c3, .slice A4 T.length c4]] w fun e w' => e = .returned (.int .i64 (ndErr kd E K S T)) ∧ Calm w w' := by
  have hx := heap_new w (.cells #[.int .i64 kd, .slice A1 E.length c1, .slice A2 K.length c2, .slice A3 S.length c3, .slice A4 T.length c4] 32)
  have hu := (Calm.refl w).alloc (.cells #[.int .i64 kd, .slice A1 E.length c1, .slice A2 K.length c2, .slice A3 S.length c3, .slice A4 T.length c4] 32)
  have cF := fun u => checkFree_any kd A1 A2 A3 A4 c1 c2 c3 c4 E K S T u h.ne h.nk h.ns h.nt
  have cL := fun u (hu : Calm w u) => checkLeaf_any kd A1 A2 A3 A4 c1 c2 c3 c4 E K S T u (h.calm hu)
  have cI := fun u (hu : Calm w u) => checkInner_any kd A1 A2 A3 A4 c1 c2 c3 c4 E K S T u (h.calm hu)
  clear h
  by_cases h0 : kd = 0
  · subst h0
    rw [nd_free]
    clear cL cI
    obtain ⟨x0, x1, x2, x3, x4, hxs⟩ := row5 hx
    go_enter Try.func39, Try.ntmps39
    go_wp2_with (go_at_call 71; (with_reducible refine (cF _).mono ?_); rintro e w1 ⟨rfl, hb1⟩; replace hu := hu.call hb1; clear hb1)
    go_ret
    exact ⟨rfl, hu⟩
  by_cases h1 : kd = 1
  · subst h1
    rw [nd_leaf]
    clear cF cI
    obtain ⟨x0, x1, x2, x3, x4, hxs⟩ := row5 hx
    go_enter Try.func39, Try.ntmps39
    go_wp2_with (go_at_call 72; (with_reducible refine (cL _ hu).mono ?_); rintro e w1 ⟨rfl, hb1⟩; replace hu := hu.call hb1; clear hb1)
    go_ret
    exact ⟨rfl, hu⟩
  by_cases h2 : kd = 2
  · subst h2
    rw [nd_inner]
    clear cF cL
    obtain ⟨x0, x1, x2, x3, x4, hxs⟩ := row5 hx
    go_enter Try.func39, Try.ntmps39
    go_wp2_with (go_at_call 73; (with_reducible refine (cI _ hu).mono ?_); rintro e w1 ⟨rfl, hb1⟩; replace hu := hu.call hb1; clear hb1)
    go_ret
    exact ⟨rfl, hu⟩
  rw [nd_other h0 h1 h2]
  have b0 : (kd == 0) = false := by rw [beq_eq_false_iff_ne]; exact h0
  have b1 : (kd == 1) = false := by rw [beq_eq_false_iff_ne]; exact h1
  have b2 : (kd == 2) = false := by rw [beq_eq_false_iff_ne]; exact h2
  clear cF cL cI h0 h1 h2
  obtain ⟨x0, x1, x2, x3, x4, hxs⟩ := row5 hx
  go_enter Try.func39, Try.ntmps39
  go_wp2_with fail
  go_ret
  exact ⟨rfl, hu⟩
open Go.RowKit
theorem gMax_if (t : Int) (l : List Int) (x : Int) : gMax t (l ++ [x]) = if gMax t l < x then x else gMax t l := by
 rw [gMax_snoc, Int.max_def]
 split <;> split <;> omega
theorem lasts_take {E : List El} {k : Nat} {e : El} (h : E[k]? = some e) : (E.take (k + 1)).map El.last = (E.take k).map El.last ++ [e.last] := by
 have hk : k < E.length := (List.getElem?_eq_some_iff.1 h).1
 rw [List.take_succ_eq_append_getElem hk, List.map_append, (List.getElem?_eq_some_iff.1 h).2]
 rfl
theorem ints_take {T : List Int} {k : Nat} {x : Int} (h : T[k]? = some x) : T.take (k + 1) = T.take k ++ [x] := by
 have hk : k < T.length := (List.getElem?_eq_some_iff.1 h).1
 rw [List.take_succ_eq_append_getElem hk, (List.getElem?_eq_some_iff.1 h).2]
set_option maxHeartbeats 4000000 in
theorem nodeTid_any (kd : Int) (A1 A2 A3 A4 : Option Addr) (c1 c2 c3 c4 : Nat) (E : List El) (K : List Int) (S : List Sp) (T : List Int) (w : World) (h : NdAt w A1 A2 A3 A4 E K S T) :
    Calls Try.prog 64 #[.agg #[.int .i64 kd, .slice A1 E.length c1, .slice A2 K.length c2, .slice A3 S.length c3, .slice A4 T.length c4]] w fun e w' => e = .returned (.tuple #[.int .i64 (if ndErr kd E K S T = 0 then ndTid E T else 0), .int .i64 (ndErr kd E K S T)]) ∧ Calm w w' := by
  have hx := heap_new w (.cells #[.int .i64 kd, .slice A1 E.length c1, .slice A2 K.length c2, .slice A3 S.length c3, .slice A4 T.length c4] 32)
  have hu := (Calm.refl w).alloc (.cells #[.int .i64 kd, .slice A1 E.length c1, .slice A2 K.length c2, .slice A3 S.length c3, .slice A4 T.length c4] 32)
  have cC := fun u (hu : Calm w u) => nodeCheck_any kd A1 A2 A3 A4 c1 c2 c3 c4 E K S T u (h.calm hu)
  by_cases he : ndErr kd E K S T = 0
  rotate_left
  · have b1 : (ndErr kd E K S T != 0) = true := by simpa using he
    rw [if_neg he]
    generalize ndErr kd E K S T = R at cC b1 ⊢
    clear he
    go_enter Try.func64, Try.ntmps64
    go_wp2_with (go_at_call 39; (with_reducible refine (cC _ hu).mono ?_); rintro e w1 ⟨rfl, hb1⟩; replace hu := hu.call hb1; clear hb1)
    go_ret2
    exact ⟨rfl, hu⟩
  rw [if_pos he]
  rw [he] at cC ⊢
  clear he
  obtain ⟨hLE, hLT⟩ : Hid (Lies w A1 E) ∧ Hid (LiesI w A4 T) := ⟨h.e, h.t⟩
  obtain ⟨hne, hnt⟩ : _ ∧ _ := ⟨h.ne, h.nt⟩
  clear h
  go_enter Try.func64, Try.ntmps64
  go_wp2_with (go_at_call 39; (with_reducible refine (cC _ hu).mono ?_); rintro e w1 ⟨rfl, hb1⟩; replace hu := hu.call hb1; replace hx := (hb1.block (row5 hx).2.2.2.2.2).trans hx; clear hb1; obtain ⟨x0, x1, x2, x3, x4, hxs⟩ := row5 hx)
  go_loopw [5, 18] (fun t i wr => ∃ k : Nat, k ≤ E.length ∧ i = .int .i64 k ∧ t = .int .i64 (gMax 0 ((E.take k).map El.last)) ∧ Calm w wr ∧ wr.heap[w.heap.size]? = some (.cells #[.int .i64 kd, .slice A1 E.length c1, .slice A2 K.length c2, .slice A3 S.length c3, .slice A4 T.length c4] 32 (0, 0))) (fun _ i _ => E.length - (intOf i).toNat)
  case atStart => exact ⟨0, Nat.zero_le _, rfl, rfl, hu, hx⟩
  case round =>
    obtain ⟨k, hk, rfl, rfl, hv, hy⟩ := hrel
    clear x0 x1 x2 x3 x4 hxs hx hu
    by_cases hlt : k < E.length
    · obtain ⟨b, q, p, o, f, m, g, s, rfl, hb, HE, hm, c0, c1', c2', c3', c4', c5⟩ := (hLE.out.calm hv).get hlt
      have K1 : Hid (gMax 0 ((E.take (k + 1)).map El.last) = if gMax 0 ((E.take k).map El.last) < lastOf m g then lastOf m g else gMax 0 ((E.take k).map El.last)) := by
        show _ = _
        rw [lasts_take HE.out, gMax_if]; rfl
      generalize gMax 0 ((E.take k).map El.last) = t0 at K1 ⊢
      go_wp2_with (go_at_call 104; refine (last_any _ _ _ _ _ _ _).mono ?_; rintro e w1 ⟨rfl, hb1⟩)
      go_roundw
      case rel => exact ⟨k + 1, by omega, by go_num, by rw [K1.out], (hv.alloc _).call hb1, (hb1.block (by have := (row5 hy).2.2.2.2.2; simp; omega)).trans (heap_past _ hy)⟩
      case measure => simp [intOf]; omega
    · have hE : Hid ((E.take k).map El.last = E.map El.last) := by show _ = _; rw [List.take_of_length_le (by omega)]
      rw [hE.out]
      obtain ⟨x0, x1, x2, x3, x4, hxs⟩ := row5 hy
      go_wp2_with fail
      go_loopw [5, 30] (fun t i wr => ∃ k : Nat, k ≤ T.length ∧ i = .int .i64 k ∧ t = .int .i64 (gMax 0 (E.map El.last ++ T.take k)) ∧ Calm w wr) (fun _ i _ => T.length - (intOf i).toNat)
      case atStart => exact ⟨0, Nat.zero_le _, rfl, by rw [List.take_zero, List.append_nil], hv⟩
      case round =>
        obtain ⟨k', hk', rfl, rfl, hz⟩ := hrel
        by_cases hlt' : k' < T.length
        · obtain ⟨b, q, x, rfl, hb, HX, cx⟩ := (hLT.out.calm hz).get hlt'
          have K1 : Hid (gMax 0 (E.map El.last ++ T.take (k' + 1)) = if gMax 0 (E.map El.last ++ T.take k') < x then x else gMax 0 (E.map El.last ++ T.take k')) := by
            show _ = _
            rw [ints_take HX.out, ← List.append_assoc, gMax_if]
          generalize gMax 0 (E.map El.last ++ T.take k') = t0 at K1 ⊢
          go_wp2_with fail
          go_roundw
          case rel => exact ⟨k' + 1, by omega, by go_num, by rw [K1.out], hz⟩
          case measure => simp [intOf]; omega
        · have hT : Hid (gMax 0 (E.map El.last ++ T.take k') = ndTid E T) := by show _ = _; rw [List.take_of_length_le (by omega)]; rfl
          go_wp2_with fail
          go_ret2
          exact ⟨by rw [← hT.out]; rfl, hz⟩
open Go.RowKit
/-- What a right inner node is. -/
theorem inner_good {E : List El} {K : List Int} {S : List Sp} {T : List Int} (h : ndErr 2 E K S T = 0) : E.length = 0 ∧ 2 ≤ K.length ∧ K.length ≤ 8 ∧ S.length + 1 = K.length ∧ T.length = K.length ∧ (∀ y ∈ T, 0 ≤ y ∧ y ≤ 2147483647) ∧ (∀ e ∈ S.map Sp.el, e.err = 0) ∧ (S.map Sp.el).Pairwise Rise := by
 rw [nd_inner] at h
 unfold innerErr at h
 split at h
 ·cases h
 ·rename_i hF
  unfold formI at hF
  split at h
  ·cases h
  ·split at h
   ·rename_i h2; exact absurd h h2
   ·rename_i h2
    obtain ⟨h3, h4⟩ := elsErr_zero.1 h
    have h5 := (kidsErr_zero (by omega)).1 (Classical.not_not.1 h2)
    exact ⟨by omega, by omega, by omega, by omega, by omega, h5.2, h3, h4⟩
/-- What a right leaf is. -/
theorem leaf_good {E : List El} {K : List Int} {S : List Sp} {T : List Int} (h : ndErr 1 E K S T = 0) : K.length = 0 ∧ S.length = 0 ∧ T.length = 0 ∧ E.length ≤ 8 ∧ (∀ e ∈ E, e.err = 0) ∧ E.Pairwise Rise := by
 rw [nd_leaf] at h
 unfold leafErr at h
 split at h
 ·cases h
 ·split at h
  ·cases h
  ·obtain ⟨h3, h4⟩ := elsErr_zero.1 h
   exact ⟨by omega, by omega, by omega, by omega, h3, h4⟩
theorem free_good {E : List El} {K : List Int} {S : List Sp} {T : List Int} (h : ndErr 0 E K S T = 0) : E.length = 0 ∧ K.length = 0 ∧ S.length = 0 ∧ T.length = 0 := by
 rw [nd_free] at h
 unfold freeErr at h
 split at h
 ·cases h
 ·omega
theorem nd_kinds {kd : Int} {E : List El} {K : List Int} {S : List Sp} {T : List Int} (h : ndErr kd E K S T = 0) : kd = 0 ∨ kd = 1 ∨ kd = 2 := by
 by_cases h0 : kd = 0
 ·exact Or.inl h0
 by_cases h1 : kd = 1
 ·exact Or.inr (Or.inl h1)
 by_cases h2 : kd = 2
 ·exact Or.inr (Or.inr h2)
 rw [nd_other h0 h1 h2] at h
 cases h
open Go.RowKit
def iv (l : List Int) : List Value := l.map (Value.int .i64)
def OwnI (base : Nat) (w : World) (v : Value) (l : List Int) : Prop := w.ownsRow base 3 1 v l.length (iv l)
theorem iv_length (l : List Int) : (iv l).length = l.length := by simp [iv]
theorem iv_one (l : List Int) : ∀ u ∈ iv l, u.oneCell' = true := by
 intro u hu
 obtain ⟨n, _, rfl⟩ := List.mem_map.1 hu
 rfl
theorem infoInt : (Try.prog.info? 3).map (fun i => (i.zero, i.size, i.bytes)) = some (some (.int .i64 0), 1, 8) := by kernel_rfl
theorem OwnI.lt {base : Nat} {w : World} {v : Value} {l : List Int} (h : OwnI base w v l) : ∀ k, v.ownBlock = some k → base ≤ k ∧ k < w.heap.size := World.ownsRow.lt h
theorem OwnI.calm {base : Nat} {w w' : World} {v : Value} {l : List Int} (h : OwnI base w v l) (hb : Calm w w') : OwnI base w' v l := World.ownsRow.kept h (hb.grownBy none) (by
 rcases v.ownBlock with _ | k
 ·exact .inl rfl
 ·exact .inr (by simp))
theorem OwnI.nil (base : Nat) (w : World) : OwnI base w (.slice none 0 0) [] := World.ownsRow_nil _ _ _ _
theorem Calm.grownI {a w w' : World} {base : Nat} {v : Value} {l : List Int} (h : Calm a w) (hb : a.heap.size ≤ base) (ho : OwnI base w v l) (hg : w.grownBy w' v.ownBlock) : Calm a w' :=
 Below.grown h hg h.size fun k hk => Nat.le_trans hb (ho.lt k hk).1
theorem OwnI.lies {base : Nat} {w : World} {v : Value} {l : List Int} (h : OwnI base w v l) : ∃ A c, v = .slice A l.length c ∧ LiesI w A l := by
 rcases h.2 with ⟨rfl, hl⟩ | ⟨g, cap, cur, rfl, _, hg, hnc, hcm, _, ht⟩
 ·have : l = [] := List.eq_nil_of_length_eq_zero hl
  subst this
  exact ⟨none, 0, rfl, fun h => absurd h (by simp)⟩
 ·refine ⟨some ⟨g, 0, none⟩, cap, rfl, fun _ => ⟨g, 0, rfl, (Array.getElem?_eq_some_iff.1 hg).1, fun k x hx => ?_⟩⟩
  have hk : k < l.length := (List.getElem?_eq_some_iff.1 hx).1
  have h2 := congrArg (·[k]?) ht
  simp only [Nat.mul_one] at h2
  rw [List.getElem?_take_of_lt hk, Array.getElem?_toList] at h2
  rw [Nat.zero_add, cell_of_row w g _ cur _ (0, 0) hg, h2]
  simp [iv, hx]
open Go.RowKit
def spCells (s : Sp) : List Value := [.int .i64 s.p, .int .i64 s.o, .int .i64 s.f, .int .i64 s.m]
def sv (l : List Sp) : List Value := l.flatMap spCells
def OwnS (base : Nat) (w : World) (v : Value) (l : List Sp) : Prop := w.ownsRow base 62 4 v l.length (sv l)
theorem sv_get (l : List Sp) : ∀ (i j : Nat), j < 4 → (sv l)[i * 4 + j]? = (l[i]?).bind fun e => (spCells e)[j]? := by
 induction l with
 |nil => intro i j _; simp [sv]
 |cons a l ih =>
  intro i j hj
  have e : sv (a :: l) = spCells a ++ sv l := by simp [sv]
  have h4 : (spCells a).length = 4 := rfl
  rw [e]
  cases i with
  |zero => rw [List.getElem?_append_left (by omega)]; simp
  |succ i =>
   rw [List.getElem?_append_right (by omega), h4, show (i + 1) * 4 + j - 4 = i * 4 + j from by omega, ih i j hj]
   simp
theorem sp_one (s : Sp) : ∀ u ∈ spCells s, u.oneCell' = true := by
 intro u hu
 simp only [spCells, List.mem_cons, List.not_mem_nil, or_false] at hu
 rcases hu with rfl | rfl | rfl | rfl <;> rfl
theorem infoSp : (Try.prog.info? 62).map (fun i => (i.zero, i.size, i.bytes)) = some (some (.agg #[.int .i64 0, .int .i64 0, .int .i64 0, .int .i64 0]), 4, 32) := by kernel_rfl
theorem OwnS.nil (base : Nat) (w : World) : OwnS base w (.slice none 0 0) [] := World.ownsRow_nil _ _ _ _
theorem OwnS.lies {base : Nat} {w : World} {v : Value} {l : List Sp} (h : OwnS base w v l) (hm : ∀ s ∈ l, -9223372036854775808 ≤ s.m) : ∃ A c, v = .slice A l.length c ∧ LiesS w A l := by
 rcases h.2 with ⟨rfl, hl⟩ | ⟨g, cap, cur, rfl, _, hg, hnc, hcm, _, ht⟩
 ·have : l = [] := List.eq_nil_of_length_eq_zero hl
  subst this
  exact ⟨none, 0, rfl, by simp, fun h => absurd h (by simp)⟩
 ·refine ⟨some ⟨g, 0, none⟩, cap, rfl, hm, fun _ => ⟨g, 0, rfl, (Array.getElem?_eq_some_iff.1 hg).1, fun k x hx => ?_⟩⟩
  have hk : k < l.length := (List.getElem?_eq_some_iff.1 hx).1
  have key : ∀ j, j < 4 → w.cell? ⟨g, 0 + k * 4 + j, none⟩ = (spCells x)[j]? := fun j hj => by
   have h2 := congrArg (·[k * 4 + j]?) ht
   rw [List.getElem?_take_of_lt (by omega), Array.getElem?_toList, sv_get l k j hj, hx] at h2
   rw [Nat.zero_add, cell_of_row w g _ cur _ (0, 0) hg, h2]; rfl
  exact ⟨key 0 (by omega), key 1 (by omega), key 2 (by omega), key 3 (by omega)⟩
/-- append(out, x), of one number, and where the row then lies. -/
theorem wpList_append_iAt {ops : Array Oper} {rest : List Oper} {o : Oper} {a : Act} {w : World} {Q : Exit → Act → World → Prop} (hgd : o.guard = none) (s x : Operand)
    (ho : o.op = .call { callee := .builtin .append, args := #[s, x], argTypes := #[29, 29] })
    (base : Nat) (v : Value) (l : List Int) (hs : a.eval s = v) (hown : OwnI base w v l) (g t : Nat) (n : Int) (fr : Nat × Nat)
    (hx : a.eval x = .slice (some ⟨g, 0, none⟩) 1 1) (hg : w.heap[g]? = some (.cells #[.int .i64 n] t fr)) (hl : l.length ≤ 1000000) (hbase : base ≤ w.heap.size)
    (h : ∀ v' w', OwnI base w' v' (l ++ [n]) → w.grownBy w' v.ownBlock → (v'.ownBlock = v.ownBlock ∨ v'.ownBlock = some w.heap.size) → wpList Try.prog ops Q rest (a.put o.dst v') w') : wpList Try.prog ops Q (o :: rest) a w := by
  obtain ⟨i0, hi, hz0, hz1, hz2⟩ := info_parts infoInt
  refine wpList_append_own_at w hgd s x _ ho base 3 i0 _ 1 8 Try.underlying29 hi hz0 hz1 hz2 rfl (by decide) v _ _ hs hown ⟨g, 0, none⟩ 1 1 (iv [n]) hx rfl (fun j u hj => ?_) (iv_one _) (by unfold maxLen; omega) (by omega) hbase fun v' w' h1 h2 _ h4 => ?_
  · have : (⟨g, 0, none⟩ : Addr).add j = ⟨g, j, none⟩ := by unfold Addr.add; split <;> simp_all
    rw [this, cell_of_row w g j _ t fr hg, ← hj]
    simp [iv]
  · refine h v' w' ?_ h2 h4
    unfold OwnI
    rw [List.length_append, iv, List.map_append]
    exact h1
/-- append(out, s), of one spot. -/
theorem wpList_append_sAt {ops : Array Oper} {rest : List Oper} {o : Oper} {a : Act} {w : World} {Q : Exit → Act → World → Prop} (hgd : o.guard = none) (s x : Operand)
    (ho : o.op = .call { callee := .builtin .append, args := #[s, x], argTypes := #[30, 30] })
    (base : Nat) (v : Value) (l : List Sp) (hs : a.eval s = v) (hown : OwnS base w v l) (g t : Nat) (n : Sp) (fr : Nat × Nat)
    (hx : a.eval x = .slice (some ⟨g, 0, none⟩) 1 1) (hg : w.heap[g]? = some (.cells #[.int .i64 n.p, .int .i64 n.o, .int .i64 n.f, .int .i64 n.m] t fr)) (hl : l.length ≤ 1000000) (hbase : base ≤ w.heap.size)
    (h : ∀ v' w', OwnS base w' v' (l ++ [n]) → w.grownBy w' v.ownBlock → (v'.ownBlock = v.ownBlock ∨ v'.ownBlock = some w.heap.size) → wpList Try.prog ops Q rest (a.put o.dst v') w') : wpList Try.prog ops Q (o :: rest) a w := by
  obtain ⟨i0, hi, hz0, hz1, hz2⟩ := info_parts infoSp
  refine wpList_append_own_at w hgd s x _ ho base 62 i0 _ 4 32 Try.underlying30 hi hz0 hz1 hz2 rfl (by decide) v _ _ hs hown ⟨g, 0, none⟩ 1 1 (spCells n) hx rfl (fun j u hj => ?_) (sp_one _) (by unfold maxLen; omega) (by omega) hbase fun v' w' h1 h2 _ h4 => ?_
  · have : (⟨g, 0, none⟩ : Addr).add j = ⟨g, j, none⟩ := by unfold Addr.add; split <;> simp_all
    rw [this, cell_of_row w g j _ t fr hg, ← hj]
    simp [spCells]
  · refine h v' w' ?_ h2 h4
    unfold OwnS
    rw [List.length_append, show sv (l ++ [n]) = sv l ++ spCells n from by simp [sv]]
    exact h1
def Away (u v : Value) : Prop := ∀ k, u.ownBlock = some k → v.ownBlock ≠ some k
theorem Away.symm {u v : Value} (h : Away u v) : Away v u := fun k hk hu => h k hu hk
theorem Away.nil (v : Value) : Away (.slice none 0 0) v := fun k hk => by simp [Value.ownBlock] at hk
structure DI (wl w : World) (B g : Nat) (kd : Int) (vE bK bS bT vK vS vT : Value) (K : List Int) (S : List Sp) (T : List Int) : Prop where
 os : w.os = wl.os
 tape : w.tape = wl.tape
 output : w.output = wl.output
 size : B ≤ w.heap.size
 low : ∀ k, k < B → k ≠ g → w.heap[k]? = wl.heap[k]?
 gB : g < B
 box : w.heap[g]? = some (.cells #[.int .i64 kd, vE, bK, bS, bT] 32 (0, 0))
 k : OwnI B w vK K
 s : OwnS B w vS S
 t : OwnI B w vT T
 ks : Away vK vS
 kt : Away vK vT
 st : Away vS vT
section
variable {wl w w' : World} {B g : Nat} {kd : Int} {vE bK bS bT vK vS vT v' : Value} {K : List Int} {S : List Sp} {T : List Int}
theorem rows_calm {e : TypeId} {size n : Nat} {v : Value} {xs : List Value} (h : w.ownsRow B e size v n xs) (hb : Calm w w') : w'.ownsRow B e size v n xs := World.ownsRow.kept h (hb.grownBy none) (by
 rcases v.ownBlock with _ | k
 ·exact .inl rfl
 ·exact .inr (by simp))
theorem rows_away {e : TypeId} {size n : Nat} {v u : Value} {xs : List Value} (h : w.ownsRow B e size v n xs) (hg : w.grownBy w' u.ownBlock) (ha : Away u v) : w'.ownsRow B e size v n xs := World.ownsRow.kept h hg (by
 cases hv : v.ownBlock with
 |none => exact .inl rfl
 |some k => exact .inr fun hu => ha k hu.symm hv)
theorem rows_lt {e : TypeId} {size n : Nat} {v : Value} {xs : List Value} (h : w.ownsRow B e size v n xs) : ∀ k, v.ownBlock = some k → B ≤ k ∧ k < w.heap.size := World.ownsRow.lt h
theorem rows_set {e : TypeId} {size n : Nat} {v : Value} {xs : List Value} (h : w.ownsRow B e size v n xs) (hgB : g < B) (j : Nat) (u : Value) : (w.setCell ⟨g, j, none⟩ u).ownsRow B e size v n xs := World.ownsRow.kept h (row := some g) ⟨rfl, rfl, rfl, by simp [World.setCell], fun k _ hk => heap_setCell_other w ⟨g, j, none⟩ k u (fun e => hk (by simp [e]))⟩ (by
 cases hv : v.ownBlock with
 |none => exact .inl rfl
 |some k => exact .inr fun hu => by injection hu with hu; subst hu; have := (rows_lt h _ hv).1; omega)
theorem away_new {u v : Value} {e : TypeId} {size n : Nat} {xs : List Value} (hv : w.ownsRow B e size v n xs) (ha : Away u v) (hat : v'.ownBlock = u.ownBlock ∨ v'.ownBlock = some w.heap.size) : Away v' v := fun k hk hv2 => by
 rcases hat with h | h
 ·exact ha k (h.symm.trans hk) hv2
 ·rw [h] at hk; injection hk with hk; subst hk; have := (rows_lt hv _ hv2).2; omega
theorem DI.calm (h : DI wl w B g kd vE bK bS bT vK vS vT K S T) (hb : Calm w w') : DI wl w' B g kd vE bK bS bT vK vS vT K S T :=
 ⟨(Below.os hb).trans h.os, (Below.tape hb).trans h.tape, (Below.output hb).trans h.output, Nat.le_trans h.size hb.size, fun k hk hn => (hb.block (Nat.lt_of_lt_of_le hk h.size)).trans (h.low k hk hn), h.gB, (hb.block (Nat.lt_of_lt_of_le h.gB h.size)).trans h.box,
  rows_calm h.k hb, rows_calm h.s hb, rows_calm h.t hb, h.ks, h.kt, h.st⟩
theorem DI.appK {x : Int} (h : DI wl w B g kd vE bK bS bT vK vS vT K S T) (h1 : OwnI B w' v' (K ++ [x])) (h2 : w.grownBy w' vK.ownBlock) (h3 : v'.ownBlock = vK.ownBlock ∨ v'.ownBlock = some w.heap.size) : DI wl w' B g kd vE bK bS bT v' vS vT (K ++ [x]) S T :=
 have hlow : ∀ k, k < B → w'.heap[k]? = w.heap[k]? := fun k hk => h2.block k (Nat.lt_of_lt_of_le hk h.size) fun e => by have := (rows_lt h.k _ e.symm).1; omega
 ⟨h2.os.trans h.os, h2.tape.trans h.tape, h2.output.trans h.output, Nat.le_trans h.size h2.size, fun k hk hn => (hlow k hk).trans (h.low k hk hn), h.gB, (hlow g h.gB).trans h.box,
  h1, rows_away h.s h2 h.ks, rows_away h.t h2 h.kt, away_new h.s h.ks h3, away_new h.t h.kt h3, h.st⟩
theorem DI.appS {x : Sp} (h : DI wl w B g kd vE bK bS bT vK vS vT K S T) (h1 : OwnS B w' v' (S ++ [x])) (h2 : w.grownBy w' vS.ownBlock) (h3 : v'.ownBlock = vS.ownBlock ∨ v'.ownBlock = some w.heap.size) : DI wl w' B g kd vE bK bS bT vK v' vT K (S ++ [x]) T :=
 have hlow : ∀ k, k < B → w'.heap[k]? = w.heap[k]? := fun k hk => h2.block k (Nat.lt_of_lt_of_le hk h.size) fun e => by have := (rows_lt h.s _ e.symm).1; omega
 ⟨h2.os.trans h.os, h2.tape.trans h.tape, h2.output.trans h.output, Nat.le_trans h.size h2.size, fun k hk hn => (hlow k hk).trans (h.low k hk hn), h.gB, (hlow g h.gB).trans h.box,
  rows_away h.k h2 h.ks.symm, h1, rows_away h.t h2 h.st, (away_new h.k h.ks.symm h3).symm, h.kt, away_new h.t h.st h3⟩
theorem DI.appT {x : Int} (h : DI wl w B g kd vE bK bS bT vK vS vT K S T) (h1 : OwnI B w' v' (T ++ [x])) (h2 : w.grownBy w' vT.ownBlock) (h3 : v'.ownBlock = vT.ownBlock ∨ v'.ownBlock = some w.heap.size) : DI wl w' B g kd vE bK bS bT vK vS v' K S (T ++ [x]) :=
 have hlow : ∀ k, k < B → w'.heap[k]? = w.heap[k]? := fun k hk => h2.block k (Nat.lt_of_lt_of_le hk h.size) fun e => by have := (rows_lt h.t _ e.symm).1; omega
 ⟨h2.os.trans h.os, h2.tape.trans h.tape, h2.output.trans h.output, Nat.le_trans h.size h2.size, fun k hk hn => (hlow k hk).trans (h.low k hk hn), h.gB, (hlow g h.gB).trans h.box,
  rows_away h.k h2 h.kt.symm, rows_away h.s h2 h.st.symm, h1, h.ks, (away_new h.k h.kt.symm h3).symm, (away_new h.s h.st.symm h3).symm⟩
theorem DI.set (h : DI wl w B g kd vE bK bS bT vK vS vT K S T) (j : Nat) (u : Value) {bK' bS' bT' : Value} (hbox : (#[.int .i64 kd, vE, bK, bS, bT] : Array Value).setIfInBounds j u = #[.int .i64 kd, vE, bK', bS', bT']) :
    DI wl (w.setCell ⟨g, j, none⟩ u) B g kd vE bK' bS' bT' vK vS vT K S T :=
  ⟨h.os, h.tape, h.output, by simpa [World.setCell] using h.size, fun k hk hn => (heap_setCell_other w ⟨g, j, none⟩ k u (fun e => hn (by simpa using e))).trans (h.low k hk hn), h.gB, by rw [← hbox]; exact heap_setCell_same w g j _ _ u h.box,
    rows_set h.k h.gB j u, rows_set h.s h.gB j u, rows_set h.t h.gB j u, h.ks, h.kt, h.st⟩
theorem DI.low_calm {w0 : World} (h : DI wl w B g kd vE bK bS bT vK vS vT K S T) (hc : Calm w0 wl) (hg : w0.heap.size ≤ g) (hB : wl.heap.size ≤ B := by omega) : Calm w0 w :=
 Below.trans hc ⟨h.os, h.tape, h.output, Nat.le_trans hB h.size, fun k hk => h.low k (by have := h.gB; omega) (by omega)⟩
end
open Go.RowKit
theorem OwnI.at_ {B : Nat} {w : World} {A : Option Addr} {n c : Nat} {l : List Int} (h : OwnI B w (.slice A n c) l) : LiesI w A l := by
 obtain ⟨A', c', e, h2⟩ := h.lies
 injection e with e1
 rw [e1]; exact h2
theorem OwnS.at_ {B : Nat} {w : World} {A : Option Addr} {n c : Nat} {l : List Sp} (h : OwnS B w (.slice A n c) l) (hm : ∀ s ∈ l, -9223372036854775808 ≤ s.m) : LiesS w A l := by
 obtain ⟨A', c', e, h2⟩ := h.lies hm
 injection e with e1
 rw [e1]; exact h2
theorem OwnR.at_ {B : Nat} {w : World} {A : Option Addr} {n c : Nat} {l : List El} (h : OwnR B w (.slice A n c) l) (hm : ∀ e ∈ l, e.wf) : Lies w A l := by
 obtain ⟨A', c', e, _, _, h2⟩ := h.lies hm
 injection e with e1
 rw [e1]; exact h2
structure NdOwn (B : Nat) (w : World) (A1 A2 A3 A4 : Option Addr) (c1 c2 c3 c4 : Nat) (E : List El) (K : List Int) (S : List Sp) (T : List Int) : Prop where
 e : OwnR B w (.slice A1 E.length c1) E
 k : OwnI B w (.slice A2 K.length c2) K
 s : OwnS B w (.slice A3 S.length c3) S
 t : OwnI B w (.slice A4 T.length c4) T
 we : ∀ e ∈ E, e.wf
 ws : ∀ s ∈ S, -9223372036854775808 ≤ s.m
 ne : E.length ≤ 1000000
 nk : K.length ≤ 1000000
 ns : S.length ≤ 1000000
 nt : T.length ≤ 1000000
section
variable {B g : Nat} {w w' : World} {A1 A2 A3 A4 : Option Addr} {c1 c2 c3 c4 : Nat} {E : List El} {K : List Int} {S : List Sp} {T : List Int}
theorem NdOwn.at_ (h : NdOwn B w A1 A2 A3 A4 c1 c2 c3 c4 E K S T) : NdAt w A1 A2 A3 A4 E K S T :=
 ⟨OwnR.at_ h.e h.we, OwnI.at_ h.k, OwnS.at_ h.s h.ws, OwnI.at_ h.t, by have := h.ne; omega, by have := h.nk; omega, by have := h.ns; omega, by have := h.nt; omega⟩
theorem NdOwn.calm (h : NdOwn B w A1 A2 A3 A4 c1 c2 c3 c4 E K S T) (hb : Calm w w') : NdOwn B w' A1 A2 A3 A4 c1 c2 c3 c4 E K S T :=
 ⟨rows_calm h.e hb, rows_calm h.k hb, rows_calm h.s hb, rows_calm h.t hb, h.we, h.ws, h.ne, h.nk, h.ns, h.nt⟩
theorem rows_mono {e : TypeId} {size n B' : Nat} {v : Value} {xs : List Value} (h : w.ownsRow B e size v n xs) (hb : B' ≤ B) : w.ownsRow B' e size v n xs :=
 ⟨h.1, h.2.imp id fun ⟨g, cap, cur, h1, h2, h3⟩ => ⟨g, cap, cur, h1, Nat.le_trans hb h2, h3⟩⟩
theorem NdOwn.mono {B' : Nat} (h : NdOwn B w A1 A2 A3 A4 c1 c2 c3 c4 E K S T) (hb : B' ≤ B) : NdOwn B' w A1 A2 A3 A4 c1 c2 c3 c4 E K S T :=
 ⟨rows_mono h.e hb, rows_mono h.k hb, rows_mono h.s hb, rows_mono h.t hb, h.we, h.ws, h.ne, h.nk, h.ns, h.nt⟩
end
open Go.RowKit
def inB (lo hi s : Sp) : Prop := scmp lo.p lo.o lo.f lo.m s.p s.o s.f s.m ≤ 0 ∧ scmp s.p s.o s.f s.m hi.p hi.o hi.f hi.m < 0
instance (lo hi s : Sp) : Decidable (inB lo hi s) := inferInstanceAs (Decidable (_ ∧ _))
abbrev bdV (lo hi : Sp) : Value := .agg #[.int .i64 lo.p, .int .i64 lo.o, .int .i64 lo.f, .int .i64 lo.m, .int .i64 hi.p, .int .i64 hi.o, .int .i64 hi.f, .int .i64 hi.m]
abbrev spV (s : Sp) : Value := .agg #[.int .i64 s.p, .int .i64 s.o, .int .i64 s.f, .int .i64 s.m]
theorem row8 {w : World} {g t : Nat} {a b c d e f x y : Value} {fr : Nat × Nat} (h : w.heap[g]? = some (.cells #[a, b, c, d, e, f, x, y] t fr)) : w.cell? ⟨g, 0, none⟩ = some a ∧ w.cell? ⟨g, 1, none⟩ = some b ∧ w.cell? ⟨g, 2, none⟩ = some c ∧ w.cell? ⟨g, 3, none⟩ = some d ∧ w.cell? ⟨g, 4, none⟩ = some e ∧ w.cell? ⟨g, 5, none⟩ = some f ∧ w.cell? ⟨g, 6, none⟩ = some x ∧ w.cell? ⟨g, 7, none⟩ = some y ∧ g < w.heap.size :=
 ⟨cell_of_row _ _ 0 _ _ _ h, cell_of_row _ _ 1 _ _ _ h, cell_of_row _ _ 2 _ _ _ h, cell_of_row _ _ 3 _ _ _ h, cell_of_row _ _ 4 _ _ _ h, cell_of_row _ _ 5 _ _ _ h, cell_of_row _ _ 6 _ _ _ h, cell_of_row _ _ 7 _ _ _ h, (Array.getElem?_eq_some_iff.1 h).1⟩
set_option maxHeartbeats 4000000 in
theorem everything_any (w : World) : Calls Try.prog 44 #[] w fun e w' => e = .returned (bdV ⟨0, 0, 0, 0⟩ ⟨16, 0, 0, 0⟩) ∧ Calm w w' := by
 go_enter Try.func44, Try.ntmps44
 go_wp2
 go_returns
 exact ⟨rfl, by repeat (first | (with_reducible exact Calm.refl _) | (with_reducible refine Calm.alloc ?_ _) | (with_reducible refine Calm.drew ?_) | (with_reducible refine Calm.drewN ?_ _) | (refine Calm.call ?_ (by with_reducible assumption)))⟩
set_option maxHeartbeats 4000000 in
theorem contains_any (lo hi s : Sp) (w : World) : Calls Try.prog 76 #[bdV lo hi, spV s] w fun e w' => e = .returned (.bool (decide (inB lo hi s))) ∧ Calm w w' := by
 have hx := heap_past (.cells #[.int .i64 s.p, .int .i64 s.o, .int .i64 s.f, .int .i64 s.m] 62) (heap_new w (.cells #[.int .i64 lo.p, .int .i64 lo.o, .int .i64 lo.f, .int .i64 lo.m, .int .i64 hi.p, .int .i64 hi.o, .int .i64 hi.f, .int .i64 hi.m] 81))
 have hy := heap_new2 w (.cells #[.int .i64 lo.p, .int .i64 lo.o, .int .i64 lo.f, .int .i64 lo.m, .int .i64 hi.p, .int .i64 hi.o, .int .i64 hi.f, .int .i64 hi.m] 81) (.cells #[.int .i64 s.p, .int .i64 s.o, .int .i64 s.f, .int .i64 s.m] 62)
 have hu := ((Calm.refl w).alloc (.cells #[.int .i64 lo.p, .int .i64 lo.o, .int .i64 lo.f, .int .i64 lo.m, .int .i64 hi.p, .int .i64 hi.o, .int .i64 hi.f, .int .i64 hi.m] 81)).alloc (.cells #[.int .i64 s.p, .int .i64 s.o, .int .i64 s.f, .int .i64 s.m] 62)
 have c1 := fun u => cmpSpot_any lo.p lo.o lo.f lo.m s.p s.o s.f s.m u
 have c2 := fun u => cmpSpot_any s.p s.o s.f s.m hi.p hi.o hi.f hi.m u
 have hG : Hid (decide (inB lo hi s) = (decide (scmp lo.p lo.o lo.f lo.m s.p s.o s.f s.m ≤ 0) && decide (scmp s.p s.o s.f s.m hi.p hi.o hi.f hi.m < 0))) := by show _ = _; rw [Bool.eq_iff_iff, Bool.and_eq_true, decide_eq_true_eq, decide_eq_true_eq, decide_eq_true_eq]; rfl
 generalize decide (inB lo hi s) = r at hG ⊢
 generalize scmp lo.p lo.o lo.f lo.m s.p s.o s.f s.m = a at c1 hG
 generalize scmp s.p s.o s.f s.m hi.p hi.o hi.f hi.m = b at c2 hG
 obtain ⟨p, o, f, m⟩ := s
 obtain ⟨p1, o1, f1, m1⟩ := lo
 obtain ⟨p2, o2, f2, m2⟩ := hi
 simp only at c1 c2 hx hy hu
 obtain ⟨x0, x1, x2, x3, x4, x5, x6, x7, hxs⟩ := row8 hx
 obtain ⟨y0, y1, y2, y3, hys⟩ := row4 hy
 by_cases ha : a ≤ 0
 ·rw [decide_eq_true ha] at hG
  go_enter Try.func76, Try.ntmps76
  go_wp2_with (go_at_call 102; (first | (with_reducible refine (c1 _).mono ?_) | (with_reducible refine (c2 _).mono ?_)); rintro e w1 ⟨rfl, hb1⟩; replace hx := (hb1.block (row8 hx).2.2.2.2.2.2.2.2).trans hx; replace hy := (hb1.block (row4 hy).2.2.2.2).trans hy; replace hu := hu.call hb1; clear hb1; obtain ⟨x0, x1, x2, x3, x4, x5, x6, x7, hxs⟩ := row8 hx; obtain ⟨y0, y1, y2, y3, hys⟩ := row4 hy)
  go_ret
  exact ⟨ret_bool (by rw [hG.out, Bool.true_and]), hu⟩
 ·rw [decide_eq_false ha] at hG
  go_enter Try.func76, Try.ntmps76
  go_wp2_with (go_at_call 102; (first | (with_reducible refine (c1 _).mono ?_) | (with_reducible refine (c2 _).mono ?_)); rintro e w1 ⟨rfl, hb1⟩; replace hx := (hb1.block (row8 hx).2.2.2.2.2.2.2.2).trans hx; replace hy := (hb1.block (row4 hy).2.2.2.2).trans hy; replace hu := hu.call hb1; clear hb1; obtain ⟨x0, x1, x2, x3, x4, x5, x6, x7, hxs⟩ := row8 hx; obtain ⟨y0, y1, y2, y3, hys⟩ := row4 hy)
  go_ret
  exact ⟨ret_bool (by rw [hG.out, Bool.false_and]), hu⟩
def bdLo (S : List Sp) (lo : Sp) (j : Nat) : Sp := if j = 0 then lo else (S[j - 1]?).getD lo
def bdHi (S : List Sp) (hi : Sp) (j : Nat) : Sp := (S[j]?).getD hi
open Go.RowKit
theorem results_bd {fn : Func} {p : Tmp} (h : fn.results = #[.cell p 81]) (tmps : Array Value) (w : World) (g : Nat) (t : TypeId) (cs : Array Value) (fr : Nat × Nat)
    (hp : tmps.getD p undef = .pointer (some ⟨g, 0, none⟩)) (hg : w.heap[g]? = some (.cells cs t fr)) (hsz : cs.size = 8) :
    (results fn tmps).run Try.prog w = .ok (.agg cs) w := by
  have hp' : tmps[p]?.getD undef = .pointer (some ⟨g, 0, none⟩) := by simpa using hp
  have hi : (Try.prog.info? 81).map (·.size) = some cs.size := by rw [hsz]; kernel_rfl
  simp [results, h, hp', asAddr, run_loadVar_row w g t 81 cs fr _ hg Try.underlying81 rfl hi]
theorem end_bd {P : Program} {fn : Func} {p : Tmp} {Q : Ending → World → Prop} (hP : P = Try.prog) (h : fn.results = #[.cell p 81]) (a : Act) (w : World) (g : Nat) (t : TypeId) (cs : Array Value) (fr : Nat × Nat) (hd : a.defers = [])
    (hp : a.tmps.getD p undef = .pointer (some ⟨g, 0, none⟩)) (hg : w.heap[g]? = some (.cells cs t fr)) (hsz : cs.size = 8) (hQ : Q (.returned (.agg cs)) w) : bodyPost P fn Q .ret a w := by
  subst hP
  exact bodyPost_ret (v := .agg cs) (results_bd h a.tmps w g t cs fr hp hg hsz) hd hQ
def World.four (w : World) (g o : Nat) (b0 b1 b2 b3 : Value) : World := (((w.setCell ⟨g, o, none⟩ b0).setCell ⟨g, o + 1, none⟩ b1).setCell ⟨g, o + 2, none⟩ b2).setCell ⟨g, o + 3, none⟩ b3
theorem four_lo {w : World} {g t : Nat} {a0 a1 a2 a3 a4 a5 a6 a7 : Value} (h : w.heap[g]? = some (.cells #[a0, a1, a2, a3, a4, a5, a6, a7] t (0, 0))) (b0 b1 b2 b3 : Value) : (World.four w g 0 b0 b1 b2 b3).heap[g]? = some (.cells #[b0, b1, b2, b3, a4, a5, a6, a7] t (0, 0)) :=
 heap_setCell_same _ g 3 _ t b3 (heap_setCell_same _ g 2 _ t b2 (heap_setCell_same _ g 1 _ t b1 (heap_setCell_same w g 0 _ t b0 h)))
theorem four_hi {w : World} {g t : Nat} {a0 a1 a2 a3 a4 a5 a6 a7 : Value} (h : w.heap[g]? = some (.cells #[a0, a1, a2, a3, a4, a5, a6, a7] t (0, 0))) (b0 b1 b2 b3 : Value) : (World.four w g 4 b0 b1 b2 b3).heap[g]? = some (.cells #[a0, a1, a2, a3, b0, b1, b2, b3] t (0, 0)) :=
 heap_setCell_same _ g 7 _ t b3 (heap_setCell_same _ g 6 _ t b2 (heap_setCell_same _ g 5 _ t b1 (heap_setCell_same w g 4 _ t b0 h)))
theorem four_other {w : World} {g o k : Nat} (b0 b1 b2 b3 : Value) (h : k ≠ g) : (World.four w g o b0 b1 b2 b3).heap[k]? = w.heap[k]? :=
 (heap_setCell_other _ ⟨g, o + 3, none⟩ k b3 h).trans ((heap_setCell_other _ ⟨g, o + 2, none⟩ k b2 h).trans ((heap_setCell_other _ ⟨g, o + 1, none⟩ k b1 h).trans (heap_setCell_other _ ⟨g, o, none⟩ k b0 h)))
theorem Calm.four {a w : World} (h : Calm a w) {g : Nat} (hg : a.heap.size ≤ g) (o : Nat) (b0 b1 b2 b3 : Value) : Calm a (World.four w g o b0 b1 b2 b3) :=
 (((h.setCell (p := ⟨g, o, none⟩) hg b0).setCell (p := ⟨g, o + 1, none⟩) hg b1).setCell (p := ⟨g, o + 2, none⟩) hg b2).setCell (p := ⟨g, o + 3, none⟩) hg b3
theorem free8 {w : World} {g t : Nat} {cs : Array Value} (h : w.heap[g]? = some (.cells cs t (0, 0))) : w.frozen? ⟨g, 0, none⟩ = false ∧ w.frozen? ⟨g, 1, none⟩ = false ∧ w.frozen? ⟨g, 2, none⟩ = false ∧ w.frozen? ⟨g, 3, none⟩ = false ∧ w.frozen? ⟨g, 4, none⟩ = false ∧ w.frozen? ⟨g, 5, none⟩ = false ∧ w.frozen? ⟨g, 6, none⟩ = false ∧ w.frozen? ⟨g, 7, none⟩ = false :=
 ⟨frozen_of_row _ _ _ _ _ h, frozen_of_row _ _ _ _ _ h, frozen_of_row _ _ _ _ _ h, frozen_of_row _ _ _ _ _ h, frozen_of_row _ _ _ _ _ h, frozen_of_row _ _ _ _ _ h, frozen_of_row _ _ _ _ _ h, frozen_of_row _ _ _ _ _ h⟩
theorem heapNew3 (w : World) (o o' o'' : Obj) : (((w.alloc o).alloc o').alloc o'').heap[w.heap.size + 1 + 1]? = some o'' := by simpa using heap_new ((w.alloc o).alloc o') o''
abbrev bdC (lo hi : Sp) : Array Value := #[.int .i64 lo.p, .int .i64 lo.o, .int .i64 lo.f, .int .i64 lo.m, .int .i64 hi.p, .int .i64 hi.o, .int .i64 hi.f, .int .i64 hi.m]
set_option maxHeartbeats 8000000 in
theorem treeBetween_any (kd : Int) (A1 A2 A3 A4 : Option Addr) (c1 c2 c3 c4 : Nat) (E : List El) (K : List Int) (S : List Sp) (T : List Int) (j : Nat) (lo hi : Sp) (w : World) (h : LiesS w A3 S) (hj : j ≤ S.length) (hs : S.length ≤ 8) :
    Calls Try.prog 77 #[.agg #[.int .i64 kd, .slice A1 E.length c1, .slice A2 K.length c2, .slice A3 S.length c3, .slice A4 T.length c4], .int .i64 (j : Int), .agg (bdC lo hi)] w fun e w' => e = .returned (.agg (bdC (bdLo S lo j) (bdHi S hi j))) ∧ Calm w w' := by
  have hx := heap_past (.cells #[.int .i64 0, .int .i64 0, .int .i64 0, .int .i64 0, .int .i64 0, .int .i64 0, .int .i64 0, .int .i64 0] 81) (heap_past (.cells (bdC lo hi) 81) (heap_new w (.cells #[.int .i64 kd, .slice A1 E.length c1, .slice A2 K.length c2, .slice A3 S.length c3, .slice A4 T.length c4] 32)))
  have hy := heap_past (.cells #[.int .i64 0, .int .i64 0, .int .i64 0, .int .i64 0, .int .i64 0, .int .i64 0, .int .i64 0, .int .i64 0] 81) (heap_new2 w (.cells #[.int .i64 kd, .slice A1 E.length c1, .slice A2 K.length c2, .slice A3 S.length c3, .slice A4 T.length c4] 32) (.cells (bdC lo hi) 81))
  have hz := heapNew3 w (.cells #[.int .i64 kd, .slice A1 E.length c1, .slice A2 K.length c2, .slice A3 S.length c3, .slice A4 T.length c4] 32) (.cells (bdC lo hi) 81) (.cells #[.int .i64 0, .int .i64 0, .int .i64 0, .int .i64 0, .int .i64 0, .int .i64 0, .int .i64 0, .int .i64 0] 81)
  have hu := (((Calm.refl w).alloc (.cells #[.int .i64 kd, .slice A1 E.length c1, .slice A2 K.length c2, .slice A3 S.length c3, .slice A4 T.length c4] 32)).alloc (.cells (bdC lo hi) 81)).alloc (.cells #[.int .i64 0, .int .i64 0, .int .i64 0, .int .i64 0, .int .i64 0, .int .i64 0, .int .i64 0, .int .i64 0] 81)
  go_enter Try.func77, Try.ntmps77
  go_upto_region 1 with fail
  generalize ((w.alloc (.cells #[.int .i64 kd, .slice A1 E.length c1, .slice A2 K.length c2, .slice A3 S.length c3, .slice A4 T.length c4] 32)).alloc (.cells (bdC lo hi) 81)).alloc (.cells #[.int .i64 0, .int .i64 0, .int .i64 0, .int .i64 0, .int .i64 0, .int .i64 0, .int .i64 0, .int .i64 0] 81) = wz at hx hy hz hu ⊢
  obtain ⟨p1, o1, f1, m1⟩ := lo
  obtain ⟨p2, o2, f2, m2⟩ := hi
  simp only [bdC] at hy ⊢
  obtain ⟨x0, x1, x2, x3, x4, hxs⟩ := row5 hx
  have hL := h.calm hu
  by_cases h0 : j = 0
  · have hLo : Hid (bdLo S ⟨p1, o1, f1, m1⟩ j = ⟨p1, o1, f1, m1⟩) := by show _ = _; unfold bdLo; rw [if_pos h0]
    have hj0 : (j : Int) ≤ 0 := by omega
    clear h0
    go_upto_region 3 with fail
    clear hj0 x0 x1 x2 x3 x4 hxs
    by_cases hj2 : j < S.length
    · obtain ⟨b4, q4, p4, o4, f4, m4, hA4, hb4, HS4, -, s0, s1, s2, s3⟩ := hL.get hj2
      have hji : (j : Int) < (S.length : Int) := by omega
      cases hA4
      obtain ⟨x0, x1, x2, x3, x4, hxs⟩ := row5 hx
      obtain ⟨y0, y1, y2, y3, y4, y5, y6, y7, hys⟩ := row8 hy
      obtain ⟨r0, r1, r2, r3, r4, r5, r6, r7⟩ := free8 hy
      have hHi : Hid (bdHi S ⟨p2, o2, f2, m2⟩ j = ⟨p4, o4, f4, m4⟩) := by show _ = _; unfold bdHi; rw [HS4.out]; rfl
      clear hj2
      go_upto_region 5 with fail
      have hy5 : ((((wz.setCell ⟨w.heap.size + 1, 4, none⟩ (.int .i64 p4)).setCell ⟨w.heap.size + 1, 5, none⟩ (.int .i64 o4)).setCell ⟨w.heap.size + 1, 6, none⟩ (.int .i64 f4)).setCell ⟨w.heap.size + 1, 7, none⟩ (.int .i64 m4)).heap[w.heap.size + 1]? = some (.cells #[.int .i64 p1, .int .i64 o1, .int .i64 f1, .int .i64 m1, .int .i64 p4, .int .i64 o4, .int .i64 f4, .int .i64 m4] 81 (0, 0)) := four_hi hy _ _ _ _
      have hz5 : ((((wz.setCell ⟨w.heap.size + 1, 4, none⟩ (.int .i64 p4)).setCell ⟨w.heap.size + 1, 5, none⟩ (.int .i64 o4)).setCell ⟨w.heap.size + 1, 6, none⟩ (.int .i64 f4)).setCell ⟨w.heap.size + 1, 7, none⟩ (.int .i64 m4)).heap[w.heap.size + 1 + 1]? = _ := (four_other (o := 4) _ _ _ _ (by omega)).trans hz
      have hu5 : Calm w ((((wz.setCell ⟨w.heap.size + 1, 4, none⟩ (.int .i64 p4)).setCell ⟨w.heap.size + 1, 5, none⟩ (.int .i64 o4)).setCell ⟨w.heap.size + 1, 6, none⟩ (.int .i64 f4)).setCell ⟨w.heap.size + 1, 7, none⟩ (.int .i64 m4)) := hu.four (by omega) 4 _ _ _ _
      generalize ((((wz.setCell ⟨w.heap.size + 1, 4, none⟩ (.int .i64 p4)).setCell ⟨w.heap.size + 1, 5, none⟩ (.int .i64 o4)).setCell ⟨w.heap.size + 1, 6, none⟩ (.int .i64 f4)).setCell ⟨w.heap.size + 1, 7, none⟩ (.int .i64 m4)) = w5 at hy5 hz5 hu5 ⊢
      clear x0 x1 x2 x3 x4 hxs y0 y1 y2 y3 y4 y5 y6 y7 hys r0 r1 r2 r3 r4 r5 r6 r7 s0 s1 s2 s3
      obtain ⟨y0, y1, y2, y3, y4, y5, y6, y7, hys⟩ := row8 hy5
      obtain ⟨z0, z1, z2, z3, z4, z5, z6, z7, hzs⟩ := row8 hz5
      obtain ⟨r0, r1, r2, r3, r4, r5, r6, r7⟩ := free8 hz5
      go_wp2_with fail
      exact end_bd rfl rfl _ _ (w.heap.size + 1 + 1) _ _ (0, 0) rfl rfl (four_hi (four_lo hz5 _ _ _ _) _ _ _ _) rfl ⟨by rw [hLo.out, hHi.out], (hu5.four (g := w.heap.size + 1 + 1) (by omega) 0 _ _ _ _).four (g := w.heap.size + 1 + 1) (by omega) 4 _ _ _ _⟩
    · have hji : ¬ ((j : Int) < (S.length : Int)) := by omega
      have hHi : Hid (bdHi S ⟨p2, o2, f2, m2⟩ j = ⟨p2, o2, f2, m2⟩) := by show _ = _; unfold bdHi; rw [List.getElem?_eq_none (by omega)]; rfl
      obtain ⟨x0, x1, x2, x3, x4, hxs⟩ := row5 hx
      have hy5 := hy
      have hz5 := hz
      have hu5 := hu
      have hji2 : (S.length : Int) ≤ (j : Int) := by omega
      clear hji hj2
      go_upto_region 5 with fail
      clear x0 x1 x2 x3 x4 hxs
      obtain ⟨y0, y1, y2, y3, y4, y5, y6, y7, hys⟩ := row8 hy5
      obtain ⟨z0, z1, z2, z3, z4, z5, z6, z7, hzs⟩ := row8 hz5
      obtain ⟨r0, r1, r2, r3, r4, r5, r6, r7⟩ := free8 hz5
      go_wp2_with fail
      exact end_bd rfl rfl _ _ (w.heap.size + 1 + 1) _ _ (0, 0) rfl rfl (four_hi (four_lo hz5 _ _ _ _) _ _ _ _) rfl ⟨by rw [hLo.out, hHi.out], (hu5.four (g := w.heap.size + 1 + 1) (by omega) 0 _ _ _ _).four (g := w.heap.size + 1 + 1) (by omega) 4 _ _ _ _⟩
  · obtain ⟨i, hi⟩ : ∃ i, i + 1 = j := ⟨j - 1, by omega⟩
    have hiS : i < S.length := by omega
    obtain ⟨b3, q3, p3, o3, f3, m3, hA3, hb3, HS3, -, s0, s1, s2, s3⟩ := hL.get hiS
    have hLo : Hid (bdLo S ⟨p1, o1, f1, m1⟩ j = ⟨p3, o3, f3, m3⟩) := by
      show _ = _; unfold bdLo; rw [if_neg h0, show j - 1 = i from by omega, HS3.out]; rfl
    have hj0 : (0 : Int) < (j : Int) := by omega
    have e1 : IntKind.i64.wrap ((j : Int) - 1) = (i : Int) := by rw [IntWalk.i64_in _ (by omega)]; omega
    have e2 : (j : Int) - 1 = (i : Int) := by omega
    have e3 : (i : Int) < (S.length : Int) := by omega
    cases hA3
    obtain ⟨y0, y1, y2, y3, y4, y5, y6, y7, hys⟩ := row8 hy
    obtain ⟨r0, r1, r2, r3, r4, r5, r6, r7⟩ := free8 hy
    clear hi h0
    go_upto_region 3 with fail
    have hy2 : ((((wz.setCell ⟨w.heap.size + 1, 0, none⟩ (.int .i64 p3)).setCell ⟨w.heap.size + 1, 1, none⟩ (.int .i64 o3)).setCell ⟨w.heap.size + 1, 2, none⟩ (.int .i64 f3)).setCell ⟨w.heap.size + 1, 3, none⟩ (.int .i64 m3)).heap[w.heap.size + 1]? = some (.cells #[.int .i64 p3, .int .i64 o3, .int .i64 f3, .int .i64 m3, .int .i64 p2, .int .i64 o2, .int .i64 f2, .int .i64 m2] 81 (0, 0)) := four_lo hy _ _ _ _
    have hx2 : ((((wz.setCell ⟨w.heap.size + 1, 0, none⟩ (.int .i64 p3)).setCell ⟨w.heap.size + 1, 1, none⟩ (.int .i64 o3)).setCell ⟨w.heap.size + 1, 2, none⟩ (.int .i64 f3)).setCell ⟨w.heap.size + 1, 3, none⟩ (.int .i64 m3)).heap[w.heap.size]? = _ := (four_other (o := 0) _ _ _ _ (by omega)).trans hx
    have hz2 : ((((wz.setCell ⟨w.heap.size + 1, 0, none⟩ (.int .i64 p3)).setCell ⟨w.heap.size + 1, 1, none⟩ (.int .i64 o3)).setCell ⟨w.heap.size + 1, 2, none⟩ (.int .i64 f3)).setCell ⟨w.heap.size + 1, 3, none⟩ (.int .i64 m3)).heap[w.heap.size + 1 + 1]? = _ := (four_other (o := 0) _ _ _ _ (by omega)).trans hz
    have hu2 : Calm w ((((wz.setCell ⟨w.heap.size + 1, 0, none⟩ (.int .i64 p3)).setCell ⟨w.heap.size + 1, 1, none⟩ (.int .i64 o3)).setCell ⟨w.heap.size + 1, 2, none⟩ (.int .i64 f3)).setCell ⟨w.heap.size + 1, 3, none⟩ (.int .i64 m3)) := hu.four (by omega) 0 _ _ _ _
    generalize ((((wz.setCell ⟨w.heap.size + 1, 0, none⟩ (.int .i64 p3)).setCell ⟨w.heap.size + 1, 1, none⟩ (.int .i64 o3)).setCell ⟨w.heap.size + 1, 2, none⟩ (.int .i64 f3)).setCell ⟨w.heap.size + 1, 3, none⟩ (.int .i64 m3)) = w2 at hy2 hx2 hz2 hu2 ⊢
    have hL2 := h.calm hu2
    clear x0 x1 x2 x3 x4 hxs y0 y1 y2 y3 y4 y5 y6 y7 hys r0 r1 r2 r3 r4 r5 r6 r7 s0 s1 s2 s3 hj0 e1 e2 e3
    by_cases hj2 : j < S.length
    · obtain ⟨b4, q4, p4, o4, f4, m4, hA4, hb4, HS4, -, s0, s1, s2, s3⟩ := hL2.get hj2
      have hji : (j : Int) < (S.length : Int) := by omega
      cases hA4
      obtain ⟨x0, x1, x2, x3, x4, hxs⟩ := row5 hx2
      obtain ⟨y0, y1, y2, y3, y4, y5, y6, y7, hys⟩ := row8 hy2
      obtain ⟨r0, r1, r2, r3, r4, r5, r6, r7⟩ := free8 hy2
      have hHi : Hid (bdHi S ⟨p2, o2, f2, m2⟩ j = ⟨p4, o4, f4, m4⟩) := by show _ = _; unfold bdHi; rw [HS4.out]; rfl
      clear hj2
      go_upto_region 5 with fail
      have hy5 : ((((w2.setCell ⟨w.heap.size + 1, 4, none⟩ (.int .i64 p4)).setCell ⟨w.heap.size + 1, 5, none⟩ (.int .i64 o4)).setCell ⟨w.heap.size + 1, 6, none⟩ (.int .i64 f4)).setCell ⟨w.heap.size + 1, 7, none⟩ (.int .i64 m4)).heap[w.heap.size + 1]? = some (.cells #[.int .i64 p3, .int .i64 o3, .int .i64 f3, .int .i64 m3, .int .i64 p4, .int .i64 o4, .int .i64 f4, .int .i64 m4] 81 (0, 0)) := four_hi hy2 _ _ _ _
      have hz5 : ((((w2.setCell ⟨w.heap.size + 1, 4, none⟩ (.int .i64 p4)).setCell ⟨w.heap.size + 1, 5, none⟩ (.int .i64 o4)).setCell ⟨w.heap.size + 1, 6, none⟩ (.int .i64 f4)).setCell ⟨w.heap.size + 1, 7, none⟩ (.int .i64 m4)).heap[w.heap.size + 1 + 1]? = _ := (four_other (o := 4) _ _ _ _ (by omega)).trans hz2
      have hu5 : Calm w ((((w2.setCell ⟨w.heap.size + 1, 4, none⟩ (.int .i64 p4)).setCell ⟨w.heap.size + 1, 5, none⟩ (.int .i64 o4)).setCell ⟨w.heap.size + 1, 6, none⟩ (.int .i64 f4)).setCell ⟨w.heap.size + 1, 7, none⟩ (.int .i64 m4)) := hu2.four (by omega) 4 _ _ _ _
      generalize ((((w2.setCell ⟨w.heap.size + 1, 4, none⟩ (.int .i64 p4)).setCell ⟨w.heap.size + 1, 5, none⟩ (.int .i64 o4)).setCell ⟨w.heap.size + 1, 6, none⟩ (.int .i64 f4)).setCell ⟨w.heap.size + 1, 7, none⟩ (.int .i64 m4)) = w5 at hy5 hz5 hu5 ⊢
      clear x0 x1 x2 x3 x4 hxs y0 y1 y2 y3 y4 y5 y6 y7 hys r0 r1 r2 r3 r4 r5 r6 r7 s0 s1 s2 s3
      obtain ⟨y0, y1, y2, y3, y4, y5, y6, y7, hys⟩ := row8 hy5
      obtain ⟨z0, z1, z2, z3, z4, z5, z6, z7, hzs⟩ := row8 hz5
      obtain ⟨r0, r1, r2, r3, r4, r5, r6, r7⟩ := free8 hz5
      go_wp2_with fail
      exact end_bd rfl rfl _ _ (w.heap.size + 1 + 1) _ _ (0, 0) rfl rfl (four_hi (four_lo hz5 _ _ _ _) _ _ _ _) rfl ⟨by rw [hLo.out, hHi.out], (hu5.four (g := w.heap.size + 1 + 1) (by omega) 0 _ _ _ _).four (g := w.heap.size + 1 + 1) (by omega) 4 _ _ _ _⟩
    · have hji : ¬ ((j : Int) < (S.length : Int)) := by omega
      have hHi : Hid (bdHi S ⟨p2, o2, f2, m2⟩ j = ⟨p2, o2, f2, m2⟩) := by show _ = _; unfold bdHi; rw [List.getElem?_eq_none (by omega)]; rfl
      obtain ⟨x0, x1, x2, x3, x4, hxs⟩ := row5 hx2
      have hy5 := hy2
      have hz5 := hz2
      have hu5 := hu2
      have hji2 : (S.length : Int) ≤ (j : Int) := by omega
      clear hji hj2
      go_upto_region 5 with fail
      clear x0 x1 x2 x3 x4 hxs
      obtain ⟨y0, y1, y2, y3, y4, y5, y6, y7, hys⟩ := row8 hy5
      obtain ⟨z0, z1, z2, z3, z4, z5, z6, z7, hzs⟩ := row8 hz5
      obtain ⟨r0, r1, r2, r3, r4, r5, r6, r7⟩ := free8 hz5
      go_wp2_with fail
      exact end_bd rfl rfl _ _ (w.heap.size + 1 + 1) _ _ (0, 0) rfl rfl (four_hi (four_lo hz5 _ _ _ _) _ _ _ _) rfl ⟨by rw [hLo.out, hHi.out], (hu5.four (g := w.heap.size + 1 + 1) (by omega) 0 _ _ _ _).four (g := w.heap.size + 1 + 1) (by omega) 4 _ _ _ _⟩
open Go.RowKit
noncomputable def dec (P : Prop) : Bool := @decide P (Classical.propDecidable P)
theorem dec_true {P : Prop} (h : P) : dec P = true := @decide_eq_true P (Classical.propDecidable P) h
theorem dec_false {P : Prop} (h : ¬ P) : dec P = false := @decide_eq_false P (Classical.propDecidable P) h
theorem dec_iff {P : Prop} : dec P = true ↔ P := ⟨fun h => @of_decide_eq_true P (Classical.propDecidable P) h, dec_true⟩
theorem dec_congr {P Q : Prop} (h : P ↔ Q) : dec P = dec Q := Bool.eq_iff_iff.2 (dec_iff.trans (h.trans dec_iff.symm))
theorem rowT {w : World} {g t : Nat} {a b : Value} {fr : Nat × Nat} (h : w.heap[g]? = some (.cells #[a, b] t fr)) : w.cell? ⟨g, 0, none⟩ = some a ∧ w.cell? ⟨g, 1, none⟩ = some b ∧ g < w.heap.size :=
 ⟨cell_of_row _ _ 0 _ _ _ h, cell_of_row _ _ 1 _ _ _ h, (Array.getElem?_eq_some_iff.1 h).1⟩
def FillP (root : Int) (l : List Nd) : Prop := ∀ (i : Nat) (n : Nd), l[i]? = some n → (i : Int) ≠ root → n.kd ≠ 0 → 4 ≤ n.E.length + n.K.length
set_option maxHeartbeats 4000000 in
theorem filled_any (root : Int) (A : Option Addr) (c : Nat) (l : List Nd) (w : World) (h : TrAt w A l) (hs : ∀ n ∈ l, n.E.length ≤ 8 ∧ n.K.length ≤ 8) :
    Calls Try.prog 41 #[.agg #[.int .i64 root, .slice A l.length c]] w fun e w' => e = .returned (.bool (dec (FillP root l))) ∧ Calm w w' := by
  have hx := heap_new w (.cells #[.int .i64 root, .slice A l.length c] 24)
  have hu := (Calm.refl w).alloc (.cells #[.int .i64 root, .slice A l.length c] 24)
  have HT := Lib.hid h
  have HS := Lib.hid hs
  have hln := h.len
  obtain ⟨x0, x1, hxs⟩ := rowT hx
  clear h hs
  go_enter Try.func41, Try.ntmps41
  go_wp2_with fail
  go_loopw [8] (fun i wr => ∃ k : Nat, k ≤ l.length ∧ i = .int .i64 k ∧ Calm (w.alloc (.cells #[.int .i64 root, .slice A l.length c] 24)) wr ∧ Hid (∀ (i : Nat) (n : Nd), i < k → l[i]? = some n → (i : Int) ≠ root → n.kd ≠ 0 → 4 ≤ n.E.length + n.K.length)) (fun i _ => l.length - (intOf i).toNat)
  case atStart => exact ⟨0, Nat.zero_le _, rfl, Calm.refl _, show ∀ _, _ from fun i n hi => absurd hi (Nat.not_lt_zero _)⟩
  case round =>
    obtain ⟨k, hk, rfl, hv, hN⟩ := hrel
    have hx1 := (hv.block (by simp)).trans hx
    have hv0 := ((Calm.refl w).alloc _).call hv
    clear x0 x1 hxs
    obtain ⟨x0, x1, hxs⟩ := rowT hx1
    by_cases hlt : k < l.length
    rotate_left
    · have hP : Hid (true = dec (FillP root l)) := (dec_true (P := FillP root l) fun i n hi => hN.out i n (by have := (List.getElem?_eq_some_iff.1 hi).1; omega) hi).symm
      go_wp2_with fail
      go_ret
      exact ⟨ret_bool hP.out, hv0⟩
    obtain ⟨b, q, kd, A1, A2, A3, A4, c1, c2, c3, c4, E, K, S, T, rfl, hb, HL, -, n0, n1, n2, n3, n4⟩ := (HT.out.calm hv0).get hlt
    have hsz := HS.out _ (List.mem_of_getElem? HL.out)
    simp only at hsz
    have e1 : IntKind.i64.wrap ((E.length : Int) + (K.length : Int)) = ((E.length + K.length : Nat) : Int) := by rw [IntWalk.i64_in _ (by omega)]; omega
    have hnext : Hid (((k : Int) ≠ root → kd ≠ 0 → 4 ≤ E.length + K.length) → ∀ (i : Nat) (n : Nd), i < k + 1 → l[i]? = some n → (i : Int) ≠ root → n.kd ≠ 0 → 4 ≤ n.E.length + n.K.length) := show _ → _ from fun hg i n hi hn => by
      rcases Nat.lt_or_ge i k with h2 | h2
      · exact hN.out i n h2 hn
      · obtain rfl : i = k := by omega
        rw [HL.out] at hn; injection hn with hn; subst hn
        exact hg
    by_cases hr : (k : Int) = root
    · have hN1 := Lib.hid (hnext.out fun h => absurd hr h)
      have hr2 := hr.symm
      subst hr2
      clear hr hnext e1 hsz
      go_wp2_with fail
      go_roundw
      case rel => exact ⟨k + 1, by omega, by go_num, hv.alloc _, hN1⟩
      case measure => simp [intOf]; omega
    have b1 : ((k : Int) != root) = true := by rw [bne_iff_ne]; exact hr
    by_cases hk0 : kd = 0
    · have hN1 := Lib.hid (hnext.out fun _ h => absurd hk0 h)
      subst hk0
      clear hr hnext e1 hsz
      go_wp2_with fail
      go_roundw
      case rel => exact ⟨k + 1, by omega, by go_num, hv.alloc _, hN1⟩
      case measure => simp [intOf]; omega
    have b2 : (kd != 0) = true := by rw [bne_iff_ne]; exact hk0
    by_cases h4 : E.length + K.length < 4
    · have hP : Hid (false = dec (FillP root l)) := (dec_false (P := FillP root l) fun h => by
        have := h k _ HL.out hr hk0
        simp only at this
        omega).symm
      obtain ⟨m, hm⟩ : ∃ m, E.length + K.length = m := ⟨_, rfl⟩
      rw [hm] at e1 h4
      have e2 : (E.length : Int) + (K.length : Int) = (m : Int) := by omega
      have e3 : (m : Int) < 4 := by omega
      have e4 : IntKind.i64.wrap (m : Int) = (m : Int) := IntWalk.i64_in _ (by omega)
      clear hr hnext hsz hk0 hm h4 e1
      go_wp2_with fail
      go_ret
      exact ⟨ret_bool hP.out, hv0.alloc _⟩
    · have hN1 := Lib.hid (hnext.out fun _ _ => by omega)
      obtain ⟨m, hm⟩ : ∃ m, E.length + K.length = m := ⟨_, rfl⟩
      rw [hm] at e1 h4
      have e2 : (E.length : Int) + (K.length : Int) = (m : Int) := by omega
      have e3 : (4 : Int) ≤ (m : Int) := by omega
      have e4 : IntKind.i64.wrap (m : Int) = (m : Int) := IntWalk.i64_in _ (by omega)
      clear hr hnext hsz hk0 hm h4 e1
      go_wp2_with fail
      go_roundw
      case rel => exact ⟨k + 1, by omega, by go_num, hv.alloc _, hN1⟩
      case measure => simp [intOf]; omega
def tidOf (l : List Nd) (x : Int) : Int := match l[x.toNat]? with | some n => ndTid n.E n.T | none => 0
def TimeP (l : List Nd) : Prop := ∀ (i : Nat) (n : Nd), l[i]? = some n → ∀ (j : Nat) (x : Int), n.K[j]? = some x → n.T[j]? = some (tidOf l x)
set_option maxHeartbeats 8000000 in
theorem timed_any (root : Int) (A : Option Addr) (c : Nat) (l : List Nd) (w : World) (h : TrAt w A l) (hok : ∀ n ∈ l, ndErr n.kd n.E n.K n.S n.T = 0 ∧ n.K.length = n.T.length ∧ n.K.length ≤ 8 ∧ ∀ x ∈ n.K, 0 ≤ x ∧ x < (l.length : Int)) :
    Calls Try.prog 42 #[.agg #[.int .i64 root, .slice A l.length c]] w fun e w' => e = .returned (.bool (dec (TimeP l))) ∧ Calm w w' := by
  have hx := heap_new w (.cells #[.int .i64 root, .slice A l.length c] 24)
  have HT := Lib.hid h
  have HO : Hid (∀ n ∈ l, ndErr n.kd n.E n.K n.S n.T = 0 ∧ n.K.length = n.T.length ∧ n.K.length ≤ 8 ∧ ∀ x ∈ n.K, 0 ≤ x ∧ x < (l.length : Int)) := hok
  have hln := h.len
  obtain ⟨x0, x1, hxs⟩ := rowT hx
  clear h hok
  go_enter Try.func42, Try.ntmps42
  go_wp2_with fail
  go_loopw [12] (fun i wr => ∃ k : Nat, k ≤ l.length ∧ i = .int .i64 k ∧ Calm (w.alloc (.cells #[.int .i64 root, .slice A l.length c] 24)) wr ∧ Hid (∀ (i : Nat) (n : Nd), i < k → l[i]? = some n → ∀ (j : Nat) (x : Int), n.K[j]? = some x → n.T[j]? = some (tidOf l x))) (fun i _ => l.length - (intOf i).toNat)
  case atStart => exact ⟨0, Nat.zero_le _, rfl, Calm.refl _, show ∀ _, _ from fun i n hi => absurd hi (Nat.not_lt_zero _)⟩
  case round =>
    obtain ⟨k, hk, rfl, hv, hN⟩ := hrel
    have hx1 := (hv.block (by simp)).trans hx
    have hv0 := ((Calm.refl w).alloc _).call hv
    clear x0 x1 hxs
    obtain ⟨x0, x1, hxs⟩ := rowT hx1
    by_cases hlt : k < l.length
    rotate_left
    · have hP : Hid (true = dec (TimeP l)) := (dec_true (P := TimeP l) fun i n hi => hN.out i n (by have := (List.getElem?_eq_some_iff.1 hi).1; omega) hi).symm
      go_wp2_with fail
      go_ret
      exact ⟨ret_bool hP.out, hv0⟩
    obtain ⟨b, q, kd, A1, A2, A3, A4, c1, c2, c3, c4, E, K, S, T, rfl, hb, HL, HA, n0, n1, n2, n3, n4⟩ := (HT.out.calm hv0).get hlt
    obtain ⟨o1, o2, o3, o4⟩ := HO.out _ (List.mem_of_getElem? HL.out)
    simp only at o1 o2 o3 o4
    have hxb := hx1
    have hxlt := (rowT hx1).2.2
    have hnb := heap_new wr (.cells #[.int .i64 kd, .slice A1 E.length c1, .slice A2 K.length c2, .slice A3 S.length c3, .slice A4 T.length c4] 32)
    have hKL := Lib.hid (HA.out.k.calm ((Calm.refl wr).alloc (.cells #[.int .i64 kd, .slice A1 E.length c1, .slice A2 K.length c2, .slice A3 S.length c3, .slice A4 T.length c4] 32)))
    have hTL := Lib.hid (HA.out.t.calm ((Calm.refl wr).alloc (.cells #[.int .i64 kd, .slice A1 E.length c1, .slice A2 K.length c2, .slice A3 S.length c3, .slice A4 T.length c4] 32)))
    have O2 := Lib.hid o2
    have O4 : Hid (∀ x ∈ K, 0 ≤ x ∧ x < (l.length : Int)) := o4
    clear o1 o2 o4
    have hwn := (Calm.refl wr).alloc (.cells #[.int .i64 kd, .slice A1 E.length c1, .slice A2 K.length c2, .slice A3 S.length c3, .slice A4 T.length c4] 32)
    have hwnb := hwn.size
    go_upto_region 4 with fail
    generalize wr.alloc (.cells #[.int .i64 kd, .slice A1 E.length c1, .slice A2 K.length c2, .slice A3 S.length c3, .slice A4 T.length c4] 32) = wn at hnb hKL hTL hwn hwnb ⊢
    have hnlt := (row5 hnb).2.2.2.2.2
    generalize wr.heap.size = nb at hnb hnlt ⊢
    obtain ⟨m0, m1, m2, m3, m4, hms⟩ := row5 hnb
    go_upto_region 5 with fail
    clear m0 m1 m2 m3 m4 hms x0 x1 hxs n0 n1 n2 n3 n4
    go_loopw [19] (fun i wz => ∃ j : Nat, j ≤ K.length ∧ i = .int .i64 j ∧ Calm wn wz ∧ Hid (∀ (i : Nat) (x : Int), i < j → K[i]? = some x → T[i]? = some (tidOf l x))) (fun i _ => K.length - (intOf i).toNat)
    case atStart => exact ⟨0, Nat.zero_le _, rfl, Calm.refl _, show ∀ _, _ from fun i n hi => absurd hi (Nat.not_lt_zero _)⟩
    case round =>
      obtain ⟨j, hj, rfl, hz, hM⟩ := hrel
      have hvz := (hv.call hwn).call hz
      have hvz0 := ((Calm.refl w).alloc _).call hvz
      by_cases hjl : j < K.length
      rotate_left
      · have hN1 : Hid (∀ (i : Nat) (n : Nd), i < k + 1 → l[i]? = some n → ∀ (j : Nat) (x : Int), n.K[j]? = some x → n.T[j]? = some (tidOf l x)) := show ∀ _, _ from fun i n hi hn j' x hx' => by
          rcases Nat.lt_or_ge i k with h2 | h2
          · exact hN.out i n h2 hn j' x hx'
          · obtain rfl : i = k := by omega
            rw [HL.out] at hn; injection hn with hn; subst hn
            exact hM.out j' x (by have := (List.getElem?_eq_some_iff.1 hx').1; simp only at this; omega) hx'
        go_wp2_with fail
        go_roundw
        case rel => exact ⟨k + 1, by omega, by go_num, hvz, hN1⟩
        case measure => simp [intOf]; omega
      obtain ⟨bk, qk, x, rfl, hbk, HX, cx0⟩ := hKL.out.get hjl
      have cx := (hz.facts.1 bk _ hbk).trans cx0
      obtain ⟨g1, g2⟩ := O4.out x (List.mem_of_getElem? HX.out)
      obtain ⟨X, rfl⟩ : ∃ X : Nat, x = (X : Int) := ⟨x.toNat, by omega⟩
      have hX : X < l.length := by omega
      obtain ⟨b2, q2, kd', B1, B2, B3, B4, d1, d2, d3, d4, E', K', S', T', hA2, hb2, HL2, HA2, v0, v1, v2, v3, v4⟩ := (HT.out.calm hvz0).get hX
      cases hA2
      obtain ⟨p1, p2, p3, p4⟩ := HO.out _ (List.mem_of_getElem? HL2.out)
      simp only at p1
      have cT := fun u hu => nodeTid_any kd' B1 B2 B3 B4 d1 d2 d3 d4 E' K' S' T' u (HA2.out.calm hu)
      rw [if_pos p1, p1] at cT
      obtain ⟨bt, qt, y, rfl, hbt, HY, cy0⟩ := hTL.out.get (show j < T.length by rw [← O2.out]; exact hjl)
      have cy0' := Lib.hid cy0
      have hjT : (j : Int) < (T.length : Int) := by rw [← O2.out]; omega
      have hti : Hid (tidOf l (X : Int) = ndTid E' T') := by show _ = _; unfold tidOf; rw [Int.toNat_natCast, HL2.out]
      have hxz := (hz.block (Nat.lt_of_lt_of_le hxlt hwnb)).trans ((hwn.block hxlt).trans hxb)
      have hnz := (hz.block hnlt).trans hnb
      have cy := (hz.facts.1 bt _ hbt).trans cy0
      obtain ⟨x0, x1, hxs⟩ := rowT hxz
      obtain ⟨m0, m1, m2, m3, m4, hms⟩ := row5 hnz
      have hXi : (X : Int) < (l.length : Int) := by omega
      by_cases he : ndTid E' T' = y
      · have hM1 : Hid (∀ (i : Nat) (x : Int), i < j + 1 → K[i]? = some x → T[i]? = some (tidOf l x)) := show ∀ _, _ from fun i x hi hx' => by
          rcases Nat.lt_or_ge i j with h2 | h2
          · exact hM.out i x h2 hx'
          · obtain rfl : i = j := by omega
            rw [HX.out] at hx'; injection hx' with hx'; subst hx'
            rw [hti.out, he]; exact HY.out
        rw [he] at cT
        clear he hti p1 p2 p3 p4 cx0 cy0
        go_wp2_with (go_at_call 64; (with_reducible refine (cT _ (Calm.refl _)).mono ?_); rintro e w5 ⟨rfl, hb5⟩; have hz5 := hz.call hb5; have hnz5 := (hb5.block (row5 hnz).2.2.2.2.2).trans hnz; have cy5 := (hz5.facts.1 bt _ hbt).trans cy0'.out; obtain ⟨m0, m1, m2, m3, m4, hms⟩ := row5 hnz5)
        go_roundw
        case rel => exact ⟨j + 1, by omega, by go_num, hz5, hM1⟩
        case measure => simp [intOf]; omega
      · have hP : Hid (false = dec (TimeP l)) := (dec_false (P := TimeP l) fun h => by
          have h1 := h k _ HL.out j (X : Int) HX.out
          simp only at h1
          rw [HY.out, hti.out] at h1
          injection h1 with h1
          exact he h1.symm).symm
        have b1 : (ndTid E' T' != y) = true := by rw [bne_iff_ne]; exact he
        generalize ndTid E' T' = t9 at cT b1
        clear he hti p1 p2 p3 p4 cx0 cy0
        go_wp2_with (go_at_call 64; (with_reducible refine (cT _ (Calm.refl _)).mono ?_); rintro e w5 ⟨rfl, hb5⟩; have hz5 := hvz0.call hb5; have hnz5 := (hb5.block (row5 hnz).2.2.2.2.2).trans hnz; have cy5 := ((hz.call hb5).facts.1 bt _ hbt).trans cy0'.out; obtain ⟨m0, m1, m2, m3, m4, hms⟩ := row5 hnz5)
        go_ret
        exact ⟨ret_bool hP.out, hz5⟩
open Go.RowKit
def ndOf (l : List Nd) (x : Int) : Option Nd := if 0 ≤ x then l[x.toNat]? else none
def Deep (l : List Nd) : Nat → Int → Prop
 | 0, _ => False
 |d + 1, x => ∃ n, ndOf l x = some n ∧ (n.kd = 1 ∧ d = 0 ∨ n.kd = 2 ∧ ∀ y ∈ n.K, Deep l d y)
def El.sp (e : El) : Sp := ⟨e.p, e.o, e.f, e.m⟩
def OrdP (l : List Nd) : Nat → Int → Sp → Sp → Prop
 | 0, _, _, _ => True
 |d + 1, x, lo, hi => ∀ n, ndOf l x = some n → (∀ e ∈ n.E, inB lo hi e.sp) ∧ (∀ s ∈ n.S, inB lo hi s) ∧ ∀ (j : Nat) (y : Int), n.K[j]? = some y → OrdP l d y (bdLo n.S lo j) (bdHi n.S hi j)
set_option maxHeartbeats 16000000 in
theorem ordered_any (root : Int) (A : Option Addr) (c : Nat) (l : List Nd) (hok : ∀ n ∈ l, n.E.length ≤ 8 ∧ n.K.length ≤ 8 ∧ n.S.length ≤ 8 ∧ (0 < n.K.length → n.S.length + 1 = n.K.length) ∧ (n.kd = 1 → n.K = [])) : ∀ (d : Nat) (x : Int) (lo hi : Sp) (w : World), Deep l d x → TrAt w A l →
    Calls Try.prog 43 #[.agg #[.int .i64 root, .slice A l.length c], .int .i64 x, .agg (bdC lo hi)] w fun e w' => e = .returned (.bool (dec (OrdP l d x lo hi))) ∧ Calm w w'
  | 0, _, _, _, _, hd, _ => absurd hd id
  | d + 1, x, lo, hi, w, hd, h => by
    obtain ⟨n, hn, hk⟩ := hd
    have ih := fun y lo' hi' u (hy : Deep l d y) (hu : Calm w u) => ordered_any root A c l hok d y lo' hi' u hy (h.calm hu)
    have hx0 : 0 ≤ x := by unfold ndOf at hn; split at hn <;> first | assumption | cases hn
    have hnx : l[x.toNat]? = some n := by unfold ndOf at hn; rw [if_pos hx0] at hn; exact hn
    obtain ⟨X, rfl⟩ : ∃ X : Nat, x = (X : Int) := ⟨x.toNat, by omega⟩
    rw [Int.toNat_natCast] at hnx
    have hX : X < l.length := (List.getElem?_eq_some_iff.1 hnx).1
    have hx := heap_past (.cells (bdC lo hi) 81) (heap_new w (.cells #[.int .i64 root, .slice A l.length c] 24))
    have hy := heap_new2 w (.cells #[.int .i64 root, .slice A l.length c] 24) (.cells (bdC lo hi) 81)
    have hu := ((Calm.refl w).alloc (.cells #[.int .i64 root, .slice A l.length c] 24)).alloc (.cells (bdC lo hi) 81)
    obtain ⟨b, q, kd, A1, A2, A3, A4, c1, c2, c3, c4, E, K, S, T, rfl, hb, HL, HA, n0, n1, n2, n3, n4⟩ := (h.calm hu).get hX
    have hnd : n = ⟨kd, A1, A2, A3, A4, c1, c2, c3, c4, E, K, S, T⟩ := by have := HL.out; rw [hnx] at this; exact Option.some.inj this
    subst hnd
    have hlen := hok _ (List.mem_of_getElem? hnx)
    simp only at hlen
    obtain ⟨k1, k2, k3, k4, k5⟩ := hlen
    have hkids : Hid (∀ y ∈ K, Deep l d y) := show ∀ _, _ from fun y hy => by
      rcases hk with ⟨h1, _⟩ | ⟨_, h2⟩
      · simp only at h1; rw [k5 h1] at hy; cases hy
      · exact h2 y hy
    have hOrd : Hid (OrdP l (d + 1) (X : Int) lo hi ↔ (∀ e ∈ E, inB lo hi e.sp) ∧ (∀ s ∈ S, inB lo hi s) ∧ ∀ (j : Nat) (y : Int), K[j]? = some y → OrdP l d y (bdLo S lo j) (bdHi S hi j)) := by
      show _ ↔ _
      constructor
      · intro h9; exact h9 _ hn
      · intro h9 n' hn'
        rw [hn] at hn'; injection hn' with hn'; subst hn'; exact h9
    rw [dec_congr hOrd.out]
    generalize hR : dec ((∀ e ∈ E, inB lo hi e.sp) ∧ (∀ s ∈ S, inB lo hi s) ∧ ∀ (j : Nat) (y : Int), K[j]? = some y → OrdP l d y (bdLo S lo j) (bdHi S hi j)) = r
    have HR : Hid (dec ((∀ e ∈ E, inB lo hi e.sp) ∧ (∀ s ∈ S, inB lo hi s) ∧ ∀ (j : Nat) (y : Int), K[j]? = some y → OrdP l d y (bdLo S lo j) (bdHi S hi j)) = r) := hR
    have HA0 := Lib.hid h
    have K4 := Lib.hid k4
    have hXi : (X : Int) < (l.length : Int) := by omega
    have hwz := Lib.hid (World.size_alloc w (.cells #[.int .i64 root, .slice (some ⟨b, q, none⟩) l.length c] 24))
    clear hR hOrd hk k5 k4 hn hnx hok h hx0
    go_enter Try.func43, Try.ntmps43
    go_upto_region 1 with fail
    generalize (w.alloc (.cells #[.int .i64 root, .slice (some ⟨b, q, none⟩) l.length c] 24)).alloc (.cells (bdC lo hi) 81) = wz at hx hy hu hb n0 n1 n2 n3 n4 HA ⊢
    obtain ⟨x0, x1, hxs⟩ := rowT hx
    go_upto_region 2 with fail
    have hnn := heap_new wz (.cells #[.int .i64 kd, .slice A1 E.length c1, .slice A2 K.length c2, .slice A3 S.length c3, .slice A4 T.length c4] 32)
    have hwn := (Calm.refl wz).alloc (.cells #[.int .i64 kd, .slice A1 E.length c1, .slice A2 K.length c2, .slice A3 S.length c3, .slice A4 T.length c4] 32)
    have hEL := Lib.hid (HA.out.e.calm hwn)
    have hSL := Lib.hid (HA.out.s.calm hwn)
    have hKL := Lib.hid (HA.out.k.calm hwn)
    have hun := hu.call hwn
    have hyl := (row8 hy).2.2.2.2.2.2.2.2
    have hyn := (hwn.block hyl).trans hy
    have hxn := (hwn.block hxs).trans hx
    have hnl := (row5 hnn).2.2.2.2.2
    replace hyl := Nat.lt_of_lt_of_le hyl hwn.size
    have hxl := Nat.lt_of_lt_of_le hxs hwn.size
    clear x0 x1 hxs n0 n1 n2 n3 n4 hb HA hwn hx hy hu
    generalize wz.alloc (.cells #[.int .i64 kd, .slice A1 E.length c1, .slice A2 K.length c2, .slice A3 S.length c3, .slice A4 T.length c4] 32) = wn at hnn hEL hSL hKL hun hyn hxn hnl hyl hxl ⊢
    generalize wz.heap.size = nb at hnn hnl ⊢
    obtain ⟨lp, lo', lf, lm⟩ := lo
    obtain ⟨hp, ho, hf, hm⟩ := hi
    simp only [bdC] at hyn ⊢
    obtain ⟨m0, m1, m2, m3, m4, hms⟩ := row5 hnn
    go_upto_region 3 with fail
    clear m0 m1 m2 m3 m4 hms
    go_loopw [22] (fun i wr => ∃ k : Nat, k ≤ E.length ∧ i = .int .i64 k ∧ Calm wn wr ∧ Hid (∀ (i : Nat) (e : El), i < k → E[i]? = some e → inB ⟨lp, lo', lf, lm⟩ ⟨hp, ho, hf, hm⟩ e.sp)) (fun i _ => E.length - (intOf i).toNat)
    case atStart => exact ⟨0, Nat.zero_le _, rfl, Calm.refl _, show ∀ _, _ from fun i n hi => absurd hi (Nat.not_lt_zero _)⟩
    case round =>
      obtain ⟨k, hk, rfl, hz, hN⟩ := hrel
      by_cases hlt : k < E.length
      · obtain ⟨be', qe, p, o, f, m, g, s, hAe, hbe, HE, -, e0, e1, e2, e3, e4, e5⟩ := (hEL.out.calm hz).get hlt
        cases hAe
        have cC := fun u => contains_any ⟨lp, lo', lf, lm⟩ ⟨hp, ho, hf, hm⟩ ⟨p, o, f, m⟩ u
        go_upto_region 5 with fail
        have hz1 := hz.alloc (.cells #[.int .i64 p, .int .i64 o, .int .i64 f, .int .i64 m, .int .i64 g, .string s] 43)
        have hb9 := heap_new wr (.cells #[.int .i64 p, .int .i64 o, .int .i64 f, .int .i64 m, .int .i64 g, .string s] 43)
        clear e0 e1 e2 e3 e4 e5
        generalize wr.alloc (.cells #[.int .i64 p, .int .i64 o, .int .i64 f, .int .i64 m, .int .i64 g, .string s] 43) = wb at hz1 hb9 ⊢
        generalize wr.heap.size = yb at hb9 ⊢
        obtain ⟨e0, e1, e2, e3, e4, e5, hes⟩ := row6 hb9
        obtain ⟨y0, y1, y2, y3, y4, y5, y6, y7, hys⟩ := row8 ((hz1.block hyl).trans hyn)
        by_cases hin : inB ⟨lp, lo', lf, lm⟩ ⟨hp, ho, hf, hm⟩ ⟨p, o, f, m⟩
        · rw [decide_eq_true hin] at cC
          have hN1 : Hid (∀ (i : Nat) (e : El), i < k + 1 → E[i]? = some e → inB ⟨lp, lo', lf, lm⟩ ⟨hp, ho, hf, hm⟩ e.sp) := show ∀ _, _ from fun i e hi he => by
            rcases Nat.lt_or_ge i k with h2 | h2
            · exact hN.out i e h2 he
            · obtain rfl : i = k := by omega
              rw [HE.out] at he; injection he with he; subst he; exact hin
          clear hin
          refine wp_region_plan [.val (.agg #[.int .i64 lp, .int .i64 lo', .int .i64 lf, .int .i64 lm, .int .i64 hp, .int .i64 ho, .int .i64 hf, .int .i64 hm]), .val (.agg #[.int .i64 p, .int .i64 o, .int .i64 f, .int .i64 m, .int .i64 g, .string s]), .val (.agg #[.int .i64 p, .int .i64 o, .int .i64 f, .int .i64 m]), .val (.bool true), .val (.bool false)] (by kernel_rfl) (by kernel_rfl) (by kernel_rfl) ?_
          intro X
          iterate 5
            refine plan_val (by kernel_rfl) (fun u hu => ?_) ?_
            · obtain ⟨hc, hf, hz⟩ := hu.of_drew.facts
              go_simp
              all_goals first
                | ((go_at_call 28; exact spot_any _ _ _ _ _ _ _))
                | ((go_at_call 76; exact cC _))
            simp only [Act.put, List.setIfInBounds_toArray, List.set_cons_zero, List.set_cons_succ, Nat.reduceAdd]
          refine plan_end ?_
          intro w' hB
          have hk := hB.calm.of_drew
          clear hB
          go_wp2_with fail
          go_roundw
          case rel => exact ⟨k + 1, by omega, by go_num, hz1.call hk, hN1⟩
          case measure => simp [intOf]; omega
        · rw [decide_eq_false hin] at cC
          have hP : Hid (false = r) := by
            rw [← HR.out]
            exact (dec_false fun h9 => hin (h9.1 _ (List.mem_of_getElem? HE.out))).symm
          clear hin
          refine wp_region_plan [.val (.agg #[.int .i64 lp, .int .i64 lo', .int .i64 lf, .int .i64 lm, .int .i64 hp, .int .i64 ho, .int .i64 hf, .int .i64 hm]), .val (.agg #[.int .i64 p, .int .i64 o, .int .i64 f, .int .i64 m, .int .i64 g, .string s]), .val (.agg #[.int .i64 p, .int .i64 o, .int .i64 f, .int .i64 m]), .val (.bool false), .val (.bool true)] (by kernel_rfl) (by kernel_rfl) (by kernel_rfl) ?_
          intro X
          iterate 5
            refine plan_val (by kernel_rfl) (fun u hu => ?_) ?_
            · obtain ⟨hc, hf, hz⟩ := hu.of_drew.facts
              go_simp
              all_goals first
                | ((go_at_call 28; exact spot_any _ _ _ _ _ _ _))
                | ((go_at_call 76; exact cC _))
            simp only [Act.put, List.setIfInBounds_toArray, List.set_cons_zero, List.set_cons_succ, Nat.reduceAdd]
          refine plan_end ?_
          intro w' hB
          have hk := hB.calm.of_drew
          clear hB
          go_wp2_with fail
          go_ret
          exact ⟨ret_bool hP.out, hun.call (hz1.call hk)⟩
      have hE : Hid (∀ e ∈ E, inB ⟨lp, lo', lf, lm⟩ ⟨hp, ho, hf, hm⟩ e.sp) := show ∀ _, _ from fun e he => by
        obtain ⟨i, hi, rfl⟩ := List.getElem_of_mem he
        exact hN.out i _ (by omega) (List.getElem?_eq_getElem hi)
      obtain ⟨m0, m1, m2, m3, m4, hms⟩ := row5 ((hz.block hnl).trans hnn)
      go_upto_region 9 with fail
      clear m0 m1 m2 m3 m4 hms
      go_loopw [35] (fun i wr => ∃ k : Nat, k ≤ S.length ∧ i = .int .i64 k ∧ Calm wn wr ∧ Hid (∀ (i : Nat) (e : Sp), i < k → S[i]? = some e → inB ⟨lp, lo', lf, lm⟩ ⟨hp, ho, hf, hm⟩ e)) (fun i _ => S.length - (intOf i).toNat)
      case atStart => exact ⟨0, Nat.zero_le _, rfl, hz, show ∀ _, _ from fun i n hi => absurd hi (Nat.not_lt_zero _)⟩
      case round =>
        obtain ⟨ks, hks, rfl, hzs, hNs⟩ := hrel
        by_cases hlt2 : ks < S.length
        · obtain ⟨be', qe, p, o, f, m, hAe, hbe, HE, -, e0, e1, e2, e3⟩ := (hSL.out.calm hzs).get hlt2
          cases hAe
          have cC := fun u => contains_any ⟨lp, lo', lf, lm⟩ ⟨hp, ho, hf, hm⟩ ⟨p, o, f, m⟩ u
          go_upto_region 11 with fail
          have hz1 := hzs.alloc (.cells #[.int .i64 p, .int .i64 o, .int .i64 f, .int .i64 m] 62)
          have hb9 := heap_new wr (.cells #[.int .i64 p, .int .i64 o, .int .i64 f, .int .i64 m] 62)
          clear e0 e1 e2 e3
          generalize wr.alloc (.cells #[.int .i64 p, .int .i64 o, .int .i64 f, .int .i64 m] 62) = wb at hz1 hb9 ⊢
          generalize wr.heap.size = yb at hb9 ⊢
          obtain ⟨e0, e1, e2, e3, hes⟩ := row4 hb9
          obtain ⟨y0, y1, y2, y3, y4, y5, y6, y7, hys⟩ := row8 ((hz1.block hyl).trans hyn)
          by_cases hin : inB ⟨lp, lo', lf, lm⟩ ⟨hp, ho, hf, hm⟩ ⟨p, o, f, m⟩
          · rw [decide_eq_true hin] at cC
            have hN1 : Hid (∀ (i : Nat) (e : Sp), i < ks + 1 → S[i]? = some e → inB ⟨lp, lo', lf, lm⟩ ⟨hp, ho, hf, hm⟩ e) := show ∀ _, _ from fun i e hi he => by
              rcases Nat.lt_or_ge i ks with h2 | h2
              · exact hNs.out i e h2 he
              · obtain rfl : i = ks := by omega
                rw [HE.out] at he; injection he with he; subst he; exact hin
            clear hin
            go_wp2_with (go_at_call 76; (with_reducible refine (cC _).mono ?_); rintro e w5 ⟨rfl, hb5⟩; have hz5 := hz1.call hb5; clear hb5)
            go_roundw
            case rel => exact ⟨ks + 1, by omega, by go_num, hz5, hN1⟩
            case measure => simp [intOf]; omega
          · rw [decide_eq_false hin] at cC
            have hP : Hid (false = r) := by
              rw [← HR.out]
              exact (dec_false fun h9 => hin (h9.2.1 _ (List.mem_of_getElem? HE.out))).symm
            clear hin
            go_wp2_with (go_at_call 76; (with_reducible refine (cC _).mono ?_); rintro e w5 ⟨rfl, hb5⟩; have hz5 := hz1.call hb5; clear hb5)
            go_ret
            exact ⟨ret_bool hP.out, hun.call hz5⟩
        have hS : Hid (∀ s ∈ S, inB ⟨lp, lo', lf, lm⟩ ⟨hp, ho, hf, hm⟩ s) := show ∀ _, _ from fun e he => by
          obtain ⟨i, hi, rfl⟩ := List.getElem_of_mem he
          exact hNs.out i _ (by omega) (List.getElem?_eq_getElem hi)
        obtain ⟨m0, m1, m2, m3, m4, hms⟩ := row5 ((hzs.block hnl).trans hnn)
        go_upto_region 15 with fail
        clear m0 m1 m2 m3 m4 hms
        go_loopw [47] (fun i wr => ∃ k : Nat, k ≤ K.length ∧ i = .int .i64 k ∧ Calm wn wr ∧ Hid (∀ (j : Nat) (y : Int), j < k → K[j]? = some y → OrdP l d y (bdLo S ⟨lp, lo', lf, lm⟩ j) (bdHi S ⟨hp, ho, hf, hm⟩ j))) (fun i _ => K.length - (intOf i).toNat)
        case atStart => exact ⟨0, Nat.zero_le _, rfl, hzs, show ∀ _, _ from fun i n hi => absurd hi (Nat.not_lt_zero _)⟩
        case round =>
          obtain ⟨j, hj, rfl, hzk, hM⟩ := hrel
          by_cases hlt3 : j < K.length
          rotate_left
          · have hP : Hid (true = r) := by
              rw [← HR.out]
              exact (dec_true ⟨hE.out, hS.out, fun j' y hy => hM.out j' y (by have := (List.getElem?_eq_some_iff.1 hy).1; omega) hy⟩).symm
            go_wp2_with fail
            go_ret
            exact ⟨ret_bool hP.out, hun.call hzk⟩
          obtain ⟨bk, qk, y, hAk, hbk, HY, cy⟩ := (hKL.out.calm hzk).get hlt3
          cases hAk
          have hdy := hkids.out y (List.mem_of_getElem? HY.out)
          have hsl := K4.out (by omega)
          have cB := fun u (hu : Calm wr u) => treeBetween_any kd A1 (some ⟨bk, qk, none⟩) A3 A4 c1 c2 c3 c4 E K S T j ⟨lp, lo', lf, lm⟩ ⟨hp, ho, hf, hm⟩ u ((hSL.out.calm hzk).calm hu) (by omega) k3
          have cO := fun u (hu : Calm wr u) => ih y (bdLo S ⟨lp, lo', lf, lm⟩ j) (bdHi S ⟨hp, ho, hf, hm⟩ j) u hdy ((hun.call hzk).call hu)
          have hMn : Hid (OrdP l d y (bdLo S ⟨lp, lo', lf, lm⟩ j) (bdHi S ⟨hp, ho, hf, hm⟩ j) → ∀ (j' : Nat) (y : Int), j' < j + 1 → K[j']? = some y → OrdP l d y (bdLo S ⟨lp, lo', lf, lm⟩ j') (bdHi S ⟨hp, ho, hf, hm⟩ j')) := show _ → _ from fun hg j' y' hj' hy' => by
            rcases Nat.lt_or_ge j' j with h2 | h2
            · exact hM.out j' y' h2 hy'
            · obtain rfl : j' = j := by omega
              rw [HY.out] at hy'; injection hy' with hy'; subst hy'; exact hg
          have hbad : Hid (¬ OrdP l d y (bdLo S ⟨lp, lo', lf, lm⟩ j) (bdHi S ⟨hp, ho, hf, hm⟩ j) → false = r) := show _ → _ from fun hg => by
            rw [← HR.out]
            exact (dec_false fun h9 => hg (h9.2.2 j y HY.out)).symm
          obtain ⟨x0, x1, hxs⟩ := rowT ((hzk.block hxl).trans hxn)
          obtain ⟨m0, m1, m2, m3, m4, hms⟩ := row5 ((hzk.block hnl).trans hnn)
          obtain ⟨y0, y1, y2, y3, y4, y5, y6, y7, hys⟩ := row8 ((hzk.block hyl).trans hyn)
          simp only [bdC] at cB cO
          generalize bdLo S ⟨lp, lo', lf, lm⟩ j = bl at cB cO hMn hbad
          generalize bdHi S ⟨hp, ho, hf, hm⟩ j = bh at cB cO hMn hbad
          obtain ⟨bl1, bl2, bl3, bl4⟩ := bl
          obtain ⟨bh1, bh2, bh3, bh4⟩ := bh
          simp only at cB cO
          by_cases hg : OrdP l d y ⟨bl1, bl2, bl3, bl4⟩ ⟨bh1, bh2, bh3, bh4⟩
          · rw [dec_true hg] at cO
            have hM1 := Lib.hid (hMn.out hg)
            clear hg hMn hbad hM
            go_upto_region 17 with fail
            refine wp_region_plan [.val (.agg #[.int .i64 root, .slice (some ⟨b, q, none⟩) l.length c]), .val (.int .i64 (y)), .val (.agg #[.int .i64 kd, .slice A1 E.length c1, .slice (some ⟨bk, qk, none⟩) K.length c2, .slice A3 S.length c3, .slice A4 T.length c4]), .val (.int .i64 (j)), .val (.agg #[.int .i64 lp, .int .i64 lo', .int .i64 lf, .int .i64 lm, .int .i64 hp, .int .i64 ho, .int .i64 hf, .int .i64 hm]), .val (.agg #[.int .i64 bl1, .int .i64 bl2, .int .i64 bl3, .int .i64 bl4, .int .i64 bh1, .int .i64 bh2, .int .i64 bh3, .int .i64 bh4]), .val (.bool true), .val (.bool false)] (by kernel_rfl) (by kernel_rfl) (by kernel_rfl) ?_
            intro X
            iterate 8
              refine plan_val (by kernel_rfl) (fun u hu => ?_) ?_
              · obtain ⟨hc, hf, hz⟩ := hu.of_drew.facts
                go_simp
                all_goals first
                  | ((go_at_call 77; exact cB _ hu.of_drew))
                  | ((go_at_call 43; exact cO _ hu.of_drew))
              simp only [Act.put, List.setIfInBounds_toArray, List.set_cons_zero, List.set_cons_succ, Nat.reduceAdd]
            refine plan_end ?_
            intro w' hB
            have hk := hB.calm.of_drew
            clear hB
            go_wp2_with fail
            go_roundw
            case rel => exact ⟨j + 1, by omega, by go_num, hzk.call hk, hM1⟩
            case measure => simp [intOf]; omega
          · rw [dec_false hg] at cO
            have hP := Lib.hid (hbad.out hg)
            clear hg hMn hbad hM
            go_upto_region 17 with fail
            refine wp_region_plan [.val (.agg #[.int .i64 root, .slice (some ⟨b, q, none⟩) l.length c]), .val (.int .i64 (y)), .val (.agg #[.int .i64 kd, .slice A1 E.length c1, .slice (some ⟨bk, qk, none⟩) K.length c2, .slice A3 S.length c3, .slice A4 T.length c4]), .val (.int .i64 (j)), .val (.agg #[.int .i64 lp, .int .i64 lo', .int .i64 lf, .int .i64 lm, .int .i64 hp, .int .i64 ho, .int .i64 hf, .int .i64 hm]), .val (.agg #[.int .i64 bl1, .int .i64 bl2, .int .i64 bl3, .int .i64 bl4, .int .i64 bh1, .int .i64 bh2, .int .i64 bh3, .int .i64 bh4]), .val (.bool false), .val (.bool true)] (by kernel_rfl) (by kernel_rfl) (by kernel_rfl) ?_
            intro X
            iterate 8
              refine plan_val (by kernel_rfl) (fun u hu => ?_) ?_
              · obtain ⟨hc, hf, hz⟩ := hu.of_drew.facts
                go_simp
                all_goals first
                  | ((go_at_call 77; exact cB _ hu.of_drew))
                  | ((go_at_call 43; exact cO _ hu.of_drew))
              simp only [Act.put, List.setIfInBounds_toArray, List.set_cons_zero, List.set_cons_succ, Nat.reduceAdd]
            refine plan_end ?_
            intro w' hB
            have hk := hB.calm.of_drew
            clear hB
            go_wp2_with fail
            go_ret
            exact ⟨ret_bool hP.out, hun.call (hzk.call hk)⟩
open Go.RowKit
/-- append(out, more...): numbers that lie in memory behind those of a row of the call's own. -/
theorem wpList_append_iL {ops : Array Oper} {rest : List Oper} {o : Oper} {a : Act} {w : World} {Q : Exit → Act → World → Prop} (hgd : o.guard = none) (s x : Operand)
    (ho : o.op = .call { callee := .builtin .append, args := #[s, x], argTypes := #[29, 29] })
    (base : Nat) (v : Value) (l : List Int) (hs : a.eval s = v) (hown : OwnI base w v l) (A : Option Addr) (c : Nat) (l2 : List Int) (hx : a.eval x = .slice A l2.length c) (hsrc : LiesI w A l2)
    (hl : l.length + l2.length ≤ 1000000) (hbase : base ≤ w.heap.size)
    (h : ∀ v' w', OwnI base w' v' (l ++ l2) → (∀ w0 : World, w0.heap.size ≤ base → Calm w0 w → Calm w0 w') → wpList Try.prog ops Q rest (a.put o.dst v') w') : wpList Try.prog ops Q (o :: rest) a w := by
  obtain ⟨i0, hi, hz0, hz1, hz2⟩ := info_parts infoInt
  have key : ∀ ad, A = some ad → (∀ j u, (iv l2)[j]? = some u → w.cell? (ad.add j) = some u) → wpList Try.prog ops Q (o :: rest) a w := fun ad hA hc => by
    subst hA
    refine wpList_append_own w hgd s x _ ho base 3 i0 _ 1 8 Try.underlying29 hi hz0 hz1 hz2 rfl (by decide) v _ _ hs hown ad l2.length c (iv l2) hx (by rw [iv_length]; omega) hc (iv_one _) (by unfold maxLen; omega) (by omega) hbase fun v' w' h1 h2 _ => ?_
    refine h v' w' ?_ fun w0 h0 hc => hc.grownI h0 hown h2
    unfold OwnI
    rw [List.length_append, show iv (l ++ l2) = iv l ++ iv l2 from by simp [iv]]
    exact h1
  rcases Nat.eq_zero_or_pos l2.length with h0 | h0
  · have hn : l2 = [] := List.eq_nil_of_length_eq_zero h0
    subst hn
    rcases A with _ | ad
    · refine wpList_plain hgd fun K hK => ?_
      have hrun : (Builtin.append_ #[29, 29] o.type #[v, .slice none 0 c]).run Try.prog w = .ok v w := by
        rcases hown.2 with ⟨rfl, hn⟩ | ⟨g, cap, cur, rfl, _, _, hnc, _⟩
        · simp [Builtin.append_, run_underlying Try.underlying29, sizeOf, typeInfo, hi, Builtin.lenOf, Builtin.firstCells]
        · simp [Builtin.append_, run_underlying Try.underlying29, sizeOf, typeInfo, hi, Builtin.lenOf, Builtin.firstCells, hnc, storeCells]
      unfold Oper.wp execOp
      simp only [ho, resolve, invoke, builtin, Sem.run_bind, Sem.run_pure, Result.andThen_ok, List.map_toArray, List.map_cons, List.map_nil, hs, hx, List.length_nil, hrun]
      exact hK _ _ (h v w (by simpa using hown) fun _ _ h => h)
    · exact key ad rfl fun j u hj => by simp [iv] at hj
  · obtain ⟨b, q, hA, hb, hk⟩ := hsrc h0
    refine key _ hA fun j u hj => ?_
    have hjl : j < l2.length := by rw [← iv_length]; exact (List.getElem?_eq_some_iff.1 hj).1
    have e : (⟨b, q, none⟩ : Addr).add j = ⟨b, q + j, none⟩ := by unfold Addr.add; split <;> simp_all
    rw [e, hk j _ (List.getElem?_eq_getElem hjl)]
    simp only [iv, List.getElem?_map, List.getElem?_eq_getElem hjl, Option.map_some, Option.some.injEq] at hj
    rw [hj]
theorem takeSnoc' {α : Type} {l : List α} {i : Nat} {x : α} (h : l[i]? = some x) : l.take i ++ [x] = l.take (i + 1) := by
 have hk : i < l.length := (List.getElem?_eq_some_iff.1 h).1
 rw [List.take_succ_eq_append_getElem hk, (List.getElem?_eq_some_iff.1 h).2]
def kidsOf (l : List Nd) (x : Int) : List Int := match l[x.toNat]? with | some n => n.K | none => []
set_option maxHeartbeats 4000000 in
theorem below_any (root : Int) (A : Option Addr) (c : Nat) (l : List Nd) (B : Option Addr) (d : Nat) (L : List Int) (w : World) (h : TrAt w A l) (hL : LiesI w B L) (hk : ∀ n ∈ l, n.K.length ≤ 8) (hin : ∀ x ∈ L, 0 ≤ x ∧ x < (l.length : Int)) (hn : L.length ≤ 400) :
    Calls Try.prog 74 #[.agg #[.int .i64 root, .slice A l.length c], .slice B L.length d] w fun e w' => ∃ v, e = .returned v ∧ OwnI (w.heap.size + 1) w' v (L.flatMap (kidsOf l)) ∧ Calm w w' := by
  have hx := heap_new w (.cells #[.int .i64 root, .slice A l.length c] 24)
  have HT := Lib.hid (h.calm ((Calm.refl w).alloc (.cells #[.int .i64 root, .slice A l.length c] 24)))
  have HL := Lib.hid (hL.calm ((Calm.refl w).alloc (.cells #[.int .i64 root, .slice A l.length c] 24)))
  have HI : Hid (∀ x ∈ L, 0 ≤ x ∧ x < (l.length : Int)) := hin
  have HK : Hid (∀ n ∈ l, n.K.length ≤ 8) := hk
  have hfl : Hid (∀ k, ((L.take k).flatMap (kidsOf l)).length ≤ k * 8) := show ∀ _, _ from fun k => by
    induction k with
    | zero => simp
    | succ k ih =>
      rcases Nat.lt_or_ge k L.length with hlt | hge
      · rw [List.take_succ_eq_append_getElem hlt, List.flatMap_append, List.flatMap_singleton, List.length_append]
        have : (kidsOf l L[k]).length ≤ 8 := by
          unfold kidsOf
          cases hq : l[(L[k]).toNat]? with
          | none => simp
          | some n => exact hk n (List.mem_of_getElem? hq)
        omega
      · rw [List.take_of_length_le (by omega)] at ih ⊢; omega
  obtain ⟨x0, x1, hxs⟩ := rowT hx
  clear h hL hin hk
  go_enter Try.func74, Try.ntmps74
  go_wp2_with fail
  go_loopw [5, 10] (fun t i wr => ∃ k : Nat, k ≤ L.length ∧ i = .int .i64 k ∧ OwnI (w.heap.size + 1) wr t ((L.take k).flatMap (kidsOf l)) ∧ Calm (w.alloc (.cells #[.int .i64 root, .slice A l.length c] 24)) wr) (fun _ i _ => L.length - (intOf i).toNat)
  case atStart => exact ⟨0, Nat.zero_le _, rfl, OwnI.nil _ _, Calm.refl _⟩
  case round =>
    obtain ⟨k, hk, rfl, ho, hv⟩ := hrel
    have HO := Lib.hid ho
    have hv0 := ((Calm.refl w).alloc _).call hv
    have hsv := hv.size
    simp only [World.size_alloc] at hsv
    have hx1 := (hv.block (by simp)).trans hx
    clear ho x0 x1 hxs
    by_cases hlt : k < L.length
    rotate_left
    · have hE : (L.take k) = L := List.take_of_length_le (by omega)
      rw [hE] at HO
      go_wp2_with fail
      go_ret
      exact ⟨_, rfl, HO.out, hv0⟩
    obtain ⟨bl, ql, x, hBl, hbl, HX, cx⟩ := (HL.out.calm hv).get hlt
    cases hBl
    obtain ⟨g1, g2⟩ := HI.out x (List.mem_of_getElem? HX.out)
    obtain ⟨X, rfl⟩ : ∃ X : Nat, x = (X : Int) := ⟨x.toNat, by omega⟩
    have hX : X < l.length := by omega
    obtain ⟨b, q, kd, A1, A2, A3, A4, c1, c2, c3, c4, E, K, S, T, hA, hb, HN, HA, n0, n1, n2, n3, n4⟩ := (HT.out.calm hv).get hX
    cases hA
    have hK8 := HK.out _ (List.mem_of_getElem? HN.out)
    simp only at hK8
    have hf := hfl.out k
    have hsucc : Hid ((L.take (k + 1)).flatMap (kidsOf l) = (L.take k).flatMap (kidsOf l) ++ K) := by
      show _ = _
      rw [← takeSnoc' HX.out, List.flatMap_append, List.flatMap_singleton]
      congr 1
      unfold kidsOf
      rw [Int.toNat_natCast, HN.out]
    obtain ⟨x0, x1, hxs⟩ := rowT hx1
    have hlen : ((L.take k).flatMap (kidsOf l)).length + K.length ≤ 1000000 := by omega
    clear hf hK8
    go_wp2_with (at_builtin; refine wpList_append_iL rfl _ _ rfl (w.heap.size + 1) _ _ rfl HO.out _ _ K rfl HA.out.k hlen hsv ?_; intro v9 w9 ho9 hc9; have hv9 := hc9 _ (by simp) hv; have HO9 := Lib.hid ho9; clear ho9 hc9)
    go_roundw
    case rel => exact ⟨k + 1, by omega, by go_num, by rw [hsucc.out]; exact HO9.out, hv9⟩
    case measure => simp [intOf]; omega
open Go.RowKit
def ndLeaf : Nd := ⟨1, none, none, none, none, 0, 0, 0, 0, [], [], [], []⟩
set_option maxHeartbeats 4000000 in
theorem treeNew_any (w : World) : Calls Try.prog 31 #[] w fun e w' => ∃ g, e = .returned (.agg #[.int .i64 0, .slice (some ⟨g, 0, none⟩) 1 1]) ∧ w.heap.size ≤ g ∧ w'.heap[g]? = some (.cells #[.int .i64 1, .slice none 0 0, .slice none 0 0, .slice none 0 0, .slice none 0 0] 32 (0, 0)) ∧ Calm w w' := by
 go_enter Try.func31, Try.ntmps31
 go_wp2
 go_returns
 exact ⟨_, rfl, by omega, by simpa using heap_new (w.alloc (.cells #[.int .i64 0, .slice (some ⟨w.heap.size + 1, 0, none⟩) 1 1] 24)) _, by repeat (first | (with_reducible exact Calm.refl _) | (with_reducible refine Calm.alloc ?_ _) | (with_reducible refine Calm.drew ?_) | (with_reducible refine Calm.drewN ?_ _) | (refine Calm.call ?_ (by with_reducible assumption)))⟩
open Go.RowKit
def bvs (l : List Bool) : List Value := l.map Value.bool
def Marks (w : World) (g : Nat) (l : List Bool) : Prop := w.heap[g]? = some (.cells (bvs l).toArray 4 (0, 0))
theorem Marks.cell {w : World} {g : Nat} {l : List Bool} (h : Marks w g l) {i : Nat} (hi : i < l.length) : w.cell? ⟨g, i, none⟩ = some (.bool l[i]) := by
 rw [cell_of_row _ _ _ _ _ _ h, List.getElem?_toArray]
 simp [bvs, hi]
theorem Marks.free {w : World} {g : Nat} {l : List Bool} (h : Marks w g l) (i : Nat) : w.frozen? ⟨g, i, none⟩ = false := frozen_of_row _ _ _ _ _ h
theorem Marks.set {w : World} {g : Nat} {l : List Bool} (h : Marks w g l) (i : Nat) (b : Bool) : Marks (w.setCell ⟨g, i, none⟩ (.bool b)) g (l.set i b) := by
 unfold Marks
 rw [heap_setCell_same w g i _ _ _ h]
 congr 2
 simp [bvs, List.map_set]
theorem Marks.lt {w : World} {g : Nat} {l : List Bool} (h : Marks w g l) : g < w.heap.size := (Array.getElem?_eq_some_iff.1 h).1
theorem Marks.calm {w w' : World} {g : Nat} {l : List Bool} (h : Marks w g l) (hb : Calm w w') : Marks w' g l := (hb.block h.lt).trans h
def kindOf (l : List Nd) (x : Int) : Int := match l[x.toNat]? with | some n => n.kd | none => 0
def EntOk (l : List Nd) (bs : List Bool) (k0 : Int) (x : Int) : Prop := 0 ≤ x ∧ x < (l.length : Int) ∧ bs[x.toNat]? = some false ∧ kindOf l x ≠ 0 ∧ kindOf l x = k0
def EntP (l : List Nd) (k0 : Int) : List Int → List Bool → List Bool → Prop
 | [], bs, bs' => bs' = bs
 |x :: L, bs, bs' => EntOk l bs k0 x ∧ EntP l k0 L (bs.set x.toNat true) bs'
theorem EntP.snoc {l : List Nd} {k0 : Int} : ∀ {L : List Int} {bs bs1 : List Bool} {x : Int}, EntP l k0 L bs bs1 → EntOk l bs1 k0 x → EntP l k0 (L ++ [x]) bs (bs1.set x.toNat true)
 | [], bs, bs1, x, h, hx => by
  have h : bs1 = bs := h
  subst h
  exact ⟨hx, rfl⟩
 |y :: L, bs, bs1, x, h, hx => ⟨h.1, EntP.snoc h.2 hx⟩
theorem EntP.one {l : List Nd} {k0 : Int} : ∀ {L : List Int} {bs b1 b2 : List Bool}, EntP l k0 L bs b1 → EntP l k0 L bs b2 → b1 = b2
 | [], bs, b1, b2, h1, h2 => by
  have h1 : b1 = bs := h1
  have h2 : b2 = bs := h2
  rw [h1, h2]
 |x :: L, bs, b1, b2, h1, h2 => EntP.one h1.2 h2.2
theorem EntP.parts {l : List Nd} {k0 : Int} : ∀ {L M : List Int} {bs b2 : List Bool}, EntP l k0 (L ++ M) bs b2 → ∃ b1, EntP l k0 L bs b1 ∧ EntP l k0 M b1 b2
 | [], M, bs, b2, h => ⟨bs, rfl, h⟩
 |x :: L, M, bs, b2, h => by
  obtain ⟨b1, h1, h2⟩ := EntP.parts (L := L) h.2
  exact ⟨b1, ⟨h.1, h1⟩, h2⟩
theorem EntP.length {l : List Nd} {k0 : Int} : ∀ {L : List Int} {bs b1 : List Bool}, EntP l k0 L bs b1 → b1.length = bs.length
 | [], bs, b1, h => by
  have h : b1 = bs := h
  rw [h]
 |x :: L, bs, b1, h => by rw [EntP.length h.2, List.length_set]
open Go.RowKit
theorem grown_set (w : World) (g j : Nat) (v : Value) : w.grownBy (w.setCell ⟨g, j, none⟩ v) (some g) :=
 ⟨rfl, rfl, rfl, by simp [World.setCell], fun k _ hk => heap_setCell_other w ⟨g, j, none⟩ k v (fun e => hk (by simp [e]))⟩
theorem grown_trans {a b c : World} {row : Option Nat} (h : a.grownBy b row) (k : b.grownBy c row) : a.grownBy c row :=
 ⟨k.os.trans h.os, k.tape.trans h.tape, k.output.trans h.output, Nat.le_trans h.size k.size, fun i hi hn => (k.block i (Nat.lt_of_lt_of_le hi h.size) hn).trans (h.block i hi hn)⟩
theorem grown_calm {a b c : World} {row : Option Nat} (h : a.grownBy b row) (k : Calm b c) : a.grownBy c row := grown_trans h (k.grownBy row)
theorem calm_grown {w0 a b : World} {g : Nat} (h : Calm w0 a) (k : a.grownBy b (some g)) (hg : w0.heap.size ≤ g) : Calm w0 b :=
 Below.grown h k h.size (by intro i hi; cases hi; exact hg)
theorem ownI_grown {B g : Nat} {a b : World} {v : Value} {l : List Int} (h : OwnI B a v l) (k : a.grownBy b (some g)) (hg : g < B) : OwnI B b v l := World.ownsRow.kept h k (by
 cases hv : v.ownBlock with
 |none => exact .inl rfl
 |some i => exact .inr fun hu => by injection hu with hu; subst hu; have := (h.lt _ hv).1; omega)
def EnterEnd (w0 : World) (l : List Nd) (k0 : Int) (L : List Int) (g : Nat) (bs : List Bool) (v : Value) (e : Ending) (w' : World) : Prop :=
 ∃ ok b1, e = .returned (.bool ok) ∧ Calm w0 w' ∧ OwnI (g + 1) w' v L ∧ Marks w' g b1 ∧ (ok = true → EntP l k0 L bs b1) ∧ (ok = false → ∀ b', ¬ EntP l k0 L bs b')
set_option maxHeartbeats 8000000 in
theorem enter_any (root : Int) (A : Option Addr) (c : Nat) (l : List Nd) (B : Option Addr) (d : Nat) (L : List Int) (g : Nat) (bs : List Bool) (w0 w : World) (h : TrAt w0 A l) (hc : Calm w0 w) (hg : w0.heap.size ≤ g) (hL : OwnI (g + 1) w (.slice B L.length d) L) (hM : Marks w g bs) (hbl : bs.length = l.length) (hn : L.length ≤ 4000) (_hln : l.length ≤ 400) (k0 : Int) (hk0 : ∀ x, L[0]? = some x → k0 = kindOf l x) :
    Calls Try.prog 75 #[.agg #[.int .i64 root, .slice A l.length c], .slice B L.length d, .slice (some ⟨g, 0, none⟩) bs.length bs.length] w (EnterEnd w0 l k0 L g bs (.slice B L.length d)) := by
  have hx := heap_new w (.cells #[.int .i64 root, .slice A l.length c] 24)
  have hgw := hM.lt
  have hu := (Calm.refl w).alloc (.cells #[.int .i64 root, .slice A l.length c] 24)
  have hMa := hM.calm hu
  have hLa := rows_calm hL hu
  have hca := hc.call hu
  have HT := Lib.hid h
  have HK0 : Hid (∀ x, L[0]? = some x → k0 = kindOf l x) := hk0
  have HBL := Lib.hid hbl
  clear h hk0 hbl hM hL
  go_enter Try.func75, Try.ntmps75
  go_wp2_with fail
  go_loopw [12] (fun i wr => ∃ (k : Nat) (b1 : List Bool), k ≤ L.length ∧ i = .int .i64 k ∧ Hid ((w.alloc (.cells #[.int .i64 root, .slice A l.length c] 24)).grownBy wr (some g)) ∧ Hid (Marks wr g b1) ∧ Hid (EntP l k0 (L.take k) bs b1)) (fun i _ => L.length - (intOf i).toNat)
  case atStart => exact ⟨0, bs, Nat.zero_le _, rfl, ⟨rfl, rfl, rfl, Nat.le_refl _, fun _ _ _ => rfl⟩, hMa, rfl⟩
  case round =>
    obtain ⟨k, b1, hk, rfl, hG, hM1, hE⟩ := hrel
    have hx1 := (hG.out.block w.heap.size (by simp) (by simp; omega)).trans hx
    have hc1 := calm_grown hca hG.out hg
    have hL1 := Lib.hid (ownI_grown hLa hG.out (Nat.lt_succ_self g))
    obtain ⟨x0, x1, hxs⟩ := rowT hx1
    have hlen1 : Hid (b1.length = l.length) := (EntP.length hE.out).trans HBL.out
    by_cases hlt : k < L.length
    rotate_left
    · have hF : Hid (EntP l k0 L bs b1) := by have := hE.out; rw [List.take_of_length_le (by omega)] at this; exact this
      go_wp2_with fail
      go_ret
      exact ⟨true, b1, rfl, hc1, hL1.out, hM1.out, fun _ => hF.out, fun h => by cases h⟩
    obtain ⟨bl, ql, x, hBl, hbl, HX, cx⟩ := (OwnI.at_ hL1.out).get hlt
    cases hBl
    have hsplit : Hid (L = L.take k ++ x :: L.drop (k + 1)) := by
      show _ = _
      rw [← (List.getElem?_eq_some_iff.1 HX.out).2, List.getElem_cons_drop, List.take_append_drop]
    have hbadx : Hid (¬ EntOk l b1 k0 x → ∀ b', ¬ EntP l k0 L bs b') := show _ → _ from fun hno b' hP => by
      rw [hsplit.out] at hP
      obtain ⟨b2, p1, p2⟩ := hP.parts
      have := EntP.one hE.out p1
      subst this
      exact hno p2.1
    by_cases hx0 : x < 0
    · have hB := Lib.hid (hbadx.out fun ho => by have := ho.1; omega)
      clear hbadx hsplit
      go_wp2_with fail
      go_ret
      exact ⟨false, b1, rfl, hc1, hL1.out, hM1.out, fun h => (by cases h), fun _ => hB.out⟩
    obtain ⟨X, rfl⟩ : ∃ X : Nat, x = (X : Int) := ⟨x.toNat, by omega⟩
    by_cases hxl : l.length ≤ X
    · have hB := Lib.hid (hbadx.out fun ho => by have := ho.2.1; omega)
      have hxi : (l.length : Int) ≤ (X : Int) := by omega
      clear hbadx hsplit hx0 hxl
      go_wp2_with fail
      go_ret
      exact ⟨false, b1, rfl, hc1, hL1.out, hM1.out, fun h => (by cases h), fun _ => hB.out⟩
    have hxi : (X : Int) < (l.length : Int) := by omega
    have hXb : X < b1.length := by rw [hlen1.out]; omega
    have hXbs : X < bs.length := by rw [HBL.out]; omega
    have hXbi : (X : Int) < (bs.length : Int) := by omega
    have cm := hM1.out.cell hXb
    by_cases hsn : b1[X] = true
    · have hB := Lib.hid (hbadx.out fun ho => by
        have := ho.2.2.1
        rw [Int.toNat_natCast, List.getElem?_eq_getElem hXb, hsn] at this
        simp at this)
      rw [hsn] at cm
      clear hbadx hsplit hx0 hxl hsn
      go_wp2_with fail
      go_ret
      exact ⟨false, b1, rfl, hc1, hL1.out, hM1.out, fun h => (by cases h), fun _ => hB.out⟩
    have hsf : b1[X] = false := by simpa using hsn
    have HSF : Hid (b1[X]? = some false) := by show _ = _; rw [List.getElem?_eq_getElem hXb, hsf]
    rw [hsf] at cm
    have fm := hM1.out.free X
    have hM2 := Lib.hid (hM1.out.set X true)
    have hG2 := Lib.hid (grown_trans hG.out (grown_set _ g X (.bool true)))
    obtain ⟨x00, hx00, z1, z2⟩ : ∃ x00, L[0]? = some x00 ∧ 0 ≤ x00 ∧ x00 < (l.length : Int) := by
      rcases Nat.eq_zero_or_pos k with h0 | h0
      · subst h0; exact ⟨(X : Int), HX.out, by omega, hxi⟩
      · have h9 := hE.out
        cases L with
        | nil => simp at hlt
        | cons y L' =>
          obtain ⟨k', rfl⟩ : ∃ k', k = k' + 1 := ⟨k - 1, by omega⟩
          rw [List.take_succ_cons] at h9
          exact ⟨y, rfl, h9.1.1, h9.1.2.1⟩
    obtain ⟨X0, rfl⟩ : ∃ X0 : Nat, x00 = (X0 : Int) := ⟨x00.toNat, by omega⟩
    have hX0 : X0 < l.length := by omega
    have hXl : X < l.length := by omega
    have hkk := Lib.hid (HK0.out _ hx00)
    have HX0 := Lib.hid hx00
    have hLp : (0 : Int) < (L.length : Int) := by omega
    have hLpn : 0 < L.length := by omega
    have hX0i : (X0 : Int) < (l.length : Int) := by omega
    clear hsn hx0 hxl hx00 hsf z1 z2
    go_upto_region 7 with fail
    generalize wr.setCell ⟨g, X, none⟩ (.bool true) = ws at hM2 hG2 ⊢
    clear x0 x1 hxs cm fm cx hM1 hG hc1 hx1 hL1
    have hcs := calm_grown hca hG2.out hg
    have hx2 := (hG2.out.block w.heap.size (by simp) (by simp; omega)).trans hx
    have hL2 := Lib.hid (ownI_grown hLa hG2.out (Nat.lt_succ_self g))
    obtain ⟨x0, x1, hxs⟩ := rowT hx2
    obtain ⟨b, q, kd, A1, A2, A3, A4, c1, c2, c3, c4, E, K, S, T, hA, hb, HN, -, n0, -, -, -, -⟩ := (HT.out.calm hcs).get hXl
    cases hA
    obtain ⟨b', q', kd', A1', A2', A3', A4', c1', c2', c3', c4', E', K', S', T', hA', -, HN', -, v0, -, -, -, -⟩ := (HT.out.calm hcs).get hX0
    cases hA'
    obtain ⟨bl', ql', y0, hBl', hbl', HY0, cy0⟩ := (OwnI.at_ hL2.out).get hLpn
    cases hBl'
    have hy0 : y0 = (X0 : Int) := by have := HY0.out; rw [HX0.out] at this; exact (Option.some.inj this).symm
    subst hy0
    rw [Nat.add_zero] at cy0
    have hkX : Hid (kindOf l (X : Int) = kd) := by show _ = _; unfold kindOf; rw [Int.toNat_natCast, HN.out]
    have hkX0 : Hid (k0 = kd') := by show _ = _; rw [hkk.out]; unfold kindOf; rw [Int.toNat_natCast, HN'.out]
    have hgood : Hid (kd ≠ 0 → kd = kd' → EntP l k0 (L.take (k + 1)) bs (b1.set X true)) := show _ → _ from fun h1 h2 => by
      rw [← takeSnoc' HX.out]
      have := hE.out.snoc (x := (X : Int)) ⟨by omega, hxi, by rw [Int.toNat_natCast]; exact HSF.out, by rw [hkX.out]; exact h1, by rw [hkX.out, hkX0.out]; exact h2⟩
      rw [Int.toNat_natCast] at this
      exact this
    have hfin : Hid (∀ b', ¬ EntOk l b1 k0 (X : Int) → ¬ EntP l k0 L bs b') := show ∀ _, _ from fun b' h => hbadx.out h b'
    by_cases hz : kd = 0
    · have hB : Hid (∀ b', ¬ EntP l k0 L bs b') := show ∀ _, _ from fun b' => hfin.out b' fun ho => ho.2.2.2.1 (by rw [hkX.out]; exact hz)
      subst hz
      clear hbadx hsplit hgood hfin
      go_upto_region 8 with fail
      refine wp_region_plan [.val (.int .i64 (0)), .val (.bool true), .val (.bool true), .idle, .idle, .idle, .idle, .idle, .idle, .idle, .idle, .idle, .idle, .val (.bool true)] (by kernel_rfl) (by kernel_rfl) (by kernel_rfl) ?_
      intro X
      iterate 3
        refine plan_val (by kernel_rfl) (fun u hu => ?_) ?_
        · obtain ⟨hc, hf, hz⟩ := hu.of_drew.facts
          go_simp
        simp only [Act.put, List.setIfInBounds_toArray, List.set_cons_zero, List.set_cons_succ, Nat.reduceAdd]
      iterate 10
        refine plan_idle (by kernel_rfl) ?_
        simp only [Act.put, List.setIfInBounds_toArray, List.set_cons_zero, List.set_cons_succ, Nat.reduceAdd]
      iterate 1
        refine plan_val (by kernel_rfl) (fun u hu => ?_) ?_
        · obtain ⟨hc, hf, hz⟩ := hu.of_drew.facts
          go_simp
        simp only [Act.put, List.setIfInBounds_toArray, List.set_cons_zero, List.set_cons_succ, Nat.reduceAdd]
      refine plan_end ?_
      intro w' hB
      have hk := hB.calm.of_drew
      clear hB
      go_wp2_with fail
      go_ret
      exact ⟨false, _, rfl, hcs.call hk, hL2.out.calm hk, hM2.out.calm hk, fun h => (by cases h), fun _ => hB.out⟩
    have b0 : (kd == 0) = false := by rw [beq_eq_false_iff_ne]; exact hz
    by_cases he : kd = kd'
    · have hE2 := Lib.hid (hgood.out hz he)
      have b3 : (kd != kd') = false := by rw [bne_eq_false_iff_eq]; exact he
      clear hbadx hsplit hgood hfin hz
      subst he
      go_upto_region 8 with fail
      refine wp_region_plan [.val (.int .i64 (kd)), .val (.bool false), .val (.bool false), .val (.int .i64 (kd)), .val (.pointer (some ⟨w.heap.size, 1, none⟩)), .val (.slice (some ⟨b, q, none⟩) l.length c), .val (.slice (some ⟨bl, ql, none⟩) L.length d), .val (.pointer (some ⟨bl, ql, none⟩)), .val (.int .i64 (X0)), .val (.pointer (some ⟨b, q + X0 * 5, none⟩)), .val (.pointer (some ⟨b, q + X0 * 5, none⟩)), .val (.int .i64 (kd)), .val (.bool false), .val (.bool false)] (by kernel_rfl) (by kernel_rfl) (by kernel_rfl) ?_
      intro X
      iterate 14
        refine plan_val (by kernel_rfl) (fun u hu => ?_) ?_
        · obtain ⟨hc, hf, hz⟩ := hu.of_drew.facts
          go_simp
        simp only [Act.put, List.setIfInBounds_toArray, List.set_cons_zero, List.set_cons_succ, Nat.reduceAdd]
      refine plan_end ?_
      intro w' hB
      have hk := hB.calm.of_drew
      clear hB
      go_wp2_with fail
      go_roundw
      case rel => exact ⟨k + 1, _, by omega, by go_num, grown_calm hG2.out hk, hM2.out.calm hk, hE2.out⟩
      case measure => simp [intOf]; omega
    · have hB : Hid (∀ b', ¬ EntP l k0 L bs b') := show ∀ _, _ from fun b' => hfin.out b' fun ho => he (by rw [← hkX.out, ← hkX0.out]; exact ho.2.2.2.2)
      have b3 : (kd != kd') = true := by rw [bne_iff_ne]; exact he
      clear hbadx hsplit hgood hfin hz he
      go_upto_region 8 with fail
      refine wp_region_plan [.val (.int .i64 (kd)), .val (.bool false), .val (.bool false), .val (.int .i64 (kd)), .val (.pointer (some ⟨w.heap.size, 1, none⟩)), .val (.slice (some ⟨b, q, none⟩) l.length c), .val (.slice (some ⟨bl, ql, none⟩) L.length d), .val (.pointer (some ⟨bl, ql, none⟩)), .val (.int .i64 (X0)), .val (.pointer (some ⟨b, q + X0 * 5, none⟩)), .val (.pointer (some ⟨b, q + X0 * 5, none⟩)), .val (.int .i64 (kd')), .val (.bool true), .val (.bool true)] (by kernel_rfl) (by kernel_rfl) (by kernel_rfl) ?_
      intro X
      iterate 14
        refine plan_val (by kernel_rfl) (fun u hu => ?_) ?_
        · obtain ⟨hc, hf, hz⟩ := hu.of_drew.facts
          go_simp
        simp only [Act.put, List.setIfInBounds_toArray, List.set_cons_zero, List.set_cons_succ, Nat.reduceAdd]
      refine plan_end ?_
      intro w' hB
      have hk := hB.calm.of_drew
      clear hB
      go_wp2_with fail
      go_ret
      exact ⟨false, _, rfl, hcs.call hk, hL2.out.calm hk, hM2.out.calm hk, fun h => (by cases h), fun _ => hB.out⟩
open Go.RowKit
def lev (l : List Nd) (root : Int) : Nat → List Int
 | 0 => [root]
 |k + 1 => (lev l root k).flatMap (kidsOf l)
def headKind (l : List Nd) (L : List Int) : Int := match L[0]? with | some x => kindOf l x | none => 0
def Hist (l : List Nd) (root : Int) : Nat → List Bool → Prop
 | 0, bs => bs = List.replicate l.length false
 |k + 1, bs => ∃ b0, Hist l root k b0 ∧ lev l root k ≠ [] ∧ EntP l (headKind l (lev l root k)) (lev l root k) b0 bs
def LinkP (l : List Nd) (root : Int) : Prop := ∃ m bs, Hist l root m bs ∧ lev l root m = [] ∧ ∀ (i : Nat) (n : Nd), l[i]? = some n → n.kd ≠ 0 → bs[i]? = some true
theorem Hist.one {l : List Nd} {root : Int} : ∀ {k : Nat} {b1 b2 : List Bool}, Hist l root k b1 → Hist l root k b2 → b1 = b2
 | 0, b1, b2, h1, h2 => by
  have h1 : b1 = _ := h1
  have h2 : b2 = _ := h2
  rw [h1, h2]
 |k + 1, b1, b2, ⟨c1, g1, _, e1⟩, ⟨c2, g2, _, e2⟩ => by
  have := Hist.one g1 g2
  subst this
  exact e1.one e2
theorem Hist.length {l : List Nd} {root : Int} : ∀ {k : Nat} {b : List Bool}, Hist l root k b → b.length = l.length
 | 0, b, h => by have h : b = _ := h; rw [h, List.length_replicate]
 |k + 1, b, ⟨c, g, _, e⟩ => by rw [e.length, g.length]
theorem EntP.count {l : List Nd} {k0 : Int} : ∀ {L : List Int} {bs b1 : List Bool}, EntP l k0 L bs b1 → b1.countP (fun b => !b) + L.length = bs.countP (fun b => !b)
 | [], bs, b1, h => by
  have h : b1 = bs := h
  rw [h]; rfl
 |x :: L, bs, b1, h => by
  have h1 := h.2.count
  obtain ⟨_, _, h2, _⟩ := h.1
  have hlt : x.toNat < bs.length := (List.getElem?_eq_some_iff.1 h2).1
  have hv : bs[x.toNat] = false := (List.getElem?_eq_some_iff.1 h2).2
  have h3 : (bs.set x.toNat true).countP (fun b => !b) + 1 = bs.countP (fun b => !b) := by
   have hpos : 0 < bs.countP (fun b => !b) := List.countP_pos_iff.2 ⟨bs[x.toNat], List.getElem_mem hlt, by rw [hv]; rfl⟩
   rw [List.countP_set hlt, hv]
   simp
   omega
  rw [List.length_cons]
  omega
theorem Hist.below {l : List Nd} {root : Int} {m : Nat} {bs : List Bool} (h : Hist l root m bs) : ∀ {k : Nat}, k < m → lev l root k ≠ [] ∧ ∃ b0 b1, Hist l root k b0 ∧ EntP l (headKind l (lev l root k)) (lev l root k) b0 b1 := by
 intro k hk
 induction m generalizing bs with
 |zero => omega
 |succ m ih =>
  obtain ⟨b0, g1, g2, g3⟩ := h
  rcases Nat.lt_or_ge k m with h2 | h2
  ·exact ih g1 h2
  ·obtain rfl : k = m := by omega
   exact ⟨g2, b0, bs, g1, g3⟩
theorem lev_nil {l : List Nd} {root : Int} {k : Nat} (h : lev l root k = []) : ∀ {m : Nat}, k ≤ m → lev l root m = [] := by
  intro m hm
  induction m with
  | zero => obtain rfl : k = 0 := by omega
            exact h
  | succ m ih =>
    rcases Nat.lt_or_ge k (m + 1) with h2 | h2
    · show (lev l root m).flatMap (kidsOf l) = []
      rw [ih (by omega)]; rfl
    · obtain rfl : k = m + 1 := by omega
      exact h
/-- Where a walk stands that has entered k levels, and what it says of the whole: at the end, or at a level that may not be entered. -/
theorem link_end {l : List Nd} {root : Int} {k : Nat} {bs : List Bool} (h : Hist l root k bs) (hn : lev l root k = []) : LinkP l root ↔ ∀ (i : Nat) (n : Nd), l[i]? = some n → n.kd ≠ 0 → bs[i]? = some true := by
 constructor
 ·rintro ⟨m, b2, h1, h2, h3⟩
  have : m = k := by
   rcases Nat.lt_trichotomy m k with h4 | h4 | h4
   ·exact absurd h2 (h.below h4).1
   ·exact h4
   ·exact absurd hn (h1.below h4).1
  subst this
  rw [h.one h1]; exact h3
 ·intro h3; exact ⟨k, bs, h, hn, h3⟩
theorem link_bad {l : List Nd} {root : Int} {k : Nat} {bs : List Bool} (h : Hist l root k bs) (hne : lev l root k ≠ []) (hb : ∀ b', ¬ EntP l (headKind l (lev l root k)) (lev l root k) bs b') : ¬ LinkP l root := by
 rintro ⟨m, b2, h1, h2, _⟩
 rcases Nat.lt_or_ge k m with h4 | h4
 ·obtain ⟨_, b0, b1, g1, g2⟩ := h1.below h4
  have := h.one g1
  subst this
  exact hb _ g2
 ·exact hne (lev_nil h2 h4)
/-- make([]bool, k). -/
theorem makeBools (w : World) (k : Nat) (hk : k ≤ 281474976710656) : (Instr.makeSlice 123 (.int .i64 (k : Int)) (.int .i64 (k : Int))).run Try.prog w =
    .ok (.slice (some ⟨w.heap.size, 0, none⟩) k k) (w.alloc (.cells (bvs (List.replicate k false)).toArray 4)) := by
  obtain ⟨i, hi, hz, h1, h2⟩ : ∃ i, Try.prog.info? 4 = some i ∧ i.zero = some (.bool false) ∧ i.size = 1 ∧ i.bytes = 1 := by
    have h : (Try.prog.info? 4).map (fun i => (i.zero, i.size, i.bytes)) = some (some (.bool false), 1, 1) := by kernel_rfl
    match hi : Try.prog.info? 4, h with
    | some i, h =>
      simp only [Option.map_some, Option.some.injEq, Prod.mk.injEq] at h
      exact ⟨i, rfl, h.1, h.2.1, h.2.2⟩
  rw [run_make w 123 4 i _ Try.underlying123 hi hz .i64 .i64 k k (by omega) (by omega) (by rw [h2]; omega) (by omega), h1]
  have e : madeCells (Value.bool false).cells (((k : Int)).toNat * 1) = (bvs (List.replicate k false)).toArray := by
    simp only [madeCells, bvs, Value.cells, Int.toNat_natCast, Nat.mul_one]
    apply Array.ext
    · simp
    · intro i h1 h2
      simp [Nat.mod_one]
  rw [e]; rfl
end Go.Proofs.Ytbkafjffofaonaa
