/- Texts of one kind in one file. -/
import Derived.Deep.LoopGhost
import Derived.Outline
import Derived.IntWalk
import Derived.Lib.Hide
import Derived.Laws.MakeOwn
import Derived.Deep.AppendSrc
import Derived.Deep.RegionLaw
import Derived.Laws.Externs
import Derived.Lib.AppendZerosOnto
import Derived.Lib.Overlaps
import Derived.Lib.SliceRun
import Derived.Laws.BitsAll
import Derived.Laws.BytesArg
import Derived.Test.YtadjnnmpgaajnaaPkStreamAgain1
set_option maxRecDepth 100000
namespace Go.Proofs.Ytadjnnmpgaajnaa
open Go.RowKit
theorem decide_Fol (p o f m g : Int) (s : ByteArray) (p' o' f' m' g' : Int) (s' : ByteArray) :
    decide (Fol ⟨p, o, f, m, g, s⟩ ⟨p', o', f', m', g', s'⟩) = (decide (scmp p o f m p' o' f' m' = -1) && (!decide ((p, o, f) = (p', o', f')) || !decide (liveP m g m'))) := by
  rw [Bool.eq_iff_iff]
  simp only [Bool.and_eq_true, Bool.or_eq_true, decide_eq_true_eq, Bool.not_eq_true', decide_eq_false_iff_not]
  have h := scmp_sLt (a := ⟨p, o, f, m, g, s⟩) (b := ⟨p', o', f', m', g', s'⟩)
  simp only at h
  rw [h]
  unfold Fol
  simp only [El.key]
  constructor
  · rintro ⟨h1, h2⟩
    refine ⟨h1, ?_⟩
    by_cases e : (p, o, f) = (p', o', f')
    · right; have := h2 e; unfold liveP; omega
    · exact .inl e
  · rintro ⟨h1, h2⟩
    refine ⟨h1, fun e => ?_⟩
    rcases h2 with h2 | h2
    · exact absurd e h2
    · rw [e, sLt_same] at h1
      unfold liveP at h2; omega
set_option maxHeartbeats 2000000 in
theorem follows_any (p o f m g : Int) (s : ByteArray) (p' o' f' m' g' : Int) (s' : ByteArray) (w : World) :
    Calls Try.prog 49 #[.agg #[.int .i64 p, .int .i64 o, .int .i64 f, .int .i64 m, .int .i64 g, .string s], .agg #[.int .i64 p', .int .i64 o', .int .i64 f', .int .i64 m', .int .i64 g', .string s']] w fun e w' => e = .returned (.bool (decide (Fol ⟨p, o, f, m, g, s⟩ ⟨p', o', f', m', g', s'⟩))) ∧ Calm w w' := by
  rw [decide_Fol]
  have hc := scmp_or p o f m p' o' f' m'
  generalize hK : scmp p o f m p' o' f' m' = c at hc ⊢
  have cS : ∀ u, Calls Try.prog 67 #[.agg #[.int .i64 p, .int .i64 o, .int .i64 f, .int .i64 m], .agg #[.int .i64 p', .int .i64 o', .int .i64 f', .int .i64 m']] u fun e w' => e = .returned (.int .i64 c) ∧ Calm u w' := fun u => hK ▸ cmpSpot_any p o f m p' o' f' m' u
  clear hK
  go_enter Try.func49, Try.ntmps49
  go_upto_region 1 with fail
  have hx : ((w.alloc (.cells #[.int .i64 p, .int .i64 o, .int .i64 f, .int .i64 m, .int .i64 g, .string s] 34)).alloc (.cells #[.int .i64 p', .int .i64 o', .int .i64 f', .int .i64 m', .int .i64 g', .string s'] 34)).heap[w.heap.size]? = some (.cells #[.int .i64 p, .int .i64 o, .int .i64 f, .int .i64 m, .int .i64 g, .string s] 34 (0, 0)) := heap_past _ (heap_new _ _)
  have hy : ((w.alloc (.cells #[.int .i64 p, .int .i64 o, .int .i64 f, .int .i64 m, .int .i64 g, .string s] 34)).alloc (.cells #[.int .i64 p', .int .i64 o', .int .i64 f', .int .i64 m', .int .i64 g', .string s'] 34)).heap[w.heap.size + 1]? = some (.cells #[.int .i64 p', .int .i64 o', .int .i64 f', .int .i64 m', .int .i64 g', .string s'] 34 (0, 0)) := by simpa using heap_new (w.alloc (.cells #[.int .i64 p, .int .i64 o, .int .i64 f, .int .i64 m, .int .i64 g, .string s] 34)) (.cells #[.int .i64 p', .int .i64 o', .int .i64 f', .int .i64 m', .int .i64 g', .string s'] 34)
  have hu : Calm w ((w.alloc (.cells #[.int .i64 p, .int .i64 o, .int .i64 f, .int .i64 m, .int .i64 g, .string s] 34)).alloc (.cells #[.int .i64 p', .int .i64 o', .int .i64 f', .int .i64 m', .int .i64 g', .string s'] 34)) := ((Calm.refl _).alloc _).alloc _
  generalize ((w.alloc (.cells #[.int .i64 p, .int .i64 o, .int .i64 f, .int .i64 m, .int .i64 g, .string s] 34)).alloc (.cells #[.int .i64 p', .int .i64 o', .int .i64 f', .int .i64 m', .int .i64 g', .string s'] 34)) = wc at hx hy hu ⊢
  obtain ⟨x0, x1, x2, x3, x4, x5, hxs⟩ := row6 hx
  obtain ⟨y0, y1, y2, y3, y4, y5, hys⟩ := row6 hy
  refine wp_region_plan [.val (.agg #[.int .i64 p, .int .i64 o, .int .i64 f, .int .i64 m, .int .i64 g, .string s]), .val (.agg #[.int .i64 p, .int .i64 o, .int .i64 f, .int .i64 m]), .val (.agg #[.int .i64 p', .int .i64 o', .int .i64 f', .int .i64 m', .int .i64 g', .string s']), .val (.agg #[.int .i64 p', .int .i64 o', .int .i64 f', .int .i64 m']), .val (.int .i64 c), .val (.bool (decide (0 ≤ c)))] (by kernel_rfl) (by kernel_rfl) (by kernel_rfl) ?_
  intro X
  iterate 6
    refine plan_val (by kernel_rfl) (fun u hu => ?_) ?_
    · obtain ⟨hc, hf, hz⟩ := hu.of_drew.facts
      go_simp
      all_goals first
        | (go_at_call 65; exact spot_any _ _ _ _ _ _ _)
        | (go_at_call 67; exact cS _)
    simp only [Act.put, List.setIfInBounds_toArray, List.set_cons_zero, List.set_cons_succ, Nat.reduceAdd]
  refine plan_end ?_
  intro w' hB
  have hk := hB.calm.of_drew
  clear hB cS
  replace hx := (hk.block hxs).trans hx
  replace hy := (hk.block hys).trans hy
  replace hu := hu.call hk
  clear hk x0 x1 x2 x3 x4 x5 y0 y1 y2 y3 y4 y5 hxs hys
  obtain ⟨x0, x1, x2, x3, x4, x5, hxs⟩ := row6 hx
  obtain ⟨y0, y1, y2, y3, y4, y5, hys⟩ := row6 hy
  by_cases h1 : 0 ≤ c
  · have e1 : decide (0 ≤ c) = true := decide_eq_true h1
    have e2 : decide (c = -1) = false := decide_eq_false (by omega)
    go_wp2_with fail
    go_ret
    exact ⟨by rw [e2]; rfl, hu⟩
  · have e1 : decide (0 ≤ c) = false := decide_eq_false h1
    have e2 : c = -1 := by omega
    subst e2
    clear hc h1
    go_wp2_with (go_at_call 70; refine (live_any _ _ _ _ _ _ _ _).mono ?_; rintro e w1 ⟨rfl, hb1⟩)
    all_goals
      go_ret
      exact ⟨rfl, by first | exact hu | exact hu.call (by assumption)⟩
theorem stepErr_err {l : List El} {k : Nat} {e : El} (h : l[k]? = some e) (he : e.err ≠ 0) : stepErr l k = e.err := by
 unfold stepErr; rw [h]; simp only; rw [if_pos he]
theorem runErr_at {l : List El} {k : Nat} (hl : ¬ 400 < l.length) (h : ∀ j, j < k → stepErr l j = 0) (hk : stepErr l k ≠ 0) (hlt : k < l.length) : stepErr l k = runErr l := by
 unfold runErr; rw [if_neg hl, firstErr_at h hk hlt]
theorem runErr_good {l : List El} (hl : ¬ 400 < l.length) (h : ∀ j, j < l.length → stepErr l j = 0) : 0 = runErr l := by
 unfold runErr; rw [if_neg hl, firstErr_zero.2 h]
theorem stepErr_form {l : List El} {k : Nat} {e d : El} (h : l[k]? = some e) (he : e.err = 0) (h0 : 0 < k) (hd : l[k - 1]? = some d) : stepErr l k = if Fol d e then 0 else 3 := by
 unfold stepErr; rw [h]; simp only; rw [if_neg (by simpa using he), if_neg (by omega), hd]
theorem stepErr_first {l : List El} {e : El} (h : l[0]? = some e) (he : e.err = 0) : stepErr l 0 = 0 := by
 unfold stepErr; rw [h]; simp only; rw [if_neg (by simpa using he)]; rfl
def NoErr (l : List El) (k : Nat) : Prop := ∀ j, j < k → stepErr l j = 0
set_option maxHeartbeats 4000000 in
theorem runCheck_any (A : Option Addr) (c : Nat) (l : List El) (w : World) (hn : l.length ≤ 9223372036854775807) (hL : Lies w A l) :
    Calls Try.prog 20 #[.slice A l.length c] w fun e w' => e = .returned (.int .i64 (runErr l)) ∧ Calm w w' := by
  by_cases hbig : 400 < l.length
  · have K : Hid (2 = runErr l) := by show _ = _; unfold runErr; rw [if_pos hbig]
    go_enter Try.func20, Try.ntmps20
    go_wp2_with fail
    go_ret
    exact ⟨ret_int K.out, Calm.refl _⟩
  go_enter Try.func20, Try.ntmps20
  go_wp2_with fail
  go_loopw [11] (fun i wr => ∃ k : Nat, k ≤ l.length ∧ i = .int .i64 k ∧ Calm w wr ∧ NoErr l k) (fun i _ => l.length - (intOf i).toNat)
  case atStart => exact ⟨0, Nat.zero_le _, rfl, Calm.refl _, fun j hj => absurd hj (Nat.not_lt_zero _)⟩
  case round =>
    obtain ⟨k, hk, rfl, hu, hN⟩ := hrel
    by_cases hlt : k < l.length
    rotate_left
    · have hkl : k = l.length := by omega
      have K : Hid (0 = runErr l) := runErr_good hbig (by rw [← hkl]; exact hN)
      clear hkl
      go_wp2_with fail
      go_ret
      exact ⟨ret_int K.out, hu⟩
    obtain ⟨b, q, p, o, f, m, g, s, rfl, hb, HE, hm, c0, c1, c2, c3, c4, c5⟩ := (hL.calm hu).get hlt
    by_cases he : elemErr p o f m g s.size = 0
    rotate_left
    · have b1 : (elemErr p o f m g s.size != 0) = true := by simpa using he
      have K : Hid (elemErr p o f m g s.size = runErr l) := by
        have h1 := stepErr_err HE.out (show El.err ⟨p, o, f, m, g, s⟩ ≠ 0 from he)
        rw [← runErr_at hbig hN (by rw [h1]; exact he) hlt, h1]; rfl
      clear he
      go_wp2_with (go_at_call 48; refine (elemCheck_any _ _ _ _ _ _ _).mono ?_; rintro e w1 ⟨rfl, hb1⟩)
      go_ret
      exact ⟨ret_int K.out, by repeat (first | (with_reducible exact Calm.refl _) | (with_reducible refine Calm.alloc ?_ _) | (with_reducible refine Calm.drew ?_) | (with_reducible refine Calm.drewN ?_ _) | (refine Calm.call ?_ (by with_reducible assumption)))⟩
    have b1 : (elemErr p o f m g s.size != 0) = false := by simpa using he
    have HE0 : Hid (elemErr p o f m g s.size = 0) := he
    clear he
    by_cases hk0 : k = 0
    · subst hk0
      have hN1 : NoErr l 1 := fun j hj => by
        have : j = 0 := by omega
        subst this
        exact stepErr_first HE.out HE0.out
      simp only [Nat.zero_mul, Nat.add_zero] at c0 c1 c2 c3 c4 c5
      go_wp2_with (go_at_call 48; refine (elemCheck_any _ _ _ _ _ _ _).mono ?_; rintro e w1 ⟨rfl, hb1⟩)
      refine wp_region_plan [.val (.int .i64 0), .val (.bool false), .val (.bool false), .idle, .idle, .idle, .idle, .idle, .idle, .idle, .idle, .val (.bool false)] (by kernel_rfl) (by kernel_rfl) (by kernel_rfl) ?_
      intro X
      iterate 3
        refine plan_val (by kernel_rfl) (fun u hu => ?_) ?_
        · obtain ⟨hc, hf, hz⟩ := hu.of_drew.facts
          go_simp
        simp only [Act.put, List.setIfInBounds_toArray, List.set_cons_zero, List.set_cons_succ, Nat.reduceAdd]
      iterate 8
        refine plan_idle (by kernel_rfl) ?_
        simp only [Act.put, List.setIfInBounds_toArray, List.set_cons_zero, List.set_cons_succ, Nat.reduceAdd]
      iterate 1
        refine plan_val (by kernel_rfl) (fun u hu => ?_) ?_
        · obtain ⟨hc, hf, hz⟩ := hu.of_drew.facts
          go_simp
        simp only [Act.put, List.setIfInBounds_toArray, List.set_cons_zero, List.set_cons_succ, Nat.reduceAdd]
      refine plan_end ?_
      intro w' hB
      have hk := hB.calm.of_drew
      clear hB
      go_wp2_with fail
      exact ⟨⟨1, by omega, rfl, ((hu.alloc _).call hb1).call hk, hN1⟩, by simp [intOf]; omega⟩
    obtain ⟨p', o', f', m', g', s', HE', hm', d0, d1, d2, d3, d4, d5⟩ := (hL.calm hu).get2 (k := k - 1) (by omega)
    have hS := stepErr_form HE.out HE0.out (by omega) HE'.out
    have hk1 : 1 ≤ k := by omega
    by_cases hF : Fol ⟨p', o', f', m', g', s'⟩ ⟨p, o, f, m, g, s⟩
    · have b2 : decide (Fol ⟨p', o', f', m', g', s'⟩ ⟨p, o, f, m, g, s⟩) = true := decide_eq_true hF
      rw [if_pos hF] at hS
      have hN1 : NoErr l (k + 1) := fun j hj => by
        rcases Nat.lt_or_ge j k with h | h
        · exact hN j h
        · rw [show j = k by omega]; exact hS
      clear hS hF hk0
      go_wp2_with (go_at_call 48; refine (elemCheck_any _ _ _ _ _ _ _).mono ?_; rintro e w1 ⟨rfl, hb1⟩)
      have hx := (hb1.block (k := wr.heap.size) (by simp)).trans (heap_new wr _)
      obtain ⟨x0, x1, x2, x3, x4, x5, hxs⟩ := row6 hx
      have hv := ((Calm.refl wr).alloc _).call hb1
      have hv1 := hu.call hv
      have hb2 : b < w1.heap.size := Nat.lt_of_lt_of_le hb hv.size
      have hvc := hv.facts.1
      replace d0 := (hvc _ _ hb).trans d0; replace d1 := (hvc _ _ hb).trans d1; replace d2 := (hvc _ _ hb).trans d2; replace d3 := (hvc _ _ hb).trans d3; replace d4 := (hvc _ _ hb).trans d4; replace d5 := (hvc _ _ hb).trans d5
      clear hvc hv hb1 hx c0 c1 c2 c3 c4 c5 b1 hL
      have F : ∀ u, Calls Try.prog 49 #[.agg #[.int .i64 p', .int .i64 o', .int .i64 f', .int .i64 m', .int .i64 g', .string s'], .agg #[.int .i64 p, .int .i64 o, .int .i64 f, .int .i64 m, .int .i64 g, .string s]] u fun e w' => e = .returned (.bool true) ∧ Calm u w' := fun u => by
        rw [← b2]; exact follows_any p' o' f' m' g' s' p o f m g s u
      clear b2
      have z0 : 0 < k := hk1
      have z1 : IntKind.i64.wrap ((k : Int) - 1) = (k : Int) - 1 := IntWalk.i64_in _ (by omega)
      have z2 : ((k : Int) - 1).toNat = k - 1 := by omega
      have z3 : 0 ≤ (k : Int) - 1 := by omega
      have z4 : (k : Int) - 1 < l.length := by omega
      have z5 : 1 ≤ (k : Int) := by omega
      refine wp_region_plan [.val (.int .i64 k), .val (.bool true), .val (.bool true), .val (.slice (some ⟨b, q, none⟩) l.length c), .val (.int .i64 k), .val (.int .i64 (k - 1)), .val (.pointer (some ⟨b, q + (k - 1) * 6, none⟩)), .val (.agg #[.int .i64 p', .int .i64 o', .int .i64 f', .int .i64 m', .int .i64 g', .string s']), .val (.agg #[.int .i64 p, .int .i64 o, .int .i64 f, .int .i64 m, .int .i64 g, .string s]), .val (.bool true), .val (.bool false), .val (.bool false)] (by kernel_rfl) (by kernel_rfl) (by kernel_rfl) ?_
      intro X
      iterate 12
        refine plan_val (by kernel_rfl) (fun u hu => ?_) ?_
        · obtain ⟨hc, hf, hz⟩ := hu.of_drew.facts
          go_simp
          all_goals first
            | (go_at_call 49; exact F _)
        simp only [Act.put, List.setIfInBounds_toArray, List.set_cons_zero, List.set_cons_succ, Nat.reduceAdd]
      refine plan_end ?_
      intro w' hB
      have hk := hB.calm.of_drew
      clear hB z0 z1 z2 z3 z4 z5
      go_wp2_with fail
      go_roundw
      case rel => exact ⟨k + 1, by omega, by go_num, hv1.call hk, hN1⟩
      case measure => simp [intOf]; omega
    · have b2 : decide (Fol ⟨p', o', f', m', g', s'⟩ ⟨p, o, f, m, g, s⟩) = false := decide_eq_false hF
      rw [if_neg hF] at hS
      have K : Hid (3 = runErr l) := hS.symm.trans (runErr_at hbig hN (by rw [hS]; decide) hlt)
      clear hS hF hk0
      go_wp2_with (go_at_call 48; refine (elemCheck_any _ _ _ _ _ _ _).mono ?_; rintro e w1 ⟨rfl, hb1⟩)
      have hx := (hb1.block (k := wr.heap.size) (by simp)).trans (heap_new wr _)
      obtain ⟨x0, x1, x2, x3, x4, x5, hxs⟩ := row6 hx
      have hv := ((Calm.refl wr).alloc _).call hb1
      have hv1 := hu.call hv
      have hb2 : b < w1.heap.size := Nat.lt_of_lt_of_le hb hv.size
      have hvc := hv.facts.1
      replace d0 := (hvc _ _ hb).trans d0; replace d1 := (hvc _ _ hb).trans d1; replace d2 := (hvc _ _ hb).trans d2; replace d3 := (hvc _ _ hb).trans d3; replace d4 := (hvc _ _ hb).trans d4; replace d5 := (hvc _ _ hb).trans d5
      clear hvc hv hb1 hx c0 c1 c2 c3 c4 c5 b1 hL
      have F : ∀ u, Calls Try.prog 49 #[.agg #[.int .i64 p', .int .i64 o', .int .i64 f', .int .i64 m', .int .i64 g', .string s'], .agg #[.int .i64 p, .int .i64 o, .int .i64 f, .int .i64 m, .int .i64 g, .string s]] u fun e w' => e = .returned (.bool false) ∧ Calm u w' := fun u => by
        rw [← b2]; exact follows_any p' o' f' m' g' s' p o f m g s u
      clear b2
      have z0 : 0 < k := hk1
      have z1 : IntKind.i64.wrap ((k : Int) - 1) = (k : Int) - 1 := IntWalk.i64_in _ (by omega)
      have z2 : ((k : Int) - 1).toNat = k - 1 := by omega
      have z3 : 0 ≤ (k : Int) - 1 := by omega
      have z4 : (k : Int) - 1 < l.length := by omega
      have z5 : 1 ≤ (k : Int) := by omega
      refine wp_region_plan [.val (.int .i64 k), .val (.bool true), .val (.bool true), .val (.slice (some ⟨b, q, none⟩) l.length c), .val (.int .i64 k), .val (.int .i64 (k - 1)), .val (.pointer (some ⟨b, q + (k - 1) * 6, none⟩)), .val (.agg #[.int .i64 p', .int .i64 o', .int .i64 f', .int .i64 m', .int .i64 g', .string s']), .val (.agg #[.int .i64 p, .int .i64 o, .int .i64 f, .int .i64 m, .int .i64 g, .string s]), .val (.bool false), .val (.bool true), .val (.bool true)] (by kernel_rfl) (by kernel_rfl) (by kernel_rfl) ?_
      intro X
      iterate 12
        refine plan_val (by kernel_rfl) (fun u hu => ?_) ?_
        · obtain ⟨hc, hf, hz⟩ := hu.of_drew.facts
          go_simp
          all_goals first
            | (go_at_call 49; exact F _)
        simp only [Act.put, List.setIfInBounds_toArray, List.set_cons_zero, List.set_cons_succ, Nat.reduceAdd]
      refine plan_end ?_
      intro w' hB
      have hk := hB.calm.of_drew
      clear hB z0 z1 z2 z3 z4 z5
      go_wp2_with fail
      go_ret
      exact ⟨ret_int K.out, hv1.call hk⟩
set_option maxHeartbeats 4000000 in
theorem runLast_any (A : Option Addr) (c : Nat) (l : List El) (w : World) (hn : l.length ≤ 9223372036854775807) (hL : Lies w A l) :
    Calls Try.prog 22 #[.slice A l.length c] w fun e w' => e = .returned (.tuple #[.int .i64 (if runErr l = 0 then latest l else 0), .int .i64 (runErr l)]) ∧ Calm w w' := by
  by_cases he : runErr l = 0
  rotate_left
  · have b1 : (runErr l != 0) = true := by simpa using he
    rw [if_neg he]
    clear he
    go_enter Try.func22, Try.ntmps22
    go_wp2_with (go_at_call 20; refine (runCheck_any _ _ _ _ hn hL).mono ?_; rintro e w1 ⟨rfl, hb1⟩)
    go_ret2
    exact ⟨rfl, hb1⟩
  have b1 : (runErr l != 0) = false := by simpa using he
  rw [if_pos he]
  have HE : Hid (runErr l = 0) := he
  clear he
  go_enter Try.func22, Try.ntmps22
  go_wp2_with (go_at_call 20; refine (runCheck_any _ _ _ _ hn hL).mono ?_; rintro e w1 ⟨rfl, hb1⟩)
  go_loopw [5, 15] (fun t i wr => ∃ k : Nat, k ≤ l.length ∧ i = .int .i64 k ∧ t = .int .i64 (latest (l.take k)) ∧ Calm w wr) (fun _ i _ => l.length - (intOf i).toNat)
  case atStart => exact ⟨0, Nat.zero_le _, rfl, rfl, hb1⟩
  case round =>
    obtain ⟨k, hk, rfl, rfl, hu⟩ := hrel
    by_cases hlt : k < l.length
    rotate_left
    · have K : Hid (latest (l.take k) = latest l) := by show _ = _; rw [List.take_of_length_le (by omega)]
      go_wp2_with fail
      go_ret2
      exact ⟨by rw [HE.out]; first | rfl | (rw [← K.out]; rfl), hu⟩
    obtain ⟨b, q, p, o, f, m, g, s, rfl, hb, HE, hm, c0, c1, c2, c3, c4, c5⟩ := (hL.calm hu).get hlt
    have K : Hid (latest (l.take (k + 1)) = if latest (l.take k) < lastOf m g then lastOf m g else latest (l.take k)) := by
      show _ = _
      rw [latest_take hlt, (List.getElem?_eq_some_iff.1 HE.out).2]
      rfl
    generalize latest (l.take k) = t0 at K ⊢
    go_wp2_with (go_at_call 28; refine (last_any _ _ _ _ _ _ _).mono ?_; rintro e w1 ⟨rfl, hb1⟩)
    go_roundw
    case rel => exact ⟨k + 1, by omega, by go_num, by rw [K.out], (hu.alloc _).call hb1⟩
    case measure => simp [intOf]; omega
open Go.RowKit
theorem str_ne {s s' : ByteArray} (h : ¬ s = s') : (s.toList == s'.toList) = false := by
 cases e : s.toList == s'.toList
 ·rfl
 ·exfalso
  have h2 := eq_of_beq e
  rw [ByteArray.toList_eq, ByteArray.toList_eq] at h2
  exact h (ByteArray.ext (Array.toList_inj.1 h2))
set_option maxHeartbeats 8000000 in
theorem equal_any (A A' : Option Addr) (c c' : Nat) (l l' : List El) (w : World) (hn : l.length ≤ 9223372036854775807) (_hn' : l'.length ≤ 9223372036854775807) (hL : Lies w A l) (hL' : Lies w A' l') :
    Calls Try.prog 14 #[.slice A l.length c, .slice A' l'.length c'] w fun e w' => e = .returned (.bool (decide (l = l'))) ∧ Calm w w' := by
  by_cases hll : l.length = l'.length
  rotate_left
  · have hd : decide (l = l') = false := decide_eq_false fun h => hll (by rw [h])
    have hz : ¬ (l.length : Int) = (l'.length : Int) := by omega
    rw [hd]
    clear hd hll hL hL'
    go_enter Try.func14, Try.ntmps14
    go_wp2_with fail
    go_ret
    exact ⟨rfl, Calm.refl _⟩
  have HD : Hid (decide (l = l') = decide (l = l')) := rfl
  generalize hr : decide (l = l') = r
  have HR : Hid (decide (l = l') = r) := hr
  clear hr HD
  obtain ⟨n, hn1⟩ : ∃ n, n = l.length := ⟨_, rfl⟩
  have hn2 : n = l'.length := hn1.trans hll
  rw [← hn1, ← hn2]
  rw [← hn1] at hn
  have HN1 : Hid (n = l.length) := hn1
  have HN2 : Hid (n = l'.length) := hn2
  clear hn1 hn2 hll
  go_enter Try.func14, Try.ntmps14
  go_wp2_with fail
  go_loopw [13] (fun i wr => ∃ k : Nat, k ≤ n ∧ i = .int .i64 k ∧ Calm w wr ∧ Hid (∀ j, j < k → l[j]? = l'[j]?)) (fun i _ => n - (intOf i).toNat)
  case atStart => exact ⟨0, Nat.zero_le _, rfl, Calm.refl _, show ∀ _, _ from fun j h => absurd h (Nat.not_lt_zero _)⟩
  case round =>
    obtain ⟨k, hk, rfl, hu, hN⟩ := hrel
    by_cases hlt : k < n
    rotate_left
    · have K : Hid (r = true) := by
        rw [← HR.out]
        refine decide_eq_true (List.ext_getElem? fun j => ?_)
        rcases Nat.lt_or_ge j k with h | h
        · exact hN.out j h
        · rw [List.getElem?_eq_none (by rw [← HN1.out]; omega), List.getElem?_eq_none (by rw [← HN2.out]; omega)]
      clear HR
      go_wp2_with fail
      go_ret
      exact ⟨by rw [K.out]; rfl, hu⟩
    obtain ⟨b, q, p, o, f, m, g, s, rfl, hb, HE, hm, c0, c1, c2, c3, c4, c5⟩ := (hL.calm hu).get (by rw [← HN1.out]; exact hlt)
    obtain ⟨b', q', p', o', f', m', g', s', rfl, hb', HE', hm', d0, d1, d2, d3, d4, d5⟩ := (hL'.calm hu).get (by rw [← HN2.out]; exact hlt)
    have hiz : (k : Int) < (n : Int) := by omega
    have hDF : (⟨p, o, f, m, g, s⟩ : El) ≠ ⟨p', o', f', m', g', s'⟩ → l ≠ l' := fun h h2 => by
      have h3 := HE.out; rw [h2, HE'.out] at h3; injection h3 with h3; exact h h3.symm
    have hN1 : (⟨p, o, f, m, g, s⟩ : El) = ⟨p', o', f', m', g', s'⟩ → Hid (∀ j, j < k + 1 → l[j]? = l'[j]?) := fun h => show ∀ _, _ from fun j hj => by
      rcases Nat.lt_or_ge j k with h2 | h2
      · exact hN.out j h2
      · rw [show j = k by omega, HE.out, HE'.out, h]
    have HR2 := HR.out
    clear hL hL' HE HE' hm hm'
    have hcs : ¬ p = p' ∨ (p = p' ∧ ¬ o = o') ∨ (p = p' ∧ o = o' ∧ ¬ f = f') ∨ (p = p' ∧ o = o' ∧ f = f' ∧ ¬ m = m') ∨ (p = p' ∧ o = o' ∧ f = f' ∧ m = m' ∧ ¬ g = g') ∨ (p = p' ∧ o = o' ∧ f = f' ∧ m = m' ∧ g = g' ∧ ¬ s = s') ∨ (p = p' ∧ o = o' ∧ f = f' ∧ m = m' ∧ g = g' ∧ s = s') := by
      by_cases e0 : p = p' <;> by_cases e1 : o = o' <;> by_cases e2 : f = f' <;> by_cases e3 : m = m' <;> by_cases e4 : g = g' <;> by_cases e5 : s = s' <;> simp [*]
    rcases hcs with h0 | ⟨h0, h1⟩ | ⟨h0, h1, h2⟩ | ⟨h0, h1, h2, h3⟩ | ⟨h0, h1, h2, h3, h4⟩ | ⟨h0, h1, h2, h3, h4, h5⟩ | ⟨h0, h1, h2, h3, h4, h5⟩
    · skip
      go_wp2_with fail
      refine wp_region_plan [.val (.slice (some ⟨b, q, none⟩) n c), .val (.int .i64 ((k : Int))), .val (.pointer (some ⟨b, q + k * 6, none⟩)), .val (.agg #[.int .i64 p, .int .i64 o, .int .i64 f, .int .i64 m, .int .i64 g, .string s]), .val (.slice (some ⟨b', q', none⟩) n c'), .val (.int .i64 ((k : Int))), .val (.pointer (some ⟨b', q' + k * 6, none⟩)), .val (.agg #[.int .i64 p', .int .i64 o', .int .i64 f', .int .i64 m', .int .i64 g', .string s']), .val (.bool true)] (by kernel_rfl) (by kernel_rfl) (by kernel_rfl) ?_
      intro X
      iterate 9
        refine plan_val (by kernel_rfl) (fun u hu => ?_) ?_
        · obtain ⟨hc, hf, hz⟩ := hu.of_drew.facts
          go_simp
        simp only [Act.put, List.setIfInBounds_toArray, List.set_cons_zero, List.set_cons_succ, Nat.reduceAdd]
      refine plan_end ?_
      intro w' hB
      have hk := hB.calm.of_drew
      clear hB
      go_wp2_with fail
      go_ret
      exact ⟨ret_bool ((decide_eq_false (hDF (by simp [*]))).symm.trans HR2), hu.call hk⟩
    · skip
      subst h0
      go_wp2_with fail
      refine wp_region_plan [.val (.slice (some ⟨b, q, none⟩) n c), .val (.int .i64 ((k : Int))), .val (.pointer (some ⟨b, q + k * 6, none⟩)), .val (.agg #[.int .i64 p, .int .i64 o, .int .i64 f, .int .i64 m, .int .i64 g, .string s]), .val (.slice (some ⟨b', q', none⟩) n c'), .val (.int .i64 ((k : Int))), .val (.pointer (some ⟨b', q' + k * 6, none⟩)), .val (.agg #[.int .i64 p, .int .i64 o', .int .i64 f', .int .i64 m', .int .i64 g', .string s']), .val (.bool true)] (by kernel_rfl) (by kernel_rfl) (by kernel_rfl) ?_
      intro X
      iterate 9
        refine plan_val (by kernel_rfl) (fun u hu => ?_) ?_
        · obtain ⟨hc, hf, hz⟩ := hu.of_drew.facts
          go_simp
        simp only [Act.put, List.setIfInBounds_toArray, List.set_cons_zero, List.set_cons_succ, Nat.reduceAdd]
      refine plan_end ?_
      intro w' hB
      have hk := hB.calm.of_drew
      clear hB
      go_wp2_with fail
      go_ret
      exact ⟨ret_bool ((decide_eq_false (hDF (by simp [*]))).symm.trans HR2), hu.call hk⟩
    · skip
      subst h0
      subst h1
      go_wp2_with fail
      refine wp_region_plan [.val (.slice (some ⟨b, q, none⟩) n c), .val (.int .i64 ((k : Int))), .val (.pointer (some ⟨b, q + k * 6, none⟩)), .val (.agg #[.int .i64 p, .int .i64 o, .int .i64 f, .int .i64 m, .int .i64 g, .string s]), .val (.slice (some ⟨b', q', none⟩) n c'), .val (.int .i64 ((k : Int))), .val (.pointer (some ⟨b', q' + k * 6, none⟩)), .val (.agg #[.int .i64 p, .int .i64 o, .int .i64 f', .int .i64 m', .int .i64 g', .string s']), .val (.bool true)] (by kernel_rfl) (by kernel_rfl) (by kernel_rfl) ?_
      intro X
      iterate 9
        refine plan_val (by kernel_rfl) (fun u hu => ?_) ?_
        · obtain ⟨hc, hf, hz⟩ := hu.of_drew.facts
          go_simp
        simp only [Act.put, List.setIfInBounds_toArray, List.set_cons_zero, List.set_cons_succ, Nat.reduceAdd]
      refine plan_end ?_
      intro w' hB
      have hk := hB.calm.of_drew
      clear hB
      go_wp2_with fail
      go_ret
      exact ⟨ret_bool ((decide_eq_false (hDF (by simp [*]))).symm.trans HR2), hu.call hk⟩
    · skip
      subst h0
      subst h1
      subst h2
      go_wp2_with fail
      refine wp_region_plan [.val (.slice (some ⟨b, q, none⟩) n c), .val (.int .i64 ((k : Int))), .val (.pointer (some ⟨b, q + k * 6, none⟩)), .val (.agg #[.int .i64 p, .int .i64 o, .int .i64 f, .int .i64 m, .int .i64 g, .string s]), .val (.slice (some ⟨b', q', none⟩) n c'), .val (.int .i64 ((k : Int))), .val (.pointer (some ⟨b', q' + k * 6, none⟩)), .val (.agg #[.int .i64 p, .int .i64 o, .int .i64 f, .int .i64 m', .int .i64 g', .string s']), .val (.bool true)] (by kernel_rfl) (by kernel_rfl) (by kernel_rfl) ?_
      intro X
      iterate 9
        refine plan_val (by kernel_rfl) (fun u hu => ?_) ?_
        · obtain ⟨hc, hf, hz⟩ := hu.of_drew.facts
          go_simp
        simp only [Act.put, List.setIfInBounds_toArray, List.set_cons_zero, List.set_cons_succ, Nat.reduceAdd]
      refine plan_end ?_
      intro w' hB
      have hk := hB.calm.of_drew
      clear hB
      go_wp2_with fail
      go_ret
      exact ⟨ret_bool ((decide_eq_false (hDF (by simp [*]))).symm.trans HR2), hu.call hk⟩
    · skip
      subst h0
      subst h1
      subst h2
      subst h3
      go_wp2_with fail
      refine wp_region_plan [.val (.slice (some ⟨b, q, none⟩) n c), .val (.int .i64 ((k : Int))), .val (.pointer (some ⟨b, q + k * 6, none⟩)), .val (.agg #[.int .i64 p, .int .i64 o, .int .i64 f, .int .i64 m, .int .i64 g, .string s]), .val (.slice (some ⟨b', q', none⟩) n c'), .val (.int .i64 ((k : Int))), .val (.pointer (some ⟨b', q' + k * 6, none⟩)), .val (.agg #[.int .i64 p, .int .i64 o, .int .i64 f, .int .i64 m, .int .i64 g', .string s']), .val (.bool true)] (by kernel_rfl) (by kernel_rfl) (by kernel_rfl) ?_
      intro X
      iterate 9
        refine plan_val (by kernel_rfl) (fun u hu => ?_) ?_
        · obtain ⟨hc, hf, hz⟩ := hu.of_drew.facts
          go_simp
        simp only [Act.put, List.setIfInBounds_toArray, List.set_cons_zero, List.set_cons_succ, Nat.reduceAdd]
      refine plan_end ?_
      intro w' hB
      have hk := hB.calm.of_drew
      clear hB
      go_wp2_with fail
      go_ret
      exact ⟨ret_bool ((decide_eq_false (hDF (by simp [*]))).symm.trans HR2), hu.call hk⟩
    · skip
      subst h0
      subst h1
      subst h2
      subst h3
      subst h4
      have hs1 : (s.toList == s'.toList) = false := str_ne h5
      go_wp2_with fail
      refine wp_region_plan [.val (.slice (some ⟨b, q, none⟩) n c), .val (.int .i64 ((k : Int))), .val (.pointer (some ⟨b, q + k * 6, none⟩)), .val (.agg #[.int .i64 p, .int .i64 o, .int .i64 f, .int .i64 m, .int .i64 g, .string s]), .val (.slice (some ⟨b', q', none⟩) n c'), .val (.int .i64 ((k : Int))), .val (.pointer (some ⟨b', q' + k * 6, none⟩)), .val (.agg #[.int .i64 p, .int .i64 o, .int .i64 f, .int .i64 m, .int .i64 g, .string s']), .val (.bool true)] (by kernel_rfl) (by kernel_rfl) (by kernel_rfl) ?_
      intro X
      iterate 9
        refine plan_val (by kernel_rfl) (fun u hu => ?_) ?_
        · obtain ⟨hc, hf, hz⟩ := hu.of_drew.facts
          go_simp
        simp only [Act.put, List.setIfInBounds_toArray, List.set_cons_zero, List.set_cons_succ, Nat.reduceAdd]
      refine plan_end ?_
      intro w' hB
      have hk := hB.calm.of_drew
      clear hB
      clear hs1
      go_wp2_with fail
      go_ret
      exact ⟨ret_bool ((decide_eq_false (hDF (by simp [*]))).symm.trans HR2), hu.call hk⟩
    · skip
      subst h0
      subst h1
      subst h2
      subst h3
      subst h4
      subst h5
      have hN2 := hN1 rfl
      clear hN1 hDF
      go_wp2_with fail
      refine wp_region_plan [.val (.slice (some ⟨b, q, none⟩) n c), .val (.int .i64 ((k : Int))), .val (.pointer (some ⟨b, q + k * 6, none⟩)), .val (.agg #[.int .i64 p, .int .i64 o, .int .i64 f, .int .i64 m, .int .i64 g, .string s]), .val (.slice (some ⟨b', q', none⟩) n c'), .val (.int .i64 ((k : Int))), .val (.pointer (some ⟨b', q' + k * 6, none⟩)), .val (.agg #[.int .i64 p, .int .i64 o, .int .i64 f, .int .i64 m, .int .i64 g, .string s]), .val (.bool false)] (by kernel_rfl) (by kernel_rfl) (by kernel_rfl) ?_
      intro X
      iterate 9
        refine plan_val (by kernel_rfl) (fun u hu => ?_) ?_
        · obtain ⟨hc, hf, hz⟩ := hu.of_drew.facts
          go_simp
        simp only [Act.put, List.setIfInBounds_toArray, List.set_cons_zero, List.set_cons_succ, Nat.reduceAdd]
      refine plan_end ?_
      intro w' hB
      have hk := hB.calm.of_drew
      clear hB
      go_wp2_with fail
      go_roundw
      case rel => exact ⟨k + 1, by omega, by go_num, hu.call hk, hN2⟩
      case measure => simp [intOf]; omega
theorem equal_self (A A' : Option Addr) (c c' : Nat) (l : List El) (w : World) (hn : l.length ≤ 9223372036854775807) (hL : Lies w A l) (hL' : Lies w A' l) :
    Calls Try.prog 14 #[.slice A l.length c, .slice A' l.length c'] w fun e w' => e = .returned (.bool true) ∧ Calm w w' := by
  have h := equal_any A A' c c' l l w hn hn hL hL'
  rw [decide_eq_true (rfl : l = l)] at h
  exact h
open Go.RowKit
theorem ahead_rise (p' o' f' m' g' : Int) (s' : ByteArray) (p o f m g : Int) (s : ByteArray) : aheadS p' o' f' m' p o f m = decide (Rise ⟨p', o', f', m', g', s'⟩ ⟨p, o, f, m, g, s⟩) := by
 have h := scmp_sLt (a := ⟨p', o', f', m', g', s'⟩) (b := ⟨p, o, f, m, g, s⟩)
 simp only at h
 unfold aheadS
 rw [Bool.eq_iff_iff, decide_eq_true_eq, decide_eq_true_eq]
 exact h
open Go.RowKit
def spl (cur : List Value) (o : Nat) (cs : List Value) : List Value := cur.take o ++ cs ++ cur.drop (o + cs.length)
theorem Lies.cells {w : World} {b q : Nat} {l : List El} (h : Lies w (some ⟨b, q, none⟩) l) : ∀ j v, (cellsOf l)[j]? = some v → w.cell? ⟨b, q + j, none⟩ = some v := fun j v hj => by
 have hlt : j < l.length * 6 := by rw [← cellsOf_len]; exact (List.getElem?_eq_some_iff.1 hj).1
 have hk : j / 6 < l.length := by omega
 have hel := List.getElem?_eq_getElem hk
 obtain ⟨b', q', hA, _, hat⟩ := h.2 (by omega)
 injection hA with hA
 injection hA with h1 h2
 subst h1; subst h2
 have h6 := hat _ _ hel
 rw [show j = j / 6 * 6 + j % 6 by omega, cellsOf_at l (j / 6) (j % 6) _ hel (by omega)] at hj
 have hm : j % 6 < 6 := by omega
 obtain ⟨h0, h1, h2, h3, h4, h5⟩ := h6
 rw [show q + j = q + j / 6 * 6 + j % 6 by omega]
 rcases (by omega : j % 6 = 0 ∨ j % 6 = 1 ∨ j % 6 = 2 ∨ j % 6 = 3 ∨ j % 6 = 4 ∨ j % 6 = 5) with e | e | e | e | e | e <;> rw [e] at hj ⊢ <;> simp [El.cells] at hj <;> subst hj <;> assumption
theorem cellsOf_app (a b : List El) : cellsOf (a ++ b) = cellsOf a ++ cellsOf b := by unfold cellsOf; simp
theorem cellsOf_take {l : List El} {i : Nat} (hi : i ≤ l.length) : (cellsOf l).take (i * 6) = cellsOf (l.take i) := by
 have h := cellsOf_app (l.take i) (l.drop i)
 rw [List.take_append_drop] at h
 rw [h]
 exact List.take_left' (by rw [cellsOf_len, List.length_take]; congr 1; omega)
/-- A row whose first cells are those of l, in a block from base on. -/
theorem OwnR.row {base g cap : Nat} {w : World} {l : List El} {cur : List Value} (hb : base ≤ g) (hg : w.heap[g]? = some (.cells cur.toArray 34 (0, 0))) (hn : l.length ≤ cap) (hc : cap ≤ maxLen) (hs : cur.length = cap * 6) (ht : cur.take (l.length * 6) = cellsOf l) :
    OwnR base w (.slice (some ⟨g, 0, none⟩) l.length cap) l :=
  ⟨cellsOf_len l, .inr ⟨g, cap, cur.toArray, rfl, hb, hg, hn, hc, by simpa using hs, by simpa using ht⟩⟩
theorem spl_len {cur cs : List Value} {o : Nat} (h : o + cs.length ≤ cur.length) : (spl cur o cs).length = cur.length := by
 unfold spl; simp only [List.length_append, List.length_take, List.length_drop]; omega
theorem cellsOf_set : ∀ {l : List El} {i j : Nat} {u : Value} {x : El} (hi : i < l.length) (_ : j < 6) (_ : x.cells = l[i].cells.set j u), (cellsOf l).set (i * 6 + j) u = cellsOf (l.set i x)
 | [], _, _, _, _, hi, _, _ => absurd hi (by simp)
 |y :: l, 0, j, u, x, hi, hj, hx => by
  show (y.cells ++ cellsOf l).set (0 * 6 + j) u = x.cells ++ cellsOf l
  rw [Nat.zero_mul, Nat.zero_add, List.set_append_left _ _ (by rw [cells_len]; exact hj), hx]
  rfl
 |y :: l, i + 1, j, u, x, hi, hj, hx => by
  show (y.cells ++ cellsOf l).set ((i + 1) * 6 + j) u = y.cells ++ cellsOf (l.set i x)
  rw [List.set_append_right _ _ (by rw [cells_len]; omega), cells_len, show (i + 1) * 6 + j - 6 = i * 6 + j by omega]
  congr 1
  exact cellsOf_set (l := l) (i := i) (by simpa using hi) hj hx
/-- One field of a record is stored in an owned row. -/
theorem OwnR.set {base g n cap i j : Nat} {w : World} {l : List El} {u : Value} {x : El} (h : OwnR base w (.slice (some ⟨g, 0, none⟩) n cap) l) (hi : i < l.length) (hj : j < 6) (hx : x.cells = l[i].cells.set j u) :
    OwnR base (w.setCell ⟨g, i * 6 + j, none⟩ u) (.slice (some ⟨g, 0, none⟩) n cap) (l.set i x) := by
  have hn : n = l.length := by
    rcases h.2 with ⟨h1, _⟩ | ⟨g', cap', cur, h1, _⟩
    · cases h1
    · injection h1
  subst hn
  have h1 := (World.ownsRow.stored h (i * 6 + j) u).1
  unfold OwnR
  rw [List.length_set, ← cellsOf_set hi hj hx]
  exact h1
theorem OwnR.cell {base g n cap i : Nat} {w : World} {l : List El} (h : OwnR base w (.slice (some ⟨g, 0, none⟩) n cap) l) (hi : i < l.length) : ElAt w g (i * 6) l[i] ∧ (∀ j, w.frozen? ⟨g, j, none⟩ = false) ∧ base ≤ g ∧ g < w.heap.size ∧ n = l.length ∧ n ≤ cap := by
 have hn : n = l.length ∧ n ≤ cap := by
  rcases h.2 with ⟨h1, _⟩ | ⟨g', cap', cur, h1, _, _, h2, _⟩
  ·cases h1
  ·injection h1 with h3 h4 h5
   exact ⟨h4, by omega⟩
 obtain ⟨hn, hnc⟩ := hn
 subst hn
 have key : ∀ j, j < 6 → w.cell? ⟨g, i * 6 + j, none⟩ = l[i].cells[j]? := fun j hj => by
  rw [World.ownsRow.cellAt h (i * 6 + j) (by omega), cellsOf_at l i j _ (List.getElem?_eq_getElem hi) hj]
 have hlt := h.lt g rfl
 exact ⟨⟨key 0 (by omega), key 1 (by omega), key 2 (by omega), key 3 (by omega), key 4 (by omega), key 5 (by omega)⟩, fun j => World.ownsRow.frozenAt h j, hlt.1, hlt.2, rfl, hnc⟩
theorem OwnR.some {base : Nat} {w : World} {v : Value} {l : List El} (h : OwnR base w v l) (hl : 0 < l.length) : ∃ g cap, v = .slice (some ⟨g, 0, none⟩) l.length cap := by
 rcases h.2 with ⟨_, h1⟩ | ⟨g', cap', cur, h1, _⟩
 ·omega
 ·exact ⟨g', cap', h1⟩
theorem OwnR.reads {base n c : Nat} {A : Option Addr} {w : World} {l : List El} (h : OwnR base w (.slice A n c) l) (hw : ∀ e ∈ l, e.wf) : n = l.length ∧ Lies w A l := by
 obtain ⟨A', c', hv, _, _, hL⟩ := h.lies hw
 injection hv with h1 h2 h3
 subst h1
 exact ⟨h2, hL⟩
theorem Good.wf {l : List El} (h : Good l) : ∀ e ∈ l, e.wf := fun e he => by
 have := mem_bounds h he
 unfold El.wf; omega
theorem sorted_ext {α : Type} {r : α → α → Prop} (ir : ∀ a, ¬ r a a) (asy : ∀ a b, r a b → ¬ r b a) : ∀ {l l' : List α}, l.Pairwise r → l'.Pairwise r → (∀ e, e ∈ l ↔ e ∈ l') → l = l'
 | [], [], _, _, _ => rfl
 | [], y :: l', _, _, h => absurd ((h y).2 (by simp)) (by simp)
 |x :: l, [], _, _, h => absurd ((h x).1 (by simp)) (by simp)
 |x :: l, y :: l', hl, hl', h => by
  rw [List.pairwise_cons] at hl hl'
  have hxy : x = y := by
   rcases List.mem_cons.1 ((h x).1 (by simp)) with h1 | h1
   ·exact h1
   rcases List.mem_cons.1 ((h y).2 (by simp)) with h2 | h2
   ·exact h2.symm
   exact absurd (hl.1 y h2) (asy _ _ (hl'.1 x h1))
  subst hxy
  rw [sorted_ext ir asy hl.2 hl'.2 fun e => ?_]
  constructor
  ·intro he
   rcases List.mem_cons.1 ((h e).1 (by simp [he])) with h1 | h1
   ·subst h1; exact absurd (hl.1 e he) (ir e)
   ·exact h1
  ·intro he
   rcases List.mem_cons.1 ((h e).2 (by simp [he])) with h1 | h1
   ·subst h1; exact absurd (hl'.1 e he) (ir e)
   ·exact h1
theorem ins_length (x : El) : ∀ l : List El, (ins x l).length = l.length + 1
 | [] => rfl
 |y :: l => by unfold ins; split <;> simp [ins_length x l]
def spanErr (p f t : Int) : Int := if 0 ≤ p ∧ p ≤ 15 then (if 0 ≤ f ∧ f ≤ t ∧ t ≤ 2147483647 then 0 else 9) else 1
theorem spanErr_zero {p f t : Int} : spanErr p f t = 0 ↔ 0 ≤ p ∧ p ≤ 15 ∧ 0 ≤ f ∧ f ≤ t ∧ t ≤ 2147483647 := by
 unfold spanErr
 by_cases h1 : 0 ≤ p ∧ p ≤ 15
 ·rw [if_pos h1]
  by_cases h2 : 0 ≤ f ∧ f ≤ t ∧ t ≤ 2147483647
  ·rw [if_pos h2]; simp only [true_iff]; omega
  ·rw [if_neg h2]; simp only [Int.reduceEq, false_iff]; omega
 ·rw [if_neg h1]; simp only [Int.reduceEq, false_iff]; omega
def cutGone (t : Int) (e : El) : El := if t < e.g then { e with g := 0 } else e
def inU (p t : Int) (e : El) : Bool := decide (e.p = p ∧ e.m ≤ t)
def uptoL (l : List El) (p t : Int) : List El := (l.filter (inU p t)).map (cutGone t)
def isOld (f : Int) (e : El) : Bool := decide (e.last ≤ f)
def freshL (l : List El) (p f t : Int) : List El := (uptoL l p t).filter fun e => !isOld f e
def uptoErr (l : List El) (p t : Int) : Int := if runErr l = 0 then spanErr p 0 t else runErr l
def readErr (l : List El) (p f t : Int) : Int := if runErr l = 0 then spanErr p f t else runErr l
theorem cut_key (t : Int) (e : El) : (cutGone t e).key = e.key := by unfold cutGone; split <;> rfl
theorem cut_m (t : Int) (e : El) : (cutGone t e).m = e.m := by unfold cutGone; split <;> rfl
theorem cut_p (t : Int) (e : El) : (cutGone t e).p = e.p := by unfold cutGone; split <;> rfl
theorem cut_g (t : Int) (e : El) : (cutGone t e).g = if t < e.g then 0 else e.g := by unfold cutGone; split <;> rfl
theorem cut_same {t : Int} {e : El} (h : e.g ≤ t) : cutGone t e = e := by unfold cutGone; rw [if_neg (by omega)]
theorem upto_mem {l : List El} {p t : Int} {e : El} : e ∈ uptoL l p t ↔ ∃ x ∈ l, x.p = p ∧ x.m ≤ t ∧ cutGone t x = e := by
 unfold uptoL inU
 rw [List.mem_map]
 constructor
 ·rintro ⟨x, hx, h⟩
  rw [List.mem_filter, decide_eq_true_eq] at hx
  exact ⟨x, hx.1, hx.2.1, hx.2.2, h⟩
 ·rintro ⟨x, hx, h1, h2, h⟩
  exact ⟨x, by rw [List.mem_filter, decide_eq_true_eq]; exact ⟨hx, h1, h2⟩, h⟩
theorem upto_take {l : List El} {k : Nat} {e : El} (h : l[k]? = some e) (p t : Int) : uptoL (l.take (k + 1)) p t = uptoL (l.take k) p t ++ (if inU p t e = true then [cutGone t e] else []) := by
 unfold uptoL
 rw [take_snoc3 h, List.filter_append, List.map_append]
 congr 1
 cases hi : inU p t e <;> simp [hi]
theorem upto_len (l : List El) (p t : Int) : (uptoL l p t).length ≤ l.length := by
 unfold uptoL; rw [List.length_map]; exact List.length_filter_le _ _
theorem last_cut {t : Int} {e : El} (h : e.m ≤ t) (ht : 0 ≤ t) : (cutGone t e).last ≤ t := last_le (by rw [cut_m]; exact h) (by rw [cut_g]; split <;> omega)
theorem cut_err {t : Int} {e : El} (h : e.err = 0) : (cutGone t e).err = 0 := by
 unfold El.err at *
 rw [elemErr_zero] at *
 unfold cutGone
 split
 ·refine ⟨h.1, ?_, h.2.2⟩
  have := h.2.1
  unfold timeOk at *; exact ⟨this.1, this.2.1, .inl rfl⟩
 ·exact h
theorem cut_fol {t : Int} {a b : El} (h : Fol a b) (hb : b.m ≤ t) : Fol (cutGone t a) (cutGone t b) := by
 refine ⟨by rw [cut_key, cut_key, cut_m, cut_m]; exact h.1, fun hk => ?_⟩
 rw [cut_key, cut_key] at hk
 have := h.2 hk
 rw [cut_g, cut_m, if_neg (by omega)]
 exact this
theorem upto_good {l : List El} (h : Good l) (p t : Int) : Good (uptoL l p t) := by
 refine ⟨Nat.le_trans (upto_len l p t) h.1, fun e he => ?_, ?_⟩
 ·obtain ⟨x, hx, _, _, rfl⟩ := upto_mem.1 he
  exact cut_err (h.2.1 x hx)
 ·unfold uptoL
  rw [List.pairwise_map]
  refine List.Pairwise.imp_of_mem (fun {a b} ha hb hF => ?_) (h.2.2.sublist (List.filter_sublist (p := inU p t)))
  have := (List.mem_filter.1 hb).2
  unfold inU at this; rw [decide_eq_true_eq] at this
  exact cut_fol hF this.2
theorem fresh_sub (l : List El) (p f t : Int) : (freshL l p f t).Sublist (uptoL l p t) := List.filter_sublist
theorem fresh_mem {l : List El} {p f t : Int} {e : El} : e ∈ freshL l p f t ↔ e ∈ uptoL l p t ∧ f < e.last := by
 unfold freshL isOld
 rw [List.mem_filter]
 simp
theorem rise_of {l : List El} (h : Good l) : l.Pairwise Rise := Fol.rise h.2.2
def Strm (p f t : Int) (l : List El) : Prop := l.Pairwise Rise ∧ ∀ e ∈ l, e.err = 0 ∧ e.p = p ∧ f < e.last ∧ e.last ≤ t
theorem fresh_strm {l : List El} (h : Good l) (p f t : Int) : Strm p f t (freshL l p f t) := by
 have hG := upto_good h p t
 refine ⟨(rise_of hG).sublist (fresh_sub l p f t), fun e he => ?_⟩
 obtain ⟨h1, h2⟩ := fresh_mem.1 he
 obtain ⟨x, hx, hp, hm, rfl⟩ := upto_mem.1 h1
 exact ⟨cut_err (h.2.1 x hx), by rw [cut_p]; exact hp, h2, last_cut hm (by have := (err_zero (h.2.1 x hx)).2.2.2.2.2.2.1; omega)⟩
theorem fresh_len (l : List El) (p f t : Int) : (freshL l p f t).length ≤ l.length := Nat.le_trans (List.length_filter_le _ _) (upto_len l p t)
def encN3 (p f t : Int) : List UInt8 := be 4 p.toNat ++ (be 4 f.toNat ++ be 4 t.toNat)
def frE (e : El) : List UInt8 := encF 2 (enc e)
def strB (p f t : Int) (l : List El) : List UInt8 := encF 1 (encN3 p f t) ++ (l.flatMap frE ++ encF 3 (be 4 l.length))
theorem encN3_length (p f t : Int) : (encN3 p f t).length = 12 := by simp [encN3, be_length]
theorem frE_length {e : El} (h : e.err = 0) : 23 ≤ (frE e).length ∧ (frE e).length ≤ 63 := by
 have := (err_zero h).2.2.2.2.2.2.2.2.2.2
 rw [frE, encF_length, enc_length]; omega
theorem flat_length : ∀ {l : List El}, (∀ e ∈ l, e.err = 0) → (l.flatMap frE).length ≤ 63 * l.length
 | [], _ => by simp
 |e :: l, h => by
  have h1 := (frE_length (h e (by simp))).2
  have h2 := flat_length (l := l) fun x hx => h x (by simp [hx])
  rw [List.flatMap_cons, List.length_append, List.length_cons]; omega
theorem strB_length {p f t : Int} {l : List El} (h : ∀ e ∈ l, e.err = 0) : (strB p f t l).length ≤ 26 + 63 * l.length := by
 have := flat_length h
 unfold strB
 rw [List.length_append, List.length_append, encF_length, encF_length, encN3_length, be_length]; omega
theorem flat_snoc (l : List El) (e : El) : (l ++ [e]).flatMap frE = l.flatMap frE ++ frE e := by simp
def n0 (s : List UInt8) : Int := (num (part (unBody s) 0 4) : Int)
def n1 (s : List UInt8) : Int := (num (part (unBody s) 4 4) : Int)
def n2 (s : List UInt8) : Int := (num (part (unBody s) 8 4) : Int)
def begErr (s : List UInt8) : Int := if unErr s = 0 then (if unKind s = 1 ∧ (unBody s).length = 12 ∧ spanErr (n0 s) (n1 s) (n2 s) = 0 then 0 else 3) else unErr s
def folB (M : List El) (e : El) : Bool := match M.getLast? with | none => true | some y => decide (Rise y e)
def nxtB (p f t : Int) (M : List El) (b : List UInt8) : Bool := decide (decErr b = 0 ∧ decLen b = b.length ∧ (decEl b).p = p ∧ f < (decEl b).last ∧ (decEl b).last ≤ t ∧ folB M (decEl b) = true)
def prs : Nat → Int → Int → Int → List El → List UInt8 → Int × List El
  | 0, _, _, _, _, _ => (3, [])
  | n + 1, p, f, t, M, s => if unErr s ≠ 0 then (unErr s, []) else
      if unKind s = 3 then (if unBody s = be 4 M.length ∧ s.length = 5 + unSize s then (0, M) else (3, [])) else
      if unKind s = 2 ∧ nxtB p f t M (unBody s) = true then prs n p f t (M ++ [decEl (unBody s)]) (s.drop (5 + unSize s)) else (3, [])
theorem prs_more : ∀ (n m : Nat) (p f t : Int) (M : List El) (s : List UInt8), s.length < n → s.length < m → prs n p f t M s = prs m p f t M s
 | 0, _, _, _, _, _, _, h, _ => absurd h (Nat.not_lt_zero _)
 |_ + 1, 0, _, _, _, _, _, _, h => absurd h (Nat.not_lt_zero _)
 |n + 1, m + 1, p, f, t, M, s, h1, h2 => by
  unfold prs
  by_cases hu : unErr s = 0
  ·have := (unErr_zero hu).1
   rw [prs_more n m p f t (M ++ [decEl (unBody s)]) (s.drop (5 + unSize s)) (by rw [List.length_drop]; omega) (by rw [List.length_drop]; omega)]
  ·rw [if_pos hu, if_pos hu]
def prsA (p f t : Int) (M : List El) (s : List UInt8) : Int × List El := prs (s.length + 1) p f t M s
section
variable {p f t : Int} {M : List El} {s : List UInt8}
theorem prsA_bad (h : unErr s ≠ 0) : prsA p f t M s = (unErr s, []) := by unfold prsA prs; rw [if_pos h]
theorem prsA_end (h : unErr s = 0) (h3 : unKind s = 3) : prsA p f t M s = if unBody s = be 4 M.length ∧ s.length = 5 + unSize s then (0, M) else (3, []) := by
 unfold prsA prs; rw [if_neg (by simpa using h), if_pos h3]
theorem prsA_no (h : unErr s = 0) (h3 : unKind s ≠ 3) (hn : ¬ (unKind s = 2 ∧ nxtB p f t M (unBody s) = true)) : prsA p f t M s = (3, []) := by
 unfold prsA prs; rw [if_neg (by simpa using h), if_neg h3, if_neg hn]
theorem prsA_step (h : unErr s = 0) (h2 : unKind s = 2) (hn : nxtB p f t M (unBody s) = true) : prsA p f t M s = prsA p f t (M ++ [decEl (unBody s)]) (s.drop (5 + unSize s)) := by
 have := (unErr_zero h).1
 unfold prsA
 rw [prs, if_neg (by simpa using h), if_neg (by omega), if_pos ⟨h2, hn⟩]
 exact prs_more _ _ _ _ _ _ _ (by rw [List.length_drop]; omega) (by omega)
end
def rest (s : List UInt8) : List UInt8 := s.drop (5 + unSize s)
def parErr (s : List UInt8) : Int := if begErr s = 0 then (prsA (n0 s) (n1 s) (n2 s) [] (rest s)).1 else begErr s
def parL (s : List UInt8) : List El := if begErr s = 0 then (prsA (n0 s) (n1 s) (n2 s) [] (rest s)).2 else []
theorem prs_bad_nil : ∀ (n : Nat) {p f t : Int} {M : List El} {s : List UInt8}, (prs n p f t M s).1 ≠ 0 → (prs n p f t M s).2 = []
 | 0, _, _, _, _, _, _ => rfl
 |n + 1, p, f, t, M, s, h => by
  unfold prs at *
  split
  ·rfl
  split
  ·split
   ·rename_i h1 h2 h3; rw [if_neg h1, if_pos h2, if_pos h3] at h; exact absurd rfl h
   ·rfl
  split
  ·rename_i h1 h2 h3
   rw [if_neg h1, if_neg h2, if_pos h3] at h
   exact prs_bad_nil n h
  ·rfl
theorem parL_bad {s : List UInt8} (h : parErr s ≠ 0) : parL s = [] := by
 unfold parErr at h; unfold parL
 split
 ·rename_i h1; rw [if_pos h1] at h; exact prs_bad_nil _ h
 ·rfl
theorem folB_iff {M : List El} {e : El} (h : M.Pairwise Rise) : folB M e = true ↔ (M ++ [e]).Pairwise Rise := by
 rw [List.pairwise_append]
 rcases List.eq_nil_or_concat M with rfl | ⟨L, y, rfl⟩
 ·simp [folB]
 ·have hg : (L.concat y).getLast? = some y := by simp
  unfold folB
  rw [hg]
  simp only [decide_eq_true_eq]
  rw [List.concat_eq_append, List.pairwise_append] at h
  constructor
  ·intro hy
   refine ⟨by rw [List.concat_eq_append, List.pairwise_append]; exact h, by simp, fun a ha b hb => ?_⟩
   rw [List.mem_singleton] at hb
   subst hb
   rw [List.concat_eq_append] at ha
   rcases List.mem_append.1 ha with ha | ha
   ·exact sLt_trans (h.2.2 a ha y (by simp)) hy
   ·rw [List.mem_singleton] at ha; subst ha; exact hy
  ·intro hy
   exact hy.2.2 y (by simp) e (by simp)
theorem prs_strm : ∀ (n : Nat) {p f t : Int} {M : List El} {s : List UInt8}, Strm p f t M → Strm p f t (prs n p f t M s).2
 | 0, p, f, t, M, s, _ => ⟨List.Pairwise.nil, by simp [prs]⟩
 |n + 1, p, f, t, M, s, h => by
  have e0 : Strm p f t [] := ⟨List.Pairwise.nil, by simp⟩
  unfold prs
  split
  ·exact e0
  split
  ·split
   ·exact h
   ·exact e0
  split
  ·rename_i h3
   have h4 := h3.2
   unfold nxtB at h4; rw [decide_eq_true_eq] at h4
   refine prs_strm n ⟨(folB_iff h.1).1 h4.2.2.2.2.2, fun e he => ?_⟩
   rcases List.mem_append.1 he with he | he
   ·exact h.2 e he
   ·rw [List.mem_singleton] at he; subst he
    exact ⟨(decErr_zero h4.1).2.2, h4.2.2.1, h4.2.2.2.1, h4.2.2.2.2.1⟩
  ·exact e0
theorem parL_strm (s : List UInt8) : Strm (n0 s) (n1 s) (n2 s) (parL s) := by
 unfold parL
 split
 ·exact prs_strm _ ⟨List.Pairwise.nil, by simp⟩
 ·exact ⟨List.Pairwise.nil, by simp⟩
theorem prs_len : ∀ (n : Nat) {p f t : Int} {M : List El} {s : List UInt8}, (prs n p f t M s).2.length ≤ M.length + s.length
 | 0, _, _, _, _, _ => by simp [prs]
 |n + 1, p, f, t, M, s => by
  unfold prs
  by_cases hu : unErr s = 0
  ·have hz := (unErr_zero hu).1
   rw [if_neg (by simpa using hu)]
   split
   ·split <;> simp
   split
   ·have := prs_len n (p := p) (f := f) (t := t) (M := M ++ [decEl (unBody s)]) (s := s.drop (5 + unSize s))
    rw [List.length_append, List.length_singleton, List.length_drop] at this
    omega
   ·simp
  ·rw [if_pos (by simpa using hu)]; simp
theorem parL_len (s : List UInt8) : (parL s).length ≤ s.length := by
 unfold parL
 split
 ·have := prs_len ((rest s).length + 1) (p := n0 s) (f := n1 s) (t := n2 s) (M := []) (s := rest s)
  unfold prsA
  unfold rest at this ⊢
  rw [List.length_drop] at this
  simp only [List.length_nil] at this
  rw [List.length_drop]
  omega
 ·simp
theorem enc_frame {e : El} (he : e.err = 0) (r : List UInt8) : unErr (frE e ++ r) = 0 ∧ unKind (frE e ++ r) = 2 ∧ unBody (frE e ++ r) = enc e ∧ 5 + unSize (frE e ++ r) = (frE e).length := by
 have hl : (enc e).length ≤ 3000 := by have := (err_zero he).2.2.2.2.2.2.2.2.2.2; rw [enc_length]; omega
 obtain ⟨h1, h2, h3, h4⟩ := un_enc (k := 2) (b := enc e) (by omega) hl (by omega) r
 exact ⟨h1, h2, h4, by unfold frE; rw [h3, encF_length]⟩
theorem nxt_enc {p f t : Int} {M : List El} {e : El} (he : e.err = 0) (hp : e.p = p) (h1 : f < e.last) (h2 : e.last ≤ t) (hf : folB M e = true) : nxtB p f t M (enc e) = true ∧ decEl (enc e) = e := by
 obtain ⟨d1, d2, d3⟩ := dec_enc he []
 rw [List.append_nil] at d1 d2 d3
 refine ⟨?_, d2⟩
 unfold nxtB
 rw [decide_eq_true_eq, d2]
 exact ⟨d1, d3, hp, h1, h2, hf⟩
theorem prsA_flat : ∀ {p f t : Int} {M L : List El} (r : List UInt8), Strm p f t (M ++ L) → prsA p f t M (L.flatMap frE ++ r) = prsA p f t (M ++ L) r
 |p, f, t, M, [], r, _ => by simp
 |p, f, t, M, e :: L, r, h => by
  obtain ⟨h1, h2, h3, h4⟩ := h.2 e (by simp)
  have hM : M.Pairwise Rise ∧ (M ++ [e]).Pairwise Rise := by
   have := h.1
   rw [show M ++ e :: L = (M ++ [e]) ++ L by simp] at this
   have h5 := (List.pairwise_append.1 this).1
   exact ⟨(List.pairwise_append.1 h5).1, h5⟩
  obtain ⟨u1, u2, u3, u4⟩ := enc_frame h1 (L.flatMap frE ++ r)
  obtain ⟨x1, x2⟩ := nxt_enc (M := M) h1 h2 h3 h4 ((folB_iff hM.1).2 hM.2)
  have hE : (e :: L).flatMap frE ++ r = frE e ++ (L.flatMap frE ++ r) := by simp
  rw [hE, prsA_step u1 u2 (by rw [u3]; exact x1), u3, x2, u4, List.drop_left, prsA_flat r (by simpa using h)]
  simp
theorem n3_parts {p f t : Int} (h : spanErr p f t = 0) : (num (part (encN3 p f t) 0 4) : Int) = p ∧ (num (part (encN3 p f t) 4 4) : Int) = f ∧ (num (part (encN3 p f t) 8 4) : Int) = t := by
 have := spanErr_zero.1 h
 have s1 := fun (b : List UInt8) (i k : Nat) => part_skip (b := b) (be_length 4 p.toNat) i k
 have s2 := fun (b : List UInt8) (i k : Nat) => part_skip (b := b) (be_length 4 f.toNat) i k
 have s3 : part (be 4 t.toNat) 0 4 = be 4 t.toNat := by
  have := part_here (b := []) (be_length 4 t.toNat)
  rwa [List.append_nil] at this
 unfold encN3
 refine ⟨?_, ?_, ?_⟩
 ·rw [part_here (be_length _ _), num_be _ _ (by omega)]; omega
 ·rw [show 4 = 4 + 0 from rfl, s1, part_here (be_length _ _), num_be _ _ (by omega)]; omega
 ·rw [show 8 = 4 + (4 + 0) from rfl, s1, s2, s3, num_be _ _ (by omega)]; omega
theorem beg_enc {p f t : Int} (h : spanErr p f t = 0) (r : List UInt8) : begErr (encF 1 (encN3 p f t) ++ r) = 0 ∧ n0 (encF 1 (encN3 p f t) ++ r) = p ∧ n1 (encF 1 (encN3 p f t) ++ r) = f ∧ n2 (encF 1 (encN3 p f t) ++ r) = t ∧ rest (encF 1 (encN3 p f t) ++ r) = r := by
 have hl := encN3_length p f t
 obtain ⟨h1, h2, h3, h4⟩ := un_enc (k := 1) (b := encN3 p f t) (by omega) (by omega) (by omega) r
 obtain ⟨q1, q2, q3⟩ := n3_parts h
 have e0 : n0 (encF 1 (encN3 p f t) ++ r) = p := by unfold n0; rw [h4]; exact q1
 have e1 : n1 (encF 1 (encN3 p f t) ++ r) = f := by unfold n1; rw [h4]; exact q2
 have e2 : n2 (encF 1 (encN3 p f t) ++ r) = t := by unfold n2; rw [h4]; exact q3
 refine ⟨?_, e0, e1, e2, ?_⟩
 ·unfold begErr
  rw [if_pos h1, e0, e1, e2, h4, if_pos ⟨h2, hl, h⟩]
 ·unfold rest
  rw [h3, List.drop_append, List.drop_eq_nil_of_le (by rw [encF_length]; omega), List.nil_append, encF_length, Nat.sub_self, List.drop_zero]
theorem end_enc {p f t : Int} {M : List El} (r : List UInt8) : prsA p f t M (encF 3 (be 4 M.length) ++ r) = if r = [] then (0, M) else (3, []) := by
 have hl := be_length 4 M.length
 obtain ⟨h1, h2, h3, h4⟩ := un_enc (k := 3) (b := be 4 M.length) (by omega) (by omega) (by omega) r
 rw [prsA_end h1 h2, h4, h3, List.length_append, encF_length, hl]
 by_cases hr : r = []
 ·subst hr; rw [if_pos ⟨rfl, by simp⟩, if_pos rfl]
 ·have : r.length ≠ 0 := by simpa using hr
  rw [if_neg (by omega), if_neg hr]
/-- A stream is read as it was written, and nothing may follow it. -/
theorem par_strB {p f t : Int} {L : List El} (h : spanErr p f t = 0) (hL : Strm p f t L) (r : List UInt8) :
    n0 (strB p f t L ++ r) = p ∧ n1 (strB p f t L ++ r) = f ∧ n2 (strB p f t L ++ r) = t ∧ parErr (strB p f t L ++ r) = (if r = [] then 0 else 3) ∧ parL (strB p f t L ++ r) = (if r = [] then L else []) := by
  have hE : strB p f t L ++ r = encF 1 (encN3 p f t) ++ (L.flatMap frE ++ (encF 3 (be 4 L.length) ++ r)) := by simp [strB]
  obtain ⟨b0, b1, b2, b3, b4⟩ := beg_enc h (L.flatMap frE ++ (encF 3 (be 4 L.length) ++ r))
  rw [hE]
  refine ⟨b1, b2, b3, ?_, ?_⟩
  · unfold parErr
    rw [if_pos b0, b1, b2, b3, b4, prsA_flat (M := []) _ (by simpa using hL), List.nil_append, end_enc]
    split <;> rfl
  · unfold parL
    rw [if_pos b0, b1, b2, b3, b4, prsA_flat (M := []) _ (by simpa using hL), List.nil_append, end_enc]
    split <;> rfl
theorem frame_cut {k : Nat} {b : List UInt8} (hk : k < 256) (hb : b.length ≤ 3000) (h0 : 0 < k) (r : List UInt8) {j : Nat} (hj : j < (encF k b).length) : unErr ((encF k b ++ r).take j) = 7 := by
 rw [List.take_append_of_le_length (by omega)]
 exact un_short hk hb h0 hj
theorem prsA_cut : ∀ {p f t : Int} {M L : List El} {j : Nat} (_ : Strm p f t (M ++ L)) (_ : j < (L.flatMap frE ++ encF 3 (be 4 (M ++ L).length)).length), (prsA p f t M ((L.flatMap frE ++ encF 3 (be 4 (M ++ L).length)).take j)).1 = 7
 |p, f, t, M, [], j, h, hj => by
  have hu : unErr ((encF 3 (be 4 M.length)).take j) = 7 := un_short (by omega) (by rw [be_length]; omega) (by omega) (by simpa using hj)
  have hx : ([] : List El).flatMap frE ++ encF 3 (be 4 (M ++ []).length) = encF 3 (be 4 M.length) := by simp
  rw [hx, prsA_bad (by rw [hu]; decide)]
  exact hu
 |p, f, t, M, e :: L, j, h, hj => by
  obtain ⟨h1, h2, h3, h4⟩ := h.2 e (by simp)
  have hM : M.Pairwise Rise ∧ (M ++ [e]).Pairwise Rise := by
   have := h.1
   rw [show M ++ e :: L = (M ++ [e]) ++ L by simp] at this
   have h5 := (List.pairwise_append.1 this).1
   exact ⟨(List.pairwise_append.1 h5).1, h5⟩
  have hE : (e :: L).flatMap frE ++ encF 3 (be 4 (M ++ e :: L).length) = frE e ++ (L.flatMap frE ++ encF 3 (be 4 ((M ++ [e]) ++ L).length)) := by simp
  rw [hE] at hj ⊢
  by_cases hlt : j < (frE e).length
  ·have hu := frame_cut (k := 2) (b := enc e) (by omega) (by have := (err_zero h1).2.2.2.2.2.2.2.2.2.2; rw [enc_length]; omega) (by omega) (L.flatMap frE ++ encF 3 (be 4 ((M ++ [e]) ++ L).length)) hlt
   rw [prsA_bad (by show unErr ((encF 2 (enc e) ++ _).take j) ≠ 0; rw [hu]; decide)]
   exact hu
  ·rw [List.take_append, List.take_of_length_le (by omega)]
   obtain ⟨u1, u2, u3, u4⟩ := enc_frame h1 ((L.flatMap frE ++ encF 3 (be 4 ((M ++ [e]) ++ L).length)).take (j - (frE e).length))
   obtain ⟨x1, x2⟩ := nxt_enc (M := M) h1 h2 h3 h4 ((folB_iff hM.1).2 hM.2)
   rw [prsA_step u1 u2 (by rw [u3]; exact x1), u3, x2, u4, List.drop_left]
   exact prsA_cut (by simpa using h) (by rw [List.length_append] at hj; omega)
/-- A stream that is cut short is none. -/
theorem par_cut {p f t : Int} {L : List El} (h : spanErr p f t = 0) (hL : Strm p f t L) {j : Nat} (hj : j < (strB p f t L).length) : parErr ((strB p f t L).take j) = 7 := by
 unfold strB at hj ⊢
 have hl := encN3_length p f t
 by_cases hlt : j < (encF 1 (encN3 p f t)).length
 ·have hu := frame_cut (k := 1) (b := encN3 p f t) (by omega) (by omega) (by omega) (L.flatMap frE ++ encF 3 (be 4 L.length)) hlt
  unfold parErr begErr
  rw [hu]; rfl
 ·rw [List.take_append, List.take_of_length_le (by omega)]
  obtain ⟨b0, b1, b2, b3, b4⟩ := beg_enc h ((L.flatMap frE ++ encF 3 (be 4 L.length)).take (j - (encF 1 (encN3 p f t)).length))
  unfold parErr
  rw [if_pos b0, b1, b2, b3, b4]
  have := prsA_cut (p := p) (f := f) (t := t) (M := []) (L := L) (j := j - (encF 1 (encN3 p f t)).length) (by simpa using hL) (by rw [List.length_append] at hj; simp only [List.nil_append]; omega)
  simpa using this
def sameS (x e : El) : Bool := decide (e.key = x.key ∧ e.m = x.m)
def setS (x : El) (l : List El) : List El := ins x (l.filter fun e => !sameS x e)
def fedL (l fr : List El) : List El := fr.foldl (fun out e => setS e out) l
def fedErr (l fr : List El) : Int := if 400 < (fedL l fr).length then 8 else if runErr (fedL l fr) = 0 then 0 else 3
def feedErr (l : List El) (s : List UInt8) : Int := if runErr l = 0 then (if parErr s = 0 then fedErr l (parL s) else parErr s) else runErr l
def feedL (l : List El) (s : List UInt8) : List El := if feedErr l s = 0 then fedL l (parL s) else []
theorem mem_ins {x e : El} : ∀ {l : List El}, e ∈ ins x l ↔ e = x ∨ e ∈ l
 | [] => by simp [ins]
 |y :: l => by
  unfold ins
  split
  ·simp
  ·rw [List.mem_cons, mem_ins, List.mem_cons]
   constructor
   ·rintro (h | h | h) <;> simp [h]
   ·rintro (h | h | h) <;> simp [h]
theorem rise_ins {x : El} : ∀ {l : List El}, l.Pairwise Rise → (∀ e ∈ l, sameS x e = false) → (ins x l).Pairwise Rise
 | [], _, _ => by simp [ins]
 |y :: l, h, hs => by
  rw [List.pairwise_cons] at h
  unfold ins
  split
  ·rename_i hx
   rw [List.pairwise_cons, List.pairwise_cons]
   refine ⟨fun e he => ?_, h⟩
   rcases List.mem_cons.1 he with rfl | he
   ·exact hx
   ·exact sLt_trans hx (h.1 e he)
  ·rename_i hx
   rw [List.pairwise_cons]
   refine ⟨fun e he => ?_, rise_ins h.2 fun e he => hs e (by simp [he])⟩
   rcases mem_ins.1 he with rfl | he
   ·rcases sLt_tri e.key e.m y.key y.m with h1 | h1 | h1
    ·exact absurd h1 hx
    ·have := hs y (by simp)
     unfold sameS at this; rw [decide_eq_false_iff_not] at this
     exact absurd ⟨h1.1.symm, h1.2.symm⟩ this
    ·exact h1
   ·exact h.1 e he
theorem sameS_no {x e : El} : sameS x e = false ↔ ¬ (e.key = x.key ∧ e.m = x.m) := by unfold sameS; rw [decide_eq_false_iff_not]
theorem mem_setS {x e : El} {l : List El} : e ∈ setS x l ↔ e = x ∨ (e ∈ l ∧ ¬ (e.key = x.key ∧ e.m = x.m)) := by
 unfold setS
 rw [mem_ins, List.mem_filter, Bool.not_eq_true', sameS_no]
theorem rise_setS {x : El} {l : List El} (h : l.Pairwise Rise) : (setS x l).Pairwise Rise := by
 unfold setS
 refine rise_ins (h.sublist List.filter_sublist) fun e he => ?_
 have := (List.mem_filter.1 he).2
 simpa using this
theorem rise_ne {a b : El} (h : Rise a b) : ¬ (a.key = b.key ∧ a.m = b.m) := fun ⟨h1, h2⟩ => by
 unfold Rise at h; rw [h1, h2] at h; exact sLt_irrefl _ _ h
theorem rise_fedL : ∀ {fr l : List El}, l.Pairwise Rise → (fedL l fr).Pairwise Rise
 | [], _, h => h
 |x :: fr, l, h => by
  show (fedL (setS x l) fr).Pairwise Rise
  exact rise_fedL (rise_setS h)
theorem mem_fedL {e : El} : ∀ {fr l : List El}, fr.Pairwise Rise → (e ∈ fedL l fr ↔ e ∈ fr ∨ (e ∈ l ∧ ∀ x ∈ fr, ¬ (e.key = x.key ∧ e.m = x.m)))
 | [], l, _ => by simp [fedL]
 |x :: fr, l, h => by
  rw [List.pairwise_cons] at h
  have ih := mem_fedL (e := e) (fr := fr) (l := setS x l) h.2
  have hE : fedL l (x :: fr) = fedL (setS x l) fr := rfl
  rw [hE, ih, mem_setS]
  constructor
  ·rintro (h1 | ⟨rfl | ⟨h1, h2⟩, h3⟩)
   ·exact .inl (by simp [h1])
   ·exact .inl (by simp)
   ·refine .inr ⟨h1, fun y hy => ?_⟩
    rcases List.mem_cons.1 hy with rfl | hy
    ·exact h2
    ·exact h3 y hy
  ·rintro (h1 | ⟨h1, h2⟩)
   ·rcases List.mem_cons.1 h1 with rfl | h1
    ·exact .inr ⟨.inl rfl, fun y hy => rise_ne (h.1 y hy)⟩
    ·exact .inl h1
   ·exact .inr ⟨.inr ⟨h1, h2 x (by simp)⟩, fun y hy => h2 y (by simp [hy])⟩
theorem rise_ext {l l' : List El} (h : l.Pairwise Rise) (h' : l'.Pairwise Rise) (hm : ∀ e, e ∈ l ↔ e ∈ l') : l = l' :=
 sorted_ext (r := Rise) (fun _ => sLt_irrefl _ _) (fun _ _ h1 h2 => sLt_irrefl _ _ (sLt_trans h1 h2)) h h' hm
theorem setS_len (x : El) (l : List El) : (setS x l).length ≤ l.length + 1 := by
 unfold setS
 rw [ins_length]
 have := List.length_filter_le (fun e => !sameS x e) l
 omega
theorem fedL_len : ∀ (fr l : List El), (fedL l fr).length ≤ l.length + fr.length
 | [], l => by simp [fedL]
 |x :: fr, l => by
  have h1 := fedL_len fr (setS x l)
  have h2 := setS_len x l
  have hE : fedL l (x :: fr) = fedL (setS x l) fr := rfl
  rw [hE, List.length_cons]; omega
theorem fedL_wf {l fr : List El} (hl : ∀ e ∈ l, -9223372036854775808 ≤ e.m) (hf : ∀ e ∈ fr, -9223372036854775808 ≤ e.m) : ∀ e ∈ fedL l fr, -9223372036854775808 ≤ e.m := by
 induction fr generalizing l with
 |nil => exact hl
 |cons x fr ih =>
  refine ih (fun e he => ?_) fun e he => hf e (by simp [he])
  rcases mem_setS.1 he with rfl | h
  ·exact hf e (by simp)
  ·exact hl e h.1
theorem setS_front {a y : El} {l : List El} (h : Rise a y) : setS y (a :: l) = a :: setS y l := by
 unfold setS
 have h1 : sameS y a = false := sameS_no.2 fun h2 => rise_ne h h2
 rw [List.filter_cons_of_pos (by rw [h1]; rfl)]
 rw [ins]; exact if_neg (sLt_asymm h)
theorem fedL_front {a : El} : ∀ {fr l : List El}, (∀ y ∈ fr, Rise a y) → fedL (a :: l) fr = a :: fedL l fr
 | [], l, _ => rfl
 |y :: fr, l, h => by
  show fedL (setS y (a :: l)) fr = a :: fedL (setS y l) fr
  rw [setS_front (h y (by simp)), fedL_front fun z hz => h z (by simp [hz])]
theorem fedL_ahead : ∀ {A fr l : List El}, (∀ a ∈ A, ∀ y ∈ fr, Rise a y) → fedL (A ++ l) fr = A ++ fedL l fr
 | [], _, _, _ => rfl
 |a :: A, fr, l, h => by
  rw [List.cons_append, fedL_front (h a (by simp)), fedL_ahead fun b hb => h b (by simp [hb])]; rfl
theorem setS_back {x : El} : ∀ {A C : List El}, (∀ a ∈ A, Rise a x) → (∀ c ∈ C, Rise x c) → setS x (A ++ C) = A ++ x :: C
 | [], C, _, hC => by
  rw [List.nil_append, List.nil_append]
  unfold setS
  have : C.filter (fun e => !sameS x e) = C := by
   rw [List.filter_eq_self]
   intro c hc
   rw [sameS_no.2 fun h => rise_ne (hC c hc) ⟨h.1.symm, h.2.symm⟩]; rfl
  rw [this]
  cases C with
  |nil => rfl
  |cons c C => rw [ins]; exact if_pos (hC c (by simp))
 |a :: A, C, hA, hC => by
  rw [List.cons_append, setS_front (hA a (by simp)), setS_back (fun b hb => hA b (by simp [hb])) hC]; rfl
theorem setS_over {x z : El} {A C : List El} (hA : ∀ a ∈ A, Rise a x) (hz : z.key = x.key ∧ z.m = x.m) (hC : ∀ c ∈ C, Rise x c) : setS x (A ++ z :: C) = A ++ x :: C := by
 rw [← setS_back hA hC]
 unfold setS
 rw [List.filter_append, List.filter_append, List.filter_cons_of_neg]
 unfold sameS
 simp [hz.1, hz.2]
/-- One record of those that are fed: what stands ahead of it, itself, and what is behind. -/
theorem fed_step {x : El} {A C fr : List El} (hr : (x :: fr).Pairwise Rise) (hA : ∀ a ∈ A, Rise a x) (hC : ∀ c ∈ C, Rise x c) : fedL (A ++ C) (x :: fr) = A ++ x :: fedL C fr ∧ ∀ z, z.key = x.key ∧ z.m = x.m → fedL (A ++ z :: C) (x :: fr) = A ++ x :: fedL C fr := by
 rw [List.pairwise_cons] at hr
 have key : fedL (A ++ x :: C) fr = A ++ x :: fedL C fr := by
  rw [fedL_ahead fun a ha y hy => sLt_trans (hA a ha) (hr.1 y hy), fedL_front hr.1]
 refine ⟨?_, fun z hz => ?_⟩
 ·show fedL (setS x (A ++ C)) fr = _
  rw [setS_back hA hC, key]
 ·show fedL (setS x (A ++ z :: C)) fr = _
  rw [setS_over hA hz hC, key]
def sM (a b : Sp) : Prop := sLt (a.p, a.o, a.f) a.m (b.p, b.o, b.f) b.m
instance (a b : Sp) : Decidable (sM a b) := inferInstanceAs (Decidable (sLt _ _ _ _))
def El.spM (e : El) : Sp := ⟨e.p, e.o, e.f, e.m⟩
theorem rise_spM {a b : El} : Rise a b ↔ sM a.spM b.spM := Iff.rfl
theorem sM_scmp (a b : Sp) : sM a b ↔ scmp a.p a.o a.f a.m b.p b.o b.f b.m < 0 := (scmp_neg (p := a.p) (o := a.o) (f := a.f) (m := a.m) (p' := b.p) (o' := b.o) (f' := b.f) (m' := b.m)).symm
open Go.RowKit
theorem ret_u16 {a b : Int} (h : a = b) : Ending.returned (.int .u16 a) = .returned (.int .u16 b) := by rw [h]
set_option maxHeartbeats 1000000 in
theorem shift_any (r : BitVec 16) (w : World) : Calls Try.prog 87 #[.int .u16 (r.toNat : Int)] w fun e w' => e = .returned (.int .u16 ((shB r).toNat : Int)) ∧ w = w' := by
 have hr := r.isLt
 by_cases h : 32768 ≤ r.toNat
 ·have H := Lib.hid (shB_top r h)
  generalize (shB r).toNat = z at H ⊢
  generalize r.toNat = n at *
  have b1 : ((n : Int) / 32768 == 1) = true := by rw [beq_iff_eq]; omega
  go_enter Try.func87, Try.ntmps87
  go_wp2
  go_ret
  refine ⟨ret_u16 ?_, rfl⟩
  rw [H.out, IntKind.wrap_u16, ← Go.u16_xor_nat _ _ (Nat.mod_lt _ (by decide)) (by decide)]
  congr 1
 ·have H := Lib.hid (shB_low r (by omega))
  generalize (shB r).toNat = z at H ⊢
  generalize r.toNat = n at *
  have b1 : ((n : Int) / 32768 == 1) = false := by rw [beq_eq_false_iff_ne]; omega
  go_enter Try.func87, Try.ntmps87
  go_wp2
  go_ret
  refine ⟨ret_u16 ?_, rfl⟩
  rw [H.out]
  omega
theorem shN_succ (n : Nat) (a : BitVec 16) : shN (n + 1) a = shB (shN n a) := (shB_shN n a).symm
theorem take_snoc (s : ByteArray) (k : Nat) (h : k < s.size) : s.data.toList.take (k + 1) = s.data.toList.take k ++ [s[k]] := by
 rw [List.take_succ_eq_append_getElem (by simpa using h)]; rfl
theorem byte_in (r : BitVec 16) (c : UInt8) : bits .xor .u16 (r.toNat : Int) ((c.toNat : Int) * 256) = ((r ^^^ (BitVec.ofNat 16 c.toNat <<< 8)).toNat : Int) := by
 have hc := c.toNat_lt
 have hr := r.isLt
 rw [stp_in, ← Go.u16_xor_nat _ _ hr (by omega)]
 congr 1
set_option maxHeartbeats 1000000 in
theorem sumOf_any (s : ByteArray) (w : World) (hs : s.size ≤ maxLen) : Calls Try.prog 77 #[.string s] w fun e w' => e = .returned (.int .i64 ((crc s.data.toList).toNat : Int)) ∧ w = w' := by
 unfold maxLen at hs
 go_enter Try.func77, Try.ntmps77
 go_wp2
 go_loop [3, 7] (fun r i => ∃ k : Nat, k ≤ s.size ∧ i = .int .i64 k ∧ r = .int .u16 ((crc (s.data.toList.take k)).toNat)) (fun _ i => s.size - (intOf i).toNat)
 case atStart => exact ⟨0, Nat.zero_le _, rfl, rfl⟩
 case round =>
  obtain ⟨k, hk, rfl, rfl⟩ := hrel
  have hr := (crc (s.data.toList.take k)).isLt
  by_cases hlt : k < s.size
  ·have hts := Lib.hid (take_snoc s k hlt)
   have hc := s[k].toNat_lt
   go_wp2
   go_loop [3, 17] (fun r i => ∃ j : Nat, j ≤ 8 ∧ i = .int .i64 j ∧ r = .int .u16 ((shN j (crc (s.data.toList.take k) ^^^ (BitVec.ofNat 16 s[k].toNat <<< 8))).toNat)) (fun _ i => 8 - (intOf i).toNat)
   case atStart => exact ⟨0, Nat.zero_le _, rfl, by rw [byte_in]; rfl⟩
   case round =>
    obtain ⟨j, hj, rfl, rfl⟩ := hrel
    have hr2 := (shN j (crc (s.data.toList.take k) ^^^ (BitVec.ofNat 16 s[k].toNat <<< 8))).isLt
    have hsu := Lib.hid (shN_succ j (crc (s.data.toList.take k) ^^^ (BitVec.ofNat 16 s[k].toNat <<< 8)))
    by_cases hj8 : j < 8
    ·go_wp2_with (go_at_call 87; refine (shift_any _ _).mono ?_; rintro e w1 ⟨rfl, rfl⟩)
     go_round
     case rel => exact ⟨j + 1, by omega, by go_num, by rw [hsu.out]⟩
     case measure => simp [intOf]; omega
    ·obtain rfl : 8 = j := by omega
     go_wp2
     go_round
     case rel => exact ⟨k + 1, by omega, by go_num, by rw [hts.out, crc_snoc]; rfl⟩
     case measure => simp [intOf]; omega
  ·go_wp2
   go_ret
   exact ⟨ret_int (by rw [List.take_of_length_le (by simp; omega)]), rfl⟩
open Go.ChangeShapes Go.WideShapes Go.ChangeAt Go.RowKit
theorem sumOf_at (s : ByteArray) (n : Int) (w : World) (hs : s.size ≤ maxLen) (h : ((crc s.data.toList).toNat : Int) = n) : Calls Try.prog 77 #[.string s] w fun e w' => e = .returned (.int .i64 n) ∧ w = w' :=
 h ▸ sumOf_any s w hs
open Go.ChangeShapes Go.WideShapes Go.ChangeAt Go.RowKit
theorem extract_take (s : ByteArray) (k : Nat) : (s.extract 0 k).data.toList = s.data.toList.take k := by
 simp [ByteArray.data_extract]
open Go.RowKit
def frS (k : Int) (s : ByteArray) : ByteArray := if frErr k s.size = 0 then ⟨(encF k.toNat s.data.toList).toArray⟩ else { data := #[] }
def FPutEnd (k : Int) (s : ByteArray) (w : World) (e : Ending) (w' : World) : Prop := e = .returned (.tuple #[.string (frS k s), .int .i64 (frErr k s.size)]) ∧ Calm w w'
theorem row2 {w : World} {g t : Nat} {a b : Value} {fr : Nat × Nat} (h : w.heap[g]? = some (.cells #[a, b] t fr)) : w.cell? ⟨g, 0, none⟩ = some a ∧ w.cell? ⟨g, 1, none⟩ = some b ∧ g < w.heap.size :=
 ⟨cell_of_row _ _ 0 _ _ _ h, cell_of_row _ _ 1 _ _ _ h, (Array.getElem?_eq_some_iff.1 h).1⟩
theorem heap_new3 (w : World) (o o' o'' : Obj) : (((w.alloc o).alloc o').alloc o'').heap[w.heap.size + 1 + 1]? = some o'' := by simpa using heap_new ((w.alloc o).alloc o') o''
theorem bytes_size (l : List UInt8) : (⟨l.toArray⟩ : ByteArray).size = l.length := by show l.toArray.size = _; simp
theorem bytes_list (l : List UInt8) : (⟨l.toArray⟩ : ByteArray).data.toList = l := by simp
set_option maxHeartbeats 8000000 in
theorem framePut_any (k : Int) (s : ByteArray) (w : World) : Calls Try.prog 74 #[.agg #[.int .i64 k, .string s]] w (FPutEnd k s w) := by
 have hx := heap_new w (.cells #[.int .i64 k, .string s] 73)
 have hu := (Calm.refl w).alloc (.cells #[.int .i64 k, .string s] 73)
 by_cases h1 : k < 1 ∨ 255 < k
 ·have e1 : frErr k s.size = 1 := if_pos h1
  have e2 : FPutEnd k s w = fun e w' => e = .returned (.tuple #[.string { data := #[] }, .int .i64 1]) ∧ Calm w w' := by
   funext e w'; simp [FPutEnd, frS, e1]
  rw [e2]
  clear e1 e2
  rcases h1 with h1 | h1
  ·obtain ⟨x0, x1, hxs⟩ := row2 hx
   go_enter Try.func74, Try.ntmps74
   go_wp2
   go_ret2
   exact ⟨rfl, hu⟩
  ·obtain ⟨x0, x1, hxs⟩ := row2 hx
   have h1' : (1 : Int) ≤ k := by omega
   go_enter Try.func74, Try.ntmps74
   go_wp2
   go_ret2
   exact ⟨rfl, hu⟩
 have h1' : (1 : Int) ≤ k := by omega
 have h2' : k ≤ (255 : Int) := by omega
 by_cases h3 : 3000 < s.size
 ·have e1 : frErr k s.size = 2 := by unfold frErr; rw [if_neg h1, if_pos h3]
  have e2 : FPutEnd k s w = fun e w' => e = .returned (.tuple #[.string { data := #[] }, .int .i64 2]) ∧ Calm w w' := by
   funext e w'; simp [FPutEnd, frS, e1]
  rw [e2]
  clear e1 e2 h1
  have h3' : (3000 : Int) < s.size := by omega
  obtain ⟨x0, x1, hxs⟩ := row2 hx
  go_enter Try.func74, Try.ntmps74
  go_wp2
  go_ret2
  exact ⟨rfl, hu⟩
 have h3' : (s.size : Int) ≤ 3000 := by omega
 have h3n : s.size ≤ 3000 := by omega
 have e1 : frErr k s.size = 0 := by unfold frErr; rw [if_neg h1, if_neg h3]
 have hW : Hid (frS k s = ⟨(encF k.toNat s.data.toList).toArray⟩) := by show _ = _; unfold frS; exact if_pos e1
 have G : FPutEnd k s w = fun e w' => e = .returned (.tuple #[.string (frS k s), .int .i64 0]) ∧ Calm w w' := by
  funext e w'; simp [FPutEnd, e1]
 rw [G]
 generalize frS k s = W at hW ⊢
 clear G e1 h1 h3
 obtain ⟨K, rfl⟩ : ∃ n : Nat, k = (n : Int) := ⟨k.toNat, by omega⟩
 have i8 : IntKind.u8.wrap (K : Int) = (K : Int) := IntWalk.u8_in _ (by omega)
 have hmk := fun u => makeRoom u ((3 : Int) + (s.size : Int) + 2) (5 + s.size) (by omega) (by omega)
 have hsl : s.data.toList.length = s.size := by simp
 have hx0 := hx
 obtain ⟨x0, x1, hxs⟩ := row2 hx
 have cS := fun u => sumOf_any ⟨(frHead K s.data.toList).toArray⟩ u (by rw [bytes_size, frHead_length]; simp only [maxLen]; omega)
 rw [bytes_list] at cS
 have hC := (crc (frHead K s.data.toList)).isLt
 have hE : Hid (W = ⟨(frHead K s.data.toList ++ be 2 (crc (frHead K s.data.toList)).toNat).toArray⟩) := by show _ = _; rw [hW.out]; rfl
 have hH : Hid ([] ++ [UInt8.ofNat (K : Int).toNat] ++ be 2 s.size ++ s.data.toList = frHead K s.data.toList) := by show _ = _; rw [frHead, be1 K (by omega), hsl]; simp
 have hHl := frHead_length K s.data.toList
 generalize (crc (frHead K s.data.toList)).toNat = C at cS hC hE
 generalize frHead K s.data.toList = H at cS hE hH hHl
 clear hW
 have hv := (Calm.refl (w.alloc (.cells #[.int .i64 (K : Int), .string s] 73))).alloc (.cells (bv (List.replicate (5 + s.size) 0)).toArray 5)
 have ho0 := (OwnB.made (w.heap.size + 1) (w.alloc (.cells #[.int .i64 (K : Int), .string s] 73)) (5 + s.size) (by simp) (by omega))
 simp only [World.size_alloc] at ho0
 have ho := Lib.hid ho0
 clear ho0
 go_enter Try.func74, Try.ntmps74
 go_wp2_with (first
  |(at_builtin; refine wpList_append_st rfl _ _ rfl (w.heap.size + 1) _ _ rfl ho.out _ rfl ?_ ?_ ?_; (· simp [be_length]; omega); (· omega); intro v' w9 ho9 hc9; replace hv := hc9 (w.alloc (.cells #[.int .i64 (K : Int), .string s] 73)) (by simp) hv; replace hx := (hv.block (by simp)).trans hx0; have hvs := hv.size; simp only [World.size_alloc] at hvs; rw [hH.out] at ho9; replace ho := Lib.hid ho9; clear ho9 hc9; have hcv := ho.out.str (by rw [hHl]; omega); obtain ⟨x0, x1, hxs⟩ := row2 hx)
  |(go_at_call 75; refine (appendNum2_any (w.heap.size + 1) _ _ _ _ ?_ ho.out ?_ ?_).mono ?_; (· omega); (· first | (rw [hHl]; omega) | simp); (· omega); rintro e w9 ⟨v', rfl, ho9, hc9⟩; replace hv := hc9 (w.alloc (.cells #[.int .i64 (K : Int), .string s] 73)) (by simp) hv; replace hx := (hv.block (by simp)).trans hx0; have hvs := hv.size; simp only [World.size_alloc] at hvs; replace ho := Lib.hid ho9; clear ho9 hc9; have hcv := ho.out.str (by rw [List.length_append, be_length]; omega); obtain ⟨x0, x1, hxs⟩ := row2 hx)
  |(at_builtin; go_must (refine wpList_append_b1 rfl _ _ rfl (w.heap.size + 1) _ _ rfl (ho.out.calm ((Calm.refl _).alloc _)) _ _ _ _ rfl (heap_new3 _ _ _ _) ?_ ?_ ?_ ?_); (· omega); (· simp only [List.length_nil]; omega); (· simp only [World.size_alloc]; omega); intro v' w9 ho9 hc9; replace hv := hc9 (w.alloc (.cells #[.int .i64 (K : Int), .string s] 73)) (by simp) (hv.alloc _); replace hx := (hv.block (by simp)).trans hx0; have hvs := hv.size; simp only [World.size_alloc] at hvs; replace ho := Lib.hid ho9; clear ho9 hc9; obtain ⟨x0, x1, hxs⟩ := row2 hx)
  |(go_at_call 77; refine (cS _).mono ?_; rintro e w1 ⟨rfl, rfl⟩))
 have hu9 := ((Calm.refl w).alloc (.cells #[.int .i64 (K : Int), .string s] 73)).call hv
 go_ret2
 exact ⟨by rw [hE.out]; rfl, hu9⟩
open Go.RowKit
theorem span1 {p f t : Int} (h : p < 0 ∨ 15 < p) : 1 = spanErr p f t := by unfold spanErr; rw [if_neg (by omega)]
theorem span9 {p f t : Int} (h : 0 ≤ p) (h2 : p ≤ 15) (h3 : f < 0 ∨ t < f ∨ 2147483647 < t) : 9 = spanErr p f t := by unfold spanErr; rw [if_pos ⟨h, h2⟩, if_neg (by omega)]
theorem span0 {p f t : Int} (h : 0 ≤ p) (h2 : p ≤ 15) (h3 : 0 ≤ f) (h4 : f ≤ t) (h5 : t ≤ 2147483647) : 0 = spanErr p f t := (spanErr_zero.2 ⟨h, h2, h3, h4, h5⟩).symm
set_option maxHeartbeats 1000000 in
theorem batCheck_any (p f t : Int) (w : World) : Calls Try.prog 25 #[.int .i64 p, .int .i64 f, .int .i64 t] w fun e w' => e = .returned (.int .i64 (spanErr p f t)) ∧ Calm w w' := by
 go_enter Try.func25, Try.ntmps25
 go_wp2
 all_goals
  go_ret
  exact ⟨ret_int (by first | exact span1 (by omega) | exact span9 (by omega) (by omega) (by omega) | exact span0 (by omega) (by omega) (by omega) (by omega) (by omega)), by repeat (first | (with_reducible exact Calm.refl _) | (with_reducible refine Calm.alloc ?_ _) | (with_reducible refine Calm.drew ?_) | (with_reducible refine Calm.drewN ?_ _) | (refine Calm.call ?_ (by with_reducible assumption)))⟩
set_option maxHeartbeats 4000000 in
theorem batEncode_any (n : Nat) (w : World) (hn : n < 4294967296) : Calls Try.prog 55 #[.int .i64 (n : Int)] w fun e w' => e = .returned (.string ⟨(be 4 n).toArray⟩) ∧ Calm w w' := by
 have cN := appendNum4_any w.heap.size (.slice none 0 0) [] n w hn (OwnB.nil _ _) (by simp) (Nat.le_refl _)
 have hl : 0 < (be 4 n).length := by rw [be_length]; omega
 simp only [List.nil_append] at cN
 generalize be 4 n = B at cN hl ⊢
 clear hn
 go_enter Try.func55, Try.ntmps55
 go_wp2_with (go_at_call 75; refine cN.mono ?_; rintro e w1 ⟨v', rfl, ho, hc⟩; have hcv := ho.str hl; have hu := hc w (Nat.le_refl _) (Calm.refl _); clear hc ho)
 go_ret
 exact ⟨rfl, hu⟩
/-- A frame of a kind and a body that are right. -/
theorem framePut_good (k : Nat) (b : List UInt8) (hk : 1 ≤ k) (hk2 : k ≤ 255) (hb : b.length ≤ 3000) (K : Int) (hK : (k : Int) = K) (w : World) : Calls Try.prog 74 #[.agg #[.int .i64 K, .string ⟨b.toArray⟩]] w fun e w' => e = .returned (.tuple #[.string ⟨(encF k b).toArray⟩, .int .i64 0]) ∧ Calm w w' := by
 subst hK
 refine (framePut_any (k : Int) ⟨b.toArray⟩ w).mono fun e w' ⟨h1, h2⟩ => ⟨?_, h2⟩
 have e0 : frErr (k : Int) (⟨b.toArray⟩ : ByteArray).size = 0 := by rw [bytes_size]; unfold frErr; rw [if_neg (by omega), if_neg (by omega)]
 rw [h1, e0, frS, e0, if_pos rfl]
 simp
set_option maxHeartbeats 4000000 in
theorem batPut_any (k : Nat) (b : List UInt8) (hk : 1 ≤ k) (hk2 : k ≤ 255) (hb : b.length ≤ 3000) (K : Int) (hK : (k : Int) = K) (w : World) : Calls Try.prog 54 #[.int .i64 K, .string ⟨b.toArray⟩] w fun e w' => e = .returned (.string ⟨(encF k b).toArray⟩) ∧ Calm w w' := by
 have cF := framePut_good k b hk hk2 hb K hK
 generalize (⟨b.toArray⟩ : ByteArray) = B at cF ⊢
 generalize (⟨(encF k b).toArray⟩ : ByteArray) = R at cF ⊢
 clear hK hk hk2 hb
 go_enter Try.func54, Try.ntmps54
 go_wp2_with (go_at_call 74; refine (cF _).mono ?_; rintro e w1 ⟨rfl, hb1⟩)
 go_ret
 exact ⟨rfl, hb1⟩
open Go.RowKit
set_option maxHeartbeats 4000000 in
theorem mrg1_any (p o f m g : Int) (s : ByteArray) (p' o' f' m' : Int) (w : World) :
    Calls Try.prog 66 #[.agg #[.int .i64 p, .int .i64 o, .int .i64 f, .int .i64 m, .int .i64 g, .string s], .agg #[.int .i64 p', .int .i64 o', .int .i64 f', .int .i64 m']] w fun e w' => e = .returned (.int .i64 (scmp p o f m p' o' f' m')) ∧ Calm w w' := by
  have hx := heap_past (.cells #[.int .i64 p', .int .i64 o', .int .i64 f', .int .i64 m'] 63) (heap_new w (.cells #[.int .i64 p, .int .i64 o, .int .i64 f, .int .i64 m, .int .i64 g, .string s] 34))
  have hy := heap_new (w.alloc (.cells #[.int .i64 p, .int .i64 o, .int .i64 f, .int .i64 m, .int .i64 g, .string s] 34)) (.cells #[.int .i64 p', .int .i64 o', .int .i64 f', .int .i64 m'] 63)
  rw [World.size_alloc] at hy
  have hu := ((Calm.refl w).alloc (.cells #[.int .i64 p, .int .i64 o, .int .i64 f, .int .i64 m, .int .i64 g, .string s] 34)).alloc (.cells #[.int .i64 p', .int .i64 o', .int .i64 f', .int .i64 m'] 63)
  obtain ⟨x0, x1, x2, x3, x4, x5, hxs⟩ := row6 hx
  obtain ⟨y0, y1, y2, y3, hys⟩ := row4 hy
  go_enter Try.func66, Try.ntmps66
  go_upto_region 1 with fail
  refine wp_region_plan [.val (.agg #[.int .i64 p, .int .i64 o, .int .i64 f, .int .i64 m, .int .i64 g, .string s]), .val (.agg #[.int .i64 p, .int .i64 o, .int .i64 f, .int .i64 m]), .val (.agg #[.int .i64 p', .int .i64 o', .int .i64 f', .int .i64 m']), .val (.int .i64 (scmp p o f m p' o' f' m')), .val (.int .i64 (scmp p o f m p' o' f' m'))] (by kernel_rfl) (by kernel_rfl) (by kernel_rfl) ?_
  intro X
  iterate 5
    refine plan_val (by kernel_rfl) (fun u hu => ?_) ?_
    · obtain ⟨hc, hf, hz⟩ := hu.of_drew.facts
      go_simp
      all_goals first
        | ((go_at_call 65; exact spot_any _ _ _ _ _ _ _))
        | ((go_at_call 67; exact cmpSpot_any _ _ _ _ _ _ _ _ _))
    simp only [Act.put, List.setIfInBounds_toArray, List.set_cons_zero, List.set_cons_succ, Nat.reduceAdd]
  refine plan_end ?_
  intro w' hB
  have hk := hB.calm.of_drew
  clear hB
  go_wp2_with fail
  go_ret
  exact ⟨rfl, hu.call hk⟩
def posM (l : List El) (s : Sp) : Nat := l.countP fun e => decide (sM e.spM s)
def posMB (l : List El) (s : Sp) : Bool := match l[posM l s]? with | some e => scmp e.p e.o e.f e.m s.p s.o s.f s.m == 0 | none => false
theorem posM_part {l : List El} {s : Sp} {c : Nat} (hc : c ≤ l.length) (h1 : ∀ i (h : i < l.length), i < c → sM l[i].spM s) (h2 : ∀ i (h : i < l.length), c ≤ i → ¬ sM l[i].spM s) : posM l s = c := by
 unfold posM
 rw [← List.take_append_drop c l, List.countP_append]
 have a : (l.take c).countP (fun e => decide (sM e.spM s)) = c := by
  rw [List.countP_eq_length.2 fun e he => by
   obtain ⟨i, hi, rfl⟩ := List.getElem_of_mem he
   rw [List.length_take] at hi
   rw [List.getElem_take]
   exact decide_eq_true (h1 i (by omega) (by omega)), List.length_take]
  omega
 have b : (l.drop c).countP (fun e => decide (sM e.spM s)) = 0 := by
  rw [List.countP_eq_zero.2 fun e he => by
   obtain ⟨i, hi, rfl⟩ := List.getElem_of_mem he
   rw [List.length_drop] at hi
   rw [List.getElem_drop]
   simpa using h2 (c + i) (by omega) (by omega)]
 omega
set_option maxHeartbeats 8000000 in
theorem bsearchM_any (A : Option Addr) (c : Nat) (l : List El) (p o f m : Int) (w : World) (hn : l.length ≤ 400) (hL : Lies w A l) (hS : l.Pairwise Rise) :
    Calls Try.prog 64 #[.slice A l.length c, .agg #[.int .i64 p, .int .i64 o, .int .i64 f, .int .i64 m], .func (.func 66) #[] #[]] w fun e w' => e = .returned (.tuple #[.int .i64 (posM l ⟨p, o, f, m⟩ : Nat), .bool (posMB l ⟨p, o, f, m⟩)]) ∧ Calm w w' := by
  have hx := heap_new w (.cells #[.int .i64 p, .int .i64 o, .int .i64 f, .int .i64 m] 63)
  have hu := (Calm.refl w).alloc (.cells #[.int .i64 p, .int .i64 o, .int .i64 f, .int .i64 m] 63)
  have M : Hid (∀ i j (hi : i < l.length) (hj : j < l.length), i ≤ j → sM l[j].spM ⟨p, o, f, m⟩ → sM l[i].spM ⟨p, o, f, m⟩) := show ∀ _ _ _ _, _ from fun i j hi hj hij h => by
    rcases Nat.lt_or_eq_of_le hij with h1 | h1
    · exact sLt_trans (rise_spM.1 (List.pairwise_iff_getElem.1 hS i j hi hj h1)) h
    · subst h1; exact h
  have HL := Lib.hid hL
  clear hL hS
  go_enter Try.func64, Try.ntmps64
  go_wp2_with fail
  go_loopg [9, 10] l.length (fun kx s9 s10 wr => ∃ lo hi : Nat, s9 = .int .i64 lo ∧ s10 = .int .i64 hi ∧ lo ≤ hi ∧ hi ≤ l.length ∧ hi - lo ≤ kx ∧ Calm (w.alloc (.cells #[.int .i64 p, .int .i64 o, .int .i64 f, .int .i64 m] 63)) wr ∧
    Hid ((∀ t (h : t < l.length), t < lo → sM l[t].spM ⟨p, o, f, m⟩) ∧ (∀ t (h : t < l.length), hi ≤ t → ¬ sM l[t].spM ⟨p, o, f, m⟩)))
  case atStart => exact ⟨0, l.length, rfl, rfl, Nat.zero_le _, Nat.le_refl _, by omega, Calm.refl _, show _ ∧ _ from ⟨fun t h ht => absurd ht (Nat.not_lt_zero _), fun t h1 h2 => by omega⟩⟩
  case round =>
    obtain ⟨lo, hi, rfl, rfl, hlh, hin, hg, hv, I⟩ := hrel
    have hxr := (hv.block (by simp)).trans hx
    obtain ⟨x0, x1, x2, x3, hxs⟩ := row4 hxr
    have HLr := Lib.hid (HL.out.calm (hu.call hv))
    by_cases hlt : lo < hi
    · obtain ⟨mid, hmd⟩ : ∃ mid, (lo + hi) / 2 = mid := ⟨_, rfl⟩
      have hmid : mid < l.length := by omega
      have hmi : ((lo : Int) + (hi : Int)) / 2 = (mid : Int) := by omega
      obtain ⟨b, q, p', o', f', m', g', s', hAb, hb, HE, hme, e0, e1, e2, e3, e4, e5⟩ := HLr.out.get hmid
      subst hAb
      obtain ⟨C, hC⟩ : ∃ C, scmp p' o' f' m' p o f m = C := ⟨_, rfl⟩
      have hCs : Hid (sM (l[mid]).spM ⟨p, o, f, m⟩ ↔ C < 0) := show _ ↔ _ by
        rw [(List.getElem?_eq_some_iff.1 HE.out).2, ← hC]; exact sM_scmp _ _
      have cC := fun u => mrg1_any p' o' f' m' g' s' p o f m u
      rw [hC] at cC
      have HMD := Lib.hid hmd
      clear hC hmd
      by_cases hC0 : C < 0
      · have I2 : Hid ((∀ t (h : t < l.length), t < mid + 1 → sM l[t].spM ⟨p, o, f, m⟩) ∧ (∀ t (h : t < l.length), hi ≤ t → ¬ sM l[t].spM ⟨p, o, f, m⟩)) := show _ ∧ _ from
          ⟨fun t h ht => M.out t mid h hmid (by omega) (hCs.out.2 hC0), I.out.2⟩
        go_upto_region 5 with fail
        refine wp_region_plan [.val (.func (.func 66) #[] #[]), .val (.slice (some ⟨b, q, none⟩) l.length c), .val (.int .i64 ((mid : Int))), .val (.pointer (some ⟨b, q+mid*6, none⟩)), .val (.agg #[.int .i64 p', .int .i64 o', .int .i64 f', .int .i64 m', .int .i64 g', .string s']), .val (.agg #[.int .i64 p, .int .i64 o, .int .i64 f, .int .i64 m]), .val (.int .i64 (C)), .val (.bool true)] (by kernel_rfl) (by kernel_rfl) (by kernel_rfl) ?_
        intro X
        iterate 8
          refine plan_val (by kernel_rfl) (fun u hu => ?_) ?_
          · obtain ⟨hc, hf, hz⟩ := hu.of_drew.facts
            go_simp
            all_goals first
              | ((go_at_call 66; exact cC _))
          simp only [Act.put, List.setIfInBounds_toArray, List.set_cons_zero, List.set_cons_succ, Nat.reduceAdd]
        refine plan_end ?_
        intro w' hB
        have hk := hB.calm.of_drew
        clear hB
        go_wp2_with fail
        go_roundg (hi - (mid + 1))
        case measure => have := HMD.out; omega
        case rel => exact ⟨mid + 1, hi, by first | rfl | go_num | (congr 1; omega), rfl, by have := HMD.out; omega, hin, Nat.le_refl _, hv.call hk, I2⟩
      · have I2 : Hid ((∀ t (h : t < l.length), t < lo → sM l[t].spM ⟨p, o, f, m⟩) ∧ (∀ t (h : t < l.length), mid ≤ t → ¬ sM l[t].spM ⟨p, o, f, m⟩)) := show _ ∧ _ from
          ⟨I.out.1, fun t h ht h2 => hC0 (hCs.out.1 (M.out mid t hmid h ht h2))⟩
        go_upto_region 5 with fail
        refine wp_region_plan [.val (.func (.func 66) #[] #[]), .val (.slice (some ⟨b, q, none⟩) l.length c), .val (.int .i64 ((mid : Int))), .val (.pointer (some ⟨b, q+mid*6, none⟩)), .val (.agg #[.int .i64 p', .int .i64 o', .int .i64 f', .int .i64 m', .int .i64 g', .string s']), .val (.agg #[.int .i64 p, .int .i64 o, .int .i64 f, .int .i64 m]), .val (.int .i64 (C)), .val (.bool false)] (by kernel_rfl) (by kernel_rfl) (by kernel_rfl) ?_
        intro X
        iterate 8
          refine plan_val (by kernel_rfl) (fun u hu => ?_) ?_
          · obtain ⟨hc, hf, hz⟩ := hu.of_drew.facts
            go_simp
            all_goals first
              | ((go_at_call 66; exact cC _))
          simp only [Act.put, List.setIfInBounds_toArray, List.set_cons_zero, List.set_cons_succ, Nat.reduceAdd]
        refine plan_end ?_
        intro w' hB
        have hk := hB.calm.of_drew
        clear hB
        go_wp2_with fail
        go_roundg (mid - lo)
        case measure => have := HMD.out; omega
        case rel => exact ⟨lo, mid, rfl, by first | rfl | go_num | (congr 1; omega), by have := HMD.out; omega, by omega, Nat.le_refl _, hv.call hk, I2⟩
    · obtain rfl : hi = lo := by omega
      have K1 : Hid (posM l ⟨p, o, f, m⟩ = hi) := posM_part hin (fun i h hi' => I.out.1 i h hi') (fun i h hi' => I.out.2 i h hi')
      by_cases hle : hi < l.length
      · have hli : (hi : Int) < (l.length : Int) := by omega
        obtain ⟨b, q, p', o', f', m', g', s', hAb, hb, HE, hme, e0, e1, e2, e3, e4, e5⟩ := HLr.out.get hle
        subst hAb
        have cC := fun u => mrg1_any p' o' f' m' g' s' p o f m u
        have hB : Hid (posMB l ⟨p, o, f, m⟩ = (scmp p' o' f' m' p o f m == 0)) := show _ = _ by unfold posMB; rw [K1.out, HE.out]
        generalize scmp p' o' f' m' p o f m = C at cC hB
        obtain ⟨r, hr⟩ : ∃ r, (C == 0) = r := ⟨_, rfl⟩
        have HB : Hid (posMB l ⟨p, o, f, m⟩ = r) := show _ = _ from hB.out.trans hr
        go_upto_region 8 with fail
        refine wp_region_plan [.val (.int .i64 ((hi : Int))), .val (.int .i64 ((hi : Int))), .val (.int .i64 ((l.length : Int))), .val (.bool true), .val (.bool true), .val (.func (.func 66) #[] #[]), .val (.slice (some ⟨b, q, none⟩) l.length c), .val (.int .i64 ((hi : Int))), .val (.pointer (some ⟨b, q+hi*6, none⟩)), .val (.agg #[.int .i64 p', .int .i64 o', .int .i64 f', .int .i64 m', .int .i64 g', .string s']), .val (.agg #[.int .i64 p, .int .i64 o, .int .i64 f, .int .i64 m]), .val (.int .i64 (C)), .val (.bool r), .val (.bool r), .val (.int .i64 ((hi : Int))), .val (.bool r)] (by kernel_rfl) (by kernel_rfl) (by kernel_rfl) ?_
        intro X
        iterate 16
          refine plan_val (by kernel_rfl) (fun u hu => ?_) ?_
          · obtain ⟨hc, hf, hz⟩ := hu.of_drew.facts
            go_simp
            all_goals first
              | ((go_at_call 66; exact cC _))
          simp only [Act.put, List.setIfInBounds_toArray, List.set_cons_zero, List.set_cons_succ, Nat.reduceAdd]
        refine plan_end ?_
        intro w' hB
        have hk := hB.calm.of_drew
        clear hB
        go_wp2_with fail
        go_ret2
        exact ⟨by rw [K1.out, HB.out]; rfl, (hu.call hv).call hk⟩
      · have hli : ¬ (hi : Int) < (l.length : Int) := by omega
        go_upto_region 8 with fail
        refine wp_region_plan [.val (.int .i64 ((hi : Int))), .val (.int .i64 ((hi : Int))), .val (.int .i64 ((l.length : Int))), .val (.bool false), .val (.bool false), .idle, .idle, .idle, .idle, .idle, .idle, .idle, .idle, .val (.bool false), .val (.int .i64 ((hi : Int))), .val (.bool false)] (by kernel_rfl) (by kernel_rfl) (by kernel_rfl) ?_
        intro X
        iterate 5
          refine plan_val (by kernel_rfl) (fun u hu => ?_) ?_
          · obtain ⟨hc, hf, hz⟩ := hu.of_drew.facts
            go_simp
          simp only [Act.put, List.setIfInBounds_toArray, List.set_cons_zero, List.set_cons_succ, Nat.reduceAdd]
        iterate 8
          refine plan_idle (by kernel_rfl) ?_
          simp only [Act.put, List.setIfInBounds_toArray, List.set_cons_zero, List.set_cons_succ, Nat.reduceAdd]
        iterate 3
          refine plan_val (by kernel_rfl) (fun u hu => ?_) ?_
          · obtain ⟨hc, hf, hz⟩ := hu.of_drew.facts
            go_simp
          simp only [Act.put, List.setIfInBounds_toArray, List.set_cons_zero, List.set_cons_succ, Nat.reduceAdd]
        refine plan_end ?_
        intro w' hB
        have hk := hB.calm.of_drew
        clear hB
        go_wp2_with fail
        go_ret2
        have HB : posMB l ⟨p, o, f, m⟩ = false := by unfold posMB; rw [K1.out, List.getElem?_eq_none (by omega)]
        exact ⟨by rw [K1.out, HB]; rfl, (hu.call hv).call hk⟩
open Go.RowKit
def OwEnd (l : List El) (n : Int) (w : World) (e : Ending) (w' : World) : Prop := ∃ v, e = .returned (.tuple #[v, .int .i64 n]) ∧ OwnR w.heap.size w' v l ∧ Calm w w'
def Ow1End (l : List El) (w : World) (e : Ending) (w' : World) : Prop := ∃ v, e = .returned v ∧ OwnR w.heap.size w' v l ∧ Calm w w'
theorem OwnR.less {base base' : Nat} {w : World} {v : Value} {l : List El} (h : OwnR base w v l) (hb : base' ≤ base) : OwnR base' w v l := ⟨h.1, h.2.imp id fun ⟨g, cap, cur, h1, h2, h3⟩ => ⟨g, cap, cur, h1, Nat.le_trans hb h2, h3⟩⟩
theorem upto_no {l : List El} {k : Nat} {e : El} (h : l[k]? = some e) {p t : Int} (hn : e.p ≠ p ∨ t < e.m) : uptoL (l.take (k + 1)) p t = uptoL (l.take k) p t := by
 have h1 : ¬ inU p t e = true := by unfold inU; rw [decide_eq_true_eq]; omega
 rw [upto_take h, if_neg h1, List.append_nil]
theorem upto_cut {l : List El} {k : Nat} {p o f m g : Int} {s : ByteArray} (h : l[k]? = some ⟨p, o, f, m, g, s⟩) {t : Int} (hm : m ≤ t) (hg : t < g) : uptoL (l.take (k + 1)) p t = uptoL (l.take k) p t ++ [⟨p, o, f, m, 0, s⟩] := by
 have h1 : inU p t ⟨p, o, f, m, g, s⟩ = true := by unfold inU; rw [decide_eq_true_eq]; exact ⟨rfl, hm⟩
 rw [upto_take h, if_pos h1]
 congr 2
 exact if_pos hg
theorem upto_all {l : List El} {k : Nat} {p o f m g : Int} {s : ByteArray} (h : l[k]? = some ⟨p, o, f, m, g, s⟩) {t : Int} (hm : m ≤ t) (hg : g ≤ t) : uptoL (l.take (k + 1)) p t = uptoL (l.take k) p t ++ [⟨p, o, f, m, g, s⟩] := by
 have h1 : inU p t ⟨p, o, f, m, g, s⟩ = true := by unfold inU; rw [decide_eq_true_eq]; exact ⟨rfl, hm⟩
 rw [upto_take h, if_pos h1]
 congr 2
 exact if_neg (by show ¬ t < g; omega)
set_option maxHeartbeats 8000000 in
theorem strUpto_good (A : Option Addr) (d : Nat) (l : List El) (p' t : Int) (w : World) (hG : Good l) (hL : Lies w A l) (hs : spanErr p' 0 t = 0) :
    Calls Try.prog 10 #[.slice A l.length d, .int .i64 p', .int .i64 t] w (OwEnd (uptoL l p' t) 0 w) := by
  have cC : ∀ u, Calm w u → Calls Try.prog 20 #[.slice A l.length d] u fun e w' => e = .returned (.int .i64 0) ∧ Calm u w' := fun u hu => by
    have := runCheck_any A d l u (by have := hG.1; omega) (hL.calm hu)
    rwa [runErr_zero.2 hG] at this
  have cS := fun u => batCheck_any p' 0 t u
  rw [hs] at cS
  have hn4 : l.length ≤ 400 := hG.1
  have hUL : ∀ k, (uptoL (l.take k) p' t).length ≤ 400 := fun k => by
    have h1 := upto_len (l.take k) p' t
    have h2 : (l.take k).length ≤ l.length := List.length_take_le' _ _
    omega
  clear hG hs
  go_enter Try.func10, Try.ntmps10
  go_wp2_with (first
    | (go_at_call 20; refine (cC _ (Calm.refl _)).mono ?_; rintro e w1 ⟨rfl, hb1⟩; have hu := hb1; clear hb1 cC)
    | (go_at_call 25; refine (cS _).mono ?_; rintro e w1 ⟨rfl, hb1⟩; replace hu := hu.call hb1; clear hb1 cS))
  replace hL := hL.calm hu
  obtain ⟨w3, hw3⟩ : ∃ w3 : World, w3 = w1 := ⟨_, rfl⟩
  subst hw3
  go_loopw [10, 26] (fun v i wr => ∃ k : Nat, k ≤ l.length ∧ i = .int .i64 k ∧ Calm w3 wr ∧ Hid (OwnR w3.heap.size wr v (uptoL (l.take k) p' t))) (fun _ i _ => l.length - (intOf i).toNat)
  case atStart => exact ⟨0, Nat.zero_le _, rfl, Calm.refl _, show OwnR _ _ _ _ from OwnR.nil _ _⟩
  case round =>
    obtain ⟨k, hk, rfl, hur, ho⟩ := hrel
    by_cases hlt : k < l.length
    rotate_left
    · have K : Hid (uptoL (l.take k) p' t = uptoL l p' t) := by show _ = _; rw [List.take_of_length_le (by omega)]
      rw [K.out] at ho
      have hw0 := hu.size
      replace hur := hu.call hur
      clear K
      go_wp2_with fail
      go_ret2
      refine ⟨_, rfl, ?_, hur⟩
      exact ho.out.less hw0
    obtain ⟨b, q, p, o, f, m, g, s, rfl, hb, HE, hm, c0, c1, c2, c3, c4, c5⟩ := (hL.calm hur).get hlt
    have hUk := hUL k
    have hws := hur.size
    by_cases hno : p ≠ p' ∨ t < m
    · have hT := upto_no HE.out (p := p') (t := t) hno
      rw [← hT] at ho
      replace hur := hur.alloc (.cells #[.int .i64 p, .int .i64 o, .int .i64 f, .int .i64 m, .int .i64 g, .string s] 34)
      replace ho := Lib.hid (ho.out.calm ((Calm.refl wr).alloc (.cells #[.int .i64 p, .int .i64 o, .int .i64 f, .int .i64 m, .int .i64 g, .string s] 34)))
      clear HE hUL hL hT
      have h2 : p ≠ p' ∨ p = p' ∧ t < m := by omega
      clear hno
      rcases h2 with h2 | ⟨rfl, h2⟩
      all_goals
        go_wp2_with fail
        go_roundw
        case rel => exact ⟨k + 1, by omega, by go_num, hur, ho⟩
        case measure => simp [intOf]; omega
    · obtain ⟨rfl, hmt⟩ : p = p' ∧ m ≤ t := by omega
      clear hno
      by_cases hg : t < g
      · have hT := Lib.hid (upto_cut HE.out hmt hg)
        clear HE hUL hL
        go_wp2_with (at_builtin; refine wpList_append_el rfl _ _ rfl _ _ _ rfl (ho.out.calm (((Calm.refl wr).alloc _).alloc _)) _ _ p o f m 0 s _ rfl (heap_new2 _ _ _) (by omega) (by simp; omega) ?_; intro v' w9 ho9 hc9; have hur9 := hc9 _ (Nat.le_refl _) ((hur.alloc _).alloc _); rw [← hT.out] at ho9)
        have HO := Lib.hid ho9
        clear ho9 hT hc9
        go_roundw
        case rel => exact ⟨k + 1, by omega, by go_num, hur9, HO⟩
        case measure => simp [intOf]; omega
      · have hT := Lib.hid (upto_all HE.out hmt (by omega))
        clear HE hUL hL
        go_wp2_with (at_builtin; refine wpList_append_el rfl _ _ rfl _ _ _ rfl (ho.out.calm (((Calm.refl wr).alloc _).alloc _)) _ _ p o f m g s _ rfl (heap_new2 _ _ _) (by omega) (by simp; omega) ?_; intro v' w9 ho9 hc9; have hur9 := hc9 _ (Nat.le_refl _) ((hur.alloc _).alloc _); rw [← hT.out] at ho9)
        have HO := Lib.hid ho9
        clear ho9 hT hc9
        go_roundw
        case rel => exact ⟨k + 1, by omega, by go_num, hur9, HO⟩
        case measure => simp [intOf]; omega
set_option maxHeartbeats 4000000 in
theorem strUpto_bad (A : Option Addr) (d : Nat) (l : List El) (p' t : Int) (w : World) (hn : l.length ≤ 9223372036854775807) (hL : Lies w A l) (hs : uptoErr l p' t ≠ 0) :
    Calls Try.prog 10 #[.slice A l.length d, .int .i64 p', .int .i64 t] w (OwEnd [] (uptoErr l p' t) w) := by
  have cC := fun u hu => runCheck_any A d l u hn (hL.calm (w' := u) hu)
  have cS := fun u => batCheck_any p' 0 t u
  unfold uptoErr at hs ⊢
  generalize runErr l = E at cC hs ⊢
  generalize spanErr p' 0 t = F at cS hs ⊢
  by_cases he : E = 0
  · rw [if_pos he] at hs ⊢
    subst he
    have b1 : (F != 0) = true := by simpa using hs
    clear hs hL
    go_enter Try.func10, Try.ntmps10
    go_wp2_with (first
      | (go_at_call 20; refine (cC _ (Calm.refl _)).mono ?_; rintro e w1 ⟨rfl, hb1⟩; have hu := hb1; clear hb1 cC)
      | (go_at_call 25; refine (cS _).mono ?_; rintro e w1 ⟨rfl, hb1⟩; replace hu := hu.call hb1; clear hb1 cS))
    go_ret2
    exact ⟨_, rfl, OwnR.nil _ _, hu⟩
  · rw [if_neg he]
    have b1 : (E != 0) = true := by simpa using he
    clear hs hL he
    go_enter Try.func10, Try.ntmps10
    go_wp2_with (go_at_call 20; refine (cC _ (Calm.refl _)).mono ?_; rintro e w1 ⟨rfl, hb1⟩; have hu := hb1; clear hb1 cC)
    go_ret2
    exact ⟨_, rfl, OwnR.nil _ _, hu⟩
def uptoV (l : List El) (p t : Int) : List El := if uptoErr l p t = 0 then uptoL l p t else []
theorem uptoErr_zero {l : List El} {p t : Int} : uptoErr l p t = 0 ↔ Good l ∧ spanErr p 0 t = 0 := by
 unfold uptoErr
 by_cases h : runErr l = 0
 ·rw [if_pos h, ← runErr_zero]; simp [h]
 ·rw [if_neg h, ← runErr_zero]; simp [h]
theorem strUpto_any (A : Option Addr) (d : Nat) (l : List El) (p' t : Int) (w : World) (hn : l.length ≤ 9223372036854775807) (hL : Lies w A l) :
    Calls Try.prog 10 #[.slice A l.length d, .int .i64 p', .int .i64 t] w (OwEnd (uptoV l p' t) (uptoErr l p' t) w) := by
  by_cases h : uptoErr l p' t = 0
  · rw [h, uptoV, if_pos h]
    obtain ⟨h1, h2⟩ := uptoErr_zero.1 h
    exact strUpto_good A d l p' t w h1 hL h2
  · rw [uptoV, if_neg h]
    exact strUpto_bad A d l p' t w hn hL h
open Go.RowKit
theorem lies_front {w : World} {A : Option Addr} {l : List El} (h : Lies w A l) (k : Nat) : Lies w A (l.take k) := ⟨fun e he => h.1 e (List.mem_of_mem_take he), fun hl => by
 have hl2 : 0 < l.length := by rw [List.length_take] at hl; omega
 obtain ⟨b, q, hA, hlt, hk⟩ := h.2 hl2
 refine ⟨b, q, hA, hlt, fun j e he => hk j e ?_⟩
 rw [List.getElem?_take] at he
 split at he
 ·exact he
 ·cases he⟩
theorem lies_back {w : World} {A : Option Addr} {l : List El} (h : Lies w A l) (n : Nat) : Lies w (Option.map (fun a => a.add (n * 6)) A) (l.drop n) := by
 refine ⟨fun e he => h.1 e (List.drop_subset _ _ he), fun hpos => ?_⟩
 rw [List.length_drop] at hpos
 obtain ⟨b, q, rfl, hlt, hk⟩ := h.2 (by omega)
 refine ⟨b, q + n * 6, ?_, hlt, fun k e he => ?_⟩
 ·show some ((⟨b, q, none⟩ : Addr).add (n * 6)) = _
  congr 1
  unfold Addr.add
  split <;> simp_all
 ·rw [List.getElem?_drop] at he
  have := hk (n + k) e he
  rwa [show q + n * 6 + k * 6 = q + (n + k) * 6 from by omega]
theorem lies_none {w : World} {A : Option Addr} : Lies w A [] := ⟨by simp, by simp⟩
/-- append(out, s...), the length of s by a letter, and what it leaves. -/
theorem wpList_append_liesG {ops : Array Oper} {rest : List Oper} {o : Oper} {a : Act} {w : World} {Q : Exit → Act → World → Prop} (hgd : o.guard = none) (s x : Operand)
    (ho : o.op = .call { callee := .builtin .append, args := #[s, x], argTypes := #[22, 22] })
    (base : Nat) (v : Value) (l : List El) (hs : a.eval s = v) (hown : OwnR base w v l) (A : Option Addr) (c n : Nat) (l2 : List El) (hx : a.eval x = .slice A n c) (hn : l2.length = n) (hsrc : Lies w A l2)
    (hl : (l.length + n) * 56 ≤ 140737488355328) (hbase : base ≤ w.heap.size)
    (h : ∀ v' w', OwnR base w' v' (l ++ l2) → (∀ w0 : World, w0.heap.size ≤ base → Calm w0 w → Calm w0 w') → w.heap.size ≤ w'.heap.size → (∀ k, k < w.heap.size → v.ownBlock ≠ Option.some k → w'.heap[k]? = w.heap[k]?) → wpList Try.prog ops Q rest (a.put o.dst v') w') : wpList Try.prog ops Q (o :: rest) a w := by
  subst hn
  obtain ⟨i0, hi, hz0, hz1, hz2⟩ := info_parts infoElem
  have fin : ∀ v' w', w'.ownsRow base 34 6 v' (l.length + l2.length) (cellsOf l ++ cellsOf l2) → w.grownBy w' v.ownBlock → wpList Try.prog ops Q rest (a.put o.dst v') w' := fun v' w' h1 h2 => by
    refine h v' w' ?_ (fun w0 h0 hc => hc.grown h0 hown h2) h2.size (fun k hk hne => h2.block k hk fun e => hne e.symm)
    unfold OwnR
    rw [List.length_append, show cellsOf (l ++ l2) = cellsOf l ++ cellsOf l2 from by simp [cellsOf]]
    exact h1
  rcases A with _ | ad
  · have h0 : l2 = [] := by
      rcases Nat.eq_zero_or_pos l2.length with h | h
      · exact List.eq_nil_of_length_eq_zero h
      · obtain ⟨_, _, h1, _⟩ := hsrc.2 h; cases h1
    subst h0
    refine wpList_plain hgd fun K hK => ?_
    have hrun : (Builtin.append_ #[22, 22] o.type #[v, .slice none 0 c]).run Try.prog w = .ok v w := by
      rcases hown.2 with ⟨rfl, hn⟩ | ⟨g, cap, cur, rfl, _, _, hnc, _⟩
      · simp [Builtin.append_, run_underlying Try.underlying22, sizeOf, typeInfo, hi, Builtin.lenOf, Builtin.firstCells]
      · simp [Builtin.append_, run_underlying Try.underlying22, sizeOf, typeInfo, hi, Builtin.lenOf, Builtin.firstCells, hnc, storeCells]
    have hx' : a.eval x = .slice none 0 c := hx
    unfold Oper.wp execOp
    simp only [ho, resolve, invoke, builtin, Sem.run_bind, Sem.run_pure, Result.andThen_ok, List.map_toArray, List.map_cons, List.map_nil, hs, hx', hrun]
    exact hK _ _ (h v w (by simpa using hown) (fun _ _ h => h) (Nat.le_refl _) fun _ _ _ => rfl)
  · refine wpList_append_own w hgd s x _ ho base 34 i0 _ 6 56 Try.underlying22 hi hz0 hz1 hz2 rfl (by decide) v _ _ hs hown ad l2.length c (cellsOf l2) hx (cellsOf_len l2) (fun j u hj => ?_) (cellsOf_one l2) (by unfold maxLen; omega) (by omega) hbase fun v' w' h1 h2 _ => fin v' w' h1 h2
    have hj2 : j < l2.length * 6 := by rw [← cellsOf_len]; exact (List.getElem?_eq_some_iff.1 hj).1
    obtain ⟨b, q, hA, _, _⟩ := hsrc.2 (by omega)
    injection hA with hA
    subst hA
    have e : (⟨b, q, none⟩ : Addr).add j = ⟨b, q + j, none⟩ := by unfold Addr.add; split <;> simp_all
    rw [e]
    exact hsrc.cells j u hj
/-- make([]api.Elem, 0, k). -/
theorem makeM0 (k : Nat) (hk : k ≤ 2600000000000) : ∃ Z : Array Value, Z.size = k * 6 ∧ ∀ w : World, (Instr.makeSlice 22 (.int .i64 0) (.int .i64 (k : Int))).run Try.prog w =
    .ok (.slice (some ⟨w.heap.size, 0, none⟩) 0 k) (w.alloc (.cells Z 34)) := by
  obtain ⟨i, z, hi, hz, h1, h2⟩ : ∃ i z, Try.prog.info? 34 = some i ∧ i.zero = some z ∧ i.size = 6 ∧ i.bytes = 56 := by
    have h : (Try.prog.info? 34).map (fun i => (i.zero.isSome, i.size, i.bytes)) = some (true, 6, 56) := by kernel_rfl
    match hi : Try.prog.info? 34, h with
    | some i, h =>
      simp only [Option.map_some, Option.some.injEq, Prod.mk.injEq] at h
      obtain ⟨z, hz⟩ := Option.isSome_iff_exists.1 h.1
      exact ⟨i, z, rfl, hz, h.2.1, h.2.2⟩
  refine ⟨madeCells z.cells (((k : Int)).toNat * 6), by simp [madeCells], fun w => ?_⟩
  rw [run_make w 22 34 i _ Try.underlying22 hi hz .i64 .i64 0 k (by omega) (by omega) (by rw [h2]; omega) (by omega), h1]
  rfl
theorem own_m0 (w : World) (k : Nat) (hk : k ≤ 2600000000000) (Z : Array Value) (hZ : Z.size = k * 6) : OwnR w.heap.size (w.alloc (.cells Z 34)) (.slice (some ⟨w.heap.size, 0, none⟩) 0 k) [] := by
 refine ⟨cellsOf_len _, .inr ⟨w.heap.size, k, _, rfl, Nat.le_refl _, heap_new _ _, Nat.zero_le _, by unfold maxLen; omega, hZ, ?_⟩⟩
 simp [cellsOf]
theorem posM_le (l : List El) (s : Sp) : posM l s ≤ l.length := List.countP_le_length
theorem posM_spec {s : Sp} : ∀ {l : List El}, l.Pairwise Rise → (∀ i (h : i < l.length), i < posM l s → sM l[i].spM s) ∧ (∀ i (h : i < l.length), posM l s ≤ i → ¬ sM l[i].spM s)
 | [], _ => ⟨fun i h => absurd h (Nat.not_lt_zero _), fun i h => absurd h (Nat.not_lt_zero _)⟩
 |y :: l, h => by
  rw [List.pairwise_cons] at h
  obtain ⟨h1, h2⟩ := posM_spec (s := s) h.2
  by_cases hy : sM y.spM s
  ·have hp : posM (y :: l) s = posM l s + 1 := by unfold posM; rw [List.countP_cons_of_pos (by simpa using hy)]
   rw [hp]
   refine ⟨fun i hi hip => ?_, fun i hi hip => ?_⟩
   ·cases i with
    |zero => exact hy
    |succ i => exact h1 i (by simpa using hi) (by omega)
   ·cases i with
    |zero => omega
    |succ i => exact h2 i (by simpa using hi) (by omega)
  ·have hp : posM (y :: l) s = 0 := by
    unfold posM
    rw [List.countP_eq_zero]
    intro e he
    rw [decide_eq_true_eq]
    rcases List.mem_cons.1 he with rfl | he
    ·exact hy
    ·exact fun h3 => hy (sLt_trans (rise_spM.1 (h.1 e he)) h3)
   rw [hp]
   refine ⟨fun i hi hip => absurd hip (Nat.not_lt_zero _), fun i hi _ => ?_⟩
   cases i with
   |zero => exact hy
   |succ i => exact fun h3 => hy (sLt_trans (rise_spM.1 (h.1 _ (List.getElem_mem (by simpa using hi)))) h3)
theorem merge_step {O fr : List El} {x : El} (hO : O.Pairwise Rise) (hr : (x :: fr).Pairwise Rise) :
    ∃ j, j = posM O x.spM + (if posMB O x.spM = true then 1 else 0) ∧ j ≤ O.length ∧ fedL O (x :: fr) = O.take (posM O x.spM) ++ x :: fedL (O.drop j) fr := by
  obtain ⟨h1, h2⟩ := posM_spec (s := x.spM) hO
  have hle := posM_le O x.spM
  have hA : ∀ a ∈ O.take (posM O x.spM), Rise a x := fun a ha => by
    obtain ⟨i, hi, rfl⟩ := List.getElem_of_mem ha
    rw [List.length_take] at hi
    rw [List.getElem_take]
    exact h1 i (by omega) (by omega)
  have hge : ∀ i (hi : i < O.length), posM O x.spM ≤ i → ¬ (O[i].key = x.key ∧ O[i].m = x.m) → Rise x O[i] := fun i hi hip hne => by
    rcases sLt_tri O[i].key O[i].m x.key x.m with h3 | h3 | h3
    · exact absurd h3 (h2 i hi hip)
    · exact absurd h3 hne
    · exact h3
  by_cases hf : posMB O x.spM = true
  · have hlt : posM O x.spM < O.length := by
      rcases Nat.lt_or_ge (posM O x.spM) O.length with h | h
      · exact h
      · unfold posMB at hf; rw [List.getElem?_eq_none h] at hf; cases hf
    have hsame : O[posM O x.spM].key = x.key ∧ O[posM O x.spM].m = x.m := by
      unfold posMB at hf
      rw [List.getElem?_eq_getElem hlt] at hf
      simp only [beq_iff_eq] at hf
      rw [scmp_eq, kcmp_eq] at hf
      unfold El.spM at hf
      simp only at hf
      exact ⟨key3_eq.2 hf.1, hf.2⟩
    refine ⟨posM O x.spM + 1, by rw [if_pos hf], by omega, ?_⟩
    have hC : ∀ c ∈ O.drop (posM O x.spM + 1), Rise x c := fun c hc => by
      obtain ⟨i, hi, rfl⟩ := List.getElem_of_mem hc
      rw [List.length_drop] at hi
      rw [List.getElem_drop]
      have := List.pairwise_iff_getElem.1 hO (posM O x.spM) (posM O x.spM + 1 + i) hlt (by omega) (by omega)
      unfold Rise at this ⊢
      rw [hsame.1, hsame.2] at this
      exact this
    have := (fed_step hr hA hC).2 O[posM O x.spM] hsame
    rw [← List.drop_eq_getElem_cons hlt, List.take_append_drop] at this
    exact this
  · refine ⟨posM O x.spM, by rw [if_neg hf]; rfl, hle, ?_⟩
    have hC : ∀ c ∈ O.drop (posM O x.spM), Rise x c := fun c hc => by
      obtain ⟨i, hi, rfl⟩ := List.getElem_of_mem hc
      rw [List.length_drop] at hi
      rw [List.getElem_drop]
      refine hge _ (by omega) (by omega) fun hs => ?_
      by_cases h0 : i = 0
      · subst h0
        apply hf
        unfold posMB
        have hlt : posM O x.spM < O.length := by omega
        rw [List.getElem?_eq_getElem hlt]
        simp only [beq_iff_eq]
        rw [scmp_eq, kcmp_eq]
        unfold El.spM
        simp only [Nat.add_zero] at hs
        exact ⟨key3_eq.1 hs.1, hs.2⟩
      · have := List.pairwise_iff_getElem.1 hO (posM O x.spM) (posM O x.spM + i) (by omega) (by omega) (by omega)
        exact h2 (posM O x.spM) (by omega) (Nat.le_refl _) (by
          unfold Rise at this; rw [hs.1, hs.2] at this; exact this)
    have := (fed_step hr hA hC).1
    rw [List.take_append_drop] at this
    exact this
set_option maxHeartbeats 8000000 in
theorem merge_any (A A2 : Option Addr) (d c2 : Nat) (l fr : List El) (w : World) (hl : l.length ≤ 400) (hf : fr.length ≤ 1073741824) (hd : l.length ≤ d) (hL : Lies w A l) (hF : Lies w A2 fr) (hr : l.Pairwise Rise) (hfr : fr.Pairwise Rise) :
    Calls Try.prog 40 #[.slice A l.length d, .slice A2 fr.length c2] w (Ow1End (fedL l fr) w) := by
  obtain ⟨Z, hZs, m0⟩ := makeM0 (l.length + fr.length) (by omega)
  rw [show ((l.length + fr.length : Nat) : Int) = (l.length : Int) + (fr.length : Int) from by omega] at m0
  have hO0 := own_m0 w (l.length + fr.length) (by omega) Z hZs
  have hu0 := (Calm.refl w).alloc (.cells Z 34)
  have hln : (l.length : Int) ≤ 400 := by omega
  have hfn : (fr.length : Int) ≤ 1073741824 := by omega
  have HO0 := Lib.hid hO0
  clear hO0 hZs
  go_enter Try.func40, Try.ntmps40
  go_wp2_with fail
  generalize w.alloc (.cells Z 34) = w1 at HO0 hu0 ⊢
  go_loopw [0, 5, 18] (fun ov mv i wr => ∃ (k : Nat) (O M : List El) (B : Option Addr) (c n : Nat), k ≤ fr.length ∧ i = .int .i64 k ∧ ov = .slice B n c ∧ O.length = n ∧ n ≤ c ∧ n ≤ 400 ∧ Hid (Lies w B O) ∧ Hid (O.Pairwise Rise) ∧ Calm w wr ∧ Hid (OwnR w.heap.size wr mv M) ∧ Hid (M.length + n ≤ l.length + k) ∧ Hid (fedL l fr = M ++ fedL O (fr.drop k))) (fun _ _ i _ => fr.length - (intOf i).toNat)
  case atStart => exact ⟨0, l, [], A, d, l.length, Nat.zero_le _, rfl, rfl, rfl, hd, hl, Lib.hid hL, Lib.hid hr, hu0, HO0, show _ ≤ _ from (by simp), show _ = _ from (by simp)⟩
  case round =>
    obtain ⟨k, O, M, B, c, n, hk, rfl, rfl, hOn, hnc, hn4, hLO, hRO, hur, ho, hMn, hE⟩ := hrel
    by_cases hlt : k < fr.length
    rotate_left
    · have hX : Hid (fedL l fr = M ++ O) := by
        show _ = _
        rw [hE.out, List.drop_eq_nil_of_le (by omega)]; rfl
      have hbd : (M.length + n) * 56 ≤ 140737488355328 := by have := hMn.out; omega
      clear hE hF hMn
      go_wp2_with (at_builtin; go_must (refine wpList_append_liesG rfl _ _ rfl w.heap.size _ M rfl ho.out B c n O rfl hOn (hLO.out.calm hur) hbd hur.size ?_); intro v' w9 ho9 hc9 _ _; have hur9 := hc9 w (Nat.le_refl _) hur; rw [← hX.out] at ho9)
      go_ret
      exact ⟨_, rfl, ho9, hur9⟩
    obtain ⟨b, q, p, o, f, m, g, s, rfl, hb, HE, hm, c0, c1, c2', c3, c4, c5⟩ := (hF.calm hur).get hlt
    have cB := fun u (hu : Calm wr u) => bsearchM_any B c O p o f m u (by omega) (hLO.out.calm (hur.call hu)) hRO.out
    have hfd : fr.drop k = ⟨p, o, f, m, g, s⟩ :: fr.drop (k + 1) := by
      have h := (List.getElem?_eq_some_iff.1 HE.out)
      rw [List.drop_eq_getElem_cons h.1, h.2]
    obtain ⟨j, hj, hjl, hst⟩ := merge_step (fr := fr.drop (k + 1)) (x := ⟨p, o, f, m, g, s⟩) hRO.out (by rw [← hfd]; exact hfr.sublist (List.drop_sublist _ _))
    have hi := posM_le O (El.spM ⟨p, o, f, m, g, s⟩)
    have hsp : El.spM ⟨p, o, f, m, g, s⟩ = ⟨p, o, f, m⟩ := rfl
    rw [hsp] at hj hst hi
    rw [hOn] at cB
    have hix : posM O ⟨p, o, f, m⟩ ≤ n := by omega
    have hXE : Hid (fedL l fr = M ++ O.take (posM O ⟨p, o, f, m⟩) ++ [⟨p, o, f, m, g, s⟩] ++ fedL (O.drop j) (fr.drop (k + 1))) := by
      show _ = _
      rw [hE.out, hfd, hst]; simp
    have hjn : j ≤ n := by omega
    have hRj : Hid ((O.drop j).Pairwise Rise) := Lib.hid (hRO.out.sublist (List.drop_sublist _ _))
    have hLj := Lib.hid (lies_back hLO.out j)
    have hoj : (O.drop j).length = n - j := by rw [List.length_drop, hOn]
    have hti : (O.take (posM O ⟨p, o, f, m⟩)).length = posM O ⟨p, o, f, m⟩ := by rw [List.length_take]; omega
    have hMj : Hid ((M ++ O.take (posM O ⟨p, o, f, m⟩) ++ [(⟨p, o, f, m, g, s⟩ : El)]).length + (n - j) ≤ l.length + (k + 1)) := show _ ≤ _ by
      rw [List.length_append, List.length_append, hti, List.length_singleton]
      have := hMn.out
      have hji : posM O ⟨p, o, f, m⟩ ≤ j := by rw [hj]; omega
      omega
    have hb1 : (M.length + posM O ⟨p, o, f, m⟩) * 56 ≤ 140737488355328 := by have := hMn.out; omega
    have hb2 : ((M ++ O.take (posM O ⟨p, o, f, m⟩)).length + 1) * 56 ≤ 140737488355328 := by rw [List.length_append, hti]; have := hMn.out; omega
    generalize hOt : O.take (posM O ⟨p, o, f, m⟩) = O1 at hti hXE hMj hb2
    have hLt : Hid (Lies w B O1) := by rw [← hOt]; exact lies_front hLO.out _
    generalize posM O ⟨p, o, f, m⟩ = i at cB hix hti hj hb1
    generalize posMB O ⟨p, o, f, m⟩ = r at cB hj
    clear hOt hst hfd hsp hi HE hE hMn hjl hL hF
    have hin : (i : Int) ≤ (n : Int) := by omega
    have hic : (i : Int) ≤ (c : Int) := by omega
    have hnci : (n : Int) ≤ (c : Int) := by omega
    replace hoj := Lib.hid hoj
    replace hti := Lib.hid hti
    replace hOn := Lib.hid hOn
    clear hm hfr hRO hLO
    cases r
    · obtain rfl : i = j := by simpa using hj.symm
      clear hj
      by_cases hcj : c = i
      · have hOd : O.drop i = [] := List.drop_eq_nil_of_le (by have := hOn.out; omega)
        rw [hOd] at hXE
        obtain rfl : n = c := by omega
        obtain rfl : n = i := by omega
        rw [Nat.sub_self] at hMj
        clear hOd hoj hcj hLj hRj
        go_wp2_with (first
          | (go_at_call 65; refine (spot_any _ _ _ _ _ _ _).mono ?_; rintro e w5 ⟨rfl, hb1⟩; have hu5 := ((Calm.refl wr).alloc _).call hb1; have hx5 := (hb1.block (by simp)).trans (heap_new wr (.cells #[.int .i64 p, .int .i64 o, .int .i64 f, .int .i64 m, .int .i64 g, .string s] 34)); clear hb1; obtain ⟨x0, x1, x2, x3, x4, x5, hxs⟩ := row6 hx5)
          | (go_at_call 64; refine (cB _ hu5).mono ?_; rintro e w6 ⟨rfl, hb1⟩; replace hu5 := hu5.call hb1; replace hx5 := (hb1.block hxs).trans hx5; clear hb1; obtain ⟨x0, x1, x2, x3, x4, x5, hxs⟩ := row6 hx5; have hu6 := hur.call hu5; have ho6 := Lib.hid (ho.out.calm hu5))
          | (at_builtin; refine wpList_append_liesG rfl _ _ rfl w.heap.size _ M rfl ho6.out B n n O1 rfl hti.out (hLt.out.calm hu6) hb1 hu6.size ?_; intro v' w7 ho7 hc7 hs7 hk7; have hu7 := hc7 w (Nat.le_refl _) hu6; have hx7 := (hk7 _ hxs (fun e => by have := ho.out.lt _ e; omega)).trans hx5; replace ho7 := Lib.hid ho7; clear hc7 hs7 hk7 x0 x1 x2 x3 x4 x5; obtain ⟨x0, x1, x2, x3, x4, x5, hxs7⟩ := row6 hx7)
          | (at_builtin; go_must (refine wpList_append_elB rfl _ _ rfl w.heap.size _ _ rfl (ho7.out.calm ((Calm.refl _).alloc _)) _ _ p o f m g s _ rfl (heap_new _ _) hb2 (by simp; exact Nat.le_succ_of_le hu7.size) ?_); intro v'' w9 ho9 hc9; have hur9 := hc9 w (Nat.le_refl _) (hu7.alloc _)))
        have HO := Lib.hid ho9
        clear ho9 hc9
        go_roundw
        case rel => exact ⟨k + 1, [], M ++ O1 ++ [⟨p, o, f, m, g, s⟩], _, _, 0, by omega, by go_num, rfl, rfl, by omega, by omega, Lib.hid lies_none, Lib.hid List.Pairwise.nil, hur9, HO, hMj, hXE⟩
        case measure => simp [intOf]; omega
      · go_wp2_with (first
          | (go_at_call 65; refine (spot_any _ _ _ _ _ _ _).mono ?_; rintro e w5 ⟨rfl, hb1⟩; have hu5 := ((Calm.refl wr).alloc _).call hb1; have hx5 := (hb1.block (by simp)).trans (heap_new wr (.cells #[.int .i64 p, .int .i64 o, .int .i64 f, .int .i64 m, .int .i64 g, .string s] 34)); clear hb1; obtain ⟨x0, x1, x2, x3, x4, x5, hxs⟩ := row6 hx5)
          | (go_at_call 64; refine (cB _ hu5).mono ?_; rintro e w6 ⟨rfl, hb1⟩; replace hu5 := hu5.call hb1; replace hx5 := (hb1.block hxs).trans hx5; clear hb1; obtain ⟨x0, x1, x2, x3, x4, x5, hxs⟩ := row6 hx5; have hu6 := hur.call hu5; have ho6 := Lib.hid (ho.out.calm hu5))
          | (at_builtin; refine wpList_append_liesG rfl _ _ rfl w.heap.size _ M rfl ho6.out B c i O1 rfl hti.out (hLt.out.calm hu6) hb1 hu6.size ?_; intro v' w7 ho7 hc7 hs7 hk7; have hu7 := hc7 w (Nat.le_refl _) hu6; have hx7 := (hk7 _ hxs (fun e => by have := ho.out.lt _ e; omega)).trans hx5; replace ho7 := Lib.hid ho7; clear hc7 hs7 hk7 x0 x1 x2 x3 x4 x5; obtain ⟨x0, x1, x2, x3, x4, x5, hxs7⟩ := row6 hx7)
          | (at_builtin; go_must (refine wpList_append_elB rfl _ _ rfl w.heap.size _ _ rfl (ho7.out.calm ((Calm.refl _).alloc _)) _ _ p o f m g s _ rfl (heap_new _ _) hb2 (by simp; exact Nat.le_succ_of_le hu7.size) ?_); intro v'' w9 ho9 hc9; have hur9 := hc9 w (Nat.le_refl _) (hu7.alloc _)))
        have HO := Lib.hid ho9
        clear ho9 hc9
        go_roundw
        case rel => exact ⟨k + 1, O.drop i, M ++ O1 ++ [⟨p, o, f, m, g, s⟩], Option.map (fun a => a.add (i * 6)) B, c - i, n - i, by omega, by go_num, rfl, hoj.out, by omega, by omega, hLj, hRj, hur9, HO, hMj, hXE⟩
        case measure => simp [intOf]; omega
    · obtain rfl : j = i + 1 := by simpa using hj
      clear hj
      have hj1 : (i : Int) + 1 ≤ (n : Int) := by omega
      have hj2 : ((i : Int) + 1).toNat = i + 1 := by omega
      have hj3 : (0 : Int) ≤ (i : Int) + 1 := by omega
      by_cases hcj : c = i + 1
      · have hOd : O.drop (i + 1) = [] := List.drop_eq_nil_of_le (by have := hOn.out; omega)
        rw [hOd] at hXE
        obtain rfl : n = c := by omega
        obtain rfl : n = i + 1 := by omega
        rw [Nat.sub_self] at hMj
        clear hOd hoj hcj hLj hRj
        go_wp2_with (first
          | (go_at_call 65; refine (spot_any _ _ _ _ _ _ _).mono ?_; rintro e w5 ⟨rfl, hb1⟩; have hu5 := ((Calm.refl wr).alloc _).call hb1; have hx5 := (hb1.block (by simp)).trans (heap_new wr (.cells #[.int .i64 p, .int .i64 o, .int .i64 f, .int .i64 m, .int .i64 g, .string s] 34)); clear hb1; obtain ⟨x0, x1, x2, x3, x4, x5, hxs⟩ := row6 hx5)
          | (go_at_call 64; refine (cB _ hu5).mono ?_; rintro e w6 ⟨rfl, hb1⟩; replace hu5 := hu5.call hb1; replace hx5 := (hb1.block hxs).trans hx5; clear hb1; obtain ⟨x0, x1, x2, x3, x4, x5, hxs⟩ := row6 hx5; have hu6 := hur.call hu5; have ho6 := Lib.hid (ho.out.calm hu5))
          | (at_builtin; refine wpList_append_liesG rfl _ _ rfl w.heap.size _ M rfl ho6.out B (i + 1) i O1 rfl hti.out (hLt.out.calm hu6) hb1 hu6.size ?_; intro v' w7 ho7 hc7 hs7 hk7; have hu7 := hc7 w (Nat.le_refl _) hu6; have hx7 := (hk7 _ hxs (fun e => by have := ho.out.lt _ e; omega)).trans hx5; replace ho7 := Lib.hid ho7; clear hc7 hs7 hk7 x0 x1 x2 x3 x4 x5; obtain ⟨x0, x1, x2, x3, x4, x5, hxs7⟩ := row6 hx7)
          | (at_builtin; go_must (refine wpList_append_elB rfl _ _ rfl w.heap.size _ _ rfl (ho7.out.calm ((Calm.refl _).alloc _)) _ _ p o f m g s _ rfl (heap_new _ _) hb2 (by simp; exact Nat.le_succ_of_le hu7.size) ?_); intro v'' w9 ho9 hc9; have hur9 := hc9 w (Nat.le_refl _) (hu7.alloc _)))
        have HO := Lib.hid ho9
        clear ho9 hc9
        go_roundw
        case rel => exact ⟨k + 1, [], M ++ O1 ++ [⟨p, o, f, m, g, s⟩], _, _, 0, by omega, by go_num, rfl, rfl, by omega, by omega, Lib.hid lies_none, Lib.hid List.Pairwise.nil, hur9, HO, hMj, hXE⟩
        case measure => simp [intOf]; omega
      · go_wp2_with (first
          | (go_at_call 65; refine (spot_any _ _ _ _ _ _ _).mono ?_; rintro e w5 ⟨rfl, hb1⟩; have hu5 := ((Calm.refl wr).alloc _).call hb1; have hx5 := (hb1.block (by simp)).trans (heap_new wr (.cells #[.int .i64 p, .int .i64 o, .int .i64 f, .int .i64 m, .int .i64 g, .string s] 34)); clear hb1; obtain ⟨x0, x1, x2, x3, x4, x5, hxs⟩ := row6 hx5)
          | (go_at_call 64; refine (cB _ hu5).mono ?_; rintro e w6 ⟨rfl, hb1⟩; replace hu5 := hu5.call hb1; replace hx5 := (hb1.block hxs).trans hx5; clear hb1; obtain ⟨x0, x1, x2, x3, x4, x5, hxs⟩ := row6 hx5; have hu6 := hur.call hu5; have ho6 := Lib.hid (ho.out.calm hu5))
          | (at_builtin; refine wpList_append_liesG rfl _ _ rfl w.heap.size _ M rfl ho6.out B c i O1 rfl hti.out (hLt.out.calm hu6) hb1 hu6.size ?_; intro v' w7 ho7 hc7 hs7 hk7; have hu7 := hc7 w (Nat.le_refl _) hu6; have hx7 := (hk7 _ hxs (fun e => by have := ho.out.lt _ e; omega)).trans hx5; replace ho7 := Lib.hid ho7; clear hc7 hs7 hk7 x0 x1 x2 x3 x4 x5; obtain ⟨x0, x1, x2, x3, x4, x5, hxs7⟩ := row6 hx7)
          | (at_builtin; go_must (refine wpList_append_elB rfl _ _ rfl w.heap.size _ _ rfl (ho7.out.calm ((Calm.refl _).alloc _)) _ _ p o f m g s _ rfl (heap_new _ _) hb2 (by simp; exact Nat.le_succ_of_le hu7.size) ?_); intro v'' w9 ho9 hc9; have hur9 := hc9 w (Nat.le_refl _) (hu7.alloc _)))
        have HO := Lib.hid ho9
        clear ho9 hc9
        go_roundw
        case rel => exact ⟨k + 1, O.drop (i + 1), M ++ O1 ++ [⟨p, o, f, m, g, s⟩], Option.map (fun a => a.add ((i + 1) * 6)) B, c - (i + 1), n - (i + 1), by omega, by go_num, rfl, hoj.out, by omega, by omega, hLj, hRj, hur9, HO, hMj, hXE⟩
        case measure => simp [intOf]; omega
open Go.RowKit
def gK (l : List UInt8) : Int := if unErr l = 0 then (unKind l : Int) else 0
def gB (l : List UInt8) : ByteArray := if unErr l = 0 then ⟨(unBody l).toArray⟩ else { data := #[] }
def gN (l : List UInt8) : Int := if unErr l = 0 then ((5 + unSize l : Nat) : Int) else 0
def FGetEnd (l : List UInt8) (w : World) (e : Ending) (w' : World) : Prop := e = .returned (.tuple #[.agg #[.int .i64 (gK l), .string (gB l)], .int .i64 (gN l), .int .i64 (unErr l)]) ∧ Calm w w'
theorem FGetEnd.bad {l : List UInt8} {n : Int} (h : unErr l = n) (hn : n ≠ 0) (w : World) : FGetEnd l w = fun e w' => e = .returned (.tuple #[.agg #[.int .i64 0, .string { data := #[] }], .int .i64 0, .int .i64 n]) ∧ Calm w w' := by
 funext e w'
 unfold FGetEnd gK gB gN
 rw [h, if_neg hn, if_neg hn, if_neg hn]
theorem FGetEnd.good {l : List UInt8} (h : unErr l = 0) (w : World) : FGetEnd l w = fun e w' => e = .returned (.tuple #[.agg #[.int .i64 (unKind l), .string ⟨(unBody l).toArray⟩], .int .i64 ((5 + unSize l : Nat) : Int), .int .i64 0]) ∧ Calm w w' := by
 funext e w'
 unfold FGetEnd gK gB gN
 rw [h, if_pos rfl, if_pos rfl, if_pos rfl]
/-- Three results: a frame that lies in memory, and two temporaries. -/
theorem results_fr {fn : Func} {p q r : Tmp} (h : fn.results = #[.cell p 73, .tmp q, .tmp r]) (tmps : Array Value) (w : World) (g : Nat) (t : TypeId) (cs : Array Value) (v u : Value) (fr : Nat × Nat)
    (hp : tmps.getD p undef = .pointer (some ⟨g, 0, none⟩)) (hq : tmps.getD q undef = v) (hr : tmps.getD r undef = u) (hg : w.heap[g]? = some (.cells cs t fr)) (hsz : cs.size = 2) :
    (results fn tmps).run Try.prog w = .ok (.tuple #[.agg cs, v, u]) w := by
  have hp' : tmps[p]?.getD undef = .pointer (some ⟨g, 0, none⟩) := by simpa using hp
  have hq' : tmps[q]?.getD undef = v := by simpa using hq
  have hr' : tmps[r]?.getD undef = u := by simpa using hr
  have hi : (Try.prog.info? 73).map (·.size) = some cs.size := by rw [hsz]; kernel_rfl
  simp [results, h, hp', hq', hr', asAddr, run_loadVar_row w g t 73 cs fr _ hg Try.underlying73 rfl hi]
theorem end_fr {P : Program} {fn : Func} {p q r : Tmp} {Q : Ending → World → Prop} (hP : P = Try.prog) (h : fn.results = #[.cell p 73, .tmp q, .tmp r]) (a : Act) (w : World) (g : Nat) (t : TypeId) (cs : Array Value) (v u : Value) (fr : Nat × Nat) (hd : a.defers = [])
    (hp : a.tmps.getD p undef = .pointer (some ⟨g, 0, none⟩)) (hq : a.tmps.getD q undef = v) (hr : a.tmps.getD r undef = u) (hg : w.heap[g]? = some (.cells cs t fr)) (hsz : cs.size = 2) (hQ : Q (.returned (.tuple #[.agg cs, v, u])) w) : bodyPost P fn Q .ret a w := by
  subst hP
  exact bodyPost_ret (v := .tuple #[.agg cs, v, u]) (results_fr h a.tmps w g t cs v u fr hp hq hr hg hsz) hd hQ
theorem set2 {w : World} {g t : Nat} {a0 a1 : Value} (h : w.heap[g]? = some (.cells #[a0, a1] t (0, 0))) (b0 b1 : Value) :
    ((w.setCell ⟨g, 0, none⟩ b0).setCell ⟨g, 1, none⟩ b1).heap[g]? = some (.cells #[b0, b1] t (0, 0)) := by
  have h1 := heap_setCell_same w g 0 _ t b0 h
  exact heap_setCell_same _ g 1 _ t b1 h1
theorem Calm.two {a w : World} (h : Calm a w) {g : Nat} (hg : a.heap.size ≤ g) (b0 b1 : Value) : Calm a ((w.setCell ⟨g, 0, none⟩ b0).setCell ⟨g, 1, none⟩ b1) :=
 (h.setCell (p := ⟨g, 0, none⟩) hg b0).setCell (p := ⟨g, 1, none⟩) hg b1
theorem free2 {w : World} {g t : Nat} {cs : Array Value} (h : w.heap[g]? = some (.cells cs t (0, 0))) : w.frozen? ⟨g, 0, none⟩ = false ∧ w.frozen? ⟨g, 1, none⟩ = false :=
 ⟨frozen_of_row _ _ _ _ _ h, frozen_of_row _ _ _ _ _ h⟩
theorem pair_ext (s : ByteArray) (i j n : Nat) (hj : j = i + 2) (hn : num (part s.data.toList i 2) = n) (w : World) : Calls Try.prog 76 #[.string (s.extract i j)] w fun e w' => e = .returned (.int .i64 (n : Int)) ∧ Calm w w' := by
 subst hj
 have := calls_calm (number_any (s.extract i (i + 2)) w (by rw [ByteArray.size_extract]; omega))
 rw [part_extract, Nat.add_sub_cancel_left, hn] at this
 exact this
set_option maxHeartbeats 4000000 in
theorem frameGet_any (s : ByteArray) (w : World) : Calls Try.prog 61 #[.string s] w (FGetEnd s.data.toList w) := by
 have hl := bytes_len s
 by_cases h5 : s.size < 5
 ·have e1 : unErr s.data.toList = 7 := by unfold unErr; rw [if_pos (by omega)]
  rw [FGetEnd.bad e1 (by decide)]
  have h5' : (s.size : Int) < 5 := by omega
  clear e1 hl h5
  go_enter Try.func61, Try.ntmps61
  go_wp2
  exact end_fr rfl rfl _ _ w.heap.size _ _ _ _ (0, 0) rfl rfl rfl rfl (heap_new _ _) rfl ⟨rfl, (Calm.refl _).alloc _⟩
 have h5' : (5 : Int) ≤ s.size := by omega
 have i0 : 0 < s.size := by omega
 have i3 : (3 : Int) ≤ s.size := by omega
 obtain ⟨K, hK⟩ : ∃ K, unKind s.data.toList = K := ⟨_, rfl⟩
 obtain ⟨N, hN⟩ : ∃ N, unSize s.data.toList = N := ⟨_, rfl⟩
 have hk0 : s[0].toNat = K := by rw [← hK, unKind, head_at s i0]
 have hK8 : K < 256 := by rw [← hk0]; exact s[0].toNat_lt
 have hN16 : N < 65536 := by rw [← hN]; exact num_lt 2 _ (part_length (by omega))
 have cP := fun u => pair_ext s 1 3 N rfl hN u
 have iK : IntKind.i64.wrap (K : Int) = (K : Int) := IntWalk.i64_in _ (by omega)
 by_cases hB : K = 0 ∨ 3000 < N
 ·have e1 : unErr s.data.toList = 3 := by unfold unErr; rw [if_neg (by omega), hK, hN, if_pos hB]
  rw [FGetEnd.bad e1 (by decide)]
  clear e1 hl h5 hK hN
  rcases hB with hB | hB
  ·have b0 : ((K : Int) == 0) = true := by rw [beq_iff_eq]; omega
   clear hB
   go_enter Try.func61, Try.ntmps61
   go_wp2_with fail
   have hz := heap_new w (.cells #[.int .i64 0, .string { data := #[] }] 73)
   have hu := (Calm.refl w).alloc (.cells #[.int .i64 0, .string { data := #[] }] 73)
   generalize w.alloc (.cells #[.int .i64 0, .string { data := #[] }] 73) = wz at hz hu ⊢
   refine wp_region_plan [.val (.string s), .val (.int .u8 (K : Int)), .val (.int .i64 (K)), .val (.string s), .val (.string (s.extract 1 3)), .val (.int .i64 (N)), .val (.int .i64 (K)), .val (.int .i64 (N))] (by kernel_rfl) (by kernel_rfl) (by kernel_rfl) ?_
   intro X
   iterate 8
    refine plan_val (by kernel_rfl) (fun u hu => ?_) ?_
    ·obtain ⟨hc, hf, hz⟩ := hu.of_drew.facts
     go_simp
     all_goals first
      |((go_at_call 76; exact cP _))
      |(exact iK)
    simp only [Act.put, List.setIfInBounds_toArray, List.set_cons_zero, List.set_cons_succ, Nat.reduceAdd]
   refine plan_end ?_
   intro w' hB
   have hk := hB.calm.of_drew
   clear hB
   replace hz := (hk.block (row2 hz).2.2).trans hz
   replace hu := hu.call hk
   clear hk cP iK hk0
   obtain ⟨z0, z1, hzs⟩ := row2 hz
   obtain ⟨f0, f1⟩ := free2 hz
   go_wp2
   have hr := set2 hz (.int .i64 0) (.string { data := #[] })
   have hu2 := hu.two (g := w.heap.size) (Nat.le_refl _) (.int .i64 0) (.string { data := #[] })
   exact end_fr rfl rfl _ _ _ _ _ _ _ _ rfl rfl rfl rfl hr rfl ⟨rfl, hu2⟩
  ·have h3 : (3000 : Int) < (N : Int) := by omega
   clear hB
   go_enter Try.func61, Try.ntmps61
   go_wp2_with fail
   have hz := heap_new w (.cells #[.int .i64 0, .string { data := #[] }] 73)
   have hu := (Calm.refl w).alloc (.cells #[.int .i64 0, .string { data := #[] }] 73)
   generalize w.alloc (.cells #[.int .i64 0, .string { data := #[] }] 73) = wz at hz hu ⊢
   refine wp_region_plan [.val (.string s), .val (.int .u8 (K : Int)), .val (.int .i64 (K)), .val (.string s), .val (.string (s.extract 1 3)), .val (.int .i64 (N)), .val (.int .i64 (K)), .val (.int .i64 (N))] (by kernel_rfl) (by kernel_rfl) (by kernel_rfl) ?_
   intro X
   iterate 8
    refine plan_val (by kernel_rfl) (fun u hu => ?_) ?_
    ·obtain ⟨hc, hf, hz⟩ := hu.of_drew.facts
     go_simp
     all_goals first
      |((go_at_call 76; exact cP _))
      |(exact iK)
    simp only [Act.put, List.setIfInBounds_toArray, List.set_cons_zero, List.set_cons_succ, Nat.reduceAdd]
   refine plan_end ?_
   intro w' hB
   have hk := hB.calm.of_drew
   clear hB
   replace hz := (hk.block (row2 hz).2.2).trans hz
   replace hu := hu.call hk
   clear hk cP iK hk0
   obtain ⟨z0, z1, hzs⟩ := row2 hz
   obtain ⟨f0, f1⟩ := free2 hz
   go_wp2
   all_goals
    have hr := set2 hz (.int .i64 0) (.string { data := #[] })
    have hu2 := hu.two (g := w.heap.size) (Nat.le_refl _) (.int .i64 0) (.string { data := #[] })
    exact end_fr rfl rfl _ _ _ _ _ _ _ _ rfl rfl rfl rfl hr rfl ⟨rfl, hu2⟩
 have b0 : ((K : Int) == 0) = false := by rw [beq_eq_false_iff_ne]; omega
 have hK1 : (1 : Int) ≤ (K : Int) := by omega
 have hN1 : (N : Int) ≤ 3000 := by omega
 obtain ⟨E, hE⟩ : ∃ E, E = 3 + N := ⟨_, rfl⟩
 obtain ⟨L, hL⟩ : ∃ L, L = 5 + N := ⟨_, rfl⟩
 have eE : (3 : Int) + (N : Int) = (E : Int) := by omega
 have eL : (E : Int) + 2 = (L : Int) := by omega
 have iL2 : IntKind.i64.wrap (L : Int) = (L : Int) := IntWalk.i64_in _ (by omega)
 have iL : IntKind.i64.wrap ((E : Int) + 2) = (L : Int) := by rw [IntWalk.i64_in _ (by omega)]; omega
 by_cases hn : s.size < 5 + N
 ·have e1 : unErr s.data.toList = 7 := by unfold unErr; rw [if_neg (by omega), hK, hN, if_neg hB, if_pos (by omega)]
  rw [FGetEnd.bad e1 (by decide)]
  have hn' : (s.size : Int) < (L : Int) := by omega
  clear e1 hl h5 hK hN hB hn hE hL
  go_enter Try.func61, Try.ntmps61
  go_wp2_with fail
  have hz := heap_new w (.cells #[.int .i64 0, .string { data := #[] }] 73)
  have hu := (Calm.refl w).alloc (.cells #[.int .i64 0, .string { data := #[] }] 73)
  generalize w.alloc (.cells #[.int .i64 0, .string { data := #[] }] 73) = wz at hz hu ⊢
  refine wp_region_plan [.val (.string s), .val (.int .u8 (K : Int)), .val (.int .i64 (K)), .val (.string s), .val (.string (s.extract 1 3)), .val (.int .i64 (N)), .val (.int .i64 (K)), .val (.int .i64 (N))] (by kernel_rfl) (by kernel_rfl) (by kernel_rfl) ?_
  intro X
  iterate 8
   refine plan_val (by kernel_rfl) (fun u hu => ?_) ?_
   ·obtain ⟨hc, hf, hz⟩ := hu.of_drew.facts
    go_simp
    all_goals first
     |((go_at_call 76; exact cP _))
     |(exact iK)
   simp only [Act.put, List.setIfInBounds_toArray, List.set_cons_zero, List.set_cons_succ, Nat.reduceAdd]
  refine plan_end ?_
  intro w' hB
  have hk := hB.calm.of_drew
  clear hB
  replace hz := (hk.block (row2 hz).2.2).trans hz
  replace hu := hu.call hk
  clear hk cP iK hk0
  obtain ⟨z0, z1, hzs⟩ := row2 hz
  obtain ⟨f0, f1⟩ := free2 hz
  go_wp2
  have hr := set2 hz (.int .i64 0) (.string { data := #[] })
  have hu2 := hu.two (g := w.heap.size) (Nat.le_refl _) (.int .i64 0) (.string { data := #[] })
  exact end_fr rfl rfl _ _ _ _ _ _ _ _ rfl rfl rfl rfl hr rfl ⟨rfl, hu2⟩
 have hn' : (L : Int) ≤ (s.size : Int) := by omega
 have hE1 : (E : Int) ≤ (s.size : Int) := by omega
 have hE3 : (3 : Int) ≤ (E : Int) := by omega
 have hEL : (E : Int) ≤ (L : Int) := by omega
 obtain ⟨C, hC⟩ : ∃ C, (crc (s.data.toList.take E)).toNat = C := ⟨_, rfl⟩
 obtain ⟨M, hM⟩ : ∃ M, num (part s.data.toList E 2) = M := ⟨_, rfl⟩
 have cS := fun u => sumOf_at (s.extract 0 E) (C : Int) u (by rw [ByteArray.size_extract]; unfold maxLen; omega) (by rw [extract_take, hC])
 have cQ := fun u => pair_ext s E L M (by omega) hM u
 by_cases hCM : C = M
 rotate_left
 ·have e1 : unErr s.data.toList = 6 := by unfold unErr; rw [if_neg (by omega), hK, hN, if_neg hB, if_neg (by omega), ← hE, hC, hM, if_pos hCM]
  rw [FGetEnd.bad e1 (by decide)]
  have b1 : ((C : Int) != (M : Int)) = true := by rw [bne_iff_ne]; omega
  clear e1 hl h5 hK hN hB hn hE hL hC hM hCM
  go_enter Try.func61, Try.ntmps61
  go_wp2_with fail
  have hz := heap_new w (.cells #[.int .i64 0, .string { data := #[] }] 73)
  have hu := (Calm.refl w).alloc (.cells #[.int .i64 0, .string { data := #[] }] 73)
  generalize w.alloc (.cells #[.int .i64 0, .string { data := #[] }] 73) = wz at hz hu ⊢
  refine wp_region_plan [.val (.string s), .val (.int .u8 (K : Int)), .val (.int .i64 (K)), .val (.string s), .val (.string (s.extract 1 3)), .val (.int .i64 (N)), .val (.int .i64 (K)), .val (.int .i64 (N))] (by kernel_rfl) (by kernel_rfl) (by kernel_rfl) ?_
  intro X
  iterate 8
   refine plan_val (by kernel_rfl) (fun u hu => ?_) ?_
   ·obtain ⟨hc, hf, hz⟩ := hu.of_drew.facts
    go_simp
    all_goals first
     |((go_at_call 76; exact cP _))
     |(exact iK)
   simp only [Act.put, List.setIfInBounds_toArray, List.set_cons_zero, List.set_cons_succ, Nat.reduceAdd]
  refine plan_end ?_
  intro w' hB
  have hk := hB.calm.of_drew
  clear hB
  replace hz := (hk.block (row2 hz).2.2).trans hz
  replace hu := hu.call hk
  clear hk cP iK hk0
  obtain ⟨z0, z1, hzs⟩ := row2 hz
  obtain ⟨f0, f1⟩ := free2 hz
  go_wp2_with fail
  refine wp_region_plan [.val (.string s), .val (.int .i64 (E)), .val (.string (s.extract 0 E)), .val (.int .i64 (C)), .val (.string s), .val (.int .i64 (E)), .val (.int .i64 (E)), .val (.int .i64 (L)), .val (.string (s.extract E L)), .val (.int .i64 (M)), .val (.bool true)] (by kernel_rfl) (by kernel_rfl) (by kernel_rfl) ?_
  intro X
  iterate 11
   refine plan_val (by kernel_rfl) (fun u hu => ?_) ?_
   ·obtain ⟨hc, hf, hz⟩ := hu.of_drew.facts
    go_simp
    all_goals first
     |((go_at_call 77; exact calls_calm (cS _)))
     |((go_at_call 76; exact cQ _))
     |(exact eL)
     |(exact iL)
     |(exact iL2)
   simp only [Act.put, List.setIfInBounds_toArray, List.set_cons_zero, List.set_cons_succ, Nat.reduceAdd]
  refine plan_end ?_
  intro w' hB
  have hk := hB.calm.of_drew
  clear hB
  replace hz := (hk.block (row2 hz).2.2).trans hz
  replace hu := hu.call hk
  clear hk cS cQ
  obtain ⟨z0, z1, hzs⟩ := row2 hz
  obtain ⟨f0, f1⟩ := free2 hz
  go_wp2
  have hr := set2 hz (.int .i64 0) (.string { data := #[] })
  have hu2 := hu.two (g := w.heap.size) (Nat.le_refl _) (.int .i64 0) (.string { data := #[] })
  exact end_fr rfl rfl _ _ _ _ _ _ _ _ rfl rfl rfl rfl hr rfl ⟨rfl, hu2⟩
 have e1 : unErr s.data.toList = 0 := by unfold unErr; rw [if_neg (by omega), hK, hN, if_neg hB, if_neg (by omega), ← hE, hC, hM, if_neg (by simpa using hCM)]
 obtain ⟨B, hBy⟩ : ∃ B, s.extract 3 E = B := ⟨_, rfl⟩
 have hBy2 : (⟨(unBody s.data.toList).toArray⟩ : ByteArray) = B := by rw [← hBy, part_bytes, unBody, hN, hE, Nat.add_sub_cancel_left]
 rw [FGetEnd.good e1, hBy2, hK, hN, ← hL]
 subst hCM
 have b2 : ((C : Int) != (C : Int)) = false := by simp
 clear e1 hl h5 hK hN hB hn hE hL hC hM hBy2
 go_enter Try.func61, Try.ntmps61
 go_wp2_with fail
 have hz := heap_new w (.cells #[.int .i64 0, .string { data := #[] }] 73)
 have hu := (Calm.refl w).alloc (.cells #[.int .i64 0, .string { data := #[] }] 73)
 generalize w.alloc (.cells #[.int .i64 0, .string { data := #[] }] 73) = wz at hz hu ⊢
 refine wp_region_plan [.val (.string s), .val (.int .u8 (K : Int)), .val (.int .i64 (K)), .val (.string s), .val (.string (s.extract 1 3)), .val (.int .i64 (N)), .val (.int .i64 (K)), .val (.int .i64 (N))] (by kernel_rfl) (by kernel_rfl) (by kernel_rfl) ?_
 intro X
 iterate 8
  refine plan_val (by kernel_rfl) (fun u hu => ?_) ?_
  ·obtain ⟨hc, hf, hz⟩ := hu.of_drew.facts
   go_simp
   all_goals first
    |((go_at_call 76; exact cP _))
    |(exact iK)
  simp only [Act.put, List.setIfInBounds_toArray, List.set_cons_zero, List.set_cons_succ, Nat.reduceAdd]
 refine plan_end ?_
 intro w' hB
 have hk := hB.calm.of_drew
 clear hB
 replace hz := (hk.block (row2 hz).2.2).trans hz
 replace hu := hu.call hk
 clear hk cP iK hk0
 obtain ⟨z0, z1, hzs⟩ := row2 hz
 obtain ⟨f0, f1⟩ := free2 hz
 go_wp2_with fail
 refine wp_region_plan [.val (.string s), .val (.int .i64 (E)), .val (.string (s.extract 0 E)), .val (.int .i64 (C)), .val (.string s), .val (.int .i64 (E)), .val (.int .i64 (E)), .val (.int .i64 (L)), .val (.string (s.extract E L)), .val (.int .i64 (C)), .val (.bool false)] (by kernel_rfl) (by kernel_rfl) (by kernel_rfl) ?_
 intro X
 iterate 11
  refine plan_val (by kernel_rfl) (fun u hu => ?_) ?_
  ·obtain ⟨hc, hf, hz⟩ := hu.of_drew.facts
   go_simp
   all_goals first
    |((go_at_call 77; exact calls_calm (cS _)))
    |((go_at_call 76; exact cQ _))
    |(exact eL)
    |(exact iL)
    |(exact iL2)
  simp only [Act.put, List.setIfInBounds_toArray, List.set_cons_zero, List.set_cons_succ, Nat.reduceAdd]
 refine plan_end ?_
 intro w' hB
 have hk := hB.calm.of_drew
 clear hB
 replace hz := (hk.block (row2 hz).2.2).trans hz
 replace hu := hu.call hk
 clear hk cS cQ
 obtain ⟨z0, z1, hzs⟩ := row2 hz
 obtain ⟨f0, f1⟩ := free2 hz
 go_wp2
 have hr := set2 hz (.int .i64 (K : Int)) (.string B)
 have hu2 := hu.two (g := w.heap.size) (Nat.le_refl _) (.int .i64 (K : Int)) (.string B)
 exact end_fr rfl rfl _ _ _ _ _ _ _ _ rfl rfl rfl rfl hr rfl ⟨rfl, hu2⟩
open Go.RowKit
theorem ne_true' {E : Int} (h : E ≠ 0) : (E != 0) = true := by simpa using h
theorem scmp_neg' {S : Int} (h : S = -1 ∨ S = 0 ∨ S = 1) : decide (S < 0) = decide (S = -1) := by rw [decide_eq_decide]; omega
set_option maxHeartbeats 4000000 in
theorem precedes_any (A : Option Addr) (c : Nat) (M : List El) (p' f' t' : Int) (p o f m g : Int) (s : ByteArray) (w : World) (hn : M.length ≤ 9223372036854775807) (hL : Lies w A M) :
    Calls Try.prog 80 #[.agg #[.int .i64 p', .int .i64 f', .int .i64 t', .slice A M.length c], .agg #[.int .i64 p, .int .i64 o, .int .i64 f, .int .i64 m, .int .i64 g, .string s]] w fun e w' => e = .returned (.bool (folB M ⟨p, o, f, m, g, s⟩)) ∧ Calm w w' := by
  rcases List.eq_nil_or_concat M with rfl | ⟨L, y, rfl⟩
  · have hf : folB [] ⟨p, o, f, m, g, s⟩ = true := rfl
    rw [hf]
    simp only [List.length_nil]
    clear hf hL hn
    go_enter Try.func80, Try.ntmps80
    go_wp2_with fail
    go_ret
    exact ⟨rfl, ((Calm.refl w).alloc _).alloc _⟩
  rw [List.concat_eq_append] at hL hn ⊢
  have hlen : (L ++ [y]).length = L.length + 1 := by simp
  obtain ⟨b, q, p2, o2, f2, m2, g2, s2, rfl, hb, HE, hm, c0, c1, c2, c3, c4, c5⟩ := hL.get (k := L.length) (by rw [hlen]; omega)
  have hy : y = ⟨p2, o2, f2, m2, g2, s2⟩ := by
    have := HE.out
    rw [List.getElem?_append_right (Nat.le_refl _), Nat.sub_self] at this
    simpa using this
  subst hy
  have hf : folB (L ++ [⟨p2, o2, f2, m2, g2, s2⟩]) ⟨p, o, f, m, g, s⟩ = decide (scmp p2 o2 f2 m2 p o f m < 0) := by
    rw [scmp_neg' (scmp_or p2 o2 f2 m2 p o f m)]
    unfold folB
    rw [List.getLast?_append, List.getLast?_singleton]
    simp only [Option.some_or]
    exact (ahead_rise p2 o2 f2 m2 g2 s2 p o f m g s).symm
  rw [hf, hlen]
  rw [hlen] at hn
  have cC := cmpSpot_any p2 o2 f2 m2 p o f m
  generalize scmp p2 o2 f2 m2 p o f m = S at cC ⊢
  have iL : wrap64 (L.length : Int) = (L.length : Int) := by unfold wrap64; omega
  clear hf hlen HE hL hn
  generalize L.length = n at *
  have hx : (((w.alloc (.cells #[.int .i64 p', .int .i64 f', .int .i64 t', .slice (some ⟨b, q, none⟩) (n + 1) c] 59)).alloc (.cells #[.int .i64 p, .int .i64 o, .int .i64 f, .int .i64 m, .int .i64 g, .string s] 34)).alloc (.cells #[.int .i64 p2, .int .i64 o2, .int .i64 f2, .int .i64 m2, .int .i64 g2, .string s2] 34)).heap[w.heap.size + 1]? = some (.cells #[.int .i64 p, .int .i64 o, .int .i64 f, .int .i64 m, .int .i64 g, .string s] 34 (0, 0)) := heap_past _ (heap_new2 _ _ _)
  have hz := heap_new3 w (.cells #[.int .i64 p', .int .i64 f', .int .i64 t', .slice (some ⟨b, q, none⟩) (n + 1) c] 59) (.cells #[.int .i64 p, .int .i64 o, .int .i64 f, .int .i64 m, .int .i64 g, .string s] 34) (.cells #[.int .i64 p2, .int .i64 o2, .int .i64 f2, .int .i64 m2, .int .i64 g2, .string s2] 34)
  have hu := (((Calm.refl w).alloc (.cells #[.int .i64 p', .int .i64 f', .int .i64 t', .slice (some ⟨b, q, none⟩) (n + 1) c] 59)).alloc (.cells #[.int .i64 p, .int .i64 o, .int .i64 f, .int .i64 m, .int .i64 g, .string s] 34)).alloc (.cells #[.int .i64 p2, .int .i64 o2, .int .i64 f2, .int .i64 m2, .int .i64 g2, .string s2] 34)
  go_enter Try.func80, Try.ntmps80
  go_upto_region 4 with fail
  generalize ((w.alloc (.cells #[.int .i64 p', .int .i64 f', .int .i64 t', .slice (some ⟨b, q, none⟩) (n + 1) c] 59)).alloc (.cells #[.int .i64 p, .int .i64 o, .int .i64 f, .int .i64 m, .int .i64 g, .string s] 34)).alloc (.cells #[.int .i64 p2, .int .i64 o2, .int .i64 f2, .int .i64 m2, .int .i64 g2, .string s2] 34) = w1 at hu hx hz ⊢
  obtain ⟨x0, x1, x2, x3, x4, x5, hxs⟩ := row6 hx
  obtain ⟨y0, y1, y2, y3, y4, y5, hys⟩ := row6 hz
  refine wp_region_plan [.val (.agg #[.int .i64 p2, .int .i64 o2, .int .i64 f2, .int .i64 m2, .int .i64 g2, .string s2]), .val (.agg #[.int .i64 p2, .int .i64 o2, .int .i64 f2, .int .i64 m2]), .val (.agg #[.int .i64 p, .int .i64 o, .int .i64 f, .int .i64 m, .int .i64 g, .string s]), .val (.agg #[.int .i64 p, .int .i64 o, .int .i64 f, .int .i64 m]), .val (.int .i64 (S)), .val (.bool (decide (S < 0))), .val (.bool (decide (S < 0)))] (by kernel_rfl) (by kernel_rfl) (by kernel_rfl) ?_
  intro X
  iterate 7
    refine plan_val (by kernel_rfl) (fun u hu => ?_) ?_
    · obtain ⟨hc, hf, hz⟩ := hu.of_drew.facts
      go_simp
      all_goals first
        | ((go_at_call 65; exact spot_any _ _ _ _ _ _ _))
        | ((go_at_call 67; exact cC _))
    simp only [Act.put, List.setIfInBounds_toArray, List.set_cons_zero, List.set_cons_succ, Nat.reduceAdd]
  refine plan_end ?_
  intro w' hB
  have hk := hB.calm.of_drew
  clear hB
  go_wp2_with fail
  go_ret
  exact ⟨rfl, hu.call hk⟩
def covB (p f t : Int) (e : El) : Bool := decide (e.p = p ∧ f < e.last ∧ e.last ≤ t)
set_option maxHeartbeats 4000000 in
theorem covers_any (v : Value) (A : Option Addr) (n c : Nat) (hv : v = .slice A n c) (p' f' t' : Int) (p o f m g : Int) (s : ByteArray) (w : World) :
    Calls Try.prog 79 #[.agg #[.int .i64 p', .int .i64 f', .int .i64 t', v], .agg #[.int .i64 p, .int .i64 o, .int .i64 f, .int .i64 m, .int .i64 g, .string s]] w fun e w' => e = .returned (.bool (covB p' f' t' ⟨p, o, f, m, g, s⟩)) ∧ Calm w w' := by
  subst hv
  have hH : Hid (covB p' f' t' ⟨p, o, f, m, g, s⟩ = decide (p = p' ∧ f' < lastOf m g ∧ lastOf m g ≤ t')) := show _ = _ from rfl
  generalize covB p' f' t' ⟨p, o, f, m, g, s⟩ = r at hH ⊢
  have cL := last_any p o f m g s
  generalize lastOf m g = L at hH cL
  have hx := heap_past (.cells #[.int .i64 p, .int .i64 o, .int .i64 f, .int .i64 m, .int .i64 g, .string s] 34) (heap_new w (.cells #[.int .i64 p', .int .i64 f', .int .i64 t', .slice A n c] 59))
  have hz := heap_new2 w (.cells #[.int .i64 p', .int .i64 f', .int .i64 t', .slice A n c] 59) (.cells #[.int .i64 p, .int .i64 o, .int .i64 f, .int .i64 m, .int .i64 g, .string s] 34)
  have hu := ((Calm.refl w).alloc (.cells #[.int .i64 p', .int .i64 f', .int .i64 t', .slice A n c] 59)).alloc (.cells #[.int .i64 p, .int .i64 o, .int .i64 f, .int .i64 m, .int .i64 g, .string s] 34)
  go_enter Try.func79, Try.ntmps79
  go_wp2_with (go_at_call 28; refine (cL _).mono ?_; rintro e w1 ⟨rfl, hb1⟩; replace hx := (hb1.block (row4 hx).2.2.2.2).trans hx; replace hz := (hb1.block (row6 hz).2.2.2.2.2.2).trans hz; replace hu := hu.call hb1; clear hb1; obtain ⟨x0, x1, x2, x3, hxs⟩ := row4 hx; obtain ⟨y0, y1, y2, y3, y4, y5, hys⟩ := row6 hz)
  all_goals
    go_ret
    exact ⟨ret_bool (by rw [hH.out]; exact Bool.eq_iff_iff.2 (by simp; omega)), hu⟩
open Go.ChangeShapes Go.WideShapes Go.ChangeAt Go.RowKit
/-- What Get answers, by the two ways. -/
theorem get_bad (s : ByteArray) (n : Int) (hd : decErr s.data.toList = n) (hn : n ≠ 0) (w : World) : Calls Try.prog 78 #[.string s] w fun e w' => e = .returned (.tuple #[.agg #[.int .i64 0, .int .i64 0, .int .i64 0, .int .i64 0, .int .i64 0, .string { data := #[] }], .int .i64 0, .int .i64 n]) ∧ Calm w w' :=
 (codeGet_any s w).mono fun e w' ⟨h1, h2⟩ => ⟨by rw [h1, gotEl, gotLen, hd, if_neg hn, if_neg hn]; rfl, h2⟩
theorem get_good (s : ByteArray) (x : El) (N : Nat) (hd : decErr s.data.toList = 0) (hx : decEl s.data.toList = x) (hN : decLen s.data.toList = N) (w : World) : Calls Try.prog 78 #[.string s] w fun e w' => e = .returned (.tuple #[.agg #[.int .i64 x.p, .int .i64 x.o, .int .i64 x.f, .int .i64 x.m, .int .i64 x.g, .string x.s], .int .i64 (N : Int), .int .i64 0]) ∧ Calm w w' :=
 (codeGet_any s w).mono fun e w' ⟨h1, h2⟩ => ⟨by rw [h1, gotEl, gotLen, hd, if_pos rfl, if_pos rfl, hx, hN]; rfl, h2⟩
open Go.RowKit
def nxtOk (kd : Int) (p f t : Int) (M : List El) (b : List UInt8) : Bool := decide (kd = 2) && nxtB p f t M b
def nxtE (kd : Int) (p f t : Int) (M : List El) (b : List UInt8) : El := if nxtOk kd p f t M b = true then decEl b else nilEl
def NxtEnd (kd : Int) (p f t : Int) (M : List El) (b : List UInt8) (w : World) (e : Ending) (w' : World) : Prop := e = .returned (.tuple #[(nxtE kd p f t M b).aggOf, .bool (nxtOk kd p f t M b)]) ∧ Calm w w'
theorem NxtEnd.no {kd p f t : Int} {M : List El} {b : List UInt8} {w : World} (h : nxtOk kd p f t M b = false) : NxtEnd kd p f t M b w = fun e w' => e = .returned (.tuple #[.agg #[.int .i64 0, .int .i64 0, .int .i64 0, .int .i64 0, .int .i64 0, .string { data := #[] }], .bool false]) ∧ Calm w w' := by
 funext e w'
 unfold NxtEnd nxtE
 rw [h]
 rfl
section
variable (A : Option Addr) (c : Nat) (M : List El) (p' f' t' kd : Int) (B : ByteArray) (w : World)
set_option maxHeartbeats 4000000 in
/-- Where the frame has another kind, or is no encoding of a record, or of more. -/
theorem next_form (hn : kd ≠ 2 ∨ decErr B.data.toList ≠ 0 ∨ decLen B.data.toList ≠ B.size) :
    Calls Try.prog 63 #[.agg #[.int .i64 p', .int .i64 f', .int .i64 t', .slice A M.length c], .agg #[.int .i64 kd, .string B]] w (NxtEnd kd p' f' t' M B.data.toList w) := by
  have h0 : nxtOk kd p' f' t' M B.data.toList = false := by
    unfold nxtOk nxtB
    rw [Bool.and_eq_false_iff, decide_eq_false_iff_not, decide_eq_false_iff_not, bytes_len]
    omega
  rw [NxtEnd.no h0]
  clear h0
  have hz := heap_new3 w (.cells #[.int .i64 p', .int .i64 f', .int .i64 t', .slice A M.length c] 59) (.cells #[.int .i64 kd, .string B] 73) (.cells #[.int .i64 0, .int .i64 0, .int .i64 0, .int .i64 0, .int .i64 0, .string { data := #[] }] 34)
  have hy := heap_past (.cells #[.int .i64 0, .int .i64 0, .int .i64 0, .int .i64 0, .int .i64 0, .string { data := #[] }] 34) (heap_new2 w (.cells #[.int .i64 p', .int .i64 f', .int .i64 t', .slice A M.length c] 59) (.cells #[.int .i64 kd, .string B] 73))
  have hu := (((Calm.refl w).alloc (.cells #[.int .i64 p', .int .i64 f', .int .i64 t', .slice A M.length c] 59)).alloc (.cells #[.int .i64 kd, .string B] 73)).alloc (.cells #[.int .i64 0, .int .i64 0, .int .i64 0, .int .i64 0, .int .i64 0, .string { data := #[] }] 34)
  obtain ⟨X, N, E, cG, hc⟩ : ∃ (X : El) (N E : Int), (∀ u, Calls Try.prog 78 #[.string B] u fun e w' => e = .returned (.tuple #[.agg #[.int .i64 X.p, .int .i64 X.o, .int .i64 X.f, .int .i64 X.m, .int .i64 X.g, .string X.s], .int .i64 N, .int .i64 E]) ∧ Calm u w') ∧ ((kd != 2) = true ∨ (kd != 2) = false ∧ (E != 0) = true ∨ (kd != 2) = false ∧ (E != 0) = false ∧ (N != (B.size : Int)) = true) := by
    by_cases hd : decErr B.data.toList = 0
    · refine ⟨_, _, _, fun u => get_good B _ _ hd rfl rfl u, ?_⟩
      by_cases hk : kd = 2
      · right; right
        refine ⟨by simpa using hk, by simp, ?_⟩
        rw [bne_iff_ne]
        omega
      · left; simpa using hk
    · refine ⟨nilEl, 0, _, fun u => get_bad B _ rfl hd u, ?_⟩
      by_cases hk : kd = 2
      · exact .inr (.inl ⟨by simpa using hk, ne_true' hd⟩)
      · left; simpa using hk
  obtain ⟨p, o, f, m, g, s⟩ := X
  simp only at cG
  clear hn
  go_enter Try.func63, Try.ntmps63
  go_upto_region 1 with fail
  generalize ((w.alloc (.cells #[.int .i64 p', .int .i64 f', .int .i64 t', .slice A M.length c] 59)).alloc (.cells #[.int .i64 kd, .string B] 73)).alloc (.cells #[.int .i64 0, .int .i64 0, .int .i64 0, .int .i64 0, .int .i64 0, .string { data := #[] }] 34) = w1 at hu hz hy ⊢
  obtain ⟨y0, y1, hys⟩ := row2 hy
  rcases hc with b1 | ⟨b1, b2⟩ | ⟨b1, b2, b3⟩
  all_goals
    go_wp2_with (go_at_call 78; refine (cG _).mono ?_; rintro e w2 ⟨rfl, hb1⟩; replace hy := heap_past (.cells #[.int .i64 p, .int .i64 o, .int .i64 f, .int .i64 m, .int .i64 g, .string s] 34) ((hb1.block (row2 hy).2.2).trans hy); replace hz := heap_past (.cells #[.int .i64 p, .int .i64 o, .int .i64 f, .int .i64 m, .int .i64 g, .string s] 34) ((hb1.block (row6 hz).2.2.2.2.2.2).trans hz); replace hu := (hu.call hb1).alloc (.cells #[.int .i64 p, .int .i64 o, .int .i64 f, .int .i64 m, .int .i64 g, .string s] 34); clear hb1; obtain ⟨y0, y1, hys⟩ := row2 hy; obtain ⟨z0, z1, z2, z3, z4, z5, hzs⟩ := row6 hz; obtain ⟨f0, f1, f2, f3, f4, f5⟩ := free6 hz)
    have hr := set6 hz (.int .i64 0) (.int .i64 0) (.int .i64 0) (.int .i64 0) (.int .i64 0) (.string { data := #[] })
    have hu2 := hu.six (g := w.heap.size + 1 + 1) (by omega) (.int .i64 0) (.int .i64 0) (.int .i64 0) (.int .i64 0) (.int .i64 0) (.string { data := #[] })
    unfold World.six at hr hu2
    exact end_two rfl rfl _ _ _ _ _ _ _ rfl rfl rfl hr rfl ⟨rfl, hu2⟩
set_option maxHeartbeats 4000000 in
/-- Where it is an encoding of one record. -/
theorem next_rest (hk : kd = 2) (hd : decErr B.data.toList = 0) (hN : decLen B.data.toList = B.size) (hn : M.length ≤ 9223372036854775807) (hL : Lies w A M) :
    Calls Try.prog 63 #[.agg #[.int .i64 p', .int .i64 f', .int .i64 t', .slice A M.length c], .agg #[.int .i64 kd, .string B]] w (NxtEnd kd p' f' t' M B.data.toList w) := by
  have h0 : nxtOk kd p' f' t' M B.data.toList = (covB p' f' t' (decEl B.data.toList) && folB M (decEl B.data.toList)) := by
    unfold nxtOk nxtB covB
    rw [decide_eq_true hk, Bool.true_and, bytes_len]
    rw [Bool.eq_iff_iff, Bool.and_eq_true, decide_eq_true_eq, decide_eq_true_eq]
    constructor
    · rintro ⟨_, _, h3, h4, h5, h6⟩
      exact ⟨⟨h3, h4, h5⟩, h6⟩
    · rintro ⟨⟨h3, h4, h5⟩, h6⟩
      exact ⟨hd, hN, h3, h4, h5, h6⟩
  have hE : Hid (nxtE kd p' f' t' M B.data.toList = if nxtOk kd p' f' t' M B.data.toList = true then decEl B.data.toList else nilEl) := show _ = _ from rfl
  have cG := fun u => get_good B _ _ hd rfl rfl u
  have hm : -9223372036854775808 ≤ (decEl B.data.toList).m := by have := err_zero (decErr_zero hd).2.2; omega
  unfold NxtEnd
  generalize nxtE kd p' f' t' M B.data.toList = OUT at hE ⊢
  rw [hN] at cG
  rw [h0] at hE ⊢
  generalize decEl B.data.toList = X at cG hE hm ⊢
  obtain ⟨p, o, f, m, g, s⟩ := X
  simp only at cG
  have cC := fun u => covers_any (.slice A M.length c) A M.length c rfl p' f' t' p o f m g s u
  have cP := fun u (hu : Calm w u) => precedes_any A c M p' f' t' p o f m g s u hn (hL.calm hu)
  generalize covB p' f' t' ⟨p, o, f, m, g, s⟩ = r1 at cC hE ⊢
  generalize folB M ⟨p, o, f, m, g, s⟩ = r2 at cP hE ⊢
  have b1 : (kd != 2) = false := by simpa using hk
  have hz := heap_new3 w (.cells #[.int .i64 p', .int .i64 f', .int .i64 t', .slice A M.length c] 59) (.cells #[.int .i64 kd, .string B] 73) (.cells #[.int .i64 0, .int .i64 0, .int .i64 0, .int .i64 0, .int .i64 0, .string { data := #[] }] 34)
  have hy := heap_past (.cells #[.int .i64 0, .int .i64 0, .int .i64 0, .int .i64 0, .int .i64 0, .string { data := #[] }] 34) (heap_new2 w (.cells #[.int .i64 p', .int .i64 f', .int .i64 t', .slice A M.length c] 59) (.cells #[.int .i64 kd, .string B] 73))
  have hx := heap_past (.cells #[.int .i64 0, .int .i64 0, .int .i64 0, .int .i64 0, .int .i64 0, .string { data := #[] }] 34) (heap_past (.cells #[.int .i64 kd, .string B] 73) (heap_new w (.cells #[.int .i64 p', .int .i64 f', .int .i64 t', .slice A M.length c] 59)))
  have hu := (((Calm.refl w).alloc (.cells #[.int .i64 p', .int .i64 f', .int .i64 t', .slice A M.length c] 59)).alloc (.cells #[.int .i64 kd, .string B] 73)).alloc (.cells #[.int .i64 0, .int .i64 0, .int .i64 0, .int .i64 0, .int .i64 0, .string { data := #[] }] 34)
  clear hk hd hN hL h0 hn
  cases r1
  · have HE : Hid (OUT = nilEl) := hE.out
    rw [HE.out, Bool.false_and]
    clear hE cP HE
    go_enter Try.func63, Try.ntmps63
    go_upto_region 1 with fail
    generalize ((w.alloc (.cells #[.int .i64 p', .int .i64 f', .int .i64 t', .slice A M.length c] 59)).alloc (.cells #[.int .i64 kd, .string B] 73)).alloc (.cells #[.int .i64 0, .int .i64 0, .int .i64 0, .int .i64 0, .int .i64 0, .string { data := #[] }] 34) = w1 at hu hz hy hx ⊢
    obtain ⟨y0, y1, hys⟩ := row2 hy
    obtain ⟨x0, x1, x2, x3, hxs⟩ := row4 hx
    go_wp2_with (first
      | (go_at_call 78; refine (cG _).mono ?_; rintro e w2 ⟨rfl, hb1⟩; replace hx := heap_past (.cells #[.int .i64 p, .int .i64 o, .int .i64 f, .int .i64 m, .int .i64 g, .string s] 34) ((hb1.block (row4 hx).2.2.2.2).trans hx); replace hy := heap_past (.cells #[.int .i64 p, .int .i64 o, .int .i64 f, .int .i64 m, .int .i64 g, .string s] 34) ((hb1.block (row2 hy).2.2).trans hy); replace hz := heap_past (.cells #[.int .i64 p, .int .i64 o, .int .i64 f, .int .i64 m, .int .i64 g, .string s] 34) ((hb1.block (row6 hz).2.2.2.2.2.2).trans hz); have hv := heap_new w2 (.cells #[.int .i64 p, .int .i64 o, .int .i64 f, .int .i64 m, .int .i64 g, .string s] 34); replace hu := (hu.call hb1).alloc (.cells #[.int .i64 p, .int .i64 o, .int .i64 f, .int .i64 m, .int .i64 g, .string s] 34); clear hb1; obtain ⟨x0, x1, x2, x3, hxs⟩ := row4 hx; obtain ⟨y0, y1, hys⟩ := row2 hy; obtain ⟨z0, z1, z2, z3, z4, z5, hzs⟩ := row6 hz; obtain ⟨v0, v1, v2, v3, v4, v5, hvs⟩ := row6 hv)
      | (go_at_call 79; refine (cC _).mono ?_; rintro e w3 ⟨rfl, hb1⟩; replace hx := (hb1.block (row4 hx).2.2.2.2).trans hx; replace hv := (hb1.block (row6 hv).2.2.2.2.2.2).trans hv; replace hz := (hb1.block (row6 hz).2.2.2.2.2.2).trans hz; replace hu := hu.call hb1; clear hb1; obtain ⟨x0, x1, x2, x3, hxs⟩ := row4 hx; obtain ⟨z0, z1, z2, z3, z4, z5, hzs⟩ := row6 hz; obtain ⟨f0, f1, f2, f3, f4, f5⟩ := free6 hz; obtain ⟨v0, v1, v2, v3, v4, v5, hvs⟩ := row6 hv))
    have hr := set6 hz (.int .i64 0) (.int .i64 0) (.int .i64 0) (.int .i64 0) (.int .i64 0) (.string { data := #[] })
    have hu2 := hu.six (g := w.heap.size + 1 + 1) (by omega) (.int .i64 0) (.int .i64 0) (.int .i64 0) (.int .i64 0) (.int .i64 0) (.string { data := #[] })
    unfold World.six at hr hu2
    exact end_two rfl rfl _ _ _ _ _ _ _ rfl rfl rfl hr rfl ⟨rfl, hu2⟩
  · cases r2
    · have HE : Hid (OUT = nilEl) := hE.out
      rw [HE.out, Bool.true_and]
      clear hE HE
      go_enter Try.func63, Try.ntmps63
      go_upto_region 1 with fail
      generalize ((w.alloc (.cells #[.int .i64 p', .int .i64 f', .int .i64 t', .slice A M.length c] 59)).alloc (.cells #[.int .i64 kd, .string B] 73)).alloc (.cells #[.int .i64 0, .int .i64 0, .int .i64 0, .int .i64 0, .int .i64 0, .string { data := #[] }] 34) = w1 at hu hz hy hx ⊢
      obtain ⟨y0, y1, hys⟩ := row2 hy
      obtain ⟨x0, x1, x2, x3, hxs⟩ := row4 hx
      go_wp2_with (first
        | (go_at_call 78; refine (cG _).mono ?_; rintro e w2 ⟨rfl, hb1⟩; replace hx := heap_past (.cells #[.int .i64 p, .int .i64 o, .int .i64 f, .int .i64 m, .int .i64 g, .string s] 34) ((hb1.block (row4 hx).2.2.2.2).trans hx); replace hy := heap_past (.cells #[.int .i64 p, .int .i64 o, .int .i64 f, .int .i64 m, .int .i64 g, .string s] 34) ((hb1.block (row2 hy).2.2).trans hy); replace hz := heap_past (.cells #[.int .i64 p, .int .i64 o, .int .i64 f, .int .i64 m, .int .i64 g, .string s] 34) ((hb1.block (row6 hz).2.2.2.2.2.2).trans hz); have hv := heap_new w2 (.cells #[.int .i64 p, .int .i64 o, .int .i64 f, .int .i64 m, .int .i64 g, .string s] 34); replace hu := (hu.call hb1).alloc (.cells #[.int .i64 p, .int .i64 o, .int .i64 f, .int .i64 m, .int .i64 g, .string s] 34); clear hb1; obtain ⟨x0, x1, x2, x3, hxs⟩ := row4 hx; obtain ⟨y0, y1, hys⟩ := row2 hy; obtain ⟨z0, z1, z2, z3, z4, z5, hzs⟩ := row6 hz; obtain ⟨v0, v1, v2, v3, v4, v5, hvs⟩ := row6 hv)
        | (go_at_call 79; refine (cC _).mono ?_; rintro e w3 ⟨rfl, hb1⟩; replace hx := (hb1.block (row4 hx).2.2.2.2).trans hx; replace hv := (hb1.block (row6 hv).2.2.2.2.2.2).trans hv; replace hz := (hb1.block (row6 hz).2.2.2.2.2.2).trans hz; replace hu := hu.call hb1; clear hb1; obtain ⟨x0, x1, x2, x3, hxs⟩ := row4 hx; obtain ⟨z0, z1, z2, z3, z4, z5, hzs⟩ := row6 hz; obtain ⟨f0, f1, f2, f3, f4, f5⟩ := free6 hz; obtain ⟨v0, v1, v2, v3, v4, v5, hvs⟩ := row6 hv)
        | (go_at_call 80; refine (cP _ hu).mono ?_; rintro e w4 ⟨rfl, hb1⟩; replace hv := (hb1.block (row6 hv).2.2.2.2.2.2).trans hv; replace hz := (hb1.block (row6 hz).2.2.2.2.2.2).trans hz; replace hu := hu.call hb1; clear hb1; obtain ⟨z0, z1, z2, z3, z4, z5, hzs⟩ := row6 hz; obtain ⟨f0, f1, f2, f3, f4, f5⟩ := free6 hz; obtain ⟨v0, v1, v2, v3, v4, v5, hvs⟩ := row6 hv))
      have hr := set6 hz (.int .i64 0) (.int .i64 0) (.int .i64 0) (.int .i64 0) (.int .i64 0) (.string { data := #[] })
      have hu2 := hu.six (g := w.heap.size + 1 + 1) (by omega) (.int .i64 0) (.int .i64 0) (.int .i64 0) (.int .i64 0) (.int .i64 0) (.string { data := #[] })
      unfold World.six at hr hu2
      exact end_two rfl rfl _ _ _ _ _ _ _ rfl rfl rfl hr rfl ⟨rfl, hu2⟩
    · have HE : Hid (OUT = ⟨p, o, f, m, g, s⟩) := hE.out
      rw [HE.out, Bool.true_and]
      clear hE HE
      go_enter Try.func63, Try.ntmps63
      go_upto_region 1 with fail
      generalize ((w.alloc (.cells #[.int .i64 p', .int .i64 f', .int .i64 t', .slice A M.length c] 59)).alloc (.cells #[.int .i64 kd, .string B] 73)).alloc (.cells #[.int .i64 0, .int .i64 0, .int .i64 0, .int .i64 0, .int .i64 0, .string { data := #[] }] 34) = w1 at hu hz hy hx ⊢
      obtain ⟨y0, y1, hys⟩ := row2 hy
      obtain ⟨x0, x1, x2, x3, hxs⟩ := row4 hx
      go_wp2_with (first
        | (go_at_call 78; refine (cG _).mono ?_; rintro e w2 ⟨rfl, hb1⟩; replace hx := heap_past (.cells #[.int .i64 p, .int .i64 o, .int .i64 f, .int .i64 m, .int .i64 g, .string s] 34) ((hb1.block (row4 hx).2.2.2.2).trans hx); replace hy := heap_past (.cells #[.int .i64 p, .int .i64 o, .int .i64 f, .int .i64 m, .int .i64 g, .string s] 34) ((hb1.block (row2 hy).2.2).trans hy); replace hz := heap_past (.cells #[.int .i64 p, .int .i64 o, .int .i64 f, .int .i64 m, .int .i64 g, .string s] 34) ((hb1.block (row6 hz).2.2.2.2.2.2).trans hz); have hv := heap_new w2 (.cells #[.int .i64 p, .int .i64 o, .int .i64 f, .int .i64 m, .int .i64 g, .string s] 34); replace hu := (hu.call hb1).alloc (.cells #[.int .i64 p, .int .i64 o, .int .i64 f, .int .i64 m, .int .i64 g, .string s] 34); clear hb1; obtain ⟨x0, x1, x2, x3, hxs⟩ := row4 hx; obtain ⟨y0, y1, hys⟩ := row2 hy; obtain ⟨z0, z1, z2, z3, z4, z5, hzs⟩ := row6 hz; obtain ⟨v0, v1, v2, v3, v4, v5, hvs⟩ := row6 hv)
        | (go_at_call 79; refine (cC _).mono ?_; rintro e w3 ⟨rfl, hb1⟩; replace hx := (hb1.block (row4 hx).2.2.2.2).trans hx; replace hv := (hb1.block (row6 hv).2.2.2.2.2.2).trans hv; replace hz := (hb1.block (row6 hz).2.2.2.2.2.2).trans hz; replace hu := hu.call hb1; clear hb1; obtain ⟨x0, x1, x2, x3, hxs⟩ := row4 hx; obtain ⟨z0, z1, z2, z3, z4, z5, hzs⟩ := row6 hz; obtain ⟨f0, f1, f2, f3, f4, f5⟩ := free6 hz; obtain ⟨v0, v1, v2, v3, v4, v5, hvs⟩ := row6 hv)
        | (go_at_call 80; refine (cP _ hu).mono ?_; rintro e w4 ⟨rfl, hb1⟩; replace hv := (hb1.block (row6 hv).2.2.2.2.2.2).trans hv; replace hz := (hb1.block (row6 hz).2.2.2.2.2.2).trans hz; replace hu := hu.call hb1; clear hb1; obtain ⟨z0, z1, z2, z3, z4, z5, hzs⟩ := row6 hz; obtain ⟨f0, f1, f2, f3, f4, f5⟩ := free6 hz; obtain ⟨v0, v1, v2, v3, v4, v5, hvs⟩ := row6 hv))
      have hr := set6 hz (.int .i64 p) (.int .i64 o) (.int .i64 f) (.int .i64 m) (.int .i64 g) (.string s)
      have hu2 := hu.six (g := w.heap.size + 1 + 1) (by omega) (.int .i64 p) (.int .i64 o) (.int .i64 f) (.int .i64 m) (.int .i64 g) (.string s)
      unfold World.six at hr hu2
      exact end_two rfl rfl _ _ _ _ _ _ _ rfl rfl rfl hr rfl ⟨rfl, hu2⟩
theorem next_any (hn : M.length ≤ 9223372036854775807) (hL : Lies w A M) :
    Calls Try.prog 63 #[.agg #[.int .i64 p', .int .i64 f', .int .i64 t', .slice A M.length c], .agg #[.int .i64 kd, .string B]] w (NxtEnd kd p' f' t' M B.data.toList w) := by
  by_cases h : kd ≠ 2 ∨ decErr B.data.toList ≠ 0 ∨ decLen B.data.toList ≠ B.size
  · exact next_form A c M p' f' t' kd B w h
  · exact next_rest A c M p' f' t' kd B w (by omega) (by omega) (by omega) hn hL
end
open Go.RowKit
set_option maxHeartbeats 1000000 in
theorem batCheck_eq (p f t : Int) (w : World) : Calls Try.prog 25 #[.int .i64 p, .int .i64 f, .int .i64 t] w fun e w' => e = .returned (.int .i64 (spanErr p f t)) ∧ w = w' := by
 go_enter Try.func25, Try.ntmps25
 go_wp2
 all_goals
  go_ret
  exact ⟨ret_int (by first | exact span1 (by omega) | exact span9 (by omega) (by omega) (by omega) | exact span0 (by omega) (by omega) (by omega) (by omega) (by omega)), rfl⟩
theorem quad_ext (s : ByteArray) (i j n : Nat) (hj : j = i + 4) (hn : num (part s.data.toList i 4) = n) (w : World) : Calls Try.prog 76 #[.string (s.extract i j)] w fun e w' => e = .returned (.int .i64 (n : Int)) ∧ w = w' := by
 subst hj
 have := number_any (s.extract i (i + 4)) w (by rw [ByteArray.size_extract]; omega)
 rw [part_extract, Nat.add_sub_cancel_left, hn] at this
 exact this
/-- Two results: a batch that lies in memory, and a temporary. -/
theorem results_bat {fn : Func} {p q : Tmp} (h : fn.results = #[.cell p 59, .tmp q]) (tmps : Array Value) (w : World) (g : Nat) (t : TypeId) (cs : Array Value) (v : Value) (fr : Nat × Nat)
    (hp : tmps.getD p undef = .pointer (some ⟨g, 0, none⟩)) (hq : tmps.getD q undef = v) (hg : w.heap[g]? = some (.cells cs t fr)) (hsz : cs.size = 4) :
    (results fn tmps).run Try.prog w = .ok (.tuple #[.agg cs, v]) w := by
  have hp' : tmps[p]?.getD undef = .pointer (some ⟨g, 0, none⟩) := by simpa using hp
  have hq' : tmps[q]?.getD undef = v := by simpa using hq
  have hi : (Try.prog.info? 59).map (·.size) = some cs.size := by rw [hsz]; kernel_rfl
  simp [results, h, hp', hq', asAddr, run_loadVar_row w g t 59 cs fr _ hg Try.underlying59 rfl hi]
theorem end_bat {P : Program} {fn : Func} {p q : Tmp} {Q : Ending → World → Prop} (hP : P = Try.prog) (h : fn.results = #[.cell p 59, .tmp q]) (a : Act) (w : World) (g : Nat) (t : TypeId) (cs : Array Value) (v : Value) (fr : Nat × Nat) (hd : a.defers = [])
    (hp : a.tmps.getD p undef = .pointer (some ⟨g, 0, none⟩)) (hq : a.tmps.getD q undef = v) (hg : w.heap[g]? = some (.cells cs t fr)) (hsz : cs.size = 4) (hQ : Q (.returned (.tuple #[.agg cs, v])) w) : bodyPost P fn Q .ret a w := by
  subst hP
  exact bodyPost_ret (v := .tuple #[.agg cs, v]) (results_bat h a.tmps w g t cs v fr hp hq hg hsz) hd hQ
def bg0 (b : List UInt8) : Nat := num (part b 0 4)
def bg1 (b : List UInt8) : Nat := num (part b 4 4)
def bg2 (b : List UInt8) : Nat := num (part b 8 4)
def begOk (kd : Int) (b : List UInt8) : Prop := kd = 1 ∧ b.length = 12 ∧ spanErr (bg0 b) (bg1 b) (bg2 b) = 0
instance (kd : Int) (b : List UInt8) : Decidable (begOk kd b) := by unfold begOk; infer_instance
def BegBad (w : World) (e : Ending) (w' : World) : Prop := e = .returned (.tuple #[.agg #[.int .i64 0, .int .i64 0, .int .i64 0, .slice none 0 0], .bool false]) ∧ Calm w w'
def BegGood (a b c : Nat) (w : World) (e : Ending) (w' : World) : Prop := e = .returned (.tuple #[.agg #[.int .i64 (a : Int), .int .i64 (b : Int), .int .i64 (c : Int), .slice none 0 0], .bool true]) ∧ Calm w w'
set_option maxHeartbeats 4000000 in
theorem begin_form (kd : Int) (B : ByteArray) (w : World) (h : kd ≠ 1 ∨ B.size ≠ 12) :
    Calls Try.prog 62 #[.agg #[.int .i64 kd, .string B]] w (BegBad w) := by
  unfold BegBad
  have hc : (kd != 1) = true ∨ (kd != 1) = false ∧ ((B.size : Int) != 12) = true := by
    by_cases hk : kd = 1
    · right; refine ⟨by simpa using hk, ?_⟩; rw [bne_iff_ne]; omega
    · left; simpa using hk
  clear h
  rcases hc with b1 | ⟨b1, b2⟩
  all_goals
    go_enter Try.func62, Try.ntmps62
    go_wp2
    exact end_bat rfl rfl _ _ (w.heap.size + 1) _ _ _ (0, 0) rfl rfl rfl (heap_new2 _ _ _) rfl ⟨rfl, ((Calm.refl _).alloc _).alloc _⟩
set_option maxHeartbeats 8000000 in
theorem begin_rest (kd : Int) (B : ByteArray) (w : World) (h1 : kd = 1) (h2 : B.size = 12) :
    Calls Try.prog 62 #[.agg #[.int .i64 kd, .string B]] w (if spanErr (bg0 B.data.toList) (bg1 B.data.toList) (bg2 B.data.toList) = 0 then BegGood (bg0 B.data.toList) (bg1 B.data.toList) (bg2 B.data.toList) w else BegBad w) := by
  have c1 := fun u => quad_ext B 0 4 (bg0 B.data.toList) rfl rfl u
  have c2 := fun u => quad_ext B 4 8 (bg1 B.data.toList) rfl rfl u
  have c3 := fun u => quad_ext B 8 12 (bg2 B.data.toList) rfl rfl u
  generalize bg0 B.data.toList = a at *
  generalize bg1 B.data.toList = b at *
  generalize bg2 B.data.toList = c at *
  have cS := fun u => batCheck_eq a b c u
  subst h1
  have b2 : ((B.size : Int) != 12) = false := by rw [bne_eq_false_iff_eq]; omega
  have hB : (B.size : Int) = 12 := by omega
  by_cases hs : spanErr (a : Int) b c = 0
  · rw [if_pos hs]
    rw [hs] at cS
    clear hs h2
    unfold BegGood
    go_enter Try.func62, Try.ntmps62
    go_wp2_with fail
    refine wp_loop_rounds 4 ?_
    rw [rounds_succ]
    go_wp2_with (go_at_call 76; refine (c1 _).mono ?_; rintro e w1 ⟨rfl, rfl⟩)
    rw [rounds_succ]
    go_wp2_with (go_at_call 76; refine (c2 _).mono ?_; rintro e w1 ⟨rfl, rfl⟩)
    rw [rounds_succ]
    go_wp2_with (go_at_call 76; refine (c3 _).mono ?_; rintro e w1 ⟨rfl, rfl⟩)
    rw [rounds_succ]
    go_wp2_with (go_at_call 25; refine (cS _).mono ?_; rintro e w1 ⟨rfl, rfl⟩)
    exact end_bat rfl rfl _ _ (w.heap.size + 1) _ _ _ (0, 0) rfl rfl rfl (heap_past _ (heap_past _ (heap_new2 _ _ _))) rfl ⟨rfl, by repeat (first | (with_reducible exact Calm.refl _) | (with_reducible refine Calm.alloc ?_ _) | (with_reducible refine Calm.drew ?_) | (with_reducible refine Calm.drewN ?_ _) | (refine Calm.call ?_ (by with_reducible assumption)))⟩
  · rw [if_neg hs]
    have b3 := ne_true' hs
    generalize spanErr (a : Int) b c = E at cS b3
    clear hs h2
    unfold BegBad
    go_enter Try.func62, Try.ntmps62
    go_wp2_with fail
    refine wp_loop_rounds 4 ?_
    rw [rounds_succ]
    go_wp2_with (go_at_call 76; refine (c1 _).mono ?_; rintro e w1 ⟨rfl, rfl⟩)
    rw [rounds_succ]
    go_wp2_with (go_at_call 76; refine (c2 _).mono ?_; rintro e w1 ⟨rfl, rfl⟩)
    rw [rounds_succ]
    go_wp2_with (go_at_call 76; refine (c3 _).mono ?_; rintro e w1 ⟨rfl, rfl⟩)
    rw [rounds_succ]
    go_wp2_with (go_at_call 25; refine (cS _).mono ?_; rintro e w1 ⟨rfl, rfl⟩)
    exact end_bat rfl rfl _ _ (w.heap.size + 1) _ _ _ (0, 0) rfl rfl rfl (heap_past _ (heap_past _ (heap_new2 _ _ _))) rfl ⟨rfl, by repeat (first | (with_reducible exact Calm.refl _) | (with_reducible refine Calm.alloc ?_ _) | (with_reducible refine Calm.drew ?_) | (with_reducible refine Calm.drewN ?_ _) | (refine Calm.call ?_ (by with_reducible assumption)))⟩
def BegEnd (kd : Int) (b : List UInt8) (w : World) : Ending → World → Prop := if begOk kd b then BegGood (bg0 b) (bg1 b) (bg2 b) w else BegBad w
theorem begin_any (kd : Int) (B : ByteArray) (w : World) : Calls Try.prog 62 #[.agg #[.int .i64 kd, .string B]] w (BegEnd kd B.data.toList w) := by
 unfold BegEnd
 by_cases h : kd ≠ 1 ∨ B.size ≠ 12
 ·rw [if_neg (by unfold begOk; rw [bytes_len]; omega)]
  exact begin_form kd B w h
 ·have := begin_rest kd B w (by omega) (by omega)
  by_cases hs : spanErr (bg0 B.data.toList : Int) (bg1 B.data.toList) (bg2 B.data.toList) = 0
  ·rw [if_pos hs] at this
   rw [if_pos ⟨by omega, by rw [bytes_len]; omega, hs⟩]
   exact this
  ·rw [if_neg hs] at this
   rw [if_neg fun h => hs h.2.2]
   exact this
end Go.Proofs.Ytadjnnmpgaajnaa
