/- From what a law's call leaves to the row: the answer is true, and every argument reads as it did. How keys, spots and records read. -/
import Derived.Test.YtccfcloekjogkaaMem
import Derived.Deep.Slices
import Derived.ProofKit
import Derived.OpenShut
import Derived.Lib.SmallJoins
namespace Go.Proofs.Ytccfcloekjogkaa
open Go.ChangeShapes Go.WideShapes Go.ChangeAt Go.RowKit

set_option maxRecDepth 100000 in
theorem own : ownKnob Try.prog.godebug = none := by kernel_rfl
set_option maxRecDepth 100000 in
theorem laidOut : laidOutB Try.prog = true := by kernel_rfl

section
variable {H : Type} {enc : TypeId × Value → H} {P : Program}
set_option maxRecDepth 100000 in
theorem trodAll_stays (hl : laidOutB P = true) {W W' : World} (hb : Calm W W') : ∀ (ts : List TypeId) (vs : List Value) (ds : List (DataW H)) (ps : List MemPlace), ts.all (fun t => P.readableRec t && decide (t < P.types.size)) = true →
    DataW.TrodAll enc P W 0 (fun _ => true) true ts vs ds ps → (∀ x ∈ ps, x.block < W.heap.size) → DataW.TrodAll enc P W' 0 (fun b => decide (b < W.heap.size)) true ts vs ds ps
  | [], [], [], ps, _, h, _ => h
  | t :: ts, v :: vs, d :: ds, ps, ht, h, hlt => by
    obtain ⟨p, q, h1, h2, rfl⟩ := h
    simp only [List.all_cons, Bool.and_eq_true, decide_eq_true_eq] at ht
    exact ⟨p, q, Below.trod hl ht.1.1 ht.1.2 h1 hb fun x hx => hlt x (List.mem_append_left _ hx), trodAll_stays hl hb ts vs ds q (by simpa using ht.2) h2 fun x hx => hlt x (List.mem_append_right _ hx), rfl⟩
  | [], _ :: _, _, _, _, h, _ => absurd h (by simp [DataW.TrodAll])
  | [], [], _ :: _, _, _, h, _ => absurd h (by simp [DataW.TrodAll])
  | _ :: _, [], _, _, _, h, _ => absurd h (by simp [DataW.TrodAll])
  | _ :: _, _ :: _, [], _, _, h, _ => absurd h (by simp [DataW.TrodAll])

set_option maxRecDepth 100000 in
/-- The row's post, of a law: it answers true, and nothing that was there has turned. -/
theorem law_post (hl : laidOutB P = true) {f : Func} {s : ChangeSpec} {apart fresh handsOn : Bool} {W W' : World} {args : Array Value} {ds gs : List (DataW H)} {before : List MemPlace}
    (hW : DataW.Whole enc P f.params.toList s.vars apart W args.toList ds gs before) (hb : Calm W W') (hbool : ∃ t, f.resultTypes = #[t] ∧ P.underlying t = some .bool)
    (hts : f.params.toList.all (fun t => P.readableRec t && decide (t < P.types.size)) = true) (hvars : s.vars = []) (hspec : (s.fn H (ds ++ gs)).results = [.lit (.bool true)] ∧ (s.fn H (ds ++ gs)).args = ds ∧ (s.fn H (ds ++ gs)).vars = []) :
    s.post enc P f apart fresh handsOn false W args (.bool true) W' := by
  obtain ⟨t, ht, hu⟩ := hbool
  obtain ⟨h1, h2, h3⟩ := hspec
  have hlt := hW.lt
  obtain ⟨p, q, hA, hV, rfl, hz, hn⟩ := id hW
  rw [hvars] at hV
  obtain ⟨rfl, rfl⟩ := trodVars_none hV
  refine ⟨ds, [], p ++ [], [], p, [], hW, ?_, ?_, ?_, World.keptBut_mono (fun _ h => h) (Below.frame hb _), fun h => by cases h⟩
  · rw [h1, ht]
    exact trodAll_mk1 (shut_bool hu true)
  · rw [h2]
    exact trodAll_stays hl hb _ _ _ _ hts hA fun x hx => hlt x (by simpa using hx)
  · rw [h3, hvars]
    exact rfl
end

/-! ### How keys, spots and records read -/
section
variable {H : Type} {enc : TypeId × Value → H} {w : World} {base : Nat} {spare : Nat → Bool} {held : Bool}

set_option maxRecDepth 100000 in
theorem cellsInt : Try.prog.cellsOf 3 = 1 := by kernel_rfl
set_option maxRecDepth 100000 in
theorem cellsStr : Try.prog.cellsOf 9 = 1 := by kernel_rfl
set_option maxRecDepth 100000 in
theorem cellsKey : Try.prog.cellsOf 31 = 3 := by kernel_rfl
set_option maxRecDepth 100000 in
theorem cellsSpot : Try.prog.cellsOf 47 = 4 := by kernel_rfl
set_option maxRecDepth 100000 in
theorem cellsElem : Try.prog.cellsOf 33 = 6 := by kernel_rfl

set_option maxRecDepth 100000 in
theorem wf_range {n : Int} (h : (Lit.int .i64 n).wf = true) : -9223372036854775808 ≤ n ∧ n ≤ 9223372036854775807 := by
  have e1 : IntKind.i64.min = -9223372036854775808 := by decide
  simp [Lit.wf] at h
  omega

set_option maxRecDepth 100000 in
theorem key_cells {fuel : Nat} {cs : List Value} {x : DataW H × List MemPlace} (h : DataW.trod enc Try.prog w base spare held fuel 31 cs = some x) :
    ∃ p o f : Int, cs = [.int .i64 p, .int .i64 o, .int .i64 f] ∧ (Lit.int .i64 p).wf = true ∧ (Lit.int .i64 o).wf = true ∧ (Lit.int .i64 f).wf = true := by
  obtain ⟨y0, y1, y2, n, _, hl, h0, h1, h2⟩ := Go.Deep.trod_struct3 Try.underlying31 h
  obtain ⟨p, e0, _, w0⟩ := DataW.trod_int Try.underlying3 h0
  obtain ⟨o, e1, _, w1⟩ := DataW.trod_int Try.underlying3 h1
  obtain ⟨f, e2, _, w2⟩ := DataW.trod_int Try.underlying3 h2
  simp only [cellsInt, cellsKey] at e0 e1 e2 hl
  match cs, hl with
  | [c0, c1, c2], _ =>
    simp at e0 e1 e2
    exact ⟨p, o, f, by rw [e0, e1, e2], w0, w1, w2⟩

set_option maxRecDepth 100000 in
theorem spot_cells {fuel : Nat} {cs : List Value} {x : DataW H × List MemPlace} (h : DataW.trod enc Try.prog w base spare held fuel 47 cs = some x) :
    ∃ p o f m : Int, cs = [.int .i64 p, .int .i64 o, .int .i64 f, .int .i64 m] ∧ (Lit.int .i64 p).wf = true ∧ (Lit.int .i64 o).wf = true ∧ (Lit.int .i64 f).wf = true ∧ (Lit.int .i64 m).wf = true := by
  obtain ⟨y0, y1, n, _, hl, h0, h1⟩ := trod_struct2 Try.underlying47 h
  obtain ⟨p, o, f, e0, w0, w1, w2⟩ := key_cells h0
  obtain ⟨m, e1, _, w3⟩ := DataW.trod_int Try.underlying3 h1
  simp only [cellsInt, cellsKey, cellsSpot] at e0 e1 hl
  match cs, hl with
  | [c0, c1, c2, c3], _ =>
    simp at e0 e1
    obtain ⟨a0, a1, a2⟩ := e0
    exact ⟨p, o, f, m, by rw [a0, a1, a2, e1], w0, w1, w2, w3⟩

set_option maxRecDepth 100000 in
theorem elem_cells {fuel : Nat} {cs : List Value} {x : DataW H × List MemPlace} (h : DataW.trod enc Try.prog w base spare held fuel 33 cs = some x) :
    ∃ (p o f m g : Int) (s : ByteArray), cs = [.int .i64 p, .int .i64 o, .int .i64 f, .int .i64 m, .int .i64 g, .string s] ∧ (Lit.int .i64 p).wf = true ∧ (Lit.int .i64 o).wf = true ∧ (Lit.int .i64 f).wf = true ∧ (Lit.int .i64 m).wf = true ∧ (Lit.int .i64 g).wf = true ∧ s.size ≤ maxLen := by
  obtain ⟨y0, y1, y2, y3, n, _, hl, h0, h1, h2, h3⟩ := Go.Joins.trod_struct4 Try.underlying33 h
  obtain ⟨p, o, f, e0, w0, w1, w2⟩ := key_cells h0
  obtain ⟨m, e1, _, w3⟩ := DataW.trod_int Try.underlying3 h1
  obtain ⟨g, e2, _, w4⟩ := DataW.trod_int Try.underlying3 h2
  obtain ⟨s, e3, _, w5⟩ := DataW.trod_string Try.underlying9 h3
  simp only [cellsInt, cellsKey, cellsStr, cellsElem] at e0 e1 e2 e3 hl
  match cs, hl with
  | [c0, c1, c2, c3, c4, c5], _ =>
    simp at e0 e1 e2 e3
    obtain ⟨a0, a1, a2⟩ := e0
    exact ⟨p, o, f, m, g, s, by rw [a0, a1, a2, e1, e2, e3], w0, w1, w2, w3, w4, w5⟩

variable {r : Reach} {b0 : Nat} {v : Value} {d : DataW H} {ps : List MemPlace}
set_option maxRecDepth 100000 in
theorem open_key (hv : Value.okWide Try.prog w r b0 31 v) (h : DataW.Trod enc Try.prog w base spare held 31 v d ps) :
    ∃ p o f : Int, v = .agg #[.int .i64 p, .int .i64 o, .int .i64 f] ∧ (Lit.int .i64 p).wf = true ∧ (Lit.int .i64 o).wf = true ∧ (Lit.int .i64 f).wf = true := by
  obtain ⟨cs, rfl, _⟩ := okWide_struct Try.underlying31 hv
  obtain ⟨fuel, hf⟩ := h
  obtain ⟨p, o, f, e, ws⟩ := key_cells hf
  exact ⟨p, o, f, by rw [show cs = _ from Array.toList_inj.1 e], ws⟩
set_option maxRecDepth 100000 in
theorem open_spot (hv : Value.okWide Try.prog w r b0 47 v) (h : DataW.Trod enc Try.prog w base spare held 47 v d ps) :
    ∃ p o f m : Int, v = .agg #[.int .i64 p, .int .i64 o, .int .i64 f, .int .i64 m] ∧ (Lit.int .i64 p).wf = true ∧ (Lit.int .i64 o).wf = true ∧ (Lit.int .i64 f).wf = true ∧ (Lit.int .i64 m).wf = true := by
  obtain ⟨cs, rfl, _⟩ := okWide_struct Try.underlying47 hv
  obtain ⟨fuel, hf⟩ := h
  obtain ⟨p, o, f, m, e, ws⟩ := spot_cells hf
  exact ⟨p, o, f, m, by rw [show cs = _ from Array.toList_inj.1 e], ws⟩
set_option maxRecDepth 100000 in
theorem open_elem (hv : Value.okWide Try.prog w r b0 33 v) (h : DataW.Trod enc Try.prog w base spare held 33 v d ps) :
    ∃ (p o f m g : Int) (s : ByteArray), v = .agg #[.int .i64 p, .int .i64 o, .int .i64 f, .int .i64 m, .int .i64 g, .string s] ∧ (Lit.int .i64 p).wf = true ∧ (Lit.int .i64 o).wf = true ∧ (Lit.int .i64 f).wf = true ∧ (Lit.int .i64 m).wf = true ∧ (Lit.int .i64 g).wf = true ∧ s.size ≤ maxLen := by
  obtain ⟨cs, rfl, _⟩ := okWide_struct Try.underlying33 hv
  obtain ⟨fuel, hf⟩ := h
  obtain ⟨p, o, f, m, g, s, e, ws⟩ := elem_cells hf
  exact ⟨p, o, f, m, g, s, by rw [show cs = _ from Array.toList_inj.1 e], ws⟩

set_option maxRecDepth 100000 in
theorem elems_of (R : Nat → El → Prop) : ∀ n, (∀ i, i < n → ∃ e, R i e) → ∃ l : List El, l.length = n ∧ ∀ k e, l[k]? = some e → R k e
  | 0, _ => ⟨[], rfl, by simp⟩
  | n + 1, h => by
    obtain ⟨l, hl, hk⟩ := elems_of R n fun i hi => h i (by omega)
    obtain ⟨e, he⟩ := h n (by omega)
    refine ⟨l ++ [e], by simp [hl], fun k x hx => ?_⟩
    rcases Nat.lt_or_ge k n with hlt | hge
    · rw [List.getElem?_append_left (by omega)] at hx; exact hk k x hx
    · rw [List.getElem?_append_right (by omega)] at hx
      have : k = n := by
        have := (List.getElem?_eq_some_iff.1 hx).1
        simp at this; omega
      subst this
      rw [hl] at hx; simp at hx; subst hx; exact he

set_option maxRecDepth 100000 in
theorem open_elems (hv : Value.okWide Try.prog w r b0 22 v) (h : DataW.Trod enc Try.prog w base spare held 22 v d ps) :
    ∃ (A : Option Addr) (c : Nat) (l : List El), v = .slice A l.length c ∧ l.length ≤ 9223372036854775807 ∧ Lies w A l := by
  obtain ⟨A, len, cap, rfl⟩ := okWide_slice Try.underlying22 hv
  obtain ⟨fuel, hf⟩ := h
  rcases Go.Deep.open_slice Try.underlying22 hf with ⟨h0, _⟩ | ⟨a, len', cap', m, n, D, Pl, hcs, _, hl, hm, hmm, _, hi⟩
  · have h0' : Value.slice A len cap = .slice none 0 0 := by simpa [Value.cells] using h0
    injection h0' with h1 h2 h3
    subst h1; subst h2; subst h3
    exact ⟨none, 0, [], rfl, by simp, by simp, fun h => absurd h (by simp)⟩
  · have h0' : Value.slice A len cap = .slice (some a) len' cap' := by simpa [Value.cells] using hcs
    injection h0' with h1 h2 h3
    subst h1; subst h2; subst h3
    have hlm : len ≤ m := by rw [hmm]; split <;> omega
    have each : ∀ i, i < len → ∃ e : El, e.wf ∧ a.spot = none ∧ a.block < w.heap.size ∧ ElAt w a.block (a.off + i * 6) e := fun i hil => by
      obtain ⟨cs', hc, ht⟩ := hi i (by omega)
      obtain ⟨p, o, f, m, g, s, rfl, _, _, _, w3, _, _⟩ := elem_cells ht
      rw [cellsElem] at hc
      obtain ⟨_, _, hat⟩ := World.cells?_some hc
      have g0 := hat 0 (by omega); have g1 := hat 1 (by omega); have g2 := hat 2 (by omega); have g3 := hat 3 (by omega); have g4 := hat 4 (by omega); have g5 := hat 5 (by omega)
      simp only [List.getElem?_cons_zero, List.getElem?_cons_succ] at g0 g1 g2 g3 g4 g5
      have hsp : ((a.add (i * 6)).add 0).spot = none := World.cell?_spot g0
      have hbl := World.block_lt_of_cell? _ _ g0
      have hne : ∀ j, j ≠ 0 → (a.add (i * 6)).add j = ⟨a.block, a.off + i * 6 + j, none⟩ := fun j hj => by
        unfold Addr.add
        by_cases h6 : i * 6 = 0 <;> simp [h6, hj]
      have hz : (a.add (i * 6)).add 0 = ⟨a.block, a.off + i * 6, (a.add (i * 6)).spot⟩ := by
        unfold Addr.add
        by_cases h6 : i * 6 = 0 <;> simp [h6]
      rw [hz] at hsp hbl g0
      simp only at hsp hbl
      rw [hsp] at g0
      rw [hne 1 (by omega)] at g1; rw [hne 2 (by omega)] at g2; rw [hne 3 (by omega)] at g3; rw [hne 4 (by omega)] at g4; rw [hne 5 (by omega)] at g5
      refine ⟨⟨p, o, f, m, g, s⟩, (wf_range w3).1, ?_, hbl, g0, g1, g2, g3, g4, g5⟩
      obtain ⟨cs0, hc0, ht0⟩ := hi 0 (by omega)
      obtain ⟨p, o, f, m, g, s, rfl, _⟩ := elem_cells ht0
      rw [cellsElem] at hc0
      have k0 := (World.cells?_some hc0).2.2 0 (by omega)
      simp only [List.getElem?_cons_zero, Nat.zero_mul] at k0
      exact World.cell?_spot (by simpa [Addr.add] using k0)
    obtain ⟨l, rfl, hk⟩ := elems_of (fun i e => e.wf ∧ a.spot = none ∧ a.block < w.heap.size ∧ ElAt w a.block (a.off + i * 6) e) len each
    refine ⟨some a, cap, l, rfl, by simp only [maxLen] at hm; omega, fun e he => ?_, fun hpos => ?_⟩
    · obtain ⟨k, hkl, rfl⟩ := List.getElem_of_mem he
      exact (hk k _ (List.getElem?_eq_getElem hkl)).1
    · have h0 := hk 0 _ (List.getElem?_eq_getElem hpos)
      refine ⟨a.block, a.off, ?_, h0.2.2.1, fun k e he => (hk k e he).2.2.2⟩
      obtain ⟨b, q, sp⟩ := a
      have hsp : sp = none := h0.2.1
      subst hsp; rfl
end
end Go.Proofs.Ytccfcloekjogkaa
