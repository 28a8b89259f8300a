/- Texts of one kind in one file. -/
import Derived.Deep.Slices
import Derived.ProofKit
import Derived.OpenShut
import Derived.Lib.SmallJoins
import Derived.SizedLaws
import Derived.Deep.RegionWith
import Derived.Deep.LoopGhost
import Derived.Outline
import Derived.IntWalk
import Derived.Lib.Hide
import Derived.Laws.MakeOwn
import Derived.Lib.SliceRun
import Derived.Maps.AppendAt
import Derived.Test.YtoklknjjkchgmaaPkPageSays1
set_option maxRecDepth 100000
namespace Go.Proofs.Ytoklknjjkchgmaa
open Go.RowKit
def LiesI (w : World) (A : Option Addr) (l : List Int) : Prop :=
 0 < l.length → ∃ b q, A = some ⟨b, q, none⟩ ∧ b < w.heap.size ∧ ∀ (k : Nat) (x : Int), l[k]? = some x → w.cell? ⟨b, q + k, none⟩ = some (.int .i64 x)
def SpAt (w : World) (b q : Nat) (s : Sp) : Prop :=
 w.cell? ⟨b, q, none⟩ = some (.int .i64 s.p) ∧ w.cell? ⟨b, q + 1, none⟩ = some (.int .i64 s.o) ∧ w.cell? ⟨b, q + 2, none⟩ = some (.int .i64 s.f) ∧ w.cell? ⟨b, q + 3, none⟩ = some (.int .i64 s.m)
def LiesS (w : World) (A : Option Addr) (l : List Sp) : Prop :=
 (∀ s ∈ l, -9223372036854775808 ≤ s.m) ∧ (0 < l.length → ∃ b q, A = some ⟨b, q, none⟩ ∧ b < w.heap.size ∧ ∀ (k : Nat) (s : Sp), l[k]? = some s → SpAt w b (q + k * 4) s)
theorem LiesI.calm {w w' : World} {A : Option Addr} {l : List Int} (h : LiesI w A l) (hb : Calm w w') : LiesI w' A l := fun hl => by
 obtain ⟨b, q, hA, hlt, hk⟩ := h hl
 exact ⟨b, q, hA, Nat.lt_of_lt_of_le hlt hb.size, fun k x hx => (hb.facts.1 b _ hlt).trans (hk k x hx)⟩
theorem LiesS.calm {w w' : World} {A : Option Addr} {l : List Sp} (h : LiesS w A l) (hb : Calm w w') : LiesS w' A l := ⟨h.1, fun hl => by
 obtain ⟨b, q, hA, hlt, hk⟩ := h.2 hl
 have hc := hb.facts.1
 refine ⟨b, q, hA, Nat.lt_of_lt_of_le hlt hb.size, fun k s hs => ?_⟩
 obtain ⟨h0, h1, h2, h3⟩ := hk k s hs
 exact ⟨(hc b _ hlt).trans h0, (hc b _ hlt).trans h1, (hc b _ hlt).trans h2, (hc b _ hlt).trans h3⟩⟩
theorem LiesI.get {w : World} {A : Option Addr} {l : List Int} (h : LiesI w A l) {k : Nat} (hk : k < l.length) : ∃ (b q : Nat) (x : Int), A = some ⟨b, q, none⟩ ∧ b < w.heap.size ∧ Hid (l[k]? = some x) ∧ w.cell? ⟨b, q + k, none⟩ = some (.int .i64 x) := by
 obtain ⟨b, q, hA, hlt, h2⟩ := h (by omega)
 exact ⟨b, q, l[k], hA, hlt, List.getElem?_eq_getElem hk, h2 _ _ (List.getElem?_eq_getElem hk)⟩
theorem LiesS.get {w : World} {A : Option Addr} {l : List Sp} (h : LiesS w A l) {k : Nat} (hk : k < l.length) : ∃ (b q : Nat) (p o f m : Int), A = some ⟨b, q, none⟩ ∧ b < w.heap.size ∧ Hid (l[k]? = some ⟨p, o, f, m⟩) ∧ -9223372036854775808 ≤ m ∧
    w.cell? ⟨b, q + k * 4, none⟩ = some (.int .i64 p) ∧ w.cell? ⟨b, q + k * 4 + 1, none⟩ = some (.int .i64 o) ∧ w.cell? ⟨b, q + k * 4 + 2, none⟩ = some (.int .i64 f) ∧ w.cell? ⟨b, q + k * 4 + 3, none⟩ = some (.int .i64 m) := by
  obtain ⟨b, q, hA, hlt, h2⟩ := h.2 (by omega)
  obtain ⟨h0, h1, h3, h4⟩ := h2 _ _ (List.getElem?_eq_getElem hk)
  exact ⟨b, q, l[k].p, l[k].o, l[k].f, l[k].m, hA, hlt, List.getElem?_eq_getElem hk, h.1 _ (List.getElem_mem _), h0, h1, h3, h4⟩
theorem LiesS.get2 {w : World} {b q : Nat} {l : List Sp} (h : LiesS w (some ⟨b, q, none⟩) l) {k : Nat} (hk : k < l.length) : ∃ (p o f m : Int), Hid (l[k]? = some ⟨p, o, f, m⟩) ∧ -9223372036854775808 ≤ m ∧
    w.cell? ⟨b, q + k * 4, none⟩ = some (.int .i64 p) ∧ w.cell? ⟨b, q + k * 4 + 1, none⟩ = some (.int .i64 o) ∧ w.cell? ⟨b, q + k * 4 + 2, none⟩ = some (.int .i64 f) ∧ w.cell? ⟨b, q + k * 4 + 3, none⟩ = some (.int .i64 m) := by
  obtain ⟨b', q', p, o, f, m, hA, hlt, he, hw, h0, h1, h2, h3⟩ := h.get hk
  injection hA with hA
  injection hA with h6 h7
  subst h6; subst h7
  exact ⟨p, o, f, m, he, hw, h0, h1, h2, h3⟩
theorem row5 {w : World} {g t : Nat} {a b c d e : Value} {fr : Nat × Nat} (h : w.heap[g]? = some (.cells #[a, b, c, d, e] t fr)) : w.cell? ⟨g, 0, none⟩ = some a ∧ w.cell? ⟨g, 1, none⟩ = some b ∧ w.cell? ⟨g, 2, none⟩ = some c ∧ w.cell? ⟨g, 3, none⟩ = some d ∧ w.cell? ⟨g, 4, none⟩ = some e ∧ g < w.heap.size :=
 ⟨cell_of_row _ _ 0 _ _ _ h, cell_of_row _ _ 1 _ _ _ h, cell_of_row _ _ 2 _ _ _ h, cell_of_row _ _ 3 _ _ _ h, cell_of_row _ _ 4 _ _ _ h, (Array.getElem?_eq_some_iff.1 h).1⟩
structure NdAt (w : World) (A1 A2 A3 A4 : Option Addr) (E : List El) (K : List Int) (S : List Sp) (T : List Int) : Prop where
 e : Lies w A1 E
 k : LiesI w A2 K
 s : LiesS w A3 S
 t : LiesI w A4 T
 ne : E.length ≤ 9223372036854775807
 nk : K.length ≤ 9223372036854775807
 ns : S.length ≤ 9223372036854775807
 nt : T.length ≤ 9223372036854775807
theorem NdAt.calm {w w' : World} {A1 A2 A3 A4 : Option Addr} {E : List El} {K : List Int} {S : List Sp} {T : List Int} (h : NdAt w A1 A2 A3 A4 E K S T) (hb : Calm w w') : NdAt w' A1 A2 A3 A4 E K S T :=
 ⟨h.e.calm hb, h.k.calm hb, h.s.calm hb, h.t.calm hb, h.ne, h.nk, h.ns, h.nt⟩
open Go.ChangeShapes Go.WideShapes Go.ChangeAt Go.RowKit
theorem own : ownKnob Try.prog.godebug = none := by kernel_rfl
theorem laidOut : laidOutB Try.prog = true := by kernel_rfl
section
variable {H : Type} {enc : TypeId × Value → H} {P : Program}
theorem trodAll_stays (hl : laidOutB P = true) {W W' : World} (hb : Calm W W') : ∀ (ts : List TypeId) (vs : List Value) (ds : List (DataW H)) (ps : List MemPlace), ts.all (fun t => P.readableRec t && decide (t < P.types.size)) = true →
    DataW.TrodAll enc P W 0 (fun _ => true) true ts vs ds ps → (∀ x ∈ ps, x.block < W.heap.size) → DataW.TrodAll enc P W' 0 (fun b => decide (b < W.heap.size)) true ts vs ds ps
  | [], [], [], ps, _, h, _ => h
  | t :: ts, v :: vs, d :: ds, ps, ht, h, hlt => by
    obtain ⟨p, q, h1, h2, rfl⟩ := h
    simp only [List.all_cons, Bool.and_eq_true, decide_eq_true_eq] at ht
    exact ⟨p, q, Below.trod hl ht.1.1 ht.1.2 h1 hb fun x hx => hlt x (List.mem_append_left _ hx), trodAll_stays hl hb ts vs ds q (by simpa using ht.2) h2 fun x hx => hlt x (List.mem_append_right _ hx), rfl⟩
  | [], _ :: _, _, _, _, h, _ => absurd h (by simp [DataW.TrodAll])
  | [], [], _ :: _, _, _, h, _ => absurd h (by simp [DataW.TrodAll])
  | _ :: _, [], _, _, _, h, _ => absurd h (by simp [DataW.TrodAll])
  | _ :: _, _ :: _, [], _, _, h, _ => absurd h (by simp [DataW.TrodAll])
/-- The row's post, of a law: it answers true, and nothing that was there has turned. -/
theorem law_post (hl : laidOutB P = true) {f : Func} {s : ChangeSpec} {apart fresh handsOn : Bool} {W W' : World} {args : Array Value} {ds gs : List (DataW H)} {before : List MemPlace}
    (hW : DataW.Whole enc P f.params.toList s.vars apart W args.toList ds gs before) (hb : Calm W W') (hbool : ∃ t, f.resultTypes = #[t] ∧ P.underlying t = some .bool)
    (hts : f.params.toList.all (fun t => P.readableRec t && decide (t < P.types.size)) = true) (hvars : s.vars = []) (hspec : (s.fn H (ds ++ gs)).results = [.lit (.bool true)] ∧ (s.fn H (ds ++ gs)).args = ds ∧ (s.fn H (ds ++ gs)).vars = []) :
    s.post enc P f apart fresh handsOn false W args (.bool true) W' := by
  obtain ⟨t, ht, hu⟩ := hbool
  obtain ⟨h1, h2, h3⟩ := hspec
  have hlt := hW.lt
  obtain ⟨p, q, hA, hV, rfl, hz, hn⟩ := id hW
  rw [hvars] at hV
  obtain ⟨rfl, rfl⟩ := trodVars_none hV
  refine ⟨ds, [], p ++ [], [], p, [], hW, ?_, ?_, ?_, World.keptBut_mono (fun _ h => h) (Below.frame hb _), fun h => by cases h⟩
  · rw [h1, ht]
    exact trodAll_mk1 (shut_bool hu true)
  · rw [h2]
    exact trodAll_stays hl hb _ _ _ _ hts hA fun x hx => hlt x (by simpa using hx)
  · rw [h3, hvars]
    exact rfl
end
section
variable {H : Type} {enc : TypeId × Value → H} {w : World} {base : Nat} {spare : Nat → Bool} {held : Bool}
theorem cellsInt : Try.prog.cellsOf 3 = 1 := by kernel_rfl
theorem cellsStr : Try.prog.cellsOf 9 = 1 := by kernel_rfl
theorem cellsKey : Try.prog.cellsOf 23 = 3 := by kernel_rfl
theorem cellsSpot : Try.prog.cellsOf 45 = 4 := by kernel_rfl
theorem cellsElem : Try.prog.cellsOf 25 = 6 := by kernel_rfl
theorem wf_range {n : Int} (h : (Lit.int .i64 n).wf = true) : -9223372036854775808 ≤ n ∧ n ≤ 9223372036854775807 := by
 have e1 : IntKind.i64.min = -9223372036854775808 := by decide
 simp [Lit.wf] at h
 omega
theorem key_cells {fuel : Nat} {cs : List Value} {x : DataW H × List MemPlace} (h : DataW.trod enc Try.prog w base spare held fuel 23 cs = some x) :
    ∃ p o f : Int, cs = [.int .i64 p, .int .i64 o, .int .i64 f] ∧ (Lit.int .i64 p).wf = true ∧ (Lit.int .i64 o).wf = true ∧ (Lit.int .i64 f).wf = true := by
  obtain ⟨y0, y1, y2, n, _, hl, h0, h1, h2⟩ := Go.Deep.trod_struct3 Try.underlying23 h
  obtain ⟨p, e0, _, w0⟩ := DataW.trod_int Try.underlying3 h0
  obtain ⟨o, e1, _, w1⟩ := DataW.trod_int Try.underlying3 h1
  obtain ⟨f, e2, _, w2⟩ := DataW.trod_int Try.underlying3 h2
  simp only [cellsInt, cellsKey] at e0 e1 e2 hl
  match cs, hl with
  | [c0, c1, c2], _ =>
    simp at e0 e1 e2
    exact ⟨p, o, f, by rw [e0, e1, e2], w0, w1, w2⟩
theorem spot_cells {fuel : Nat} {cs : List Value} {x : DataW H × List MemPlace} (h : DataW.trod enc Try.prog w base spare held fuel 45 cs = some x) :
    ∃ p o f m : Int, cs = [.int .i64 p, .int .i64 o, .int .i64 f, .int .i64 m] ∧ (Lit.int .i64 p).wf = true ∧ (Lit.int .i64 o).wf = true ∧ (Lit.int .i64 f).wf = true ∧ (Lit.int .i64 m).wf = true := by
  obtain ⟨y0, y1, n, _, hl, h0, h1⟩ := trod_struct2 Try.underlying45 h
  obtain ⟨p, o, f, e0, w0, w1, w2⟩ := key_cells h0
  obtain ⟨m, e1, _, w3⟩ := DataW.trod_int Try.underlying3 h1
  simp only [cellsInt, cellsKey, cellsSpot] at e0 e1 hl
  match cs, hl with
  | [c0, c1, c2, c3], _ =>
    simp at e0 e1
    obtain ⟨a0, a1, a2⟩ := e0
    exact ⟨p, o, f, m, by rw [a0, a1, a2, e1], w0, w1, w2, w3⟩
theorem elem_cells {fuel : Nat} {cs : List Value} {x : DataW H × List MemPlace} (h : DataW.trod enc Try.prog w base spare held fuel 25 cs = some x) :
    ∃ (p o f m g : Int) (s : ByteArray), cs = [.int .i64 p, .int .i64 o, .int .i64 f, .int .i64 m, .int .i64 g, .string s] ∧ (Lit.int .i64 p).wf = true ∧ (Lit.int .i64 o).wf = true ∧ (Lit.int .i64 f).wf = true ∧ (Lit.int .i64 m).wf = true ∧ (Lit.int .i64 g).wf = true ∧ s.size ≤ maxLen := by
  obtain ⟨y0, y1, y2, y3, n, _, hl, h0, h1, h2, h3⟩ := Go.Joins.trod_struct4 Try.underlying25 h
  obtain ⟨p, o, f, e0, w0, w1, w2⟩ := key_cells h0
  obtain ⟨m, e1, _, w3⟩ := DataW.trod_int Try.underlying3 h1
  obtain ⟨g, e2, _, w4⟩ := DataW.trod_int Try.underlying3 h2
  obtain ⟨s, e3, _, w5⟩ := DataW.trod_string Try.underlying9 h3
  simp only [cellsInt, cellsKey, cellsStr, cellsElem] at e0 e1 e2 e3 hl
  match cs, hl with
  | [c0, c1, c2, c3, c4, c5], _ =>
    simp at e0 e1 e2 e3
    obtain ⟨a0, a1, a2⟩ := e0
    exact ⟨p, o, f, m, g, s, by rw [a0, a1, a2, e1, e2, e3], w0, w1, w2, w3, w4, w5⟩
variable {r : Reach} {b0 : Nat} {v : Value} {d : DataW H} {ps : List MemPlace}
end
open Go.ChangeShapes Go.WideShapes Go.ChangeAt Go.RowKit
section
variable {H : Type} {enc : TypeId × Value → H} {w : World} {base : Nat} {spare : Nat → Bool} {held : Bool}
theorem list_of {α : Type} (R : Nat → α → Prop) : ∀ n, (∀ i, i < n → ∃ e, R i e) → ∃ l : List α, l.length = n ∧ ∀ k e, l[k]? = some e → R k e
 | 0, _ => ⟨[], rfl, by simp⟩
 |n + 1, h => by
  obtain ⟨l, hl, hk⟩ := list_of R n fun i hi => h i (by omega)
  obtain ⟨e, he⟩ := h n (by omega)
  refine ⟨l ++ [e], by simp [hl], fun k x hx => ?_⟩
  rcases Nat.lt_or_ge k n with hlt | hge
  ·rw [List.getElem?_append_left (by omega)] at hx; exact hk k x hx
  ·rw [List.getElem?_append_right (by omega)] at hx
   have : k = n := by
    have := (List.getElem?_eq_some_iff.1 hx).1
    simp at this; omega
   subst this
   rw [hl] at hx; simp at hx; subst hx; exact he
theorem add_add (b q i j : Nat) : ((⟨b, q, none⟩ : Addr).add i).add j = ⟨b, q + i + j, none⟩ := by
 unfold Addr.add
 split <;> split <;> simp_all
/-- A slice of rows of N cells each. -/
theorem rows_open {t e : TypeId} {fuel : Nat} {cs : List Value} {x : DataW H × List MemPlace} {α : Type} (cv : α → List Value) (wf : α → Prop) (N : Nat) (ht : Try.prog.underlying t = some (.slice e)) (hN : Try.prog.cellsOf e = N) (h0 : 0 < N)
    (hel : ∀ fuel cs x, DataW.trod enc Try.prog w base spare held fuel e cs = some x → ∃ y, cs = cv y ∧ wf y) (h : DataW.trod enc Try.prog w base spare held fuel t cs = some x) :
    ∃ (A : Option Addr) (c : Nat) (l : List α), cs = [.slice A l.length c] ∧ l.length ≤ 9223372036854775807 ∧ l.length ≤ c ∧ (∀ y ∈ l, wf y) ∧
      (0 < l.length → ∃ b q, A = some ⟨b, q, none⟩ ∧ b < w.heap.size ∧ ∀ (k : Nat) (y : α), l[k]? = some y → ∀ j, j < N → w.cell? ⟨b, q + k * N + j, none⟩ = (cv y)[j]?) ∧
      (x.1 = .nil ∧ l.length = 0 ∨ ∃ els sp : List (DataW H), x.1 = .slice els sp ∧ l.length ≤ els.length) := by
  rcases Go.Deep.open_slice ht h with ⟨hcs, hx⟩ | ⟨a, len, cap, m, n, D, Pl, hcs, _, hl, hm, hmm, hx, hi⟩
  · exact ⟨none, 0, [], hcs, by simp, by simp, by simp, fun h => absurd h (by simp), Or.inl ⟨by rw [hx], rfl⟩⟩
  · have hlm : len ≤ m := by rw [hmm]; split <;> omega
    have hsp : 0 < len → a.spot = none := fun hpos => by
      obtain ⟨cs0, hc0, ht0⟩ := hi 0 (by omega)
      rw [hN] at hc0
      obtain ⟨_, hlc, hat⟩ := World.cells?_some hc0
      have k0 := hat 0 h0
      obtain ⟨v0, hv0⟩ : ∃ v, cs0[0]? = some v := ⟨_, List.getElem?_eq_getElem (by omega)⟩
      rw [hv0, Nat.zero_mul] at k0
      exact World.cell?_spot (by simpa [Addr.add] using k0)
    have each : ∀ i, i < len → ∃ y : α, wf y ∧ a.block < w.heap.size ∧ ∀ j, j < N → w.cell? ⟨a.block, a.off + i * N + j, none⟩ = (cv y)[j]? := fun i hil => by
      obtain ⟨cs', hc, ht'⟩ := hi i (by omega)
      obtain ⟨y, rfl, hwf⟩ := hel _ _ _ ht'
      rw [hN] at hc
      obtain ⟨_, hlc, hat⟩ := World.cells?_some hc
      have hs := hsp (by omega)
      obtain ⟨b, q, sp⟩ := a
      simp only at hs
      subst hs
      simp only [add_add] at hat
      refine ⟨y, hwf, ?_, fun j hj => hat j hj⟩
      have k0 := hat 0 h0
      obtain ⟨v0, hv0⟩ : ∃ v, (cv y)[0]? = some v := ⟨_, List.getElem?_eq_getElem (by omega)⟩
      rw [hv0] at k0
      have hbl := World.block_lt_of_cell? _ _ k0
      exact hbl
    obtain ⟨l, rfl, hk⟩ := list_of (fun i y => wf y ∧ a.block < w.heap.size ∧ ∀ j, j < N → w.cell? ⟨a.block, a.off + i * N + j, none⟩ = (cv y)[j]?) len each
    refine ⟨some a, cap, l, hcs, by simp only [maxLen] at hm; omega, hl, fun y hy => ?_, fun hpos => ?_, Or.inr ⟨_, _, by rw [hx], by simp⟩⟩
    · obtain ⟨k, hkl, rfl⟩ := List.getElem_of_mem hy
      exact (hk k _ (List.getElem?_eq_getElem hkl)).1
    · have hs := hsp hpos
      obtain ⟨b, q, sp⟩ := a
      simp only at hs
      subst hs
      exact ⟨b, q, rfl, (hk 0 _ (List.getElem?_eq_getElem hpos)).2.1, fun k y hy => (hk k y hy).2.2⟩
theorem cellsNode : Try.prog.cellsOf 63 = 5 := by kernel_rfl
theorem cellsSlE : Try.prog.cellsOf 33 = 1 := by kernel_rfl
theorem cellsSlI : Try.prog.cellsOf 60 = 1 := by kernel_rfl
theorem cellsSlS : Try.prog.cellsOf 61 = 1 := by kernel_rfl
theorem bytesE : Try.prog.bytesOf 25 = 56 := by kernel_rfl
theorem bytesI : Try.prog.bytesOf 3 = 8 := by kernel_rfl
theorem bytesS : Try.prog.bytesOf 45 = 32 := by kernel_rfl
theorem trod_struct5 {P : Program} {t : TypeId} {f0 f1 f2 f3 f4 : Field} {fuel : Nat} {cs : List Value} {x : DataW H × List MemPlace} (ht : P.underlying t = some (.struct #[f0, f1, f2, f3, f4])) (h : DataW.trod enc P w base spare held fuel t cs = some x) :
    ∃ y0 y1 y2 y3 y4 n, x.1 = .agg [y0.1, y1.1, y2.1, y3.1, y4.1] ∧ cs.length = P.cellsOf t ∧ DataW.trod enc P w base spare held n f0.type ((cs.drop f0.offset).take (P.cellsOf f0.type)) = some y0 ∧
      DataW.trod enc P w base spare held n f1.type ((cs.drop f1.offset).take (P.cellsOf f1.type)) = some y1 ∧ DataW.trod enc P w base spare held n f2.type ((cs.drop f2.offset).take (P.cellsOf f2.type)) = some y2 ∧
      DataW.trod enc P w base spare held n f3.type ((cs.drop f3.offset).take (P.cellsOf f3.type)) = some y3 ∧ DataW.trod enc P w base spare held n f4.type ((cs.drop f4.offset).take (P.cellsOf f4.type)) = some y4 := by
  obtain ⟨xs, n, _, rfl, hl, hlen, hf⟩ := DataW.trod_struct ht h
  match xs, hlen with
  | [y0, y1, y2, y3, y4], _ => exact ⟨y0, y1, y2, y3, y4, n, by simp, hl, by simpa using hf 0 f0 rfl, by simpa using hf 1 f1 rfl, by simpa using hf 2 f2 rfl, by simpa using hf 3 f3 rfl, by simpa using hf 4 f4 rfl⟩
/-- What the weight of a slice says of its length. -/
theorem len_of {ts : List TypeId} {ds : List (DataW H)} (hsz : (DataW.weightsEach Try.prog ts ds).all (· ≤ reachBytes) = true) {j : Nat} {t e : TypeId} {d : DataW H} {n B : Nat} (ht : ts[j]? = some t) (hd : ds[j]? = some d) (hu : Try.prog.underlying t = some (.slice e)) (hB : Try.prog.bytesOf e = B) (h0 : 0 < B)
    (h : d = .nil ∧ n = 0 ∨ ∃ els sp : List (DataW H), d = .slice els sp ∧ n ≤ els.length) : n ≤ 140737488351232 := by
  rcases h with ⟨_, rfl⟩ | ⟨els, sp, rfl, hn⟩
  · omega
  · have h1 := sized_slice hsz ht hd hu
    rw [hB] at h1
    have h2 : (els.length + sp.length) * 1 ≤ (els.length + sp.length) * B := Nat.mul_le_mul_left _ h0
    have h3 : reachBytes = 140737488351232 := by decide
    omega
def ivC (x : Int) : List Value := [.int .i64 x]
def spC (s : Sp) : List Value := [.int .i64 s.p, .int .i64 s.o, .int .i64 s.f, .int .i64 s.m]
variable {r : Reach} {b0 : Nat} {v : Value} {d : DataW H} {ps : List MemPlace}
theorem open_node (hv : Value.okWide Try.prog w r b0 63 v) (h : DataW.Trod enc Try.prog w base spare held 63 v d ps) :
    ∃ (kd : Int) (A1 A2 A3 A4 : Option Addr) (c1 c2 c3 c4 : Nat) (E : List El) (K : List Int) (S : List Sp) (T : List Int), v = .agg #[.int .i64 kd, .slice A1 E.length c1, .slice A2 K.length c2, .slice A3 S.length c3, .slice A4 T.length c4] ∧ NdAt w A1 A2 A3 A4 E K S T ∧ E.length ≤ c1 ∧
      ∀ {ts : List TypeId} {ds : List (DataW H)} {j : Nat}, (DataW.weightsEach Try.prog ts ds).all (· ≤ reachBytes) = true → ts[j]? = some 63 → ds[j]? = some d →
        E.length ≤ 140737488351232 ∧ K.length ≤ 140737488351232 ∧ S.length ≤ 140737488351232 ∧ T.length ≤ 140737488351232 := by
  obtain ⟨cs, rfl, _⟩ := okWide_struct Try.underlying63 hv
  obtain ⟨fuel, hf⟩ := h
  obtain ⟨y0, y1, y2, y3, y4, n, hd, hl, h0, h1, h2, h3, h4⟩ := trod_struct5 Try.underlying63 hf
  obtain ⟨kd, e0, _, w0⟩ := DataW.trod_int Try.underlying3 h0
  obtain ⟨A1, c1, E, e1, le1, lc1, wf1, at1, dd1⟩ := rows_open (α := El) El.cells El.wf 6 Try.underlying33 cellsElem (by omega) (fun fuel cs x hx => by
    obtain ⟨p, o, f, m, g, s, e, _, _, _, w3, _⟩ := elem_cells hx
    exact ⟨⟨p, o, f, m, g, s⟩, e, (wf_range w3).1⟩) h1
  obtain ⟨A2, c2, K, e2, le2, lc2, _, at2, dd2⟩ := rows_open (α := Int) ivC (fun _ => True) 1 Try.underlying60 cellsInt (by omega) (fun fuel cs x hx => by
    obtain ⟨p, e, _, _⟩ := DataW.trod_int Try.underlying3 hx
    exact ⟨p, e, trivial⟩) h2
  obtain ⟨A3, c3, S, e3, le3, lc3, wf3, at3, dd3⟩ := rows_open (α := Sp) spC (fun s => -9223372036854775808 ≤ s.m) 4 Try.underlying61 cellsSpot (by omega) (fun fuel cs x hx => by
    obtain ⟨p, o, f, m, e, _, _, _, w3⟩ := spot_cells hx
    exact ⟨⟨p, o, f, m⟩, e, (wf_range w3).1⟩) h3
  obtain ⟨A4, c4, T, e4, le4, lc4, _, at4, dd4⟩ := rows_open (α := Int) ivC (fun _ => True) 1 Try.underlying60 cellsInt (by omega) (fun fuel cs x hx => by
    obtain ⟨p, e, _, _⟩ := DataW.trod_int Try.underlying3 hx
    exact ⟨p, e, trivial⟩) h4
  simp only [cellsInt, cellsSlE, cellsSlI, cellsSlS, cellsNode, Value.cells] at e0 e1 e2 e3 e4 hl
  have hcs : cs.toList = [.int .i64 kd, .slice A1 E.length c1, .slice A2 K.length c2, .slice A3 S.length c3, .slice A4 T.length c4] := by
    match hm : cs.toList, hl with
    | [a0, a1, a2, a3, a4], _ =>
      rw [hm] at e0 e1 e2 e3 e4
      simp at e0 e1 e2 e3 e4
      rw [e0, e1, e2, e3, e4]
  refine ⟨kd, A1, A2, A3, A4, c1, c2, c3, c4, E, K, S, T, by rw [show cs = _ from Array.toList_inj.1 hcs], ⟨⟨wf1, fun hp => ?_⟩, fun hp => ?_, ⟨wf3, fun hp => ?_⟩, fun hp => ?_, le1, le2, le3, le4⟩, lc1, fun {ts ds j} hsz ht hds => ?_⟩
  · obtain ⟨b, q, hA, hb, hk⟩ := at1 hp
    refine ⟨b, q, hA, hb, fun k e he => ?_⟩
    have g := hk k e he
    exact ⟨g 0 (by omega), g 1 (by omega), g 2 (by omega), g 3 (by omega), g 4 (by omega), g 5 (by omega)⟩
  · obtain ⟨b, q, hA, hb, hk⟩ := at2 hp
    refine ⟨b, q, hA, hb, fun k e he => ?_⟩
    have g := hk k e he 0 (by omega)
    rw [Nat.mul_one, Nat.add_zero] at g
    exact g
  · obtain ⟨b, q, hA, hb, hk⟩ := at3 hp
    refine ⟨b, q, hA, hb, fun k e he => ?_⟩
    have g := hk k e he
    exact ⟨g 0 (by omega), g 1 (by omega), g 2 (by omega), g 3 (by omega)⟩
  · obtain ⟨b, q, hA, hb, hk⟩ := at4 hp
    refine ⟨b, q, hA, hb, fun k e he => ?_⟩
    have g := hk k e he 0 (by omega)
    rw [Nat.mul_one, Nat.add_zero] at g
    exact g
  · simp only at hd
    rw [hd] at hds
    have hin : (DataW.weightsEach Try.prog [3, 33, 60, 61, 60] [y0.1, y1.1, y2.1, y3.1, y4.1]).all (· ≤ reachBytes) = true := by
      refine List.all_eq_true.2 fun n hn => List.all_eq_true.1 hsz n (DataW.weights_mem_each ht hds n ?_)
      simp only [DataW.weights, Try.underlying63]
      exact hn
    exact ⟨len_of hin (j := 1) rfl rfl Try.underlying33 bytesE (by omega) dd1, len_of hin (j := 2) rfl rfl Try.underlying60 bytesI (by omega) dd2, len_of hin (j := 3) rfl rfl Try.underlying61 bytesS (by omega) dd3, len_of hin (j := 4) rfl rfl Try.underlying60 bytesI (by omega) dd4⟩
end
open Go.RowKit
theorem num_take (s : ByteArray) (k : Nat) (h : k < s.size) : num (s.data.toList.take (k + 1)) = 256 * num (s.data.toList.take k) + s[k].toNat := by
 rw [List.take_succ_eq_append_getElem (by simpa using h), num_snoc]; rfl
theorem num_take_lt (s : ByteArray) (k : Nat) (h : k < s.size) (h4 : s.size ≤ 4) : num (s.data.toList.take k) < 16777216 := by
 have h1 := num_lt _ (s.data.toList.take k) rfl
 have h2 : (s.data.toList.take k).length ≤ 3 := by rw [List.length_take]; omega
 have h3 : 256 ^ (s.data.toList.take k).length ≤ 256 ^ 3 := Nat.pow_le_pow_right (by omega) h2
 omega
theorem or_byte (n : Nat) (c : UInt8) (h : n < 16777216) : bits .or .i64 ((n : Int) * 256) (wrap64 (c.toNat : Int)) = ((256 * n + c.toNat : Nat) : Int) := by
 have hc := c.toNat_lt
 rw [IntWalk.wrap64_in _ (by omega)]
 have h1 := i64_or (n * 256) c.toNat (by omega) (by omega)
 rw [Go.nat_join 8 (n * 256) c.toNat (by omega) (by omega)] at h1
 rw [show 256 * n + c.toNat = n * 256 + c.toNat from by omega, ← h1]
 congr 1
set_option maxHeartbeats 2000000 in
theorem number_any (s : ByteArray) (w : World) (hs : s.size ≤ 4) : Calls Try.prog 46 #[.string s] w fun e w' => e = .returned (.int .i64 (num s.data.toList : Int)) ∧ w = w' := by
 go_enter Try.func46, Try.ntmps46
 go_wp2
 go_loop [3, 7] (fun r i => ∃ k : Nat, k ≤ s.size ∧ i = .int .i64 k ∧ r = .int .i64 (num (s.data.toList.take k) : Int)) (fun _ i => s.size - (intOf i).toNat)
 case atStart => exact ⟨0, Nat.zero_le _, rfl, rfl⟩
 case round =>
  obtain ⟨k, hk, rfl, rfl⟩ := hrel
  by_cases hlt : k < s.size
  ·have hn := num_take_lt s k hlt hs
   have HT := Lib.hid (num_take s k hlt)
   generalize num (s.data.toList.take k) = n at hn HT ⊢
   have HO := Lib.hid (or_byte n s[k] hn)
   have hn' : (n : Int) < 16777216 := by omega
   clear hn
   go_wp2
   go_round
   case rel => exact ⟨k + 1, by omega, by go_num, by rw [HT.out, HO.out]⟩
   case measure => simp [intOf]; omega
  ·go_wp2
   go_ret
   exact ⟨ret_int (by rw [List.take_of_length_le (by simp; omega)]), rfl⟩
set_option maxHeartbeats 2000000 in
theorem refBig_any (s : ByteArray) (w : World) (hs : s.size ≤ 4) : Calls Try.prog 47 #[.string s] w fun e w' => e = .returned (.int .i64 (num s.data.toList : Int)) ∧ w = w' := by
 go_enter Try.func47, Try.ntmps47
 go_wp2
 go_loop [3, 7] (fun r i => ∃ k : Nat, k ≤ s.size ∧ i = .int .i64 k ∧ r = .int .i64 (num (s.data.toList.take k) : Int)) (fun _ i => s.size - (intOf i).toNat)
 case atStart => exact ⟨0, Nat.zero_le _, rfl, rfl⟩
 case round =>
  obtain ⟨k, hk, rfl, rfl⟩ := hrel
  by_cases hlt : k < s.size
  ·have hn := num_take_lt s k hlt hs
   have HT := Lib.hid (num_take s k hlt)
   have hc := s[k].toNat_lt
   have hc' : (s[k].toNat : Int) < 256 := by omega
   generalize num (s.data.toList.take k) = n at hn HT ⊢
   have hn' : (n : Int) < 16777216 := by omega
   clear hn hc
   go_wp2
   go_round
   case rel => exact ⟨k + 1, by omega, by go_num, by rw [HT.out]; go_num⟩
   case measure => simp [intOf]; omega
  ·go_wp2
   go_ret
   exact ⟨ret_int (by rw [List.take_of_length_le (by simp; omega)]), rfl⟩
theorem convOne (u : World) (g : Nat) (x : Int) (h : u.cell? ⟨g, 0, none⟩ = some (.int .u8 x)) : (convert 57 9 (.slice (some ⟨g, 0, none⟩) 1 1)).run Try.prog u = .ok (.string (strOfNums [x])) u := by
 refine run_convert_bytes_arg _ _ 5 Try.underlying57 Try.underlying5 _ _ 1 1 [x] rfl ?_ _ Try.underlying9
 intro i hi
 match i, hi with
 | 0, _ => exact h
set_option maxHeartbeats 4000000 in
theorem big_any : ∀ (k n : Nat) (w : World), k ≤ 4 → n < 4294967296 → Calls Try.prog 45 #[.int .i64 (n : Int), .int .i64 (k : Int)] w fun e w' => e = .returned (.string ⟨(be k n).toArray⟩) ∧ Calm w w'
 | 0, n, w, _, _ => by
  go_enter Try.func45, Try.ntmps45
  go_wp2
  go_ret
  exact ⟨rfl, Calm.refl _⟩
 |k + 1, n, w, hk, hn => by
  have ih := fun u => big_any k (n / 256) u (by omega) (by omega)
  obtain ⟨q, hq⟩ : ∃ q, q = n / 256 := ⟨_, rfl⟩
  obtain ⟨m, hm⟩ : ∃ m, m = n % 256 := ⟨_, rfl⟩
  obtain ⟨k1, hk1⟩ : ∃ k1, k1 = k + 1 := ⟨_, rfl⟩
  have E : Hid ((⟨(be k q).toArray⟩ : ByteArray) ++ strOfNums [(m : Int)] = ⟨(be (k + 1) n).toArray⟩) := by
   show _ = _
   rw [be, ← hq, ← hm]
   apply ByteArray.ext
   rw [ByteArray.data_append]
   apply Array.toList_inj.1
   simp [strOfNums]
  have hB : (⟨(be k q).toArray⟩ : ByteArray).size = k := by show (be k q).toArray.size = k; rw [List.size_toArray, be_length]
  have hS : (strOfNums [(m : Int)]).size = 1 := strOfNums_size _
  have hcv := fun u g => convOne u g (m : Int)
  rw [← hq] at ih
  generalize (⟨(be k q).toArray⟩ : ByteArray) = B at ih E hB
  generalize strOfNums [(m : Int)] = S at hcv E hS
  have e1 : IntKind.i64.wrap ((n : Int).tdiv 256) = (q : Int) := by rw [Int.tdiv_eq_ediv_of_nonneg (by omega), IntWalk.i64_in _ (by omega)]; omega
  have e2 : IntKind.i64.wrap ((n : Int).tmod 256) = (m : Int) := by rw [Int.tmod_eq_emod_of_nonneg (by omega), IntWalk.i64_in _ (by omega)]; omega
  have e1' : IntKind.i64.wrap ((n : Int) / 256) = (q : Int) := by rw [IntWalk.i64_in _ (by omega)]; omega
  have e2' : (n : Int).tmod 256 = (m : Int) := by rw [Int.tmod_eq_emod_of_nonneg (by omega)]; omega
  have e4 : IntKind.u8.wrap (m : Int) = (m : Int) := IntWalk.u8_in _ (by omega)
  have e3 : IntKind.i64.wrap ((k1 : Int) - 1) = (k : Int) := by rw [IntWalk.i64_in _ (by omega)]; omega
  have hm8 : (m : Int) < 256 := by omega
  have b0 : ((k1 : Int) == 0) = false := by rw [beq_eq_false_iff_ne]; omega
  have hk9 : k ≤ 3 := by omega
  rw [show ((k + 1 : Nat) : Int) = (k1 : Int) from by omega]
  clear hq hm hk1 hk hn
  go_enter Try.func45, Try.ntmps45
  go_wp2_with fail
  refine wp_region_plan [.val (.int .i64 (n)), .val (.int .i64 (q)), .val (.int .i64 (k1)), .val (.int .i64 (k)), .val (.string B), .val (.int .i64 (n)), .val (.int .i64 (m)), .val (.int .u8 (m : Int)), .new #[.int .u8 (m : Int)] 5 (some 1), .look 8 (.string S), .val (.string (B ++ S)), .val (.string (B ++ S))] (by kernel_rfl) (by kernel_rfl) (by kernel_rfl) ?_
  intro X
  iterate 8
   refine plan_val (by kernel_rfl) (fun u hu => ?_) ?_
   ·obtain ⟨hc, hf, hz⟩ := hu.of_drew.facts
    go_simp
    all_goals first
     |((go_at_call 45; exact ih _))
     |(exact e1')
     |(exact e2')
     |(exact e4)
     |((rw [hcv _ _ c0]; go_simp))
     |((rw [if_neg (by omega)]; go_simp))
   simp only [Act.put, List.setIfInBounds_toArray, List.set_cons_zero, List.set_cons_succ, Nat.reduceAdd]
  refine plan_lit (by kernel_rfl) (fun u => ?_) ?_
  ·go_simp
  simp only [Act.put, List.setIfInBounds_toArray, List.set_cons_zero, List.set_cons_succ, Nat.reduceAdd]
  refine plan_look (by kernel_rfl) (by kernel_rfl) rfl (by kernel_rfl) (fun u hu hr => ?_) ?_
  ·obtain ⟨hc, hf, hz⟩ := hu.of_drew.facts
   have c0 := cell_of_row _ _ 0 _ _ _ hr
   go_simp
   all_goals first
    |((go_at_call 45; exact ih _))
    |(exact e1')
    |(exact e2')
    |(exact e4)
    |((rw [hcv _ _ c0]; go_simp))
    |((rw [if_neg (by omega)]; go_simp))
  simp only [Act.put, List.setIfInBounds_toArray, List.set_cons_zero, List.set_cons_succ, Nat.reduceAdd]
  iterate 2
   refine plan_val (by kernel_rfl) (fun u hu => ?_) ?_
   ·obtain ⟨hc, hf, hz⟩ := hu.of_drew.facts
    go_simp
    all_goals first
     |((go_at_call 45; exact ih _))
     |(exact e1')
     |(exact e2')
     |(exact e4)
     |((rw [hcv _ _ c0]; go_simp))
     |((rw [if_neg (by omega)]; go_simp))
   simp only [Act.put, List.setIfInBounds_toArray, List.set_cons_zero, List.set_cons_succ, Nat.reduceAdd]
  refine plan_end ?_
  intro w' hB
  have hk := hB.calm.of_drew
  clear hB
  go_wp2
  go_ret
  exact ⟨congrArg (fun x => Ending.returned (.string x)) E.out, hk⟩
open Go.RowKit
def nilEl : El := ⟨0, 0, 0, 0, 0, { data := #[] }⟩
def El.aggOf (e : El) : Value := .agg #[.int .i64 e.p, .int .i64 e.o, .int .i64 e.f, .int .i64 e.m, .int .i64 e.g, .string e.s]
def gotEl (l : List UInt8) : El := if decErr l = 0 then decEl l else nilEl
def gotLen (l : List UInt8) : Int := if decErr l = 0 then (decLen l : Int) else 0
def GetEnd (l : List UInt8) (w : World) (e : Ending) (w' : World) : Prop := e = .returned (.tuple #[(gotEl l).aggOf, .int .i64 (gotLen l), .int .i64 (decErr l)]) ∧ Calm w w'
/-- Three results: a record that lies in memory, and two temporaries. -/
theorem results_three {fn : Func} {p q r : Tmp} (h : fn.results = #[.cell p 25, .tmp q, .tmp r]) (tmps : Array Value) (w : World) (g : Nat) (t : TypeId) (cs : Array Value) (v u : Value) (fr : Nat × Nat)
    (hp : tmps.getD p undef = .pointer (some ⟨g, 0, none⟩)) (hq : tmps.getD q undef = v) (hr : tmps.getD r undef = u) (hg : w.heap[g]? = some (.cells cs t fr)) (hsz : cs.size = 6) :
    (results fn tmps).run Try.prog w = .ok (.tuple #[.agg cs, v, u]) w := by
  have hp' : tmps[p]?.getD undef = .pointer (some ⟨g, 0, none⟩) := by simpa using hp
  have hq' : tmps[q]?.getD undef = v := by simpa using hq
  have hr' : tmps[r]?.getD undef = u := by simpa using hr
  have hi : (Try.prog.info? 25).map (·.size) = some cs.size := by rw [hsz]; kernel_rfl
  simp [results, h, hp', hq', hr', asAddr, run_loadVar_row w g t 25 cs fr _ hg Try.underlying25 rfl hi]
theorem end_three {P : Program} {fn : Func} {p q r : Tmp} {Q : Ending → World → Prop} (hP : P = Try.prog) (h : fn.results = #[.cell p 25, .tmp q, .tmp r]) (a : Act) (w : World) (g : Nat) (t : TypeId) (cs : Array Value) (v u : Value) (fr : Nat × Nat) (hd : a.defers = [])
    (hp : a.tmps.getD p undef = .pointer (some ⟨g, 0, none⟩)) (hq : a.tmps.getD q undef = v) (hr : a.tmps.getD r undef = u) (hg : w.heap[g]? = some (.cells cs t fr)) (hsz : cs.size = 6) (hQ : Q (.returned (.tuple #[.agg cs, v, u])) w) : bodyPost P fn Q .ret a w := by
  subst hP
  exact bodyPost_ret (v := .tuple #[.agg cs, v, u]) (results_three h a.tmps w g t cs v u fr hp hq hr hg hsz) hd hQ
theorem part_extract (s : ByteArray) (i j : Nat) : (s.extract i j).data.toList = part s.data.toList i (j - i) := by
 simp [ByteArray.data_extract, part, List.extract_eq_take_drop]
theorem part_bytes (s : ByteArray) (i j : Nat) : s.extract i j = ⟨(part s.data.toList i (j - i)).toArray⟩ := by
 apply ByteArray.ext
 apply Array.toList_inj.1
 rw [part_extract]
theorem lenB_at (s : ByteArray) (h : 17 < s.size) : lenB s.data.toList = s[17].toNat := by
 unfold lenB part
 have hl : s.data.toList.length = s.size := by simp
 rw [List.drop_eq_getElem_cons (by omega)]
 simp [num]; rfl
theorem head_at (s : ByteArray) (h : 0 < s.size) : num (part s.data.toList 0 1) = s[0].toNat := by
 unfold part
 have hl : s.data.toList.length = s.size := by simp
 rw [List.drop_eq_getElem_cons (by omega)]
 simp [num]; rfl
theorem calls_calm {f : FuncId} {args : Array Value} {u : World} {v : Value} (h : Calls Try.prog f args u fun e w' => e = .returned v ∧ u = w') : Calls Try.prog f args u fun e w' => e = .returned v ∧ Calm u w' :=
 h.mono fun _ _ ⟨a, b⟩ => ⟨a, b ▸ Calm.refl _⟩
/-- What the five parts and the value of a record's bytes are called in a walk. -/
theorem dec_parts (s : ByteArray) (h18 : 18 ≤ s.size) : ∃ (p o f m g : Nat) (v : ByteArray), s[0].toNat = p ∧ s.extract 18 (18 + s[17].toNat) = v ∧
    (s.extract 1 5).size ≤ 4 ∧ (s.extract 5 9).size ≤ 4 ∧ (s.extract 9 13).size ≤ 4 ∧ (s.extract 13 17).size ≤ 4 ∧
    num (s.extract 1 5).data.toList = o ∧ num (s.extract 5 9).data.toList = f ∧ num (s.extract 9 13).data.toList = m ∧ num (s.extract 13 17).data.toList = g ∧ decEl s.data.toList = ⟨p, o, f, m, g, v⟩ := by
  have hB := lenB_at s (by omega)
  have hd : decEl s.data.toList = ⟨s[0].toNat, num (s.extract 1 5).data.toList, num (s.extract 5 9).data.toList, num (s.extract 9 13).data.toList, num (s.extract 13 17).data.toList, s.extract 18 (18 + s[17].toNat)⟩ := by
    unfold decEl
    rw [hB, head_at s (by omega), part_extract, part_extract, part_extract, part_extract, part_bytes]
    simp
  refine ⟨_, _, _, _, _, _, rfl, rfl, ?_, ?_, ?_, ?_, rfl, rfl, rfl, rfl, hd⟩ <;> (rw [ByteArray.size_extract]; omega)
set_option maxHeartbeats 4000000 in
theorem codeGet_any (s : ByteArray) (w : World) : Calls Try.prog 20 #[.string s] w (GetEnd s.data.toList w) := by
 have hl := bytes_len s
 by_cases h18 : s.size < 18
 ·have e1 : decErr s.data.toList = 7 := by unfold decErr; rw [if_pos (by left; omega)]
  have e2 : GetEnd s.data.toList w = fun e w' => e = .returned (.tuple #[nilEl.aggOf, .int .i64 0, .int .i64 7]) ∧ Calm w w' := by
   funext e w'; simp [GetEnd, gotEl, gotLen, e1]
  rw [e2]
  have h18' : (s.size : Int) < 18 := by omega
  clear e1 e2 hl h18
  go_enter Try.func20, Try.ntmps20
  go_wp2
  exact end_three rfl rfl _ _ w.heap.size _ _ _ _ (0, 0) rfl rfl rfl rfl (heap_new _ _) rfl ⟨rfl, (Calm.refl _).alloc _⟩
 have h17 : 17 < s.size := by omega
 have h18' : (18 : Int) ≤ s.size := by omega
 have hB := lenB_at s h17
 by_cases hn : s.size < 18 + s[17].toNat
 ·have e1 : decErr s.data.toList = 7 := by unfold decErr; rw [if_pos (by right; omega)]
  have e2 : GetEnd s.data.toList w = fun e w' => e = .returned (.tuple #[nilEl.aggOf, .int .i64 0, .int .i64 7]) ∧ Calm w w' := by
   funext e w'; simp [GetEnd, gotEl, gotLen, e1]
  rw [e2]
  have hc := s[17].toNat_lt
  have hn' : (s.size : Int) < (18 : Int) + (s[17].toNat : Int) := by omega
  clear e1 e2 hl h18 hB hn
  go_enter Try.func20, Try.ntmps20
  go_wp2
  exact end_three rfl rfl _ _ w.heap.size _ _ _ _ (0, 0) rfl rfl rfl rfl (heap_new _ _) rfl ⟨rfl, (Calm.refl _).alloc _⟩
 have hlen : 18 + s[17].toNat ≤ s.size := by omega
 have hn' : (18 : Int) + (s[17].toNat : Int) ≤ (s.size : Int) := by omega
 have hc17 := s[17].toNat_lt
 obtain ⟨N, hN⟩ : ∃ N, N = 18 + s[17].toNat := ⟨_, rfl⟩
 have eL : decLen s.data.toList = N := by unfold decLen; rw [hB, hN]
 have eN : (18 : Int) + (s[17].toNat : Int) = (N : Int) := by omega
 have hN1 : (18 : Int) ≤ (N : Int) := by omega
 have hN2 : (N : Int) ≤ (s.size : Int) := by omega
 have hne : ¬ (s.data.toList.length < 18 ∨ s.data.toList.length < 18 + lenB s.data.toList) := by omega
 obtain ⟨p, o, f, m, g, v, hp, hv, q1, q2, q3, q4, n1, n2, n3, n4, hD⟩ := dec_parts s (by omega)
 have c1 := fun u => calls_calm (n1 ▸ number_any (s.extract 1 5) u q1)
 have c2 := fun u => calls_calm (n2 ▸ number_any (s.extract 5 9) u q2)
 have c3 := fun u => calls_calm (n3 ▸ number_any (s.extract 9 13) u q3)
 have c4 := fun u => calls_calm (n4 ▸ number_any (s.extract 13 17) u q4)
 have hp255 : p < 256 := by rw [← hp]; exact s[0].toNat_lt
 have eE : decErr s.data.toList = if elemErr p o f m g v.size = 0 then 0 else 3 := by
  unfold decErr; rw [if_neg hne, hD]; rfl
 have G : Hid (GetEnd s.data.toList w = fun e w' => e = .returned (.tuple #[(if elemErr p o f m g v.size = 0 then ⟨p, o, f, m, g, v⟩ else nilEl : El).aggOf, .int .i64 (if elemErr p o f m g v.size = 0 then (N : Int) else 0), .int .i64 (if elemErr p o f m g v.size = 0 then 0 else 3)]) ∧ Calm w w') := by
  show _ = _
  funext e w'
  unfold GetEnd gotEl gotLen
  rw [eE, hD, eL]
  by_cases h : elemErr p o f m g v.size = 0 <;> simp [h]
 rw [G.out]
 rw [← hN] at hv
 have i0 : 0 < s.size := by omega
 have i5 : (5 : Int) ≤ (s.size : Int) := by omega
 have i9 : (9 : Int) ≤ (s.size : Int) := by omega
 have i13 : (13 : Int) ≤ (s.size : Int) := by omega
 have i17 : (17 : Int) ≤ (s.size : Int) := by omega
 have ip : IntKind.i64.wrap (p : Int) = (p : Int) := IntWalk.i64_in _ (by omega)
 have hcE := fun u => elemCheck_any p o f m g v u
 clear hB eL hne hD eE G n1 n2 n3 n4 q1 q2 q3 q4 hl hlen hn hN
 generalize elemErr (p : Int) (o : Int) (f : Int) (m : Int) (g : Int) (v.size : Int) = E at hcE ⊢
 generalize hr1 : (if E = 0 then (⟨p, o, f, m, g, v⟩ : El) else nilEl) = R
 generalize hr2 : (if E = 0 then (N : Int) else 0) = RN
 generalize hr3 : (if E = 0 then (0 : Int) else 3) = RE
 have H1 := Lib.hid hr1
 have H2 := Lib.hid hr2
 have H3 := Lib.hid hr3
 clear hr1 hr2 hr3
 go_enter Try.func20, Try.ntmps20
 go_wp2_with fail
 have hz := heap_new w (.cells #[.int .i64 0, .int .i64 0, .int .i64 0, .int .i64 0, .int .i64 0, .string { data := #[] }] 25)
 have hu := (Calm.refl w).alloc (.cells #[.int .i64 0, .int .i64 0, .int .i64 0, .int .i64 0, .int .i64 0, .string { data := #[] }] 25)
 generalize w.alloc (.cells #[.int .i64 0, .int .i64 0, .int .i64 0, .int .i64 0, .int .i64 0, .string { data := #[] }] 25) = wz at hz hu ⊢
 refine wp_region_plan [.val (.string s), .val (.int .u8 (p : Int)), .val (.int .i64 (p)), .val (.string s), .val (.string (s.extract 1 5)), .val (.int .i64 (o)), .val (.string s), .val (.string (s.extract 5 9)), .val (.int .i64 (f)), .val (.agg #[.int .i64 (p : Int), .int .i64 (o : Int), .int .i64 (f : Int)]), .val (.string s), .val (.string (s.extract 9 13)), .val (.int .i64 (m)), .val (.string s), .val (.string (s.extract 13 17)), .val (.int .i64 (g)), .val (.string s), .val (.int .i64 (N)), .val (.string v), .val (.agg #[.int .i64 (p : Int), .int .i64 (o : Int), .int .i64 (f : Int), .int .i64 (m : Int), .int .i64 (g : Int), .string v]), .new #[.int .i64 0, .int .i64 0, .int .i64 0, .int .i64 0, .int .i64 0, .string { data := #[] }] 25, .fill 20 #[.int .i64 (p : Int), .int .i64 (o : Int), .int .i64 (f : Int), .int .i64 (m : Int), .int .i64 (g : Int), .string v]] (by kernel_rfl) (by kernel_rfl) (by kernel_rfl) ?_
 intro X
 iterate 20
  refine plan_val (by kernel_rfl) (fun u hu => ?_) ?_
  ·obtain ⟨hc, hf, hz⟩ := hu.of_drew.facts
   go_simp
   all_goals first
    |((go_at_call 46; first | (with_reducible exact c1 _) | (with_reducible exact c2 _) | (with_reducible exact c3 _) | (with_reducible exact c4 _)))
    |(exact ip)
  simp only [Act.put, List.setIfInBounds_toArray, List.set_cons_zero, List.set_cons_succ, Nat.reduceAdd]
 refine plan_new (by kernel_rfl) (fun u => ?_) ?_
 ·go_simp
 simp only [Act.put, List.setIfInBounds_toArray, List.set_cons_zero, List.set_cons_succ, Nat.reduceAdd]
 refine plan_fill_row rfl rfl rfl (by kernel_rfl) rfl rfl rfl (by kernel_rfl) rfl (by simp [Value.oneCell']) ?_
 simp only [Act.put]
 refine plan_end ?_
 intro w' hB
 have hk := hB.calm.of_drew
 have hx : w'.heap[X 20]? = some (.cells #[.int .i64 (p : Int), .int .i64 (o : Int), .int .i64 (f : Int), .int .i64 (m : Int), .int .i64 (g : Int), .string v] 25 (0, 0)) := (hB.row 20 _ _ rfl).2
 replace hz := (hk.block (row6 hz).2.2.2.2.2.2).trans hz
 replace hu := hu.call hk
 clear hB hk c1 c2 c3 c4 i0 i5 i9 i13 i17 ip hv hp hp255 eN hN1 hN2 hn' h18' hc17
 obtain ⟨x0, x1, x2, x3, x4, x5, hxs⟩ := row6 hx
 by_cases hE : E = 0
 ·subst hE
  go_wp2_with (go_at_call 26; refine (hcE _).mono ?_; rintro e w1 ⟨rfl, hb1⟩; replace hz := (hb1.block (row6 hz).2.2.2.2.2.2).trans hz; replace hx := (hb1.block (row6 hx).2.2.2.2.2.2).trans hx; replace hu := hu.call hb1; clear hb1; obtain ⟨z0, z1, z2, z3, z4, z5, hzs⟩ := row6 hz; obtain ⟨f0, f1, f2, f3, f4, f5⟩ := free6 hz; obtain ⟨x0, x1, x2, x3, x4, x5, hxs⟩ := row6 hx)
  have hr := set6 hz (.int .i64 (p : Int)) (.int .i64 (o : Int)) (.int .i64 (f : Int)) (.int .i64 (m : Int)) (.int .i64 (g : Int)) (.string v)
  have hu2 := hu.six (g := w.heap.size) (by omega) (.int .i64 (p : Int)) (.int .i64 (o : Int)) (.int .i64 (f : Int)) (.int .i64 (m : Int)) (.int .i64 (g : Int)) (.string v)
  unfold World.six at hr hu2
  exact end_three rfl rfl _ _ _ _ _ _ _ _ rfl rfl rfl rfl hr rfl ⟨by rw [← H1.out, ← H2.out, ← H3.out]; rfl, hu2⟩
 ·replace H1 := Lib.hid ((if_neg hE).symm.trans H1.out)
  replace H2 := Lib.hid ((if_neg hE).symm.trans H2.out)
  replace H3 := Lib.hid ((if_neg hE).symm.trans H3.out)
  have b1 : (E != 0) = true := by simpa using hE
  clear hE
  go_wp2_with (go_at_call 26; refine (hcE _).mono ?_; rintro e w1 ⟨rfl, hb1⟩; replace hz := (hb1.block (row6 hz).2.2.2.2.2.2).trans hz; replace hx := (hb1.block (row6 hx).2.2.2.2.2.2).trans hx; replace hu := hu.call hb1; clear hb1; obtain ⟨z0, z1, z2, z3, z4, z5, hzs⟩ := row6 hz; obtain ⟨f0, f1, f2, f3, f4, f5⟩ := free6 hz; obtain ⟨x0, x1, x2, x3, x4, x5, hxs⟩ := row6 hx)
  have hr := set6 hz (.int .i64 0) (.int .i64 0) (.int .i64 0) (.int .i64 0) (.int .i64 0) (.string { data := #[] })
  have hu2 := hu.six (g := w.heap.size) (by omega) (.int .i64 0) (.int .i64 0) (.int .i64 0) (.int .i64 0) (.int .i64 0) (.string { data := #[] })
  unfold World.six at hr hu2
  exact end_three rfl rfl _ _ _ _ _ _ _ _ rfl rfl rfl rfl hr rfl ⟨by rw [← H1.out, ← H2.out, ← H3.out]; rfl, hu2⟩
open Go.RowKit
set_option maxHeartbeats 4000000 in
theorem unbytes_any (s : ByteArray) (w : World) : Calls Try.prog 21 #[.string s] w (GetEnd s.data.toList w) := by
 have hl := bytes_len s
 by_cases h18 : s.size < 18
 ·have e1 : decErr s.data.toList = 7 := by unfold decErr; rw [if_pos (by left; omega)]
  have e2 : GetEnd s.data.toList w = fun e w' => e = .returned (.tuple #[nilEl.aggOf, .int .i64 0, .int .i64 7]) ∧ Calm w w' := by
   funext e w'; simp [GetEnd, gotEl, gotLen, e1]
  rw [e2]
  have h18' : (s.size : Int) < 18 := by omega
  clear e1 e2 hl h18
  go_enter Try.func21, Try.ntmps21
  go_wp2
  exact end_three rfl rfl _ _ w.heap.size _ _ _ _ (0, 0) rfl rfl rfl rfl (heap_new _ _) rfl ⟨rfl, (Calm.refl _).alloc _⟩
 have h17 : 17 < s.size := by omega
 have h18' : (18 : Int) ≤ s.size := by omega
 have hB := lenB_at s h17
 have cL := fun u => calls_calm (refBig_any (s.extract 17 18) u (by rw [ByteArray.size_extract]; omega))
 have eP : num (s.extract 17 18).data.toList = s[17].toNat := by rw [part_extract]; exact hB
 rw [eP] at cL
 have i17 : (17 : Int) ≤ (s.size : Int) := by omega
 clear eP
 by_cases hn : s.size < 18 + s[17].toNat
 ·have e1 : decErr s.data.toList = 7 := by unfold decErr; rw [if_pos (by right; omega)]
  have e2 : GetEnd s.data.toList w = fun e w' => e = .returned (.tuple #[nilEl.aggOf, .int .i64 0, .int .i64 7]) ∧ Calm w w' := by
   funext e w'; simp [GetEnd, gotEl, gotLen, e1]
  rw [e2]
  have hc := s[17].toNat_lt
  have hn' : (s.size : Int) < (18 : Int) + (s[17].toNat : Int) := by omega
  clear e1 e2 hl h18 hB hn
  have hz := heap_new w (.cells #[.int .i64 0, .int .i64 0, .int .i64 0, .int .i64 0, .int .i64 0, .string { data := #[] }] 25)
  have hu := (Calm.refl w).alloc (.cells #[.int .i64 0, .int .i64 0, .int .i64 0, .int .i64 0, .int .i64 0, .string { data := #[] }] 25)
  go_enter Try.func21, Try.ntmps21
  go_wp2_with (go_at_call 47; refine (cL _).mono ?_; rintro e w1 ⟨rfl, hb1⟩; replace hz := (hb1.block (row6 hz).2.2.2.2.2.2).trans hz; replace hu := hu.call hb1; clear hb1; obtain ⟨z0, z1, z2, z3, z4, z5, hzs⟩ := row6 hz; obtain ⟨f0, f1, f2, f3, f4, f5⟩ := free6 hz)
  have hr := set6 hz (.int .i64 0) (.int .i64 0) (.int .i64 0) (.int .i64 0) (.int .i64 0) (.string { data := #[] })
  have hu2 := hu.six (g := w.heap.size) (by omega) (.int .i64 0) (.int .i64 0) (.int .i64 0) (.int .i64 0) (.int .i64 0) (.string { data := #[] })
  unfold World.six at hr hu2
  exact end_three rfl rfl _ _ _ _ _ _ _ _ rfl rfl rfl rfl hr rfl ⟨rfl, hu2⟩
 have hlen : 18 + s[17].toNat ≤ s.size := by omega
 have hn' : (18 : Int) + (s[17].toNat : Int) ≤ (s.size : Int) := by omega
 have hc17 := s[17].toNat_lt
 obtain ⟨N, hN⟩ : ∃ N, N = 18 + s[17].toNat := ⟨_, rfl⟩
 have eL : decLen s.data.toList = N := by unfold decLen; rw [hB, hN]
 have eN : (18 : Int) + (s[17].toNat : Int) = (N : Int) := by omega
 have hN1 : (18 : Int) ≤ (N : Int) := by omega
 have hN2 : (N : Int) ≤ (s.size : Int) := by omega
 have hne : ¬ (s.data.toList.length < 18 ∨ s.data.toList.length < 18 + lenB s.data.toList) := by omega
 obtain ⟨p, o, f, m, g, v, hp, hv, q1, q2, q3, q4, n1, n2, n3, n4, hD⟩ := dec_parts s (by omega)
 have c0 := fun u => calls_calm (refBig_any (s.extract 0 1) u (by rw [ByteArray.size_extract]; omega))
 have hp0 : num (s.extract 0 1).data.toList = p := by rw [part_extract]; exact (head_at s (by omega)).trans hp
 rw [hp0] at c0
 have c1 := fun u => calls_calm (n1 ▸ refBig_any (s.extract 1 5) u q1)
 have c2 := fun u => calls_calm (n2 ▸ refBig_any (s.extract 5 9) u q2)
 have c3 := fun u => calls_calm (n3 ▸ refBig_any (s.extract 9 13) u q3)
 have c4 := fun u => calls_calm (n4 ▸ refBig_any (s.extract 13 17) u q4)
 have hp255 : p < 256 := by rw [← hp]; exact s[0].toNat_lt
 have eE : decErr s.data.toList = if elemErr p o f m g v.size = 0 then 0 else 3 := by
  unfold decErr; rw [if_neg hne, hD]; rfl
 have G : Hid (GetEnd s.data.toList w = fun e w' => e = .returned (.tuple #[(if elemErr p o f m g v.size = 0 then ⟨p, o, f, m, g, v⟩ else nilEl : El).aggOf, .int .i64 (if elemErr p o f m g v.size = 0 then (N : Int) else 0), .int .i64 (if elemErr p o f m g v.size = 0 then 0 else 3)]) ∧ Calm w w') := by
  show _ = _
  funext e w'
  unfold GetEnd gotEl gotLen
  rw [eE, hD, eL]
  by_cases h : elemErr p o f m g v.size = 0 <;> simp [h]
 rw [G.out]
 rw [← hN] at hv
 have i0 : 0 < s.size := by omega
 have i5 : (5 : Int) ≤ (s.size : Int) := by omega
 have i9 : (9 : Int) ≤ (s.size : Int) := by omega
 have i13 : (13 : Int) ≤ (s.size : Int) := by omega
 have i1 : (1 : Int) ≤ (s.size : Int) := by omega
 have ip : IntKind.i64.wrap (p : Int) = (p : Int) := IntWalk.i64_in _ (by omega)
 have hcE := fun u => refElem_any p o f m g v u (by omega)
 clear hB eL hne hD eE G n1 n2 n3 n4 q1 q2 q3 q4 hl hlen hn hN
 generalize elemErr (p : Int) (o : Int) (f : Int) (m : Int) (g : Int) (v.size : Int) = E at hcE ⊢
 generalize hr1 : (if E = 0 then (⟨p, o, f, m, g, v⟩ : El) else nilEl) = R
 generalize hr2 : (if E = 0 then (N : Int) else 0) = RN
 generalize hr3 : (if E = 0 then (0 : Int) else 3) = RE
 have H1 := Lib.hid hr1
 have H2 := Lib.hid hr2
 have H3 := Lib.hid hr3
 clear hr1 hr2 hr3
 have hz := heap_new w (.cells #[.int .i64 0, .int .i64 0, .int .i64 0, .int .i64 0, .int .i64 0, .string { data := #[] }] 25)
 have hu := (Calm.refl w).alloc (.cells #[.int .i64 0, .int .i64 0, .int .i64 0, .int .i64 0, .int .i64 0, .string { data := #[] }] 25)
 go_enter Try.func21, Try.ntmps21
 go_wp2_with (go_at_call 47; refine (cL _).mono ?_; rintro e wz ⟨rfl, hb1⟩; replace hz := (hb1.block (row6 hz).2.2.2.2.2.2).trans hz; replace hu := hu.call hb1; clear hb1)
 refine wp_region_plan [.val (.string s), .val (.string (s.extract 0 1)), .val (.int .i64 (p)), .val (.string s), .val (.string (s.extract 1 5)), .val (.int .i64 (o)), .val (.string s), .val (.string (s.extract 5 9)), .val (.int .i64 (f)), .val (.agg #[.int .i64 (p : Int), .int .i64 (o : Int), .int .i64 (f : Int)]), .val (.string s), .val (.string (s.extract 9 13)), .val (.int .i64 (m)), .val (.string s), .val (.string (s.extract 13 17)), .val (.int .i64 (g)), .val (.string s), .val (.int .i64 (N)), .val (.string v), .val (.agg #[.int .i64 (p : Int), .int .i64 (o : Int), .int .i64 (f : Int), .int .i64 (m : Int), .int .i64 (g : Int), .string v]), .new #[.int .i64 0, .int .i64 0, .int .i64 0, .int .i64 0, .int .i64 0, .string { data := #[] }] 25, .fill 20 #[.int .i64 (p : Int), .int .i64 (o : Int), .int .i64 (f : Int), .int .i64 (m : Int), .int .i64 (g : Int), .string v]] (by kernel_rfl) (by kernel_rfl) (by kernel_rfl) ?_
 intro X
 iterate 20
  refine plan_val (by kernel_rfl) (fun u hu => ?_) ?_
  ·obtain ⟨hc, hf, hz⟩ := hu.of_drew.facts
   go_simp
   all_goals first
    |((go_at_call 47; first | (with_reducible exact c1 _) | (with_reducible exact c2 _) | (with_reducible exact c3 _) | (with_reducible exact c4 _) | (with_reducible exact c0 _)))
  simp only [Act.put, List.setIfInBounds_toArray, List.set_cons_zero, List.set_cons_succ, Nat.reduceAdd]
 refine plan_new (by kernel_rfl) (fun u => ?_) ?_
 ·go_simp
 simp only [Act.put, List.setIfInBounds_toArray, List.set_cons_zero, List.set_cons_succ, Nat.reduceAdd]
 refine plan_fill_row rfl rfl rfl (by kernel_rfl) rfl rfl rfl (by kernel_rfl) rfl (by simp [Value.oneCell']) ?_
 simp only [Act.put]
 refine plan_end ?_
 intro w' hB
 have hk := hB.calm.of_drew
 have hx : w'.heap[X 20]? = some (.cells #[.int .i64 (p : Int), .int .i64 (o : Int), .int .i64 (f : Int), .int .i64 (m : Int), .int .i64 (g : Int), .string v] 25 (0, 0)) := (hB.row 20 _ _ rfl).2
 replace hz := (hk.block (row6 hz).2.2.2.2.2.2).trans hz
 replace hu := hu.call hk
 clear hB hk c0 cL hp0 i1 c1 c2 c3 c4 i0 i5 i9 i13 i17 ip hv hp hp255 eN hN1 hN2 hn' h18' hc17
 obtain ⟨x0, x1, x2, x3, x4, x5, hxs⟩ := row6 hx
 by_cases hE : E = 0
 ·subst hE
  go_wp2_with (go_at_call 18; refine (hcE _).mono ?_; rintro e w1 ⟨rfl, hb1⟩; replace hz := (hb1.block (row6 hz).2.2.2.2.2.2).trans hz; replace hx := (hb1.block (row6 hx).2.2.2.2.2.2).trans hx; replace hu := hu.call hb1; clear hb1; obtain ⟨z0, z1, z2, z3, z4, z5, hzs⟩ := row6 hz; obtain ⟨f0, f1, f2, f3, f4, f5⟩ := free6 hz; obtain ⟨x0, x1, x2, x3, x4, x5, hxs⟩ := row6 hx)
  have hr := set6 hz (.int .i64 (p : Int)) (.int .i64 (o : Int)) (.int .i64 (f : Int)) (.int .i64 (m : Int)) (.int .i64 (g : Int)) (.string v)
  have hu2 := hu.six (g := w.heap.size) (by omega) (.int .i64 (p : Int)) (.int .i64 (o : Int)) (.int .i64 (f : Int)) (.int .i64 (m : Int)) (.int .i64 (g : Int)) (.string v)
  unfold World.six at hr hu2
  exact end_three rfl rfl _ _ _ _ _ _ _ _ rfl rfl rfl rfl hr rfl ⟨by rw [← H1.out, ← H2.out, ← H3.out]; rfl, hu2⟩
 ·replace H1 := Lib.hid ((if_neg hE).symm.trans H1.out)
  replace H2 := Lib.hid ((if_neg hE).symm.trans H2.out)
  replace H3 := Lib.hid ((if_neg hE).symm.trans H3.out)
  have b1 : (E != 0) = true := by simpa using hE
  clear hE
  go_wp2_with (go_at_call 18; refine (hcE _).mono ?_; rintro e w1 ⟨rfl, hb1⟩; replace hz := (hb1.block (row6 hz).2.2.2.2.2.2).trans hz; replace hx := (hb1.block (row6 hx).2.2.2.2.2.2).trans hx; replace hu := hu.call hb1; clear hb1; obtain ⟨z0, z1, z2, z3, z4, z5, hzs⟩ := row6 hz; obtain ⟨f0, f1, f2, f3, f4, f5⟩ := free6 hz; obtain ⟨x0, x1, x2, x3, x4, x5, hxs⟩ := row6 hx)
  have hr := set6 hz (.int .i64 0) (.int .i64 0) (.int .i64 0) (.int .i64 0) (.int .i64 0) (.string { data := #[] })
  have hu2 := hu.six (g := w.heap.size) (by omega) (.int .i64 0) (.int .i64 0) (.int .i64 0) (.int .i64 0) (.int .i64 0) (.string { data := #[] })
  unfold World.six at hr hu2
  exact end_three rfl rfl _ _ _ _ _ _ _ _ rfl rfl rfl rfl hr rfl ⟨by rw [← H1.out, ← H2.out, ← H3.out]; rfl, hu2⟩
def frErr (k : Int) (n : Nat) : Int := if k < 1 ∨ 255 < k then 1 else if 3000 < n then 2 else 0
def frHead (k : Nat) (b : List UInt8) : List UInt8 := be 1 k ++ (be 2 b.length ++ b)
def encF (k : Nat) (b : List UInt8) : List UInt8 := frHead k b ++ be 2 (crc (frHead k b)).toNat
def unKind (l : List UInt8) : Nat := num (part l 0 1)
def unSize (l : List UInt8) : Nat := num (part l 1 2)
def unBody (l : List UInt8) : List UInt8 := part l 3 (unSize l)
def unErr (l : List UInt8) : Int :=
 if l.length < 5 then 7 else if unKind l = 0 ∨ 3000 < unSize l then 3 else if l.length < 5 + unSize l then 7
 else if (crc (l.take (3 + unSize l))).toNat ≠ num (part l (3 + unSize l) 2) then 6 else 0
theorem frHead_length (k : Nat) (b : List UInt8) : (frHead k b).length = 3 + b.length := by
 simp only [frHead, List.length_append, be_length]; omega
theorem encF_length (k : Nat) (b : List UInt8) : (encF k b).length = 5 + b.length := by
 simp only [encF, List.length_append, be_length, frHead_length]; omega
section
variable {k : Nat} {b : List UInt8} (hk : k < 256) (hb : b.length ≤ 3000)
include hk hb
theorem un_head (r : List UInt8) : unKind (frHead k b ++ r) = k ∧ unSize (frHead k b ++ r) = b.length ∧ unBody (frHead k b ++ r) = b := by
 have E : frHead k b ++ r = be 1 k ++ (be 2 b.length ++ (b ++ r)) := by simp [frHead]
 have s1 := fun (c : List UInt8) (i j : Nat) => part_skip (b := c) (be_length 1 k) i j
 have s2 := fun (c : List UInt8) (i j : Nat) => part_skip (b := c) (be_length 2 b.length) i j
 have h2 : unSize (frHead k b ++ r) = b.length := by
  rw [unSize, E, show 1 = 1 + 0 from rfl, s1, part_here (be_length _ _), num_be _ _ (by omega)]
 refine ⟨?_, h2, ?_⟩
 ·rw [unKind, E, part_here (be_length _ _), num_be _ _ (by omega)]
 ·rw [unBody, h2, E, show 3 = 1 + (2 + 0) from rfl, s1, s2, part_here rfl]
theorem un_enc (h0 : 0 < k) (r : List UInt8) : unErr (encF k b ++ r) = 0 ∧ unKind (encF k b ++ r) = k ∧ unSize (encF k b ++ r) = b.length ∧ unBody (encF k b ++ r) = b := by
 have E : encF k b ++ r = frHead k b ++ (be 2 (crc (frHead k b)).toNat ++ r) := by simp [encF]
 have hl := encF_length k b
 obtain ⟨h1, h2, h3⟩ := un_head hk hb (be 2 (crc (frHead k b)).toNat ++ r)
 rw [← E] at h1 h2 h3
 refine ⟨?_, h1, h2, h3⟩
 have hc := (crc (frHead k b)).isLt
 have e1 : (encF k b ++ r).take (3 + b.length) = frHead k b := by rw [E, List.take_left' (frHead_length k b)]
 have e2 : part (encF k b ++ r) (3 + b.length) 2 = be 2 (crc (frHead k b)).toNat := by
  rw [E, show 3 + b.length = 3 + b.length + 0 from rfl, part_skip (frHead_length k b), part_here (be_length _ _)]
 unfold unErr
 rw [if_neg (by rw [List.length_append]; omega), h1, h2, if_neg (by omega), if_neg (by rw [List.length_append]; omega), e1, e2, num_be _ _ (by omega), if_neg (by simp)]
end
theorem unErr_zero {l : List UInt8} (h : unErr l = 0) : 5 + unSize l ≤ l.length ∧ 0 < unKind l ∧ unKind l < 256 ∧ unSize l ≤ 3000 ∧ (crc (l.take (3 + unSize l))).toNat = num (part l (3 + unSize l) 2) := by
 unfold unErr at h
 split at h
 ·cases h
 split at h
 ·cases h
 split at h
 ·cases h
 split at h
 ·cases h
 ·have := num_lt 1 (part l 0 1) (part_length (by omega))
  unfold unKind at *
  exact ⟨by omega, by omega, by omega, by omega, by simp_all⟩
theorem unBody_length {l : List UInt8} (h : 5 + unSize l ≤ l.length) : (unBody l).length = unSize l := part_length (by omega)
theorem be2 (n : Nat) (h : n < 65536) : be 2 n = [UInt8.ofNat (n / 256), UInt8.ofNat (n % 256)] := by
 show [UInt8.ofNat (n / 256 % 256), UInt8.ofNat (n % 256)] = _
 rw [Nat.mod_eq_of_lt (show n / 256 < 256 by omega)]
open Go.RowKit
theorem be4 (n : Nat) (h : n < 4294967296) : be 4 n = [UInt8.ofNat (n / 16777216), UInt8.ofNat (n / 65536 % 256), UInt8.ofNat (n / 256 % 256), UInt8.ofNat (n % 256)] := by
 show [UInt8.ofNat (n / 256 / 256 / 256 % 256), UInt8.ofNat (n / 256 / 256 % 256), UInt8.ofNat (n / 256 % 256), UInt8.ofNat (n % 256)] = _
 rw [show n / 256 / 256 / 256 % 256 = n / 16777216 from by omega, show n / 256 / 256 % 256 = n / 65536 % 256 from by omega]
theorem be1 (n : Nat) (h : n < 256) : be 1 n = [UInt8.ofNat n] := by
 show [UInt8.ofNat (n % 256)] = _
 rw [Nat.mod_eq_of_lt h]
theorem OwnB.base {base : Nat} {w : World} {v : Value} {l : List UInt8} (h : OwnB base w v l) (hl : 0 < l.length) : base ≤ w.heap.size := by
 rcases h.2 with ⟨_, h0⟩ | ⟨g, cap, cur, rfl, hb, hg, _⟩
 ·omega
 ·have := (Array.getElem?_eq_some_iff.1 hg).1; omega
theorem OwnB.nil (base : Nat) (w : World) : OwnB base w (.slice none 0 0) [] := World.ownsRow_nil _ _ _ _
def PairEnd (base : Nat) (l : List UInt8) (w : World) (e : Ending) (w' : World) : Prop := ∃ v', e = .returned v' ∧ OwnB base w' v' l ∧ ∀ w0 : World, w0.heap.size ≤ base → Calm w0 w → Calm w0 w'
set_option maxHeartbeats 4000000 in
theorem appendNum2_any (base : Nat) (v : Value) (l : List UInt8) (n : Nat) (w : World) (hn : n < 65536) (ho : OwnB base w v l) (hl : l.length ≤ 100000) (hb : base ≤ w.heap.size) :
    Calls Try.prog 43 #[v, .int .i64 (n : Int), .int .i64 2] w (PairEnd base (l ++ be 2 n) w) := by
  have HO := Lib.hid ho
  have C0 : Hid (∀ w0 : World, w0.heap.size ≤ base → Calm w0 w → Calm w0 w) := show ∀ _, _ from fun _ _ h => h
  clear ho
  go_enter Try.func43, Try.ntmps43
  go_wp2_with fail
  refine wp_loop_rounds 3 ?_
  rw [rounds_succ]
  go_wp2_with (at_builtin; refine wpList_append_b1 rfl _ _ rfl base _ _ rfl (HO.out.calm ((Calm.refl _).alloc _)) _ _ _ _ rfl (heap_new _ _) ?_ (by first | omega | (simp; omega)) (by first | omega | (simp; omega)) ?_; (· omega); intro v1 w1 ho1 hc1; replace C0 : Hid (∀ w0 : World, w0.heap.size ≤ base → Calm w0 w → Calm w0 w1) := (show ∀ _, _ from fun w0 h0 hc => hc1 w0 h0 ((C0.out w0 h0 hc).alloc _)); replace hb := ho1.base (by simp); replace HO := Lib.hid ho1; clear ho1 hc1)
  rw [rounds_succ]
  go_wp2_with (at_builtin; refine wpList_append_b1 rfl _ _ rfl base _ _ rfl (HO.out.calm ((Calm.refl _).alloc _)) _ _ _ _ rfl (heap_new _ _) ?_ (by first | omega | (simp; omega)) (by first | omega | (simp; omega)) ?_; (· omega); intro v1 w1 ho1 hc1; replace C0 : Hid (∀ w0 : World, w0.heap.size ≤ base → Calm w0 w → Calm w0 w1) := (show ∀ _, _ from fun w0 h0 hc => hc1 w0 h0 ((C0.out w0 h0 hc).alloc _)); replace hb := ho1.base (by simp); replace HO := Lib.hid ho1; clear ho1 hc1)
  rw [rounds_succ]
  go_wp2_with fail
  go_ret
  refine ⟨_, rfl, ?_, C0.out⟩
  have h9 := HO.out
  simp only [List.append_assoc, List.cons_append, List.nil_append] at h9
  have e : be 2 n = [UInt8.ofNat ((n : Int) / 256).toNat, UInt8.ofNat ((n : Int) % 256).toNat] := by
    rw [be2 n (by omega)]
    congr 1
  rw [e]
  exact h9
set_option maxHeartbeats 4000000 in
theorem appendNum4_any (base : Nat) (v : Value) (l : List UInt8) (n : Nat) (w : World) (hn : n < 4294967296) (ho : OwnB base w v l) (hl : l.length ≤ 100000) (hb : base ≤ w.heap.size) :
    Calls Try.prog 43 #[v, .int .i64 (n : Int), .int .i64 4] w (PairEnd base (l ++ be 4 n) w) := by
  have HO := Lib.hid ho
  have C0 : Hid (∀ w0 : World, w0.heap.size ≤ base → Calm w0 w → Calm w0 w) := show ∀ _, _ from fun _ _ h => h
  clear ho
  go_enter Try.func43, Try.ntmps43
  go_wp2_with fail
  refine wp_loop_rounds 5 ?_
  rw [rounds_succ]
  go_wp2_with (at_builtin; refine wpList_append_b1 rfl _ _ rfl base _ _ rfl (HO.out.calm ((Calm.refl _).alloc _)) _ _ _ _ rfl (heap_new _ _) ?_ (by first | omega | (simp; omega)) (by first | omega | (simp; omega)) ?_; (· omega); intro v1 w1 ho1 hc1; replace C0 : Hid (∀ w0 : World, w0.heap.size ≤ base → Calm w0 w → Calm w0 w1) := (show ∀ _, _ from fun w0 h0 hc => hc1 w0 h0 ((C0.out w0 h0 hc).alloc _)); replace hb := ho1.base (by simp); replace HO := Lib.hid ho1; clear ho1 hc1)
  rw [rounds_succ]
  go_wp2_with (at_builtin; refine wpList_append_b1 rfl _ _ rfl base _ _ rfl (HO.out.calm ((Calm.refl _).alloc _)) _ _ _ _ rfl (heap_new _ _) ?_ (by first | omega | (simp; omega)) (by first | omega | (simp; omega)) ?_; (· omega); intro v1 w1 ho1 hc1; replace C0 : Hid (∀ w0 : World, w0.heap.size ≤ base → Calm w0 w → Calm w0 w1) := (show ∀ _, _ from fun w0 h0 hc => hc1 w0 h0 ((C0.out w0 h0 hc).alloc _)); replace hb := ho1.base (by simp); replace HO := Lib.hid ho1; clear ho1 hc1)
  rw [rounds_succ]
  go_wp2_with (at_builtin; refine wpList_append_b1 rfl _ _ rfl base _ _ rfl (HO.out.calm ((Calm.refl _).alloc _)) _ _ _ _ rfl (heap_new _ _) ?_ (by first | omega | (simp; omega)) (by first | omega | (simp; omega)) ?_; (· omega); intro v1 w1 ho1 hc1; replace C0 : Hid (∀ w0 : World, w0.heap.size ≤ base → Calm w0 w → Calm w0 w1) := (show ∀ _, _ from fun w0 h0 hc => hc1 w0 h0 ((C0.out w0 h0 hc).alloc _)); replace hb := ho1.base (by simp); replace HO := Lib.hid ho1; clear ho1 hc1)
  rw [rounds_succ]
  go_wp2_with (at_builtin; refine wpList_append_b1 rfl _ _ rfl base _ _ rfl (HO.out.calm ((Calm.refl _).alloc _)) _ _ _ _ rfl (heap_new _ _) ?_ (by first | omega | (simp; omega)) (by first | omega | (simp; omega)) ?_; (· omega); intro v1 w1 ho1 hc1; replace C0 : Hid (∀ w0 : World, w0.heap.size ≤ base → Calm w0 w → Calm w0 w1) := (show ∀ _, _ from fun w0 h0 hc => hc1 w0 h0 ((C0.out w0 h0 hc).alloc _)); replace hb := ho1.base (by simp); replace HO := Lib.hid ho1; clear ho1 hc1)
  rw [rounds_succ]
  go_wp2_with fail
  go_ret
  refine ⟨_, rfl, ?_, C0.out⟩
  have h9 := HO.out
  simp only [List.append_assoc, List.cons_append, List.nil_append] at h9
  have e : be 4 n = [UInt8.ofNat ((n : Int) / 16777216).toNat, UInt8.ofNat ((n : Int) / 65536 % 256).toNat, UInt8.ofNat ((n : Int) / 256 % 256).toNat, UInt8.ofNat ((n : Int) % 256).toNat] := by
    rw [be4 n (by omega)]
    congr 1
  rw [e]
  exact h9
open Go.RowKit
def wroteS (e : El) : ByteArray := if e.err = 0 then ⟨(enc e).toArray⟩ else { data := #[] }
def WriteEnd (x : El) (w : World) (e : Ending) (w' : World) : Prop := e = .returned (.tuple #[.string (wroteS x), .int .i64 x.err]) ∧ Calm w w'
theorem heap_new2 (w : World) (o o' : Obj) : ((w.alloc o).alloc o').heap[w.heap.size + 1]? = some o' := by simpa using heap_new (w.alloc o) o'
theorem index4 (x y z u : Value) (w : World) : (Instr.index 73 (.agg #[x, y, z, u]) (.int .i64 0)).run Try.prog w = .ok x w ∧ (Instr.index 73 (.agg #[x, y, z, u]) (.int .i64 1)).run Try.prog w = .ok y w ∧ (Instr.index 73 (.agg #[x, y, z, u]) (.int .i64 2)).run Try.prog w = .ok z w ∧ (Instr.index 73 (.agg #[x, y, z, u]) (.int .i64 3)).run Try.prog w = .ok u w :=
 ⟨by kernel_rfl, by kernel_rfl, by kernel_rfl, by kernel_rfl⟩
set_option maxHeartbeats 8000000 in
theorem codeWrite_any (p o f m g : Int) (s : ByteArray) (w : World) : Calls Try.prog 17 #[.agg #[.int .i64 p, .int .i64 o, .int .i64 f, .int .i64 m, .int .i64 g, .string s]] w (WriteEnd ⟨p, o, f, m, g, s⟩ w) := by
 have hcE := fun u => elemCheck_any p o f m g s u
 have G : WriteEnd ⟨p, o, f, m, g, s⟩ w = fun e w' => e = .returned (.tuple #[.string (wroteS ⟨p, o, f, m, g, s⟩), .int .i64 (elemErr p o f m g s.size)]) ∧ Calm w w' := rfl
 have hx := heap_new w (.cells #[.int .i64 p, .int .i64 o, .int .i64 f, .int .i64 m, .int .i64 g, .string s] 25)
 have hu := (Calm.refl w).alloc (.cells #[.int .i64 p, .int .i64 o, .int .i64 f, .int .i64 m, .int .i64 g, .string s] 25)
 by_cases he : elemErr p o f m g s.size = 0
 rotate_left
 ·have hW : wroteS ⟨p, o, f, m, g, s⟩ = { data := #[] } := by unfold wroteS; exact if_neg he
  have b1 : (elemErr p o f m g s.size != 0) = true := by simpa using he
  rw [G, hW]
  generalize elemErr p o f m g s.size = E at hcE b1 ⊢
  clear G hW he
  go_enter Try.func17, Try.ntmps17
  go_wp2_with (go_at_call 26; refine (hcE _).mono ?_; rintro e w1 ⟨rfl, hb1⟩; replace hx := (hb1.block (row6 hx).2.2.2.2.2.2).trans hx; replace hu := hu.call hb1; clear hb1; obtain ⟨x0, x1, x2, x3, x4, x5, hxs⟩ := row6 hx)
  go_ret2
  exact ⟨rfl, hu⟩
 have hW : Hid (wroteS ⟨p, o, f, m, g, s⟩ = ⟨(enc ⟨p, o, f, m, g, s⟩).toArray⟩) := by show _ = _; unfold wroteS; exact if_pos he
 have hb := err_zero (e := ⟨p, o, f, m, g, s⟩) he
 simp only at hb
 rw [G]
 rw [he] at hcE ⊢
 generalize wroteS ⟨p, o, f, m, g, s⟩ = W at hW ⊢
 obtain ⟨P, rfl⟩ : ∃ n : Nat, p = (n : Int) := ⟨p.toNat, by omega⟩
 obtain ⟨O, rfl⟩ : ∃ n : Nat, o = (n : Int) := ⟨o.toNat, by omega⟩
 obtain ⟨F, rfl⟩ : ∃ n : Nat, f = (n : Int) := ⟨f.toNat, by omega⟩
 obtain ⟨M, rfl⟩ : ∃ n : Nat, m = (n : Int) := ⟨m.toNat, by omega⟩
 obtain ⟨D, rfl⟩ : ∃ n : Nat, g = (n : Int) := ⟨g.toNat, by omega⟩
 obtain ⟨k1, k2, k3, k4, k5, k6, k7, k8, k9, k10, k11⟩ := hb
 obtain ⟨j0, j1, j2, j3⟩ : (∀ x y z u w, _) ∧ (∀ x y z u w, _) ∧ (∀ x y z u w, _) ∧ (∀ x y z u w, _) := ⟨fun x y z u w => (index4 x y z u w).1, fun x y z u w => (index4 x y z u w).2.1, fun x y z u w => (index4 x y z u w).2.2.1, fun x y z u w => (index4 x y z u w).2.2.2⟩
 have hmk := fun u => makeRoom u ((18 : Int) + (s.size : Int)) (18 + s.size) (by omega) (by omega)
 clear G he
 have hx0 := hx
 go_enter Try.func17, Try.ntmps17
 go_wp2_with (first
   |(go_at_call 26; refine (hcE _).mono ?_; rintro e w1 ⟨rfl, hb1⟩; replace hx := (hb1.block (row6 hx).2.2.2.2.2.2).trans hx; have hv := hb1.alloc (.cells (bv (List.replicate (18 + s.size) 0)).toArray 5); have hvs := hb1.size; simp only [World.size_alloc] at hvs; have ho := Lib.hid (OwnB.made (w.heap.size + 1) w1 (18 + s.size) hvs (by omega)); clear hb1; obtain ⟨x0, x1, x2, x3, x4, x5, hxs⟩ := row6 hx)
   |(at_builtin; go_must (refine wpList_append_b1 rfl _ _ rfl (w.heap.size + 1) _ _ rfl (ho.out.calm ((Calm.refl _).alloc _)) _ _ _ _ rfl (heap_new2 _ _ _) ?_ (by simp) (by simp; omega) ?_); (· omega); intro v' w9 ho9 hc9; replace hv := hc9 (w.alloc (.cells #[.int .i64 (P : Int), .int .i64 (O : Int), .int .i64 (F : Int), .int .i64 (M : Int), .int .i64 (D : Int), .string s] 25)) (by simp) (hv.alloc _); replace hx := (hv.block (by simp)).trans hx0; have hvs := hv.size; simp only [World.size_alloc] at hvs; replace ho := Lib.hid ho9; clear ho9 hc9; obtain ⟨x0, x1, x2, x3, x4, x5, hxs⟩ := row6 hx))
 refine wp_loop_rounds 5 ?_
 rw [rounds_succ]
 go_wp2_with (go_at_call 43; refine (appendNum4_any (w.heap.size + 1) _ _ O _ ?_ ho.out ?_ ?_).mono ?_; (· omega); (· first | omega | (simp [be_length]; omega) | simp [be_length]); (· omega); rintro e w9 ⟨v', rfl, ho9, hc9⟩; replace hv := hc9 (w.alloc (.cells #[.int .i64 (P : Int), .int .i64 (O : Int), .int .i64 (F : Int), .int .i64 (M : Int), .int .i64 (D : Int), .string s] 25)) (by simp) hv; replace hx := (hv.block (by simp)).trans hx0; have hvs := hv.size; simp only [World.size_alloc] at hvs; replace ho := Lib.hid ho9; clear ho9 hc9; obtain ⟨x0, x1, x2, x3, x4, x5, hxs⟩ := row6 hx)
 rw [rounds_succ]
 go_wp2_with (go_at_call 43; refine (appendNum4_any (w.heap.size + 1) _ _ F _ ?_ ho.out ?_ ?_).mono ?_; (· omega); (· first | omega | (simp [be_length]; omega) | simp [be_length]); (· omega); rintro e w9 ⟨v', rfl, ho9, hc9⟩; replace hv := hc9 (w.alloc (.cells #[.int .i64 (P : Int), .int .i64 (O : Int), .int .i64 (F : Int), .int .i64 (M : Int), .int .i64 (D : Int), .string s] 25)) (by simp) hv; replace hx := (hv.block (by simp)).trans hx0; have hvs := hv.size; simp only [World.size_alloc] at hvs; replace ho := Lib.hid ho9; clear ho9 hc9; obtain ⟨x0, x1, x2, x3, x4, x5, hxs⟩ := row6 hx)
 rw [rounds_succ]
 go_wp2_with (go_at_call 43; refine (appendNum4_any (w.heap.size + 1) _ _ M _ ?_ ho.out ?_ ?_).mono ?_; (· omega); (· first | omega | (simp [be_length]; omega) | simp [be_length]); (· omega); rintro e w9 ⟨v', rfl, ho9, hc9⟩; replace hv := hc9 (w.alloc (.cells #[.int .i64 (P : Int), .int .i64 (O : Int), .int .i64 (F : Int), .int .i64 (M : Int), .int .i64 (D : Int), .string s] 25)) (by simp) hv; replace hx := (hv.block (by simp)).trans hx0; have hvs := hv.size; simp only [World.size_alloc] at hvs; replace ho := Lib.hid ho9; clear ho9 hc9; obtain ⟨x0, x1, x2, x3, x4, x5, hxs⟩ := row6 hx)
 rw [rounds_succ]
 go_wp2_with (go_at_call 43; refine (appendNum4_any (w.heap.size + 1) _ _ D _ ?_ ho.out ?_ ?_).mono ?_; (· omega); (· first | omega | (simp [be_length]; omega) | simp [be_length]); (· omega); rintro e w9 ⟨v', rfl, ho9, hc9⟩; replace hv := hc9 (w.alloc (.cells #[.int .i64 (P : Int), .int .i64 (O : Int), .int .i64 (F : Int), .int .i64 (M : Int), .int .i64 (D : Int), .string s] 25)) (by simp) hv; replace hx := (hv.block (by simp)).trans hx0; have hvs := hv.size; simp only [World.size_alloc] at hvs; replace ho := Lib.hid ho9; clear ho9 hc9; obtain ⟨x0, x1, x2, x3, x4, x5, hxs⟩ := row6 hx)
 rw [rounds_succ]
 go_wp2_with (first
   |(at_builtin; refine wpList_append_st rfl _ _ rfl (w.heap.size + 1) _ _ rfl ho.out _ rfl (by simp [be_length]; omega) (by omega) ?_; intro v' w9 ho9 hc9; replace hv := hc9 (w.alloc (.cells #[.int .i64 (P : Int), .int .i64 (O : Int), .int .i64 (F : Int), .int .i64 (M : Int), .int .i64 (D : Int), .string s] 25)) (by simp) hv; replace hx := (hv.block (by simp)).trans hx0; have hvs := hv.size; simp only [World.size_alloc] at hvs; replace ho := Lib.hid ho9; clear ho9 hc9; obtain ⟨x0, x1, x2, x3, x4, x5, hxs⟩ := row6 hx; have hcv := ho.out.str (by simp))
   |(at_builtin; go_must (refine wpList_append_b1 rfl _ _ rfl (w.heap.size + 1) _ _ rfl (ho.out.calm ((Calm.refl _).alloc _)) _ _ _ _ rfl (heap_new _ _) ?_ (by simp [be_length]) (by simp; omega) ?_); (· omega); intro v' w9 ho9 hc9; replace hv := hc9 (w.alloc (.cells #[.int .i64 (P : Int), .int .i64 (O : Int), .int .i64 (F : Int), .int .i64 (M : Int), .int .i64 (D : Int), .string s] 25)) (by simp) (hv.alloc _); replace hx := (hv.block (by simp)).trans hx0; have hvs := hv.size; simp only [World.size_alloc] at hvs; replace ho := Lib.hid ho9; clear ho9 hc9; obtain ⟨x0, x1, x2, x3, x4, x5, hxs⟩ := row6 hx))
 have hu9 := ((Calm.refl w).alloc (.cells #[.int .i64 (P : Int), .int .i64 (O : Int), .int .i64 (F : Int), .int .i64 (M : Int), .int .i64 (D : Int), .string s] 25)).call hv
 have hE : W = ⟨([] ++ [UInt8.ofNat (P : Int).toNat] ++ be 4 O ++ be 4 F ++ be 4 M ++ be 4 D ++ [UInt8.ofNat (s.size : Int).toNat] ++ s.data.toList).toArray⟩ := by
  rw [hW.out, enc]
  simp only [Int.toNat_natCast]
  rw [be1 P (by omega), be1 s.size (by omega)]
  simp only [List.nil_append, List.append_assoc]
 go_ret2
 refine ⟨?_, hu9⟩
 rw [hE]
 rfl
open Go.RowKit
theorem str_ne {s s' : ByteArray} (h : ¬ s = s') : (s.toList == s'.toList) = false := by
 cases e : s.toList == s'.toList
 ·rfl
 ·exfalso
  have h2 := eq_of_beq e
  rw [ByteArray.toList_eq, ByteArray.toList_eq] at h2
  exact h (ByteArray.ext (Array.toList_inj.1 h2))
set_option maxHeartbeats 8000000 in
theorem equal_any (A A' : Option Addr) (c c' : Nat) (l l' : List El) (w : World) (hn : l.length ≤ 9223372036854775807) (_hn' : l'.length ≤ 9223372036854775807) (hL : Lies w A l) (hL' : Lies w A' l') :
    Calls Try.prog 24 #[.slice A l.length c, .slice A' l'.length c'] w fun e w' => e = .returned (.bool (decide (l = l'))) ∧ Calm w w' := by
  by_cases hll : l.length = l'.length
  rotate_left
  · have hd : decide (l = l') = false := decide_eq_false fun h => hll (by rw [h])
    have hz : ¬ (l.length : Int) = (l'.length : Int) := by omega
    rw [hd]
    clear hd hll hL hL'
    go_enter Try.func24, Try.ntmps24
    go_wp2_with fail
    go_ret
    exact ⟨rfl, Calm.refl _⟩
  have HD : Hid (decide (l = l') = decide (l = l')) := rfl
  generalize hr : decide (l = l') = r
  have HR : Hid (decide (l = l') = r) := hr
  clear hr HD
  obtain ⟨n, hn1⟩ : ∃ n, n = l.length := ⟨_, rfl⟩
  have hn2 : n = l'.length := hn1.trans hll
  rw [← hn1, ← hn2]
  rw [← hn1] at hn
  have HN1 : Hid (n = l.length) := hn1
  have HN2 : Hid (n = l'.length) := hn2
  clear hn1 hn2 hll
  go_enter Try.func24, Try.ntmps24
  go_wp2_with fail
  go_loopw [13] (fun i wr => ∃ k : Nat, k ≤ n ∧ i = .int .i64 k ∧ Calm w wr ∧ Hid (∀ j, j < k → l[j]? = l'[j]?)) (fun i _ => n - (intOf i).toNat)
  case atStart => exact ⟨0, Nat.zero_le _, rfl, Calm.refl _, show ∀ _, _ from fun j h => absurd h (Nat.not_lt_zero _)⟩
  case round =>
    obtain ⟨k, hk, rfl, hu, hN⟩ := hrel
    by_cases hlt : k < n
    rotate_left
    · have K : Hid (r = true) := by
        rw [← HR.out]
        refine decide_eq_true (List.ext_getElem? fun j => ?_)
        rcases Nat.lt_or_ge j k with h | h
        · exact hN.out j h
        · rw [List.getElem?_eq_none (by rw [← HN1.out]; omega), List.getElem?_eq_none (by rw [← HN2.out]; omega)]
      clear HR
      go_wp2_with fail
      go_ret
      exact ⟨by rw [K.out]; rfl, hu⟩
    obtain ⟨b, q, p, o, f, m, g, s, rfl, hb, HE, hm, c0, c1, c2, c3, c4, c5⟩ := (hL.calm hu).get (by rw [← HN1.out]; exact hlt)
    obtain ⟨b', q', p', o', f', m', g', s', rfl, hb', HE', hm', d0, d1, d2, d3, d4, d5⟩ := (hL'.calm hu).get (by rw [← HN2.out]; exact hlt)
    have hiz : (k : Int) < (n : Int) := by omega
    have hDF : (⟨p, o, f, m, g, s⟩ : El) ≠ ⟨p', o', f', m', g', s'⟩ → l ≠ l' := fun h h2 => by
      have h3 := HE.out; rw [h2, HE'.out] at h3; injection h3 with h3; exact h h3.symm
    have hN1 : (⟨p, o, f, m, g, s⟩ : El) = ⟨p', o', f', m', g', s'⟩ → Hid (∀ j, j < k + 1 → l[j]? = l'[j]?) := fun h => show ∀ _, _ from fun j hj => by
      rcases Nat.lt_or_ge j k with h2 | h2
      · exact hN.out j h2
      · rw [show j = k by omega, HE.out, HE'.out, h]
    have HR2 := HR.out
    clear hL hL' HE HE' hm hm'
    have hcs : ¬ p = p' ∨ (p = p' ∧ ¬ o = o') ∨ (p = p' ∧ o = o' ∧ ¬ f = f') ∨ (p = p' ∧ o = o' ∧ f = f' ∧ ¬ m = m') ∨ (p = p' ∧ o = o' ∧ f = f' ∧ m = m' ∧ ¬ g = g') ∨ (p = p' ∧ o = o' ∧ f = f' ∧ m = m' ∧ g = g' ∧ ¬ s = s') ∨ (p = p' ∧ o = o' ∧ f = f' ∧ m = m' ∧ g = g' ∧ s = s') := by
      by_cases e0 : p = p' <;> by_cases e1 : o = o' <;> by_cases e2 : f = f' <;> by_cases e3 : m = m' <;> by_cases e4 : g = g' <;> by_cases e5 : s = s' <;> simp [*]
    rcases hcs with h0 | ⟨h0, h1⟩ | ⟨h0, h1, h2⟩ | ⟨h0, h1, h2, h3⟩ | ⟨h0, h1, h2, h3, h4⟩ | ⟨h0, h1, h2, h3, h4, h5⟩ | ⟨h0, h1, h2, h3, h4, h5⟩
    · skip
      go_wp2_with fail
      refine wp_region_plan [.val (.slice (some ⟨b, q, none⟩) n c), .val (.int .i64 ((k : Int))), .val (.pointer (some ⟨b, q + k * 6, none⟩)), .val (.agg #[.int .i64 p, .int .i64 o, .int .i64 f, .int .i64 m, .int .i64 g, .string s]), .val (.slice (some ⟨b', q', none⟩) n c'), .val (.int .i64 ((k : Int))), .val (.pointer (some ⟨b', q' + k * 6, none⟩)), .val (.agg #[.int .i64 p', .int .i64 o', .int .i64 f', .int .i64 m', .int .i64 g', .string s']), .val (.bool true)] (by kernel_rfl) (by kernel_rfl) (by kernel_rfl) ?_
      intro X
      iterate 9
        refine plan_val (by kernel_rfl) (fun u hu => ?_) ?_
        · obtain ⟨hc, hf, hz⟩ := hu.of_drew.facts
          go_simp
        simp only [Act.put, List.setIfInBounds_toArray, List.set_cons_zero, List.set_cons_succ, Nat.reduceAdd]
      refine plan_end ?_
      intro w' hB
      have hk := hB.calm.of_drew
      clear hB
      go_wp2_with fail
      go_ret
      exact ⟨ret_bool ((decide_eq_false (hDF (by simp [*]))).symm.trans HR2), hu.call hk⟩
    · skip
      subst h0
      go_wp2_with fail
      refine wp_region_plan [.val (.slice (some ⟨b, q, none⟩) n c), .val (.int .i64 ((k : Int))), .val (.pointer (some ⟨b, q + k * 6, none⟩)), .val (.agg #[.int .i64 p, .int .i64 o, .int .i64 f, .int .i64 m, .int .i64 g, .string s]), .val (.slice (some ⟨b', q', none⟩) n c'), .val (.int .i64 ((k : Int))), .val (.pointer (some ⟨b', q' + k * 6, none⟩)), .val (.agg #[.int .i64 p, .int .i64 o', .int .i64 f', .int .i64 m', .int .i64 g', .string s']), .val (.bool true)] (by kernel_rfl) (by kernel_rfl) (by kernel_rfl) ?_
      intro X
      iterate 9
        refine plan_val (by kernel_rfl) (fun u hu => ?_) ?_
        · obtain ⟨hc, hf, hz⟩ := hu.of_drew.facts
          go_simp
        simp only [Act.put, List.setIfInBounds_toArray, List.set_cons_zero, List.set_cons_succ, Nat.reduceAdd]
      refine plan_end ?_
      intro w' hB
      have hk := hB.calm.of_drew
      clear hB
      go_wp2_with fail
      go_ret
      exact ⟨ret_bool ((decide_eq_false (hDF (by simp [*]))).symm.trans HR2), hu.call hk⟩
    · skip
      subst h0
      subst h1
      go_wp2_with fail
      refine wp_region_plan [.val (.slice (some ⟨b, q, none⟩) n c), .val (.int .i64 ((k : Int))), .val (.pointer (some ⟨b, q + k * 6, none⟩)), .val (.agg #[.int .i64 p, .int .i64 o, .int .i64 f, .int .i64 m, .int .i64 g, .string s]), .val (.slice (some ⟨b', q', none⟩) n c'), .val (.int .i64 ((k : Int))), .val (.pointer (some ⟨b', q' + k * 6, none⟩)), .val (.agg #[.int .i64 p, .int .i64 o, .int .i64 f', .int .i64 m', .int .i64 g', .string s']), .val (.bool true)] (by kernel_rfl) (by kernel_rfl) (by kernel_rfl) ?_
      intro X
      iterate 9
        refine plan_val (by kernel_rfl) (fun u hu => ?_) ?_
        · obtain ⟨hc, hf, hz⟩ := hu.of_drew.facts
          go_simp
        simp only [Act.put, List.setIfInBounds_toArray, List.set_cons_zero, List.set_cons_succ, Nat.reduceAdd]
      refine plan_end ?_
      intro w' hB
      have hk := hB.calm.of_drew
      clear hB
      go_wp2_with fail
      go_ret
      exact ⟨ret_bool ((decide_eq_false (hDF (by simp [*]))).symm.trans HR2), hu.call hk⟩
    · skip
      subst h0
      subst h1
      subst h2
      go_wp2_with fail
      refine wp_region_plan [.val (.slice (some ⟨b, q, none⟩) n c), .val (.int .i64 ((k : Int))), .val (.pointer (some ⟨b, q + k * 6, none⟩)), .val (.agg #[.int .i64 p, .int .i64 o, .int .i64 f, .int .i64 m, .int .i64 g, .string s]), .val (.slice (some ⟨b', q', none⟩) n c'), .val (.int .i64 ((k : Int))), .val (.pointer (some ⟨b', q' + k * 6, none⟩)), .val (.agg #[.int .i64 p, .int .i64 o, .int .i64 f, .int .i64 m', .int .i64 g', .string s']), .val (.bool true)] (by kernel_rfl) (by kernel_rfl) (by kernel_rfl) ?_
      intro X
      iterate 9
        refine plan_val (by kernel_rfl) (fun u hu => ?_) ?_
        · obtain ⟨hc, hf, hz⟩ := hu.of_drew.facts
          go_simp
        simp only [Act.put, List.setIfInBounds_toArray, List.set_cons_zero, List.set_cons_succ, Nat.reduceAdd]
      refine plan_end ?_
      intro w' hB
      have hk := hB.calm.of_drew
      clear hB
      go_wp2_with fail
      go_ret
      exact ⟨ret_bool ((decide_eq_false (hDF (by simp [*]))).symm.trans HR2), hu.call hk⟩
    · skip
      subst h0
      subst h1
      subst h2
      subst h3
      go_wp2_with fail
      refine wp_region_plan [.val (.slice (some ⟨b, q, none⟩) n c), .val (.int .i64 ((k : Int))), .val (.pointer (some ⟨b, q + k * 6, none⟩)), .val (.agg #[.int .i64 p, .int .i64 o, .int .i64 f, .int .i64 m, .int .i64 g, .string s]), .val (.slice (some ⟨b', q', none⟩) n c'), .val (.int .i64 ((k : Int))), .val (.pointer (some ⟨b', q' + k * 6, none⟩)), .val (.agg #[.int .i64 p, .int .i64 o, .int .i64 f, .int .i64 m, .int .i64 g', .string s']), .val (.bool true)] (by kernel_rfl) (by kernel_rfl) (by kernel_rfl) ?_
      intro X
      iterate 9
        refine plan_val (by kernel_rfl) (fun u hu => ?_) ?_
        · obtain ⟨hc, hf, hz⟩ := hu.of_drew.facts
          go_simp
        simp only [Act.put, List.setIfInBounds_toArray, List.set_cons_zero, List.set_cons_succ, Nat.reduceAdd]
      refine plan_end ?_
      intro w' hB
      have hk := hB.calm.of_drew
      clear hB
      go_wp2_with fail
      go_ret
      exact ⟨ret_bool ((decide_eq_false (hDF (by simp [*]))).symm.trans HR2), hu.call hk⟩
    · skip
      subst h0
      subst h1
      subst h2
      subst h3
      subst h4
      have hs1 : (s.toList == s'.toList) = false := str_ne h5
      go_wp2_with fail
      refine wp_region_plan [.val (.slice (some ⟨b, q, none⟩) n c), .val (.int .i64 ((k : Int))), .val (.pointer (some ⟨b, q + k * 6, none⟩)), .val (.agg #[.int .i64 p, .int .i64 o, .int .i64 f, .int .i64 m, .int .i64 g, .string s]), .val (.slice (some ⟨b', q', none⟩) n c'), .val (.int .i64 ((k : Int))), .val (.pointer (some ⟨b', q' + k * 6, none⟩)), .val (.agg #[.int .i64 p, .int .i64 o, .int .i64 f, .int .i64 m, .int .i64 g, .string s']), .val (.bool true)] (by kernel_rfl) (by kernel_rfl) (by kernel_rfl) ?_
      intro X
      iterate 9
        refine plan_val (by kernel_rfl) (fun u hu => ?_) ?_
        · obtain ⟨hc, hf, hz⟩ := hu.of_drew.facts
          go_simp
        simp only [Act.put, List.setIfInBounds_toArray, List.set_cons_zero, List.set_cons_succ, Nat.reduceAdd]
      refine plan_end ?_
      intro w' hB
      have hk := hB.calm.of_drew
      clear hB
      clear hs1
      go_wp2_with fail
      go_ret
      exact ⟨ret_bool ((decide_eq_false (hDF (by simp [*]))).symm.trans HR2), hu.call hk⟩
    · skip
      subst h0
      subst h1
      subst h2
      subst h3
      subst h4
      subst h5
      have hN2 := hN1 rfl
      clear hN1 hDF
      go_wp2_with fail
      refine wp_region_plan [.val (.slice (some ⟨b, q, none⟩) n c), .val (.int .i64 ((k : Int))), .val (.pointer (some ⟨b, q + k * 6, none⟩)), .val (.agg #[.int .i64 p, .int .i64 o, .int .i64 f, .int .i64 m, .int .i64 g, .string s]), .val (.slice (some ⟨b', q', none⟩) n c'), .val (.int .i64 ((k : Int))), .val (.pointer (some ⟨b', q' + k * 6, none⟩)), .val (.agg #[.int .i64 p, .int .i64 o, .int .i64 f, .int .i64 m, .int .i64 g, .string s]), .val (.bool false)] (by kernel_rfl) (by kernel_rfl) (by kernel_rfl) ?_
      intro X
      iterate 9
        refine plan_val (by kernel_rfl) (fun u hu => ?_) ?_
        · obtain ⟨hc, hf, hz⟩ := hu.of_drew.facts
          go_simp
        simp only [Act.put, List.setIfInBounds_toArray, List.set_cons_zero, List.set_cons_succ, Nat.reduceAdd]
      refine plan_end ?_
      intro w' hB
      have hk := hB.calm.of_drew
      clear hB
      go_wp2_with fail
      go_roundw
      case rel => exact ⟨k + 1, by omega, by go_num, hu.call hk, hN2⟩
      case measure => simp [intOf]; omega
open Go.RowKit
set_option maxHeartbeats 2000000 in
theorem hasKids_any (kd : Int) (A1 A2 A3 A4 : Option Addr) (c1 c2 c3 c4 : Nat) (E : List El) (K : List Int) (S : List Sp) (T : List Int) (w : World) (hk : K.length ≤ 9223372036854775807) (hs : S.length ≤ 9223372036854775807) (ht : T.length ≤ 9223372036854775807) :
    Calls Try.prog 75 #[.agg #[.int .i64 kd, .slice A1 E.length c1, .slice A2 K.length c2, .slice A3 S.length c3, .slice A4 T.length c4]] w fun e w' => e = .returned (.bool (decide (0 < K.length ∨ 0 < S.length ∨ 0 < T.length))) ∧ Calm w w' := by
  have hx := heap_new w (.cells #[.int .i64 kd, .slice A1 E.length c1, .slice A2 K.length c2, .slice A3 S.length c3, .slice A4 T.length c4] 63)
  have hu := (Calm.refl w).alloc (.cells #[.int .i64 kd, .slice A1 E.length c1, .slice A2 K.length c2, .slice A3 S.length c3, .slice A4 T.length c4] 63)
  obtain ⟨x0, x1, x2, x3, x4, hxs⟩ := row5 hx
  clear hx
  generalize K.length = nk at *
  generalize S.length = ns at *
  generalize T.length = nt at *
  go_enter Try.func75, Try.ntmps75
  go_wp2
  all_goals
    go_ret
    exact ⟨ret_bool (Bool.eq_iff_iff.2 (by simp at * <;> omega)), (Calm.refl _).alloc _⟩
set_option maxHeartbeats 2000000 in
theorem checkFree_any (kd : Int) (A1 A2 A3 A4 : Option Addr) (c1 c2 c3 c4 : Nat) (E : List El) (K : List Int) (S : List Sp) (T : List Int) (w : World) (he : E.length ≤ 9223372036854775807) (hk : K.length ≤ 9223372036854775807) (hs : S.length ≤ 9223372036854775807) (ht : T.length ≤ 9223372036854775807) :
    Calls Try.prog 62 #[.agg #[.int .i64 kd, .slice A1 E.length c1, .slice A2 K.length c2, .slice A3 S.length c3, .slice A4 T.length c4]] w fun e w' => e = .returned (.int .i64 (freeErr E K S T)) ∧ Calm w w' := by
  have hx := heap_new w (.cells #[.int .i64 kd, .slice A1 E.length c1, .slice A2 K.length c2, .slice A3 S.length c3, .slice A4 T.length c4] 63)
  have hu := (Calm.refl w).alloc (.cells #[.int .i64 kd, .slice A1 E.length c1, .slice A2 K.length c2, .slice A3 S.length c3, .slice A4 T.length c4] 63)
  have cH := fun u => hasKids_any kd A1 A2 A3 A4 c1 c2 c3 c4 E K S T u hk hs ht
  have hG : Hid (freeErr E K S T = if 0 < E.length ∨ decide (0 < K.length ∨ 0 < S.length ∨ 0 < T.length) = true then 3 else 0) := by show _ = _; unfold freeErr; simp
  generalize freeErr E K S T = R at hG ⊢
  generalize decide (0 < K.length ∨ 0 < S.length ∨ 0 < T.length) = b at cH hG
  obtain ⟨x0, x1, x2, x3, x4, hxs⟩ := row5 hx
  clear hx
  generalize E.length = ne at *
  rcases Nat.eq_zero_or_pos ne with rfl | h0
  · cases b
    all_goals
      go_enter Try.func62, Try.ntmps62
      go_wp2_with (go_at_call 75; (with_reducible refine (cH _).mono ?_); rintro e w1 ⟨rfl, hb1⟩; replace hu := hu.call hb1; clear hb1)
      go_ret
      exact ⟨ret_int (by rw [hG.out]; simp), hu⟩
  · go_enter Try.func62, Try.ntmps62
    go_wp2_with fail
    go_ret
    exact ⟨ret_int (by rw [hG.out]; simp [h0]), hu⟩
open Go.RowKit
theorem ge_rise (p' o' f' m' g' : Int) (s' : ByteArray) (p o f m g : Int) (s : ByteArray) : decide (0 ≤ scmp p' o' f' m' p o f m) = !decide (Rise ⟨p', o', f', m', g', s'⟩ ⟨p, o, f, m, g, s⟩) := by
 have h := scmp_sLt (a := ⟨p', o', f', m', g', s'⟩) (b := ⟨p, o, f, m, g, s⟩)
 simp only at h
 have h2 : Rise ⟨p', o', f', m', g', s'⟩ ⟨p, o, f, m, g, s⟩ ↔ scmp p' o' f' m' p o f m = -1 := h.symm
 rw [Bool.eq_iff_iff, decide_eq_true_eq, Bool.not_eq_true', decide_eq_false_iff_not, h2]
 rcases scmp_or p' o' f' m' p o f m with h1 | h1 | h1 <;> rw [h1] <;> omega
set_option maxHeartbeats 4000000 in
theorem checkElems_any (A : Option Addr) (c : Nat) (l : List El) (w : World) (hn : l.length ≤ 9223372036854775807) (hL : Lies w A l) :
    Calls Try.prog 76 #[.slice A l.length c] w fun e w' => e = .returned (.int .i64 (elsErr l)) ∧ Calm w w' := by
  go_enter Try.func76, Try.ntmps76
  go_wp2_with fail
  go_loopw [8] (fun i wr => ∃ k : Nat, k ≤ l.length ∧ i = .int .i64 k ∧ Calm w wr ∧ NoStep l k) (fun i _ => l.length - (intOf i).toNat)
  case atStart => exact ⟨0, Nat.zero_le _, rfl, Calm.refl _, NoStep.zero l⟩
  case round =>
    obtain ⟨k, hk, rfl, hu, hN⟩ := hrel
    by_cases hlt : k < l.length
    rotate_left
    · have K : Hid (0 = elsErr l) := hN.good (by omega)
      go_wp2_with fail
      go_ret
      exact ⟨ret_int K.out, hu⟩
    obtain ⟨b, q, p, o, f, m, g, s, rfl, hb, HE, hm, c0, c1, c2, c3, c4, c5⟩ := (hL.calm hu).get hlt
    by_cases he : elemErr p o f m g s.size = 0
    rotate_left
    · have b1 : (elemErr p o f m g s.size != 0) = true := by simpa using he
      have K : Hid (elemErr p o f m g s.size = elsErr l) := by
        have h1 := sStep_err HE.out (show El.err ⟨p, o, f, m, g, s⟩ ≠ 0 from he)
        rw [← hN.bad (by rw [h1]; exact he) hlt, h1]; rfl
      clear he
      go_wp2_with (go_at_call 26; refine (elemCheck_any _ _ _ _ _ _ _).mono ?_; rintro e w1 ⟨rfl, hb1⟩)
      go_ret
      exact ⟨ret_int K.out, by repeat (first | (with_reducible exact Calm.refl _) | (with_reducible refine Calm.alloc ?_ _) | (with_reducible refine Calm.drew ?_) | (with_reducible refine Calm.drewN ?_ _) | (refine Calm.call ?_ (by with_reducible assumption)))⟩
    have b1 : (elemErr p o f m g s.size != 0) = false := by simpa using he
    have HE0 : Hid (elemErr p o f m g s.size = 0) := he
    clear he
    by_cases hk0 : k = 0
    · subst hk0
      have hN1 : NoStep l 1 := hN.succ (sStep_first HE.out HE0.out)
      simp only [Nat.zero_mul, Nat.add_zero] at c0 c1 c2 c3 c4 c5
      go_wp2_with (go_at_call 26; refine (elemCheck_any _ _ _ _ _ _ _).mono ?_; rintro e w1 ⟨rfl, hb1⟩)
      refine wp_region_plan [.val (.int .i64 (0)), .val (.bool false), .val (.bool false), .idle, .idle, .idle, .idle, .idle, .idle, .idle, .idle, .idle, .idle, .val (.bool false)] (by kernel_rfl) (by kernel_rfl) (by kernel_rfl) ?_
      intro X
      iterate 3
        refine plan_val (by kernel_rfl) (fun u hu => ?_) ?_
        · obtain ⟨hc, hf, hz⟩ := hu.of_drew.facts
          go_simp
        simp only [Act.put, List.setIfInBounds_toArray, List.set_cons_zero, List.set_cons_succ, Nat.reduceAdd]
      iterate 10
        refine plan_idle (by kernel_rfl) ?_
        simp only [Act.put, List.setIfInBounds_toArray, List.set_cons_zero, List.set_cons_succ, Nat.reduceAdd]
      iterate 1
        refine plan_val (by kernel_rfl) (fun u hu => ?_) ?_
        · obtain ⟨hc, hf, hz⟩ := hu.of_drew.facts
          go_simp
        simp only [Act.put, List.setIfInBounds_toArray, List.set_cons_zero, List.set_cons_succ, Nat.reduceAdd]
      refine plan_end ?_
      intro w' hB
      have hk := hB.calm.of_drew
      clear hB
      go_wp2_with fail
      exact ⟨⟨1, by omega, rfl, ((hu.alloc _).call hb1).call hk, hN1⟩, by simp [intOf]; omega⟩
    obtain ⟨p', o', f', m', g', s', HE', hm', d0, d1, d2, d3, d4, d5⟩ := (hL.calm hu).get2 (k := k - 1) (by omega)
    have hS := sStep_form HE.out HE0.out (by omega) HE'.out
    have hk1 : 1 ≤ k := by omega
    have hge := ge_rise p' o' f' m' g' s' p o f m g s
    have cS := fun u => cmpSpot_any p' o' f' m' p o f m u
    generalize scmp p' o' f' m' p o f m = C at hge cS
    by_cases hF : Rise ⟨p', o', f', m', g', s'⟩ ⟨p, o, f, m, g, s⟩
    · rw [if_pos hF] at hS
      rw [decide_eq_true hF] at hge
      have hC : ¬ 0 ≤ C := by simpa using hge
      have hN1 : NoStep l (k + 1) := hN.succ hS
      clear hS hF hk0 hge
      go_wp2_with (go_at_call 26; refine (elemCheck_any _ _ _ _ _ _ _).mono ?_; rintro e w1 ⟨rfl, hb1⟩)
      have hx := (hb1.block (k := wr.heap.size) (by simp)).trans (heap_new wr _)
      obtain ⟨x0, x1, x2, x3, x4, x5, hxs⟩ := row6 hx
      have hv := ((Calm.refl wr).alloc _).call hb1
      have hv1 := hu.call hv
      have hb2 : b < w1.heap.size := Nat.lt_of_lt_of_le hb hv.size
      have hvc := hv.facts.1
      replace d0 := (hvc _ _ hb).trans d0; replace d1 := (hvc _ _ hb).trans d1; replace d2 := (hvc _ _ hb).trans d2; replace d3 := (hvc _ _ hb).trans d3; replace d4 := (hvc _ _ hb).trans d4; replace d5 := (hvc _ _ hb).trans d5
      clear hvc hv hb1 hx c0 c1 c2 c3 c4 c5 b1 hL
      have z0 : 0 < k := hk1
      have z1 : IntKind.i64.wrap ((k : Int) - 1) = (k : Int) - 1 := IntWalk.i64_in _ (by omega)
      have z2 : ((k : Int) - 1).toNat = k - 1 := by omega
      have z3 : 0 ≤ (k : Int) - 1 := by omega
      have z4 : (k : Int) - 1 < l.length := by omega
      have z5 : 1 ≤ (k : Int) := by omega
      refine wp_region_plan [.val (.int .i64 (k)), .val (.bool true), .val (.bool true), .val (.slice (some ⟨b, q, none⟩) l.length c), .val (.int .i64 (k)), .val (.int .i64 ((k : Int) - 1)), .val (.pointer (some ⟨b, q + (k - 1) * 6, none⟩)), .val (.agg #[.int .i64 p', .int .i64 o', .int .i64 f', .int .i64 m', .int .i64 g', .string s']), .val (.agg #[.int .i64 p', .int .i64 o', .int .i64 f', .int .i64 m']), .val (.agg #[.int .i64 p, .int .i64 o, .int .i64 f, .int .i64 m, .int .i64 g, .string s]), .val (.agg #[.int .i64 p, .int .i64 o, .int .i64 f, .int .i64 m]), .val (.int .i64 (C)), .val (.bool false), .val (.bool false)] (by kernel_rfl) (by kernel_rfl) (by kernel_rfl) ?_
      intro X
      iterate 14
        refine plan_val (by kernel_rfl) (fun u hu => ?_) ?_
        · obtain ⟨hc, hf, hz⟩ := hu.of_drew.facts
          go_simp
          all_goals first
            | ((go_at_call 30; exact spot_any _ _ _ _ _ _ _))
            | ((go_at_call 29; exact cS _))
        simp only [Act.put, List.setIfInBounds_toArray, List.set_cons_zero, List.set_cons_succ, Nat.reduceAdd]
      refine plan_end ?_
      intro w' hB
      have hk := hB.calm.of_drew
      clear hB
      clear z0 z1 z2 z3 z4 z5
      go_wp2_with fail
      go_roundw
      case rel => exact ⟨k + 1, by omega, by go_num, hv1.call hk, hN1⟩
      case measure => simp [intOf]; omega
    · rw [if_neg hF] at hS
      rw [decide_eq_false hF] at hge
      have hC : 0 ≤ C := by simpa using hge
      have K : Hid (3 = elsErr l) := hS.symm.trans (hN.bad (by rw [hS]; decide) hlt)
      clear hS hF hk0 hge
      go_wp2_with (go_at_call 26; refine (elemCheck_any _ _ _ _ _ _ _).mono ?_; rintro e w1 ⟨rfl, hb1⟩)
      have hx := (hb1.block (k := wr.heap.size) (by simp)).trans (heap_new wr _)
      obtain ⟨x0, x1, x2, x3, x4, x5, hxs⟩ := row6 hx
      have hv := ((Calm.refl wr).alloc _).call hb1
      have hv1 := hu.call hv
      have hb2 : b < w1.heap.size := Nat.lt_of_lt_of_le hb hv.size
      have hvc := hv.facts.1
      replace d0 := (hvc _ _ hb).trans d0; replace d1 := (hvc _ _ hb).trans d1; replace d2 := (hvc _ _ hb).trans d2; replace d3 := (hvc _ _ hb).trans d3; replace d4 := (hvc _ _ hb).trans d4; replace d5 := (hvc _ _ hb).trans d5
      clear hvc hv hb1 hx c0 c1 c2 c3 c4 c5 b1 hL
      have z0 : 0 < k := hk1
      have z1 : IntKind.i64.wrap ((k : Int) - 1) = (k : Int) - 1 := IntWalk.i64_in _ (by omega)
      have z2 : ((k : Int) - 1).toNat = k - 1 := by omega
      have z3 : 0 ≤ (k : Int) - 1 := by omega
      have z4 : (k : Int) - 1 < l.length := by omega
      have z5 : 1 ≤ (k : Int) := by omega
      refine wp_region_plan [.val (.int .i64 (k)), .val (.bool true), .val (.bool true), .val (.slice (some ⟨b, q, none⟩) l.length c), .val (.int .i64 (k)), .val (.int .i64 ((k : Int) - 1)), .val (.pointer (some ⟨b, q + (k - 1) * 6, none⟩)), .val (.agg #[.int .i64 p', .int .i64 o', .int .i64 f', .int .i64 m', .int .i64 g', .string s']), .val (.agg #[.int .i64 p', .int .i64 o', .int .i64 f', .int .i64 m']), .val (.agg #[.int .i64 p, .int .i64 o, .int .i64 f, .int .i64 m, .int .i64 g, .string s]), .val (.agg #[.int .i64 p, .int .i64 o, .int .i64 f, .int .i64 m]), .val (.int .i64 (C)), .val (.bool true), .val (.bool true)] (by kernel_rfl) (by kernel_rfl) (by kernel_rfl) ?_
      intro X
      iterate 14
        refine plan_val (by kernel_rfl) (fun u hu => ?_) ?_
        · obtain ⟨hc, hf, hz⟩ := hu.of_drew.facts
          go_simp
          all_goals first
            | ((go_at_call 30; exact spot_any _ _ _ _ _ _ _))
            | ((go_at_call 29; exact cS _))
        simp only [Act.put, List.setIfInBounds_toArray, List.set_cons_zero, List.set_cons_succ, Nat.reduceAdd]
      refine plan_end ?_
      intro w' hB
      have hk := hB.calm.of_drew
      clear hB
      clear z0 z1 z2 z3 z4 z5
      go_wp2_with fail
      go_ret
      exact ⟨ret_int K.out, hv1.call hk⟩
open Go.RowKit
def nilE : El := ⟨0, 0, 0, 0, 0, { data := #[] }⟩
def cellsL (l : List El) : List Value := l.flatMap El.cells
theorem cellsL_length (l : List El) : (cellsL l).length = l.length * 6 := by
 induction l with
 |nil => rfl
 |cons a l ih => simp [cellsL] at ih ⊢; rw [ih]; simp [El.cells]; omega
theorem cellsL_get (l : List El) : ∀ (i j : Nat), j < 6 → (cellsL l)[i * 6 + j]? = (l[i]?).bind fun e => e.cells[j]? := by
 induction l with
 |nil => intro i j _; simp [cellsL]
 |cons a l ih =>
  intro i j hj
  have e : cellsL (a :: l) = a.cells ++ cellsL l := by simp [cellsL]
  have h6 : a.cells.length = 6 := rfl
  rw [e]
  cases i with
  |zero => rw [List.getElem?_append_left (by omega)]; simp
  |succ i =>
   rw [List.getElem?_append_right (by omega), h6, show (i + 1) * 6 + j - 6 = i * 6 + j from by omega, ih i j hj]
   simp
def RowE (w : World) (g : Nat) (l : List El) : Prop := w.heap[g]? = some (.cells (cellsL l).toArray 25 (0, 0))
theorem RowE.lt {w : World} {g : Nat} {l : List El} (h : RowE w g l) : g < w.heap.size := (Array.getElem?_eq_some_iff.1 h).1
theorem RowE.calm {w w' : World} {g : Nat} {l : List El} (h : RowE w g l) (hb : Calm w w') : RowE w' g l := (hb.block h.lt).trans h
theorem RowE.cell {w : World} {g : Nat} {l : List El} (h : RowE w g l) {i j : Nat} (hj : j < 6) : w.cell? ⟨g, i * 6 + j, none⟩ = (l[i]?).bind fun e => e.cells[j]? := by
 rw [cell_of_row _ _ _ _ _ _ h, List.getElem?_toArray, cellsL_get _ _ _ hj]
theorem RowE.free {w : World} {g : Nat} {l : List El} (h : RowE w g l) (o : Nat) : w.frozen? ⟨g, o, none⟩ = false := frozen_of_row _ _ _ _ _ h
theorem RowE.lies {w : World} {g : Nat} {l : List El} (h : RowE w g l) (hw : ∀ e ∈ l, e.wf) : Lies w (some ⟨g, 0, none⟩) l := by
 refine ⟨hw, fun _ => ⟨g, 0, rfl, h.lt, fun k e he => ?_⟩⟩
 have c := fun j (hj : j < 6) => h.cell (i := k) hj
 simp only [he, Option.bind_some] at c
 refine ⟨?_, ?_, ?_, ?_, ?_, ?_⟩
 ·rw [Nat.zero_add]; exact c 0 (by omega)
 ·rw [Nat.zero_add]; exact c 1 (by omega)
 ·rw [Nat.zero_add]; exact c 2 (by omega)
 ·rw [Nat.zero_add]; exact c 3 (by omega)
 ·rw [Nat.zero_add]; exact c 4 (by omega)
 ·rw [Nat.zero_add]; exact c 5 (by omega)
theorem cellsL_append (a b : List El) : cellsL (a ++ b) = cellsL a ++ cellsL b := by simp [cellsL]
theorem set_sixth (X Y : List Value) (n i : Nat) (hX : X.length = n) (v : Value) : (X ++ Y).set (n + i) v = X ++ Y.set i v := by
 rw [List.set_append_right _ _ (by omega), hX, Nat.add_sub_cancel_left]
theorem six_set {l : List El} {j : Nat} (hj : j < l.length) (e : El) :
    ((((((cellsL l).set (j * 6) (.int .i64 e.p)).set (j * 6 + 1) (.int .i64 e.o)).set (j * 6 + 2) (.int .i64 e.f)).set (j * 6 + 3) (.int .i64 e.m)).set (j * 6 + 4) (.int .i64 e.g)).set (j * 6 + 5) (.string e.s) = cellsL (l.set j e) := by
  have hl : cellsL l = cellsL (l.take j) ++ (l[j].cells ++ cellsL (l.drop (j + 1))) := by
    have h1 : l = l.take j ++ l[j] :: l.drop (j + 1) := by rw [← List.drop_eq_getElem_cons hj, List.take_append_drop]
    calc cellsL l = cellsL (l.take j ++ l[j] :: l.drop (j + 1)) := congrArg cellsL h1
      _ = _ := by rw [cellsL_append, show cellsL (l[j] :: l.drop (j + 1)) = l[j].cells ++ cellsL (l.drop (j + 1)) from rfl]
  have hs : cellsL (l.set j e) = cellsL (l.take j) ++ (e.cells ++ cellsL (l.drop (j + 1))) := by
    rw [List.set_eq_take_append_cons_drop, if_pos hj, cellsL_append]; simp [cellsL]
  have hX : (cellsL (l.take j)).length = j * 6 := by rw [cellsL_length, List.length_take]; omega
  rw [hl, hs]
  generalize cellsL (l.take j) = X at hX
  generalize cellsL (l.drop (j + 1)) = Y
  rw [show (X ++ (l[j].cells ++ Y)).set (j * 6) (.int .i64 e.p) = X ++ (l[j].cells ++ Y).set 0 (.int .i64 e.p) from set_sixth X _ _ 0 hX _, set_sixth _ _ _ 1 hX, set_sixth _ _ _ 2 hX, set_sixth _ _ _ 3 hX, set_sixth _ _ _ 4 hX, set_sixth _ _ _ 5 hX]
  rfl
/-- The record at j stored anew. -/
theorem RowE.six {w : World} {g : Nat} {l : List El} (h : RowE w g l) {j : Nat} (hj : j < l.length) (e : El) :
    RowE ((((((w.setCell ⟨g, j * 6, none⟩ (.int .i64 e.p)).setCell ⟨g, j * 6 + 1, none⟩ (.int .i64 e.o)).setCell ⟨g, j * 6 + 2, none⟩ (.int .i64 e.f)).setCell ⟨g, j * 6 + 3, none⟩ (.int .i64 e.m)).setCell ⟨g, j * 6 + 4, none⟩ (.int .i64 e.g)).setCell ⟨g, j * 6 + 5, none⟩ (.string e.s)) g (l.set j e) := by
  have h1 := heap_setCell_same w g (j * 6) _ _ (.int .i64 e.p) h
  have h2 := heap_setCell_same _ g (j * 6 + 1) _ _ (.int .i64 e.o) h1
  have h3 := heap_setCell_same _ g (j * 6 + 2) _ _ (.int .i64 e.f) h2
  have h4 := heap_setCell_same _ g (j * 6 + 3) _ _ (.int .i64 e.m) h3
  have h5 := heap_setCell_same _ g (j * 6 + 4) _ _ (.int .i64 e.g) h4
  have h6 := heap_setCell_same _ g (j * 6 + 5) _ _ (.string e.s) h5
  simp only [List.setIfInBounds_toArray, six_set hj e] at h6
  exact h6
theorem infoElem6 : (Try.prog.info? 25).map (fun i => (i.zero, i.size, i.bytes)) = some (some (.agg #[.int .i64 0, .int .i64 0, .int .i64 0, .int .i64 0, .int .i64 0, .string { data := #[] }]), 6, 56) := by kernel_rfl
/-- make([]api.Elem, k). -/
theorem makeElems (w : World) (k : Nat) (hk : k ≤ 400) : (Instr.makeSlice 33 (.int .i64 (k : Int)) (.int .i64 (k : Int))).run Try.prog w =
    .ok (.slice (some ⟨w.heap.size, 0, none⟩) k k) (w.alloc (.cells (cellsL (List.replicate k nilE)).toArray 25)) := by
  obtain ⟨i, hi, hz, h1, h2⟩ : ∃ i, Try.prog.info? 25 = some i ∧ i.zero = some (.agg #[.int .i64 0, .int .i64 0, .int .i64 0, .int .i64 0, .int .i64 0, .string { data := #[] }]) ∧ i.size = 6 ∧ i.bytes = 56 := by
    have h := infoElem6
    match hi : Try.prog.info? 25, h with
    | some i, h =>
      simp only [Option.map_some, Option.some.injEq, Prod.mk.injEq] at h
      exact ⟨i, rfl, h.1, h.2.1, h.2.2⟩
  rw [run_make w 33 25 i _ Try.underlying33 hi hz .i64 .i64 k k (by omega) (by omega) (by rw [h2]; omega) (by omega), h1]
  have e : madeCells (Value.agg #[.int .i64 0, .int .i64 0, .int .i64 0, .int .i64 0, .int .i64 0, .string { data := #[] }]).cells (((k : Int)).toNat * 6) = (cellsL (List.replicate k nilE)).toArray := by
    rw [Int.toNat_natCast]
    apply Array.toList_inj.1
    apply List.ext_getElem?
    intro n
    rw [← Nat.div_add_mod' n 6, List.toList_toArray, cellsL_get _ _ _ (Nat.mod_lt _ (by omega)), List.getElem?_replicate]
    simp only [madeCells, Array.toList_map, Array.toList_range, List.getElem?_map, Value.cells]
    by_cases h : n / 6 < k
    · rw [if_pos h, List.getElem?_range (by omega)]
      have h6 : (n / 6 * 6 + n % 6) % 6 = n % 6 := by omega
      have h7 := Nat.mod_lt n (show 0 < 6 by omega)
      simp only [Option.map_some, Option.bind_some, nilE, El.cells]
      rw [show (#[Value.int IntKind.i64 0, Value.int IntKind.i64 0, Value.int IntKind.i64 0, Value.int IntKind.i64 0, Value.int IntKind.i64 0, Value.string { data := #[] }] : Array Value).size = 6 from rfl, h6]
      generalize n % 6 = j at h7
      match j, h7 with
      | 0, _ => rfl
      | 1, _ => rfl
      | 2, _ => rfl
      | 3, _ => rfl
      | 4, _ => rfl
      | 5, _ => rfl
    · rw [if_neg h, List.getElem?_eq_none (by simp; omega)]; rfl
  rw [e]; rfl
def laidL (S : List Sp) (k : Nat) : List El := (S.take k).map Sp.el ++ List.replicate (S.length - k) nilE
theorem laidL_length {S : List Sp} {k : Nat} (h : k ≤ S.length) : (laidL S k).length = S.length := by simp [laidL]; omega
theorem laidL_succ {S : List Sp} {k : Nat} {s : Sp} (h : S[k]? = some s) : (laidL S k).set k s.el = laidL S (k + 1) := by
 have hk : k < S.length := (List.getElem?_eq_some_iff.1 h).1
 have hs : S[k] = s := (List.getElem?_eq_some_iff.1 h).2
 have hl : ((S.take k).map Sp.el).length = k := by simp; omega
 unfold laidL
 rw [List.set_append_right _ _ (by omega), hl, Nat.sub_self, show S.length - k = (S.length - (k + 1)) + 1 from by omega, List.replicate_succ, List.set_cons_zero, List.take_succ_eq_append_getElem hk, List.map_append, List.append_assoc, hs]
 rfl
set_option maxHeartbeats 4000000 in
theorem records_any (A : Option Addr) (c : Nat) (S : List Sp) (w : World) (hn : S.length ≤ 400) (hL : LiesS w A S) :
    Calls Try.prog 77 #[.slice A S.length c] w fun e w' => ∃ g, e = .returned (.slice (some ⟨g, 0, none⟩) S.length S.length) ∧ Lies w' (some ⟨g, 0, none⟩) (S.map Sp.el) ∧ Calm w w' := by
  have hmk := makeElems w S.length hn
  have hwf : ∀ e ∈ S.map Sp.el, e.wf := fun e he => by
    obtain ⟨x, hx, rfl⟩ := List.mem_map.1 he
    exact hL.1 x hx
  go_enter Try.func77, Try.ntmps77
  go_wp2_with fail
  go_loopw [11] (fun i wr => ∃ k : Nat, k ≤ S.length ∧ i = .int .i64 k ∧ Calm w wr ∧ RowE wr w.heap.size (laidL S k)) (fun i _ => S.length - (intOf i).toNat)
  case atStart => exact ⟨0, Nat.zero_le _, rfl, (Calm.refl _).alloc _, by unfold laidL RowE; simpa using heap_new w (.cells (cellsL (List.replicate S.length nilE)).toArray 25)⟩
  case round =>
    obtain ⟨k, hk, rfl, hu, hR⟩ := hrel
    by_cases hlt : k < S.length
    rotate_left
    · obtain rfl : k = S.length := by omega
      rw [laidL, List.take_of_length_le (Nat.le_refl _), Nat.sub_self, List.replicate_zero, List.append_nil] at hR
      go_wp2_with fail
      go_ret
      exact ⟨_, rfl, hR.lies hwf, hu⟩
    obtain ⟨b, q, p, o, f, m, rfl, hb, HE, hm, c0, c1, c2, c3⟩ := (hL.calm hu).get hlt
    go_upto_region 5 with fail
    have hx := heap_new wr (.cells #[.int .i64 p, .int .i64 o, .int .i64 f, .int .i64 m] 45)
    have hv := (Calm.refl wr).alloc (.cells #[.int .i64 p, .int .i64 o, .int .i64 f, .int .i64 m] 45)
    generalize wr.alloc (.cells #[.int .i64 p, .int .i64 o, .int .i64 f, .int .i64 m] 45) = wz at hx hv ⊢
    obtain ⟨x0, x1, x2, x3, hxs⟩ := row4 hx
    have hRz := hR.calm hv
    have hlen : k < (laidL S k).length := by rw [laidL_length (by omega)]; exact hlt
    have hC := fun j (hj : j < 6) => hRz.cell (i := k) hj
    simp only [List.getElem?_eq_getElem hlen, Option.bind_some, El.cells] at hC
    have d0 := hC 0 (by omega)
    have d1 := hC 1 (by omega)
    have d2 := hC 2 (by omega)
    have d3 := hC 3 (by omega)
    have d4 := hC 4 (by omega)
    have d5 := hC 5 (by omega)
    simp only [Nat.add_zero, List.getElem?_cons_zero, List.getElem?_cons_succ] at d0 d1 d2 d3 d4 d5
    have f0 := hRz.free (k * 6)
    have f1 := hRz.free (k * 6 + 1)
    have f2 := hRz.free (k * 6 + 2)
    have f3 := hRz.free (k * 6 + 3)
    have f4 := hRz.free (k * 6 + 4)
    have f5 := hRz.free (k * 6 + 5)
    have hR2 := hRz.six hlen (Sp.el ⟨p, o, f, m⟩)
    rw [laidL_succ HE.out] at hR2
    have hu2 := ((((((hu.call hv).setCell (p := ⟨w.heap.size, k * 6, none⟩) (Nat.le_refl _) (.int .i64 p)).setCell (p := ⟨w.heap.size, k * 6 + 1, none⟩) (Nat.le_refl _) (.int .i64 o)).setCell (p := ⟨w.heap.size, k * 6 + 2, none⟩) (Nat.le_refl _) (.int .i64 f)).setCell (p := ⟨w.heap.size, k * 6 + 3, none⟩) (Nat.le_refl _) (.int .i64 m)).setCell (p := ⟨w.heap.size, k * 6 + 4, none⟩) (Nat.le_refl _) (.int .i64 0)).setCell (p := ⟨w.heap.size, k * 6 + 5, none⟩) (Nat.le_refl _) (.string { data := #[] })
    generalize (laidL S k)[k] = z at d0 d1 d2 d3 d4 d5
    clear hC hRz hv hx hR
    have H2 := Lib.hid hR2
    have U2 := Lib.hid hu2
    clear hR2 hu2
    go_wp2_with fail
    go_roundw
    case rel => exact ⟨k + 1, by omega, by go_num, U2.out, H2.out⟩
    case measure => simp [intOf]; omega
open Go.RowKit
set_option maxHeartbeats 4000000 in
theorem checkLeaf_any (kd : Int) (A1 A2 A3 A4 : Option Addr) (c1 c2 c3 c4 : Nat) (E : List El) (K : List Int) (S : List Sp) (T : List Int) (w : World) (h : NdAt w A1 A2 A3 A4 E K S T) :
    Calls Try.prog 63 #[.agg #[.int .i64 kd, .slice A1 E.length c1, .slice A2 K.length c2, .slice A3 S.length c3, .slice A4 T.length c4]] w fun e w' => e = .returned (.int .i64 (leafErr E K S T)) ∧ Calm w w' := by
  have cH := fun u => hasKids_any kd A1 A2 A3 A4 c1 c2 c3 c4 E K S T u h.nk h.ns h.nt
  have hx := heap_new w (.cells #[.int .i64 kd, .slice A1 E.length c1, .slice A2 K.length c2, .slice A3 S.length c3, .slice A4 T.length c4] 63)
  have hu := (Calm.refl w).alloc (.cells #[.int .i64 kd, .slice A1 E.length c1, .slice A2 K.length c2, .slice A3 S.length c3, .slice A4 T.length c4] 63)
  have hne := h.ne
  by_cases hB : 0 < K.length ∨ 0 < S.length ∨ 0 < T.length
  · have hG : Hid (3 = leafErr E K S T) := (if_pos hB).symm
    rw [decide_eq_true hB] at cH
    clear hB
    go_enter Try.func63, Try.ntmps63
    go_wp2_with (go_at_call 75; (with_reducible refine (cH _).mono ?_); rintro e w1 ⟨rfl, hb1⟩; replace hu := hu.call hb1; clear hb1)
    go_ret
    exact ⟨ret_int hG.out, hu⟩
  rw [decide_eq_false hB] at cH
  by_cases h8 : 8 < E.length
  · have hG : Hid (2 = leafErr E K S T) := by show _ = _; unfold leafErr; rw [if_neg hB, if_pos h8]
    have h8' : (8 : Int) < E.length := by omega
    clear hB h8
    go_enter Try.func63, Try.ntmps63
    go_wp2_with (go_at_call 75; (with_reducible refine (cH _).mono ?_); rintro e w1 ⟨rfl, hb1⟩; replace hu := hu.call hb1; replace hx := (hb1.block (row5 hx).2.2.2.2.2).trans hx; clear hb1; obtain ⟨x0, x1, x2, x3, x4, hxs⟩ := row5 hx)
    go_ret
    exact ⟨ret_int hG.out, hu⟩
  have hG : Hid (elsErr E = leafErr E K S T) := by show _ = _; unfold leafErr; rw [if_neg hB, if_neg h8]
  have h8' : (E.length : Int) ≤ 8 := by omega
  have hL : Hid (Lies w A1 E) := h.e
  clear hB h8
  go_enter Try.func63, Try.ntmps63
  go_wp2_with (first
    | (go_at_call 75; (with_reducible refine (cH _).mono ?_); rintro e w1 ⟨rfl, hb1⟩; replace hu := hu.call hb1; replace hx := (hb1.block (row5 hx).2.2.2.2.2).trans hx; clear hb1; obtain ⟨x0, x1, x2, x3, x4, hxs⟩ := row5 hx)
    | (go_at_call 76; refine (checkElems_any _ _ E _ hne (hL.out.calm hu)).mono ?_; rintro e w1 ⟨rfl, hb1⟩; replace hu := hu.call hb1; clear hb1))
  go_ret
  exact ⟨ret_int hG.out, hu⟩
open Go.RowKit
set_option maxHeartbeats 4000000 in
theorem checkInner_any (kd : Int) (A1 A2 A3 A4 : Option Addr) (c1 c2 c3 c4 : Nat) (E : List El) (K : List Int) (S : List Sp) (T : List Int) (w : World) (h : NdAt w A1 A2 A3 A4 E K S T) :
    Calls Try.prog 64 #[.agg #[.int .i64 kd, .slice A1 E.length c1, .slice A2 K.length c2, .slice A3 S.length c3, .slice A4 T.length c4]] w fun e w' => e = .returned (.int .i64 (innerErr E K S T)) ∧ Calm w w' := by
  have hx := heap_new w (.cells #[.int .i64 kd, .slice A1 E.length c1, .slice A2 K.length c2, .slice A3 S.length c3, .slice A4 T.length c4] 63)
  have hu := (Calm.refl w).alloc (.cells #[.int .i64 kd, .slice A1 E.length c1, .slice A2 K.length c2, .slice A3 S.length c3, .slice A4 T.length c4] 63)
  obtain ⟨hne, hnk, hns, hnt⟩ : _ ∧ _ ∧ _ ∧ _ := ⟨h.ne, h.nk, h.ns, h.nt⟩
  by_cases hF : formI E K S T
  · have hG : Hid (3 = innerErr E K S T) := (if_pos hF).symm
    unfold formI at hF
    generalize innerErr E K S T = R at hG ⊢
    generalize E.length = ne at *
    generalize K.length = nk at *
    generalize S.length = ns at *
    generalize T.length = nt at *
    obtain ⟨x0, x1, x2, x3, x4, hxs⟩ := row5 hx
    clear hx h
    have h4 : (0 : Int) < ne ∨ ((ne : Int) ≤ 0 ∧ (nk : Int) < 2) ∨ ((ne : Int) ≤ 0 ∧ (2 : Int) ≤ nk ∧ ns + 1 ≠ nk) ∨ ((ne : Int) ≤ 0 ∧ (2 : Int) ≤ nk ∧ ns + 1 = nk ∧ nt ≠ nk) := by omega
    clear hF
    rcases h4 with h4 | ⟨h4, h5⟩ | ⟨h4, h5, h6⟩ | ⟨h4, h5, h6, h7⟩
    · go_enter Try.func64, Try.ntmps64
      go_wp2_with fail
      go_ret
      exact ⟨ret_int hG.out, hu⟩
    · obtain rfl : ne = 0 := by omega
      clear h4
      go_enter Try.func64, Try.ntmps64
      go_wp2_with fail
      go_ret
      exact ⟨ret_int hG.out, hu⟩
    · obtain rfl : ne = 0 := by omega
      have b1 : ((ns : Int) != (nk : Int) - 1) = true := by rw [bne_iff_ne]; omega
      clear h4
      go_enter Try.func64, Try.ntmps64
      go_wp2_with fail
      go_ret
      exact ⟨ret_int hG.out, hu⟩
    · obtain rfl : ne = 0 := by omega
      have b1 : ((ns : Int) != (nk : Int) - 1) = false := by rw [bne_eq_false_iff_eq]; omega
      have b2 : ((nt : Int) != (nk : Int)) = true := by rw [bne_iff_ne]; omega
      clear h4 h6 h7
      go_enter Try.func64, Try.ntmps64
      go_wp2_with fail
      go_ret
      exact ⟨ret_int hG.out, hu⟩
  have hF2 : E.length = 0 ∧ 2 ≤ K.length ∧ S.length + 1 = K.length ∧ T.length = K.length := by unfold formI at hF; omega
  obtain ⟨hE0, hK2, hSK, hTK⟩ := hF2
  have b1 : ((S.length : Int) != (K.length : Int) - 1) = false := by rw [bne_eq_false_iff_eq]; omega
  have b2 : ((T.length : Int) != (K.length : Int)) = false := by rw [bne_eq_false_iff_eq]; omega
  have hK2' : (2 : Int) ≤ (K.length : Int) := by omega
  by_cases h8 : 8 < K.length
  · have hG : Hid (2 = innerErr E K S T) := by show _ = _; unfold innerErr; rw [if_neg hF, if_pos h8]
    have h8' : (8 : Int) < (K.length : Int) := by omega
    rw [hE0] at hx hu ⊢
    obtain ⟨x0, x1, x2, x3, x4, hxs⟩ := row5 hx
    clear hF hSK hTK h8
    go_enter Try.func64, Try.ntmps64
    go_wp2_with fail
    go_ret
    exact ⟨ret_int hG.out, hu⟩
  have h8' : (K.length : Int) ≤ 8 := by omega
  have hG : innerErr E K S T = if kidsErr K T ≠ 0 then kidsErr K T else elsErr (S.map Sp.el) := by unfold innerErr; rw [if_neg hF, if_neg h8]
  generalize innerErr E K S T = R at hG ⊢
  have HG := Lib.hid hG
  rw [hE0] at hx hu ⊢
  obtain ⟨hLK, hLS, hLT⟩ : Hid (LiesI w A2 K) ∧ Hid (LiesS w A3 S) ∧ Hid (LiesI w A4 T) := ⟨h.k, h.s, h.t⟩
  obtain ⟨x0, x1, x2, x3, x4, hxs⟩ := row5 hx
  have hTK' := Lib.hid hTK
  have hSK' := Lib.hid hSK
  have hS8 : S.length ≤ 400 := by omega
  clear hF hG h hE0 hSK hTK h8
  go_enter Try.func64, Try.ntmps64
  go_wp2_with fail
  go_loopw [38] (fun i wr => ∃ k : Nat, k ≤ K.length ∧ i = .int .i64 k ∧ Calm w wr ∧ wr.heap[w.heap.size]? = some (.cells #[.int .i64 kd, .slice A1 0 c1, .slice A2 K.length c2, .slice A3 S.length c3, .slice A4 T.length c4] 63 (0, 0)) ∧ NoKid K T k) (fun i _ => K.length - (intOf i).toNat)
  case atStart => exact ⟨0, Nat.zero_le _, rfl, hu, hx, NoKid.zero K T⟩
  case round =>
    obtain ⟨k, hk, rfl, hv, hy, hN⟩ := hrel
    clear x0 x1 x2 x3 x4 hxs hx hu
    obtain ⟨x0, x1, x2, x3, x4, hxs⟩ := row5 hy
    by_cases hlt : k < K.length
    rotate_left
    · have hK0 := hN.good (by omega)
      have K0 : Hid (R = elsErr (S.map Sp.el)) := HG.out.trans (by rw [hK0, if_neg (by simp)])
      clear hK0
      go_wp2_with (first
        | (go_at_call 77; refine (records_any _ _ S _ hS8 (hLS.out.calm hv)).mono ?_; rintro e w1 ⟨g, rfl, hL1, hb1⟩; replace hv := hv.call hb1; clear hb1; have HL1 := Lib.hid hL1; clear hL1)
        | (go_at_call 76; rw [show S.length = (S.map Sp.el).length from by simp]; refine (checkElems_any _ _ (S.map Sp.el) _ (by simp; omega) HL1.out).mono ?_; rintro e w1 ⟨rfl, hb1⟩; replace hv := hv.call hb1; clear hb1))
      go_ret
      exact ⟨ret_int K0.out.symm, hv⟩
    obtain ⟨b, q, x, rfl, hb, HX, cx⟩ := (hLK.out.calm hv).get hlt
    obtain ⟨b', q', y, rfl, hb', HY, cy⟩ := (hLT.out.calm hv).get (k := k) (by rw [hTK'.out]; exact hlt)
    have hst := kStep_at HX.out HY.out
    have hkT : (k : Int) < (T.length : Int) := by have := hTK'.out; omega
    by_cases hx1 : 0 ≤ x ∧ x ≤ 399
    rotate_left
    · rw [if_neg hx1] at hst
      have hR := hN.bad (by rw [hst]; decide) hlt
      have K1 : Hid (R = 1) := HG.out.trans (by rw [← hR, hst, if_pos (by decide)])
      have h2 : x < 0 ∨ 0 ≤ x ∧ 400 ≤ x := by omega
      clear hx1 hst hR
      rcases h2 with h2 | ⟨h2, h3⟩
      · go_wp2_with fail
        go_ret
        exact ⟨ret_int K1.out.symm, hv⟩
      · go_wp2_with fail
        go_ret
        exact ⟨ret_int K1.out.symm, hv⟩
    rw [if_pos hx1] at hst
    have h2 : 0 ≤ x := hx1.1
    have h3 : x < 400 := by omega
    by_cases hy1 : 0 ≤ y ∧ y ≤ 2147483647
    rotate_left
    · rw [if_neg hy1] at hst
      have hR := hN.bad (by rw [hst]; decide) hlt
      have K1 : Hid (R = 9) := HG.out.trans (by rw [← hR, hst, if_pos (by decide)])
      have h4 : y < 0 ∨ 0 ≤ y ∧ 2147483647 < y := by omega
      clear hy1 hx1 hst hR
      rcases h4 with h4 | ⟨h4, h5⟩
      · go_wp2_with fail
        go_ret
        exact ⟨ret_int K1.out.symm, hv⟩
      · go_wp2_with fail
        go_ret
        exact ⟨ret_int K1.out.symm, hv⟩
    rw [if_pos hy1] at hst
    have hN1 := hN.succ hst
    have h4 : 0 ≤ y := hy1.1
    have h5 : y ≤ 2147483647 := hy1.2
    clear hy1 hx1 hst hN
    go_wp2_with fail
    go_roundw
    case rel => exact ⟨k + 1, by omega, by go_num, hv, hy, hN1⟩
    case measure => simp [intOf]; omega
open Go.RowKit
theorem nd_free (E : List El) (K : List Int) (S : List Sp) (T : List Int) : ndErr 0 E K S T = freeErr E K S T := if_pos rfl
theorem nd_leaf (E : List El) (K : List Int) (S : List Sp) (T : List Int) : ndErr 1 E K S T = leafErr E K S T := by unfold ndErr; rw [if_neg (by decide), if_pos rfl]
theorem nd_inner (E : List El) (K : List Int) (S : List Sp) (T : List Int) : ndErr 2 E K S T = innerErr E K S T := by unfold ndErr; rw [if_neg (by decide), if_neg (by decide), if_pos rfl]
theorem nd_other {kd : Int} (h0 : kd ≠ 0) (h1 : kd ≠ 1) (h2 : kd ≠ 2) (E : List El) (K : List Int) (S : List Sp) (T : List Int) : ndErr kd E K S T = 3 := by unfold ndErr; rw [if_neg h0, if_neg h1, if_neg h2]
set_option maxHeartbeats 4000000 in
theorem nodeCheck_any (kd : Int) (A1 A2 A3 A4 : Option Addr) (c1 c2 c3 c4 : Nat) (E : List El) (K : List Int) (S : List Sp) (T : List Int) (w : World) (h : NdAt w A1 A2 A3 A4 E K S T) :
    Calls Try.prog 42 #[.agg #[.int .i64 kd, .slice A1 E.length c1, .slice A2 K.length c2, .slice A3 S.length c3, .slice A4 T.length c4]] w fun e w' => e = .returned (.int .i64 (ndErr kd E K S T)) ∧ Calm w w' := by
  have hx := heap_new w (.cells #[.int .i64 kd, .slice A1 E.length c1, .slice A2 K.length c2, .slice A3 S.length c3, .slice A4 T.length c4] 63)
  have hu := (Calm.refl w).alloc (.cells #[.int .i64 kd, .slice A1 E.length c1, .slice A2 K.length c2, .slice A3 S.length c3, .slice A4 T.length c4] 63)
  have cF := fun u => checkFree_any kd A1 A2 A3 A4 c1 c2 c3 c4 E K S T u h.ne h.nk h.ns h.nt
  have cL := fun u (hu : Calm w u) => checkLeaf_any kd A1 A2 A3 A4 c1 c2 c3 c4 E K S T u (h.calm hu)
  have cI := fun u (hu : Calm w u) => checkInner_any kd A1 A2 A3 A4 c1 c2 c3 c4 E K S T u (h.calm hu)
  clear h
  by_cases h0 : kd = 0
  · subst h0
    rw [nd_free]
    clear cL cI
    obtain ⟨x0, x1, x2, x3, x4, hxs⟩ := row5 hx
    go_enter Try.func42, Try.ntmps42
    go_wp2_with (go_at_call 62; (with_reducible refine (cF _).mono ?_); rintro e w1 ⟨rfl, hb1⟩; replace hu := hu.call hb1; clear hb1)
    go_ret
    exact ⟨rfl, hu⟩
  by_cases h1 : kd = 1
  · subst h1
    rw [nd_leaf]
    clear cF cI
    obtain ⟨x0, x1, x2, x3, x4, hxs⟩ := row5 hx
    go_enter Try.func42, Try.ntmps42
    go_wp2_with (go_at_call 63; (with_reducible refine (cL _ hu).mono ?_); rintro e w1 ⟨rfl, hb1⟩; replace hu := hu.call hb1; clear hb1)
    go_ret
    exact ⟨rfl, hu⟩
  by_cases h2 : kd = 2
  · subst h2
    rw [nd_inner]
    clear cF cL
    obtain ⟨x0, x1, x2, x3, x4, hxs⟩ := row5 hx
    go_enter Try.func42, Try.ntmps42
    go_wp2_with (go_at_call 64; (with_reducible refine (cI _ hu).mono ?_); rintro e w1 ⟨rfl, hb1⟩; replace hu := hu.call hb1; clear hb1)
    go_ret
    exact ⟨rfl, hu⟩
  rw [nd_other h0 h1 h2]
  have b0 : (kd == 0) = false := by rw [beq_eq_false_iff_ne]; exact h0
  have b1 : (kd == 1) = false := by rw [beq_eq_false_iff_ne]; exact h1
  have b2 : (kd == 2) = false := by rw [beq_eq_false_iff_ne]; exact h2
  clear cF cL cI h0 h1 h2
  obtain ⟨x0, x1, x2, x3, x4, hxs⟩ := row5 hx
  go_enter Try.func42, Try.ntmps42
  go_wp2_with fail
  go_ret
  exact ⟨rfl, hu⟩
open Go.RowKit
theorem ahead_rise (p' o' f' m' g' : Int) (s' : ByteArray) (p o f m g : Int) (s : ByteArray) : aheadS p' o' f' m' p o f m = decide (Rise ⟨p', o', f', m', g', s'⟩ ⟨p, o, f, m, g, s⟩) := by
 have h := scmp_sLt (a := ⟨p', o', f', m', g', s'⟩) (b := ⟨p, o, f, m, g, s⟩)
 simp only at h
 unfold aheadS
 rw [Bool.eq_iff_iff, decide_eq_true_eq, decide_eq_true_eq]
 exact h
set_option maxHeartbeats 4000000 in
theorem rising1_any (A : Option Addr) (c : Nat) (w : World) : Calls Try.prog 56 #[.slice A 1 c] w fun e w' => e = .returned (.bool true) ∧ Calm w w' := by
 go_enter Try.func56, Try.ntmps56
 go_wp2_with fail
 refine wp_loop_rounds 2 ?_
 rw [rounds_succ]
 go_wp2_with fail
 go_ret
 exact ⟨rfl, Calm.refl _⟩
set_option maxHeartbeats 4000000 in
theorem rising2_any (b q c : Nat) (p o f m g p' o' f' m' g' : Int) (s s' : ByteArray) (r : Bool) (w : World) (hb : b < w.heap.size) (hr : aheadS p o f m p' o' f' m' = r)
    (h0 : ElAt w b q ⟨p, o, f, m, g, s⟩) (h1 : ElAt w b (q + 6) ⟨p', o', f', m', g', s'⟩) :
    Calls Try.prog 56 #[.slice (some ⟨b, q, none⟩) 2 c] w fun e w' => e = .returned (.bool r) ∧ Calm w w' := by
  have cA := fun u => hr ▸ aheadSpot_any p o f m p' o' f' m' u
  obtain ⟨c0, c1, c2, c3, c4, c5⟩ := h0
  obtain ⟨d0, d1, d2, d3, d4, d5⟩ := h1
  simp only at c0 c1 c2 c3 c4 c5 d0 d1 d2 d3 d4 d5
  clear hr
  cases r
  · go_enter Try.func56, Try.ntmps56
    go_wp2_with fail
    refine wp_loop_rounds 3 ?_
    rw [rounds_succ]
    go_wp2_with fail
    refine wp_region_plan [.val (.slice (some ⟨b, q, none⟩) 2 c), .val (.int .i64 (1)), .val (.int .i64 (0)), .val (.pointer (some ⟨b, q, none⟩)), .val (.agg #[.int .i64 p, .int .i64 o, .int .i64 f, .int .i64 m, .int .i64 g, .string s]), .val (.agg #[.int .i64 p, .int .i64 o, .int .i64 f, .int .i64 m]), .val (.slice (some ⟨b, q, none⟩) 2 c), .val (.int .i64 (1)), .val (.pointer (some ⟨b, q + 6, none⟩)), .val (.agg #[.int .i64 p', .int .i64 o', .int .i64 f', .int .i64 m', .int .i64 g', .string s']), .val (.agg #[.int .i64 p', .int .i64 o', .int .i64 f', .int .i64 m']), .val (.bool false), .val (.bool true)] (by kernel_rfl) (by kernel_rfl) (by kernel_rfl) ?_
    intro X
    iterate 13
      refine plan_val (by kernel_rfl) (fun u hu => ?_) ?_
      · obtain ⟨hc, hf, hz⟩ := hu.of_drew.facts
        go_simp
        all_goals first
          | ((go_at_call 59; exact refSpot_any _ _ _ _ _ _ _))
          | ((go_at_call 73; exact cA _))
          | ((show IntKind.i64.wrap 0 = 0; decide))
      simp only [Act.put, List.setIfInBounds_toArray, List.set_cons_zero, List.set_cons_succ, Nat.reduceAdd]
    refine plan_end ?_
    intro w' hB
    have hk := hB.calm.of_drew
    clear hB
    go_wp2_with fail
    go_ret
    exact ⟨rfl, hk⟩
  · go_enter Try.func56, Try.ntmps56
    go_wp2_with fail
    refine wp_loop_rounds 3 ?_
    rw [rounds_succ]
    go_wp2_with fail
    refine wp_region_plan [.val (.slice (some ⟨b, q, none⟩) 2 c), .val (.int .i64 (1)), .val (.int .i64 (0)), .val (.pointer (some ⟨b, q, none⟩)), .val (.agg #[.int .i64 p, .int .i64 o, .int .i64 f, .int .i64 m, .int .i64 g, .string s]), .val (.agg #[.int .i64 p, .int .i64 o, .int .i64 f, .int .i64 m]), .val (.slice (some ⟨b, q, none⟩) 2 c), .val (.int .i64 (1)), .val (.pointer (some ⟨b, q + 6, none⟩)), .val (.agg #[.int .i64 p', .int .i64 o', .int .i64 f', .int .i64 m', .int .i64 g', .string s']), .val (.agg #[.int .i64 p', .int .i64 o', .int .i64 f', .int .i64 m']), .val (.bool true), .val (.bool false)] (by kernel_rfl) (by kernel_rfl) (by kernel_rfl) ?_
    intro X
    iterate 13
      refine plan_val (by kernel_rfl) (fun u hu => ?_) ?_
      · obtain ⟨hc, hf, hz⟩ := hu.of_drew.facts
        go_simp
        all_goals first
          | ((go_at_call 59; exact refSpot_any _ _ _ _ _ _ _))
          | ((go_at_call 73; exact cA _))
          | ((show IntKind.i64.wrap 0 = 0; decide))
      simp only [Act.put, List.setIfInBounds_toArray, List.set_cons_zero, List.set_cons_succ, Nat.reduceAdd]
    refine plan_end ?_
    intro w' hB
    have hk := hB.calm.of_drew
    clear hB
    go_wp2_with fail
    rw [rounds_succ]
    go_wp2_with fail
    go_ret
    exact ⟨rfl, hk⟩
open Go.RowKit
theorem between_calm (x n : Int) (r : Bool) (h : decide (0 ≤ x ∧ x ≤ n) = r) (w : World) : Calls Try.prog 65 #[.int .i64 x, .int .i64 n] w fun e w' => e = .returned (.bool r) ∧ w = w' := h ▸ between_any x n w
set_option maxHeartbeats 4000000 in
theorem refInner_any (kd : Int) (A1 A2 A3 A4 : Option Addr) (c1 c2 c3 c4 : Nat) (E : List El) (K : List Int) (S : List Sp) (T : List Int) (w : World) (h : NdAt w A1 A2 A3 A4 E K S T) (hm : S.length ≤ 1125899906842624) :
    Calls Try.prog 57 #[.agg #[.int .i64 kd, .slice A1 E.length c1, .slice A2 K.length c2, .slice A3 S.length c3, .slice A4 T.length c4]] w fun e w' => e = .returned (.int .i64 (innerErr E K S T)) ∧ Calm w w' := by
  have hx := heap_new w (.cells #[.int .i64 kd, .slice A1 E.length c1, .slice A2 K.length c2, .slice A3 S.length c3, .slice A4 T.length c4] 63)
  have hu := (Calm.refl w).alloc (.cells #[.int .i64 kd, .slice A1 E.length c1, .slice A2 K.length c2, .slice A3 S.length c3, .slice A4 T.length c4] 63)
  obtain ⟨hne, hnk, hns, hnt⟩ : _ ∧ _ ∧ _ ∧ _ := ⟨h.ne, h.nk, h.ns, h.nt⟩
  by_cases hF : formI E K S T
  · have hG : Hid (3 = innerErr E K S T) := (if_pos hF).symm
    unfold formI at hF
    generalize innerErr E K S T = R at hG ⊢
    generalize E.length = ne at *
    generalize K.length = nk at *
    generalize S.length = ns at *
    generalize T.length = nt at *
    obtain ⟨x0, x1, x2, x3, x4, hxs⟩ := row5 hx
    clear hx h
    have h4 : (0 : Int) < ne ∨ ((ne : Int) ≤ 0 ∧ (nk : Int) < 2) ∨ ((ne : Int) ≤ 0 ∧ (2 : Int) ≤ nk ∧ ns + 1 ≠ nk) ∨ ((ne : Int) ≤ 0 ∧ (2 : Int) ≤ nk ∧ ns + 1 = nk ∧ nt ≠ nk) := by omega
    clear hF
    have hm' : (ns : Int) ≤ 1125899906842624 := by omega
    rcases h4 with h4 | ⟨h4, h5⟩ | ⟨h4, h5, h6⟩ | ⟨h4, h5, h6, h7⟩
    · go_enter Try.func57, Try.ntmps57
      go_wp2_with fail
      go_ret
      exact ⟨ret_int hG.out, hu⟩
    · obtain rfl : ne = 0 := by omega
      clear h4
      go_enter Try.func57, Try.ntmps57
      go_wp2_with fail
      go_ret
      exact ⟨ret_int hG.out, hu⟩
    · obtain rfl : ne = 0 := by omega
      have b1 : ((ns : Int) + 1 != (nk : Int)) = true := by rw [bne_iff_ne]; omega
      clear h4 h6
      go_enter Try.func57, Try.ntmps57
      go_wp2_with fail
      go_ret
      exact ⟨ret_int hG.out, hu⟩
    · obtain rfl : ne = 0 := by omega
      have b1 : ((ns : Int) + 1 != (nk : Int)) = false := by rw [bne_eq_false_iff_eq]; omega
      have b2 : ((nt : Int) != (nk : Int)) = true := by rw [bne_iff_ne]; omega
      clear h4 h6 h7
      go_enter Try.func57, Try.ntmps57
      go_wp2_with fail
      go_ret
      exact ⟨ret_int hG.out, hu⟩
  have hF2 : E.length = 0 ∧ 2 ≤ K.length ∧ S.length + 1 = K.length ∧ T.length = K.length := by unfold formI at hF; omega
  obtain ⟨hE0, hK2, hSK, hTK⟩ := hF2
  have b1 : ((S.length : Int) + 1 != (K.length : Int)) = false := by rw [bne_eq_false_iff_eq]; omega
  have b2 : ((T.length : Int) != (K.length : Int)) = false := by rw [bne_eq_false_iff_eq]; omega
  have hK2' : (2 : Int) ≤ (K.length : Int) := by omega
  have hm' : (S.length : Int) ≤ 1125899906842624 := by omega
  by_cases h8 : 8 < K.length
  · have hG : Hid (2 = innerErr E K S T) := by show _ = _; unfold innerErr; rw [if_neg hF, if_pos h8]
    have h8' : (8 : Int) < (K.length : Int) := by omega
    rw [hE0] at hx hu ⊢
    obtain ⟨x0, x1, x2, x3, x4, hxs⟩ := row5 hx
    clear hF hSK hTK h8
    go_enter Try.func57, Try.ntmps57
    go_wp2_with fail
    go_ret
    exact ⟨ret_int hG.out, hu⟩
  have h8' : (K.length : Int) ≤ 8 := by omega
  have hG : innerErr E K S T = if kidsErr K T ≠ 0 then kidsErr K T else elsErr (S.map Sp.el) := by unfold innerErr; rw [if_neg hF, if_neg h8]
  generalize innerErr E K S T = R at hG ⊢
  have HG := Lib.hid hG
  rw [hE0] at hx hu ⊢
  obtain ⟨hLK, hLS, hLT⟩ : Hid (LiesI w A2 K) ∧ Hid (LiesS w A3 S) ∧ Hid (LiesI w A4 T) := ⟨h.k, h.s, h.t⟩
  obtain ⟨x0, x1, x2, x3, x4, hxs⟩ := row5 hx
  have hTK' := Lib.hid hTK
  have hSK' := Lib.hid hSK
  have hS8 : S.length ≤ 400 := by omega
  clear hF hG h hE0 hSK hTK h8
  go_enter Try.func57, Try.ntmps57
  go_wp2_with fail
  go_loopw [37] (fun i wr => ∃ k : Nat, k ≤ K.length ∧ i = .int .i64 k ∧ Calm w wr ∧ wr.heap[w.heap.size]? = some (.cells #[.int .i64 kd, .slice A1 0 c1, .slice A2 K.length c2, .slice A3 S.length c3, .slice A4 T.length c4] 63 (0, 0)) ∧ NoKid K T k) (fun i _ => K.length - (intOf i).toNat)
  case atStart => exact ⟨0, Nat.zero_le _, rfl, hu, hx, NoKid.zero K T⟩
  case round =>
    obtain ⟨k, hk, rfl, hv, hy, hN⟩ := hrel
    clear x0 x1 x2 x3 x4 hxs hx hu
    obtain ⟨x0, x1, x2, x3, x4, hxs⟩ := row5 hy
    by_cases hlt : k < K.length
    rotate_left
    · have hK0 := hN.good (by omega)
      have K0 : Hid (R = elsErr (S.map Sp.el)) := HG.out.trans (by rw [hK0, if_neg (by simp)])
      clear hK0
      have hBy : w.heap.size < wr.heap.size := hxs
      go_wp2_with fail
      go_loopw [58] (fun i wr' => ∃ k' : Nat, k' ≤ S.length ∧ i = .int .i64 k' ∧ Calm w wr' ∧ wr'.heap[w.heap.size]? = some (.cells #[.int .i64 kd, .slice A1 0 c1, .slice A2 K.length c2, .slice A3 S.length c3, .slice A4 T.length c4] 63 (0, 0)) ∧ NoStep (S.map Sp.el) k') (fun i _ => S.length - (intOf i).toNat)
      case atStart => exact ⟨0, Nat.zero_le _, rfl, hv, hy, NoStep.zero _⟩
      case round =>
        obtain ⟨k', hk', rfl, hz, hy2, hNS⟩ := hrel
        clear x0 x1 x2 x3 x4 hxs hy hv
        by_cases hlt' : k' < S.length
        rotate_left
        · have K1 := Lib.hid (hNS.good (by simp; omega))
          go_wp2_with fail
          go_ret
          exact ⟨ret_int (K1.out.trans K0.out.symm), hz⟩
        obtain ⟨b, q, p, o, f, m, rfl, hb, HE, hm0, d0, d1, d2, d3⟩ := (hLS.out.calm hz).get hlt'
        have HE2 : Hid ((S.map Sp.el)[k']? = some ⟨p, o, f, m, 0, { data := #[] }⟩) := by show _ = _; rw [List.getElem?_map, HE.out]; rfl
        have cE := fun u => refElem_any p o f m 0 { data := #[] } u hm0
        by_cases he : elemErr p o f m 0 (({ data := #[] } : ByteArray).size) = 0
        rotate_left
        · have b1 : (elemErr p o f m 0 (({ data := #[] } : ByteArray).size) != 0) = true := by simpa using he
          have K1 : Hid (elemErr p o f m 0 (({ data := #[] } : ByteArray).size) = R) := by
            have h1 := sStep_err HE2.out (show El.err ⟨p, o, f, m, 0, { data := #[] }⟩ ≠ 0 from he)
            show _ = _
            rw [K0.out, ← hNS.bad (by rw [h1]; exact he) (by simpa using hlt'), h1]; rfl
          generalize elemErr p o f m 0 (({ data := #[] } : ByteArray).size) = X at cE b1 K1
          clear he
          go_wp2_with (go_at_call 18; (with_reducible refine (cE _).mono ?_); rintro e w1 ⟨rfl, hb1⟩)
          go_ret
          exact ⟨ret_int K1.out, (hz.alloc _).call hb1⟩
        have b1 : (elemErr p o f m 0 (({ data := #[] } : ByteArray).size) != 0) = false := by simpa using he
        have HE0 : Hid (elemErr p o f m 0 (({ data := #[] } : ByteArray).size) = 0) := he
        rw [he] at cE
        clear he
        by_cases hk0 : k' = 0
        · subst hk0
          have hN1 : NoStep (S.map Sp.el) 1 := hNS.succ (sStep_first HE2.out HE0.out)
          simp only [Nat.zero_mul, Nat.add_zero] at d0 d1 d2 d3
          go_wp2_with (go_at_call 18; (with_reducible refine (cE _).mono ?_); rintro e w1 ⟨rfl, hb1⟩)
          refine wp_region_plan [.val (.int .i64 (0)), .val (.bool false), .val (.bool false), .idle, .idle, .idle, .idle, .idle, .idle, .idle, .idle, .idle, .val (.bool false)] (by kernel_rfl) (by kernel_rfl) (by kernel_rfl) ?_
          intro X
          iterate 3
            refine plan_val (by kernel_rfl) (fun u hu => ?_) ?_
            · obtain ⟨hc, hf, hz⟩ := hu.of_drew.facts
              go_simp
            simp only [Act.put, List.setIfInBounds_toArray, List.set_cons_zero, List.set_cons_succ, Nat.reduceAdd]
          iterate 9
            refine plan_idle (by kernel_rfl) ?_
            simp only [Act.put, List.setIfInBounds_toArray, List.set_cons_zero, List.set_cons_succ, Nat.reduceAdd]
          iterate 1
            refine plan_val (by kernel_rfl) (fun u hu => ?_) ?_
            · obtain ⟨hc, hf, hz⟩ := hu.of_drew.facts
              go_simp
            simp only [Act.put, List.setIfInBounds_toArray, List.set_cons_zero, List.set_cons_succ, Nat.reduceAdd]
          refine plan_end ?_
          intro w' hB
          have hk := hB.calm.of_drew
          clear hB
          go_wp2_with fail
          have hg9 := (row5 hy2).2.2.2.2.2
          have hy3 := (hk.block (by have h9 := hb1.size; simp only [World.size_alloc] at h9; omega)).trans ((hb1.block (by simp; omega)).trans (heap_past _ hy2))
          exact ⟨⟨1, by omega, rfl, ((hz.alloc _).call hb1).call hk, hy3, hN1⟩, by simp [intOf]; omega⟩
        obtain ⟨p', o', f', m', HE', hm1, g0, g1, g2, g3⟩ := (hLS.out.calm hz).get2 (k := k' - 1) (by omega)
        have HE2' : Hid ((S.map Sp.el)[k' - 1]? = some ⟨p', o', f', m', 0, { data := #[] }⟩) := by show _ = _; rw [List.getElem?_map, HE'.out]; rfl
        have hS := sStep_form HE2.out HE0.out (by omega) HE2'.out
        have hk1 : 1 ≤ k' := by omega
        have hge := ahead_rise p' o' f' m' 0 { data := #[] } p o f m 0 { data := #[] }
        have cA := fun u => aheadSpot_any p' o' f' m' p o f m u
        rw [hge] at cA
        by_cases hF : Rise ⟨p', o', f', m', 0, { data := #[] }⟩ ⟨p, o, f, m, 0, { data := #[] }⟩
        · rw [if_pos hF] at hS
          rw [decide_eq_true hF] at cA
          have hN1 : NoStep (S.map Sp.el) (k' + 1) := hNS.succ hS
          clear hF hge
          clear hS hk0
          go_wp2_with (go_at_call 18; (with_reducible refine (cE _).mono ?_); rintro e w1 ⟨rfl, hb1⟩)
          have hx := (hb1.block (k := wr.heap.size) (by simp)).trans (heap_new wr _)
          obtain ⟨y0, y1, y2, y3, hys⟩ := row4 hx
          have hv := ((Calm.refl wr).alloc _).call hb1
          have hv1 := hz.call hv
          have hy3 := (hv.block (row5 hy2).2.2.2.2.2).trans hy2
          obtain ⟨x0, x1, x2, x3, x4, hxs⟩ := row5 hy3
          have hb2 : b < w1.heap.size := Nat.lt_of_lt_of_le hb hv.size
          have hvc := hv.facts.1
          replace g0 := (hvc _ _ hb).trans g0; replace g1 := (hvc _ _ hb).trans g1; replace g2 := (hvc _ _ hb).trans g2; replace g3 := (hvc _ _ hb).trans g3
          clear hvc hv hb1 hx d0 d1 d2 d3 b1
          have z0 : 0 < k' := hk1
          have z1 : IntKind.i64.wrap ((k' : Int) - 1) = (k' : Int) - 1 := IntWalk.i64_in _ (by omega)
          have z2 : ((k' : Int) - 1).toNat = k' - 1 := by omega
          have z3 : 0 ≤ (k' : Int) - 1 := by omega
          have z4 : (k' : Int) - 1 < S.length := by omega
          have z5 : 1 ≤ (k' : Int) := by omega
          refine wp_region_plan [.val (.int .i64 (k')), .val (.bool true), .val (.bool true), .val (.pointer (some ⟨w.heap.size, 3, none⟩)), .val (.slice (some ⟨b, q, none⟩) S.length c3), .val (.int .i64 (k')), .val (.int .i64 ((k' : Int) - 1)), .val (.pointer (some ⟨b, q + (k' - 1) * 4, none⟩)), .val (.agg #[.int .i64 p', .int .i64 o', .int .i64 f', .int .i64 m']), .val (.agg #[.int .i64 p, .int .i64 o, .int .i64 f, .int .i64 m]), .val (.bool true), .val (.bool false), .val (.bool false)] (by kernel_rfl) (by kernel_rfl) (by kernel_rfl) ?_
          intro X
          iterate 13
            refine plan_val (by kernel_rfl) (fun u hu => ?_) ?_
            · obtain ⟨hc, hf, hz⟩ := hu.of_drew.facts
              go_simp
              all_goals first
                | ((go_at_call 73; exact cA _))
            simp only [Act.put, List.setIfInBounds_toArray, List.set_cons_zero, List.set_cons_succ, Nat.reduceAdd]
          refine plan_end ?_
          intro w' hB
          have hk := hB.calm.of_drew
          clear hB
          clear z0 z1 z2 z3 z4 z5
          go_wp2_with fail
          have hy4 := (hk.block (row5 hy3).2.2.2.2.2).trans hy3
          go_roundw
          case rel => exact ⟨k' + 1, by omega, by go_num, hv1.call hk, hy4, hN1⟩
          case measure => simp [intOf]; omega
        · rw [if_neg hF] at hS
          rw [decide_eq_false hF] at cA
          have K1 : Hid (3 = R) := (hS.symm.trans (hNS.bad (by rw [hS]; decide) (by simpa using hlt'))).trans K0.out.symm
          clear hF hge
          clear hS hk0
          go_wp2_with (go_at_call 18; (with_reducible refine (cE _).mono ?_); rintro e w1 ⟨rfl, hb1⟩)
          have hx := (hb1.block (k := wr.heap.size) (by simp)).trans (heap_new wr _)
          obtain ⟨y0, y1, y2, y3, hys⟩ := row4 hx
          have hv := ((Calm.refl wr).alloc _).call hb1
          have hv1 := hz.call hv
          have hy3 := (hv.block (row5 hy2).2.2.2.2.2).trans hy2
          obtain ⟨x0, x1, x2, x3, x4, hxs⟩ := row5 hy3
          have hb2 : b < w1.heap.size := Nat.lt_of_lt_of_le hb hv.size
          have hvc := hv.facts.1
          replace g0 := (hvc _ _ hb).trans g0; replace g1 := (hvc _ _ hb).trans g1; replace g2 := (hvc _ _ hb).trans g2; replace g3 := (hvc _ _ hb).trans g3
          clear hvc hv hb1 hx d0 d1 d2 d3 b1
          have z0 : 0 < k' := hk1
          have z1 : IntKind.i64.wrap ((k' : Int) - 1) = (k' : Int) - 1 := IntWalk.i64_in _ (by omega)
          have z2 : ((k' : Int) - 1).toNat = k' - 1 := by omega
          have z3 : 0 ≤ (k' : Int) - 1 := by omega
          have z4 : (k' : Int) - 1 < S.length := by omega
          have z5 : 1 ≤ (k' : Int) := by omega
          refine wp_region_plan [.val (.int .i64 (k')), .val (.bool true), .val (.bool true), .val (.pointer (some ⟨w.heap.size, 3, none⟩)), .val (.slice (some ⟨b, q, none⟩) S.length c3), .val (.int .i64 (k')), .val (.int .i64 ((k' : Int) - 1)), .val (.pointer (some ⟨b, q + (k' - 1) * 4, none⟩)), .val (.agg #[.int .i64 p', .int .i64 o', .int .i64 f', .int .i64 m']), .val (.agg #[.int .i64 p, .int .i64 o, .int .i64 f, .int .i64 m]), .val (.bool false), .val (.bool true), .val (.bool true)] (by kernel_rfl) (by kernel_rfl) (by kernel_rfl) ?_
          intro X
          iterate 13
            refine plan_val (by kernel_rfl) (fun u hu => ?_) ?_
            · obtain ⟨hc, hf, hz⟩ := hu.of_drew.facts
              go_simp
              all_goals first
                | ((go_at_call 73; exact cA _))
            simp only [Act.put, List.setIfInBounds_toArray, List.set_cons_zero, List.set_cons_succ, Nat.reduceAdd]
          refine plan_end ?_
          intro w' hB
          have hk := hB.calm.of_drew
          clear hB
          clear z0 z1 z2 z3 z4 z5
          go_wp2_with fail
          go_ret
          exact ⟨ret_int K1.out, hv1.call hk⟩
    obtain ⟨b, q, x, rfl, hb, HX, cx⟩ := (hLK.out.calm hv).get hlt
    obtain ⟨b', q', y, rfl, hb', HY, cy⟩ := (hLT.out.calm hv).get (k := k) (by rw [hTK'.out]; exact hlt)
    have hst := kStep_at HX.out HY.out
    have hkT : (k : Int) < (T.length : Int) := by have := hTK'.out; omega
    by_cases hx1 : 0 ≤ x ∧ x ≤ 399
    rotate_left
    · rw [if_neg hx1] at hst
      have hR := hN.bad (by rw [hst]; decide) hlt
      have K1 : Hid (R = 1) := HG.out.trans (by rw [← hR, hst, if_pos (by decide)])
      have cX := fun u => between_calm x 399 false (decide_eq_false hx1) u
      clear hx1 hst hR
      go_wp2_with (go_at_call 65; (with_reducible refine (cX _).mono ?_); rintro e w1 ⟨rfl, rfl⟩)
      go_ret
      exact ⟨ret_int K1.out.symm, hv⟩
    rw [if_pos hx1] at hst
    have cX := fun u => between_calm x 399 true (decide_eq_true hx1) u
    by_cases hy1 : 0 ≤ y ∧ y ≤ 2147483647
    rotate_left
    · rw [if_neg hy1] at hst
      have hR := hN.bad (by rw [hst]; decide) hlt
      have K1 : Hid (R = 9) := HG.out.trans (by rw [← hR, hst, if_pos (by decide)])
      have cY := fun u => between_calm y 2147483647 false (decide_eq_false hy1) u
      clear hy1 hx1 hst hR
      go_wp2_with (go_at_call 65; first | (with_reducible refine (cX _).mono ?_; rintro e w1 ⟨rfl, rfl⟩) | (with_reducible refine (cY _).mono ?_; rintro e w1 ⟨rfl, rfl⟩))
      go_ret
      exact ⟨ret_int K1.out.symm, hv⟩
    rw [if_pos hy1] at hst
    have hN1 := hN.succ hst
    have cY := fun u => between_calm y 2147483647 true (decide_eq_true hy1) u
    clear hy1 hx1 hst hN
    go_wp2_with (go_at_call 65; first | (with_reducible refine (cX _).mono ?_; rintro e w1 ⟨rfl, rfl⟩) | (with_reducible refine (cY _).mono ?_; rintro e w1 ⟨rfl, rfl⟩))
    go_roundw
    case rel => exact ⟨k + 1, by omega, by go_num, hv, hy, hN1⟩
    case measure => simp [intOf]; omega
open Go.RowKit
set_option maxHeartbeats 4000000 in
theorem refNode0_any (kd : Int) (A1 A2 A3 A4 : Option Addr) (c1 c2 c3 c4 : Nat) (E : List El) (K : List Int) (S : List Sp) (T : List Int) (w : World) (hkd : kd = 0) (he : E.length ≤ 1125899906842624) (hk : K.length ≤ 1125899906842624) (hs : S.length ≤ 1125899906842624) (ht : T.length ≤ 1125899906842624) :
    Calls Try.prog 36 #[.agg #[.int .i64 kd, .slice A1 E.length c1, .slice A2 K.length c2, .slice A3 S.length c3, .slice A4 T.length c4]] w fun e w' => e = .returned (.int .i64 (freeErr E K S T)) ∧ Calm w w' := by
  subst hkd
  have hG : Hid (freeErr E K S T = if 0 < E.length ∨ 0 < K.length ∨ 0 < S.length ∨ 0 < T.length then 3 else 0) := rfl
  generalize freeErr E K S T = R at hG ⊢
  have hx := heap_new w (.cells #[.int .i64 0, .slice A1 E.length c1, .slice A2 K.length c2, .slice A3 S.length c3, .slice A4 T.length c4] 63)
  have hu := (Calm.refl w).alloc (.cells #[.int .i64 0, .slice A1 E.length c1, .slice A2 K.length c2, .slice A3 S.length c3, .slice A4 T.length c4] 63)
  generalize E.length = ne at *
  generalize K.length = nk at *
  generalize S.length = ns at *
  generalize T.length = nt at *
  obtain ⟨x0, x1, x2, x3, x4, hxs⟩ := row5 hx
  clear hx
  have he' : (ne : Int) ≤ 1125899906842624 := by omega
  have hk' : (nk : Int) ≤ 1125899906842624 := by omega
  have hs' : (ns : Int) ≤ 1125899906842624 := by omega
  have ht' : (nt : Int) ≤ 1125899906842624 := by omega
  clear he hk hs ht
  by_cases h0 : (0 : Int) < (ne : Int) + nk + ns + nt
  · have hR : Hid (R = 3) := hG.out.trans (if_pos (by omega))
    clear hG
    go_enter Try.func36, Try.ntmps36
    go_wp2_with fail
    go_ret
    exact ⟨ret_int hR.out.symm, hu⟩
  · have hR : Hid (R = 0) := hG.out.trans (if_neg (by omega))
    have h0' : (ne : Int) + nk + ns + nt ≤ 0 := by omega
    clear hG h0
    go_enter Try.func36, Try.ntmps36
    go_wp2_with fail
    go_ret
    exact ⟨ret_int hR.out.symm, hu⟩
set_option maxHeartbeats 4000000 in
theorem refNode1_any (kd : Int) (A1 A2 A3 A4 : Option Addr) (c1 c2 c3 c4 : Nat) (E : List El) (K : List Int) (S : List Sp) (T : List Int) (w : World) (hkd : kd = 1) (h : NdAt w A1 A2 A3 A4 E K S T) (hcap : E.length ≤ c1) (hk : K.length ≤ 1125899906842624) (hs : S.length ≤ 1125899906842624) (ht : T.length ≤ 1125899906842624) :
    Calls Try.prog 36 #[.agg #[.int .i64 kd, .slice A1 E.length c1, .slice A2 K.length c2, .slice A3 S.length c3, .slice A4 T.length c4]] w fun e w' => e = .returned (.int .i64 (leafErr E K S T)) ∧ Calm w w' := by
  subst hkd
  have hx := heap_new w (.cells #[.int .i64 1, .slice A1 E.length c1, .slice A2 K.length c2, .slice A3 S.length c3, .slice A4 T.length c4] 63)
  have hu := (Calm.refl w).alloc (.cells #[.int .i64 1, .slice A1 E.length c1, .slice A2 K.length c2, .slice A3 S.length c3, .slice A4 T.length c4] 63)
  have hk' : (K.length : Int) ≤ 1125899906842624 := by omega
  have hs' : (S.length : Int) ≤ 1125899906842624 := by omega
  have ht' : (T.length : Int) ≤ 1125899906842624 := by omega
  have hne := h.ne
  obtain ⟨x0, x1, x2, x3, x4, hxs⟩ := row5 hx
  by_cases hB : 0 < K.length ∨ 0 < S.length ∨ 0 < T.length
  · have hG : Hid (3 = leafErr E K S T) := (if_pos hB).symm
    have h0 : (0 : Int) < (K.length : Int) + S.length + T.length := by omega
    clear hB hk hs ht hx h
    generalize K.length = nk at *
    generalize S.length = ns at *
    generalize T.length = nt at *
    go_enter Try.func36, Try.ntmps36
    go_wp2_with fail
    go_ret
    exact ⟨ret_int hG.out, hu⟩
  have h0 : (K.length : Int) + S.length + T.length ≤ 0 := by omega
  by_cases h8 : 8 < E.length
  · have hG : Hid (2 = leafErr E K S T) := by show _ = _; unfold leafErr; rw [if_neg hB, if_pos h8]
    have h8' : (8 : Int) < E.length := by omega
    clear hB h8 hk hs ht hx h
    generalize K.length = nk at *
    generalize S.length = ns at *
    generalize T.length = nt at *
    go_enter Try.func36, Try.ntmps36
    go_wp2_with fail
    go_ret
    exact ⟨ret_int hG.out, hu⟩
  have hG : Hid (leafErr E K S T = elsErr E) := by show _ = _; unfold leafErr; rw [if_neg hB, if_neg h8]
  have h8' : (E.length : Int) ≤ 8 := by omega
  have hL : Hid (Lies w A1 E) := h.e
  generalize leafErr E K S T = R at hG ⊢
  clear hB h8 hk hs ht h
  generalize K.length = nk at *
  generalize S.length = ns at *
  generalize T.length = nt at *
  go_enter Try.func36, Try.ntmps36
  go_wp2_with fail
  go_loopw [47] (fun i wr => ∃ k : Nat, k ≤ E.length ∧ i = .int .i64 k ∧ Calm w wr ∧ wr.heap[w.heap.size]? = some (.cells #[.int .i64 1, .slice A1 E.length c1, .slice A2 nk c2, .slice A3 ns c3, .slice A4 nt c4] 63 (0, 0)) ∧ NoStep E k) (fun i _ => E.length - (intOf i).toNat)
  case atStart => exact ⟨0, Nat.zero_le _, rfl, hu, hx, NoStep.zero E⟩
  case round =>
    obtain ⟨k, hk, rfl, hz, hy, hN⟩ := hrel
    clear x0 x1 x2 x3 x4 hxs hx hu
    by_cases hlt : k < E.length
    rotate_left
    · have K1 : Hid (0 = R) := (hN.good (by omega)).trans hG.out.symm
      go_wp2_with fail
      go_ret
      exact ⟨ret_int K1.out, hz⟩
    obtain ⟨b, q, p, o, f, m, g, s, rfl, hb, HE, hm, e0, e1, e2, e3, e4, e5⟩ := (hL.out.calm hz).get hlt
    by_cases he : elemErr p o f m g s.size = 0
    rotate_left
    · have b1 : (elemErr p o f m g s.size != 0) = true := by simpa using he
      have K1 : Hid (elemErr p o f m g s.size = R) := by
        have h1 := sStep_err HE.out (show El.err ⟨p, o, f, m, g, s⟩ ≠ 0 from he)
        show _ = _
        rw [hG.out, ← hN.bad (by rw [h1]; exact he) hlt, h1]; rfl
      clear he
      go_wp2_with (go_at_call 18; refine (refElem_any _ _ _ _ _ _ _ hm).mono ?_; rintro e w1 ⟨rfl, hb1⟩)
      go_ret
      exact ⟨ret_int K1.out, (hz.alloc _).call hb1⟩
    have b1 : (elemErr p o f m g s.size != 0) = false := by simpa using he
    have HE0 : Hid (elemErr p o f m g s.size = 0) := he
    clear he
    have hg9 := (row5 hy).2.2.2.2.2
    have hkc : (k : Int) + 1 ≤ (c1 : Int) := by omega
    have hkc2 : k + 1 ≤ c1 := by omega
    by_cases hk0 : k = 0
    · subst hk0
      have hN1 : NoStep E 1 := hN.succ (sStep_first HE.out HE0.out)
      simp only [Nat.zero_mul, Nat.add_zero] at e0 e1 e2 e3 e4 e5
      go_wp2_with (first
        | (go_at_call 18; refine (refElem_any _ _ _ _ _ _ _ hm).mono ?_; rintro e w1 ⟨rfl, hb1⟩; have hy1 := (hb1.block (by simp; omega)).trans (heap_past _ hy); obtain ⟨x0, x1, x2, x3, x4, hxs⟩ := row5 hy1)
        | (go_at_call 56; refine (rising1_any _ _ _).mono ?_; rintro e w2 ⟨rfl, hb2⟩))
      exact ⟨⟨1, by omega, rfl, ((hz.alloc _).call hb1).call hb2, (hb2.block hxs).trans hy1, hN1⟩, by simp [intOf]; omega⟩
    obtain ⟨p', o', f', m', g', s', HE', hm', d0, d1, d2, d3, d4, d5⟩ := (hL.out.calm hz).get2 (k := k - 1) (by omega)
    have hS := sStep_form HE.out HE0.out (by omega) HE'.out
    have hk1 : 1 ≤ k := by omega
    have hge := ahead_rise p' o' f' m' g' s' p o f m g s
    have z1 : IntKind.i64.wrap ((k : Int) - 1) = (k : Int) - 1 := IntWalk.i64_in _ (by omega)
    have z2 : ((k : Int) - 1).toNat = k - 1 := by omega
    have z3 : 0 ≤ (k : Int) - 1 := by omega
    have z5 : 1 ≤ (k : Int) := by omega
    have P0 : ElAt wr b (q + (k - 1) * 6) ⟨p', o', f', m', g', s'⟩ := ⟨d0, d1, d2, d3, d4, d5⟩
    have P1 : ElAt wr b (q + k * 6) ⟨p, o, f, m, g, s⟩ := ⟨e0, e1, e2, e3, e4, e5⟩
    rw [show q + k * 6 = q + (k - 1) * 6 + 6 from by omega] at P1
    clear d0 d1 d2 d3 d4 d5
    by_cases hF : Rise ⟨p', o', f', m', g', s'⟩ ⟨p, o, f, m, g, s⟩
    · rw [if_pos hF] at hS
      rw [decide_eq_true hF] at hge
      have hN1 : NoStep E (k + 1) := hN.succ hS
      by_cases hk2 : k = 1
      · subst hk2
        simp only [Nat.sub_self, Nat.zero_mul, Nat.add_zero] at P0 P1
        clear hk0 hk1 z1 z2 z3 z5 hS hF
        go_wp2_with (first
          | (go_at_call 18; refine (refElem_any _ _ _ _ _ _ _ hm).mono ?_; rintro e w1 ⟨rfl, hb1⟩; have hy1 := (hb1.block (by simp; omega)).trans (heap_past _ hy); have hv := ((Calm.refl wr).alloc _).call hb1; replace P0 := P0.calm hv hb; replace P1 := P1.calm hv hb; have hb2 := Nat.lt_of_lt_of_le hb hv.size; have hv1 := hz.call hv; clear hb1 hv; obtain ⟨x0, x1, x2, x3, x4, hxs⟩ := row5 hy1)
          | (go_at_call 56; skip; refine (rising2_any b q _ p' o' f' m' g' p o f m g s' s true _ hb2 hge P0 P1).mono ?_; rintro e w2 ⟨rfl, hb9⟩; replace hv1 := hv1.call hb9; have hy2 := (hb9.block hxs).trans hy1; clear hb9))
        go_roundw
        case rel => exact ⟨2, by omega, by go_num, hv1, hy2, hN1⟩
        case measure => simp [intOf]; omega
      · have z6 : (0 : Int) < (k : Int) - 1 := by omega
        clear hk0 hS hF
        go_wp2_with (first
          | (go_at_call 18; refine (refElem_any _ _ _ _ _ _ _ hm).mono ?_; rintro e w1 ⟨rfl, hb1⟩; have hy1 := (hb1.block (by simp; omega)).trans (heap_past _ hy); have hv := ((Calm.refl wr).alloc _).call hb1; replace P0 := P0.calm hv hb; replace P1 := P1.calm hv hb; have hb2 := Nat.lt_of_lt_of_le hb hv.size; have hv1 := hz.call hv; clear hb1 hv; obtain ⟨x0, x1, x2, x3, x4, hxs⟩ := row5 hy1)
          | (go_at_call 56; rw [show k + 1 - (k - 1) = 2 from by omega]; refine (rising2_any b (q + (k - 1) * 6) _ p' o' f' m' g' p o f m g s' s true _ hb2 hge P0 P1).mono ?_; rintro e w2 ⟨rfl, hb9⟩; replace hv1 := hv1.call hb9; have hy2 := (hb9.block hxs).trans hy1; clear hb9))
        go_roundw
        case rel => exact ⟨k + 1, by omega, by go_num, hv1, hy2, hN1⟩
        case measure => simp [intOf]; omega
    · rw [if_neg hF] at hS
      rw [decide_eq_false hF] at hge
      have K1 : Hid (3 = R) := (hS.symm.trans (hN.bad (by rw [hS]; decide) hlt)).trans hG.out.symm
      by_cases hk2 : k = 1
      · subst hk2
        simp only [Nat.sub_self, Nat.zero_mul, Nat.add_zero] at P0 P1
        clear hk0 hk1 z1 z2 z3 z5 hS hF
        go_wp2_with (first
          | (go_at_call 18; refine (refElem_any _ _ _ _ _ _ _ hm).mono ?_; rintro e w1 ⟨rfl, hb1⟩; have hy1 := (hb1.block (by simp; omega)).trans (heap_past _ hy); have hv := ((Calm.refl wr).alloc _).call hb1; replace P0 := P0.calm hv hb; replace P1 := P1.calm hv hb; have hb2 := Nat.lt_of_lt_of_le hb hv.size; have hv1 := hz.call hv; clear hb1 hv; obtain ⟨x0, x1, x2, x3, x4, hxs⟩ := row5 hy1)
          | (go_at_call 56; skip; refine (rising2_any b q _ p' o' f' m' g' p o f m g s' s false _ hb2 hge P0 P1).mono ?_; rintro e w2 ⟨rfl, hb9⟩; replace hv1 := hv1.call hb9; have hy2 := (hb9.block hxs).trans hy1; clear hb9))
        go_ret
        exact ⟨ret_int K1.out, hv1⟩
      · have z6 : (0 : Int) < (k : Int) - 1 := by omega
        clear hk0 hS hF
        go_wp2_with (first
          | (go_at_call 18; refine (refElem_any _ _ _ _ _ _ _ hm).mono ?_; rintro e w1 ⟨rfl, hb1⟩; have hy1 := (hb1.block (by simp; omega)).trans (heap_past _ hy); have hv := ((Calm.refl wr).alloc _).call hb1; replace P0 := P0.calm hv hb; replace P1 := P1.calm hv hb; have hb2 := Nat.lt_of_lt_of_le hb hv.size; have hv1 := hz.call hv; clear hb1 hv; obtain ⟨x0, x1, x2, x3, x4, hxs⟩ := row5 hy1)
          | (go_at_call 56; rw [show k + 1 - (k - 1) = 2 from by omega]; refine (rising2_any b (q + (k - 1) * 6) _ p' o' f' m' g' p o f m g s' s false _ hb2 hge P0 P1).mono ?_; rintro e w2 ⟨rfl, hb9⟩; replace hv1 := hv1.call hb9; have hy2 := (hb9.block hxs).trans hy1; clear hb9))
        go_ret
        exact ⟨ret_int K1.out, hv1⟩
open Go.RowKit
set_option maxHeartbeats 4000000 in
theorem refNode_any (kd : Int) (A1 A2 A3 A4 : Option Addr) (c1 c2 c3 c4 : Nat) (E : List El) (K : List Int) (S : List Sp) (T : List Int) (w : World) (h : NdAt w A1 A2 A3 A4 E K S T) (hcap : E.length ≤ c1) (he : E.length ≤ 1125899906842624) (hk : K.length ≤ 1125899906842624) (hs : S.length ≤ 1125899906842624) (ht : T.length ≤ 1125899906842624) :
    Calls Try.prog 36 #[.agg #[.int .i64 kd, .slice A1 E.length c1, .slice A2 K.length c2, .slice A3 S.length c3, .slice A4 T.length c4]] w fun e w' => e = .returned (.int .i64 (ndErr kd E K S T)) ∧ Calm w w' := by
  by_cases h0 : kd = 0
  · rw [show ndErr kd E K S T = freeErr E K S T from by rw [h0, nd_free]]
    exact refNode0_any kd A1 A2 A3 A4 c1 c2 c3 c4 E K S T w h0 he hk hs ht
  by_cases h1 : kd = 1
  · rw [show ndErr kd E K S T = leafErr E K S T from by rw [h1, nd_leaf]]
    exact refNode1_any kd A1 A2 A3 A4 c1 c2 c3 c4 E K S T w h1 h hcap hk hs ht
  have hx := heap_new w (.cells #[.int .i64 kd, .slice A1 E.length c1, .slice A2 K.length c2, .slice A3 S.length c3, .slice A4 T.length c4] 63)
  have hu := (Calm.refl w).alloc (.cells #[.int .i64 kd, .slice A1 E.length c1, .slice A2 K.length c2, .slice A3 S.length c3, .slice A4 T.length c4] 63)
  by_cases h2 : kd = 2
  · rw [show ndErr kd E K S T = innerErr E K S T from by rw [h2, nd_inner]]
    have cI := fun u (hu : Calm w u) => refInner_any kd A1 A2 A3 A4 c1 c2 c3 c4 E K S T u (h.calm hu) hs
    subst h2
    clear h h0 h1
    obtain ⟨x0, x1, x2, x3, x4, hxs⟩ := row5 hx
    go_enter Try.func36, Try.ntmps36
    go_wp2_with (go_at_call 57; (with_reducible refine (cI _ hu).mono ?_); rintro e w1 ⟨rfl, hb1⟩; replace hu := hu.call hb1; clear hb1)
    go_ret
    exact ⟨rfl, hu⟩
  rw [nd_other h0 h1 h2]
  have b0 : (kd == 0) = false := by rw [beq_eq_false_iff_ne]; exact h0
  have b1 : (kd == 1) = false := by rw [beq_eq_false_iff_ne]; exact h1
  have b2 : (kd == 2) = false := by rw [beq_eq_false_iff_ne]; exact h2
  clear h h0 h1 h2
  obtain ⟨x0, x1, x2, x3, x4, hxs⟩ := row5 hx
  go_enter Try.func36, Try.ntmps36
  go_wp2_with fail
  go_ret
  exact ⟨rfl, hu⟩
open Go.RowKit
def iv (l : List Int) : List Value := l.map (Value.int .i64)
def OwnI (base : Nat) (w : World) (v : Value) (l : List Int) : Prop := w.ownsRow base 3 1 v l.length (iv l)
theorem iv_one (l : List Int) : ∀ u ∈ iv l, u.oneCell' = true := by
 intro u hu
 obtain ⟨n, _, rfl⟩ := List.mem_map.1 hu
 rfl
theorem infoInt : (Try.prog.info? 3).map (fun i => (i.zero, i.size, i.bytes)) = some (some (.int .i64 0), 1, 8) := by kernel_rfl
theorem OwnI.nil (base : Nat) (w : World) : OwnI base w (.slice none 0 0) [] := World.ownsRow_nil _ _ _ _
theorem OwnI.lies {base : Nat} {w : World} {v : Value} {l : List Int} (h : OwnI base w v l) : ∃ A c, v = .slice A l.length c ∧ LiesI w A l := by
 rcases h.2 with ⟨rfl, hl⟩ | ⟨g, cap, cur, rfl, _, hg, hnc, hcm, _, ht⟩
 ·have : l = [] := List.eq_nil_of_length_eq_zero hl
  subst this
  exact ⟨none, 0, rfl, fun h => absurd h (by simp)⟩
 ·refine ⟨some ⟨g, 0, none⟩, cap, rfl, fun _ => ⟨g, 0, rfl, (Array.getElem?_eq_some_iff.1 hg).1, fun k x hx => ?_⟩⟩
  have hk : k < l.length := (List.getElem?_eq_some_iff.1 hx).1
  have h2 := congrArg (·[k]?) ht
  simp only [Nat.mul_one] at h2
  rw [List.getElem?_take_of_lt hk, Array.getElem?_toList] at h2
  rw [Nat.zero_add, cell_of_row w g _ cur _ (0, 0) hg, h2]
  simp [iv, hx]
open Go.RowKit
def spCells (s : Sp) : List Value := [.int .i64 s.p, .int .i64 s.o, .int .i64 s.f, .int .i64 s.m]
def sv (l : List Sp) : List Value := l.flatMap spCells
def OwnS (base : Nat) (w : World) (v : Value) (l : List Sp) : Prop := w.ownsRow base 45 4 v l.length (sv l)
theorem sv_get (l : List Sp) : ∀ (i j : Nat), j < 4 → (sv l)[i * 4 + j]? = (l[i]?).bind fun e => (spCells e)[j]? := by
 induction l with
 |nil => intro i j _; simp [sv]
 |cons a l ih =>
  intro i j hj
  have e : sv (a :: l) = spCells a ++ sv l := by simp [sv]
  have h4 : (spCells a).length = 4 := rfl
  rw [e]
  cases i with
  |zero => rw [List.getElem?_append_left (by omega)]; simp
  |succ i =>
   rw [List.getElem?_append_right (by omega), h4, show (i + 1) * 4 + j - 4 = i * 4 + j from by omega, ih i j hj]
   simp
theorem sp_one (s : Sp) : ∀ u ∈ spCells s, u.oneCell' = true := by
 intro u hu
 simp only [spCells, List.mem_cons, List.not_mem_nil, or_false] at hu
 rcases hu with rfl | rfl | rfl | rfl <;> rfl
theorem infoSp : (Try.prog.info? 45).map (fun i => (i.zero, i.size, i.bytes)) = some (some (.agg #[.int .i64 0, .int .i64 0, .int .i64 0, .int .i64 0]), 4, 32) := by kernel_rfl
theorem OwnS.nil (base : Nat) (w : World) : OwnS base w (.slice none 0 0) [] := World.ownsRow_nil _ _ _ _
theorem OwnS.lies {base : Nat} {w : World} {v : Value} {l : List Sp} (h : OwnS base w v l) (hm : ∀ s ∈ l, -9223372036854775808 ≤ s.m) : ∃ A c, v = .slice A l.length c ∧ LiesS w A l := by
 rcases h.2 with ⟨rfl, hl⟩ | ⟨g, cap, cur, rfl, _, hg, hnc, hcm, _, ht⟩
 ·have : l = [] := List.eq_nil_of_length_eq_zero hl
  subst this
  exact ⟨none, 0, rfl, by simp, fun h => absurd h (by simp)⟩
 ·refine ⟨some ⟨g, 0, none⟩, cap, rfl, hm, fun _ => ⟨g, 0, rfl, (Array.getElem?_eq_some_iff.1 hg).1, fun k x hx => ?_⟩⟩
  have hk : k < l.length := (List.getElem?_eq_some_iff.1 hx).1
  have key : ∀ j, j < 4 → w.cell? ⟨g, 0 + k * 4 + j, none⟩ = (spCells x)[j]? := fun j hj => by
   have h2 := congrArg (·[k * 4 + j]?) ht
   rw [List.getElem?_take_of_lt (by omega), Array.getElem?_toList, sv_get l k j hj, hx] at h2
   rw [Nat.zero_add, cell_of_row w g _ cur _ (0, 0) hg, h2]; rfl
  exact ⟨key 0 (by omega), key 1 (by omega), key 2 (by omega), key 3 (by omega)⟩
/-- append(out, x), of one number, and where the row then lies. -/
theorem wpList_append_iAt {ops : Array Oper} {rest : List Oper} {o : Oper} {a : Act} {w : World} {Q : Exit → Act → World → Prop} (hgd : o.guard = none) (s x : Operand)
    (ho : o.op = .call { callee := .builtin .append, args := #[s, x], argTypes := #[60, 60] })
    (base : Nat) (v : Value) (l : List Int) (hs : a.eval s = v) (hown : OwnI base w v l) (g t : Nat) (n : Int) (fr : Nat × Nat)
    (hx : a.eval x = .slice (some ⟨g, 0, none⟩) 1 1) (hg : w.heap[g]? = some (.cells #[.int .i64 n] t fr)) (hl : l.length ≤ 1000000) (hbase : base ≤ w.heap.size)
    (h : ∀ v' w', OwnI base w' v' (l ++ [n]) → w.grownBy w' v.ownBlock → (v'.ownBlock = v.ownBlock ∨ v'.ownBlock = some w.heap.size) → wpList Try.prog ops Q rest (a.put o.dst v') w') : wpList Try.prog ops Q (o :: rest) a w := by
  obtain ⟨i0, hi, hz0, hz1, hz2⟩ := info_parts infoInt
  refine wpList_append_own_at w hgd s x _ ho base 3 i0 _ 1 8 Try.underlying60 hi hz0 hz1 hz2 rfl (by decide) v _ _ hs hown ⟨g, 0, none⟩ 1 1 (iv [n]) hx rfl (fun j u hj => ?_) (iv_one _) (by unfold maxLen; omega) (by omega) hbase fun v' w' h1 h2 _ h4 => ?_
  · have : (⟨g, 0, none⟩ : Addr).add j = ⟨g, j, none⟩ := by unfold Addr.add; split <;> simp_all
    rw [this, cell_of_row w g j _ t fr hg, ← hj]
    simp [iv]
  · refine h v' w' ?_ h2 h4
    unfold OwnI
    rw [List.length_append, iv, List.map_append]
    exact h1
/-- append(out, s), of one spot. -/
theorem wpList_append_sAt {ops : Array Oper} {rest : List Oper} {o : Oper} {a : Act} {w : World} {Q : Exit → Act → World → Prop} (hgd : o.guard = none) (s x : Operand)
    (ho : o.op = .call { callee := .builtin .append, args := #[s, x], argTypes := #[61, 61] })
    (base : Nat) (v : Value) (l : List Sp) (hs : a.eval s = v) (hown : OwnS base w v l) (g t : Nat) (n : Sp) (fr : Nat × Nat)
    (hx : a.eval x = .slice (some ⟨g, 0, none⟩) 1 1) (hg : w.heap[g]? = some (.cells #[.int .i64 n.p, .int .i64 n.o, .int .i64 n.f, .int .i64 n.m] t fr)) (hl : l.length ≤ 1000000) (hbase : base ≤ w.heap.size)
    (h : ∀ v' w', OwnS base w' v' (l ++ [n]) → w.grownBy w' v.ownBlock → (v'.ownBlock = v.ownBlock ∨ v'.ownBlock = some w.heap.size) → wpList Try.prog ops Q rest (a.put o.dst v') w') : wpList Try.prog ops Q (o :: rest) a w := by
  obtain ⟨i0, hi, hz0, hz1, hz2⟩ := info_parts infoSp
  refine wpList_append_own_at w hgd s x _ ho base 45 i0 _ 4 32 Try.underlying61 hi hz0 hz1 hz2 rfl (by decide) v _ _ hs hown ⟨g, 0, none⟩ 1 1 (spCells n) hx rfl (fun j u hj => ?_) (sp_one _) (by unfold maxLen; omega) (by omega) hbase fun v' w' h1 h2 _ h4 => ?_
  · have : (⟨g, 0, none⟩ : Addr).add j = ⟨g, j, none⟩ := by unfold Addr.add; split <;> simp_all
    rw [this, cell_of_row w g j _ t fr hg, ← hj]
    simp [spCells]
  · refine h v' w' ?_ h2 h4
    unfold OwnS
    rw [List.length_append, show sv (l ++ [n]) = sv l ++ spCells n from by simp [sv]]
    exact h1
def Away (u v : Value) : Prop := ∀ k, u.ownBlock = some k → v.ownBlock ≠ some k
theorem Away.symm {u v : Value} (h : Away u v) : Away v u := fun k hk hu => h k hu hk
theorem Away.nil (v : Value) : Away (.slice none 0 0) v := fun k hk => by simp [Value.ownBlock] at hk
structure DI (wl w : World) (B g : Nat) (kd : Int) (vE bK bS bT vK vS vT : Value) (K : List Int) (S : List Sp) (T : List Int) : Prop where
 os : w.os = wl.os
 tape : w.tape = wl.tape
 output : w.output = wl.output
 size : B ≤ w.heap.size
 low : ∀ k, k < B → k ≠ g → w.heap[k]? = wl.heap[k]?
 gB : g < B
 box : w.heap[g]? = some (.cells #[.int .i64 kd, vE, bK, bS, bT] 63 (0, 0))
 k : OwnI B w vK K
 s : OwnS B w vS S
 t : OwnI B w vT T
 ks : Away vK vS
 kt : Away vK vT
 st : Away vS vT
section
variable {wl w w' : World} {B g : Nat} {kd : Int} {vE bK bS bT vK vS vT v' : Value} {K : List Int} {S : List Sp} {T : List Int}
theorem rows_calm {e : TypeId} {size n : Nat} {v : Value} {xs : List Value} (h : w.ownsRow B e size v n xs) (hb : Calm w w') : w'.ownsRow B e size v n xs := World.ownsRow.kept h (hb.grownBy none) (by
 rcases v.ownBlock with _ | k
 ·exact .inl rfl
 ·exact .inr (by simp))
theorem rows_away {e : TypeId} {size n : Nat} {v u : Value} {xs : List Value} (h : w.ownsRow B e size v n xs) (hg : w.grownBy w' u.ownBlock) (ha : Away u v) : w'.ownsRow B e size v n xs := World.ownsRow.kept h hg (by
 cases hv : v.ownBlock with
 |none => exact .inl rfl
 |some k => exact .inr fun hu => ha k hu.symm hv)
theorem rows_lt {e : TypeId} {size n : Nat} {v : Value} {xs : List Value} (h : w.ownsRow B e size v n xs) : ∀ k, v.ownBlock = some k → B ≤ k ∧ k < w.heap.size := World.ownsRow.lt h
theorem rows_set {e : TypeId} {size n : Nat} {v : Value} {xs : List Value} (h : w.ownsRow B e size v n xs) (hgB : g < B) (j : Nat) (u : Value) : (w.setCell ⟨g, j, none⟩ u).ownsRow B e size v n xs := World.ownsRow.kept h (row := some g) ⟨rfl, rfl, rfl, by simp [World.setCell], fun k _ hk => heap_setCell_other w ⟨g, j, none⟩ k u (fun e => hk (by simp [e]))⟩ (by
 cases hv : v.ownBlock with
 |none => exact .inl rfl
 |some k => exact .inr fun hu => by injection hu with hu; subst hu; have := (rows_lt h _ hv).1; omega)
theorem away_new {u v : Value} {e : TypeId} {size n : Nat} {xs : List Value} (hv : w.ownsRow B e size v n xs) (ha : Away u v) (hat : v'.ownBlock = u.ownBlock ∨ v'.ownBlock = some w.heap.size) : Away v' v := fun k hk hv2 => by
 rcases hat with h | h
 ·exact ha k (h.symm.trans hk) hv2
 ·rw [h] at hk; injection hk with hk; subst hk; have := (rows_lt hv _ hv2).2; omega
theorem DI.calm (h : DI wl w B g kd vE bK bS bT vK vS vT K S T) (hb : Calm w w') : DI wl w' B g kd vE bK bS bT vK vS vT K S T :=
 ⟨(Below.os hb).trans h.os, (Below.tape hb).trans h.tape, (Below.output hb).trans h.output, Nat.le_trans h.size hb.size, fun k hk hn => (hb.block (Nat.lt_of_lt_of_le hk h.size)).trans (h.low k hk hn), h.gB, (hb.block (Nat.lt_of_lt_of_le h.gB h.size)).trans h.box,
  rows_calm h.k hb, rows_calm h.s hb, rows_calm h.t hb, h.ks, h.kt, h.st⟩
theorem DI.appK {x : Int} (h : DI wl w B g kd vE bK bS bT vK vS vT K S T) (h1 : OwnI B w' v' (K ++ [x])) (h2 : w.grownBy w' vK.ownBlock) (h3 : v'.ownBlock = vK.ownBlock ∨ v'.ownBlock = some w.heap.size) : DI wl w' B g kd vE bK bS bT v' vS vT (K ++ [x]) S T :=
 have hlow : ∀ k, k < B → w'.heap[k]? = w.heap[k]? := fun k hk => h2.block k (Nat.lt_of_lt_of_le hk h.size) fun e => by have := (rows_lt h.k _ e.symm).1; omega
 ⟨h2.os.trans h.os, h2.tape.trans h.tape, h2.output.trans h.output, Nat.le_trans h.size h2.size, fun k hk hn => (hlow k hk).trans (h.low k hk hn), h.gB, (hlow g h.gB).trans h.box,
  h1, rows_away h.s h2 h.ks, rows_away h.t h2 h.kt, away_new h.s h.ks h3, away_new h.t h.kt h3, h.st⟩
theorem DI.appS {x : Sp} (h : DI wl w B g kd vE bK bS bT vK vS vT K S T) (h1 : OwnS B w' v' (S ++ [x])) (h2 : w.grownBy w' vS.ownBlock) (h3 : v'.ownBlock = vS.ownBlock ∨ v'.ownBlock = some w.heap.size) : DI wl w' B g kd vE bK bS bT vK v' vT K (S ++ [x]) T :=
 have hlow : ∀ k, k < B → w'.heap[k]? = w.heap[k]? := fun k hk => h2.block k (Nat.lt_of_lt_of_le hk h.size) fun e => by have := (rows_lt h.s _ e.symm).1; omega
 ⟨h2.os.trans h.os, h2.tape.trans h.tape, h2.output.trans h.output, Nat.le_trans h.size h2.size, fun k hk hn => (hlow k hk).trans (h.low k hk hn), h.gB, (hlow g h.gB).trans h.box,
  rows_away h.k h2 h.ks.symm, h1, rows_away h.t h2 h.st, (away_new h.k h.ks.symm h3).symm, h.kt, away_new h.t h.st h3⟩
theorem DI.appT {x : Int} (h : DI wl w B g kd vE bK bS bT vK vS vT K S T) (h1 : OwnI B w' v' (T ++ [x])) (h2 : w.grownBy w' vT.ownBlock) (h3 : v'.ownBlock = vT.ownBlock ∨ v'.ownBlock = some w.heap.size) : DI wl w' B g kd vE bK bS bT vK vS v' K S (T ++ [x]) :=
 have hlow : ∀ k, k < B → w'.heap[k]? = w.heap[k]? := fun k hk => h2.block k (Nat.lt_of_lt_of_le hk h.size) fun e => by have := (rows_lt h.t _ e.symm).1; omega
 ⟨h2.os.trans h.os, h2.tape.trans h.tape, h2.output.trans h.output, Nat.le_trans h.size h2.size, fun k hk hn => (hlow k hk).trans (h.low k hk hn), h.gB, (hlow g h.gB).trans h.box,
  rows_away h.k h2 h.kt.symm, rows_away h.s h2 h.st.symm, h1, h.ks, (away_new h.k h.kt.symm h3).symm, (away_new h.s h.st.symm h3).symm⟩
theorem DI.set (h : DI wl w B g kd vE bK bS bT vK vS vT K S T) (j : Nat) (u : Value) {bK' bS' bT' : Value} (hbox : (#[.int .i64 kd, vE, bK, bS, bT] : Array Value).setIfInBounds j u = #[.int .i64 kd, vE, bK', bS', bT']) :
    DI wl (w.setCell ⟨g, j, none⟩ u) B g kd vE bK' bS' bT' vK vS vT K S T :=
  ⟨h.os, h.tape, h.output, by simpa [World.setCell] using h.size, fun k hk hn => (heap_setCell_other w ⟨g, j, none⟩ k u (fun e => hn (by simpa using e))).trans (h.low k hk hn), h.gB, by rw [← hbox]; exact heap_setCell_same w g j _ _ u h.box,
    rows_set h.k h.gB j u, rows_set h.s h.gB j u, rows_set h.t h.gB j u, h.ks, h.kt, h.st⟩
theorem DI.low_calm {w0 : World} (h : DI wl w B g kd vE bK bS bT vK vS vT K S T) (hc : Calm w0 wl) (hg : w0.heap.size ≤ g) (hB : wl.heap.size ≤ B := by omega) : Calm w0 w :=
 Below.trans hc ⟨h.os, h.tape, h.output, Nat.le_trans hB h.size, fun k hk => h.low k (by have := h.gB; omega) (by omega)⟩
end
end Go.Proofs.Ytoklknjjkchgmaa
