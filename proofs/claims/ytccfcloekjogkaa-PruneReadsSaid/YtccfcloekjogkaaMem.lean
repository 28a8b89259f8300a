/- Records in memory: a slice that reads as a list of records, nil and empty ones too. -/
import Derived.Test.YtccfcloekjogkaaElem
import Derived.Laws.OwnMore
import Derived.Deep.AppendLies
import Derived.Deep.Draws
namespace Go.Proofs.Ytccfcloekjogkaa
open Go.RowKit

def El.cells (e : El) : List Value := [.int .i64 e.p, .int .i64 e.o, .int .i64 e.f, .int .i64 e.m, .int .i64 e.g, .string e.s]
def El.wf (e : El) : Prop := -9223372036854775808 ≤ e.m

/-- The six cells of a record. -/
def ElAt (w : World) (b q : Nat) (e : El) : Prop :=
  w.cell? ⟨b, q, none⟩ = some (.int .i64 e.p) ∧ w.cell? ⟨b, q + 1, none⟩ = some (.int .i64 e.o) ∧ w.cell? ⟨b, q + 2, none⟩ = some (.int .i64 e.f) ∧ w.cell? ⟨b, q + 3, none⟩ = some (.int .i64 e.m) ∧ w.cell? ⟨b, q + 4, none⟩ = some (.int .i64 e.g) ∧ w.cell? ⟨b, q + 5, none⟩ = some (.string e.s)

/-- The records l stand from the address A on. -/
def Lies (w : World) (A : Option Addr) (l : List El) : Prop :=
  (∀ e ∈ l, e.wf) ∧ (0 < l.length → ∃ b q, A = some ⟨b, q, none⟩ ∧ b < w.heap.size ∧ ∀ k e, l[k]? = some e → ElAt w b (q + k * 6) e)

def Sl (w : World) (v : Value) (l : List El) : Prop := ∃ A c, v = .slice A l.length c ∧ l.length ≤ 9223372036854775807 ∧ Lies w A l

set_option maxRecDepth 100000 in
theorem ElAt.calm {w w' : World} {b q : Nat} {e : El} (h : ElAt w b q e) (hb : Calm w w') (hlt : b < w.heap.size) : ElAt w' b q e := by
  obtain ⟨h0, h1, h2, h3, h4, h5⟩ := h
  have hc := hb.facts.1
  exact ⟨(hc b _ hlt).trans h0, (hc b _ hlt).trans h1, (hc b _ hlt).trans h2, (hc b _ hlt).trans h3, (hc b _ hlt).trans h4, (hc b _ hlt).trans h5⟩
set_option maxRecDepth 100000 in
theorem Lies.calm {w w' : World} {A : Option Addr} {l : List El} (h : Lies w A l) (hb : Calm w w') : Lies w' A l :=
  ⟨h.1, fun hl => by
    obtain ⟨b, q, hA, hlt, hk⟩ := h.2 hl
    exact ⟨b, q, hA, Nat.lt_of_lt_of_le hlt hb.size, fun k e he => (hk k e he).calm hb hlt⟩⟩
set_option maxRecDepth 100000 in
theorem Sl.calm {w w' : World} {v : Value} {l : List El} (h : Sl w v l) (hb : Calm w w') : Sl w' v l := by
  obtain ⟨A, c, hv, hl, h⟩ := h
  exact ⟨A, c, hv, hl, h.calm hb⟩
set_option maxRecDepth 100000 in
theorem Sl.nil (w : World) (c : Nat) (A : Option Addr) : Sl w (.slice A 0 c) [] := ⟨A, c, rfl, by simp, by simp, fun h => absurd h (by simp)⟩
set_option maxRecDepth 100000 in
theorem Lies.at_ {w : World} {A : Option Addr} {l : List El} (h : Lies w A l) {k : Nat} (hk : k < l.length) : ∃ b q e, A = some ⟨b, q, none⟩ ∧ b < w.heap.size ∧ l[k]? = some e ∧ e.wf ∧ ElAt w b (q + k * 6) e := by
  obtain ⟨b, q, hA, hlt, h2⟩ := h.2 (by omega)
  exact ⟨b, q, l[k], hA, hlt, List.getElem?_eq_getElem hk, h.1 _ (List.getElem_mem _), h2 _ _ (List.getElem?_eq_getElem hk)⟩
set_option maxRecDepth 100000 in
theorem free6 {w : World} {g t : Nat} {cs : Array Value} (h : w.heap[g]? = some (.cells cs t (0, 0))) : w.frozen? ⟨g, 0, none⟩ = false ∧ w.frozen? ⟨g, 1, none⟩ = false ∧ w.frozen? ⟨g, 2, none⟩ = false ∧ w.frozen? ⟨g, 3, none⟩ = false ∧ w.frozen? ⟨g, 4, none⟩ = false ∧ w.frozen? ⟨g, 5, none⟩ = false :=
  ⟨frozen_of_row _ _ _ _ _ h, frozen_of_row _ _ _ _ _ h, frozen_of_row _ _ _ _ _ h, frozen_of_row _ _ _ _ _ h, frozen_of_row _ _ _ _ _ h, frozen_of_row _ _ _ _ _ h⟩
set_option maxRecDepth 100000 in
theorem heap_new (w : World) (o : Obj) : (w.alloc o).heap[w.heap.size]? = some o := by show (w.heap.push o)[w.heap.size]? = _; simp
set_option maxRecDepth 100000 in
theorem heap_past {w : World} {g : Nat} {c : Obj} (o : Obj) (h : w.heap[g]? = some c) : (w.alloc o).heap[g]? = some c := by
  rw [Below.heap_alloc _ _ _ (Array.getElem?_eq_some_iff.1 h).1, h]
set_option maxRecDepth 100000 in
/-- What a walk reads of a record: its cells' numbers. -/
theorem Lies.get {w : World} {A : Option Addr} {l : List El} (h : Lies w A l) {k : Nat} (hk : k < l.length) : ∃ (b q : Nat) (p o f m g : Int) (s : ByteArray), A = some ⟨b, q, none⟩ ∧ b < w.heap.size ∧ Hid (l[k]? = some ⟨p, o, f, m, g, s⟩) ∧ -9223372036854775808 ≤ m ∧
    w.cell? ⟨b, q + k * 6, none⟩ = some (.int .i64 p) ∧ w.cell? ⟨b, q + k * 6 + 1, none⟩ = some (.int .i64 o) ∧ w.cell? ⟨b, q + k * 6 + 2, none⟩ = some (.int .i64 f) ∧ w.cell? ⟨b, q + k * 6 + 3, none⟩ = some (.int .i64 m) ∧ w.cell? ⟨b, q + k * 6 + 4, none⟩ = some (.int .i64 g) ∧ w.cell? ⟨b, q + k * 6 + 5, none⟩ = some (.string s) := by
  obtain ⟨b, q, ⟨p, o, f, m, g, s⟩, hA, hlt, he, hw, h0, h1, h2, h3, h4, h5⟩ := h.at_ hk
  exact ⟨b, q, p, o, f, m, g, s, hA, hlt, he, hw, h0, h1, h2, h3, h4, h5⟩
set_option maxRecDepth 100000 in
/-- The same of a record and the one ahead of it. -/
theorem Lies.get2 {w : World} {b q : Nat} {l : List El} (h : Lies w (some ⟨b, q, none⟩) l) {k : Nat} (hk : k < l.length) : ∃ (p o f m g : Int) (s : ByteArray), Hid (l[k]? = some ⟨p, o, f, m, g, s⟩) ∧ -9223372036854775808 ≤ m ∧
    w.cell? ⟨b, q + k * 6, none⟩ = some (.int .i64 p) ∧ w.cell? ⟨b, q + k * 6 + 1, none⟩ = some (.int .i64 o) ∧ w.cell? ⟨b, q + k * 6 + 2, none⟩ = some (.int .i64 f) ∧ w.cell? ⟨b, q + k * 6 + 3, none⟩ = some (.int .i64 m) ∧ w.cell? ⟨b, q + k * 6 + 4, none⟩ = some (.int .i64 g) ∧ w.cell? ⟨b, q + k * 6 + 5, none⟩ = some (.string s) := by
  obtain ⟨b', q', p, o, f, m, g, s, hA, hlt, he, hw, h0, h1, h2, h3, h4, h5⟩ := h.get hk
  injection hA with hA
  injection hA with h6 h7
  subst h6; subst h7
  exact ⟨p, o, f, m, g, s, he, hw, h0, h1, h2, h3, h4, h5⟩
set_option maxRecDepth 100000 in
theorem row3 {w : World} {g t : Nat} {a b c : Value} {fr : Nat × Nat} (h : w.heap[g]? = some (.cells #[a, b, c] t fr)) : w.cell? ⟨g, 0, none⟩ = some a ∧ w.cell? ⟨g, 1, none⟩ = some b ∧ w.cell? ⟨g, 2, none⟩ = some c ∧ g < w.heap.size :=
  ⟨cell_of_row _ _ 0 _ _ _ h, cell_of_row _ _ 1 _ _ _ h, cell_of_row _ _ 2 _ _ _ h, (Array.getElem?_eq_some_iff.1 h).1⟩
set_option maxRecDepth 100000 in
theorem row4 {w : World} {g t : Nat} {a b c d : Value} {fr : Nat × Nat} (h : w.heap[g]? = some (.cells #[a, b, c, d] t fr)) : w.cell? ⟨g, 0, none⟩ = some a ∧ w.cell? ⟨g, 1, none⟩ = some b ∧ w.cell? ⟨g, 2, none⟩ = some c ∧ w.cell? ⟨g, 3, none⟩ = some d ∧ g < w.heap.size :=
  ⟨cell_of_row _ _ 0 _ _ _ h, cell_of_row _ _ 1 _ _ _ h, cell_of_row _ _ 2 _ _ _ h, cell_of_row _ _ 3 _ _ _ h, (Array.getElem?_eq_some_iff.1 h).1⟩
set_option maxRecDepth 100000 in
theorem row6 {w : World} {g t : Nat} {a b c d e f : Value} {fr : Nat × Nat} (h : w.heap[g]? = some (.cells #[a, b, c, d, e, f] t fr)) : w.cell? ⟨g, 0, none⟩ = some a ∧ w.cell? ⟨g, 1, none⟩ = some b ∧ w.cell? ⟨g, 2, none⟩ = some c ∧ w.cell? ⟨g, 3, none⟩ = some d ∧ w.cell? ⟨g, 4, none⟩ = some e ∧ w.cell? ⟨g, 5, none⟩ = some f ∧ g < w.heap.size :=
  ⟨cell_of_row _ _ 0 _ _ _ h, cell_of_row _ _ 1 _ _ _ h, cell_of_row _ _ 2 _ _ _ h, cell_of_row _ _ 3 _ _ _ h, cell_of_row _ _ 4 _ _ _ h, cell_of_row _ _ 5 _ _ _ h, (Array.getElem?_eq_some_iff.1 h).1⟩

set_option maxRecDepth 100000 in
/-- Two results: a record that lies in memory, and a temporary. -/
theorem results_two {fn : Func} {p q : Tmp} (h : fn.results = #[.cell p 33, .tmp q]) (tmps : Array Value) (w : World) (g : Nat) (t : TypeId) (cs : Array Value) (v : Value) (fr : Nat × Nat)
    (hp : tmps.getD p undef = .pointer (some ⟨g, 0, none⟩)) (hq : tmps.getD q undef = v) (hg : w.heap[g]? = some (.cells cs t fr)) (hsz : cs.size = 6) :
    (results fn tmps).run Try.prog w = .ok (.tuple #[.agg cs, v]) w := by
  have hp' : tmps[p]?.getD undef = .pointer (some ⟨g, 0, none⟩) := by simpa using hp
  have hq' : tmps[q]?.getD undef = v := by simpa using hq
  have hi : (Try.prog.info? 33).map (·.size) = some cs.size := by rw [hsz]; kernel_rfl
  simp [results, h, hp', hq', asAddr, run_loadVar_row w g t 33 cs fr _ hg Try.underlying33 rfl hi]
set_option maxRecDepth 100000 in
theorem end_two {P : Program} {fn : Func} {p q : Tmp} {Q : Ending → World → Prop} (hP : P = Try.prog) (h : fn.results = #[.cell p 33, .tmp q]) (a : Act) (w : World) (g : Nat) (t : TypeId) (cs : Array Value) (v : Value) (fr : Nat × Nat) (hd : a.defers = [])
    (hp : a.tmps.getD p undef = .pointer (some ⟨g, 0, none⟩)) (hq : a.tmps.getD q undef = v) (hg : w.heap[g]? = some (.cells cs t fr)) (hsz : cs.size = 6) (hQ : Q (.returned (.tuple #[.agg cs, v])) w) : bodyPost P fn Q .ret a w := by
  subst hP
  exact bodyPost_ret (v := .tuple #[.agg cs, v]) (results_two h a.tmps w g t cs v fr hp hq hg hsz) hd hQ

/-- Six cells stored into a block that is known whole. -/
def World.six (w : World) (g : Nat) (b0 b1 b2 b3 b4 b5 : Value) : World :=
  (((((w.setCell ⟨g, 0, none⟩ b0).setCell ⟨g, 1, none⟩ b1).setCell ⟨g, 2, none⟩ b2).setCell ⟨g, 3, none⟩ b3).setCell ⟨g, 4, none⟩ b4).setCell ⟨g, 5, none⟩ b5
set_option maxRecDepth 100000 in
theorem set6 {w : World} {g t : Nat} {a0 a1 a2 a3 a4 a5 : Value} (h : w.heap[g]? = some (.cells #[a0, a1, a2, a3, a4, a5] t (0, 0))) (b0 b1 b2 b3 b4 b5 : Value) :
    (World.six w g b0 b1 b2 b3 b4 b5).heap[g]? = some (.cells #[b0, b1, b2, b3, b4, b5] t (0, 0)) := by
  have h1 := heap_setCell_same w g 0 _ t b0 h
  have h2 := heap_setCell_same _ g 1 _ t b1 h1
  have h3 := heap_setCell_same _ g 2 _ t b2 h2
  have h4 := heap_setCell_same _ g 3 _ t b3 h3
  have h5 := heap_setCell_same _ g 4 _ t b4 h4
  exact heap_setCell_same _ g 5 _ t b5 h5
set_option maxRecDepth 100000 in
theorem Calm.six {a w : World} (h : Calm a w) {g : Nat} (hg : a.heap.size ≤ g) (b0 b1 b2 b3 b4 b5 : Value) : Calm a (World.six w g b0 b1 b2 b3 b4 b5) :=
  (((((h.setCell (p := ⟨g, 0, none⟩) hg b0).setCell (p := ⟨g, 1, none⟩) hg b1).setCell (p := ⟨g, 2, none⟩) hg b2).setCell (p := ⟨g, 3, none⟩) hg b3).setCell (p := ⟨g, 4, none⟩) hg b4).setCell (p := ⟨g, 5, none⟩) hg b5
end Go.Proofs.Ytccfcloekjogkaa
