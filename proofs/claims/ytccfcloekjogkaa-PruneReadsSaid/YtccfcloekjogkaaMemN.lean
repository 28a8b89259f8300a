/- Nodes in memory: slices that read as numbers and as spots. -/
import Derived.Test.YtccfcloekjogkaaMem
import Derived.Test.YtccfcloekjogkaaPureN
namespace Go.Proofs.Ytccfcloekjogkaa
open Go.RowKit

/-- The numbers l stand from the address A on. -/
def LiesI (w : World) (A : Option Addr) (l : List Int) : Prop :=
  0 < l.length → ∃ b q, A = some ⟨b, q, none⟩ ∧ b < w.heap.size ∧ ∀ (k : Nat) (x : Int), l[k]? = some x → w.cell? ⟨b, q + k, none⟩ = some (.int .i64 x)
def SpAt (w : World) (b q : Nat) (s : Sp) : Prop :=
  w.cell? ⟨b, q, none⟩ = some (.int .i64 s.p) ∧ w.cell? ⟨b, q + 1, none⟩ = some (.int .i64 s.o) ∧ w.cell? ⟨b, q + 2, none⟩ = some (.int .i64 s.f) ∧ w.cell? ⟨b, q + 3, none⟩ = some (.int .i64 s.m)
/-- The spots l stand from the address A on. -/
def LiesS (w : World) (A : Option Addr) (l : List Sp) : Prop :=
  (∀ s ∈ l, -9223372036854775808 ≤ s.m) ∧ (0 < l.length → ∃ b q, A = some ⟨b, q, none⟩ ∧ b < w.heap.size ∧ ∀ (k : Nat) (s : Sp), l[k]? = some s → SpAt w b (q + k * 4) s)
set_option maxRecDepth 100000 in
theorem LiesI.calm {w w' : World} {A : Option Addr} {l : List Int} (h : LiesI w A l) (hb : Calm w w') : LiesI w' A l := fun hl => by
  obtain ⟨b, q, hA, hlt, hk⟩ := h hl
  exact ⟨b, q, hA, Nat.lt_of_lt_of_le hlt hb.size, fun k x hx => (hb.facts.1 b _ hlt).trans (hk k x hx)⟩
set_option maxRecDepth 100000 in
theorem LiesS.calm {w w' : World} {A : Option Addr} {l : List Sp} (h : LiesS w A l) (hb : Calm w w') : LiesS w' A l := ⟨h.1, fun hl => by
  obtain ⟨b, q, hA, hlt, hk⟩ := h.2 hl
  have hc := hb.facts.1
  refine ⟨b, q, hA, Nat.lt_of_lt_of_le hlt hb.size, fun k s hs => ?_⟩
  obtain ⟨h0, h1, h2, h3⟩ := hk k s hs
  exact ⟨(hc b _ hlt).trans h0, (hc b _ hlt).trans h1, (hc b _ hlt).trans h2, (hc b _ hlt).trans h3⟩⟩
set_option maxRecDepth 100000 in
theorem LiesI.get {w : World} {A : Option Addr} {l : List Int} (h : LiesI w A l) {k : Nat} (hk : k < l.length) : ∃ (b q : Nat) (x : Int), A = some ⟨b, q, none⟩ ∧ b < w.heap.size ∧ Hid (l[k]? = some x) ∧ w.cell? ⟨b, q + k, none⟩ = some (.int .i64 x) := by
  obtain ⟨b, q, hA, hlt, h2⟩ := h (by omega)
  exact ⟨b, q, l[k], hA, hlt, List.getElem?_eq_getElem hk, h2 _ _ (List.getElem?_eq_getElem hk)⟩
set_option maxRecDepth 100000 in
theorem LiesS.get {w : World} {A : Option Addr} {l : List Sp} (h : LiesS w A l) {k : Nat} (hk : k < l.length) : ∃ (b q : Nat) (p o f m : Int), A = some ⟨b, q, none⟩ ∧ b < w.heap.size ∧ Hid (l[k]? = some ⟨p, o, f, m⟩) ∧ -9223372036854775808 ≤ m ∧
    w.cell? ⟨b, q + k * 4, none⟩ = some (.int .i64 p) ∧ w.cell? ⟨b, q + k * 4 + 1, none⟩ = some (.int .i64 o) ∧ w.cell? ⟨b, q + k * 4 + 2, none⟩ = some (.int .i64 f) ∧ w.cell? ⟨b, q + k * 4 + 3, none⟩ = some (.int .i64 m) := by
  obtain ⟨b, q, hA, hlt, h2⟩ := h.2 (by omega)
  obtain ⟨h0, h1, h3, h4⟩ := h2 _ _ (List.getElem?_eq_getElem hk)
  exact ⟨b, q, l[k].p, l[k].o, l[k].f, l[k].m, hA, hlt, List.getElem?_eq_getElem hk, h.1 _ (List.getElem_mem _), h0, h1, h3, h4⟩
set_option maxRecDepth 100000 in
theorem LiesS.get2 {w : World} {b q : Nat} {l : List Sp} (h : LiesS w (some ⟨b, q, none⟩) l) {k : Nat} (hk : k < l.length) : ∃ (p o f m : Int), Hid (l[k]? = some ⟨p, o, f, m⟩) ∧ -9223372036854775808 ≤ m ∧
    w.cell? ⟨b, q + k * 4, none⟩ = some (.int .i64 p) ∧ w.cell? ⟨b, q + k * 4 + 1, none⟩ = some (.int .i64 o) ∧ w.cell? ⟨b, q + k * 4 + 2, none⟩ = some (.int .i64 f) ∧ w.cell? ⟨b, q + k * 4 + 3, none⟩ = some (.int .i64 m) := by
  obtain ⟨b', q', p, o, f, m, hA, hlt, he, hw, h0, h1, h2, h3⟩ := h.get hk
  injection hA with hA
  injection hA with h6 h7
  subst h6; subst h7
  exact ⟨p, o, f, m, he, hw, h0, h1, h2, h3⟩
set_option maxRecDepth 100000 in
theorem row5 {w : World} {g t : Nat} {a b c d e : Value} {fr : Nat × Nat} (h : w.heap[g]? = some (.cells #[a, b, c, d, e] t fr)) : w.cell? ⟨g, 0, none⟩ = some a ∧ w.cell? ⟨g, 1, none⟩ = some b ∧ w.cell? ⟨g, 2, none⟩ = some c ∧ w.cell? ⟨g, 3, none⟩ = some d ∧ w.cell? ⟨g, 4, none⟩ = some e ∧ g < w.heap.size :=
  ⟨cell_of_row _ _ 0 _ _ _ h, cell_of_row _ _ 1 _ _ _ h, cell_of_row _ _ 2 _ _ _ h, cell_of_row _ _ 3 _ _ _ h, cell_of_row _ _ 4 _ _ _ h, (Array.getElem?_eq_some_iff.1 h).1⟩

/-- What stands behind a node's four slices. -/
structure NdAt (w : World) (A1 A2 A3 A4 : Option Addr) (E : List El) (K : List Int) (S : List Sp) (T : List Int) : Prop where
  e : Lies w A1 E
  k : LiesI w A2 K
  s : LiesS w A3 S
  t : LiesI w A4 T
  ne : E.length ≤ 9223372036854775807
  nk : K.length ≤ 9223372036854775807
  ns : S.length ≤ 9223372036854775807
  nt : T.length ≤ 9223372036854775807
set_option maxRecDepth 100000 in
theorem NdAt.calm {w w' : World} {A1 A2 A3 A4 : Option Addr} {E : List El} {K : List Int} {S : List Sp} {T : List Int} (h : NdAt w A1 A2 A3 A4 E K S T) (hb : Calm w w') : NdAt w' A1 A2 A3 A4 E K S T :=
  ⟨h.e.calm hb, h.k.calm hb, h.s.calm hb, h.t.calm hb, h.ne, h.nk, h.ns, h.nt⟩
end Go.Proofs.Ytccfcloekjogkaa
