/- How a node reads: its four slices in memory, and how long they can be. -/
import Derived.Test.YtccfcloekjogkaaRead
import Derived.Test.YtccfcloekjogkaaMemN
import Derived.SizedLaws
namespace Go.Proofs.Ytccfcloekjogkaa
open Go.ChangeShapes Go.WideShapes Go.ChangeAt Go.RowKit
section
variable {H : Type} {enc : TypeId × Value → H} {w : World} {base : Nat} {spare : Nat → Bool} {held : Bool}

set_option maxRecDepth 100000 in
theorem list_of {α : Type} (R : Nat → α → Prop) : ∀ n, (∀ i, i < n → ∃ e, R i e) → ∃ l : List α, l.length = n ∧ ∀ k e, l[k]? = some e → R k e
  | 0, _ => ⟨[], rfl, by simp⟩
  | n + 1, h => by
    obtain ⟨l, hl, hk⟩ := list_of R n fun i hi => h i (by omega)
    obtain ⟨e, he⟩ := h n (by omega)
    refine ⟨l ++ [e], by simp [hl], fun k x hx => ?_⟩
    rcases Nat.lt_or_ge k n with hlt | hge
    · rw [List.getElem?_append_left (by omega)] at hx; exact hk k x hx
    · rw [List.getElem?_append_right (by omega)] at hx
      have : k = n := by
        have := (List.getElem?_eq_some_iff.1 hx).1
        simp at this; omega
      subst this
      rw [hl] at hx; simp at hx; subst hx; exact he
set_option maxRecDepth 100000 in
theorem add_add (b q i j : Nat) : ((⟨b, q, none⟩ : Addr).add i).add j = ⟨b, q + i + j, none⟩ := by
  unfold Addr.add
  split <;> split <;> simp_all

set_option maxRecDepth 100000 in
/-- A slice of rows of N cells each. -/
theorem rows_open {t e : TypeId} {fuel : Nat} {cs : List Value} {x : DataW H × List MemPlace} {α : Type} (cv : α → List Value) (wf : α → Prop) (N : Nat) (ht : Try.prog.underlying t = some (.slice e)) (hN : Try.prog.cellsOf e = N) (h0 : 0 < N)
    (hel : ∀ fuel cs x, DataW.trod enc Try.prog w base spare held fuel e cs = some x → ∃ y, cs = cv y ∧ wf y) (h : DataW.trod enc Try.prog w base spare held fuel t cs = some x) :
    ∃ (A : Option Addr) (c : Nat) (l : List α), cs = [.slice A l.length c] ∧ l.length ≤ 9223372036854775807 ∧ l.length ≤ c ∧ (∀ y ∈ l, wf y) ∧
      (0 < l.length → ∃ b q, A = some ⟨b, q, none⟩ ∧ b < w.heap.size ∧ ∀ (k : Nat) (y : α), l[k]? = some y → ∀ j, j < N → w.cell? ⟨b, q + k * N + j, none⟩ = (cv y)[j]?) ∧
      (x.1 = .nil ∧ l.length = 0 ∨ ∃ els sp : List (DataW H), x.1 = .slice els sp ∧ l.length ≤ els.length) := by
  rcases Go.Deep.open_slice ht h with ⟨hcs, hx⟩ | ⟨a, len, cap, m, n, D, Pl, hcs, _, hl, hm, hmm, hx, hi⟩
  · exact ⟨none, 0, [], hcs, by simp, by simp, by simp, fun h => absurd h (by simp), Or.inl ⟨by rw [hx], rfl⟩⟩
  · have hlm : len ≤ m := by rw [hmm]; split <;> omega
    have hsp : 0 < len → a.spot = none := fun hpos => by
      obtain ⟨cs0, hc0, ht0⟩ := hi 0 (by omega)
      rw [hN] at hc0
      obtain ⟨_, hlc, hat⟩ := World.cells?_some hc0
      have k0 := hat 0 h0
      obtain ⟨v0, hv0⟩ : ∃ v, cs0[0]? = some v := ⟨_, List.getElem?_eq_getElem (by omega)⟩
      rw [hv0, Nat.zero_mul] at k0
      exact World.cell?_spot (by simpa [Addr.add] using k0)
    have each : ∀ i, i < len → ∃ y : α, wf y ∧ a.block < w.heap.size ∧ ∀ j, j < N → w.cell? ⟨a.block, a.off + i * N + j, none⟩ = (cv y)[j]? := fun i hil => by
      obtain ⟨cs', hc, ht'⟩ := hi i (by omega)
      obtain ⟨y, rfl, hwf⟩ := hel _ _ _ ht'
      rw [hN] at hc
      obtain ⟨_, hlc, hat⟩ := World.cells?_some hc
      have hs := hsp (by omega)
      obtain ⟨b, q, sp⟩ := a
      simp only at hs
      subst hs
      simp only [add_add] at hat
      refine ⟨y, hwf, ?_, fun j hj => hat j hj⟩
      have k0 := hat 0 h0
      obtain ⟨v0, hv0⟩ : ∃ v, (cv y)[0]? = some v := ⟨_, List.getElem?_eq_getElem (by omega)⟩
      rw [hv0] at k0
      have hbl := World.block_lt_of_cell? _ _ k0
      exact hbl
    obtain ⟨l, rfl, hk⟩ := list_of (fun i y => wf y ∧ a.block < w.heap.size ∧ ∀ j, j < N → w.cell? ⟨a.block, a.off + i * N + j, none⟩ = (cv y)[j]?) len each
    refine ⟨some a, cap, l, hcs, by simp only [maxLen] at hm; omega, hl, fun y hy => ?_, fun hpos => ?_, Or.inr ⟨_, _, by rw [hx], by simp⟩⟩
    · obtain ⟨k, hkl, rfl⟩ := List.getElem_of_mem hy
      exact (hk k _ (List.getElem?_eq_getElem hkl)).1
    · have hs := hsp hpos
      obtain ⟨b, q, sp⟩ := a
      simp only at hs
      subst hs
      exact ⟨b, q, rfl, (hk 0 _ (List.getElem?_eq_getElem hpos)).2.1, fun k y hy => (hk k y hy).2.2⟩

set_option maxRecDepth 100000 in
theorem cellsNode : Try.prog.cellsOf 59 = 5 := by kernel_rfl
set_option maxRecDepth 100000 in
theorem cellsSlE : Try.prog.cellsOf 22 = 1 := by kernel_rfl
set_option maxRecDepth 100000 in
theorem cellsSlI : Try.prog.cellsOf 56 = 1 := by kernel_rfl
set_option maxRecDepth 100000 in
theorem cellsSlS : Try.prog.cellsOf 57 = 1 := by kernel_rfl
set_option maxRecDepth 100000 in
theorem bytesE : Try.prog.bytesOf 33 = 56 := by kernel_rfl
set_option maxRecDepth 100000 in
theorem bytesI : Try.prog.bytesOf 3 = 8 := by kernel_rfl
set_option maxRecDepth 100000 in
theorem bytesS : Try.prog.bytesOf 47 = 32 := by kernel_rfl
set_option maxRecDepth 100000 in
theorem trod_struct5 {P : Program} {t : TypeId} {f0 f1 f2 f3 f4 : Field} {fuel : Nat} {cs : List Value} {x : DataW H × List MemPlace} (ht : P.underlying t = some (.struct #[f0, f1, f2, f3, f4])) (h : DataW.trod enc P w base spare held fuel t cs = some x) :
    ∃ y0 y1 y2 y3 y4 n, x.1 = .agg [y0.1, y1.1, y2.1, y3.1, y4.1] ∧ cs.length = P.cellsOf t ∧ DataW.trod enc P w base spare held n f0.type ((cs.drop f0.offset).take (P.cellsOf f0.type)) = some y0 ∧
      DataW.trod enc P w base spare held n f1.type ((cs.drop f1.offset).take (P.cellsOf f1.type)) = some y1 ∧ DataW.trod enc P w base spare held n f2.type ((cs.drop f2.offset).take (P.cellsOf f2.type)) = some y2 ∧
      DataW.trod enc P w base spare held n f3.type ((cs.drop f3.offset).take (P.cellsOf f3.type)) = some y3 ∧ DataW.trod enc P w base spare held n f4.type ((cs.drop f4.offset).take (P.cellsOf f4.type)) = some y4 := by
  obtain ⟨xs, n, _, rfl, hl, hlen, hf⟩ := DataW.trod_struct ht h
  match xs, hlen with
  | [y0, y1, y2, y3, y4], _ => exact ⟨y0, y1, y2, y3, y4, n, by simp, hl, by simpa using hf 0 f0 rfl, by simpa using hf 1 f1 rfl, by simpa using hf 2 f2 rfl, by simpa using hf 3 f3 rfl, by simpa using hf 4 f4 rfl⟩

set_option maxRecDepth 100000 in
/-- What the weight of a slice says of its length. -/
theorem len_of {ts : List TypeId} {ds : List (DataW H)} (hsz : (DataW.weightsEach Try.prog ts ds).all (· ≤ reachBytes) = true) {j : Nat} {t e : TypeId} {d : DataW H} {n B : Nat} (ht : ts[j]? = some t) (hd : ds[j]? = some d) (hu : Try.prog.underlying t = some (.slice e)) (hB : Try.prog.bytesOf e = B) (h0 : 0 < B)
    (h : d = .nil ∧ n = 0 ∨ ∃ els sp : List (DataW H), d = .slice els sp ∧ n ≤ els.length) : n ≤ 140737488351232 := by
  rcases h with ⟨_, rfl⟩ | ⟨els, sp, rfl, hn⟩
  · omega
  · have h1 := sized_slice hsz ht hd hu
    rw [hB] at h1
    have h2 : (els.length + sp.length) * 1 ≤ (els.length + sp.length) * B := Nat.mul_le_mul_left _ h0
    have h3 : reachBytes = 140737488351232 := by decide
    omega

def ivC (x : Int) : List Value := [.int .i64 x]
def spC (s : Sp) : List Value := [.int .i64 s.p, .int .i64 s.o, .int .i64 s.f, .int .i64 s.m]

variable {r : Reach} {b0 : Nat} {v : Value} {d : DataW H} {ps : List MemPlace}
set_option maxRecDepth 100000 in
theorem open_node (hv : Value.okWide Try.prog w r b0 59 v) (h : DataW.Trod enc Try.prog w base spare held 59 v d ps) :
    ∃ (kd : Int) (A1 A2 A3 A4 : Option Addr) (c1 c2 c3 c4 : Nat) (E : List El) (K : List Int) (S : List Sp) (T : List Int), v = .agg #[.int .i64 kd, .slice A1 E.length c1, .slice A2 K.length c2, .slice A3 S.length c3, .slice A4 T.length c4] ∧ NdAt w A1 A2 A3 A4 E K S T ∧ E.length ≤ c1 ∧
      ∀ {ts : List TypeId} {ds : List (DataW H)} {j : Nat}, (DataW.weightsEach Try.prog ts ds).all (· ≤ reachBytes) = true → ts[j]? = some 59 → ds[j]? = some d →
        E.length ≤ 140737488351232 ∧ K.length ≤ 140737488351232 ∧ S.length ≤ 140737488351232 ∧ T.length ≤ 140737488351232 := by
  obtain ⟨cs, rfl, _⟩ := okWide_struct Try.underlying59 hv
  obtain ⟨fuel, hf⟩ := h
  obtain ⟨y0, y1, y2, y3, y4, n, hd, hl, h0, h1, h2, h3, h4⟩ := trod_struct5 Try.underlying59 hf
  obtain ⟨kd, e0, _, w0⟩ := DataW.trod_int Try.underlying3 h0
  obtain ⟨A1, c1, E, e1, le1, lc1, wf1, at1, dd1⟩ := rows_open (α := El) El.cells El.wf 6 Try.underlying22 cellsElem (by omega) (fun fuel cs x hx => by
    obtain ⟨p, o, f, m, g, s, e, _, _, _, w3, _⟩ := elem_cells hx
    exact ⟨⟨p, o, f, m, g, s⟩, e, (wf_range w3).1⟩) h1
  obtain ⟨A2, c2, K, e2, le2, lc2, _, at2, dd2⟩ := rows_open (α := Int) ivC (fun _ => True) 1 Try.underlying56 cellsInt (by omega) (fun fuel cs x hx => by
    obtain ⟨p, e, _, _⟩ := DataW.trod_int Try.underlying3 hx
    exact ⟨p, e, trivial⟩) h2
  obtain ⟨A3, c3, S, e3, le3, lc3, wf3, at3, dd3⟩ := rows_open (α := Sp) spC (fun s => -9223372036854775808 ≤ s.m) 4 Try.underlying57 cellsSpot (by omega) (fun fuel cs x hx => by
    obtain ⟨p, o, f, m, e, _, _, _, w3⟩ := spot_cells hx
    exact ⟨⟨p, o, f, m⟩, e, (wf_range w3).1⟩) h3
  obtain ⟨A4, c4, T, e4, le4, lc4, _, at4, dd4⟩ := rows_open (α := Int) ivC (fun _ => True) 1 Try.underlying56 cellsInt (by omega) (fun fuel cs x hx => by
    obtain ⟨p, e, _, _⟩ := DataW.trod_int Try.underlying3 hx
    exact ⟨p, e, trivial⟩) h4
  simp only [cellsInt, cellsSlE, cellsSlI, cellsSlS, cellsNode, Value.cells] at e0 e1 e2 e3 e4 hl
  have hcs : cs.toList = [.int .i64 kd, .slice A1 E.length c1, .slice A2 K.length c2, .slice A3 S.length c3, .slice A4 T.length c4] := by
    match hm : cs.toList, hl with
    | [a0, a1, a2, a3, a4], _ =>
      rw [hm] at e0 e1 e2 e3 e4
      simp at e0 e1 e2 e3 e4
      rw [e0, e1, e2, e3, e4]
  refine ⟨kd, A1, A2, A3, A4, c1, c2, c3, c4, E, K, S, T, by rw [show cs = _ from Array.toList_inj.1 hcs], ⟨⟨wf1, fun hp => ?_⟩, fun hp => ?_, ⟨wf3, fun hp => ?_⟩, fun hp => ?_, le1, le2, le3, le4⟩, lc1, fun {ts ds j} hsz ht hds => ?_⟩
  · obtain ⟨b, q, hA, hb, hk⟩ := at1 hp
    refine ⟨b, q, hA, hb, fun k e he => ?_⟩
    have g := hk k e he
    exact ⟨g 0 (by omega), g 1 (by omega), g 2 (by omega), g 3 (by omega), g 4 (by omega), g 5 (by omega)⟩
  · obtain ⟨b, q, hA, hb, hk⟩ := at2 hp
    refine ⟨b, q, hA, hb, fun k e he => ?_⟩
    have g := hk k e he 0 (by omega)
    rw [Nat.mul_one, Nat.add_zero] at g
    exact g
  · obtain ⟨b, q, hA, hb, hk⟩ := at3 hp
    refine ⟨b, q, hA, hb, fun k e he => ?_⟩
    have g := hk k e he
    exact ⟨g 0 (by omega), g 1 (by omega), g 2 (by omega), g 3 (by omega)⟩
  · obtain ⟨b, q, hA, hb, hk⟩ := at4 hp
    refine ⟨b, q, hA, hb, fun k e he => ?_⟩
    have g := hk k e he 0 (by omega)
    rw [Nat.mul_one, Nat.add_zero] at g
    exact g
  · simp only at hd
    rw [hd] at hds
    have hin : (DataW.weightsEach Try.prog [3, 22, 56, 57, 56] [y0.1, y1.1, y2.1, y3.1, y4.1]).all (· ≤ reachBytes) = true := by
      refine List.all_eq_true.2 fun n hn => List.all_eq_true.1 hsz n (DataW.weights_mem_each ht hds n ?_)
      simp only [DataW.weights, Try.underlying59]
      exact hn
    exact ⟨len_of hin (j := 1) rfl rfl Try.underlying22 bytesE (by omega) dd1, len_of hin (j := 2) rfl rfl Try.underlying56 bytesI (by omega) dd2, len_of hin (j := 3) rfl rfl Try.underlying57 bytesS (by omega) dd3, len_of hin (j := 4) rfl rfl Try.underlying56 bytesI (by omega) dd4⟩
end
end Go.Proofs.Ytccfcloekjogkaa
