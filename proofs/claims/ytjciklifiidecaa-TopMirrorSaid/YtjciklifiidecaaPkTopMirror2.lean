/- Texts of one kind in one file. -/
import Derived.Deep.RegionWith
import Derived.Deep.LoopGhost
import Derived.Outline
import Derived.IntWalk
import Derived.Lib.Hide
import Derived.Laws.MakeOwn
import Derived.Lib.SliceRun
import Derived.Maps.AppendAt
import Derived.Test.YtjciklifiidecaaPkTopMirror1
set_option maxRecDepth 100000
namespace Go.Proofs.Ytjciklifiidecaa
open Go.ChangeShapes Go.WideShapes Go.ChangeAt Go.RowKit
section
variable {H : Type} {enc : TypeId × Value → H} {w : World} {base : Nat} {spare : Nat → Bool} {held : Bool}
/-- A slice of rows of N cells each, with what its elements read as. -/
theorem rows_read {t e : TypeId} {fuel : Nat} {cs : List Value} {x : DataW H × List MemPlace} {α : Type} (cv : α → List Value) (wf : α → DataW H → Prop) (N : Nat) (ht : Try.prog.underlying t = some (.slice e)) (hN : Try.prog.cellsOf e = N) (h0 : 0 < N)
    (hel : ∀ fuel cs x, DataW.trod enc Try.prog w base spare held fuel e cs = some x → ∃ y, cs = cv y ∧ wf y x.1) (h : DataW.trod enc Try.prog w base spare held fuel t cs = some x) :
    ∃ (A : Option Addr) (c : Nat) (l : List α), cs = [.slice A l.length c] ∧ l.length ≤ 9223372036854775807 ∧ l.length ≤ c ∧
      (0 < l.length → ∃ b q, A = some ⟨b, q, none⟩ ∧ b < w.heap.size ∧ ∀ (k : Nat) (y : α), l[k]? = some y → ∀ j, j < N → w.cell? ⟨b, q + k * N + j, none⟩ = (cv y)[j]?) ∧
      (x.1 = .nil ∧ l.length = 0 ∨ ∃ els sp : List (DataW H), x.1 = .slice els sp ∧ l.length ≤ els.length ∧ ∀ (k : Nat) (y : α), l[k]? = some y → ∃ d, els[k]? = some d ∧ wf y d) := by
  rcases Go.Deep.open_slice ht h with ⟨hcs, hx⟩ | ⟨a, len, cap, m, n, D, Pl, hcs, _, hl, hm, hmm, hx, hi⟩
  · exact ⟨none, 0, [], hcs, by simp, by simp, fun h => absurd h (by simp), Or.inl ⟨by rw [hx], rfl⟩⟩
  · have hlm : len ≤ m := by rw [hmm]; split <;> omega
    have hsp : 0 < len → a.spot = none := fun hpos => by
      obtain ⟨cs0, hc0, ht0⟩ := hi 0 (by omega)
      rw [hN] at hc0
      obtain ⟨_, hlc, hat⟩ := World.cells?_some hc0
      have k0 := hat 0 h0
      obtain ⟨v0, hv0⟩ : ∃ v, cs0[0]? = some v := ⟨_, List.getElem?_eq_getElem (by omega)⟩
      rw [hv0, Nat.zero_mul] at k0
      exact World.cell?_spot (by simpa [Addr.add] using k0)
    have each : ∀ i, i < len → ∃ y : α, wf y (D i) ∧ a.block < w.heap.size ∧ ∀ j, j < N → w.cell? ⟨a.block, a.off + i * N + j, none⟩ = (cv y)[j]? := fun i hil => by
      obtain ⟨cs', hc, ht'⟩ := hi i (by omega)
      obtain ⟨y, rfl, hwf⟩ := hel _ _ _ ht'
      rw [hN] at hc
      obtain ⟨_, hlc, hat⟩ := World.cells?_some hc
      have hs := hsp (by omega)
      obtain ⟨b, q, sp⟩ := a
      simp only at hs
      subst hs
      simp only [add_add] at hat
      refine ⟨y, hwf, ?_, fun j hj => hat j hj⟩
      have k0 := hat 0 h0
      obtain ⟨v0, hv0⟩ : ∃ v, (cv y)[0]? = some v := ⟨_, List.getElem?_eq_getElem (by omega)⟩
      rw [hv0] at k0
      have hbl := World.block_lt_of_cell? _ _ k0
      exact hbl
    obtain ⟨l, rfl, hk⟩ := list_of (fun i y => wf y (D i) ∧ a.block < w.heap.size ∧ ∀ j, j < N → w.cell? ⟨a.block, a.off + i * N + j, none⟩ = (cv y)[j]?) len each
    refine ⟨some a, cap, l, hcs, by simp only [maxLen] at hm; omega, hl, fun hpos => ?_, Or.inr ⟨_, _, by rw [hx], by simp, fun k y hy => ?_⟩⟩
    · have hs := hsp hpos
      obtain ⟨b, q, sp⟩ := a
      simp only at hs
      subst hs
      exact ⟨b, q, rfl, (hk 0 _ (List.getElem?_eq_getElem hpos)).2.1, fun k y hy => (hk k y hy).2.2⟩
    · have hlt := (List.getElem?_eq_some_iff.1 hy).1
      exact ⟨D k, by simp [hlt], (hk k y hy).1⟩
def NdCaps (n : Nd) : Prop := n.E.length ≤ n.c1 ∧ n.K.length ≤ n.c2 ∧ n.S.length ≤ n.c3 ∧ n.T.length ≤ n.c4
def NdSized (n : Nd) : Prop := n.E.length ≤ 140737488351232 ∧ n.K.length ≤ 140737488351232 ∧ n.S.length ≤ 140737488351232 ∧ n.T.length ≤ 140737488351232
theorem node_cells {fuel : Nat} {cs : List Value} {x : DataW H × List MemPlace} (hf : DataW.trod enc Try.prog w base spare held fuel 36 cs = some x) :
    ∃ n : Nd, cs = n.cells ∧ n.at_ w ∧ NdCaps n ∧ ((x.1.weights Try.prog 36).all (· ≤ reachBytes) = true → NdSized n) := by
  obtain ⟨y0, y1, y2, y3, y4, n, hd, hl, h0, h1, h2, h3, h4⟩ := trod_struct5 Try.underlying36 hf
  obtain ⟨kd, e0, _, w0⟩ := DataW.trod_int Try.underlying3 h0
  obtain ⟨A1, c1, E, e1, le1, lc1, wf1, at1, dd1⟩ := rows_open (α := El) El.cells El.wf 6 Try.underlying26 cellsElem (by omega) (fun fuel cs x hx => by
    obtain ⟨p, o, f, m, g, s, e, _, _, _, w3, _⟩ := elem_cells hx
    exact ⟨⟨p, o, f, m, g, s⟩, e, (wf_range w3).1⟩) h1
  obtain ⟨A2, c2, K, e2, le2, lc2, _, at2, dd2⟩ := rows_open (α := Int) ivC (fun _ => True) 1 Try.underlying33 cellsInt (by omega) (fun fuel cs x hx => by
    obtain ⟨p, e, _, _⟩ := DataW.trod_int Try.underlying3 hx
    exact ⟨p, e, trivial⟩) h2
  obtain ⟨A3, c3, S, e3, le3, lc3, wf3, at3, dd3⟩ := rows_open (α := Sp) spC (fun s => -9223372036854775808 ≤ s.m) 4 Try.underlying34 cellsSpot (by omega) (fun fuel cs x hx => by
    obtain ⟨p, o, f, m, e, _, _, _, w3⟩ := spot_cells hx
    exact ⟨⟨p, o, f, m⟩, e, (wf_range w3).1⟩) h3
  obtain ⟨A4, c4, T, e4, le4, lc4, _, at4, dd4⟩ := rows_open (α := Int) ivC (fun _ => True) 1 Try.underlying33 cellsInt (by omega) (fun fuel cs x hx => by
    obtain ⟨p, e, _, _⟩ := DataW.trod_int Try.underlying3 hx
    exact ⟨p, e, trivial⟩) h4
  simp only [cellsInt, cellsSlE, cellsSlI, cellsSlS, cellsNode] at e0 e1 e2 e3 e4 hl
  have hcs : cs = [.int .i64 kd, .slice A1 E.length c1, .slice A2 K.length c2, .slice A3 S.length c3, .slice A4 T.length c4] := by
    match cs, hl with
    | [a0, a1, a2, a3, a4], _ =>
      simp at e0 e1 e2 e3 e4
      rw [e0, e1, e2, e3, e4]
  refine ⟨⟨kd, A1, A2, A3, A4, c1, c2, c3, c4, E, K, S, T⟩, hcs, ⟨⟨wf1, fun hp => ?_⟩, fun hp => ?_, ⟨wf3, fun hp => ?_⟩, fun hp => ?_, le1, le2, le3, le4⟩, ⟨lc1, lc2, lc3, lc4⟩, fun hsz => ?_⟩
  · obtain ⟨b, q, hA, hb, hk⟩ := at1 hp
    refine ⟨b, q, hA, hb, fun k e he => ?_⟩
    have g := hk k e he
    exact ⟨g 0 (by omega), g 1 (by omega), g 2 (by omega), g 3 (by omega), g 4 (by omega), g 5 (by omega)⟩
  · obtain ⟨b, q, hA, hb, hk⟩ := at2 hp
    refine ⟨b, q, hA, hb, fun k e he => ?_⟩
    have g := hk k e he 0 (by omega)
    rw [Nat.mul_one, Nat.add_zero] at g
    exact g
  · obtain ⟨b, q, hA, hb, hk⟩ := at3 hp
    refine ⟨b, q, hA, hb, fun k e he => ?_⟩
    have g := hk k e he
    exact ⟨g 0 (by omega), g 1 (by omega), g 2 (by omega), g 3 (by omega)⟩
  · obtain ⟨b, q, hA, hb, hk⟩ := at4 hp
    refine ⟨b, q, hA, hb, fun k e he => ?_⟩
    have g := hk k e he 0 (by omega)
    rw [Nat.mul_one, Nat.add_zero] at g
    exact g
  · have hin : (DataW.weightsEach Try.prog [3, 26, 33, 34, 33] [y0.1, y1.1, y2.1, y3.1, y4.1]).all (· ≤ reachBytes) = true := by
      rw [hd] at hsz
      simp only [DataW.weights, Try.underlying36] at hsz
      exact hsz
    exact ⟨len_of hin (j := 1) rfl rfl Try.underlying26 bytesE (by omega) dd1, len_of hin (j := 2) rfl rfl Try.underlying33 bytesI (by omega) dd2, len_of hin (j := 3) rfl rfl Try.underlying34 bytesS (by omega) dd3, len_of hin (j := 4) rfl rfl Try.underlying33 bytesI (by omega) dd4⟩
theorem cellsTree : Try.prog.cellsOf 24 = 2 := by kernel_rfl
theorem cellsSlN : Try.prog.cellsOf 22 = 1 := by kernel_rfl
theorem bytesN : Try.prog.bytesOf 36 = 104 := by kernel_rfl
theorem weights_all {e : TypeId} : ∀ {els : List (DataW H)} {k : Nat} {d : DataW H}, els[k]? = some d → ∀ n ∈ d.weights Try.prog e, n ∈ DataW.weightsAll Try.prog e els
 | [], k, d, h => by simp at h
 |x :: els, 0, d, h => by
  simp at h; subst h
  intro n hn
  rw [DataW.weightsAll]
  exact List.mem_append.2 (.inl hn)
 |x :: els, k + 1, d, h => by
  intro n hn
  rw [DataW.weightsAll]
  exact List.mem_append.2 (.inr (weights_all (k := k) (by simpa using h) n hn))
variable {r : Reach} {b0 : Nat} {v : Value} {d : DataW H} {ps : List MemPlace}
theorem open_tree (hv : Value.okWide Try.prog w r b0 24 v) (h : DataW.Trod enc Try.prog w base spare held 24 v d ps) :
    ∃ (root : Int) (A : Option Addr) (c : Nat) (l : List Nd), v = .agg #[.int .i64 root, .slice A l.length c] ∧ TrAt w A l ∧ l.length ≤ c ∧ (∀ n ∈ l, NdCaps n) ∧
      ∀ {ts : List TypeId} {ds : List (DataW H)} {j : Nat}, (DataW.weightsEach Try.prog ts ds).all (· ≤ reachBytes) = true → ts[j]? = some 24 → ds[j]? = some d →
        l.length ≤ 140737488351232 ∧ ∀ n ∈ l, NdSized n := by
  obtain ⟨cs, rfl, _⟩ := okWide_struct Try.underlying24 hv
  obtain ⟨fuel, hf⟩ := h
  obtain ⟨y0, y1, n, hd, hl, h0, h1⟩ := trod_struct2 Try.underlying24 hf
  obtain ⟨root, e0, _, w0⟩ := DataW.trod_int Try.underlying3 h0
  obtain ⟨A, c, l, e1, le1, lc1, at1, dd1⟩ := rows_read (α := Nd) Nd.cells (fun n x => n.at_ w ∧ NdCaps n ∧ ((x.weights Try.prog 36).all (· ≤ reachBytes) = true → NdSized n)) 5 Try.underlying22 cellsNode (by omega) (fun fuel cs x hx => node_cells hx) h1
  simp only [cellsInt, cellsSlN, cellsTree, Value.cells] at e0 e1 hl
  have hcs : cs.toList = [.int .i64 root, .slice A l.length c] := by
    match hm : cs.toList, hl with
    | [a0, a1], _ =>
      rw [hm] at e0 e1
      simp at e0 e1
      rw [e0, e1]
  have hall : ∀ n ∈ l, n.at_ w ∧ NdCaps n := fun n hn => by
    rcases dd1 with ⟨_, hz⟩ | ⟨els, sp, _, _, hk⟩
    · rw [List.eq_nil_of_length_eq_zero hz] at hn
      exact absurd hn List.not_mem_nil
    · obtain ⟨k, hkl, rfl⟩ := List.getElem_of_mem hn
      obtain ⟨_, _, g⟩ := hk k _ (List.getElem?_eq_getElem hkl)
      exact ⟨g.1, g.2.1⟩
  refine ⟨root, A, c, l, by rw [show cs = _ from Array.toList_inj.1 hcs], ⟨fun n hn => (hall n hn).1, fun hp => ?_, le1⟩, lc1, fun n hn => (hall n hn).2, fun {ts ds j} hsz ht hds => ?_⟩
  · obtain ⟨b, q, hA, hb, hk⟩ := at1 hp
    exact ⟨b, q, hA, hb, hk⟩
  · have hd' : d = .agg [y0.1, y1.1] := congrArg Prod.fst hd
    rw [hd'] at hds
    have hin : (DataW.weightsEach Try.prog [3, 22] [y0.1, y1.1]).all (· ≤ reachBytes) = true := by
      refine List.all_eq_true.2 fun n hn => List.all_eq_true.1 hsz n (DataW.weights_mem_each ht hds n ?_)
      simp only [DataW.weights, Try.underlying24]
      exact hn
    refine ⟨len_of hin (j := 1) rfl rfl Try.underlying22 bytesN (by omega) (dd1.imp id fun ⟨els, sp, g1, g2, _⟩ => ⟨els, sp, g1, g2⟩), fun n hn => ?_⟩
    rcases dd1 with ⟨_, hz⟩ | ⟨els, sp, hx, _, hk⟩
    · rw [List.eq_nil_of_length_eq_zero hz] at hn
      exact absurd hn List.not_mem_nil
    · obtain ⟨k, hkl, rfl⟩ := List.getElem_of_mem hn
      obtain ⟨dk, g1, g⟩ := hk k _ (List.getElem?_eq_getElem hkl)
      refine g.2.2 (List.all_eq_true.2 fun n hn => List.all_eq_true.1 hin n ?_)
      refine DataW.weights_mem_each (j := 1) rfl rfl n ?_
      rw [hx]
      simp only [DataW.weights, Try.underlying22]
      exact List.mem_cons_of_mem _ (List.mem_append.2 (.inl (weights_all g1 n hn)))
end
open Go.RowKit
theorem num_take (s : ByteArray) (k : Nat) (h : k < s.size) : num (s.data.toList.take (k + 1)) = 256 * num (s.data.toList.take k) + s[k].toNat := by
 rw [List.take_succ_eq_append_getElem (by simpa using h), num_snoc]; rfl
theorem num_take_lt (s : ByteArray) (k : Nat) (h : k < s.size) (h4 : s.size ≤ 4) : num (s.data.toList.take k) < 16777216 := by
 have h1 := num_lt _ (s.data.toList.take k) rfl
 have h2 : (s.data.toList.take k).length ≤ 3 := by rw [List.length_take]; omega
 have h3 : 256 ^ (s.data.toList.take k).length ≤ 256 ^ 3 := Nat.pow_le_pow_right (by omega) h2
 omega
theorem or_byte (n : Nat) (c : UInt8) (h : n < 16777216) : bits .or .i64 ((n : Int) * 256) (wrap64 (c.toNat : Int)) = ((256 * n + c.toNat : Nat) : Int) := by
 have hc := c.toNat_lt
 rw [IntWalk.wrap64_in _ (by omega)]
 have h1 := i64_or (n * 256) c.toNat (by omega) (by omega)
 rw [Go.nat_join 8 (n * 256) c.toNat (by omega) (by omega)] at h1
 rw [show 256 * n + c.toNat = n * 256 + c.toNat from by omega, ← h1]
 congr 1
set_option maxHeartbeats 2000000 in
theorem number_any (s : ByteArray) (w : World) (hs : s.size ≤ 4) : Calls Try.prog 117 #[.string s] w fun e w' => e = .returned (.int .i64 (num s.data.toList : Int)) ∧ w = w' := by
 go_enter Try.func117, Try.ntmps117
 go_wp2
 go_loop [3, 7] (fun r i => ∃ k : Nat, k ≤ s.size ∧ i = .int .i64 k ∧ r = .int .i64 (num (s.data.toList.take k) : Int)) (fun _ i => s.size - (intOf i).toNat)
 case atStart => exact ⟨0, Nat.zero_le _, rfl, rfl⟩
 case round =>
  obtain ⟨k, hk, rfl, rfl⟩ := hrel
  by_cases hlt : k < s.size
  ·have hn := num_take_lt s k hlt hs
   have HT := Lib.hid (num_take s k hlt)
   generalize num (s.data.toList.take k) = n at hn HT ⊢
   have HO := Lib.hid (or_byte n s[k] hn)
   have hn' : (n : Int) < 16777216 := by omega
   clear hn
   go_wp2
   go_round
   case rel => exact ⟨k + 1, by omega, by go_num, by rw [HT.out, HO.out]⟩
   case measure => simp [intOf]; omega
  ·go_wp2
   go_ret
   exact ⟨ret_int (by rw [List.take_of_length_le (by simp; omega)]), rfl⟩
open Go.RowKit
def nilEl : El := ⟨0, 0, 0, 0, 0, { data := #[] }⟩
def El.aggOf (e : El) : Value := .agg #[.int .i64 e.p, .int .i64 e.o, .int .i64 e.f, .int .i64 e.m, .int .i64 e.g, .string e.s]
def gotEl (l : List UInt8) : El := if decErr l = 0 then decEl l else nilEl
def gotLen (l : List UInt8) : Int := if decErr l = 0 then (decLen l : Int) else 0
def GetEnd (l : List UInt8) (w : World) (e : Ending) (w' : World) : Prop := e = .returned (.tuple #[(gotEl l).aggOf, .int .i64 (gotLen l), .int .i64 (decErr l)]) ∧ Calm w w'
/-- Three results: a record that lies in memory, and two temporaries. -/
theorem results_three {fn : Func} {p q r : Tmp} (h : fn.results = #[.cell p 43, .tmp q, .tmp r]) (tmps : Array Value) (w : World) (g : Nat) (t : TypeId) (cs : Array Value) (v u : Value) (fr : Nat × Nat)
    (hp : tmps.getD p undef = .pointer (some ⟨g, 0, none⟩)) (hq : tmps.getD q undef = v) (hr : tmps.getD r undef = u) (hg : w.heap[g]? = some (.cells cs t fr)) (hsz : cs.size = 6) :
    (results fn tmps).run Try.prog w = .ok (.tuple #[.agg cs, v, u]) w := by
  have hp' : tmps[p]?.getD undef = .pointer (some ⟨g, 0, none⟩) := by simpa using hp
  have hq' : tmps[q]?.getD undef = v := by simpa using hq
  have hr' : tmps[r]?.getD undef = u := by simpa using hr
  have hi : (Try.prog.info? 43).map (·.size) = some cs.size := by rw [hsz]; kernel_rfl
  simp [results, h, hp', hq', hr', asAddr, run_loadVar_row w g t 43 cs fr _ hg Try.underlying43 rfl hi]
theorem end_three {P : Program} {fn : Func} {p q r : Tmp} {Q : Ending → World → Prop} (hP : P = Try.prog) (h : fn.results = #[.cell p 43, .tmp q, .tmp r]) (a : Act) (w : World) (g : Nat) (t : TypeId) (cs : Array Value) (v u : Value) (fr : Nat × Nat) (hd : a.defers = [])
    (hp : a.tmps.getD p undef = .pointer (some ⟨g, 0, none⟩)) (hq : a.tmps.getD q undef = v) (hr : a.tmps.getD r undef = u) (hg : w.heap[g]? = some (.cells cs t fr)) (hsz : cs.size = 6) (hQ : Q (.returned (.tuple #[.agg cs, v, u])) w) : bodyPost P fn Q .ret a w := by
  subst hP
  exact bodyPost_ret (v := .tuple #[.agg cs, v, u]) (results_three h a.tmps w g t cs v u fr hp hq hr hg hsz) hd hQ
theorem part_extract (s : ByteArray) (i j : Nat) : (s.extract i j).data.toList = part s.data.toList i (j - i) := by
 simp [ByteArray.data_extract, part, List.extract_eq_take_drop]
theorem part_bytes (s : ByteArray) (i j : Nat) : s.extract i j = ⟨(part s.data.toList i (j - i)).toArray⟩ := by
 apply ByteArray.ext
 apply Array.toList_inj.1
 rw [part_extract]
theorem lenB_at (s : ByteArray) (h : 17 < s.size) : lenB s.data.toList = s[17].toNat := by
 unfold lenB part
 have hl : s.data.toList.length = s.size := by simp
 rw [List.drop_eq_getElem_cons (by omega)]
 simp [num]; rfl
theorem head_at (s : ByteArray) (h : 0 < s.size) : num (part s.data.toList 0 1) = s[0].toNat := by
 unfold part
 have hl : s.data.toList.length = s.size := by simp
 rw [List.drop_eq_getElem_cons (by omega)]
 simp [num]; rfl
theorem calls_calm {f : FuncId} {args : Array Value} {u : World} {v : Value} (h : Calls Try.prog f args u fun e w' => e = .returned v ∧ u = w') : Calls Try.prog f args u fun e w' => e = .returned v ∧ Calm u w' :=
 h.mono fun _ _ ⟨a, b⟩ => ⟨a, b ▸ Calm.refl _⟩
/-- What the five parts and the value of a record's bytes are called in a walk. -/
theorem dec_parts (s : ByteArray) (h18 : 18 ≤ s.size) : ∃ (p o f m g : Nat) (v : ByteArray), s[0].toNat = p ∧ s.extract 18 (18 + s[17].toNat) = v ∧
    (s.extract 1 5).size ≤ 4 ∧ (s.extract 5 9).size ≤ 4 ∧ (s.extract 9 13).size ≤ 4 ∧ (s.extract 13 17).size ≤ 4 ∧
    num (s.extract 1 5).data.toList = o ∧ num (s.extract 5 9).data.toList = f ∧ num (s.extract 9 13).data.toList = m ∧ num (s.extract 13 17).data.toList = g ∧ decEl s.data.toList = ⟨p, o, f, m, g, v⟩ := by
  have hB := lenB_at s (by omega)
  have hd : decEl s.data.toList = ⟨s[0].toNat, num (s.extract 1 5).data.toList, num (s.extract 5 9).data.toList, num (s.extract 9 13).data.toList, num (s.extract 13 17).data.toList, s.extract 18 (18 + s[17].toNat)⟩ := by
    unfold decEl
    rw [hB, head_at s (by omega), part_extract, part_extract, part_extract, part_extract, part_bytes]
    simp
  refine ⟨_, _, _, _, _, _, rfl, rfl, ?_, ?_, ?_, ?_, rfl, rfl, rfl, rfl, hd⟩ <;> (rw [ByteArray.size_extract]; omega)
set_option maxHeartbeats 4000000 in
theorem codeGet_any (s : ByteArray) (w : World) : Calls Try.prog 119 #[.string s] w (GetEnd s.data.toList w) := by
 have hl := bytes_len s
 by_cases h18 : s.size < 18
 ·have e1 : decErr s.data.toList = 7 := by unfold decErr; rw [if_pos (by left; omega)]
  have e2 : GetEnd s.data.toList w = fun e w' => e = .returned (.tuple #[nilEl.aggOf, .int .i64 0, .int .i64 7]) ∧ Calm w w' := by
   funext e w'; simp [GetEnd, gotEl, gotLen, e1]
  rw [e2]
  have h18' : (s.size : Int) < 18 := by omega
  clear e1 e2 hl h18
  go_enter Try.func119, Try.ntmps119
  go_wp2
  exact end_three rfl rfl _ _ w.heap.size _ _ _ _ (0, 0) rfl rfl rfl rfl (heap_new _ _) rfl ⟨rfl, (Calm.refl _).alloc _⟩
 have h17 : 17 < s.size := by omega
 have h18' : (18 : Int) ≤ s.size := by omega
 have hB := lenB_at s h17
 by_cases hn : s.size < 18 + s[17].toNat
 ·have e1 : decErr s.data.toList = 7 := by unfold decErr; rw [if_pos (by right; omega)]
  have e2 : GetEnd s.data.toList w = fun e w' => e = .returned (.tuple #[nilEl.aggOf, .int .i64 0, .int .i64 7]) ∧ Calm w w' := by
   funext e w'; simp [GetEnd, gotEl, gotLen, e1]
  rw [e2]
  have hc := s[17].toNat_lt
  have hn' : (s.size : Int) < (18 : Int) + (s[17].toNat : Int) := by omega
  clear e1 e2 hl h18 hB hn
  go_enter Try.func119, Try.ntmps119
  go_wp2
  exact end_three rfl rfl _ _ w.heap.size _ _ _ _ (0, 0) rfl rfl rfl rfl (heap_new _ _) rfl ⟨rfl, (Calm.refl _).alloc _⟩
 have hlen : 18 + s[17].toNat ≤ s.size := by omega
 have hn' : (18 : Int) + (s[17].toNat : Int) ≤ (s.size : Int) := by omega
 have hc17 := s[17].toNat_lt
 obtain ⟨N, hN⟩ : ∃ N, N = 18 + s[17].toNat := ⟨_, rfl⟩
 have eL : decLen s.data.toList = N := by unfold decLen; rw [hB, hN]
 have eN : (18 : Int) + (s[17].toNat : Int) = (N : Int) := by omega
 have hN1 : (18 : Int) ≤ (N : Int) := by omega
 have hN2 : (N : Int) ≤ (s.size : Int) := by omega
 have hne : ¬ (s.data.toList.length < 18 ∨ s.data.toList.length < 18 + lenB s.data.toList) := by omega
 obtain ⟨p, o, f, m, g, v, hp, hv, q1, q2, q3, q4, n1, n2, n3, n4, hD⟩ := dec_parts s (by omega)
 have c1 := fun u => calls_calm (n1 ▸ number_any (s.extract 1 5) u q1)
 have c2 := fun u => calls_calm (n2 ▸ number_any (s.extract 5 9) u q2)
 have c3 := fun u => calls_calm (n3 ▸ number_any (s.extract 9 13) u q3)
 have c4 := fun u => calls_calm (n4 ▸ number_any (s.extract 13 17) u q4)
 have hp255 : p < 256 := by rw [← hp]; exact s[0].toNat_lt
 have eE : decErr s.data.toList = if elemErr p o f m g v.size = 0 then 0 else 3 := by
  unfold decErr; rw [if_neg hne, hD]; rfl
 have G : Hid (GetEnd s.data.toList w = fun e w' => e = .returned (.tuple #[(if elemErr p o f m g v.size = 0 then ⟨p, o, f, m, g, v⟩ else nilEl : El).aggOf, .int .i64 (if elemErr p o f m g v.size = 0 then (N : Int) else 0), .int .i64 (if elemErr p o f m g v.size = 0 then 0 else 3)]) ∧ Calm w w') := by
  show _ = _
  funext e w'
  unfold GetEnd gotEl gotLen
  rw [eE, hD, eL]
  by_cases h : elemErr p o f m g v.size = 0 <;> simp [h]
 rw [G.out]
 rw [← hN] at hv
 have i0 : 0 < s.size := by omega
 have i5 : (5 : Int) ≤ (s.size : Int) := by omega
 have i9 : (9 : Int) ≤ (s.size : Int) := by omega
 have i13 : (13 : Int) ≤ (s.size : Int) := by omega
 have i17 : (17 : Int) ≤ (s.size : Int) := by omega
 have ip : IntKind.i64.wrap (p : Int) = (p : Int) := IntWalk.i64_in _ (by omega)
 have hcE := fun u => elemCheck_any p o f m g v u
 clear hB eL hne hD eE G n1 n2 n3 n4 q1 q2 q3 q4 hl hlen hn hN
 generalize elemErr (p : Int) (o : Int) (f : Int) (m : Int) (g : Int) (v.size : Int) = E at hcE ⊢
 generalize hr1 : (if E = 0 then (⟨p, o, f, m, g, v⟩ : El) else nilEl) = R
 generalize hr2 : (if E = 0 then (N : Int) else 0) = RN
 generalize hr3 : (if E = 0 then (0 : Int) else 3) = RE
 have H1 := Lib.hid hr1
 have H2 := Lib.hid hr2
 have H3 := Lib.hid hr3
 clear hr1 hr2 hr3
 go_enter Try.func119, Try.ntmps119
 go_wp2_with fail
 have hz := heap_new w (.cells #[.int .i64 0, .int .i64 0, .int .i64 0, .int .i64 0, .int .i64 0, .string { data := #[] }] 43)
 have hu := (Calm.refl w).alloc (.cells #[.int .i64 0, .int .i64 0, .int .i64 0, .int .i64 0, .int .i64 0, .string { data := #[] }] 43)
 generalize w.alloc (.cells #[.int .i64 0, .int .i64 0, .int .i64 0, .int .i64 0, .int .i64 0, .string { data := #[] }] 43) = wz at hz hu ⊢
 refine wp_region_plan [.val (.string s), .val (.int .u8 (p : Int)), .val (.int .i64 (p)), .val (.string s), .val (.string (s.extract 1 5)), .val (.int .i64 (o)), .val (.string s), .val (.string (s.extract 5 9)), .val (.int .i64 (f)), .val (.agg #[.int .i64 (p : Int), .int .i64 (o : Int), .int .i64 (f : Int)]), .val (.string s), .val (.string (s.extract 9 13)), .val (.int .i64 (m)), .val (.string s), .val (.string (s.extract 13 17)), .val (.int .i64 (g)), .val (.string s), .val (.int .i64 (N)), .val (.string v), .val (.agg #[.int .i64 (p : Int), .int .i64 (o : Int), .int .i64 (f : Int), .int .i64 (m : Int), .int .i64 (g : Int), .string v]), .new #[.int .i64 0, .int .i64 0, .int .i64 0, .int .i64 0, .int .i64 0, .string { data := #[] }] 43, .fill 20 #[.int .i64 (p : Int), .int .i64 (o : Int), .int .i64 (f : Int), .int .i64 (m : Int), .int .i64 (g : Int), .string v]] (by kernel_rfl) (by kernel_rfl) (by kernel_rfl) ?_
 intro X
 iterate 20
  refine plan_val (by kernel_rfl) (fun u hu => ?_) ?_
  ·obtain ⟨hc, hf, hz⟩ := hu.of_drew.facts
   go_simp
   all_goals first
    |((go_at_call 117; first | (with_reducible exact c1 _) | (with_reducible exact c2 _) | (with_reducible exact c3 _) | (with_reducible exact c4 _)))
    |(exact ip)
  simp only [Act.put, List.setIfInBounds_toArray, List.set_cons_zero, List.set_cons_succ, Nat.reduceAdd]
 refine plan_new (by kernel_rfl) (fun u => ?_) ?_
 ·go_simp
 simp only [Act.put, List.setIfInBounds_toArray, List.set_cons_zero, List.set_cons_succ, Nat.reduceAdd]
 refine plan_fill_row rfl rfl rfl (by kernel_rfl) rfl rfl rfl (by kernel_rfl) rfl (by simp [Value.oneCell']) ?_
 simp only [Act.put]
 refine plan_end ?_
 intro w' hB
 have hk := hB.calm.of_drew
 have hx : w'.heap[X 20]? = some (.cells #[.int .i64 (p : Int), .int .i64 (o : Int), .int .i64 (f : Int), .int .i64 (m : Int), .int .i64 (g : Int), .string v] 43 (0, 0)) := (hB.row 20 _ _ rfl).2
 replace hz := (hk.block (row6 hz).2.2.2.2.2.2).trans hz
 replace hu := hu.call hk
 clear hB hk c1 c2 c3 c4 i0 i5 i9 i13 i17 ip hv hp hp255 eN hN1 hN2 hn' h18' hc17
 obtain ⟨x0, x1, x2, x3, x4, x5, hxs⟩ := row6 hx
 by_cases hE : E = 0
 ·subst hE
  go_wp2_with (go_at_call 40; refine (hcE _).mono ?_; rintro e w1 ⟨rfl, hb1⟩; replace hz := (hb1.block (row6 hz).2.2.2.2.2.2).trans hz; replace hx := (hb1.block (row6 hx).2.2.2.2.2.2).trans hx; replace hu := hu.call hb1; clear hb1; obtain ⟨z0, z1, z2, z3, z4, z5, hzs⟩ := row6 hz; obtain ⟨f0, f1, f2, f3, f4, f5⟩ := free6 hz; obtain ⟨x0, x1, x2, x3, x4, x5, hxs⟩ := row6 hx)
  have hr := set6 hz (.int .i64 (p : Int)) (.int .i64 (o : Int)) (.int .i64 (f : Int)) (.int .i64 (m : Int)) (.int .i64 (g : Int)) (.string v)
  have hu2 := hu.six (g := w.heap.size) (by omega) (.int .i64 (p : Int)) (.int .i64 (o : Int)) (.int .i64 (f : Int)) (.int .i64 (m : Int)) (.int .i64 (g : Int)) (.string v)
  unfold World.six at hr hu2
  exact end_three rfl rfl _ _ _ _ _ _ _ _ rfl rfl rfl rfl hr rfl ⟨by rw [← H1.out, ← H2.out, ← H3.out]; rfl, hu2⟩
 ·replace H1 := Lib.hid ((if_neg hE).symm.trans H1.out)
  replace H2 := Lib.hid ((if_neg hE).symm.trans H2.out)
  replace H3 := Lib.hid ((if_neg hE).symm.trans H3.out)
  have b1 : (E != 0) = true := by simpa using hE
  clear hE
  go_wp2_with (go_at_call 40; refine (hcE _).mono ?_; rintro e w1 ⟨rfl, hb1⟩; replace hz := (hb1.block (row6 hz).2.2.2.2.2.2).trans hz; replace hx := (hb1.block (row6 hx).2.2.2.2.2.2).trans hx; replace hu := hu.call hb1; clear hb1; obtain ⟨z0, z1, z2, z3, z4, z5, hzs⟩ := row6 hz; obtain ⟨f0, f1, f2, f3, f4, f5⟩ := free6 hz; obtain ⟨x0, x1, x2, x3, x4, x5, hxs⟩ := row6 hx)
  have hr := set6 hz (.int .i64 0) (.int .i64 0) (.int .i64 0) (.int .i64 0) (.int .i64 0) (.string { data := #[] })
  have hu2 := hu.six (g := w.heap.size) (by omega) (.int .i64 0) (.int .i64 0) (.int .i64 0) (.int .i64 0) (.int .i64 0) (.string { data := #[] })
  unfold World.six at hr hu2
  exact end_three rfl rfl _ _ _ _ _ _ _ _ rfl rfl rfl rfl hr rfl ⟨by rw [← H1.out, ← H2.out, ← H3.out]; rfl, hu2⟩
def frErr (k : Int) (n : Nat) : Int := if k < 1 ∨ 255 < k then 1 else if 3000 < n then 2 else 0
def frHead (k : Nat) (b : List UInt8) : List UInt8 := be 1 k ++ (be 2 b.length ++ b)
def encF (k : Nat) (b : List UInt8) : List UInt8 := frHead k b ++ be 2 (crc (frHead k b)).toNat
def unKind (l : List UInt8) : Nat := num (part l 0 1)
def unSize (l : List UInt8) : Nat := num (part l 1 2)
def unBody (l : List UInt8) : List UInt8 := part l 3 (unSize l)
def unErr (l : List UInt8) : Int :=
 if l.length < 5 then 7 else if unKind l = 0 ∨ 3000 < unSize l then 3 else if l.length < 5 + unSize l then 7
 else if (crc (l.take (3 + unSize l))).toNat ≠ num (part l (3 + unSize l) 2) then 6 else 0
theorem frHead_length (k : Nat) (b : List UInt8) : (frHead k b).length = 3 + b.length := by
 simp only [frHead, List.length_append, be_length]; omega
theorem encF_length (k : Nat) (b : List UInt8) : (encF k b).length = 5 + b.length := by
 simp only [encF, List.length_append, be_length, frHead_length]; omega
section
variable {k : Nat} {b : List UInt8} (hk : k < 256) (hb : b.length ≤ 3000)
include hk hb
theorem un_head (r : List UInt8) : unKind (frHead k b ++ r) = k ∧ unSize (frHead k b ++ r) = b.length ∧ unBody (frHead k b ++ r) = b := by
 have E : frHead k b ++ r = be 1 k ++ (be 2 b.length ++ (b ++ r)) := by simp [frHead]
 have s1 := fun (c : List UInt8) (i j : Nat) => part_skip (b := c) (be_length 1 k) i j
 have s2 := fun (c : List UInt8) (i j : Nat) => part_skip (b := c) (be_length 2 b.length) i j
 have h2 : unSize (frHead k b ++ r) = b.length := by
  rw [unSize, E, show 1 = 1 + 0 from rfl, s1, part_here (be_length _ _), num_be _ _ (by omega)]
 refine ⟨?_, h2, ?_⟩
 ·rw [unKind, E, part_here (be_length _ _), num_be _ _ (by omega)]
 ·rw [unBody, h2, E, show 3 = 1 + (2 + 0) from rfl, s1, s2, part_here rfl]
theorem un_enc (h0 : 0 < k) (r : List UInt8) : unErr (encF k b ++ r) = 0 ∧ unKind (encF k b ++ r) = k ∧ unSize (encF k b ++ r) = b.length ∧ unBody (encF k b ++ r) = b := by
 have E : encF k b ++ r = frHead k b ++ (be 2 (crc (frHead k b)).toNat ++ r) := by simp [encF]
 have hl := encF_length k b
 obtain ⟨h1, h2, h3⟩ := un_head hk hb (be 2 (crc (frHead k b)).toNat ++ r)
 rw [← E] at h1 h2 h3
 refine ⟨?_, h1, h2, h3⟩
 have hc := (crc (frHead k b)).isLt
 have e1 : (encF k b ++ r).take (3 + b.length) = frHead k b := by rw [E, List.take_left' (frHead_length k b)]
 have e2 : part (encF k b ++ r) (3 + b.length) 2 = be 2 (crc (frHead k b)).toNat := by
  rw [E, show 3 + b.length = 3 + b.length + 0 from rfl, part_skip (frHead_length k b), part_here (be_length _ _)]
 unfold unErr
 rw [if_neg (by rw [List.length_append]; omega), h1, h2, if_neg (by omega), if_neg (by rw [List.length_append]; omega), e1, e2, num_be _ _ (by omega), if_neg (by simp)]
end
theorem unErr_zero {l : List UInt8} (h : unErr l = 0) : 5 + unSize l ≤ l.length ∧ 0 < unKind l ∧ unKind l < 256 ∧ unSize l ≤ 3000 ∧ (crc (l.take (3 + unSize l))).toNat = num (part l (3 + unSize l) 2) := by
 unfold unErr at h
 split at h
 ·cases h
 split at h
 ·cases h
 split at h
 ·cases h
 split at h
 ·cases h
 ·have := num_lt 1 (part l 0 1) (part_length (by omega))
  unfold unKind at *
  exact ⟨by omega, by omega, by omega, by omega, by simp_all⟩
theorem unBody_length {l : List UInt8} (h : 5 + unSize l ≤ l.length) : (unBody l).length = unSize l := part_length (by omega)
theorem be2 (n : Nat) (h : n < 65536) : be 2 n = [UInt8.ofNat (n / 256), UInt8.ofNat (n % 256)] := by
 show [UInt8.ofNat (n / 256 % 256), UInt8.ofNat (n % 256)] = _
 rw [Nat.mod_eq_of_lt (show n / 256 < 256 by omega)]
open Go.RowKit
theorem be4 (n : Nat) (h : n < 4294967296) : be 4 n = [UInt8.ofNat (n / 16777216), UInt8.ofNat (n / 65536 % 256), UInt8.ofNat (n / 256 % 256), UInt8.ofNat (n % 256)] := by
 show [UInt8.ofNat (n / 256 / 256 / 256 % 256), UInt8.ofNat (n / 256 / 256 % 256), UInt8.ofNat (n / 256 % 256), UInt8.ofNat (n % 256)] = _
 rw [show n / 256 / 256 / 256 % 256 = n / 16777216 from by omega, show n / 256 / 256 % 256 = n / 65536 % 256 from by omega]
theorem be1 (n : Nat) (h : n < 256) : be 1 n = [UInt8.ofNat n] := by
 show [UInt8.ofNat (n % 256)] = _
 rw [Nat.mod_eq_of_lt h]
theorem OwnB.base {base : Nat} {w : World} {v : Value} {l : List UInt8} (h : OwnB base w v l) (hl : 0 < l.length) : base ≤ w.heap.size := by
 rcases h.2 with ⟨_, h0⟩ | ⟨g, cap, cur, rfl, hb, hg, _⟩
 ·omega
 ·have := (Array.getElem?_eq_some_iff.1 hg).1; omega
theorem OwnB.nil (base : Nat) (w : World) : OwnB base w (.slice none 0 0) [] := World.ownsRow_nil _ _ _ _
def PairEnd (base : Nat) (l : List UInt8) (w : World) (e : Ending) (w' : World) : Prop := ∃ v', e = .returned v' ∧ OwnB base w' v' l ∧ ∀ w0 : World, w0.heap.size ≤ base → Calm w0 w → Calm w0 w'
set_option maxHeartbeats 4000000 in
theorem appendNum2_any (base : Nat) (v : Value) (l : List UInt8) (n : Nat) (w : World) (hn : n < 65536) (ho : OwnB base w v l) (hl : l.length ≤ 100000) (hb : base ≤ w.heap.size) :
    Calls Try.prog 116 #[v, .int .i64 (n : Int), .int .i64 2] w (PairEnd base (l ++ be 2 n) w) := by
  have HO := Lib.hid ho
  have C0 : Hid (∀ w0 : World, w0.heap.size ≤ base → Calm w0 w → Calm w0 w) := show ∀ _, _ from fun _ _ h => h
  clear ho
  go_enter Try.func116, Try.ntmps116
  go_wp2_with fail
  refine wp_loop_rounds 3 ?_
  rw [rounds_succ]
  go_wp2_with (at_builtin; refine wpList_append_b1 rfl _ _ rfl base _ _ rfl (HO.out.calm ((Calm.refl _).alloc _)) _ _ _ _ rfl (heap_new _ _) ?_ (by first | omega | (simp; omega)) (by first | omega | (simp; omega)) ?_; (· omega); intro v1 w1 ho1 hc1; replace C0 : Hid (∀ w0 : World, w0.heap.size ≤ base → Calm w0 w → Calm w0 w1) := (show ∀ _, _ from fun w0 h0 hc => hc1 w0 h0 ((C0.out w0 h0 hc).alloc _)); replace hb := ho1.base (by simp); replace HO := Lib.hid ho1; clear ho1 hc1)
  rw [rounds_succ]
  go_wp2_with (at_builtin; refine wpList_append_b1 rfl _ _ rfl base _ _ rfl (HO.out.calm ((Calm.refl _).alloc _)) _ _ _ _ rfl (heap_new _ _) ?_ (by first | omega | (simp; omega)) (by first | omega | (simp; omega)) ?_; (· omega); intro v1 w1 ho1 hc1; replace C0 : Hid (∀ w0 : World, w0.heap.size ≤ base → Calm w0 w → Calm w0 w1) := (show ∀ _, _ from fun w0 h0 hc => hc1 w0 h0 ((C0.out w0 h0 hc).alloc _)); replace hb := ho1.base (by simp); replace HO := Lib.hid ho1; clear ho1 hc1)
  rw [rounds_succ]
  go_wp2_with fail
  go_ret
  refine ⟨_, rfl, ?_, C0.out⟩
  have h9 := HO.out
  simp only [List.append_assoc, List.cons_append, List.nil_append] at h9
  have e : be 2 n = [UInt8.ofNat ((n : Int) / 256).toNat, UInt8.ofNat ((n : Int) % 256).toNat] := by
    rw [be2 n (by omega)]
    congr 1
  rw [e]
  exact h9
set_option maxHeartbeats 4000000 in
theorem appendNum4_any (base : Nat) (v : Value) (l : List UInt8) (n : Nat) (w : World) (hn : n < 4294967296) (ho : OwnB base w v l) (hl : l.length ≤ 100000) (hb : base ≤ w.heap.size) :
    Calls Try.prog 116 #[v, .int .i64 (n : Int), .int .i64 4] w (PairEnd base (l ++ be 4 n) w) := by
  have HO := Lib.hid ho
  have C0 : Hid (∀ w0 : World, w0.heap.size ≤ base → Calm w0 w → Calm w0 w) := show ∀ _, _ from fun _ _ h => h
  clear ho
  go_enter Try.func116, Try.ntmps116
  go_wp2_with fail
  refine wp_loop_rounds 5 ?_
  rw [rounds_succ]
  go_wp2_with (at_builtin; refine wpList_append_b1 rfl _ _ rfl base _ _ rfl (HO.out.calm ((Calm.refl _).alloc _)) _ _ _ _ rfl (heap_new _ _) ?_ (by first | omega | (simp; omega)) (by first | omega | (simp; omega)) ?_; (· omega); intro v1 w1 ho1 hc1; replace C0 : Hid (∀ w0 : World, w0.heap.size ≤ base → Calm w0 w → Calm w0 w1) := (show ∀ _, _ from fun w0 h0 hc => hc1 w0 h0 ((C0.out w0 h0 hc).alloc _)); replace hb := ho1.base (by simp); replace HO := Lib.hid ho1; clear ho1 hc1)
  rw [rounds_succ]
  go_wp2_with (at_builtin; refine wpList_append_b1 rfl _ _ rfl base _ _ rfl (HO.out.calm ((Calm.refl _).alloc _)) _ _ _ _ rfl (heap_new _ _) ?_ (by first | omega | (simp; omega)) (by first | omega | (simp; omega)) ?_; (· omega); intro v1 w1 ho1 hc1; replace C0 : Hid (∀ w0 : World, w0.heap.size ≤ base → Calm w0 w → Calm w0 w1) := (show ∀ _, _ from fun w0 h0 hc => hc1 w0 h0 ((C0.out w0 h0 hc).alloc _)); replace hb := ho1.base (by simp); replace HO := Lib.hid ho1; clear ho1 hc1)
  rw [rounds_succ]
  go_wp2_with (at_builtin; refine wpList_append_b1 rfl _ _ rfl base _ _ rfl (HO.out.calm ((Calm.refl _).alloc _)) _ _ _ _ rfl (heap_new _ _) ?_ (by first | omega | (simp; omega)) (by first | omega | (simp; omega)) ?_; (· omega); intro v1 w1 ho1 hc1; replace C0 : Hid (∀ w0 : World, w0.heap.size ≤ base → Calm w0 w → Calm w0 w1) := (show ∀ _, _ from fun w0 h0 hc => hc1 w0 h0 ((C0.out w0 h0 hc).alloc _)); replace hb := ho1.base (by simp); replace HO := Lib.hid ho1; clear ho1 hc1)
  rw [rounds_succ]
  go_wp2_with (at_builtin; refine wpList_append_b1 rfl _ _ rfl base _ _ rfl (HO.out.calm ((Calm.refl _).alloc _)) _ _ _ _ rfl (heap_new _ _) ?_ (by first | omega | (simp; omega)) (by first | omega | (simp; omega)) ?_; (· omega); intro v1 w1 ho1 hc1; replace C0 : Hid (∀ w0 : World, w0.heap.size ≤ base → Calm w0 w → Calm w0 w1) := (show ∀ _, _ from fun w0 h0 hc => hc1 w0 h0 ((C0.out w0 h0 hc).alloc _)); replace hb := ho1.base (by simp); replace HO := Lib.hid ho1; clear ho1 hc1)
  rw [rounds_succ]
  go_wp2_with fail
  go_ret
  refine ⟨_, rfl, ?_, C0.out⟩
  have h9 := HO.out
  simp only [List.append_assoc, List.cons_append, List.nil_append] at h9
  have e : be 4 n = [UInt8.ofNat ((n : Int) / 16777216).toNat, UInt8.ofNat ((n : Int) / 65536 % 256).toNat, UInt8.ofNat ((n : Int) / 256 % 256).toNat, UInt8.ofNat ((n : Int) % 256).toNat] := by
    rw [be4 n (by omega)]
    congr 1
  rw [e]
  exact h9
open Go.RowKit
def wroteS (e : El) : ByteArray := if e.err = 0 then ⟨(enc e).toArray⟩ else { data := #[] }
def WriteEnd (x : El) (w : World) (e : Ending) (w' : World) : Prop := e = .returned (.tuple #[.string (wroteS x), .int .i64 x.err]) ∧ Calm w w'
theorem heap_new2 (w : World) (o o' : Obj) : ((w.alloc o).alloc o').heap[w.heap.size + 1]? = some o' := by simpa using heap_new (w.alloc o) o'
theorem index4 (x y z u : Value) (w : World) : (Instr.index 174 (.agg #[x, y, z, u]) (.int .i64 0)).run Try.prog w = .ok x w ∧ (Instr.index 174 (.agg #[x, y, z, u]) (.int .i64 1)).run Try.prog w = .ok y w ∧ (Instr.index 174 (.agg #[x, y, z, u]) (.int .i64 2)).run Try.prog w = .ok z w ∧ (Instr.index 174 (.agg #[x, y, z, u]) (.int .i64 3)).run Try.prog w = .ok u w :=
 ⟨by kernel_rfl, by kernel_rfl, by kernel_rfl, by kernel_rfl⟩
set_option maxHeartbeats 8000000 in
theorem codeWrite_any (p o f m g : Int) (s : ByteArray) (w : World) : Calls Try.prog 81 #[.agg #[.int .i64 p, .int .i64 o, .int .i64 f, .int .i64 m, .int .i64 g, .string s]] w (WriteEnd ⟨p, o, f, m, g, s⟩ w) := by
 have hcE := fun u => elemCheck_any p o f m g s u
 have G : WriteEnd ⟨p, o, f, m, g, s⟩ w = fun e w' => e = .returned (.tuple #[.string (wroteS ⟨p, o, f, m, g, s⟩), .int .i64 (elemErr p o f m g s.size)]) ∧ Calm w w' := rfl
 have hx := heap_new w (.cells #[.int .i64 p, .int .i64 o, .int .i64 f, .int .i64 m, .int .i64 g, .string s] 43)
 have hu := (Calm.refl w).alloc (.cells #[.int .i64 p, .int .i64 o, .int .i64 f, .int .i64 m, .int .i64 g, .string s] 43)
 by_cases he : elemErr p o f m g s.size = 0
 rotate_left
 ·have hW : wroteS ⟨p, o, f, m, g, s⟩ = { data := #[] } := by unfold wroteS; exact if_neg he
  have b1 : (elemErr p o f m g s.size != 0) = true := by simpa using he
  rw [G, hW]
  generalize elemErr p o f m g s.size = E at hcE b1 ⊢
  clear G hW he
  go_enter Try.func81, Try.ntmps81
  go_wp2_with (go_at_call 40; refine (hcE _).mono ?_; rintro e w1 ⟨rfl, hb1⟩; replace hx := (hb1.block (row6 hx).2.2.2.2.2.2).trans hx; replace hu := hu.call hb1; clear hb1; obtain ⟨x0, x1, x2, x3, x4, x5, hxs⟩ := row6 hx)
  go_ret2
  exact ⟨rfl, hu⟩
 have hW : Hid (wroteS ⟨p, o, f, m, g, s⟩ = ⟨(enc ⟨p, o, f, m, g, s⟩).toArray⟩) := by show _ = _; unfold wroteS; exact if_pos he
 have hb := err_zero (e := ⟨p, o, f, m, g, s⟩) he
 simp only at hb
 rw [G]
 rw [he] at hcE ⊢
 generalize wroteS ⟨p, o, f, m, g, s⟩ = W at hW ⊢
 obtain ⟨P, rfl⟩ : ∃ n : Nat, p = (n : Int) := ⟨p.toNat, by omega⟩
 obtain ⟨O, rfl⟩ : ∃ n : Nat, o = (n : Int) := ⟨o.toNat, by omega⟩
 obtain ⟨F, rfl⟩ : ∃ n : Nat, f = (n : Int) := ⟨f.toNat, by omega⟩
 obtain ⟨M, rfl⟩ : ∃ n : Nat, m = (n : Int) := ⟨m.toNat, by omega⟩
 obtain ⟨D, rfl⟩ : ∃ n : Nat, g = (n : Int) := ⟨g.toNat, by omega⟩
 obtain ⟨k1, k2, k3, k4, k5, k6, k7, k8, k9, k10, k11⟩ := hb
 obtain ⟨j0, j1, j2, j3⟩ : (∀ x y z u w, _) ∧ (∀ x y z u w, _) ∧ (∀ x y z u w, _) ∧ (∀ x y z u w, _) := ⟨fun x y z u w => (index4 x y z u w).1, fun x y z u w => (index4 x y z u w).2.1, fun x y z u w => (index4 x y z u w).2.2.1, fun x y z u w => (index4 x y z u w).2.2.2⟩
 have hmk := fun u => makeRoom u ((18 : Int) + (s.size : Int)) (18 + s.size) (by omega) (by omega)
 clear G he
 have hx0 := hx
 go_enter Try.func81, Try.ntmps81
 go_wp2_with (first
   |(go_at_call 40; refine (hcE _).mono ?_; rintro e w1 ⟨rfl, hb1⟩; replace hx := (hb1.block (row6 hx).2.2.2.2.2.2).trans hx; have hv := hb1.alloc (.cells (bv (List.replicate (18 + s.size) 0)).toArray 5); have hvs := hb1.size; simp only [World.size_alloc] at hvs; have ho := Lib.hid (OwnB.made (w.heap.size + 1) w1 (18 + s.size) hvs (by omega)); clear hb1; obtain ⟨x0, x1, x2, x3, x4, x5, hxs⟩ := row6 hx)
   |(at_builtin; go_must (refine wpList_append_b1 rfl _ _ rfl (w.heap.size + 1) _ _ rfl (ho.out.calm ((Calm.refl _).alloc _)) _ _ _ _ rfl (heap_new2 _ _ _) ?_ (by simp) (by simp; omega) ?_); (· omega); intro v' w9 ho9 hc9; replace hv := hc9 (w.alloc (.cells #[.int .i64 (P : Int), .int .i64 (O : Int), .int .i64 (F : Int), .int .i64 (M : Int), .int .i64 (D : Int), .string s] 43)) (by simp) (hv.alloc _); replace hx := (hv.block (by simp)).trans hx0; have hvs := hv.size; simp only [World.size_alloc] at hvs; replace ho := Lib.hid ho9; clear ho9 hc9; obtain ⟨x0, x1, x2, x3, x4, x5, hxs⟩ := row6 hx))
 refine wp_loop_rounds 5 ?_
 rw [rounds_succ]
 go_wp2_with (go_at_call 116; refine (appendNum4_any (w.heap.size + 1) _ _ O _ ?_ ho.out ?_ ?_).mono ?_; (· omega); (· first | omega | (simp [be_length]; omega) | simp [be_length]); (· omega); rintro e w9 ⟨v', rfl, ho9, hc9⟩; replace hv := hc9 (w.alloc (.cells #[.int .i64 (P : Int), .int .i64 (O : Int), .int .i64 (F : Int), .int .i64 (M : Int), .int .i64 (D : Int), .string s] 43)) (by simp) hv; replace hx := (hv.block (by simp)).trans hx0; have hvs := hv.size; simp only [World.size_alloc] at hvs; replace ho := Lib.hid ho9; clear ho9 hc9; obtain ⟨x0, x1, x2, x3, x4, x5, hxs⟩ := row6 hx)
 rw [rounds_succ]
 go_wp2_with (go_at_call 116; refine (appendNum4_any (w.heap.size + 1) _ _ F _ ?_ ho.out ?_ ?_).mono ?_; (· omega); (· first | omega | (simp [be_length]; omega) | simp [be_length]); (· omega); rintro e w9 ⟨v', rfl, ho9, hc9⟩; replace hv := hc9 (w.alloc (.cells #[.int .i64 (P : Int), .int .i64 (O : Int), .int .i64 (F : Int), .int .i64 (M : Int), .int .i64 (D : Int), .string s] 43)) (by simp) hv; replace hx := (hv.block (by simp)).trans hx0; have hvs := hv.size; simp only [World.size_alloc] at hvs; replace ho := Lib.hid ho9; clear ho9 hc9; obtain ⟨x0, x1, x2, x3, x4, x5, hxs⟩ := row6 hx)
 rw [rounds_succ]
 go_wp2_with (go_at_call 116; refine (appendNum4_any (w.heap.size + 1) _ _ M _ ?_ ho.out ?_ ?_).mono ?_; (· omega); (· first | omega | (simp [be_length]; omega) | simp [be_length]); (· omega); rintro e w9 ⟨v', rfl, ho9, hc9⟩; replace hv := hc9 (w.alloc (.cells #[.int .i64 (P : Int), .int .i64 (O : Int), .int .i64 (F : Int), .int .i64 (M : Int), .int .i64 (D : Int), .string s] 43)) (by simp) hv; replace hx := (hv.block (by simp)).trans hx0; have hvs := hv.size; simp only [World.size_alloc] at hvs; replace ho := Lib.hid ho9; clear ho9 hc9; obtain ⟨x0, x1, x2, x3, x4, x5, hxs⟩ := row6 hx)
 rw [rounds_succ]
 go_wp2_with (go_at_call 116; refine (appendNum4_any (w.heap.size + 1) _ _ D _ ?_ ho.out ?_ ?_).mono ?_; (· omega); (· first | omega | (simp [be_length]; omega) | simp [be_length]); (· omega); rintro e w9 ⟨v', rfl, ho9, hc9⟩; replace hv := hc9 (w.alloc (.cells #[.int .i64 (P : Int), .int .i64 (O : Int), .int .i64 (F : Int), .int .i64 (M : Int), .int .i64 (D : Int), .string s] 43)) (by simp) hv; replace hx := (hv.block (by simp)).trans hx0; have hvs := hv.size; simp only [World.size_alloc] at hvs; replace ho := Lib.hid ho9; clear ho9 hc9; obtain ⟨x0, x1, x2, x3, x4, x5, hxs⟩ := row6 hx)
 rw [rounds_succ]
 go_wp2_with (first
   |(at_builtin; refine wpList_append_st rfl _ _ rfl (w.heap.size + 1) _ _ rfl ho.out _ rfl (by simp [be_length]; omega) (by omega) ?_; intro v' w9 ho9 hc9; replace hv := hc9 (w.alloc (.cells #[.int .i64 (P : Int), .int .i64 (O : Int), .int .i64 (F : Int), .int .i64 (M : Int), .int .i64 (D : Int), .string s] 43)) (by simp) hv; replace hx := (hv.block (by simp)).trans hx0; have hvs := hv.size; simp only [World.size_alloc] at hvs; replace ho := Lib.hid ho9; clear ho9 hc9; obtain ⟨x0, x1, x2, x3, x4, x5, hxs⟩ := row6 hx; have hcv := ho.out.str (by simp))
   |(at_builtin; go_must (refine wpList_append_b1 rfl _ _ rfl (w.heap.size + 1) _ _ rfl (ho.out.calm ((Calm.refl _).alloc _)) _ _ _ _ rfl (heap_new _ _) ?_ (by simp [be_length]) (by simp; omega) ?_); (· omega); intro v' w9 ho9 hc9; replace hv := hc9 (w.alloc (.cells #[.int .i64 (P : Int), .int .i64 (O : Int), .int .i64 (F : Int), .int .i64 (M : Int), .int .i64 (D : Int), .string s] 43)) (by simp) (hv.alloc _); replace hx := (hv.block (by simp)).trans hx0; have hvs := hv.size; simp only [World.size_alloc] at hvs; replace ho := Lib.hid ho9; clear ho9 hc9; obtain ⟨x0, x1, x2, x3, x4, x5, hxs⟩ := row6 hx))
 have hu9 := ((Calm.refl w).alloc (.cells #[.int .i64 (P : Int), .int .i64 (O : Int), .int .i64 (F : Int), .int .i64 (M : Int), .int .i64 (D : Int), .string s] 43)).call hv
 have hE : W = ⟨([] ++ [UInt8.ofNat (P : Int).toNat] ++ be 4 O ++ be 4 F ++ be 4 M ++ be 4 D ++ [UInt8.ofNat (s.size : Int).toNat] ++ s.data.toList).toArray⟩ := by
  rw [hW.out, enc]
  simp only [Int.toNat_natCast]
  rw [be1 P (by omega), be1 s.size (by omega)]
  simp only [List.nil_append, List.append_assoc]
 go_ret2
 refine ⟨?_, hu9⟩
 rw [hE]
 rfl
open Go.RowKit
theorem decide_Fol (p o f m g : Int) (s : ByteArray) (p' o' f' m' g' : Int) (s' : ByteArray) :
    decide (Fol ⟨p, o, f, m, g, s⟩ ⟨p', o', f', m', g', s'⟩) = (decide (scmp p o f m p' o' f' m' = -1) && (!decide ((p, o, f) = (p', o', f')) || !decide (liveP m g m'))) := by
  rw [Bool.eq_iff_iff]
  simp only [Bool.and_eq_true, Bool.or_eq_true, decide_eq_true_eq, Bool.not_eq_true', decide_eq_false_iff_not]
  have h := scmp_sLt (a := ⟨p, o, f, m, g, s⟩) (b := ⟨p', o', f', m', g', s'⟩)
  simp only at h
  rw [h]
  unfold Fol
  simp only [El.key]
  constructor
  · rintro ⟨h1, h2⟩
    refine ⟨h1, ?_⟩
    by_cases e : (p, o, f) = (p', o', f')
    · right; have := h2 e; unfold liveP; omega
    · exact .inl e
  · rintro ⟨h1, h2⟩
    refine ⟨h1, fun e => ?_⟩
    rcases h2 with h2 | h2
    · exact absurd e h2
    · rw [e, sLt_same] at h1
      unfold liveP at h2; omega
set_option maxHeartbeats 2000000 in
theorem follows_any (p o f m g : Int) (s : ByteArray) (p' o' f' m' g' : Int) (s' : ByteArray) (w : World) :
    Calls Try.prog 41 #[.agg #[.int .i64 p, .int .i64 o, .int .i64 f, .int .i64 m, .int .i64 g, .string s], .agg #[.int .i64 p', .int .i64 o', .int .i64 f', .int .i64 m', .int .i64 g', .string s']] w fun e w' => e = .returned (.bool (decide (Fol ⟨p, o, f, m, g, s⟩ ⟨p', o', f', m', g', s'⟩))) ∧ Calm w w' := by
  rw [decide_Fol]
  have hc := scmp_or p o f m p' o' f' m'
  generalize hK : scmp p o f m p' o' f' m' = c at hc ⊢
  have cS : ∀ u, Calls Try.prog 68 #[.agg #[.int .i64 p, .int .i64 o, .int .i64 f, .int .i64 m], .agg #[.int .i64 p', .int .i64 o', .int .i64 f', .int .i64 m']] u fun e w' => e = .returned (.int .i64 c) ∧ Calm u w' := fun u => hK ▸ cmpSpot_any p o f m p' o' f' m' u
  clear hK
  go_enter Try.func41, Try.ntmps41
  go_upto_region 1 with fail
  have hx : ((w.alloc (.cells #[.int .i64 p, .int .i64 o, .int .i64 f, .int .i64 m, .int .i64 g, .string s] 43)).alloc (.cells #[.int .i64 p', .int .i64 o', .int .i64 f', .int .i64 m', .int .i64 g', .string s'] 43)).heap[w.heap.size]? = some (.cells #[.int .i64 p, .int .i64 o, .int .i64 f, .int .i64 m, .int .i64 g, .string s] 43 (0, 0)) := heap_past _ (heap_new _ _)
  have hy : ((w.alloc (.cells #[.int .i64 p, .int .i64 o, .int .i64 f, .int .i64 m, .int .i64 g, .string s] 43)).alloc (.cells #[.int .i64 p', .int .i64 o', .int .i64 f', .int .i64 m', .int .i64 g', .string s'] 43)).heap[w.heap.size + 1]? = some (.cells #[.int .i64 p', .int .i64 o', .int .i64 f', .int .i64 m', .int .i64 g', .string s'] 43 (0, 0)) := by simpa using heap_new (w.alloc (.cells #[.int .i64 p, .int .i64 o, .int .i64 f, .int .i64 m, .int .i64 g, .string s] 43)) (.cells #[.int .i64 p', .int .i64 o', .int .i64 f', .int .i64 m', .int .i64 g', .string s'] 43)
  have hu : Calm w ((w.alloc (.cells #[.int .i64 p, .int .i64 o, .int .i64 f, .int .i64 m, .int .i64 g, .string s] 43)).alloc (.cells #[.int .i64 p', .int .i64 o', .int .i64 f', .int .i64 m', .int .i64 g', .string s'] 43)) := ((Calm.refl _).alloc _).alloc _
  generalize ((w.alloc (.cells #[.int .i64 p, .int .i64 o, .int .i64 f, .int .i64 m, .int .i64 g, .string s] 43)).alloc (.cells #[.int .i64 p', .int .i64 o', .int .i64 f', .int .i64 m', .int .i64 g', .string s'] 43)) = wc at hx hy hu ⊢
  obtain ⟨x0, x1, x2, x3, x4, x5, hxs⟩ := row6 hx
  obtain ⟨y0, y1, y2, y3, y4, y5, hys⟩ := row6 hy
  refine wp_region_plan [.val (.agg #[.int .i64 p, .int .i64 o, .int .i64 f, .int .i64 m, .int .i64 g, .string s]), .val (.agg #[.int .i64 p, .int .i64 o, .int .i64 f, .int .i64 m]), .val (.agg #[.int .i64 p', .int .i64 o', .int .i64 f', .int .i64 m', .int .i64 g', .string s']), .val (.agg #[.int .i64 p', .int .i64 o', .int .i64 f', .int .i64 m']), .val (.int .i64 c), .val (.bool (decide (0 ≤ c)))] (by kernel_rfl) (by kernel_rfl) (by kernel_rfl) ?_
  intro X
  iterate 6
    refine plan_val (by kernel_rfl) (fun u hu => ?_) ?_
    · obtain ⟨hc, hf, hz⟩ := hu.of_drew.facts
      go_simp
      all_goals first
        | (go_at_call 19; exact spot_any _ _ _ _ _ _ _)
        | (go_at_call 68; exact cS _)
    simp only [Act.put, List.setIfInBounds_toArray, List.set_cons_zero, List.set_cons_succ, Nat.reduceAdd]
  refine plan_end ?_
  intro w' hB
  have hk := hB.calm.of_drew
  clear hB cS
  replace hx := (hk.block hxs).trans hx
  replace hy := (hk.block hys).trans hy
  replace hu := hu.call hk
  clear hk x0 x1 x2 x3 x4 x5 y0 y1 y2 y3 y4 y5 hxs hys
  obtain ⟨x0, x1, x2, x3, x4, x5, hxs⟩ := row6 hx
  obtain ⟨y0, y1, y2, y3, y4, y5, hys⟩ := row6 hy
  by_cases h1 : 0 ≤ c
  · have e1 : decide (0 ≤ c) = true := decide_eq_true h1
    have e2 : decide (c = -1) = false := decide_eq_false (by omega)
    go_wp2_with fail
    go_ret
    exact ⟨by rw [e2]; rfl, hu⟩
  · have e1 : decide (0 ≤ c) = false := decide_eq_false h1
    have e2 : c = -1 := by omega
    subst e2
    clear hc h1
    go_wp2_with (go_at_call 76; refine (live_any _ _ _ _ _ _ _ _).mono ?_; rintro e w1 ⟨rfl, hb1⟩)
    all_goals
      go_ret
      exact ⟨rfl, by first | exact hu | exact hu.call (by assumption)⟩
theorem stepErr_err {l : List El} {k : Nat} {e : El} (h : l[k]? = some e) (he : e.err ≠ 0) : stepErr l k = e.err := by
 unfold stepErr; rw [h]; simp only; rw [if_pos he]
theorem runErr_at {l : List El} {k : Nat} (hl : ¬ 400 < l.length) (h : ∀ j, j < k → stepErr l j = 0) (hk : stepErr l k ≠ 0) (hlt : k < l.length) : stepErr l k = runErr l := by
 unfold runErr; rw [if_neg hl, firstErr_at h hk hlt]
theorem runErr_good {l : List El} (hl : ¬ 400 < l.length) (h : ∀ j, j < l.length → stepErr l j = 0) : 0 = runErr l := by
 unfold runErr; rw [if_neg hl, firstErr_zero.2 h]
theorem stepErr_form {l : List El} {k : Nat} {e d : El} (h : l[k]? = some e) (he : e.err = 0) (h0 : 0 < k) (hd : l[k - 1]? = some d) : stepErr l k = if Fol d e then 0 else 3 := by
 unfold stepErr; rw [h]; simp only; rw [if_neg (by simpa using he), if_neg (by omega), hd]
theorem stepErr_first {l : List El} {e : El} (h : l[0]? = some e) (he : e.err = 0) : stepErr l 0 = 0 := by
 unfold stepErr; rw [h]; simp only; rw [if_neg (by simpa using he)]; rfl
def NoErr (l : List El) (k : Nat) : Prop := ∀ j, j < k → stepErr l j = 0
set_option maxHeartbeats 4000000 in
theorem runCheck_any (A : Option Addr) (c : Nat) (l : List El) (w : World) (hn : l.length ≤ 9223372036854775807) (hL : Lies w A l) :
    Calls Try.prog 22 #[.slice A l.length c] w fun e w' => e = .returned (.int .i64 (runErr l)) ∧ Calm w w' := by
  by_cases hbig : 400 < l.length
  · have K : Hid (2 = runErr l) := by show _ = _; unfold runErr; rw [if_pos hbig]
    go_enter Try.func22, Try.ntmps22
    go_wp2_with fail
    go_ret
    exact ⟨ret_int K.out, Calm.refl _⟩
  go_enter Try.func22, Try.ntmps22
  go_wp2_with fail
  go_loopw [11] (fun i wr => ∃ k : Nat, k ≤ l.length ∧ i = .int .i64 k ∧ Calm w wr ∧ NoErr l k) (fun i _ => l.length - (intOf i).toNat)
  case atStart => exact ⟨0, Nat.zero_le _, rfl, Calm.refl _, fun j hj => absurd hj (Nat.not_lt_zero _)⟩
  case round =>
    obtain ⟨k, hk, rfl, hu, hN⟩ := hrel
    by_cases hlt : k < l.length
    rotate_left
    · have hkl : k = l.length := by omega
      have K : Hid (0 = runErr l) := runErr_good hbig (by rw [← hkl]; exact hN)
      clear hkl
      go_wp2_with fail
      go_ret
      exact ⟨ret_int K.out, hu⟩
    obtain ⟨b, q, p, o, f, m, g, s, rfl, hb, HE, hm, c0, c1, c2, c3, c4, c5⟩ := (hL.calm hu).get hlt
    by_cases he : elemErr p o f m g s.size = 0
    rotate_left
    · have b1 : (elemErr p o f m g s.size != 0) = true := by simpa using he
      have K : Hid (elemErr p o f m g s.size = runErr l) := by
        have h1 := stepErr_err HE.out (show El.err ⟨p, o, f, m, g, s⟩ ≠ 0 from he)
        rw [← runErr_at hbig hN (by rw [h1]; exact he) hlt, h1]; rfl
      clear he
      go_wp2_with (go_at_call 40; refine (elemCheck_any _ _ _ _ _ _ _).mono ?_; rintro e w1 ⟨rfl, hb1⟩)
      go_ret
      exact ⟨ret_int K.out, by repeat (first | (with_reducible exact Calm.refl _) | (with_reducible refine Calm.alloc ?_ _) | (with_reducible refine Calm.drew ?_) | (with_reducible refine Calm.drewN ?_ _) | (refine Calm.call ?_ (by with_reducible assumption)))⟩
    have b1 : (elemErr p o f m g s.size != 0) = false := by simpa using he
    have HE0 : Hid (elemErr p o f m g s.size = 0) := he
    clear he
    by_cases hk0 : k = 0
    · subst hk0
      have hN1 : NoErr l 1 := fun j hj => by
        have : j = 0 := by omega
        subst this
        exact stepErr_first HE.out HE0.out
      simp only [Nat.zero_mul, Nat.add_zero] at c0 c1 c2 c3 c4 c5
      go_wp2_with (go_at_call 40; refine (elemCheck_any _ _ _ _ _ _ _).mono ?_; rintro e w1 ⟨rfl, hb1⟩)
      refine wp_region_plan [.val (.int .i64 0), .val (.bool false), .val (.bool false), .idle, .idle, .idle, .idle, .idle, .idle, .idle, .idle, .val (.bool false)] (by kernel_rfl) (by kernel_rfl) (by kernel_rfl) ?_
      intro X
      iterate 3
        refine plan_val (by kernel_rfl) (fun u hu => ?_) ?_
        · obtain ⟨hc, hf, hz⟩ := hu.of_drew.facts
          go_simp
        simp only [Act.put, List.setIfInBounds_toArray, List.set_cons_zero, List.set_cons_succ, Nat.reduceAdd]
      iterate 8
        refine plan_idle (by kernel_rfl) ?_
        simp only [Act.put, List.setIfInBounds_toArray, List.set_cons_zero, List.set_cons_succ, Nat.reduceAdd]
      iterate 1
        refine plan_val (by kernel_rfl) (fun u hu => ?_) ?_
        · obtain ⟨hc, hf, hz⟩ := hu.of_drew.facts
          go_simp
        simp only [Act.put, List.setIfInBounds_toArray, List.set_cons_zero, List.set_cons_succ, Nat.reduceAdd]
      refine plan_end ?_
      intro w' hB
      have hk := hB.calm.of_drew
      clear hB
      go_wp2_with fail
      exact ⟨⟨1, by omega, rfl, ((hu.alloc _).call hb1).call hk, hN1⟩, by simp [intOf]; omega⟩
    obtain ⟨p', o', f', m', g', s', HE', hm', d0, d1, d2, d3, d4, d5⟩ := (hL.calm hu).get2 (k := k - 1) (by omega)
    have hS := stepErr_form HE.out HE0.out (by omega) HE'.out
    have hk1 : 1 ≤ k := by omega
    by_cases hF : Fol ⟨p', o', f', m', g', s'⟩ ⟨p, o, f, m, g, s⟩
    · have b2 : decide (Fol ⟨p', o', f', m', g', s'⟩ ⟨p, o, f, m, g, s⟩) = true := decide_eq_true hF
      rw [if_pos hF] at hS
      have hN1 : NoErr l (k + 1) := fun j hj => by
        rcases Nat.lt_or_ge j k with h | h
        · exact hN j h
        · rw [show j = k by omega]; exact hS
      clear hS hF hk0
      go_wp2_with (go_at_call 40; refine (elemCheck_any _ _ _ _ _ _ _).mono ?_; rintro e w1 ⟨rfl, hb1⟩)
      have hx := (hb1.block (k := wr.heap.size) (by simp)).trans (heap_new wr _)
      obtain ⟨x0, x1, x2, x3, x4, x5, hxs⟩ := row6 hx
      have hv := ((Calm.refl wr).alloc _).call hb1
      have hv1 := hu.call hv
      have hb2 : b < w1.heap.size := Nat.lt_of_lt_of_le hb hv.size
      have hvc := hv.facts.1
      replace d0 := (hvc _ _ hb).trans d0; replace d1 := (hvc _ _ hb).trans d1; replace d2 := (hvc _ _ hb).trans d2; replace d3 := (hvc _ _ hb).trans d3; replace d4 := (hvc _ _ hb).trans d4; replace d5 := (hvc _ _ hb).trans d5
      clear hvc hv hb1 hx c0 c1 c2 c3 c4 c5 b1 hL
      have F : ∀ u, Calls Try.prog 41 #[.agg #[.int .i64 p', .int .i64 o', .int .i64 f', .int .i64 m', .int .i64 g', .string s'], .agg #[.int .i64 p, .int .i64 o, .int .i64 f, .int .i64 m, .int .i64 g, .string s]] u fun e w' => e = .returned (.bool true) ∧ Calm u w' := fun u => by
        rw [← b2]; exact follows_any p' o' f' m' g' s' p o f m g s u
      clear b2
      have z0 : 0 < k := hk1
      have z1 : IntKind.i64.wrap ((k : Int) - 1) = (k : Int) - 1 := IntWalk.i64_in _ (by omega)
      have z2 : ((k : Int) - 1).toNat = k - 1 := by omega
      have z3 : 0 ≤ (k : Int) - 1 := by omega
      have z4 : (k : Int) - 1 < l.length := by omega
      have z5 : 1 ≤ (k : Int) := by omega
      refine wp_region_plan [.val (.int .i64 k), .val (.bool true), .val (.bool true), .val (.slice (some ⟨b, q, none⟩) l.length c), .val (.int .i64 k), .val (.int .i64 (k - 1)), .val (.pointer (some ⟨b, q + (k - 1) * 6, none⟩)), .val (.agg #[.int .i64 p', .int .i64 o', .int .i64 f', .int .i64 m', .int .i64 g', .string s']), .val (.agg #[.int .i64 p, .int .i64 o, .int .i64 f, .int .i64 m, .int .i64 g, .string s]), .val (.bool true), .val (.bool false), .val (.bool false)] (by kernel_rfl) (by kernel_rfl) (by kernel_rfl) ?_
      intro X
      iterate 12
        refine plan_val (by kernel_rfl) (fun u hu => ?_) ?_
        · obtain ⟨hc, hf, hz⟩ := hu.of_drew.facts
          go_simp
          all_goals first
            | (go_at_call 41; exact F _)
        simp only [Act.put, List.setIfInBounds_toArray, List.set_cons_zero, List.set_cons_succ, Nat.reduceAdd]
      refine plan_end ?_
      intro w' hB
      have hk := hB.calm.of_drew
      clear hB z0 z1 z2 z3 z4 z5
      go_wp2_with fail
      go_roundw
      case rel => exact ⟨k + 1, by omega, by go_num, hv1.call hk, hN1⟩
      case measure => simp [intOf]; omega
    · have b2 : decide (Fol ⟨p', o', f', m', g', s'⟩ ⟨p, o, f, m, g, s⟩) = false := decide_eq_false hF
      rw [if_neg hF] at hS
      have K : Hid (3 = runErr l) := hS.symm.trans (runErr_at hbig hN (by rw [hS]; decide) hlt)
      clear hS hF hk0
      go_wp2_with (go_at_call 40; refine (elemCheck_any _ _ _ _ _ _ _).mono ?_; rintro e w1 ⟨rfl, hb1⟩)
      have hx := (hb1.block (k := wr.heap.size) (by simp)).trans (heap_new wr _)
      obtain ⟨x0, x1, x2, x3, x4, x5, hxs⟩ := row6 hx
      have hv := ((Calm.refl wr).alloc _).call hb1
      have hv1 := hu.call hv
      have hb2 : b < w1.heap.size := Nat.lt_of_lt_of_le hb hv.size
      have hvc := hv.facts.1
      replace d0 := (hvc _ _ hb).trans d0; replace d1 := (hvc _ _ hb).trans d1; replace d2 := (hvc _ _ hb).trans d2; replace d3 := (hvc _ _ hb).trans d3; replace d4 := (hvc _ _ hb).trans d4; replace d5 := (hvc _ _ hb).trans d5
      clear hvc hv hb1 hx c0 c1 c2 c3 c4 c5 b1 hL
      have F : ∀ u, Calls Try.prog 41 #[.agg #[.int .i64 p', .int .i64 o', .int .i64 f', .int .i64 m', .int .i64 g', .string s'], .agg #[.int .i64 p, .int .i64 o, .int .i64 f, .int .i64 m, .int .i64 g, .string s]] u fun e w' => e = .returned (.bool false) ∧ Calm u w' := fun u => by
        rw [← b2]; exact follows_any p' o' f' m' g' s' p o f m g s u
      clear b2
      have z0 : 0 < k := hk1
      have z1 : IntKind.i64.wrap ((k : Int) - 1) = (k : Int) - 1 := IntWalk.i64_in _ (by omega)
      have z2 : ((k : Int) - 1).toNat = k - 1 := by omega
      have z3 : 0 ≤ (k : Int) - 1 := by omega
      have z4 : (k : Int) - 1 < l.length := by omega
      have z5 : 1 ≤ (k : Int) := by omega
      refine wp_region_plan [.val (.int .i64 k), .val (.bool true), .val (.bool true), .val (.slice (some ⟨b, q, none⟩) l.length c), .val (.int .i64 k), .val (.int .i64 (k - 1)), .val (.pointer (some ⟨b, q + (k - 1) * 6, none⟩)), .val (.agg #[.int .i64 p', .int .i64 o', .int .i64 f', .int .i64 m', .int .i64 g', .string s']), .val (.agg #[.int .i64 p, .int .i64 o, .int .i64 f, .int .i64 m, .int .i64 g, .string s]), .val (.bool false), .val (.bool true), .val (.bool true)] (by kernel_rfl) (by kernel_rfl) (by kernel_rfl) ?_
      intro X
      iterate 12
        refine plan_val (by kernel_rfl) (fun u hu => ?_) ?_
        · obtain ⟨hc, hf, hz⟩ := hu.of_drew.facts
          go_simp
          all_goals first
            | (go_at_call 41; exact F _)
        simp only [Act.put, List.setIfInBounds_toArray, List.set_cons_zero, List.set_cons_succ, Nat.reduceAdd]
      refine plan_end ?_
      intro w' hB
      have hk := hB.calm.of_drew
      clear hB z0 z1 z2 z3 z4 z5
      go_wp2_with fail
      go_ret
      exact ⟨ret_int K.out, hv1.call hk⟩
set_option maxHeartbeats 4000000 in
theorem runLast_any (A : Option Addr) (c : Nat) (l : List El) (w : World) (hn : l.length ≤ 9223372036854775807) (hL : Lies w A l) :
    Calls Try.prog 23 #[.slice A l.length c] w fun e w' => e = .returned (.tuple #[.int .i64 (if runErr l = 0 then latest l else 0), .int .i64 (runErr l)]) ∧ Calm w w' := by
  by_cases he : runErr l = 0
  rotate_left
  · have b1 : (runErr l != 0) = true := by simpa using he
    rw [if_neg he]
    clear he
    go_enter Try.func23, Try.ntmps23
    go_wp2_with (go_at_call 22; refine (runCheck_any _ _ _ _ hn hL).mono ?_; rintro e w1 ⟨rfl, hb1⟩)
    go_ret2
    exact ⟨rfl, hb1⟩
  have b1 : (runErr l != 0) = false := by simpa using he
  rw [if_pos he]
  have HE : Hid (runErr l = 0) := he
  clear he
  go_enter Try.func23, Try.ntmps23
  go_wp2_with (go_at_call 22; refine (runCheck_any _ _ _ _ hn hL).mono ?_; rintro e w1 ⟨rfl, hb1⟩)
  go_loopw [5, 15] (fun t i wr => ∃ k : Nat, k ≤ l.length ∧ i = .int .i64 k ∧ t = .int .i64 (latest (l.take k)) ∧ Calm w wr) (fun _ i _ => l.length - (intOf i).toNat)
  case atStart => exact ⟨0, Nat.zero_le _, rfl, rfl, hb1⟩
  case round =>
    obtain ⟨k, hk, rfl, rfl, hu⟩ := hrel
    by_cases hlt : k < l.length
    rotate_left
    · have K : Hid (latest (l.take k) = latest l) := by show _ = _; rw [List.take_of_length_le (by omega)]
      go_wp2_with fail
      go_ret2
      exact ⟨by rw [HE.out]; first | rfl | (rw [← K.out]; rfl), hu⟩
    obtain ⟨b, q, p, o, f, m, g, s, rfl, hb, HE, hm, c0, c1, c2, c3, c4, c5⟩ := (hL.calm hu).get hlt
    have K : Hid (latest (l.take (k + 1)) = if latest (l.take k) < lastOf m g then lastOf m g else latest (l.take k)) := by
      show _ = _
      rw [latest_take hlt, (List.getElem?_eq_some_iff.1 HE.out).2]
      rfl
    generalize latest (l.take k) = t0 at K ⊢
    go_wp2_with (go_at_call 27; refine (last_any _ _ _ _ _ _ _).mono ?_; rintro e w1 ⟨rfl, hb1⟩)
    go_roundw
    case rel => exact ⟨k + 1, by omega, by go_num, by rw [K.out], (hu.alloc _).call hb1⟩
    case measure => simp [intOf]; omega
open Go.RowKit
theorem decide_gt (p o f m p' o' f' m' : Int) : decide (0 < scmp p o f m p' o' f' m') = decide (sLt (p', o', f') m' (p, o, f) m) := by
 rw [Bool.eq_iff_iff, decide_eq_true_eq, decide_eq_true_eq]
 have h := scmp_sLt (a := ⟨p, o, f, m, 0, ByteArray.empty⟩) (b := ⟨p', o', f', m', 0, ByteArray.empty⟩)
 simp only [El.key] at h
 have h0 : scmp p o f m p' o' f' m' = 0 ↔ (p, o, f) = (p', o', f') ∧ m = m' := by rw [scmp_eq, kcmp_key]
 rcases scmp_or p o f m p' o' f' m' with h1 | h1 | h1
 ·rw [h1]
  constructor
  ·intro h2; omega
  ·intro h2; exact absurd (h.1 h1) (sLt_asymm h2)
 ·rw [h1]
  obtain ⟨e1, e2⟩ := h0.1 h1
  rw [e1, e2]
  constructor
  ·intro h2; omega
  ·intro h2; exact absurd h2 (sLt_irrefl _ _)
 ·rw [h1]
  constructor
  ·intro _
   rcases sLt_tri (p, o, f) m (p', o', f') m' with h2 | h2 | h2
   ·rw [h.2 h2] at h1; omega
   ·rw [h0.2 h2] at h1; omega
   ·exact h2
  ·intro _; omega
set_option maxHeartbeats 4000000 in
theorem after1_any (B1 B2 : Nat) (A : Option Addr) (c : Nat) (l : List El) (p' o' f' m' : Int) (i : Nat) (w : World) (hi : i < l.length) (hL : Lies w A l)
    (hx : w.heap[B1]? = some (.cells #[.slice A l.length c] 26 (0, 0))) (hy : w.heap[B2]? = some (.cells #[.int .i64 p', .int .i64 o', .int .i64 f', .int .i64 m'] 55 (0, 0))) :
    Calls Try.prog 111 #[.int .i64 i, .pointer (some ⟨B1, 0, none⟩), .pointer (some ⟨B2, 0, none⟩)] w fun e w' => e = .returned (.bool (decide (sLt (p', o', f') m' l[i].key l[i].m))) ∧ Calm w w' := by
  obtain ⟨b, q, p, o, f, m, g, s, rfl, hb, HE, hm, c0, c1, c2, c3, c4, c5⟩ := hL.get hi
  have hK : Hid (decide (0 < scmp p o f m p' o' f' m') = decide (sLt (p', o', f') m' l[i].key l[i].m)) := by
    rw [(List.getElem?_eq_some_iff.1 HE.out).2]; exact decide_gt _ _ _ _ _ _ _ _
  generalize decide (sLt (p', o', f') m' l[i].key l[i].m) = r at hK ⊢
  clear hL HE
  have x0 := cell_of_row _ _ 0 _ _ _ hx
  simp only [List.getElem?_toArray, List.getElem?_cons_zero] at x0
  have hxs := (Array.getElem?_eq_some_iff.1 hx).1
  obtain ⟨y0, y1, y2, y3, hys⟩ := row4 hy
  have hiz : (i : Int) < (l.length : Int) := by omega
  generalize l.length = n at *
  clear hx hy
  go_enter Try.func111, Try.ntmps111
  go_wp2_with fail
  refine wp_region_plan [.val (.slice (some ⟨b, q, none⟩) n c), .val (.int .i64 i), .val (.pointer (some ⟨b, q + i * 6, none⟩)), .val (.agg #[.int .i64 p, .int .i64 o, .int .i64 f, .int .i64 m, .int .i64 g, .string s]), .val (.agg #[.int .i64 p, .int .i64 o, .int .i64 f, .int .i64 m]), .val (.agg #[.int .i64 p', .int .i64 o', .int .i64 f', .int .i64 m']), .val (.int .i64 (scmp p o f m p' o' f' m')), .val (.bool (decide (0 < scmp p o f m p' o' f' m'))), .val (.bool (decide (0 < scmp p o f m p' o' f' m')))] (by kernel_rfl) (by kernel_rfl) (by kernel_rfl) ?_
  intro X
  iterate 9
    refine plan_val (by kernel_rfl) (fun u hu => ?_) ?_
    · obtain ⟨hc, hf, hz⟩ := hu.of_drew.facts
      go_simp
      all_goals first
        | (go_at_call 19; exact spot_any _ _ _ _ _ _ _)
        | (go_at_call 68; exact cmpSpot_any _ _ _ _ _ _ _ _ _)
    simp only [Act.put, List.setIfInBounds_toArray, List.set_cons_zero, List.set_cons_succ, Nat.reduceAdd]
  refine plan_end ?_
  intro w' hB
  have hk := hB.calm.of_drew
  clear hB
  go_wp2_with fail
  go_ret
  exact ⟨ret_bool hK.out, hk⟩
def Boxes (B1 B2 : Nat) (A : Option Addr) (n c : Nat) (p' o' f' m' : Int) (w : World) : Prop :=
 w.heap[B1]? = some (.cells #[.slice A n c] 26 (0, 0)) ∧ w.heap[B2]? = some (.cells #[.int .i64 p', .int .i64 o', .int .i64 f', .int .i64 m'] 55 (0, 0))
theorem Boxes.calm {B1 B2 : Nat} {A : Option Addr} {n c : Nat} {p' o' f' m' : Int} {w w' : World} (h : Boxes B1 B2 A n c p' o' f' m' w) (hb : Calm w w') : Boxes B1 B2 A n c p' o' f' m' w' :=
 ⟨(hb.block (Array.getElem?_eq_some_iff.1 h.1).1).trans h.1, (hb.block (Array.getElem?_eq_some_iff.1 h.2).1).trans h.2⟩
set_option maxHeartbeats 4000000 in
theorem search_any (B1 B2 : Nat) (A : Option Addr) (c : Nat) (l : List El) (p' o' f' m' : Int) (w : World) (hn : l.length ≤ 400) (hL : Lies w A l) (hS : l.Pairwise Fol) (hB : Boxes B1 B2 A l.length c p' o' f' m' w) :
    Calls Try.prog 100 #[.int .i64 l.length, .func (.func 111) #[] #[.pointer (some ⟨B1, 0, none⟩), .pointer (some ⟨B2, 0, none⟩)]] w fun e w' => e = .returned (.int .i64 (pos l (p', o', f') m')) ∧ Calm w w' := by
  have C : ∀ (u : World) (i : Nat) (r : Bool) (h : i < l.length), Calm w u → decide (sLt (p', o', f') m' l[i].key l[i].m) = r →
      Calls Try.prog 111 (#[.int .i64 i] ++ #[.pointer (some ⟨B1, 0, none⟩), .pointer (some ⟨B2, 0, none⟩)]) u fun e w' => e = .returned (.bool r) ∧ Calm u w' := fun u i r h hu hr => by
    rw [← hr]; exact after1_any B1 B2 A c l p' o' f' m' i u h (hL.calm hu) (hB.calm hu).1 (hB.calm hu).2
  have M : ∀ i j (hi : i < l.length) (hj : j < l.length), i ≤ j → sLt (p', o', f') m' l[i].key l[i].m → sLt (p', o', f') m' l[j].key l[j].m := fun i j hi hj hij h => by
    rcases Nat.lt_or_eq_of_le hij with h1 | h1
    · exact sLt_trans h (List.pairwise_iff_getElem.1 hS i j hi hj h1).1
    · subst h1; exact h
  clear hL hB hS
  go_enter Try.func100, Try.ntmps100
  go_wp2_with fail
  go_loopg [5, 6] l.length (fun kx s5 s6 wr => ∃ lo hi : Nat, s5 = .int .i64 lo ∧ s6 = .int .i64 hi ∧ lo ≤ hi ∧ hi ≤ l.length ∧ hi - lo ≤ kx ∧ Calm w wr ∧
    Hid ((∀ t (h : t < l.length), t < lo → ¬ sLt (p', o', f') m' l[t].key l[t].m) ∧ (∀ t (h : t < l.length), hi ≤ t → sLt (p', o', f') m' l[t].key l[t].m)))
  case atStart => exact ⟨0, l.length, rfl, rfl, Nat.zero_le _, Nat.le_refl _, by omega, Calm.refl _, show _ ∧ _ from ⟨fun t h ht => absurd ht (Nat.not_lt_zero _), fun t h1 h2 => by omega⟩⟩
  case round =>
    obtain ⟨lo, hi, rfl, rfl, hlh, hin, hg, hu, I⟩ := hrel
    by_cases hlt : lo < hi
    · have hmid : (lo + hi) / 2 < l.length := by omega
      cases hp : decide (sLt (p', o', f') m' l[(lo + hi) / 2].key l[(lo + hi) / 2].m)
      · have hc := C wr ((lo + hi) / 2) false hmid hu hp
        rw [show (((lo + hi) / 2 : Nat) : Int) = ((lo : Int) + (hi : Int)) / 2 by omega] at hc
        have I2 : Hid ((∀ t (h : t < l.length), t < (lo + hi) / 2 + 1 → ¬ sLt (p', o', f') m' l[t].key l[t].m) ∧ (∀ t (h : t < l.length), hi ≤ t → sLt (p', o', f') m' l[t].key l[t].m)) := show _ ∧ _ from
          ⟨fun t h ht h2 => absurd (M t _ h hmid (by omega) h2) (of_decide_eq_false hp), I.out.2⟩
        clear hp C
        go_wp2_with (go_at_call 111; refine hc.mono ?_; rintro e w1 ⟨rfl, hb1⟩)
        go_roundg (hi - ((lo + hi) / 2 + 1))
        case measure => omega
        case rel => exact ⟨(lo + hi) / 2 + 1, hi, by rw [show ((lo : Int) + (hi : Int)) / 2 + 1 = (((lo + hi) / 2 + 1 : Nat) : Int) by omega], rfl, by omega, hin, Nat.le_refl _, hu.call hb1, I2⟩
      · have hc := C wr ((lo + hi) / 2) true hmid hu hp
        rw [show (((lo + hi) / 2 : Nat) : Int) = ((lo : Int) + (hi : Int)) / 2 by omega] at hc
        have I2 : Hid ((∀ t (h : t < l.length), t < lo → ¬ sLt (p', o', f') m' l[t].key l[t].m) ∧ (∀ t (h : t < l.length), (lo + hi) / 2 ≤ t → sLt (p', o', f') m' l[t].key l[t].m)) := show _ ∧ _ from
          ⟨I.out.1, fun t h ht => M _ t hmid h ht (of_decide_eq_true hp)⟩
        clear hp C
        go_wp2_with (go_at_call 111; refine hc.mono ?_; rintro e w1 ⟨rfl, hb1⟩)
        go_roundg ((lo + hi) / 2 - lo)
        case measure => omega
        case rel => exact ⟨lo, (lo + hi) / 2, rfl, by rw [show ((lo : Int) + (hi : Int)) / 2 = (((lo + hi) / 2 : Nat) : Int) by omega], by omega, by omega, Nat.le_refl _, hu.call hb1, I2⟩
    · obtain rfl : hi = lo := by omega
      have K : Hid (pos l (p', o', f') m' = hi) := pos_part hin (fun i h hi' => I.out.1 i h hi') (fun i h hi' => I.out.2 i h hi')
      clear C
      go_wp2_with fail
      go_ret
      exact ⟨by rw [K.out]; rfl, hu⟩
open Go.RowKit
theorem str_ne {s s' : ByteArray} (h : ¬ s = s') : (s.toList == s'.toList) = false := by
 cases e : s.toList == s'.toList
 ·rfl
 ·exfalso
  have h2 := eq_of_beq e
  rw [ByteArray.toList_eq, ByteArray.toList_eq] at h2
  exact h (ByteArray.ext (Array.toList_inj.1 h2))
set_option maxHeartbeats 8000000 in
theorem equal_any (A A' : Option Addr) (c c' : Nat) (l l' : List El) (w : World) (hn : l.length ≤ 9223372036854775807) (_hn' : l'.length ≤ 9223372036854775807) (hL : Lies w A l) (hL' : Lies w A' l') :
    Calls Try.prog 11 #[.slice A l.length c, .slice A' l'.length c'] w fun e w' => e = .returned (.bool (decide (l = l'))) ∧ Calm w w' := by
  by_cases hll : l.length = l'.length
  rotate_left
  · have hd : decide (l = l') = false := decide_eq_false fun h => hll (by rw [h])
    have hz : ¬ (l.length : Int) = (l'.length : Int) := by omega
    rw [hd]
    clear hd hll hL hL'
    go_enter Try.func11, Try.ntmps11
    go_wp2_with fail
    go_ret
    exact ⟨rfl, Calm.refl _⟩
  have HD : Hid (decide (l = l') = decide (l = l')) := rfl
  generalize hr : decide (l = l') = r
  have HR : Hid (decide (l = l') = r) := hr
  clear hr HD
  obtain ⟨n, hn1⟩ : ∃ n, n = l.length := ⟨_, rfl⟩
  have hn2 : n = l'.length := hn1.trans hll
  rw [← hn1, ← hn2]
  rw [← hn1] at hn
  have HN1 : Hid (n = l.length) := hn1
  have HN2 : Hid (n = l'.length) := hn2
  clear hn1 hn2 hll
  go_enter Try.func11, Try.ntmps11
  go_wp2_with fail
  go_loopw [13] (fun i wr => ∃ k : Nat, k ≤ n ∧ i = .int .i64 k ∧ Calm w wr ∧ Hid (∀ j, j < k → l[j]? = l'[j]?)) (fun i _ => n - (intOf i).toNat)
  case atStart => exact ⟨0, Nat.zero_le _, rfl, Calm.refl _, show ∀ _, _ from fun j h => absurd h (Nat.not_lt_zero _)⟩
  case round =>
    obtain ⟨k, hk, rfl, hu, hN⟩ := hrel
    by_cases hlt : k < n
    rotate_left
    · have K : Hid (r = true) := by
        rw [← HR.out]
        refine decide_eq_true (List.ext_getElem? fun j => ?_)
        rcases Nat.lt_or_ge j k with h | h
        · exact hN.out j h
        · rw [List.getElem?_eq_none (by rw [← HN1.out]; omega), List.getElem?_eq_none (by rw [← HN2.out]; omega)]
      clear HR
      go_wp2_with fail
      go_ret
      exact ⟨by rw [K.out]; rfl, hu⟩
    obtain ⟨b, q, p, o, f, m, g, s, rfl, hb, HE, hm, c0, c1, c2, c3, c4, c5⟩ := (hL.calm hu).get (by rw [← HN1.out]; exact hlt)
    obtain ⟨b', q', p', o', f', m', g', s', rfl, hb', HE', hm', d0, d1, d2, d3, d4, d5⟩ := (hL'.calm hu).get (by rw [← HN2.out]; exact hlt)
    have hiz : (k : Int) < (n : Int) := by omega
    have hDF : (⟨p, o, f, m, g, s⟩ : El) ≠ ⟨p', o', f', m', g', s'⟩ → l ≠ l' := fun h h2 => by
      have h3 := HE.out; rw [h2, HE'.out] at h3; injection h3 with h3; exact h h3.symm
    have hN1 : (⟨p, o, f, m, g, s⟩ : El) = ⟨p', o', f', m', g', s'⟩ → Hid (∀ j, j < k + 1 → l[j]? = l'[j]?) := fun h => show ∀ _, _ from fun j hj => by
      rcases Nat.lt_or_ge j k with h2 | h2
      · exact hN.out j h2
      · rw [show j = k by omega, HE.out, HE'.out, h]
    have HR2 := HR.out
    clear hL hL' HE HE' hm hm'
    have hcs : ¬ p = p' ∨ (p = p' ∧ ¬ o = o') ∨ (p = p' ∧ o = o' ∧ ¬ f = f') ∨ (p = p' ∧ o = o' ∧ f = f' ∧ ¬ m = m') ∨ (p = p' ∧ o = o' ∧ f = f' ∧ m = m' ∧ ¬ g = g') ∨ (p = p' ∧ o = o' ∧ f = f' ∧ m = m' ∧ g = g' ∧ ¬ s = s') ∨ (p = p' ∧ o = o' ∧ f = f' ∧ m = m' ∧ g = g' ∧ s = s') := by
      by_cases e0 : p = p' <;> by_cases e1 : o = o' <;> by_cases e2 : f = f' <;> by_cases e3 : m = m' <;> by_cases e4 : g = g' <;> by_cases e5 : s = s' <;> simp [*]
    rcases hcs with h0 | ⟨h0, h1⟩ | ⟨h0, h1, h2⟩ | ⟨h0, h1, h2, h3⟩ | ⟨h0, h1, h2, h3, h4⟩ | ⟨h0, h1, h2, h3, h4, h5⟩ | ⟨h0, h1, h2, h3, h4, h5⟩
    · skip
      go_wp2_with fail
      refine wp_region_plan [.val (.slice (some ⟨b, q, none⟩) n c), .val (.int .i64 ((k : Int))), .val (.pointer (some ⟨b, q + k * 6, none⟩)), .val (.agg #[.int .i64 p, .int .i64 o, .int .i64 f, .int .i64 m, .int .i64 g, .string s]), .val (.slice (some ⟨b', q', none⟩) n c'), .val (.int .i64 ((k : Int))), .val (.pointer (some ⟨b', q' + k * 6, none⟩)), .val (.agg #[.int .i64 p', .int .i64 o', .int .i64 f', .int .i64 m', .int .i64 g', .string s']), .val (.bool true)] (by kernel_rfl) (by kernel_rfl) (by kernel_rfl) ?_
      intro X
      iterate 9
        refine plan_val (by kernel_rfl) (fun u hu => ?_) ?_
        · obtain ⟨hc, hf, hz⟩ := hu.of_drew.facts
          go_simp
        simp only [Act.put, List.setIfInBounds_toArray, List.set_cons_zero, List.set_cons_succ, Nat.reduceAdd]
      refine plan_end ?_
      intro w' hB
      have hk := hB.calm.of_drew
      clear hB
      go_wp2_with fail
      go_ret
      exact ⟨ret_bool ((decide_eq_false (hDF (by simp [*]))).symm.trans HR2), hu.call hk⟩
    · skip
      subst h0
      go_wp2_with fail
      refine wp_region_plan [.val (.slice (some ⟨b, q, none⟩) n c), .val (.int .i64 ((k : Int))), .val (.pointer (some ⟨b, q + k * 6, none⟩)), .val (.agg #[.int .i64 p, .int .i64 o, .int .i64 f, .int .i64 m, .int .i64 g, .string s]), .val (.slice (some ⟨b', q', none⟩) n c'), .val (.int .i64 ((k : Int))), .val (.pointer (some ⟨b', q' + k * 6, none⟩)), .val (.agg #[.int .i64 p, .int .i64 o', .int .i64 f', .int .i64 m', .int .i64 g', .string s']), .val (.bool true)] (by kernel_rfl) (by kernel_rfl) (by kernel_rfl) ?_
      intro X
      iterate 9
        refine plan_val (by kernel_rfl) (fun u hu => ?_) ?_
        · obtain ⟨hc, hf, hz⟩ := hu.of_drew.facts
          go_simp
        simp only [Act.put, List.setIfInBounds_toArray, List.set_cons_zero, List.set_cons_succ, Nat.reduceAdd]
      refine plan_end ?_
      intro w' hB
      have hk := hB.calm.of_drew
      clear hB
      go_wp2_with fail
      go_ret
      exact ⟨ret_bool ((decide_eq_false (hDF (by simp [*]))).symm.trans HR2), hu.call hk⟩
    · skip
      subst h0
      subst h1
      go_wp2_with fail
      refine wp_region_plan [.val (.slice (some ⟨b, q, none⟩) n c), .val (.int .i64 ((k : Int))), .val (.pointer (some ⟨b, q + k * 6, none⟩)), .val (.agg #[.int .i64 p, .int .i64 o, .int .i64 f, .int .i64 m, .int .i64 g, .string s]), .val (.slice (some ⟨b', q', none⟩) n c'), .val (.int .i64 ((k : Int))), .val (.pointer (some ⟨b', q' + k * 6, none⟩)), .val (.agg #[.int .i64 p, .int .i64 o, .int .i64 f', .int .i64 m', .int .i64 g', .string s']), .val (.bool true)] (by kernel_rfl) (by kernel_rfl) (by kernel_rfl) ?_
      intro X
      iterate 9
        refine plan_val (by kernel_rfl) (fun u hu => ?_) ?_
        · obtain ⟨hc, hf, hz⟩ := hu.of_drew.facts
          go_simp
        simp only [Act.put, List.setIfInBounds_toArray, List.set_cons_zero, List.set_cons_succ, Nat.reduceAdd]
      refine plan_end ?_
      intro w' hB
      have hk := hB.calm.of_drew
      clear hB
      go_wp2_with fail
      go_ret
      exact ⟨ret_bool ((decide_eq_false (hDF (by simp [*]))).symm.trans HR2), hu.call hk⟩
    · skip
      subst h0
      subst h1
      subst h2
      go_wp2_with fail
      refine wp_region_plan [.val (.slice (some ⟨b, q, none⟩) n c), .val (.int .i64 ((k : Int))), .val (.pointer (some ⟨b, q + k * 6, none⟩)), .val (.agg #[.int .i64 p, .int .i64 o, .int .i64 f, .int .i64 m, .int .i64 g, .string s]), .val (.slice (some ⟨b', q', none⟩) n c'), .val (.int .i64 ((k : Int))), .val (.pointer (some ⟨b', q' + k * 6, none⟩)), .val (.agg #[.int .i64 p, .int .i64 o, .int .i64 f, .int .i64 m', .int .i64 g', .string s']), .val (.bool true)] (by kernel_rfl) (by kernel_rfl) (by kernel_rfl) ?_
      intro X
      iterate 9
        refine plan_val (by kernel_rfl) (fun u hu => ?_) ?_
        · obtain ⟨hc, hf, hz⟩ := hu.of_drew.facts
          go_simp
        simp only [Act.put, List.setIfInBounds_toArray, List.set_cons_zero, List.set_cons_succ, Nat.reduceAdd]
      refine plan_end ?_
      intro w' hB
      have hk := hB.calm.of_drew
      clear hB
      go_wp2_with fail
      go_ret
      exact ⟨ret_bool ((decide_eq_false (hDF (by simp [*]))).symm.trans HR2), hu.call hk⟩
    · skip
      subst h0
      subst h1
      subst h2
      subst h3
      go_wp2_with fail
      refine wp_region_plan [.val (.slice (some ⟨b, q, none⟩) n c), .val (.int .i64 ((k : Int))), .val (.pointer (some ⟨b, q + k * 6, none⟩)), .val (.agg #[.int .i64 p, .int .i64 o, .int .i64 f, .int .i64 m, .int .i64 g, .string s]), .val (.slice (some ⟨b', q', none⟩) n c'), .val (.int .i64 ((k : Int))), .val (.pointer (some ⟨b', q' + k * 6, none⟩)), .val (.agg #[.int .i64 p, .int .i64 o, .int .i64 f, .int .i64 m, .int .i64 g', .string s']), .val (.bool true)] (by kernel_rfl) (by kernel_rfl) (by kernel_rfl) ?_
      intro X
      iterate 9
        refine plan_val (by kernel_rfl) (fun u hu => ?_) ?_
        · obtain ⟨hc, hf, hz⟩ := hu.of_drew.facts
          go_simp
        simp only [Act.put, List.setIfInBounds_toArray, List.set_cons_zero, List.set_cons_succ, Nat.reduceAdd]
      refine plan_end ?_
      intro w' hB
      have hk := hB.calm.of_drew
      clear hB
      go_wp2_with fail
      go_ret
      exact ⟨ret_bool ((decide_eq_false (hDF (by simp [*]))).symm.trans HR2), hu.call hk⟩
    · skip
      subst h0
      subst h1
      subst h2
      subst h3
      subst h4
      have hs1 : (s.toList == s'.toList) = false := str_ne h5
      go_wp2_with fail
      refine wp_region_plan [.val (.slice (some ⟨b, q, none⟩) n c), .val (.int .i64 ((k : Int))), .val (.pointer (some ⟨b, q + k * 6, none⟩)), .val (.agg #[.int .i64 p, .int .i64 o, .int .i64 f, .int .i64 m, .int .i64 g, .string s]), .val (.slice (some ⟨b', q', none⟩) n c'), .val (.int .i64 ((k : Int))), .val (.pointer (some ⟨b', q' + k * 6, none⟩)), .val (.agg #[.int .i64 p, .int .i64 o, .int .i64 f, .int .i64 m, .int .i64 g, .string s']), .val (.bool true)] (by kernel_rfl) (by kernel_rfl) (by kernel_rfl) ?_
      intro X
      iterate 9
        refine plan_val (by kernel_rfl) (fun u hu => ?_) ?_
        · obtain ⟨hc, hf, hz⟩ := hu.of_drew.facts
          go_simp
        simp only [Act.put, List.setIfInBounds_toArray, List.set_cons_zero, List.set_cons_succ, Nat.reduceAdd]
      refine plan_end ?_
      intro w' hB
      have hk := hB.calm.of_drew
      clear hB
      clear hs1
      go_wp2_with fail
      go_ret
      exact ⟨ret_bool ((decide_eq_false (hDF (by simp [*]))).symm.trans HR2), hu.call hk⟩
    · skip
      subst h0
      subst h1
      subst h2
      subst h3
      subst h4
      subst h5
      have hN2 := hN1 rfl
      clear hN1 hDF
      go_wp2_with fail
      refine wp_region_plan [.val (.slice (some ⟨b, q, none⟩) n c), .val (.int .i64 ((k : Int))), .val (.pointer (some ⟨b, q + k * 6, none⟩)), .val (.agg #[.int .i64 p, .int .i64 o, .int .i64 f, .int .i64 m, .int .i64 g, .string s]), .val (.slice (some ⟨b', q', none⟩) n c'), .val (.int .i64 ((k : Int))), .val (.pointer (some ⟨b', q' + k * 6, none⟩)), .val (.agg #[.int .i64 p, .int .i64 o, .int .i64 f, .int .i64 m, .int .i64 g, .string s]), .val (.bool false)] (by kernel_rfl) (by kernel_rfl) (by kernel_rfl) ?_
      intro X
      iterate 9
        refine plan_val (by kernel_rfl) (fun u hu => ?_) ?_
        · obtain ⟨hc, hf, hz⟩ := hu.of_drew.facts
          go_simp
        simp only [Act.put, List.setIfInBounds_toArray, List.set_cons_zero, List.set_cons_succ, Nat.reduceAdd]
      refine plan_end ?_
      intro w' hB
      have hk := hB.calm.of_drew
      clear hB
      go_wp2_with fail
      go_roundw
      case rel => exact ⟨k + 1, by omega, by go_num, hu.call hk, hN2⟩
      case measure => simp [intOf]; omega
theorem equal_self (A A' : Option Addr) (c c' : Nat) (l : List El) (w : World) (hn : l.length ≤ 9223372036854775807) (hL : Lies w A l) (hL' : Lies w A' l) :
    Calls Try.prog 11 #[.slice A l.length c, .slice A' l.length c'] w fun e w' => e = .returned (.bool true) ∧ Calm w w' := by
  have h := equal_any A A' c c' l l w hn hn hL hL'
  rw [decide_eq_true (rfl : l = l)] at h
  exact h
open Go.RowKit
set_option maxHeartbeats 2000000 in
theorem hasKids_any (kd : Int) (A1 A2 A3 A4 : Option Addr) (c1 c2 c3 c4 : Nat) (E : List El) (K : List Int) (S : List Sp) (T : List Int) (w : World) (hk : K.length ≤ 9223372036854775807) (hs : S.length ≤ 9223372036854775807) (ht : T.length ≤ 9223372036854775807) :
    Calls Try.prog 122 #[.agg #[.int .i64 kd, .slice A1 E.length c1, .slice A2 K.length c2, .slice A3 S.length c3, .slice A4 T.length c4]] w fun e w' => e = .returned (.bool (decide (0 < K.length ∨ 0 < S.length ∨ 0 < T.length))) ∧ Calm w w' := by
  have hx := heap_new w (.cells #[.int .i64 kd, .slice A1 E.length c1, .slice A2 K.length c2, .slice A3 S.length c3, .slice A4 T.length c4] 36)
  have hu := (Calm.refl w).alloc (.cells #[.int .i64 kd, .slice A1 E.length c1, .slice A2 K.length c2, .slice A3 S.length c3, .slice A4 T.length c4] 36)
  obtain ⟨x0, x1, x2, x3, x4, hxs⟩ := row5 hx
  clear hx
  generalize K.length = nk at *
  generalize S.length = ns at *
  generalize T.length = nt at *
  go_enter Try.func122, Try.ntmps122
  go_wp2
  all_goals
    go_ret
    exact ⟨ret_bool (Bool.eq_iff_iff.2 (by simp at * <;> omega)), (Calm.refl _).alloc _⟩
set_option maxHeartbeats 2000000 in
theorem checkFree_any (kd : Int) (A1 A2 A3 A4 : Option Addr) (c1 c2 c3 c4 : Nat) (E : List El) (K : List Int) (S : List Sp) (T : List Int) (w : World) (he : E.length ≤ 9223372036854775807) (hk : K.length ≤ 9223372036854775807) (hs : S.length ≤ 9223372036854775807) (ht : T.length ≤ 9223372036854775807) :
    Calls Try.prog 88 #[.agg #[.int .i64 kd, .slice A1 E.length c1, .slice A2 K.length c2, .slice A3 S.length c3, .slice A4 T.length c4]] w fun e w' => e = .returned (.int .i64 (freeErr E K S T)) ∧ Calm w w' := by
  have hx := heap_new w (.cells #[.int .i64 kd, .slice A1 E.length c1, .slice A2 K.length c2, .slice A3 S.length c3, .slice A4 T.length c4] 36)
  have hu := (Calm.refl w).alloc (.cells #[.int .i64 kd, .slice A1 E.length c1, .slice A2 K.length c2, .slice A3 S.length c3, .slice A4 T.length c4] 36)
  have cH := fun u => hasKids_any kd A1 A2 A3 A4 c1 c2 c3 c4 E K S T u hk hs ht
  have hG : Hid (freeErr E K S T = if 0 < E.length ∨ decide (0 < K.length ∨ 0 < S.length ∨ 0 < T.length) = true then 3 else 0) := by show _ = _; unfold freeErr; simp
  generalize freeErr E K S T = R at hG ⊢
  generalize decide (0 < K.length ∨ 0 < S.length ∨ 0 < T.length) = b at cH hG
  obtain ⟨x0, x1, x2, x3, x4, hxs⟩ := row5 hx
  clear hx
  generalize E.length = ne at *
  rcases Nat.eq_zero_or_pos ne with rfl | h0
  · cases b
    all_goals
      go_enter Try.func88, Try.ntmps88
      go_wp2_with (go_at_call 122; (with_reducible refine (cH _).mono ?_); rintro e w1 ⟨rfl, hb1⟩; replace hu := hu.call hb1; clear hb1)
      go_ret
      exact ⟨ret_int (by rw [hG.out]; simp), hu⟩
  · go_enter Try.func88, Try.ntmps88
    go_wp2_with fail
    go_ret
    exact ⟨ret_int (by rw [hG.out]; simp [h0]), hu⟩
open Go.RowKit
theorem ge_rise (p' o' f' m' g' : Int) (s' : ByteArray) (p o f m g : Int) (s : ByteArray) : decide (0 ≤ scmp p' o' f' m' p o f m) = !decide (Rise ⟨p', o', f', m', g', s'⟩ ⟨p, o, f, m, g, s⟩) := by
 have h := scmp_sLt (a := ⟨p', o', f', m', g', s'⟩) (b := ⟨p, o, f, m, g, s⟩)
 simp only at h
 have h2 : Rise ⟨p', o', f', m', g', s'⟩ ⟨p, o, f, m, g, s⟩ ↔ scmp p' o' f' m' p o f m = -1 := h.symm
 rw [Bool.eq_iff_iff, decide_eq_true_eq, Bool.not_eq_true', decide_eq_false_iff_not, h2]
 rcases scmp_or p' o' f' m' p o f m with h1 | h1 | h1 <;> rw [h1] <;> omega
set_option maxHeartbeats 4000000 in
theorem checkElems_any (A : Option Addr) (c : Nat) (l : List El) (w : World) (hn : l.length ≤ 9223372036854775807) (hL : Lies w A l) :
    Calls Try.prog 123 #[.slice A l.length c] w fun e w' => e = .returned (.int .i64 (elsErr l)) ∧ Calm w w' := by
  go_enter Try.func123, Try.ntmps123
  go_wp2_with fail
  go_loopw [8] (fun i wr => ∃ k : Nat, k ≤ l.length ∧ i = .int .i64 k ∧ Calm w wr ∧ NoStep l k) (fun i _ => l.length - (intOf i).toNat)
  case atStart => exact ⟨0, Nat.zero_le _, rfl, Calm.refl _, NoStep.zero l⟩
  case round =>
    obtain ⟨k, hk, rfl, hu, hN⟩ := hrel
    by_cases hlt : k < l.length
    rotate_left
    · have K : Hid (0 = elsErr l) := hN.good (by omega)
      go_wp2_with fail
      go_ret
      exact ⟨ret_int K.out, hu⟩
    obtain ⟨b, q, p, o, f, m, g, s, rfl, hb, HE, hm, c0, c1, c2, c3, c4, c5⟩ := (hL.calm hu).get hlt
    by_cases he : elemErr p o f m g s.size = 0
    rotate_left
    · have b1 : (elemErr p o f m g s.size != 0) = true := by simpa using he
      have K : Hid (elemErr p o f m g s.size = elsErr l) := by
        have h1 := sStep_err HE.out (show El.err ⟨p, o, f, m, g, s⟩ ≠ 0 from he)
        rw [← hN.bad (by rw [h1]; exact he) hlt, h1]; rfl
      clear he
      go_wp2_with (go_at_call 40; refine (elemCheck_any _ _ _ _ _ _ _).mono ?_; rintro e w1 ⟨rfl, hb1⟩)
      go_ret
      exact ⟨ret_int K.out, by repeat (first | (with_reducible exact Calm.refl _) | (with_reducible refine Calm.alloc ?_ _) | (with_reducible refine Calm.drew ?_) | (with_reducible refine Calm.drewN ?_ _) | (refine Calm.call ?_ (by with_reducible assumption)))⟩
    have b1 : (elemErr p o f m g s.size != 0) = false := by simpa using he
    have HE0 : Hid (elemErr p o f m g s.size = 0) := he
    clear he
    by_cases hk0 : k = 0
    · subst hk0
      have hN1 : NoStep l 1 := hN.succ (sStep_first HE.out HE0.out)
      simp only [Nat.zero_mul, Nat.add_zero] at c0 c1 c2 c3 c4 c5
      go_wp2_with (go_at_call 40; refine (elemCheck_any _ _ _ _ _ _ _).mono ?_; rintro e w1 ⟨rfl, hb1⟩)
      refine wp_region_plan [.val (.int .i64 (0)), .val (.bool false), .val (.bool false), .idle, .idle, .idle, .idle, .idle, .idle, .idle, .idle, .idle, .idle, .val (.bool false)] (by kernel_rfl) (by kernel_rfl) (by kernel_rfl) ?_
      intro X
      iterate 3
        refine plan_val (by kernel_rfl) (fun u hu => ?_) ?_
        · obtain ⟨hc, hf, hz⟩ := hu.of_drew.facts
          go_simp
        simp only [Act.put, List.setIfInBounds_toArray, List.set_cons_zero, List.set_cons_succ, Nat.reduceAdd]
      iterate 10
        refine plan_idle (by kernel_rfl) ?_
        simp only [Act.put, List.setIfInBounds_toArray, List.set_cons_zero, List.set_cons_succ, Nat.reduceAdd]
      iterate 1
        refine plan_val (by kernel_rfl) (fun u hu => ?_) ?_
        · obtain ⟨hc, hf, hz⟩ := hu.of_drew.facts
          go_simp
        simp only [Act.put, List.setIfInBounds_toArray, List.set_cons_zero, List.set_cons_succ, Nat.reduceAdd]
      refine plan_end ?_
      intro w' hB
      have hk := hB.calm.of_drew
      clear hB
      go_wp2_with fail
      exact ⟨⟨1, by omega, rfl, ((hu.alloc _).call hb1).call hk, hN1⟩, by simp [intOf]; omega⟩
    obtain ⟨p', o', f', m', g', s', HE', hm', d0, d1, d2, d3, d4, d5⟩ := (hL.calm hu).get2 (k := k - 1) (by omega)
    have hS := sStep_form HE.out HE0.out (by omega) HE'.out
    have hk1 : 1 ≤ k := by omega
    have hge := ge_rise p' o' f' m' g' s' p o f m g s
    have cS := fun u => cmpSpot_any p' o' f' m' p o f m u
    generalize scmp p' o' f' m' p o f m = C at hge cS
    by_cases hF : Rise ⟨p', o', f', m', g', s'⟩ ⟨p, o, f, m, g, s⟩
    · rw [if_pos hF] at hS
      rw [decide_eq_true hF] at hge
      have hC : ¬ 0 ≤ C := by simpa using hge
      have hN1 : NoStep l (k + 1) := hN.succ hS
      clear hS hF hk0 hge
      go_wp2_with (go_at_call 40; refine (elemCheck_any _ _ _ _ _ _ _).mono ?_; rintro e w1 ⟨rfl, hb1⟩)
      have hx := (hb1.block (k := wr.heap.size) (by simp)).trans (heap_new wr _)
      obtain ⟨x0, x1, x2, x3, x4, x5, hxs⟩ := row6 hx
      have hv := ((Calm.refl wr).alloc _).call hb1
      have hv1 := hu.call hv
      have hb2 : b < w1.heap.size := Nat.lt_of_lt_of_le hb hv.size
      have hvc := hv.facts.1
      replace d0 := (hvc _ _ hb).trans d0; replace d1 := (hvc _ _ hb).trans d1; replace d2 := (hvc _ _ hb).trans d2; replace d3 := (hvc _ _ hb).trans d3; replace d4 := (hvc _ _ hb).trans d4; replace d5 := (hvc _ _ hb).trans d5
      clear hvc hv hb1 hx c0 c1 c2 c3 c4 c5 b1 hL
      have z0 : 0 < k := hk1
      have z1 : IntKind.i64.wrap ((k : Int) - 1) = (k : Int) - 1 := IntWalk.i64_in _ (by omega)
      have z2 : ((k : Int) - 1).toNat = k - 1 := by omega
      have z3 : 0 ≤ (k : Int) - 1 := by omega
      have z4 : (k : Int) - 1 < l.length := by omega
      have z5 : 1 ≤ (k : Int) := by omega
      refine wp_region_plan [.val (.int .i64 (k)), .val (.bool true), .val (.bool true), .val (.slice (some ⟨b, q, none⟩) l.length c), .val (.int .i64 (k)), .val (.int .i64 ((k : Int) - 1)), .val (.pointer (some ⟨b, q + (k - 1) * 6, none⟩)), .val (.agg #[.int .i64 p', .int .i64 o', .int .i64 f', .int .i64 m', .int .i64 g', .string s']), .val (.agg #[.int .i64 p', .int .i64 o', .int .i64 f', .int .i64 m']), .val (.agg #[.int .i64 p, .int .i64 o, .int .i64 f, .int .i64 m, .int .i64 g, .string s]), .val (.agg #[.int .i64 p, .int .i64 o, .int .i64 f, .int .i64 m]), .val (.int .i64 (C)), .val (.bool false), .val (.bool false)] (by kernel_rfl) (by kernel_rfl) (by kernel_rfl) ?_
      intro X
      iterate 14
        refine plan_val (by kernel_rfl) (fun u hu => ?_) ?_
        · obtain ⟨hc, hf, hz⟩ := hu.of_drew.facts
          go_simp
          all_goals first
            | ((go_at_call 19; exact spot_any _ _ _ _ _ _ _))
            | ((go_at_call 68; exact cS _))
        simp only [Act.put, List.setIfInBounds_toArray, List.set_cons_zero, List.set_cons_succ, Nat.reduceAdd]
      refine plan_end ?_
      intro w' hB
      have hk := hB.calm.of_drew
      clear hB
      clear z0 z1 z2 z3 z4 z5
      go_wp2_with fail
      go_roundw
      case rel => exact ⟨k + 1, by omega, by go_num, hv1.call hk, hN1⟩
      case measure => simp [intOf]; omega
    · rw [if_neg hF] at hS
      rw [decide_eq_false hF] at hge
      have hC : 0 ≤ C := by simpa using hge
      have K : Hid (3 = elsErr l) := hS.symm.trans (hN.bad (by rw [hS]; decide) hlt)
      clear hS hF hk0 hge
      go_wp2_with (go_at_call 40; refine (elemCheck_any _ _ _ _ _ _ _).mono ?_; rintro e w1 ⟨rfl, hb1⟩)
      have hx := (hb1.block (k := wr.heap.size) (by simp)).trans (heap_new wr _)
      obtain ⟨x0, x1, x2, x3, x4, x5, hxs⟩ := row6 hx
      have hv := ((Calm.refl wr).alloc _).call hb1
      have hv1 := hu.call hv
      have hb2 : b < w1.heap.size := Nat.lt_of_lt_of_le hb hv.size
      have hvc := hv.facts.1
      replace d0 := (hvc _ _ hb).trans d0; replace d1 := (hvc _ _ hb).trans d1; replace d2 := (hvc _ _ hb).trans d2; replace d3 := (hvc _ _ hb).trans d3; replace d4 := (hvc _ _ hb).trans d4; replace d5 := (hvc _ _ hb).trans d5
      clear hvc hv hb1 hx c0 c1 c2 c3 c4 c5 b1 hL
      have z0 : 0 < k := hk1
      have z1 : IntKind.i64.wrap ((k : Int) - 1) = (k : Int) - 1 := IntWalk.i64_in _ (by omega)
      have z2 : ((k : Int) - 1).toNat = k - 1 := by omega
      have z3 : 0 ≤ (k : Int) - 1 := by omega
      have z4 : (k : Int) - 1 < l.length := by omega
      have z5 : 1 ≤ (k : Int) := by omega
      refine wp_region_plan [.val (.int .i64 (k)), .val (.bool true), .val (.bool true), .val (.slice (some ⟨b, q, none⟩) l.length c), .val (.int .i64 (k)), .val (.int .i64 ((k : Int) - 1)), .val (.pointer (some ⟨b, q + (k - 1) * 6, none⟩)), .val (.agg #[.int .i64 p', .int .i64 o', .int .i64 f', .int .i64 m', .int .i64 g', .string s']), .val (.agg #[.int .i64 p', .int .i64 o', .int .i64 f', .int .i64 m']), .val (.agg #[.int .i64 p, .int .i64 o, .int .i64 f, .int .i64 m, .int .i64 g, .string s]), .val (.agg #[.int .i64 p, .int .i64 o, .int .i64 f, .int .i64 m]), .val (.int .i64 (C)), .val (.bool true), .val (.bool true)] (by kernel_rfl) (by kernel_rfl) (by kernel_rfl) ?_
      intro X
      iterate 14
        refine plan_val (by kernel_rfl) (fun u hu => ?_) ?_
        · obtain ⟨hc, hf, hz⟩ := hu.of_drew.facts
          go_simp
          all_goals first
            | ((go_at_call 19; exact spot_any _ _ _ _ _ _ _))
            | ((go_at_call 68; exact cS _))
        simp only [Act.put, List.setIfInBounds_toArray, List.set_cons_zero, List.set_cons_succ, Nat.reduceAdd]
      refine plan_end ?_
      intro w' hB
      have hk := hB.calm.of_drew
      clear hB
      clear z0 z1 z2 z3 z4 z5
      go_wp2_with fail
      go_ret
      exact ⟨ret_int K.out, hv1.call hk⟩
open Go.RowKit
def nilE : El := ⟨0, 0, 0, 0, 0, { data := #[] }⟩
def cellsL (l : List El) : List Value := l.flatMap El.cells
theorem cellsL_length (l : List El) : (cellsL l).length = l.length * 6 := by
 induction l with
 |nil => rfl
 |cons a l ih => simp [cellsL] at ih ⊢; rw [ih]; simp [El.cells]; omega
theorem cellsL_get (l : List El) : ∀ (i j : Nat), j < 6 → (cellsL l)[i * 6 + j]? = (l[i]?).bind fun e => e.cells[j]? := by
 induction l with
 |nil => intro i j _; simp [cellsL]
 |cons a l ih =>
  intro i j hj
  have e : cellsL (a :: l) = a.cells ++ cellsL l := by simp [cellsL]
  have h6 : a.cells.length = 6 := rfl
  rw [e]
  cases i with
  |zero => rw [List.getElem?_append_left (by omega)]; simp
  |succ i =>
   rw [List.getElem?_append_right (by omega), h6, show (i + 1) * 6 + j - 6 = i * 6 + j from by omega, ih i j hj]
   simp
def RowE (w : World) (g : Nat) (l : List El) : Prop := w.heap[g]? = some (.cells (cellsL l).toArray 43 (0, 0))
theorem RowE.lt {w : World} {g : Nat} {l : List El} (h : RowE w g l) : g < w.heap.size := (Array.getElem?_eq_some_iff.1 h).1
theorem RowE.calm {w w' : World} {g : Nat} {l : List El} (h : RowE w g l) (hb : Calm w w') : RowE w' g l := (hb.block h.lt).trans h
theorem RowE.cell {w : World} {g : Nat} {l : List El} (h : RowE w g l) {i j : Nat} (hj : j < 6) : w.cell? ⟨g, i * 6 + j, none⟩ = (l[i]?).bind fun e => e.cells[j]? := by
 rw [cell_of_row _ _ _ _ _ _ h, List.getElem?_toArray, cellsL_get _ _ _ hj]
theorem RowE.free {w : World} {g : Nat} {l : List El} (h : RowE w g l) (o : Nat) : w.frozen? ⟨g, o, none⟩ = false := frozen_of_row _ _ _ _ _ h
theorem RowE.lies {w : World} {g : Nat} {l : List El} (h : RowE w g l) (hw : ∀ e ∈ l, e.wf) : Lies w (some ⟨g, 0, none⟩) l := by
 refine ⟨hw, fun _ => ⟨g, 0, rfl, h.lt, fun k e he => ?_⟩⟩
 have c := fun j (hj : j < 6) => h.cell (i := k) hj
 simp only [he, Option.bind_some] at c
 refine ⟨?_, ?_, ?_, ?_, ?_, ?_⟩
 ·rw [Nat.zero_add]; exact c 0 (by omega)
 ·rw [Nat.zero_add]; exact c 1 (by omega)
 ·rw [Nat.zero_add]; exact c 2 (by omega)
 ·rw [Nat.zero_add]; exact c 3 (by omega)
 ·rw [Nat.zero_add]; exact c 4 (by omega)
 ·rw [Nat.zero_add]; exact c 5 (by omega)
theorem cellsL_append (a b : List El) : cellsL (a ++ b) = cellsL a ++ cellsL b := by simp [cellsL]
theorem set_sixth (X Y : List Value) (n i : Nat) (hX : X.length = n) (v : Value) : (X ++ Y).set (n + i) v = X ++ Y.set i v := by
 rw [List.set_append_right _ _ (by omega), hX, Nat.add_sub_cancel_left]
theorem six_set {l : List El} {j : Nat} (hj : j < l.length) (e : El) :
    ((((((cellsL l).set (j * 6) (.int .i64 e.p)).set (j * 6 + 1) (.int .i64 e.o)).set (j * 6 + 2) (.int .i64 e.f)).set (j * 6 + 3) (.int .i64 e.m)).set (j * 6 + 4) (.int .i64 e.g)).set (j * 6 + 5) (.string e.s) = cellsL (l.set j e) := by
  have hl : cellsL l = cellsL (l.take j) ++ (l[j].cells ++ cellsL (l.drop (j + 1))) := by
    have h1 : l = l.take j ++ l[j] :: l.drop (j + 1) := by rw [← List.drop_eq_getElem_cons hj, List.take_append_drop]
    calc cellsL l = cellsL (l.take j ++ l[j] :: l.drop (j + 1)) := congrArg cellsL h1
      _ = _ := by rw [cellsL_append, show cellsL (l[j] :: l.drop (j + 1)) = l[j].cells ++ cellsL (l.drop (j + 1)) from rfl]
  have hs : cellsL (l.set j e) = cellsL (l.take j) ++ (e.cells ++ cellsL (l.drop (j + 1))) := by
    rw [List.set_eq_take_append_cons_drop, if_pos hj, cellsL_append]; simp [cellsL]
  have hX : (cellsL (l.take j)).length = j * 6 := by rw [cellsL_length, List.length_take]; omega
  rw [hl, hs]
  generalize cellsL (l.take j) = X at hX
  generalize cellsL (l.drop (j + 1)) = Y
  rw [show (X ++ (l[j].cells ++ Y)).set (j * 6) (.int .i64 e.p) = X ++ (l[j].cells ++ Y).set 0 (.int .i64 e.p) from set_sixth X _ _ 0 hX _, set_sixth _ _ _ 1 hX, set_sixth _ _ _ 2 hX, set_sixth _ _ _ 3 hX, set_sixth _ _ _ 4 hX, set_sixth _ _ _ 5 hX]
  rfl
/-- The record at j stored anew. -/
theorem RowE.six {w : World} {g : Nat} {l : List El} (h : RowE w g l) {j : Nat} (hj : j < l.length) (e : El) :
    RowE ((((((w.setCell ⟨g, j * 6, none⟩ (.int .i64 e.p)).setCell ⟨g, j * 6 + 1, none⟩ (.int .i64 e.o)).setCell ⟨g, j * 6 + 2, none⟩ (.int .i64 e.f)).setCell ⟨g, j * 6 + 3, none⟩ (.int .i64 e.m)).setCell ⟨g, j * 6 + 4, none⟩ (.int .i64 e.g)).setCell ⟨g, j * 6 + 5, none⟩ (.string e.s)) g (l.set j e) := by
  have h1 := heap_setCell_same w g (j * 6) _ _ (.int .i64 e.p) h
  have h2 := heap_setCell_same _ g (j * 6 + 1) _ _ (.int .i64 e.o) h1
  have h3 := heap_setCell_same _ g (j * 6 + 2) _ _ (.int .i64 e.f) h2
  have h4 := heap_setCell_same _ g (j * 6 + 3) _ _ (.int .i64 e.m) h3
  have h5 := heap_setCell_same _ g (j * 6 + 4) _ _ (.int .i64 e.g) h4
  have h6 := heap_setCell_same _ g (j * 6 + 5) _ _ (.string e.s) h5
  simp only [List.setIfInBounds_toArray, six_set hj e] at h6
  exact h6
theorem infoElem6 : (Try.prog.info? 43).map (fun i => (i.zero, i.size, i.bytes)) = some (some (.agg #[.int .i64 0, .int .i64 0, .int .i64 0, .int .i64 0, .int .i64 0, .string { data := #[] }]), 6, 56) := by kernel_rfl
/-- make([]api.Elem, k). -/
theorem makeElems (w : World) (k : Nat) (hk : k ≤ 400) : (Instr.makeSlice 26 (.int .i64 (k : Int)) (.int .i64 (k : Int))).run Try.prog w =
    .ok (.slice (some ⟨w.heap.size, 0, none⟩) k k) (w.alloc (.cells (cellsL (List.replicate k nilE)).toArray 43)) := by
  obtain ⟨i, hi, hz, h1, h2⟩ : ∃ i, Try.prog.info? 43 = some i ∧ i.zero = some (.agg #[.int .i64 0, .int .i64 0, .int .i64 0, .int .i64 0, .int .i64 0, .string { data := #[] }]) ∧ i.size = 6 ∧ i.bytes = 56 := by
    have h := infoElem6
    match hi : Try.prog.info? 43, h with
    | some i, h =>
      simp only [Option.map_some, Option.some.injEq, Prod.mk.injEq] at h
      exact ⟨i, rfl, h.1, h.2.1, h.2.2⟩
  rw [run_make w 26 43 i _ Try.underlying26 hi hz .i64 .i64 k k (by omega) (by omega) (by rw [h2]; omega) (by omega), h1]
  have e : madeCells (Value.agg #[.int .i64 0, .int .i64 0, .int .i64 0, .int .i64 0, .int .i64 0, .string { data := #[] }]).cells (((k : Int)).toNat * 6) = (cellsL (List.replicate k nilE)).toArray := by
    rw [Int.toNat_natCast]
    apply Array.toList_inj.1
    apply List.ext_getElem?
    intro n
    rw [← Nat.div_add_mod' n 6, List.toList_toArray, cellsL_get _ _ _ (Nat.mod_lt _ (by omega)), List.getElem?_replicate]
    simp only [madeCells, Array.toList_map, Array.toList_range, List.getElem?_map, Value.cells]
    by_cases h : n / 6 < k
    · rw [if_pos h, List.getElem?_range (by omega)]
      have h6 : (n / 6 * 6 + n % 6) % 6 = n % 6 := by omega
      have h7 := Nat.mod_lt n (show 0 < 6 by omega)
      simp only [Option.map_some, Option.bind_some, nilE, El.cells]
      rw [show (#[Value.int IntKind.i64 0, Value.int IntKind.i64 0, Value.int IntKind.i64 0, Value.int IntKind.i64 0, Value.int IntKind.i64 0, Value.string { data := #[] }] : Array Value).size = 6 from rfl, h6]
      generalize n % 6 = j at h7
      match j, h7 with
      | 0, _ => rfl
      | 1, _ => rfl
      | 2, _ => rfl
      | 3, _ => rfl
      | 4, _ => rfl
      | 5, _ => rfl
    · rw [if_neg h, List.getElem?_eq_none (by simp; omega)]; rfl
  rw [e]; rfl
def laidL (S : List Sp) (k : Nat) : List El := (S.take k).map Sp.el ++ List.replicate (S.length - k) nilE
theorem laidL_length {S : List Sp} {k : Nat} (h : k ≤ S.length) : (laidL S k).length = S.length := by simp [laidL]; omega
theorem laidL_succ {S : List Sp} {k : Nat} {s : Sp} (h : S[k]? = some s) : (laidL S k).set k s.el = laidL S (k + 1) := by
 have hk : k < S.length := (List.getElem?_eq_some_iff.1 h).1
 have hs : S[k] = s := (List.getElem?_eq_some_iff.1 h).2
 have hl : ((S.take k).map Sp.el).length = k := by simp; omega
 unfold laidL
 rw [List.set_append_right _ _ (by omega), hl, Nat.sub_self, show S.length - k = (S.length - (k + 1)) + 1 from by omega, List.replicate_succ, List.set_cons_zero, List.take_succ_eq_append_getElem hk, List.map_append, List.append_assoc, hs]
 rfl
set_option maxHeartbeats 4000000 in
theorem records_any (A : Option Addr) (c : Nat) (S : List Sp) (w : World) (hn : S.length ≤ 400) (hL : LiesS w A S) :
    Calls Try.prog 124 #[.slice A S.length c] w fun e w' => ∃ g, e = .returned (.slice (some ⟨g, 0, none⟩) S.length S.length) ∧ Lies w' (some ⟨g, 0, none⟩) (S.map Sp.el) ∧ Calm w w' := by
  have hmk := makeElems w S.length hn
  have hwf : ∀ e ∈ S.map Sp.el, e.wf := fun e he => by
    obtain ⟨x, hx, rfl⟩ := List.mem_map.1 he
    exact hL.1 x hx
  go_enter Try.func124, Try.ntmps124
  go_wp2_with fail
  go_loopw [11] (fun i wr => ∃ k : Nat, k ≤ S.length ∧ i = .int .i64 k ∧ Calm w wr ∧ RowE wr w.heap.size (laidL S k)) (fun i _ => S.length - (intOf i).toNat)
  case atStart => exact ⟨0, Nat.zero_le _, rfl, (Calm.refl _).alloc _, by unfold laidL RowE; simpa using heap_new w (.cells (cellsL (List.replicate S.length nilE)).toArray 43)⟩
  case round =>
    obtain ⟨k, hk, rfl, hu, hR⟩ := hrel
    by_cases hlt : k < S.length
    rotate_left
    · obtain rfl : k = S.length := by omega
      rw [laidL, List.take_of_length_le (Nat.le_refl _), Nat.sub_self, List.replicate_zero, List.append_nil] at hR
      go_wp2_with fail
      go_ret
      exact ⟨_, rfl, hR.lies hwf, hu⟩
    obtain ⟨b, q, p, o, f, m, rfl, hb, HE, hm, c0, c1, c2, c3⟩ := (hL.calm hu).get hlt
    go_upto_region 5 with fail
    have hx := heap_new wr (.cells #[.int .i64 p, .int .i64 o, .int .i64 f, .int .i64 m] 55)
    have hv := (Calm.refl wr).alloc (.cells #[.int .i64 p, .int .i64 o, .int .i64 f, .int .i64 m] 55)
    generalize wr.alloc (.cells #[.int .i64 p, .int .i64 o, .int .i64 f, .int .i64 m] 55) = wz at hx hv ⊢
    obtain ⟨x0, x1, x2, x3, hxs⟩ := row4 hx
    have hRz := hR.calm hv
    have hlen : k < (laidL S k).length := by rw [laidL_length (by omega)]; exact hlt
    have hC := fun j (hj : j < 6) => hRz.cell (i := k) hj
    simp only [List.getElem?_eq_getElem hlen, Option.bind_some, El.cells] at hC
    have d0 := hC 0 (by omega)
    have d1 := hC 1 (by omega)
    have d2 := hC 2 (by omega)
    have d3 := hC 3 (by omega)
    have d4 := hC 4 (by omega)
    have d5 := hC 5 (by omega)
    simp only [Nat.add_zero, List.getElem?_cons_zero, List.getElem?_cons_succ] at d0 d1 d2 d3 d4 d5
    have f0 := hRz.free (k * 6)
    have f1 := hRz.free (k * 6 + 1)
    have f2 := hRz.free (k * 6 + 2)
    have f3 := hRz.free (k * 6 + 3)
    have f4 := hRz.free (k * 6 + 4)
    have f5 := hRz.free (k * 6 + 5)
    have hR2 := hRz.six hlen (Sp.el ⟨p, o, f, m⟩)
    rw [laidL_succ HE.out] at hR2
    have hu2 := ((((((hu.call hv).setCell (p := ⟨w.heap.size, k * 6, none⟩) (Nat.le_refl _) (.int .i64 p)).setCell (p := ⟨w.heap.size, k * 6 + 1, none⟩) (Nat.le_refl _) (.int .i64 o)).setCell (p := ⟨w.heap.size, k * 6 + 2, none⟩) (Nat.le_refl _) (.int .i64 f)).setCell (p := ⟨w.heap.size, k * 6 + 3, none⟩) (Nat.le_refl _) (.int .i64 m)).setCell (p := ⟨w.heap.size, k * 6 + 4, none⟩) (Nat.le_refl _) (.int .i64 0)).setCell (p := ⟨w.heap.size, k * 6 + 5, none⟩) (Nat.le_refl _) (.string { data := #[] })
    generalize (laidL S k)[k] = z at d0 d1 d2 d3 d4 d5
    clear hC hRz hv hx hR
    have H2 := Lib.hid hR2
    have U2 := Lib.hid hu2
    clear hR2 hu2
    go_wp2_with fail
    go_roundw
    case rel => exact ⟨k + 1, by omega, by go_num, U2.out, H2.out⟩
    case measure => simp [intOf]; omega
open Go.RowKit
set_option maxHeartbeats 4000000 in
theorem checkLeaf_any (kd : Int) (A1 A2 A3 A4 : Option Addr) (c1 c2 c3 c4 : Nat) (E : List El) (K : List Int) (S : List Sp) (T : List Int) (w : World) (h : NdAt w A1 A2 A3 A4 E K S T) :
    Calls Try.prog 89 #[.agg #[.int .i64 kd, .slice A1 E.length c1, .slice A2 K.length c2, .slice A3 S.length c3, .slice A4 T.length c4]] w fun e w' => e = .returned (.int .i64 (leafErr E K S T)) ∧ Calm w w' := by
  have cH := fun u => hasKids_any kd A1 A2 A3 A4 c1 c2 c3 c4 E K S T u h.nk h.ns h.nt
  have hx := heap_new w (.cells #[.int .i64 kd, .slice A1 E.length c1, .slice A2 K.length c2, .slice A3 S.length c3, .slice A4 T.length c4] 36)
  have hu := (Calm.refl w).alloc (.cells #[.int .i64 kd, .slice A1 E.length c1, .slice A2 K.length c2, .slice A3 S.length c3, .slice A4 T.length c4] 36)
  have hne := h.ne
  by_cases hB : 0 < K.length ∨ 0 < S.length ∨ 0 < T.length
  · have hG : Hid (3 = leafErr E K S T) := (if_pos hB).symm
    rw [decide_eq_true hB] at cH
    clear hB
    go_enter Try.func89, Try.ntmps89
    go_wp2_with (go_at_call 122; (with_reducible refine (cH _).mono ?_); rintro e w1 ⟨rfl, hb1⟩; replace hu := hu.call hb1; clear hb1)
    go_ret
    exact ⟨ret_int hG.out, hu⟩
  rw [decide_eq_false hB] at cH
  by_cases h8 : 8 < E.length
  · have hG : Hid (2 = leafErr E K S T) := by show _ = _; unfold leafErr; rw [if_neg hB, if_pos h8]
    have h8' : (8 : Int) < E.length := by omega
    clear hB h8
    go_enter Try.func89, Try.ntmps89
    go_wp2_with (go_at_call 122; (with_reducible refine (cH _).mono ?_); rintro e w1 ⟨rfl, hb1⟩; replace hu := hu.call hb1; replace hx := (hb1.block (row5 hx).2.2.2.2.2).trans hx; clear hb1; obtain ⟨x0, x1, x2, x3, x4, hxs⟩ := row5 hx)
    go_ret
    exact ⟨ret_int hG.out, hu⟩
  have hG : Hid (elsErr E = leafErr E K S T) := by show _ = _; unfold leafErr; rw [if_neg hB, if_neg h8]
  have h8' : (E.length : Int) ≤ 8 := by omega
  have hL : Hid (Lies w A1 E) := h.e
  clear hB h8
  go_enter Try.func89, Try.ntmps89
  go_wp2_with (first
    | (go_at_call 122; (with_reducible refine (cH _).mono ?_); rintro e w1 ⟨rfl, hb1⟩; replace hu := hu.call hb1; replace hx := (hb1.block (row5 hx).2.2.2.2.2).trans hx; clear hb1; obtain ⟨x0, x1, x2, x3, x4, hxs⟩ := row5 hx)
    | (go_at_call 123; refine (checkElems_any _ _ E _ hne (hL.out.calm hu)).mono ?_; rintro e w1 ⟨rfl, hb1⟩; replace hu := hu.call hb1; clear hb1))
  go_ret
  exact ⟨ret_int hG.out, hu⟩
open Go.RowKit
set_option maxHeartbeats 4000000 in
theorem checkInner_any (kd : Int) (A1 A2 A3 A4 : Option Addr) (c1 c2 c3 c4 : Nat) (E : List El) (K : List Int) (S : List Sp) (T : List Int) (w : World) (h : NdAt w A1 A2 A3 A4 E K S T) :
    Calls Try.prog 90 #[.agg #[.int .i64 kd, .slice A1 E.length c1, .slice A2 K.length c2, .slice A3 S.length c3, .slice A4 T.length c4]] w fun e w' => e = .returned (.int .i64 (innerErr E K S T)) ∧ Calm w w' := by
  have hx := heap_new w (.cells #[.int .i64 kd, .slice A1 E.length c1, .slice A2 K.length c2, .slice A3 S.length c3, .slice A4 T.length c4] 36)
  have hu := (Calm.refl w).alloc (.cells #[.int .i64 kd, .slice A1 E.length c1, .slice A2 K.length c2, .slice A3 S.length c3, .slice A4 T.length c4] 36)
  obtain ⟨hne, hnk, hns, hnt⟩ : _ ∧ _ ∧ _ ∧ _ := ⟨h.ne, h.nk, h.ns, h.nt⟩
  by_cases hF : formI E K S T
  · have hG : Hid (3 = innerErr E K S T) := (if_pos hF).symm
    unfold formI at hF
    generalize innerErr E K S T = R at hG ⊢
    generalize E.length = ne at *
    generalize K.length = nk at *
    generalize S.length = ns at *
    generalize T.length = nt at *
    obtain ⟨x0, x1, x2, x3, x4, hxs⟩ := row5 hx
    clear hx h
    have h4 : (0 : Int) < ne ∨ ((ne : Int) ≤ 0 ∧ (nk : Int) < 2) ∨ ((ne : Int) ≤ 0 ∧ (2 : Int) ≤ nk ∧ ns + 1 ≠ nk) ∨ ((ne : Int) ≤ 0 ∧ (2 : Int) ≤ nk ∧ ns + 1 = nk ∧ nt ≠ nk) := by omega
    clear hF
    rcases h4 with h4 | ⟨h4, h5⟩ | ⟨h4, h5, h6⟩ | ⟨h4, h5, h6, h7⟩
    · go_enter Try.func90, Try.ntmps90
      go_wp2_with fail
      go_ret
      exact ⟨ret_int hG.out, hu⟩
    · obtain rfl : ne = 0 := by omega
      clear h4
      go_enter Try.func90, Try.ntmps90
      go_wp2_with fail
      go_ret
      exact ⟨ret_int hG.out, hu⟩
    · obtain rfl : ne = 0 := by omega
      have b1 : ((ns : Int) != (nk : Int) - 1) = true := by rw [bne_iff_ne]; omega
      clear h4
      go_enter Try.func90, Try.ntmps90
      go_wp2_with fail
      go_ret
      exact ⟨ret_int hG.out, hu⟩
    · obtain rfl : ne = 0 := by omega
      have b1 : ((ns : Int) != (nk : Int) - 1) = false := by rw [bne_eq_false_iff_eq]; omega
      have b2 : ((nt : Int) != (nk : Int)) = true := by rw [bne_iff_ne]; omega
      clear h4 h6 h7
      go_enter Try.func90, Try.ntmps90
      go_wp2_with fail
      go_ret
      exact ⟨ret_int hG.out, hu⟩
  have hF2 : E.length = 0 ∧ 2 ≤ K.length ∧ S.length + 1 = K.length ∧ T.length = K.length := by unfold formI at hF; omega
  obtain ⟨hE0, hK2, hSK, hTK⟩ := hF2
  have b1 : ((S.length : Int) != (K.length : Int) - 1) = false := by rw [bne_eq_false_iff_eq]; omega
  have b2 : ((T.length : Int) != (K.length : Int)) = false := by rw [bne_eq_false_iff_eq]; omega
  have hK2' : (2 : Int) ≤ (K.length : Int) := by omega
  by_cases h8 : 8 < K.length
  · have hG : Hid (2 = innerErr E K S T) := by show _ = _; unfold innerErr; rw [if_neg hF, if_pos h8]
    have h8' : (8 : Int) < (K.length : Int) := by omega
    rw [hE0] at hx hu ⊢
    obtain ⟨x0, x1, x2, x3, x4, hxs⟩ := row5 hx
    clear hF hSK hTK h8
    go_enter Try.func90, Try.ntmps90
    go_wp2_with fail
    go_ret
    exact ⟨ret_int hG.out, hu⟩
  have h8' : (K.length : Int) ≤ 8 := by omega
  have hG : innerErr E K S T = if kidsErr K T ≠ 0 then kidsErr K T else elsErr (S.map Sp.el) := by unfold innerErr; rw [if_neg hF, if_neg h8]
  generalize innerErr E K S T = R at hG ⊢
  have HG := Lib.hid hG
  rw [hE0] at hx hu ⊢
  obtain ⟨hLK, hLS, hLT⟩ : Hid (LiesI w A2 K) ∧ Hid (LiesS w A3 S) ∧ Hid (LiesI w A4 T) := ⟨h.k, h.s, h.t⟩
  obtain ⟨x0, x1, x2, x3, x4, hxs⟩ := row5 hx
  have hTK' := Lib.hid hTK
  have hSK' := Lib.hid hSK
  have hS8 : S.length ≤ 400 := by omega
  clear hF hG h hE0 hSK hTK h8
  go_enter Try.func90, Try.ntmps90
  go_wp2_with fail
  go_loopw [38] (fun i wr => ∃ k : Nat, k ≤ K.length ∧ i = .int .i64 k ∧ Calm w wr ∧ wr.heap[w.heap.size]? = some (.cells #[.int .i64 kd, .slice A1 0 c1, .slice A2 K.length c2, .slice A3 S.length c3, .slice A4 T.length c4] 36 (0, 0)) ∧ NoKid K T k) (fun i _ => K.length - (intOf i).toNat)
  case atStart => exact ⟨0, Nat.zero_le _, rfl, hu, hx, NoKid.zero K T⟩
  case round =>
    obtain ⟨k, hk, rfl, hv, hy, hN⟩ := hrel
    clear x0 x1 x2 x3 x4 hxs hx hu
    obtain ⟨x0, x1, x2, x3, x4, hxs⟩ := row5 hy
    by_cases hlt : k < K.length
    rotate_left
    · have hK0 := hN.good (by omega)
      have K0 : Hid (R = elsErr (S.map Sp.el)) := HG.out.trans (by rw [hK0, if_neg (by simp)])
      clear hK0
      go_wp2_with (first
        | (go_at_call 124; refine (records_any _ _ S _ hS8 (hLS.out.calm hv)).mono ?_; rintro e w1 ⟨g, rfl, hL1, hb1⟩; replace hv := hv.call hb1; clear hb1; have HL1 := Lib.hid hL1; clear hL1)
        | (go_at_call 123; rw [show S.length = (S.map Sp.el).length from by simp]; refine (checkElems_any _ _ (S.map Sp.el) _ (by simp; omega) HL1.out).mono ?_; rintro e w1 ⟨rfl, hb1⟩; replace hv := hv.call hb1; clear hb1))
      go_ret
      exact ⟨ret_int K0.out.symm, hv⟩
    obtain ⟨b, q, x, rfl, hb, HX, cx⟩ := (hLK.out.calm hv).get hlt
    obtain ⟨b', q', y, rfl, hb', HY, cy⟩ := (hLT.out.calm hv).get (k := k) (by rw [hTK'.out]; exact hlt)
    have hst := kStep_at HX.out HY.out
    have hkT : (k : Int) < (T.length : Int) := by have := hTK'.out; omega
    by_cases hx1 : 0 ≤ x ∧ x ≤ 399
    rotate_left
    · rw [if_neg hx1] at hst
      have hR := hN.bad (by rw [hst]; decide) hlt
      have K1 : Hid (R = 1) := HG.out.trans (by rw [← hR, hst, if_pos (by decide)])
      have h2 : x < 0 ∨ 0 ≤ x ∧ 400 ≤ x := by omega
      clear hx1 hst hR
      rcases h2 with h2 | ⟨h2, h3⟩
      · go_wp2_with fail
        go_ret
        exact ⟨ret_int K1.out.symm, hv⟩
      · go_wp2_with fail
        go_ret
        exact ⟨ret_int K1.out.symm, hv⟩
    rw [if_pos hx1] at hst
    have h2 : 0 ≤ x := hx1.1
    have h3 : x < 400 := by omega
    by_cases hy1 : 0 ≤ y ∧ y ≤ 2147483647
    rotate_left
    · rw [if_neg hy1] at hst
      have hR := hN.bad (by rw [hst]; decide) hlt
      have K1 : Hid (R = 9) := HG.out.trans (by rw [← hR, hst, if_pos (by decide)])
      have h4 : y < 0 ∨ 0 ≤ y ∧ 2147483647 < y := by omega
      clear hy1 hx1 hst hR
      rcases h4 with h4 | ⟨h4, h5⟩
      · go_wp2_with fail
        go_ret
        exact ⟨ret_int K1.out.symm, hv⟩
      · go_wp2_with fail
        go_ret
        exact ⟨ret_int K1.out.symm, hv⟩
    rw [if_pos hy1] at hst
    have hN1 := hN.succ hst
    have h4 : 0 ≤ y := hy1.1
    have h5 : y ≤ 2147483647 := hy1.2
    clear hy1 hx1 hst hN
    go_wp2_with fail
    go_roundw
    case rel => exact ⟨k + 1, by omega, by go_num, hv, hy, hN1⟩
    case measure => simp [intOf]; omega
open Go.RowKit
theorem nd_free (E : List El) (K : List Int) (S : List Sp) (T : List Int) : ndErr 0 E K S T = freeErr E K S T := if_pos rfl
theorem nd_leaf (E : List El) (K : List Int) (S : List Sp) (T : List Int) : ndErr 1 E K S T = leafErr E K S T := by unfold ndErr; rw [if_neg (by decide), if_pos rfl]
theorem nd_inner (E : List El) (K : List Int) (S : List Sp) (T : List Int) : ndErr 2 E K S T = innerErr E K S T := by unfold ndErr; rw [if_neg (by decide), if_neg (by decide), if_pos rfl]
theorem nd_other {kd : Int} (h0 : kd ≠ 0) (h1 : kd ≠ 1) (h2 : kd ≠ 2) (E : List El) (K : List Int) (S : List Sp) (T : List Int) : ndErr kd E K S T = 3 := by unfold ndErr; rw [if_neg h0, if_neg h1, if_neg h2]
set_option maxHeartbeats 4000000 in
theorem nodeCheck_any (kd : Int) (A1 A2 A3 A4 : Option Addr) (c1 c2 c3 c4 : Nat) (E : List El) (K : List Int) (S : List Sp) (T : List Int) (w : World) (h : NdAt w A1 A2 A3 A4 E K S T) :
    Calls Try.prog 48 #[.agg #[.int .i64 kd, .slice A1 E.length c1, .slice A2 K.length c2, .slice A3 S.length c3, .slice A4 T.length c4]] w fun e w' => e = .returned (.int .i64 (ndErr kd E K S T)) ∧ Calm w w' := by
  have hx := heap_new w (.cells #[.int .i64 kd, .slice A1 E.length c1, .slice A2 K.length c2, .slice A3 S.length c3, .slice A4 T.length c4] 36)
  have hu := (Calm.refl w).alloc (.cells #[.int .i64 kd, .slice A1 E.length c1, .slice A2 K.length c2, .slice A3 S.length c3, .slice A4 T.length c4] 36)
  have cF := fun u => checkFree_any kd A1 A2 A3 A4 c1 c2 c3 c4 E K S T u h.ne h.nk h.ns h.nt
  have cL := fun u (hu : Calm w u) => checkLeaf_any kd A1 A2 A3 A4 c1 c2 c3 c4 E K S T u (h.calm hu)
  have cI := fun u (hu : Calm w u) => checkInner_any kd A1 A2 A3 A4 c1 c2 c3 c4 E K S T u (h.calm hu)
  clear h
  by_cases h0 : kd = 0
  · subst h0
    rw [nd_free]
    clear cL cI
    obtain ⟨x0, x1, x2, x3, x4, hxs⟩ := row5 hx
    go_enter Try.func48, Try.ntmps48
    go_wp2_with (go_at_call 88; (with_reducible refine (cF _).mono ?_); rintro e w1 ⟨rfl, hb1⟩; replace hu := hu.call hb1; clear hb1)
    go_ret
    exact ⟨rfl, hu⟩
  by_cases h1 : kd = 1
  · subst h1
    rw [nd_leaf]
    clear cF cI
    obtain ⟨x0, x1, x2, x3, x4, hxs⟩ := row5 hx
    go_enter Try.func48, Try.ntmps48
    go_wp2_with (go_at_call 89; (with_reducible refine (cL _ hu).mono ?_); rintro e w1 ⟨rfl, hb1⟩; replace hu := hu.call hb1; clear hb1)
    go_ret
    exact ⟨rfl, hu⟩
  by_cases h2 : kd = 2
  · subst h2
    rw [nd_inner]
    clear cF cL
    obtain ⟨x0, x1, x2, x3, x4, hxs⟩ := row5 hx
    go_enter Try.func48, Try.ntmps48
    go_wp2_with (go_at_call 90; (with_reducible refine (cI _ hu).mono ?_); rintro e w1 ⟨rfl, hb1⟩; replace hu := hu.call hb1; clear hb1)
    go_ret
    exact ⟨rfl, hu⟩
  rw [nd_other h0 h1 h2]
  have b0 : (kd == 0) = false := by rw [beq_eq_false_iff_ne]; exact h0
  have b1 : (kd == 1) = false := by rw [beq_eq_false_iff_ne]; exact h1
  have b2 : (kd == 2) = false := by rw [beq_eq_false_iff_ne]; exact h2
  clear cF cL cI h0 h1 h2
  obtain ⟨x0, x1, x2, x3, x4, hxs⟩ := row5 hx
  go_enter Try.func48, Try.ntmps48
  go_wp2_with fail
  go_ret
  exact ⟨rfl, hu⟩
open Go.RowKit
theorem gMax_if (t : Int) (l : List Int) (x : Int) : gMax t (l ++ [x]) = if gMax t l < x then x else gMax t l := by
 rw [gMax_snoc, Int.max_def]
 split <;> split <;> omega
theorem lasts_take {E : List El} {k : Nat} {e : El} (h : E[k]? = some e) : (E.take (k + 1)).map El.last = (E.take k).map El.last ++ [e.last] := by
 have hk : k < E.length := (List.getElem?_eq_some_iff.1 h).1
 rw [List.take_succ_eq_append_getElem hk, List.map_append, (List.getElem?_eq_some_iff.1 h).2]
 rfl
theorem ints_take {T : List Int} {k : Nat} {x : Int} (h : T[k]? = some x) : T.take (k + 1) = T.take k ++ [x] := by
 have hk : k < T.length := (List.getElem?_eq_some_iff.1 h).1
 rw [List.take_succ_eq_append_getElem hk, (List.getElem?_eq_some_iff.1 h).2]
set_option maxHeartbeats 4000000 in
theorem nodeTid_any (kd : Int) (A1 A2 A3 A4 : Option Addr) (c1 c2 c3 c4 : Nat) (E : List El) (K : List Int) (S : List Sp) (T : List Int) (w : World) (h : NdAt w A1 A2 A3 A4 E K S T) :
    Calls Try.prog 36 #[.agg #[.int .i64 kd, .slice A1 E.length c1, .slice A2 K.length c2, .slice A3 S.length c3, .slice A4 T.length c4]] w fun e w' => e = .returned (.tuple #[.int .i64 (if ndErr kd E K S T = 0 then ndTid E T else 0), .int .i64 (ndErr kd E K S T)]) ∧ Calm w w' := by
  have hx := heap_new w (.cells #[.int .i64 kd, .slice A1 E.length c1, .slice A2 K.length c2, .slice A3 S.length c3, .slice A4 T.length c4] 36)
  have hu := (Calm.refl w).alloc (.cells #[.int .i64 kd, .slice A1 E.length c1, .slice A2 K.length c2, .slice A3 S.length c3, .slice A4 T.length c4] 36)
  have cC := fun u (hu : Calm w u) => nodeCheck_any kd A1 A2 A3 A4 c1 c2 c3 c4 E K S T u (h.calm hu)
  by_cases he : ndErr kd E K S T = 0
  rotate_left
  · have b1 : (ndErr kd E K S T != 0) = true := by simpa using he
    rw [if_neg he]
    generalize ndErr kd E K S T = R at cC b1 ⊢
    clear he
    go_enter Try.func36, Try.ntmps36
    go_wp2_with (go_at_call 48; (with_reducible refine (cC _ hu).mono ?_); rintro e w1 ⟨rfl, hb1⟩; replace hu := hu.call hb1; clear hb1)
    go_ret2
    exact ⟨rfl, hu⟩
  rw [if_pos he]
  rw [he] at cC ⊢
  clear he
  obtain ⟨hLE, hLT⟩ : Hid (Lies w A1 E) ∧ Hid (LiesI w A4 T) := ⟨h.e, h.t⟩
  obtain ⟨hne, hnt⟩ : _ ∧ _ := ⟨h.ne, h.nt⟩
  clear h
  go_enter Try.func36, Try.ntmps36
  go_wp2_with (go_at_call 48; (with_reducible refine (cC _ hu).mono ?_); rintro e w1 ⟨rfl, hb1⟩; replace hu := hu.call hb1; replace hx := (hb1.block (row5 hx).2.2.2.2.2).trans hx; clear hb1; obtain ⟨x0, x1, x2, x3, x4, hxs⟩ := row5 hx)
  go_loopw [5, 18] (fun t i wr => ∃ k : Nat, k ≤ E.length ∧ i = .int .i64 k ∧ t = .int .i64 (gMax 0 ((E.take k).map El.last)) ∧ Calm w wr ∧ wr.heap[w.heap.size]? = some (.cells #[.int .i64 kd, .slice A1 E.length c1, .slice A2 K.length c2, .slice A3 S.length c3, .slice A4 T.length c4] 36 (0, 0))) (fun _ i _ => E.length - (intOf i).toNat)
  case atStart => exact ⟨0, Nat.zero_le _, rfl, rfl, hu, hx⟩
  case round =>
    obtain ⟨k, hk, rfl, rfl, hv, hy⟩ := hrel
    clear x0 x1 x2 x3 x4 hxs hx hu
    by_cases hlt : k < E.length
    · obtain ⟨b, q, p, o, f, m, g, s, rfl, hb, HE, hm, c0, c1', c2', c3', c4', c5⟩ := (hLE.out.calm hv).get hlt
      have K1 : Hid (gMax 0 ((E.take (k + 1)).map El.last) = if gMax 0 ((E.take k).map El.last) < lastOf m g then lastOf m g else gMax 0 ((E.take k).map El.last)) := by
        show _ = _
        rw [lasts_take HE.out, gMax_if]; rfl
      generalize gMax 0 ((E.take k).map El.last) = t0 at K1 ⊢
      go_wp2_with (go_at_call 27; refine (last_any _ _ _ _ _ _ _).mono ?_; rintro e w1 ⟨rfl, hb1⟩)
      go_roundw
      case rel => exact ⟨k + 1, by omega, by go_num, by rw [K1.out], (hv.alloc _).call hb1, (hb1.block (by have := (row5 hy).2.2.2.2.2; simp; omega)).trans (heap_past _ hy)⟩
      case measure => simp [intOf]; omega
    · have hE : Hid ((E.take k).map El.last = E.map El.last) := by show _ = _; rw [List.take_of_length_le (by omega)]
      rw [hE.out]
      obtain ⟨x0, x1, x2, x3, x4, hxs⟩ := row5 hy
      go_wp2_with fail
      go_loopw [5, 30] (fun t i wr => ∃ k : Nat, k ≤ T.length ∧ i = .int .i64 k ∧ t = .int .i64 (gMax 0 (E.map El.last ++ T.take k)) ∧ Calm w wr) (fun _ i _ => T.length - (intOf i).toNat)
      case atStart => exact ⟨0, Nat.zero_le _, rfl, by rw [List.take_zero, List.append_nil], hv⟩
      case round =>
        obtain ⟨k', hk', rfl, rfl, hz⟩ := hrel
        by_cases hlt' : k' < T.length
        · obtain ⟨b, q, x, rfl, hb, HX, cx⟩ := (hLT.out.calm hz).get hlt'
          have K1 : Hid (gMax 0 (E.map El.last ++ T.take (k' + 1)) = if gMax 0 (E.map El.last ++ T.take k') < x then x else gMax 0 (E.map El.last ++ T.take k')) := by
            show _ = _
            rw [ints_take HX.out, ← List.append_assoc, gMax_if]
          generalize gMax 0 (E.map El.last ++ T.take k') = t0 at K1 ⊢
          go_wp2_with fail
          go_roundw
          case rel => exact ⟨k' + 1, by omega, by go_num, by rw [K1.out], hz⟩
          case measure => simp [intOf]; omega
        · have hT : Hid (gMax 0 (E.map El.last ++ T.take k') = ndTid E T) := by show _ = _; rw [List.take_of_length_le (by omega)]; rfl
          go_wp2_with fail
          go_ret2
          exact ⟨by rw [← hT.out]; rfl, hz⟩
open Go.RowKit
/-- What a right inner node is. -/
theorem inner_good {E : List El} {K : List Int} {S : List Sp} {T : List Int} (h : ndErr 2 E K S T = 0) : E.length = 0 ∧ 2 ≤ K.length ∧ K.length ≤ 8 ∧ S.length + 1 = K.length ∧ T.length = K.length ∧ (∀ y ∈ T, 0 ≤ y ∧ y ≤ 2147483647) ∧ (∀ e ∈ S.map Sp.el, e.err = 0) ∧ (S.map Sp.el).Pairwise Rise := by
 rw [nd_inner] at h
 unfold innerErr at h
 split at h
 ·cases h
 ·rename_i hF
  unfold formI at hF
  split at h
  ·cases h
  ·split at h
   ·rename_i h2; exact absurd h h2
   ·rename_i h2
    obtain ⟨h3, h4⟩ := elsErr_zero.1 h
    have h5 := (kidsErr_zero (by omega)).1 (Classical.not_not.1 h2)
    exact ⟨by omega, by omega, by omega, by omega, by omega, h5.2, h3, h4⟩
/-- What a right leaf is. -/
theorem leaf_good {E : List El} {K : List Int} {S : List Sp} {T : List Int} (h : ndErr 1 E K S T = 0) : K.length = 0 ∧ S.length = 0 ∧ T.length = 0 ∧ E.length ≤ 8 ∧ (∀ e ∈ E, e.err = 0) ∧ E.Pairwise Rise := by
 rw [nd_leaf] at h
 unfold leafErr at h
 split at h
 ·cases h
 ·split at h
  ·cases h
  ·obtain ⟨h3, h4⟩ := elsErr_zero.1 h
   exact ⟨by omega, by omega, by omega, by omega, h3, h4⟩
theorem free_good {E : List El} {K : List Int} {S : List Sp} {T : List Int} (h : ndErr 0 E K S T = 0) : E.length = 0 ∧ K.length = 0 ∧ S.length = 0 ∧ T.length = 0 := by
 rw [nd_free] at h
 unfold freeErr at h
 split at h
 ·cases h
 ·omega
theorem nd_kinds {kd : Int} {E : List El} {K : List Int} {S : List Sp} {T : List Int} (h : ndErr kd E K S T = 0) : kd = 0 ∨ kd = 1 ∨ kd = 2 := by
 by_cases h0 : kd = 0
 ·exact Or.inl h0
 by_cases h1 : kd = 1
 ·exact Or.inr (Or.inl h1)
 by_cases h2 : kd = 2
 ·exact Or.inr (Or.inr h2)
 rw [nd_other h0 h1 h2] at h
 cases h
open Go.RowKit
theorem ahead_rise (p' o' f' m' g' : Int) (s' : ByteArray) (p o f m g : Int) (s : ByteArray) : aheadS p' o' f' m' p o f m = decide (Rise ⟨p', o', f', m', g', s'⟩ ⟨p, o, f, m, g, s⟩) := by
 have h := scmp_sLt (a := ⟨p', o', f', m', g', s'⟩) (b := ⟨p, o, f, m, g, s⟩)
 simp only at h
 unfold aheadS
 rw [Bool.eq_iff_iff, decide_eq_true_eq, decide_eq_true_eq]
 exact h
open Go.RowKit
def iv (l : List Int) : List Value := l.map (Value.int .i64)
def OwnI (base : Nat) (w : World) (v : Value) (l : List Int) : Prop := w.ownsRow base 3 1 v l.length (iv l)
theorem iv_length (l : List Int) : (iv l).length = l.length := by simp [iv]
theorem iv_one (l : List Int) : ∀ u ∈ iv l, u.oneCell' = true := by
 intro u hu
 obtain ⟨n, _, rfl⟩ := List.mem_map.1 hu
 rfl
theorem infoInt : (Try.prog.info? 3).map (fun i => (i.zero, i.size, i.bytes)) = some (some (.int .i64 0), 1, 8) := by kernel_rfl
theorem OwnI.lt {base : Nat} {w : World} {v : Value} {l : List Int} (h : OwnI base w v l) : ∀ k, v.ownBlock = some k → base ≤ k ∧ k < w.heap.size := World.ownsRow.lt h
theorem OwnI.calm {base : Nat} {w w' : World} {v : Value} {l : List Int} (h : OwnI base w v l) (hb : Calm w w') : OwnI base w' v l := World.ownsRow.kept h (hb.grownBy none) (by
 rcases v.ownBlock with _ | k
 ·exact .inl rfl
 ·exact .inr (by simp))
theorem OwnI.nil (base : Nat) (w : World) : OwnI base w (.slice none 0 0) [] := World.ownsRow_nil _ _ _ _
theorem Calm.grownI {a w w' : World} {base : Nat} {v : Value} {l : List Int} (h : Calm a w) (hb : a.heap.size ≤ base) (ho : OwnI base w v l) (hg : w.grownBy w' v.ownBlock) : Calm a w' :=
 Below.grown h hg h.size fun k hk => Nat.le_trans hb (ho.lt k hk).1
theorem OwnI.lies {base : Nat} {w : World} {v : Value} {l : List Int} (h : OwnI base w v l) : ∃ A c, v = .slice A l.length c ∧ LiesI w A l := by
 rcases h.2 with ⟨rfl, hl⟩ | ⟨g, cap, cur, rfl, _, hg, hnc, hcm, _, ht⟩
 ·have : l = [] := List.eq_nil_of_length_eq_zero hl
  subst this
  exact ⟨none, 0, rfl, fun h => absurd h (by simp)⟩
 ·refine ⟨some ⟨g, 0, none⟩, cap, rfl, fun _ => ⟨g, 0, rfl, (Array.getElem?_eq_some_iff.1 hg).1, fun k x hx => ?_⟩⟩
  have hk : k < l.length := (List.getElem?_eq_some_iff.1 hx).1
  have h2 := congrArg (·[k]?) ht
  simp only [Nat.mul_one] at h2
  rw [List.getElem?_take_of_lt hk, Array.getElem?_toList] at h2
  rw [Nat.zero_add, cell_of_row w g _ cur _ (0, 0) hg, h2]
  simp [iv, hx]
open Go.RowKit
section
variable {wl w w' : World} {B g : Nat} {kd : Int} {vE bK bS bT vK vS vT v' : Value} {K : List Int} {S : List Sp} {T : List Int}
theorem rows_calm {e : TypeId} {size n : Nat} {v : Value} {xs : List Value} (h : w.ownsRow B e size v n xs) (hb : Calm w w') : w'.ownsRow B e size v n xs := World.ownsRow.kept h (hb.grownBy none) (by
 rcases v.ownBlock with _ | k
 ·exact .inl rfl
 ·exact .inr (by simp))
end
open Go.RowKit
theorem OwnI.at_ {B : Nat} {w : World} {A : Option Addr} {n c : Nat} {l : List Int} (h : OwnI B w (.slice A n c) l) : LiesI w A l := by
 obtain ⟨A', c', e, h2⟩ := h.lies
 injection e with e1
 rw [e1]; exact h2
open Go.RowKit
def inB (lo hi s : Sp) : Prop := scmp lo.p lo.o lo.f lo.m s.p s.o s.f s.m ≤ 0 ∧ scmp s.p s.o s.f s.m hi.p hi.o hi.f hi.m < 0
instance (lo hi s : Sp) : Decidable (inB lo hi s) := inferInstanceAs (Decidable (_ ∧ _))
abbrev bdV (lo hi : Sp) : Value := .agg #[.int .i64 lo.p, .int .i64 lo.o, .int .i64 lo.f, .int .i64 lo.m, .int .i64 hi.p, .int .i64 hi.o, .int .i64 hi.f, .int .i64 hi.m]
abbrev spV (s : Sp) : Value := .agg #[.int .i64 s.p, .int .i64 s.o, .int .i64 s.f, .int .i64 s.m]
theorem row8 {w : World} {g t : Nat} {a b c d e f x y : Value} {fr : Nat × Nat} (h : w.heap[g]? = some (.cells #[a, b, c, d, e, f, x, y] t fr)) : w.cell? ⟨g, 0, none⟩ = some a ∧ w.cell? ⟨g, 1, none⟩ = some b ∧ w.cell? ⟨g, 2, none⟩ = some c ∧ w.cell? ⟨g, 3, none⟩ = some d ∧ w.cell? ⟨g, 4, none⟩ = some e ∧ w.cell? ⟨g, 5, none⟩ = some f ∧ w.cell? ⟨g, 6, none⟩ = some x ∧ w.cell? ⟨g, 7, none⟩ = some y ∧ g < w.heap.size :=
 ⟨cell_of_row _ _ 0 _ _ _ h, cell_of_row _ _ 1 _ _ _ h, cell_of_row _ _ 2 _ _ _ h, cell_of_row _ _ 3 _ _ _ h, cell_of_row _ _ 4 _ _ _ h, cell_of_row _ _ 5 _ _ _ h, cell_of_row _ _ 6 _ _ _ h, cell_of_row _ _ 7 _ _ _ h, (Array.getElem?_eq_some_iff.1 h).1⟩
set_option maxHeartbeats 4000000 in
theorem everything_any (w : World) : Calls Try.prog 53 #[] w fun e w' => e = .returned (bdV ⟨0, 0, 0, 0⟩ ⟨16, 0, 0, 0⟩) ∧ Calm w w' := by
 go_enter Try.func53, Try.ntmps53
 go_wp2
 go_returns
 exact ⟨rfl, by repeat (first | (with_reducible exact Calm.refl _) | (with_reducible refine Calm.alloc ?_ _) | (with_reducible refine Calm.drew ?_) | (with_reducible refine Calm.drewN ?_ _) | (refine Calm.call ?_ (by with_reducible assumption)))⟩
set_option maxHeartbeats 4000000 in
theorem contains_any (lo hi s : Sp) (w : World) : Calls Try.prog 93 #[bdV lo hi, spV s] w fun e w' => e = .returned (.bool (decide (inB lo hi s))) ∧ Calm w w' := by
 have hx := heap_past (.cells #[.int .i64 s.p, .int .i64 s.o, .int .i64 s.f, .int .i64 s.m] 55) (heap_new w (.cells #[.int .i64 lo.p, .int .i64 lo.o, .int .i64 lo.f, .int .i64 lo.m, .int .i64 hi.p, .int .i64 hi.o, .int .i64 hi.f, .int .i64 hi.m] 100))
 have hy := heap_new2 w (.cells #[.int .i64 lo.p, .int .i64 lo.o, .int .i64 lo.f, .int .i64 lo.m, .int .i64 hi.p, .int .i64 hi.o, .int .i64 hi.f, .int .i64 hi.m] 100) (.cells #[.int .i64 s.p, .int .i64 s.o, .int .i64 s.f, .int .i64 s.m] 55)
 have hu := ((Calm.refl w).alloc (.cells #[.int .i64 lo.p, .int .i64 lo.o, .int .i64 lo.f, .int .i64 lo.m, .int .i64 hi.p, .int .i64 hi.o, .int .i64 hi.f, .int .i64 hi.m] 100)).alloc (.cells #[.int .i64 s.p, .int .i64 s.o, .int .i64 s.f, .int .i64 s.m] 55)
 have c1 := fun u => cmpSpot_any lo.p lo.o lo.f lo.m s.p s.o s.f s.m u
 have c2 := fun u => cmpSpot_any s.p s.o s.f s.m hi.p hi.o hi.f hi.m u
 have hG : Hid (decide (inB lo hi s) = (decide (scmp lo.p lo.o lo.f lo.m s.p s.o s.f s.m ≤ 0) && decide (scmp s.p s.o s.f s.m hi.p hi.o hi.f hi.m < 0))) := by show _ = _; rw [Bool.eq_iff_iff, Bool.and_eq_true, decide_eq_true_eq, decide_eq_true_eq, decide_eq_true_eq]; rfl
 generalize decide (inB lo hi s) = r at hG ⊢
 generalize scmp lo.p lo.o lo.f lo.m s.p s.o s.f s.m = a at c1 hG
 generalize scmp s.p s.o s.f s.m hi.p hi.o hi.f hi.m = b at c2 hG
 obtain ⟨p, o, f, m⟩ := s
 obtain ⟨p1, o1, f1, m1⟩ := lo
 obtain ⟨p2, o2, f2, m2⟩ := hi
 simp only at c1 c2 hx hy hu
 obtain ⟨x0, x1, x2, x3, x4, x5, x6, x7, hxs⟩ := row8 hx
 obtain ⟨y0, y1, y2, y3, hys⟩ := row4 hy
 by_cases ha : a ≤ 0
 ·rw [decide_eq_true ha] at hG
  go_enter Try.func93, Try.ntmps93
  go_wp2_with (go_at_call 68; (first | (with_reducible refine (c1 _).mono ?_) | (with_reducible refine (c2 _).mono ?_)); rintro e w1 ⟨rfl, hb1⟩; replace hx := (hb1.block (row8 hx).2.2.2.2.2.2.2.2).trans hx; replace hy := (hb1.block (row4 hy).2.2.2.2).trans hy; replace hu := hu.call hb1; clear hb1; obtain ⟨x0, x1, x2, x3, x4, x5, x6, x7, hxs⟩ := row8 hx; obtain ⟨y0, y1, y2, y3, hys⟩ := row4 hy)
  go_ret
  exact ⟨ret_bool (by rw [hG.out, Bool.true_and]), hu⟩
 ·rw [decide_eq_false ha] at hG
  go_enter Try.func93, Try.ntmps93
  go_wp2_with (go_at_call 68; (first | (with_reducible refine (c1 _).mono ?_) | (with_reducible refine (c2 _).mono ?_)); rintro e w1 ⟨rfl, hb1⟩; replace hx := (hb1.block (row8 hx).2.2.2.2.2.2.2.2).trans hx; replace hy := (hb1.block (row4 hy).2.2.2.2).trans hy; replace hu := hu.call hb1; clear hb1; obtain ⟨x0, x1, x2, x3, x4, x5, x6, x7, hxs⟩ := row8 hx; obtain ⟨y0, y1, y2, y3, hys⟩ := row4 hy)
  go_ret
  exact ⟨ret_bool (by rw [hG.out, Bool.false_and]), hu⟩
def bdLo (S : List Sp) (lo : Sp) (j : Nat) : Sp := if j = 0 then lo else (S[j - 1]?).getD lo
def bdHi (S : List Sp) (hi : Sp) (j : Nat) : Sp := (S[j]?).getD hi
open Go.RowKit
theorem results_bd {fn : Func} {p : Tmp} (h : fn.results = #[.cell p 100]) (tmps : Array Value) (w : World) (g : Nat) (t : TypeId) (cs : Array Value) (fr : Nat × Nat)
    (hp : tmps.getD p undef = .pointer (some ⟨g, 0, none⟩)) (hg : w.heap[g]? = some (.cells cs t fr)) (hsz : cs.size = 8) :
    (results fn tmps).run Try.prog w = .ok (.agg cs) w := by
  have hp' : tmps[p]?.getD undef = .pointer (some ⟨g, 0, none⟩) := by simpa using hp
  have hi : (Try.prog.info? 100).map (·.size) = some cs.size := by rw [hsz]; kernel_rfl
  simp [results, h, hp', asAddr, run_loadVar_row w g t 100 cs fr _ hg Try.underlying100 rfl hi]
theorem end_bd {P : Program} {fn : Func} {p : Tmp} {Q : Ending → World → Prop} (hP : P = Try.prog) (h : fn.results = #[.cell p 100]) (a : Act) (w : World) (g : Nat) (t : TypeId) (cs : Array Value) (fr : Nat × Nat) (hd : a.defers = [])
    (hp : a.tmps.getD p undef = .pointer (some ⟨g, 0, none⟩)) (hg : w.heap[g]? = some (.cells cs t fr)) (hsz : cs.size = 8) (hQ : Q (.returned (.agg cs)) w) : bodyPost P fn Q .ret a w := by
  subst hP
  exact bodyPost_ret (v := .agg cs) (results_bd h a.tmps w g t cs fr hp hg hsz) hd hQ
def World.four (w : World) (g o : Nat) (b0 b1 b2 b3 : Value) : World := (((w.setCell ⟨g, o, none⟩ b0).setCell ⟨g, o + 1, none⟩ b1).setCell ⟨g, o + 2, none⟩ b2).setCell ⟨g, o + 3, none⟩ b3
theorem four_lo {w : World} {g t : Nat} {a0 a1 a2 a3 a4 a5 a6 a7 : Value} (h : w.heap[g]? = some (.cells #[a0, a1, a2, a3, a4, a5, a6, a7] t (0, 0))) (b0 b1 b2 b3 : Value) : (World.four w g 0 b0 b1 b2 b3).heap[g]? = some (.cells #[b0, b1, b2, b3, a4, a5, a6, a7] t (0, 0)) :=
 heap_setCell_same _ g 3 _ t b3 (heap_setCell_same _ g 2 _ t b2 (heap_setCell_same _ g 1 _ t b1 (heap_setCell_same w g 0 _ t b0 h)))
theorem four_hi {w : World} {g t : Nat} {a0 a1 a2 a3 a4 a5 a6 a7 : Value} (h : w.heap[g]? = some (.cells #[a0, a1, a2, a3, a4, a5, a6, a7] t (0, 0))) (b0 b1 b2 b3 : Value) : (World.four w g 4 b0 b1 b2 b3).heap[g]? = some (.cells #[a0, a1, a2, a3, b0, b1, b2, b3] t (0, 0)) :=
 heap_setCell_same _ g 7 _ t b3 (heap_setCell_same _ g 6 _ t b2 (heap_setCell_same _ g 5 _ t b1 (heap_setCell_same w g 4 _ t b0 h)))
theorem four_other {w : World} {g o k : Nat} (b0 b1 b2 b3 : Value) (h : k ≠ g) : (World.four w g o b0 b1 b2 b3).heap[k]? = w.heap[k]? :=
 (heap_setCell_other _ ⟨g, o + 3, none⟩ k b3 h).trans ((heap_setCell_other _ ⟨g, o + 2, none⟩ k b2 h).trans ((heap_setCell_other _ ⟨g, o + 1, none⟩ k b1 h).trans (heap_setCell_other _ ⟨g, o, none⟩ k b0 h)))
theorem Calm.four {a w : World} (h : Calm a w) {g : Nat} (hg : a.heap.size ≤ g) (o : Nat) (b0 b1 b2 b3 : Value) : Calm a (World.four w g o b0 b1 b2 b3) :=
 (((h.setCell (p := ⟨g, o, none⟩) hg b0).setCell (p := ⟨g, o + 1, none⟩) hg b1).setCell (p := ⟨g, o + 2, none⟩) hg b2).setCell (p := ⟨g, o + 3, none⟩) hg b3
theorem free8 {w : World} {g t : Nat} {cs : Array Value} (h : w.heap[g]? = some (.cells cs t (0, 0))) : w.frozen? ⟨g, 0, none⟩ = false ∧ w.frozen? ⟨g, 1, none⟩ = false ∧ w.frozen? ⟨g, 2, none⟩ = false ∧ w.frozen? ⟨g, 3, none⟩ = false ∧ w.frozen? ⟨g, 4, none⟩ = false ∧ w.frozen? ⟨g, 5, none⟩ = false ∧ w.frozen? ⟨g, 6, none⟩ = false ∧ w.frozen? ⟨g, 7, none⟩ = false :=
 ⟨frozen_of_row _ _ _ _ _ h, frozen_of_row _ _ _ _ _ h, frozen_of_row _ _ _ _ _ h, frozen_of_row _ _ _ _ _ h, frozen_of_row _ _ _ _ _ h, frozen_of_row _ _ _ _ _ h, frozen_of_row _ _ _ _ _ h, frozen_of_row _ _ _ _ _ h⟩
theorem heapNew3 (w : World) (o o' o'' : Obj) : (((w.alloc o).alloc o').alloc o'').heap[w.heap.size + 1 + 1]? = some o'' := by simpa using heap_new ((w.alloc o).alloc o') o''
abbrev bdC (lo hi : Sp) : Array Value := #[.int .i64 lo.p, .int .i64 lo.o, .int .i64 lo.f, .int .i64 lo.m, .int .i64 hi.p, .int .i64 hi.o, .int .i64 hi.f, .int .i64 hi.m]
set_option maxHeartbeats 8000000 in
theorem treeBetween_any (kd : Int) (A1 A2 A3 A4 : Option Addr) (c1 c2 c3 c4 : Nat) (E : List El) (K : List Int) (S : List Sp) (T : List Int) (j : Nat) (lo hi : Sp) (w : World) (h : LiesS w A3 S) (hj : j ≤ S.length) (hs : S.length ≤ 8) :
    Calls Try.prog 94 #[.agg #[.int .i64 kd, .slice A1 E.length c1, .slice A2 K.length c2, .slice A3 S.length c3, .slice A4 T.length c4], .int .i64 (j : Int), .agg (bdC lo hi)] w fun e w' => e = .returned (.agg (bdC (bdLo S lo j) (bdHi S hi j))) ∧ Calm w w' := by
  have hx := heap_past (.cells #[.int .i64 0, .int .i64 0, .int .i64 0, .int .i64 0, .int .i64 0, .int .i64 0, .int .i64 0, .int .i64 0] 100) (heap_past (.cells (bdC lo hi) 100) (heap_new w (.cells #[.int .i64 kd, .slice A1 E.length c1, .slice A2 K.length c2, .slice A3 S.length c3, .slice A4 T.length c4] 36)))
  have hy := heap_past (.cells #[.int .i64 0, .int .i64 0, .int .i64 0, .int .i64 0, .int .i64 0, .int .i64 0, .int .i64 0, .int .i64 0] 100) (heap_new2 w (.cells #[.int .i64 kd, .slice A1 E.length c1, .slice A2 K.length c2, .slice A3 S.length c3, .slice A4 T.length c4] 36) (.cells (bdC lo hi) 100))
  have hz := heapNew3 w (.cells #[.int .i64 kd, .slice A1 E.length c1, .slice A2 K.length c2, .slice A3 S.length c3, .slice A4 T.length c4] 36) (.cells (bdC lo hi) 100) (.cells #[.int .i64 0, .int .i64 0, .int .i64 0, .int .i64 0, .int .i64 0, .int .i64 0, .int .i64 0, .int .i64 0] 100)
  have hu := (((Calm.refl w).alloc (.cells #[.int .i64 kd, .slice A1 E.length c1, .slice A2 K.length c2, .slice A3 S.length c3, .slice A4 T.length c4] 36)).alloc (.cells (bdC lo hi) 100)).alloc (.cells #[.int .i64 0, .int .i64 0, .int .i64 0, .int .i64 0, .int .i64 0, .int .i64 0, .int .i64 0, .int .i64 0] 100)
  go_enter Try.func94, Try.ntmps94
  go_upto_region 1 with fail
  generalize ((w.alloc (.cells #[.int .i64 kd, .slice A1 E.length c1, .slice A2 K.length c2, .slice A3 S.length c3, .slice A4 T.length c4] 36)).alloc (.cells (bdC lo hi) 100)).alloc (.cells #[.int .i64 0, .int .i64 0, .int .i64 0, .int .i64 0, .int .i64 0, .int .i64 0, .int .i64 0, .int .i64 0] 100) = wz at hx hy hz hu ⊢
  obtain ⟨p1, o1, f1, m1⟩ := lo
  obtain ⟨p2, o2, f2, m2⟩ := hi
  simp only [bdC] at hy ⊢
  obtain ⟨x0, x1, x2, x3, x4, hxs⟩ := row5 hx
  have hL := h.calm hu
  by_cases h0 : j = 0
  · have hLo : Hid (bdLo S ⟨p1, o1, f1, m1⟩ j = ⟨p1, o1, f1, m1⟩) := by show _ = _; unfold bdLo; rw [if_pos h0]
    have hj0 : (j : Int) ≤ 0 := by omega
    clear h0
    go_upto_region 3 with fail
    clear hj0 x0 x1 x2 x3 x4 hxs
    by_cases hj2 : j < S.length
    · obtain ⟨b4, q4, p4, o4, f4, m4, hA4, hb4, HS4, -, s0, s1, s2, s3⟩ := hL.get hj2
      have hji : (j : Int) < (S.length : Int) := by omega
      cases hA4
      obtain ⟨x0, x1, x2, x3, x4, hxs⟩ := row5 hx
      obtain ⟨y0, y1, y2, y3, y4, y5, y6, y7, hys⟩ := row8 hy
      obtain ⟨r0, r1, r2, r3, r4, r5, r6, r7⟩ := free8 hy
      have hHi : Hid (bdHi S ⟨p2, o2, f2, m2⟩ j = ⟨p4, o4, f4, m4⟩) := by show _ = _; unfold bdHi; rw [HS4.out]; rfl
      clear hj2
      go_upto_region 5 with fail
      have hy5 : ((((wz.setCell ⟨w.heap.size + 1, 4, none⟩ (.int .i64 p4)).setCell ⟨w.heap.size + 1, 5, none⟩ (.int .i64 o4)).setCell ⟨w.heap.size + 1, 6, none⟩ (.int .i64 f4)).setCell ⟨w.heap.size + 1, 7, none⟩ (.int .i64 m4)).heap[w.heap.size + 1]? = some (.cells #[.int .i64 p1, .int .i64 o1, .int .i64 f1, .int .i64 m1, .int .i64 p4, .int .i64 o4, .int .i64 f4, .int .i64 m4] 100 (0, 0)) := four_hi hy _ _ _ _
      have hz5 : ((((wz.setCell ⟨w.heap.size + 1, 4, none⟩ (.int .i64 p4)).setCell ⟨w.heap.size + 1, 5, none⟩ (.int .i64 o4)).setCell ⟨w.heap.size + 1, 6, none⟩ (.int .i64 f4)).setCell ⟨w.heap.size + 1, 7, none⟩ (.int .i64 m4)).heap[w.heap.size + 1 + 1]? = _ := (four_other (o := 4) _ _ _ _ (by omega)).trans hz
      have hu5 : Calm w ((((wz.setCell ⟨w.heap.size + 1, 4, none⟩ (.int .i64 p4)).setCell ⟨w.heap.size + 1, 5, none⟩ (.int .i64 o4)).setCell ⟨w.heap.size + 1, 6, none⟩ (.int .i64 f4)).setCell ⟨w.heap.size + 1, 7, none⟩ (.int .i64 m4)) := hu.four (by omega) 4 _ _ _ _
      generalize ((((wz.setCell ⟨w.heap.size + 1, 4, none⟩ (.int .i64 p4)).setCell ⟨w.heap.size + 1, 5, none⟩ (.int .i64 o4)).setCell ⟨w.heap.size + 1, 6, none⟩ (.int .i64 f4)).setCell ⟨w.heap.size + 1, 7, none⟩ (.int .i64 m4)) = w5 at hy5 hz5 hu5 ⊢
      clear x0 x1 x2 x3 x4 hxs y0 y1 y2 y3 y4 y5 y6 y7 hys r0 r1 r2 r3 r4 r5 r6 r7 s0 s1 s2 s3
      obtain ⟨y0, y1, y2, y3, y4, y5, y6, y7, hys⟩ := row8 hy5
      obtain ⟨z0, z1, z2, z3, z4, z5, z6, z7, hzs⟩ := row8 hz5
      obtain ⟨r0, r1, r2, r3, r4, r5, r6, r7⟩ := free8 hz5
      go_wp2_with fail
      exact end_bd rfl rfl _ _ (w.heap.size + 1 + 1) _ _ (0, 0) rfl rfl (four_hi (four_lo hz5 _ _ _ _) _ _ _ _) rfl ⟨by rw [hLo.out, hHi.out], (hu5.four (g := w.heap.size + 1 + 1) (by omega) 0 _ _ _ _).four (g := w.heap.size + 1 + 1) (by omega) 4 _ _ _ _⟩
    · have hji : ¬ ((j : Int) < (S.length : Int)) := by omega
      have hHi : Hid (bdHi S ⟨p2, o2, f2, m2⟩ j = ⟨p2, o2, f2, m2⟩) := by show _ = _; unfold bdHi; rw [List.getElem?_eq_none (by omega)]; rfl
      obtain ⟨x0, x1, x2, x3, x4, hxs⟩ := row5 hx
      have hy5 := hy
      have hz5 := hz
      have hu5 := hu
      have hji2 : (S.length : Int) ≤ (j : Int) := by omega
      clear hji hj2
      go_upto_region 5 with fail
      clear x0 x1 x2 x3 x4 hxs
      obtain ⟨y0, y1, y2, y3, y4, y5, y6, y7, hys⟩ := row8 hy5
      obtain ⟨z0, z1, z2, z3, z4, z5, z6, z7, hzs⟩ := row8 hz5
      obtain ⟨r0, r1, r2, r3, r4, r5, r6, r7⟩ := free8 hz5
      go_wp2_with fail
      exact end_bd rfl rfl _ _ (w.heap.size + 1 + 1) _ _ (0, 0) rfl rfl (four_hi (four_lo hz5 _ _ _ _) _ _ _ _) rfl ⟨by rw [hLo.out, hHi.out], (hu5.four (g := w.heap.size + 1 + 1) (by omega) 0 _ _ _ _).four (g := w.heap.size + 1 + 1) (by omega) 4 _ _ _ _⟩
  · obtain ⟨i, hi⟩ : ∃ i, i + 1 = j := ⟨j - 1, by omega⟩
    have hiS : i < S.length := by omega
    obtain ⟨b3, q3, p3, o3, f3, m3, hA3, hb3, HS3, -, s0, s1, s2, s3⟩ := hL.get hiS
    have hLo : Hid (bdLo S ⟨p1, o1, f1, m1⟩ j = ⟨p3, o3, f3, m3⟩) := by
      show _ = _; unfold bdLo; rw [if_neg h0, show j - 1 = i from by omega, HS3.out]; rfl
    have hj0 : (0 : Int) < (j : Int) := by omega
    have e1 : IntKind.i64.wrap ((j : Int) - 1) = (i : Int) := by rw [IntWalk.i64_in _ (by omega)]; omega
    have e2 : (j : Int) - 1 = (i : Int) := by omega
    have e3 : (i : Int) < (S.length : Int) := by omega
    cases hA3
    obtain ⟨y0, y1, y2, y3, y4, y5, y6, y7, hys⟩ := row8 hy
    obtain ⟨r0, r1, r2, r3, r4, r5, r6, r7⟩ := free8 hy
    clear hi h0
    go_upto_region 3 with fail
    have hy2 : ((((wz.setCell ⟨w.heap.size + 1, 0, none⟩ (.int .i64 p3)).setCell ⟨w.heap.size + 1, 1, none⟩ (.int .i64 o3)).setCell ⟨w.heap.size + 1, 2, none⟩ (.int .i64 f3)).setCell ⟨w.heap.size + 1, 3, none⟩ (.int .i64 m3)).heap[w.heap.size + 1]? = some (.cells #[.int .i64 p3, .int .i64 o3, .int .i64 f3, .int .i64 m3, .int .i64 p2, .int .i64 o2, .int .i64 f2, .int .i64 m2] 100 (0, 0)) := four_lo hy _ _ _ _
    have hx2 : ((((wz.setCell ⟨w.heap.size + 1, 0, none⟩ (.int .i64 p3)).setCell ⟨w.heap.size + 1, 1, none⟩ (.int .i64 o3)).setCell ⟨w.heap.size + 1, 2, none⟩ (.int .i64 f3)).setCell ⟨w.heap.size + 1, 3, none⟩ (.int .i64 m3)).heap[w.heap.size]? = _ := (four_other (o := 0) _ _ _ _ (by omega)).trans hx
    have hz2 : ((((wz.setCell ⟨w.heap.size + 1, 0, none⟩ (.int .i64 p3)).setCell ⟨w.heap.size + 1, 1, none⟩ (.int .i64 o3)).setCell ⟨w.heap.size + 1, 2, none⟩ (.int .i64 f3)).setCell ⟨w.heap.size + 1, 3, none⟩ (.int .i64 m3)).heap[w.heap.size + 1 + 1]? = _ := (four_other (o := 0) _ _ _ _ (by omega)).trans hz
    have hu2 : Calm w ((((wz.setCell ⟨w.heap.size + 1, 0, none⟩ (.int .i64 p3)).setCell ⟨w.heap.size + 1, 1, none⟩ (.int .i64 o3)).setCell ⟨w.heap.size + 1, 2, none⟩ (.int .i64 f3)).setCell ⟨w.heap.size + 1, 3, none⟩ (.int .i64 m3)) := hu.four (by omega) 0 _ _ _ _
    generalize ((((wz.setCell ⟨w.heap.size + 1, 0, none⟩ (.int .i64 p3)).setCell ⟨w.heap.size + 1, 1, none⟩ (.int .i64 o3)).setCell ⟨w.heap.size + 1, 2, none⟩ (.int .i64 f3)).setCell ⟨w.heap.size + 1, 3, none⟩ (.int .i64 m3)) = w2 at hy2 hx2 hz2 hu2 ⊢
    have hL2 := h.calm hu2
    clear x0 x1 x2 x3 x4 hxs y0 y1 y2 y3 y4 y5 y6 y7 hys r0 r1 r2 r3 r4 r5 r6 r7 s0 s1 s2 s3 hj0 e1 e2 e3
    by_cases hj2 : j < S.length
    · obtain ⟨b4, q4, p4, o4, f4, m4, hA4, hb4, HS4, -, s0, s1, s2, s3⟩ := hL2.get hj2
      have hji : (j : Int) < (S.length : Int) := by omega
      cases hA4
      obtain ⟨x0, x1, x2, x3, x4, hxs⟩ := row5 hx2
      obtain ⟨y0, y1, y2, y3, y4, y5, y6, y7, hys⟩ := row8 hy2
      obtain ⟨r0, r1, r2, r3, r4, r5, r6, r7⟩ := free8 hy2
      have hHi : Hid (bdHi S ⟨p2, o2, f2, m2⟩ j = ⟨p4, o4, f4, m4⟩) := by show _ = _; unfold bdHi; rw [HS4.out]; rfl
      clear hj2
      go_upto_region 5 with fail
      have hy5 : ((((w2.setCell ⟨w.heap.size + 1, 4, none⟩ (.int .i64 p4)).setCell ⟨w.heap.size + 1, 5, none⟩ (.int .i64 o4)).setCell ⟨w.heap.size + 1, 6, none⟩ (.int .i64 f4)).setCell ⟨w.heap.size + 1, 7, none⟩ (.int .i64 m4)).heap[w.heap.size + 1]? = some (.cells #[.int .i64 p3, .int .i64 o3, .int .i64 f3, .int .i64 m3, .int .i64 p4, .int .i64 o4, .int .i64 f4, .int .i64 m4] 100 (0, 0)) := four_hi hy2 _ _ _ _
      have hz5 : ((((w2.setCell ⟨w.heap.size + 1, 4, none⟩ (.int .i64 p4)).setCell ⟨w.heap.size + 1, 5, none⟩ (.int .i64 o4)).setCell ⟨w.heap.size + 1, 6, none⟩ (.int .i64 f4)).setCell ⟨w.heap.size + 1, 7, none⟩ (.int .i64 m4)).heap[w.heap.size + 1 + 1]? = _ := (four_other (o := 4) _ _ _ _ (by omega)).trans hz2
      have hu5 : Calm w ((((w2.setCell ⟨w.heap.size + 1, 4, none⟩ (.int .i64 p4)).setCell ⟨w.heap.size + 1, 5, none⟩ (.int .i64 o4)).setCell ⟨w.heap.size + 1, 6, none⟩ (.int .i64 f4)).setCell ⟨w.heap.size + 1, 7, none⟩ (.int .i64 m4)) := hu2.four (by omega) 4 _ _ _ _
      generalize ((((w2.setCell ⟨w.heap.size + 1, 4, none⟩ (.int .i64 p4)).setCell ⟨w.heap.size + 1, 5, none⟩ (.int .i64 o4)).setCell ⟨w.heap.size + 1, 6, none⟩ (.int .i64 f4)).setCell ⟨w.heap.size + 1, 7, none⟩ (.int .i64 m4)) = w5 at hy5 hz5 hu5 ⊢
      clear x0 x1 x2 x3 x4 hxs y0 y1 y2 y3 y4 y5 y6 y7 hys r0 r1 r2 r3 r4 r5 r6 r7 s0 s1 s2 s3
      obtain ⟨y0, y1, y2, y3, y4, y5, y6, y7, hys⟩ := row8 hy5
      obtain ⟨z0, z1, z2, z3, z4, z5, z6, z7, hzs⟩ := row8 hz5
      obtain ⟨r0, r1, r2, r3, r4, r5, r6, r7⟩ := free8 hz5
      go_wp2_with fail
      exact end_bd rfl rfl _ _ (w.heap.size + 1 + 1) _ _ (0, 0) rfl rfl (four_hi (four_lo hz5 _ _ _ _) _ _ _ _) rfl ⟨by rw [hLo.out, hHi.out], (hu5.four (g := w.heap.size + 1 + 1) (by omega) 0 _ _ _ _).four (g := w.heap.size + 1 + 1) (by omega) 4 _ _ _ _⟩
    · have hji : ¬ ((j : Int) < (S.length : Int)) := by omega
      have hHi : Hid (bdHi S ⟨p2, o2, f2, m2⟩ j = ⟨p2, o2, f2, m2⟩) := by show _ = _; unfold bdHi; rw [List.getElem?_eq_none (by omega)]; rfl
      obtain ⟨x0, x1, x2, x3, x4, hxs⟩ := row5 hx2
      have hy5 := hy2
      have hz5 := hz2
      have hu5 := hu2
      have hji2 : (S.length : Int) ≤ (j : Int) := by omega
      clear hji hj2
      go_upto_region 5 with fail
      clear x0 x1 x2 x3 x4 hxs
      obtain ⟨y0, y1, y2, y3, y4, y5, y6, y7, hys⟩ := row8 hy5
      obtain ⟨z0, z1, z2, z3, z4, z5, z6, z7, hzs⟩ := row8 hz5
      obtain ⟨r0, r1, r2, r3, r4, r5, r6, r7⟩ := free8 hz5
      go_wp2_with fail
      exact end_bd rfl rfl _ _ (w.heap.size + 1 + 1) _ _ (0, 0) rfl rfl (four_hi (four_lo hz5 _ _ _ _) _ _ _ _) rfl ⟨by rw [hLo.out, hHi.out], (hu5.four (g := w.heap.size + 1 + 1) (by omega) 0 _ _ _ _).four (g := w.heap.size + 1 + 1) (by omega) 4 _ _ _ _⟩
open Go.RowKit
noncomputable def dec (P : Prop) : Bool := @decide P (Classical.propDecidable P)
theorem dec_true {P : Prop} (h : P) : dec P = true := @decide_eq_true P (Classical.propDecidable P) h
theorem dec_false {P : Prop} (h : ¬ P) : dec P = false := @decide_eq_false P (Classical.propDecidable P) h
theorem dec_iff {P : Prop} : dec P = true ↔ P := ⟨fun h => @of_decide_eq_true P (Classical.propDecidable P) h, dec_true⟩
theorem dec_congr {P Q : Prop} (h : P ↔ Q) : dec P = dec Q := Bool.eq_iff_iff.2 (dec_iff.trans (h.trans dec_iff.symm))
theorem rowT {w : World} {g t : Nat} {a b : Value} {fr : Nat × Nat} (h : w.heap[g]? = some (.cells #[a, b] t fr)) : w.cell? ⟨g, 0, none⟩ = some a ∧ w.cell? ⟨g, 1, none⟩ = some b ∧ g < w.heap.size :=
 ⟨cell_of_row _ _ 0 _ _ _ h, cell_of_row _ _ 1 _ _ _ h, (Array.getElem?_eq_some_iff.1 h).1⟩
def FillP (root : Int) (l : List Nd) : Prop := ∀ (i : Nat) (n : Nd), l[i]? = some n → (i : Int) ≠ root → n.kd ≠ 0 → 4 ≤ n.E.length + n.K.length
set_option maxHeartbeats 4000000 in
theorem filled_any (root : Int) (A : Option Addr) (c : Nat) (l : List Nd) (w : World) (h : TrAt w A l) (hs : ∀ n ∈ l, n.E.length ≤ 8 ∧ n.K.length ≤ 8) :
    Calls Try.prog 50 #[.agg #[.int .i64 root, .slice A l.length c]] w fun e w' => e = .returned (.bool (dec (FillP root l))) ∧ Calm w w' := by
  have hx := heap_new w (.cells #[.int .i64 root, .slice A l.length c] 24)
  have hu := (Calm.refl w).alloc (.cells #[.int .i64 root, .slice A l.length c] 24)
  have HT := Lib.hid h
  have HS := Lib.hid hs
  have hln := h.len
  obtain ⟨x0, x1, hxs⟩ := rowT hx
  clear h hs
  go_enter Try.func50, Try.ntmps50
  go_wp2_with fail
  go_loopw [8] (fun i wr => ∃ k : Nat, k ≤ l.length ∧ i = .int .i64 k ∧ Calm (w.alloc (.cells #[.int .i64 root, .slice A l.length c] 24)) wr ∧ Hid (∀ (i : Nat) (n : Nd), i < k → l[i]? = some n → (i : Int) ≠ root → n.kd ≠ 0 → 4 ≤ n.E.length + n.K.length)) (fun i _ => l.length - (intOf i).toNat)
  case atStart => exact ⟨0, Nat.zero_le _, rfl, Calm.refl _, show ∀ _, _ from fun i n hi => absurd hi (Nat.not_lt_zero _)⟩
  case round =>
    obtain ⟨k, hk, rfl, hv, hN⟩ := hrel
    have hx1 := (hv.block (by simp)).trans hx
    have hv0 := ((Calm.refl w).alloc _).call hv
    clear x0 x1 hxs
    obtain ⟨x0, x1, hxs⟩ := rowT hx1
    by_cases hlt : k < l.length
    rotate_left
    · have hP : Hid (true = dec (FillP root l)) := (dec_true (P := FillP root l) fun i n hi => hN.out i n (by have := (List.getElem?_eq_some_iff.1 hi).1; omega) hi).symm
      go_wp2_with fail
      go_ret
      exact ⟨ret_bool hP.out, hv0⟩
    obtain ⟨b, q, kd, A1, A2, A3, A4, c1, c2, c3, c4, E, K, S, T, rfl, hb, HL, -, n0, n1, n2, n3, n4⟩ := (HT.out.calm hv0).get hlt
    have hsz := HS.out _ (List.mem_of_getElem? HL.out)
    simp only at hsz
    have e1 : IntKind.i64.wrap ((E.length : Int) + (K.length : Int)) = ((E.length + K.length : Nat) : Int) := by rw [IntWalk.i64_in _ (by omega)]; omega
    have hnext : Hid (((k : Int) ≠ root → kd ≠ 0 → 4 ≤ E.length + K.length) → ∀ (i : Nat) (n : Nd), i < k + 1 → l[i]? = some n → (i : Int) ≠ root → n.kd ≠ 0 → 4 ≤ n.E.length + n.K.length) := show _ → _ from fun hg i n hi hn => by
      rcases Nat.lt_or_ge i k with h2 | h2
      · exact hN.out i n h2 hn
      · obtain rfl : i = k := by omega
        rw [HL.out] at hn; injection hn with hn; subst hn
        exact hg
    by_cases hr : (k : Int) = root
    · have hN1 := Lib.hid (hnext.out fun h => absurd hr h)
      have hr2 := hr.symm
      subst hr2
      clear hr hnext e1 hsz
      go_wp2_with fail
      go_roundw
      case rel => exact ⟨k + 1, by omega, by go_num, hv.alloc _, hN1⟩
      case measure => simp [intOf]; omega
    have b1 : ((k : Int) != root) = true := by rw [bne_iff_ne]; exact hr
    by_cases hk0 : kd = 0
    · have hN1 := Lib.hid (hnext.out fun _ h => absurd hk0 h)
      subst hk0
      clear hr hnext e1 hsz
      go_wp2_with fail
      go_roundw
      case rel => exact ⟨k + 1, by omega, by go_num, hv.alloc _, hN1⟩
      case measure => simp [intOf]; omega
    have b2 : (kd != 0) = true := by rw [bne_iff_ne]; exact hk0
    by_cases h4 : E.length + K.length < 4
    · have hP : Hid (false = dec (FillP root l)) := (dec_false (P := FillP root l) fun h => by
        have := h k _ HL.out hr hk0
        simp only at this
        omega).symm
      obtain ⟨m, hm⟩ : ∃ m, E.length + K.length = m := ⟨_, rfl⟩
      rw [hm] at e1 h4
      have e2 : (E.length : Int) + (K.length : Int) = (m : Int) := by omega
      have e3 : (m : Int) < 4 := by omega
      have e4 : IntKind.i64.wrap (m : Int) = (m : Int) := IntWalk.i64_in _ (by omega)
      clear hr hnext hsz hk0 hm h4 e1
      go_wp2_with fail
      go_ret
      exact ⟨ret_bool hP.out, hv0.alloc _⟩
    · have hN1 := Lib.hid (hnext.out fun _ _ => by omega)
      obtain ⟨m, hm⟩ : ∃ m, E.length + K.length = m := ⟨_, rfl⟩
      rw [hm] at e1 h4
      have e2 : (E.length : Int) + (K.length : Int) = (m : Int) := by omega
      have e3 : (4 : Int) ≤ (m : Int) := by omega
      have e4 : IntKind.i64.wrap (m : Int) = (m : Int) := IntWalk.i64_in _ (by omega)
      clear hr hnext hsz hk0 hm h4 e1
      go_wp2_with fail
      go_roundw
      case rel => exact ⟨k + 1, by omega, by go_num, hv.alloc _, hN1⟩
      case measure => simp [intOf]; omega
def tidOf (l : List Nd) (x : Int) : Int := match l[x.toNat]? with | some n => ndTid n.E n.T | none => 0
def TimeP (l : List Nd) : Prop := ∀ (i : Nat) (n : Nd), l[i]? = some n → ∀ (j : Nat) (x : Int), n.K[j]? = some x → n.T[j]? = some (tidOf l x)
set_option maxHeartbeats 8000000 in
theorem timed_any (root : Int) (A : Option Addr) (c : Nat) (l : List Nd) (w : World) (h : TrAt w A l) (hok : ∀ n ∈ l, ndErr n.kd n.E n.K n.S n.T = 0 ∧ n.K.length = n.T.length ∧ n.K.length ≤ 8 ∧ ∀ x ∈ n.K, 0 ≤ x ∧ x < (l.length : Int)) :
    Calls Try.prog 51 #[.agg #[.int .i64 root, .slice A l.length c]] w fun e w' => e = .returned (.bool (dec (TimeP l))) ∧ Calm w w' := by
  have hx := heap_new w (.cells #[.int .i64 root, .slice A l.length c] 24)
  have HT := Lib.hid h
  have HO : Hid (∀ n ∈ l, ndErr n.kd n.E n.K n.S n.T = 0 ∧ n.K.length = n.T.length ∧ n.K.length ≤ 8 ∧ ∀ x ∈ n.K, 0 ≤ x ∧ x < (l.length : Int)) := hok
  have hln := h.len
  obtain ⟨x0, x1, hxs⟩ := rowT hx
  clear h hok
  go_enter Try.func51, Try.ntmps51
  go_wp2_with fail
  go_loopw [12] (fun i wr => ∃ k : Nat, k ≤ l.length ∧ i = .int .i64 k ∧ Calm (w.alloc (.cells #[.int .i64 root, .slice A l.length c] 24)) wr ∧ Hid (∀ (i : Nat) (n : Nd), i < k → l[i]? = some n → ∀ (j : Nat) (x : Int), n.K[j]? = some x → n.T[j]? = some (tidOf l x))) (fun i _ => l.length - (intOf i).toNat)
  case atStart => exact ⟨0, Nat.zero_le _, rfl, Calm.refl _, show ∀ _, _ from fun i n hi => absurd hi (Nat.not_lt_zero _)⟩
  case round =>
    obtain ⟨k, hk, rfl, hv, hN⟩ := hrel
    have hx1 := (hv.block (by simp)).trans hx
    have hv0 := ((Calm.refl w).alloc _).call hv
    clear x0 x1 hxs
    obtain ⟨x0, x1, hxs⟩ := rowT hx1
    by_cases hlt : k < l.length
    rotate_left
    · have hP : Hid (true = dec (TimeP l)) := (dec_true (P := TimeP l) fun i n hi => hN.out i n (by have := (List.getElem?_eq_some_iff.1 hi).1; omega) hi).symm
      go_wp2_with fail
      go_ret
      exact ⟨ret_bool hP.out, hv0⟩
    obtain ⟨b, q, kd, A1, A2, A3, A4, c1, c2, c3, c4, E, K, S, T, rfl, hb, HL, HA, n0, n1, n2, n3, n4⟩ := (HT.out.calm hv0).get hlt
    obtain ⟨o1, o2, o3, o4⟩ := HO.out _ (List.mem_of_getElem? HL.out)
    simp only at o1 o2 o3 o4
    have hxb := hx1
    have hxlt := (rowT hx1).2.2
    have hnb := heap_new wr (.cells #[.int .i64 kd, .slice A1 E.length c1, .slice A2 K.length c2, .slice A3 S.length c3, .slice A4 T.length c4] 36)
    have hKL := Lib.hid (HA.out.k.calm ((Calm.refl wr).alloc (.cells #[.int .i64 kd, .slice A1 E.length c1, .slice A2 K.length c2, .slice A3 S.length c3, .slice A4 T.length c4] 36)))
    have hTL := Lib.hid (HA.out.t.calm ((Calm.refl wr).alloc (.cells #[.int .i64 kd, .slice A1 E.length c1, .slice A2 K.length c2, .slice A3 S.length c3, .slice A4 T.length c4] 36)))
    have O2 := Lib.hid o2
    have O4 : Hid (∀ x ∈ K, 0 ≤ x ∧ x < (l.length : Int)) := o4
    clear o1 o2 o4
    have hwn := (Calm.refl wr).alloc (.cells #[.int .i64 kd, .slice A1 E.length c1, .slice A2 K.length c2, .slice A3 S.length c3, .slice A4 T.length c4] 36)
    have hwnb := hwn.size
    go_upto_region 4 with fail
    generalize wr.alloc (.cells #[.int .i64 kd, .slice A1 E.length c1, .slice A2 K.length c2, .slice A3 S.length c3, .slice A4 T.length c4] 36) = wn at hnb hKL hTL hwn hwnb ⊢
    have hnlt := (row5 hnb).2.2.2.2.2
    generalize wr.heap.size = nb at hnb hnlt ⊢
    obtain ⟨m0, m1, m2, m3, m4, hms⟩ := row5 hnb
    go_upto_region 5 with fail
    clear m0 m1 m2 m3 m4 hms x0 x1 hxs n0 n1 n2 n3 n4
    go_loopw [19] (fun i wz => ∃ j : Nat, j ≤ K.length ∧ i = .int .i64 j ∧ Calm wn wz ∧ Hid (∀ (i : Nat) (x : Int), i < j → K[i]? = some x → T[i]? = some (tidOf l x))) (fun i _ => K.length - (intOf i).toNat)
    case atStart => exact ⟨0, Nat.zero_le _, rfl, Calm.refl _, show ∀ _, _ from fun i n hi => absurd hi (Nat.not_lt_zero _)⟩
    case round =>
      obtain ⟨j, hj, rfl, hz, hM⟩ := hrel
      have hvz := (hv.call hwn).call hz
      have hvz0 := ((Calm.refl w).alloc _).call hvz
      by_cases hjl : j < K.length
      rotate_left
      · have hN1 : Hid (∀ (i : Nat) (n : Nd), i < k + 1 → l[i]? = some n → ∀ (j : Nat) (x : Int), n.K[j]? = some x → n.T[j]? = some (tidOf l x)) := show ∀ _, _ from fun i n hi hn j' x hx' => by
          rcases Nat.lt_or_ge i k with h2 | h2
          · exact hN.out i n h2 hn j' x hx'
          · obtain rfl : i = k := by omega
            rw [HL.out] at hn; injection hn with hn; subst hn
            exact hM.out j' x (by have := (List.getElem?_eq_some_iff.1 hx').1; simp only at this; omega) hx'
        go_wp2_with fail
        go_roundw
        case rel => exact ⟨k + 1, by omega, by go_num, hvz, hN1⟩
        case measure => simp [intOf]; omega
      obtain ⟨bk, qk, x, rfl, hbk, HX, cx0⟩ := hKL.out.get hjl
      have cx := (hz.facts.1 bk _ hbk).trans cx0
      obtain ⟨g1, g2⟩ := O4.out x (List.mem_of_getElem? HX.out)
      obtain ⟨X, rfl⟩ : ∃ X : Nat, x = (X : Int) := ⟨x.toNat, by omega⟩
      have hX : X < l.length := by omega
      obtain ⟨b2, q2, kd', B1, B2, B3, B4, d1, d2, d3, d4, E', K', S', T', hA2, hb2, HL2, HA2, v0, v1, v2, v3, v4⟩ := (HT.out.calm hvz0).get hX
      cases hA2
      obtain ⟨p1, p2, p3, p4⟩ := HO.out _ (List.mem_of_getElem? HL2.out)
      simp only at p1
      have cT := fun u hu => nodeTid_any kd' B1 B2 B3 B4 d1 d2 d3 d4 E' K' S' T' u (HA2.out.calm hu)
      rw [if_pos p1, p1] at cT
      obtain ⟨bt, qt, y, rfl, hbt, HY, cy0⟩ := hTL.out.get (show j < T.length by rw [← O2.out]; exact hjl)
      have cy0' := Lib.hid cy0
      have hjT : (j : Int) < (T.length : Int) := by rw [← O2.out]; omega
      have hti : Hid (tidOf l (X : Int) = ndTid E' T') := by show _ = _; unfold tidOf; rw [Int.toNat_natCast, HL2.out]
      have hxz := (hz.block (Nat.lt_of_lt_of_le hxlt hwnb)).trans ((hwn.block hxlt).trans hxb)
      have hnz := (hz.block hnlt).trans hnb
      have cy := (hz.facts.1 bt _ hbt).trans cy0
      obtain ⟨x0, x1, hxs⟩ := rowT hxz
      obtain ⟨m0, m1, m2, m3, m4, hms⟩ := row5 hnz
      have hXi : (X : Int) < (l.length : Int) := by omega
      by_cases he : ndTid E' T' = y
      · have hM1 : Hid (∀ (i : Nat) (x : Int), i < j + 1 → K[i]? = some x → T[i]? = some (tidOf l x)) := show ∀ _, _ from fun i x hi hx' => by
          rcases Nat.lt_or_ge i j with h2 | h2
          · exact hM.out i x h2 hx'
          · obtain rfl : i = j := by omega
            rw [HX.out] at hx'; injection hx' with hx'; subst hx'
            rw [hti.out, he]; exact HY.out
        rw [he] at cT
        clear he hti p1 p2 p3 p4 cx0 cy0
        go_wp2_with (go_at_call 36; (with_reducible refine (cT _ (Calm.refl _)).mono ?_); rintro e w5 ⟨rfl, hb5⟩; have hz5 := hz.call hb5; have hnz5 := (hb5.block (row5 hnz).2.2.2.2.2).trans hnz; have cy5 := (hz5.facts.1 bt _ hbt).trans cy0'.out; obtain ⟨m0, m1, m2, m3, m4, hms⟩ := row5 hnz5)
        go_roundw
        case rel => exact ⟨j + 1, by omega, by go_num, hz5, hM1⟩
        case measure => simp [intOf]; omega
      · have hP : Hid (false = dec (TimeP l)) := (dec_false (P := TimeP l) fun h => by
          have h1 := h k _ HL.out j (X : Int) HX.out
          simp only at h1
          rw [HY.out, hti.out] at h1
          injection h1 with h1
          exact he h1.symm).symm
        have b1 : (ndTid E' T' != y) = true := by rw [bne_iff_ne]; exact he
        generalize ndTid E' T' = t9 at cT b1
        clear he hti p1 p2 p3 p4 cx0 cy0
        go_wp2_with (go_at_call 36; (with_reducible refine (cT _ (Calm.refl _)).mono ?_); rintro e w5 ⟨rfl, hb5⟩; have hz5 := hvz0.call hb5; have hnz5 := (hb5.block (row5 hnz).2.2.2.2.2).trans hnz; have cy5 := ((hz.call hb5).facts.1 bt _ hbt).trans cy0'.out; obtain ⟨m0, m1, m2, m3, m4, hms⟩ := row5 hnz5)
        go_ret
        exact ⟨ret_bool hP.out, hz5⟩
end Go.Proofs.Ytjciklifiidecaa
