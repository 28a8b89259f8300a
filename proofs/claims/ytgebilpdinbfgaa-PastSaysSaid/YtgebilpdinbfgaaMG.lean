/- MG: texts of one kind in one file. -/
import Derived.Maps.AppendAt
import Derived.Test.YtgebilpdinbfgaaMF
import Derived.Test.YtgebilpdinbfgaaMB
import Derived.Test.YtgebilpdinbfgaaMC
/- A node that a call makes: its box, and the three rows that grow behind it, apart from one another. -/
namespace Go.Proofs.Ytgebilpdinbfgaa
open Go.RowKit

def spCells (s : Sp) : List Value := [.int .i64 s.p, .int .i64 s.o, .int .i64 s.f, .int .i64 s.m]
def sv (l : List Sp) : List Value := l.flatMap spCells
def OwnS (base : Nat) (w : World) (v : Value) (l : List Sp) : Prop := w.ownsRow base 47 4 v l.length (sv l)
set_option maxRecDepth 100000 in
theorem sv_length (l : List Sp) : (sv l).length = l.length * 4 := by
  induction l with
  | nil => rfl
  | cons a l ih => simp [sv] at ih ⊢; rw [ih]; simp [spCells]; omega
set_option maxRecDepth 100000 in
theorem sv_get (l : List Sp) : ∀ (i j : Nat), j < 4 → (sv l)[i * 4 + j]? = (l[i]?).bind fun e => (spCells e)[j]? := by
  induction l with
  | nil => intro i j _; simp [sv]
  | cons a l ih =>
    intro i j hj
    have e : sv (a :: l) = spCells a ++ sv l := by simp [sv]
    have h4 : (spCells a).length = 4 := rfl
    rw [e]
    cases i with
    | zero => rw [List.getElem?_append_left (by omega)]; simp
    | succ i =>
      rw [List.getElem?_append_right (by omega), h4, show (i + 1) * 4 + j - 4 = i * 4 + j from by omega, ih i j hj]
      simp
set_option maxRecDepth 100000 in
theorem sp_one (s : Sp) : ∀ u ∈ spCells s, u.oneCell' = true := by
  intro u hu
  simp only [spCells, List.mem_cons, List.not_mem_nil, or_false] at hu
  rcases hu with rfl | rfl | rfl | rfl <;> rfl
set_option maxRecDepth 100000 in
theorem infoSp : (Try.prog.info? 47).map (fun i => (i.zero, i.size, i.bytes)) = some (some (.agg #[.int .i64 0, .int .i64 0, .int .i64 0, .int .i64 0]), 4, 32) := by kernel_rfl
set_option maxRecDepth 100000 in
theorem OwnS.nil (base : Nat) (w : World) : OwnS base w (.slice none 0 0) [] := World.ownsRow_nil _ _ _ _
set_option maxRecDepth 100000 in
theorem OwnS.lies {base : Nat} {w : World} {v : Value} {l : List Sp} (h : OwnS base w v l) (hm : ∀ s ∈ l, -9223372036854775808 ≤ s.m) : ∃ A c, v = .slice A l.length c ∧ LiesS w A l := by
  rcases h.2 with ⟨rfl, hl⟩ | ⟨g, cap, cur, rfl, _, hg, hnc, hcm, _, ht⟩
  · have : l = [] := List.eq_nil_of_length_eq_zero hl
    subst this
    exact ⟨none, 0, rfl, by simp, fun h => absurd h (by simp)⟩
  · refine ⟨some ⟨g, 0, none⟩, cap, rfl, hm, fun _ => ⟨g, 0, rfl, (Array.getElem?_eq_some_iff.1 hg).1, fun k x hx => ?_⟩⟩
    have hk : k < l.length := (List.getElem?_eq_some_iff.1 hx).1
    have key : ∀ j, j < 4 → w.cell? ⟨g, 0 + k * 4 + j, none⟩ = (spCells x)[j]? := fun j hj => by
      have h2 := congrArg (·[k * 4 + j]?) ht
      rw [List.getElem?_take_of_lt (by omega), Array.getElem?_toList, sv_get l k j hj, hx] at h2
      rw [Nat.zero_add, cell_of_row w g _ cur _ (0, 0) hg, h2]; rfl
    exact ⟨key 0 (by omega), key 1 (by omega), key 2 (by omega), key 3 (by omega)⟩

set_option maxRecDepth 100000 in
/-- append(out, x), of one number, and where the row then lies. -/
theorem wpList_append_iAt {ops : Array Oper} {rest : List Oper} {o : Oper} {a : Act} {w : World} {Q : Exit → Act → World → Prop} (hgd : o.guard = none) (s x : Operand)
    (ho : o.op = .call { callee := .builtin .append, args := #[s, x], argTypes := #[57, 57] })
    (base : Nat) (v : Value) (l : List Int) (hs : a.eval s = v) (hown : OwnI base w v l) (g t : Nat) (n : Int) (fr : Nat × Nat)
    (hx : a.eval x = .slice (some ⟨g, 0, none⟩) 1 1) (hg : w.heap[g]? = some (.cells #[.int .i64 n] t fr)) (hl : l.length ≤ 1000000) (hbase : base ≤ w.heap.size)
    (h : ∀ v' w', OwnI base w' v' (l ++ [n]) → w.grownBy w' v.ownBlock → (v'.ownBlock = v.ownBlock ∨ v'.ownBlock = some w.heap.size) → wpList Try.prog ops Q rest (a.put o.dst v') w') : wpList Try.prog ops Q (o :: rest) a w := by
  obtain ⟨i0, hi, hz0, hz1, hz2⟩ := info_parts infoInt
  refine wpList_append_own_at w hgd s x _ ho base 3 i0 _ 1 8 Try.underlying57 hi hz0 hz1 hz2 rfl (by decide) v _ _ hs hown ⟨g, 0, none⟩ 1 1 (iv [n]) hx rfl (fun j u hj => ?_) (iv_one _) (by unfold maxLen; omega) (by omega) hbase fun v' w' h1 h2 _ h4 => ?_
  · have : (⟨g, 0, none⟩ : Addr).add j = ⟨g, j, none⟩ := by unfold Addr.add; split <;> simp_all
    rw [this, cell_of_row w g j _ t fr hg, ← hj]
    simp [iv]
  · refine h v' w' ?_ h2 h4
    unfold OwnI
    rw [List.length_append, iv, List.map_append]
    exact h1
set_option maxRecDepth 100000 in
/-- append(out, s), of one spot. -/
theorem wpList_append_sAt {ops : Array Oper} {rest : List Oper} {o : Oper} {a : Act} {w : World} {Q : Exit → Act → World → Prop} (hgd : o.guard = none) (s x : Operand)
    (ho : o.op = .call { callee := .builtin .append, args := #[s, x], argTypes := #[58, 58] })
    (base : Nat) (v : Value) (l : List Sp) (hs : a.eval s = v) (hown : OwnS base w v l) (g t : Nat) (n : Sp) (fr : Nat × Nat)
    (hx : a.eval x = .slice (some ⟨g, 0, none⟩) 1 1) (hg : w.heap[g]? = some (.cells #[.int .i64 n.p, .int .i64 n.o, .int .i64 n.f, .int .i64 n.m] t fr)) (hl : l.length ≤ 1000000) (hbase : base ≤ w.heap.size)
    (h : ∀ v' w', OwnS base w' v' (l ++ [n]) → w.grownBy w' v.ownBlock → (v'.ownBlock = v.ownBlock ∨ v'.ownBlock = some w.heap.size) → wpList Try.prog ops Q rest (a.put o.dst v') w') : wpList Try.prog ops Q (o :: rest) a w := by
  obtain ⟨i0, hi, hz0, hz1, hz2⟩ := info_parts infoSp
  refine wpList_append_own_at w hgd s x _ ho base 47 i0 _ 4 32 Try.underlying58 hi hz0 hz1 hz2 rfl (by decide) v _ _ hs hown ⟨g, 0, none⟩ 1 1 (spCells n) hx rfl (fun j u hj => ?_) (sp_one _) (by unfold maxLen; omega) (by omega) hbase fun v' w' h1 h2 _ h4 => ?_
  · have : (⟨g, 0, none⟩ : Addr).add j = ⟨g, j, none⟩ := by unfold Addr.add; split <;> simp_all
    rw [this, cell_of_row w g j _ t fr hg, ← hj]
    simp [spCells]
  · refine h v' w' ?_ h2 h4
    unfold OwnS
    rw [List.length_append, show sv (l ++ [n]) = sv l ++ spCells n from by simp [sv]]
    exact h1

def Away (u v : Value) : Prop := ∀ k, u.ownBlock = some k → v.ownBlock ≠ some k
set_option maxRecDepth 100000 in
theorem Away.symm {u v : Value} (h : Away u v) : Away v u := fun k hk hu => h k hu hk
set_option maxRecDepth 100000 in
theorem Away.nil (v : Value) : Away (.slice none 0 0) v := fun k hk => by simp [Value.ownBlock] at hk
/-- A node in the making: its box at g holds bK, bS, bT; behind vK, vS, vT stand the rows; what else lies below B is as it was in wl. -/
structure DI (wl w : World) (B g : Nat) (kd : Int) (vE bK bS bT vK vS vT : Value) (K : List Int) (S : List Sp) (T : List Int) : Prop where
  os : w.os = wl.os
  tape : w.tape = wl.tape
  output : w.output = wl.output
  size : B ≤ w.heap.size
  low : ∀ k, k < B → k ≠ g → w.heap[k]? = wl.heap[k]?
  gB : g < B
  box : w.heap[g]? = some (.cells #[.int .i64 kd, vE, bK, bS, bT] 60 (0, 0))
  k : OwnI B w vK K
  s : OwnS B w vS S
  t : OwnI B w vT T
  ks : Away vK vS
  kt : Away vK vT
  st : Away vS vT
section
variable {wl w w' : World} {B g : Nat} {kd : Int} {vE bK bS bT vK vS vT v' : Value} {K : List Int} {S : List Sp} {T : List Int}
set_option maxRecDepth 100000 in
theorem rows_calm {e : TypeId} {size n : Nat} {v : Value} {xs : List Value} (h : w.ownsRow B e size v n xs) (hb : Calm w w') : w'.ownsRow B e size v n xs := World.ownsRow.kept h (hb.grownBy none) (by
  rcases v.ownBlock with _ | k
  · exact .inl rfl
  · exact .inr (by simp))
set_option maxRecDepth 100000 in
theorem rows_away {e : TypeId} {size n : Nat} {v u : Value} {xs : List Value} (h : w.ownsRow B e size v n xs) (hg : w.grownBy w' u.ownBlock) (ha : Away u v) : w'.ownsRow B e size v n xs := World.ownsRow.kept h hg (by
  cases hv : v.ownBlock with
  | none => exact .inl rfl
  | some k => exact .inr fun hu => ha k hu.symm hv)
set_option maxRecDepth 100000 in
theorem rows_lt {e : TypeId} {size n : Nat} {v : Value} {xs : List Value} (h : w.ownsRow B e size v n xs) : ∀ k, v.ownBlock = some k → B ≤ k ∧ k < w.heap.size := World.ownsRow.lt h
set_option maxRecDepth 100000 in
theorem rows_set {e : TypeId} {size n : Nat} {v : Value} {xs : List Value} (h : w.ownsRow B e size v n xs) (hgB : g < B) (j : Nat) (u : Value) : (w.setCell ⟨g, j, none⟩ u).ownsRow B e size v n xs := World.ownsRow.kept h (row := some g) ⟨rfl, rfl, rfl, by simp [World.setCell], fun k _ hk => heap_setCell_other w ⟨g, j, none⟩ k u (fun e => hk (by simp [e]))⟩ (by
  cases hv : v.ownBlock with
  | none => exact .inl rfl
  | some k => exact .inr fun hu => by injection hu with hu; subst hu; have := (rows_lt h _ hv).1; omega)
set_option maxRecDepth 100000 in
theorem away_new {u v : Value} {e : TypeId} {size n : Nat} {xs : List Value} (hv : w.ownsRow B e size v n xs) (ha : Away u v) (hat : v'.ownBlock = u.ownBlock ∨ v'.ownBlock = some w.heap.size) : Away v' v := fun k hk hv2 => by
  rcases hat with h | h
  · exact ha k (h.symm.trans hk) hv2
  · rw [h] at hk; injection hk with hk; subst hk; have := (rows_lt hv _ hv2).2; omega
set_option maxRecDepth 100000 in
theorem DI.calm (h : DI wl w B g kd vE bK bS bT vK vS vT K S T) (hb : Calm w w') : DI wl w' B g kd vE bK bS bT vK vS vT K S T :=
  ⟨(Below.os hb).trans h.os, (Below.tape hb).trans h.tape, (Below.output hb).trans h.output, Nat.le_trans h.size hb.size, fun k hk hn => (hb.block (Nat.lt_of_lt_of_le hk h.size)).trans (h.low k hk hn), h.gB, (hb.block (Nat.lt_of_lt_of_le h.gB h.size)).trans h.box,
    rows_calm h.k hb, rows_calm h.s hb, rows_calm h.t hb, h.ks, h.kt, h.st⟩
set_option maxRecDepth 100000 in
theorem DI.appK {x : Int} (h : DI wl w B g kd vE bK bS bT vK vS vT K S T) (h1 : OwnI B w' v' (K ++ [x])) (h2 : w.grownBy w' vK.ownBlock) (h3 : v'.ownBlock = vK.ownBlock ∨ v'.ownBlock = some w.heap.size) : DI wl w' B g kd vE bK bS bT v' vS vT (K ++ [x]) S T :=
  have hlow : ∀ k, k < B → w'.heap[k]? = w.heap[k]? := fun k hk => h2.block k (Nat.lt_of_lt_of_le hk h.size) fun e => by have := (rows_lt h.k _ e.symm).1; omega
  ⟨h2.os.trans h.os, h2.tape.trans h.tape, h2.output.trans h.output, Nat.le_trans h.size h2.size, fun k hk hn => (hlow k hk).trans (h.low k hk hn), h.gB, (hlow g h.gB).trans h.box,
    h1, rows_away h.s h2 h.ks, rows_away h.t h2 h.kt, away_new h.s h.ks h3, away_new h.t h.kt h3, h.st⟩
set_option maxRecDepth 100000 in
theorem DI.appS {x : Sp} (h : DI wl w B g kd vE bK bS bT vK vS vT K S T) (h1 : OwnS B w' v' (S ++ [x])) (h2 : w.grownBy w' vS.ownBlock) (h3 : v'.ownBlock = vS.ownBlock ∨ v'.ownBlock = some w.heap.size) : DI wl w' B g kd vE bK bS bT vK v' vT K (S ++ [x]) T :=
  have hlow : ∀ k, k < B → w'.heap[k]? = w.heap[k]? := fun k hk => h2.block k (Nat.lt_of_lt_of_le hk h.size) fun e => by have := (rows_lt h.s _ e.symm).1; omega
  ⟨h2.os.trans h.os, h2.tape.trans h.tape, h2.output.trans h.output, Nat.le_trans h.size h2.size, fun k hk hn => (hlow k hk).trans (h.low k hk hn), h.gB, (hlow g h.gB).trans h.box,
    rows_away h.k h2 h.ks.symm, h1, rows_away h.t h2 h.st, (away_new h.k h.ks.symm h3).symm, h.kt, away_new h.t h.st h3⟩
set_option maxRecDepth 100000 in
theorem DI.appT {x : Int} (h : DI wl w B g kd vE bK bS bT vK vS vT K S T) (h1 : OwnI B w' v' (T ++ [x])) (h2 : w.grownBy w' vT.ownBlock) (h3 : v'.ownBlock = vT.ownBlock ∨ v'.ownBlock = some w.heap.size) : DI wl w' B g kd vE bK bS bT vK vS v' K S (T ++ [x]) :=
  have hlow : ∀ k, k < B → w'.heap[k]? = w.heap[k]? := fun k hk => h2.block k (Nat.lt_of_lt_of_le hk h.size) fun e => by have := (rows_lt h.t _ e.symm).1; omega
  ⟨h2.os.trans h.os, h2.tape.trans h.tape, h2.output.trans h.output, Nat.le_trans h.size h2.size, fun k hk hn => (hlow k hk).trans (h.low k hk hn), h.gB, (hlow g h.gB).trans h.box,
    rows_away h.k h2 h.kt.symm, rows_away h.s h2 h.st.symm, h1, h.ks, (away_new h.k h.kt.symm h3).symm, (away_new h.s h.st.symm h3).symm⟩
set_option maxRecDepth 100000 in
theorem DI.set (h : DI wl w B g kd vE bK bS bT vK vS vT K S T) (j : Nat) (u : Value) {bK' bS' bT' : Value} (hbox : (#[.int .i64 kd, vE, bK, bS, bT] : Array Value).setIfInBounds j u = #[.int .i64 kd, vE, bK', bS', bT']) :
    DI wl (w.setCell ⟨g, j, none⟩ u) B g kd vE bK' bS' bT' vK vS vT K S T :=
  ⟨h.os, h.tape, h.output, by simpa [World.setCell] using h.size, fun k hk hn => (heap_setCell_other w ⟨g, j, none⟩ k u (fun e => hn (by simpa using e))).trans (h.low k hk hn), h.gB, by rw [← hbox]; exact heap_setCell_same w g j _ _ u h.box,
    rows_set h.k h.gB j u, rows_set h.s h.gB j u, rows_set h.t h.gB j u, h.ks, h.kt, h.st⟩
set_option maxRecDepth 100000 in
theorem DI.low_calm {w0 : World} (h : DI wl w B g kd vE bK bS bT vK vS vT K S T) (hc : Calm w0 wl) (hg : w0.heap.size ≤ g) (hB : wl.heap.size ≤ B := by omega) : Calm w0 w :=
  Below.trans hc ⟨h.os, h.tape, h.output, Nat.le_trans hB h.size, fun k hk => h.low k (by have := h.gB; omega) (by omega)⟩
end
end Go.Proofs.Ytgebilpdinbfgaa

/- Five cells stored; results that are a node and one more; the two ends of a reading. -/
namespace Go.Proofs.Ytgebilpdinbfgaa
open Go.RowKit

set_option maxRecDepth 100000 in
theorem results_nd {fn : Func} {p q : Tmp} (h : fn.results = #[.cell p 60, .tmp q]) (tmps : Array Value) (w : World) (g : Nat) (t : TypeId) (cs : Array Value) (v : Value) (fr : Nat × Nat)
    (hp : tmps.getD p undef = .pointer (some ⟨g, 0, none⟩)) (hq : tmps.getD q undef = v) (hg : w.heap[g]? = some (.cells cs t fr)) (hsz : cs.size = 5) :
    (results fn tmps).run Try.prog w = .ok (.tuple #[.agg cs, v]) w := by
  have hp' : tmps[p]?.getD undef = .pointer (some ⟨g, 0, none⟩) := by simpa using hp
  have hq' : tmps[q]?.getD undef = v := by simpa using hq
  have hi : (Try.prog.info? 60).map (·.size) = some cs.size := by rw [hsz]; kernel_rfl
  simp [results, h, hp', hq', asAddr, run_loadVar_row w g t 60 cs fr _ hg Try.underlying60 rfl hi]
set_option maxRecDepth 100000 in
theorem end_nd {P : Program} {fn : Func} {p q : Tmp} {Q : Ending → World → Prop} (hP : P = Try.prog) (h : fn.results = #[.cell p 60, .tmp q]) (a : Act) (w : World) (g : Nat) (t : TypeId) (cs : Array Value) (v : Value) (fr : Nat × Nat) (hd : a.defers = [])
    (hp : a.tmps.getD p undef = .pointer (some ⟨g, 0, none⟩)) (hq : a.tmps.getD q undef = v) (hg : w.heap[g]? = some (.cells cs t fr)) (hsz : cs.size = 5) (hQ : Q (.returned (.tuple #[.agg cs, v])) w) : bodyPost P fn Q .ret a w := by
  subst hP
  exact bodyPost_ret (v := .tuple #[.agg cs, v]) (results_nd h a.tmps w g t cs v fr hp hq hg hsz) hd hQ

def World.five (w : World) (g : Nat) (b0 b1 b2 b3 b4 : Value) : World :=
  ((((w.setCell ⟨g, 0, none⟩ b0).setCell ⟨g, 1, none⟩ b1).setCell ⟨g, 2, none⟩ b2).setCell ⟨g, 3, none⟩ b3).setCell ⟨g, 4, none⟩ b4
set_option maxRecDepth 100000 in
theorem set5 {w : World} {g t : Nat} {a0 a1 a2 a3 a4 : Value} (h : w.heap[g]? = some (.cells #[a0, a1, a2, a3, a4] t (0, 0))) (b0 b1 b2 b3 b4 : Value) :
    (World.five w g b0 b1 b2 b3 b4).heap[g]? = some (.cells #[b0, b1, b2, b3, b4] t (0, 0)) := by
  have h1 := heap_setCell_same w g 0 _ t b0 h
  have h2 := heap_setCell_same _ g 1 _ t b1 h1
  have h3 := heap_setCell_same _ g 2 _ t b2 h2
  have h4 := heap_setCell_same _ g 3 _ t b3 h3
  exact heap_setCell_same _ g 4 _ t b4 h4
set_option maxRecDepth 100000 in
theorem Calm.five {a w : World} (h : Calm a w) {g : Nat} (hg : a.heap.size ≤ g) (b0 b1 b2 b3 b4 : Value) : Calm a (World.five w g b0 b1 b2 b3 b4) :=
  ((((h.setCell (p := ⟨g, 0, none⟩) hg b0).setCell (p := ⟨g, 1, none⟩) hg b1).setCell (p := ⟨g, 2, none⟩) hg b2).setCell (p := ⟨g, 3, none⟩) hg b3).setCell (p := ⟨g, 4, none⟩) hg b4
set_option maxRecDepth 100000 in
theorem free5 {w : World} {g t : Nat} {cs : Array Value} (h : w.heap[g]? = some (.cells cs t (0, 0))) : w.frozen? ⟨g, 0, none⟩ = false ∧ w.frozen? ⟨g, 1, none⟩ = false ∧ w.frozen? ⟨g, 2, none⟩ = false ∧ w.frozen? ⟨g, 3, none⟩ = false ∧ w.frozen? ⟨g, 4, none⟩ = false :=
  ⟨frozen_of_row _ _ _ _ _ h, frozen_of_row _ _ _ _ _ h, frozen_of_row _ _ _ _ _ h, frozen_of_row _ _ _ _ _ h, frozen_of_row _ _ _ _ _ h⟩
section
variable {w : World} {B g : Nat}
set_option maxRecDepth 100000 in
theorem rows_five {e : TypeId} {size n : Nat} {v : Value} {xs : List Value} (h : w.ownsRow B e size v n xs) (hg : g < B) (b0 b1 b2 b3 b4 : Value) : (World.five w g b0 b1 b2 b3 b4).ownsRow B e size v n xs :=
  rows_set (rows_set (rows_set (rows_set (rows_set h hg 0 b0) hg 1 b1) hg 2 b2) hg 3 b3) hg 4 b4
end
set_option maxRecDepth 100000 in
theorem OwnI.at_ {B : Nat} {w : World} {A : Option Addr} {n c : Nat} {l : List Int} (h : OwnI B w (.slice A n c) l) : LiesI w A l := by
  obtain ⟨A', c', e, h2⟩ := h.lies
  injection e with e1
  rw [e1]; exact h2
set_option maxRecDepth 100000 in
theorem OwnS.at_ {B : Nat} {w : World} {A : Option Addr} {n c : Nat} {l : List Sp} (h : OwnS B w (.slice A n c) l) (hm : ∀ s ∈ l, -9223372036854775808 ≤ s.m) : LiesS w A l := by
  obtain ⟨A', c', e, h2⟩ := h.lies hm
  injection e with e1
  rw [e1]; exact h2
set_option maxRecDepth 100000 in
theorem OwnR.at_ {B : Nat} {w : World} {A : Option Addr} {n c : Nat} {l : List El} (h : OwnR B w (.slice A n c) l) (hm : ∀ e ∈ l, e.wf) : Lies w A l := by
  obtain ⟨A', c', e, _, _, h2⟩ := h.lies hm
  injection e with e1
  rw [e1]; exact h2
/-- A node whose four rows a call owns. -/
structure NdOwn (B : Nat) (w : World) (A1 A2 A3 A4 : Option Addr) (c1 c2 c3 c4 : Nat) (E : List El) (K : List Int) (S : List Sp) (T : List Int) : Prop where
  e : OwnR B w (.slice A1 E.length c1) E
  k : OwnI B w (.slice A2 K.length c2) K
  s : OwnS B w (.slice A3 S.length c3) S
  t : OwnI B w (.slice A4 T.length c4) T
  we : ∀ e ∈ E, e.wf
  ws : ∀ s ∈ S, -9223372036854775808 ≤ s.m
  ne : E.length ≤ 1000000
  nk : K.length ≤ 1000000
  ns : S.length ≤ 1000000
  nt : T.length ≤ 1000000
section
variable {B g : Nat} {w w' : World} {A1 A2 A3 A4 : Option Addr} {c1 c2 c3 c4 : Nat} {E : List El} {K : List Int} {S : List Sp} {T : List Int}
set_option maxRecDepth 100000 in
theorem NdOwn.at_ (h : NdOwn B w A1 A2 A3 A4 c1 c2 c3 c4 E K S T) : NdAt w A1 A2 A3 A4 E K S T :=
  ⟨OwnR.at_ h.e h.we, OwnI.at_ h.k, OwnS.at_ h.s h.ws, OwnI.at_ h.t, by have := h.ne; omega, by have := h.nk; omega, by have := h.ns; omega, by have := h.nt; omega⟩
set_option maxRecDepth 100000 in
theorem NdOwn.calm (h : NdOwn B w A1 A2 A3 A4 c1 c2 c3 c4 E K S T) (hb : Calm w w') : NdOwn B w' A1 A2 A3 A4 c1 c2 c3 c4 E K S T :=
  ⟨rows_calm h.e hb, rows_calm h.k hb, rows_calm h.s hb, rows_calm h.t hb, h.we, h.ws, h.ne, h.nk, h.ns, h.nt⟩
set_option maxRecDepth 100000 in
theorem NdOwn.five (h : NdOwn B w A1 A2 A3 A4 c1 c2 c3 c4 E K S T) (hg : g < B) (b0 b1 b2 b3 b4 : Value) : NdOwn B (World.five w g b0 b1 b2 b3 b4) A1 A2 A3 A4 c1 c2 c3 c4 E K S T :=
  ⟨rows_five h.e hg b0 b1 b2 b3 b4, rows_five h.k hg b0 b1 b2 b3 b4, rows_five h.s hg b0 b1 b2 b3 b4, rows_five h.t hg b0 b1 b2 b3 b4, h.we, h.ws, h.ne, h.nk, h.ns, h.nt⟩
set_option maxRecDepth 100000 in
theorem rows_mono {e : TypeId} {size n B' : Nat} {v : Value} {xs : List Value} (h : w.ownsRow B e size v n xs) (hb : B' ≤ B) : w.ownsRow B' e size v n xs :=
  ⟨h.1, h.2.imp id fun ⟨g, cap, cur, h1, h2, h3⟩ => ⟨g, cap, cur, h1, Nat.le_trans hb h2, h3⟩⟩
set_option maxRecDepth 100000 in
theorem NdOwn.mono {B' : Nat} (h : NdOwn B w A1 A2 A3 A4 c1 c2 c3 c4 E K S T) (hb : B' ≤ B) : NdOwn B' w A1 A2 A3 A4 c1 c2 c3 c4 E K S T :=
  ⟨rows_mono h.e hb, rows_mono h.k hb, rows_mono h.s hb, rows_mono h.t hb, h.we, h.ws, h.ne, h.nk, h.ns, h.nt⟩
set_option maxRecDepth 100000 in
theorem NdOwn.zero (B : Nat) (w : World) : NdOwn B w none none none none 0 0 0 0 [] [] [] [] :=
  ⟨OwnR.nil _ _, OwnI.nil _ _, OwnS.nil _ _, OwnI.nil _ _, by simp, by simp, by simp, by simp, by simp, by simp⟩
end
end Go.Proofs.Ytgebilpdinbfgaa

