/- Slices of records that a call makes: append, and what they read as. -/
import Derived.Test.YtccfcloekjogkaaMem
import Derived.OwnWalk
import Derived.Laws.OwnMore
namespace Go.Proofs.Ytccfcloekjogkaa
open Go.RowKit

def cellsOf (l : List El) : List Value := l.flatMap El.cells
/-- The slice v is nil or owns its row in a block from base on, and reads as l. -/
def OwnR (base : Nat) (w : World) (v : Value) (l : List El) : Prop := w.ownsRow base 33 6 v l.length (cellsOf l)

set_option maxRecDepth 100000 in
theorem cells_len (e : El) : e.cells.length = 6 := rfl
set_option maxRecDepth 100000 in
theorem cellsOf_len (l : List El) : (cellsOf l).length = l.length * 6 := by
  unfold cellsOf
  induction l with
  | nil => rfl
  | cons e l ih => rw [List.flatMap_cons, List.length_append, ih, cells_len, List.length_cons]; omega
set_option maxRecDepth 100000 in
theorem cellsOf_at : ∀ (l : List El) (k j : Nat) (e : El), l[k]? = some e → j < 6 → (cellsOf l)[k * 6 + j]? = e.cells[j]?
  | [], k, j, e, h, _ => by simp at h
  | x :: l, 0, j, e, h, hj => by
    simp at h; subst h
    show (x.cells ++ cellsOf l)[0 * 6 + j]? = _
    rw [Nat.zero_mul, Nat.zero_add, List.getElem?_append_left (by rw [cells_len]; exact hj)]
  | x :: l, k + 1, j, e, h, hj => by
    show (x.cells ++ cellsOf l)[(k + 1) * 6 + j]? = _
    rw [List.getElem?_append_right (by rw [cells_len]; omega), cells_len]
    rw [show (k + 1) * 6 + j - 6 = k * 6 + j by omega]
    exact cellsOf_at l k j e (by simpa using h) hj
set_option maxRecDepth 100000 in
theorem cellsOf_snoc (l : List El) (e : El) : cellsOf (l ++ [e]) = cellsOf l ++ e.cells := by unfold cellsOf; simp

set_option maxRecDepth 100000 in
theorem Calm.grownBy {w w' : World} (h : Calm w w') (row : Option Nat) : w.grownBy w' row := ⟨Below.os h, Below.tape h, Below.output h, Below.size h, fun _ hk _ => h.block hk⟩
set_option maxRecDepth 100000 in
theorem OwnR.lt {base : Nat} {w : World} {v : Value} {l : List El} (h : OwnR base w v l) : ∀ k, v.ownBlock = some k → base ≤ k ∧ k < w.heap.size := World.ownsRow.lt h
set_option maxRecDepth 100000 in
theorem OwnR.calm {base : Nat} {w w' : World} {v : Value} {l : List El} (h : OwnR base w v l) (hb : Calm w w') : OwnR base w' v l := World.ownsRow.kept h (hb.grownBy none) (by
  rcases v.ownBlock with _ | k
  · exact .inl rfl
  · exact .inr (by simp))
set_option maxRecDepth 100000 in
theorem OwnR.nil (base : Nat) (w : World) : OwnR base w (.slice none 0 0) [] := World.ownsRow_nil _ _ _ _
set_option maxRecDepth 100000 in
theorem Calm.grown {a w w' : World} {base : Nat} {v : Value} {l : List El} (h : Calm a w) (hb : a.heap.size ≤ base) (ho : OwnR base w v l) (hg : w.grownBy w' v.ownBlock) : Calm a w' :=
  Below.grown h hg h.size fun k hk => Nat.le_trans hb (ho.lt k hk).1
set_option maxRecDepth 100000 in
/-- What a call owns reads as its list. -/
theorem OwnR.lies {base : Nat} {w : World} {v : Value} {l : List El} (h : OwnR base w v l) (hw : ∀ e ∈ l, e.wf) : ∃ A c, v = .slice A l.length c ∧ l.length ≤ c ∧ c ≤ 9223372036854775807 ∧ Lies w A l := by
  rcases h.2 with ⟨rfl, hl⟩ | ⟨g, cap, cur, rfl, _, hg, hnc, hcm, _, ht⟩
  · have : l = [] := List.eq_nil_of_length_eq_zero hl
    subst this
    exact ⟨none, 0, rfl, Nat.le_refl _, by omega, by simp, fun h => absurd h (by simp)⟩
  · refine ⟨some ⟨g, 0, none⟩, cap, rfl, hnc, by simp only [maxLen] at hcm; omega, hw, fun hpos => ⟨g, 0, rfl, (Array.getElem?_eq_some_iff.1 hg).1, fun k e he => ?_⟩⟩
    have hk : k < l.length := (List.getElem?_eq_some_iff.1 he).1
    have key : ∀ j, j < 6 → w.cell? ⟨g, 0 + k * 6 + j, none⟩ = e.cells[j]? := fun j hj => by
      rw [cell_of_row w g _ cur _ (0, 0) hg, ← cellsOf_at l k j e he hj, ← ht, List.getElem?_take, if_pos (by omega), Nat.zero_add, Array.getElem?_toList]
    exact ⟨key 0 (by omega), key 1 (by omega), key 2 (by omega), key 3 (by omega), key 4 (by omega), key 5 (by omega)⟩

set_option maxRecDepth 100000 in
theorem infoElem : (Try.prog.info? 33).map (fun i => (i.zero, i.size, i.bytes)) = some (some (.agg #[.int .i64 0, .int .i64 0, .int .i64 0, .int .i64 0, .int .i64 0, .string ByteArray.empty]), 6, 56) := by kernel_rfl

set_option maxRecDepth 100000 in
theorem cells_one (e : El) : ∀ u ∈ e.cells, u.oneCell' = true := by
  intro u hu
  simp only [El.cells, List.mem_cons, List.not_mem_nil, or_false] at hu
  rcases hu with rfl | rfl | rfl | rfl | rfl | rfl <;> rfl
set_option maxRecDepth 100000 in
theorem cellsOf_one (l : List El) : ∀ u ∈ cellsOf l, u.oneCell' = true := by
  intro u hu
  obtain ⟨e, _, h⟩ := List.mem_flatMap.1 hu
  exact cells_one e u h

set_option maxRecDepth 100000 in
/-- append(out, e): one record more in a row of the call's own. -/
theorem wpList_append_el {ops : Array Oper} {rest : List Oper} {o : Oper} {a : Act} {w : World} {Q : Exit → Act → World → Prop} (hgd : o.guard = none) (s x : Operand)
    (ho : o.op = .call { callee := .builtin .append, args := #[s, x], argTypes := #[22, 22] })
    (base : Nat) (v : Value) (l : List El) (hs : a.eval s = v) (hown : OwnR base w v l) (g t : Nat) (p o' f m gg : Int) (sv : ByteArray) (fr : Nat × Nat)
    (hx : a.eval x = .slice (some ⟨g, 0, none⟩) 1 1) (hg : w.heap[g]? = some (.cells #[.int .i64 p, .int .i64 o', .int .i64 f, .int .i64 m, .int .i64 gg, .string sv] t fr)) (hl : l.length ≤ 1000000) (hbase : base ≤ w.heap.size)
    (h : ∀ v' w', OwnR base w' v' (l ++ [⟨p, o', f, m, gg, sv⟩]) → (∀ w0 : World, w0.heap.size ≤ base → Calm w0 w → Calm w0 w') → wpList Try.prog ops Q rest (a.put o.dst v') w') : wpList Try.prog ops Q (o :: rest) a w := by
  obtain ⟨i0, hi, hz0, hz1, hz2⟩ := info_parts infoElem
  refine wpList_append_own w hgd s x _ ho base 33 i0 _ 6 56 Try.underlying22 hi hz0 hz1 hz2 rfl (by decide) v _ _ hs hown ⟨g, 0, none⟩ 1 1 (El.cells ⟨p, o', f, m, gg, sv⟩) hx rfl (fun j u hj => ?_) (cells_one _) (by unfold maxLen; omega) (by omega) hbase fun v' w' h1 h2 _ => ?_
  · have : (⟨g, 0, none⟩ : Addr).add j = ⟨g, j, none⟩ := by unfold Addr.add; split <;> simp_all
    rw [this, cell_of_row w g j _ t fr hg, ← hj]
    simp [El.cells]
  · refine h v' w' ?_ fun w0 h0 hc => hc.grown h0 hown h2
    unfold OwnR
    rw [List.length_append, cellsOf_snoc]
    exact h1
set_option maxRecDepth 100000 in
/-- The same, up to what a row may hold. -/
theorem wpList_append_elB {ops : Array Oper} {rest : List Oper} {o : Oper} {a : Act} {w : World} {Q : Exit → Act → World → Prop} (hgd : o.guard = none) (s x : Operand)
    (ho : o.op = .call { callee := .builtin .append, args := #[s, x], argTypes := #[22, 22] })
    (base : Nat) (v : Value) (l : List El) (hs : a.eval s = v) (hown : OwnR base w v l) (g t : Nat) (p o' f m gg : Int) (sv : ByteArray) (fr : Nat × Nat)
    (hx : a.eval x = .slice (some ⟨g, 0, none⟩) 1 1) (hg : w.heap[g]? = some (.cells #[.int .i64 p, .int .i64 o', .int .i64 f, .int .i64 m, .int .i64 gg, .string sv] t fr)) (hl : (l.length + 1) * 56 ≤ 140737488355328) (hbase : base ≤ w.heap.size)
    (h : ∀ v' w', OwnR base w' v' (l ++ [⟨p, o', f, m, gg, sv⟩]) → (∀ w0 : World, w0.heap.size ≤ base → Calm w0 w → Calm w0 w') → wpList Try.prog ops Q rest (a.put o.dst v') w') : wpList Try.prog ops Q (o :: rest) a w := by
  obtain ⟨i0, hi, hz0, hz1, hz2⟩ := info_parts infoElem
  refine wpList_append_own w hgd s x _ ho base 33 i0 _ 6 56 Try.underlying22 hi hz0 hz1 hz2 rfl (by decide) v _ _ hs hown ⟨g, 0, none⟩ 1 1 (El.cells ⟨p, o', f, m, gg, sv⟩) hx rfl (fun j u hj => ?_) (cells_one _) (by unfold maxLen; omega) (by omega) hbase fun v' w' h1 h2 _ => ?_
  · have : (⟨g, 0, none⟩ : Addr).add j = ⟨g, j, none⟩ := by unfold Addr.add; split <;> simp_all
    rw [this, cell_of_row w g j _ t fr hg, ← hj]
    simp [El.cells]
  · refine h v' w' ?_ fun w0 h0 hc => hc.grown h0 hown h2
    unfold OwnR
    rw [List.length_append, cellsOf_snoc]
    exact h1
end Go.Proofs.Ytccfcloekjogkaa
