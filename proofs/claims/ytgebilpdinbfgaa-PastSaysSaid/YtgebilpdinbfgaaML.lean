/- ML: texts of one kind in one file. -/
import Derived.Deep.AppendSrc
import Derived.Deep.RegionLaw
import Derived.Laws.Externs
import Derived.Lib.AppendZerosOnto
import Derived.Lib.Overlaps
import Derived.Lib.SliceRun
import Derived.Lib.Hide
import Derived.Outline
import Derived.Test.YtgebilpdinbfgaaMC
import Derived.Test.YtgebilpdinbfgaaMA
import Derived.Test.YtgebilpdinbfgaaMJ
import Derived.Test.YtgebilpdinbfgaaMG
import Derived.Test.YtgebilpdinbfgaaMB
/- slices.Clone, slices.Insert of one record, slices.Delete of one record: over a row that the caller owns. -/
namespace Go.Proofs.Ytgebilpdinbfgaa
open Go.RowKit

/-- What lies below base is as it was. -/
def Keeps (base : Nat) (w w' : World) : Prop := ∀ w0 : World, w0.heap.size ≤ base → Calm w0 w → Calm w0 w'
def OwnEnd (base : Nat) (l : List El) (w : World) (e : Ending) (w' : World) : Prop := ∃ v, e = .returned v ∧ OwnR base w' v l ∧ Keeps base w w'

set_option maxRecDepth 100000 in
theorem infoElem6s : (Try.prog.info? 33).map (·.size) = some 6 := by kernel_rfl

def spl (cur : List Value) (o : Nat) (cs : List Value) : List Value := cur.take o ++ cs ++ cur.drop (o + cs.length)
set_option maxRecDepth 100000 in
/-- copy(d, s) of records, into a row. -/
theorem run_copy_el (w : World) (ty : TypeId) (g o dLen dCap : Nat) (a : Addr) (sLen sCap : Nat) (cur : List Value) (t : TypeId) (cs : List Value)
    (hg : w.heap[g]? = some (.cells cur.toArray t (0, 0))) (hn : cs.length = Nat.min sLen dLen * 6)
    (hsrc : ∀ j v, cs[j]? = some v → w.cell? (a.add j) = some v) (hfit : o + cs.length ≤ cur.length) (h1 : ∀ v ∈ cs, v.oneCell' = true) :
    (Builtin.copy_ #[27, 27] ty #[.slice (some ⟨g, o, none⟩) dLen dCap, .slice (some a) sLen sCap]).run Try.prog w =
      .ok (goInt (Nat.min sLen dLen)) (w.setRow g (spl cur o cs).toArray) := by
  have hl := run_loadCells_list (P := Try.prog) w a cs hsrc
  have hst := run_storeCells_at Try.prog g o t cs 0 cur.toArray w hg (by simpa using hfit) h1
  have hs := infoElem6s
  cases hq : Try.prog.info? 33 with
  | none => simp [hq] at hs
  | some i =>
    have hi : i.size = 6 := by simpa [hq] using hs
    simp [Builtin.copy_, run_underlying Try.underlying27, Builtin.lenOf, Builtin.firstCells, sizeOf, typeInfo, hq, hi, ← hn, hl, hst, spl]

set_option maxRecDepth 100000 in
/-- A copy whose run is known, as an operation of a plain region and of one that draws. -/
theorem wpList_copy_known {P : Program} {w : World} {ops : Array Oper} {rest : List Oper} {o : Oper} {a : Act} {Q : Exit → Act → World → Prop} (hgd : o.guard = none) (d s : Operand) (t : TypeId)
    (ho : o.op = .call { callee := .builtin .copy, args := #[d, s], argTypes := #[t, t] }) (v u : Value) (hd : a.eval d = v) (hs : a.eval s = u) {v' : Value} {w' : World}
    (hr : (Builtin.copy_ #[t, t] o.type #[v, u]).run P w = .ok v' w') (h : wpList P ops Q rest (a.put o.dst v') w') : wpList P ops Q (o :: rest) a w :=
  wpList_plain hgd fun _ hK => by
    unfold Oper.wp execOp
    simp only [ho, resolve, invoke, builtin, Sem.run_bind, Sem.run_pure, Result.andThen_ok, List.map_toArray, List.map_cons, List.map_nil, hd, hs, hr]
    exact hK _ _ h
set_option maxRecDepth 100000 in
theorem step_copy_known {P : Program} {ops : Array Oper} {o : Oper} {a : Act} {w : World} {K : Act → World → Prop} {Q : Exit → Act → World → Prop} {E : Prop}
    (hg : o.guard = none) (d x : Operand) (t : TypeId) (hop : o.op = Op.call { callee := Callee.builtin Builtin.copy, args := #[d, x], argTypes := #[t, t] })
    (v u : Value) (hd : a.eval d = v) (hx : a.eval x = u) {v' : Value} {w' : World} (hr : (Builtin.copy_ #[t, t] o.type #[v, u]).run P w = .ok v' w') (hK : K (a.put o.dst v') w') :
    if Region.wanted o (yielded ops a.tmps) = true then Oper.wp P o a w K Q else E := by
  have hw : Region.wanted o (yielded ops a.tmps) = true := by simp [Region.wanted, hg]
  rw [if_pos hw]
  unfold Oper.wp
  simp only [execOp, hop, resolve, invoke, builtin, Sem.run_bind, Sem.run_pure, Result.andThen_ok, List.map_toArray, List.map_cons, List.map_nil, hd, hx, hr]
  exact hK

set_option maxRecDepth 100000 in
theorem Lies.cells {w : World} {b q : Nat} {l : List El} (h : Lies w (some ⟨b, q, none⟩) l) : ∀ j v, (cellsOf l)[j]? = some v → w.cell? ⟨b, q + j, none⟩ = some v := fun j v hj => by
  have hlt : j < l.length * 6 := by rw [← cellsOf_len]; exact (List.getElem?_eq_some_iff.1 hj).1
  have hk : j / 6 < l.length := by omega
  have hel := List.getElem?_eq_getElem hk
  obtain ⟨b', q', hA, _, hat⟩ := h.2 (by omega)
  injection hA with hA
  injection hA with h1 h2
  subst h1; subst h2
  have h6 := hat _ _ hel
  rw [show j = j / 6 * 6 + j % 6 by omega, cellsOf_at l (j / 6) (j % 6) _ hel (by omega)] at hj
  have hm : j % 6 < 6 := by omega
  obtain ⟨h0, h1, h2, h3, h4, h5⟩ := h6
  rw [show q + j = q + j / 6 * 6 + j % 6 by omega]
  rcases (by omega : j % 6 = 0 ∨ j % 6 = 1 ∨ j % 6 = 2 ∨ j % 6 = 3 ∨ j % 6 = 4 ∨ j % 6 = 5) with e | e | e | e | e | e <;> rw [e] at hj ⊢ <;> simp [El.cells] at hj <;> subst hj <;> assumption

set_option maxRecDepth 100000 in
set_option maxHeartbeats 4000000 in
theorem clone_any (A : Option Addr) (c : Nat) (l : List El) (w : World) (hn : l.length ≤ 400) (hL : Lies w A l) :
    Calls Try.prog 50 #[.slice A l.length c] w fun e w' => ∃ v, e = .returned v ∧ OwnR w.heap.size w' v l ∧ Calm w w' := by
  rcases A with _ | ⟨b, q, sp⟩
  · have h0 : l = [] := by
      rcases Nat.eq_zero_or_pos l.length with h | h
      · exact List.eq_nil_of_length_eq_zero h
      · obtain ⟨_, _, h1, _⟩ := hL.2 h; cases h1
    subst h0
    have q22 : ∀ (w : World) (n c n' c' : Nat), (binOp .eql 27 (.slice none n c) (.slice none n' c')).run Try.prog w = .ok (.bool true) w := fun w n c n' c' => Lib.run_eql_slice_nil w _ _ none n c n' c' Try.underlying27
    go_enter Try.func50, Try.ntmps50
    go_wp2_with fail
    go_ret
    exact ⟨_, rfl, OwnR.nil _ _, Calm.refl _⟩
  · obtain ⟨i0, hi, hz0, hz1, hz2⟩ := info_parts infoElem
    have q22 : ∀ (w : World) (a : Addr) (n c n' c' : Nat), (binOp .eql 27 (.slice (some a) n c) (.slice none n' c')).run Try.prog w = .ok (.bool false) w := fun w a n c n' c' => Lib.run_eql_slice_nil w _ _ (some a) n c n' c' Try.underlying27
    have hsrc : Hid (∀ j v, (cellsOf l)[j]? = some v → (w.alloc (.cells #[] 33)).cell? ((⟨b, q, sp⟩ : Addr).add j) = some v) := show ∀ _, _ from fun j v hj => by
      have hlt : j < l.length * 6 := by rw [← cellsOf_len]; exact (List.getElem?_eq_some_iff.1 hj).1
      obtain ⟨b', q', hA, hb, _⟩ := hL.2 (by omega)
      injection hA with hA
      injection hA with h1 h2 h3
      subst h1; subst h2; subst h3
      have := hL.cells j v hj
      have e : (⟨b, q, none⟩ : Addr).add j = ⟨b, q + j, none⟩ := by unfold Addr.add; split <;> simp_all
      rw [e, World.cell?_alloc_lt _ _ _ hb]; exact this
    have hlen : (cellsOf l).length = l.length * 6 := cellsOf_len l
    have HLEN := Lib.hid hlen
    have hone : Hid (∀ u ∈ cellsOf l, u.oneCell' = true) := cellsOf_one l
    have hbig : l.length * 56 ≤ 140737488355328 := by omega
    have hmax : l.length ≤ maxLen := by unfold maxLen; omega
    clear hlen hL
    go_enter Try.func50, Try.ntmps50
    go_wp2_with (at_builtin; refine wpList_append_own _ rfl _ _ 27 rfl w.heap.size 33 i0 _ 6 56 Try.underlying27 hi hz0 hz1 hz2 rfl (by decide) _ _ _ rfl (World.ownsRow_made w #[] 0 (Nat.le_refl _) (Nat.zero_le _) (by simp)) ⟨b, q, sp⟩ l.length c (cellsOf l) rfl HLEN.out hsrc.out hone.out (by rw [Nat.zero_add]; exact hmax) (by rw [Nat.zero_add]; exact hbig) (by simp) ?_; intro v' w1 hown hgrow _)
    have hO : OwnR w.heap.size w1 v' l := by unfold OwnR; simpa using hown
    have hC : Calm w w1 := Below.grown ((Calm.refl w).alloc _) hgrow (by simp) (by intro k hk; cases hk; exact Nat.le_refl _)
    clear hown hgrow
    go_wp2_with fail
    go_ret
    exact ⟨_, rfl, hO, hC⟩

/-! ### the rows' contents -/
set_option maxRecDepth 100000 in
theorem insAt_len {l : List El} {i : Nat} (e : El) (hi : i ≤ l.length) : (insAt l i e).length = l.length + 1 := by
  unfold insAt; rw [List.length_append, List.length_cons, List.length_take, List.length_drop]; omega
set_option maxRecDepth 100000 in
theorem cellsOf_app (a b : List El) : cellsOf (a ++ b) = cellsOf a ++ cellsOf b := by unfold cellsOf; simp
set_option maxRecDepth 100000 in
theorem cellsOf_take {l : List El} {i : Nat} (hi : i ≤ l.length) : (cellsOf l).take (i * 6) = cellsOf (l.take i) := by
  have h := cellsOf_app (l.take i) (l.drop i)
  rw [List.take_append_drop] at h
  rw [h]
  exact List.take_left' (by rw [cellsOf_len, List.length_take]; congr 1; omega)
set_option maxRecDepth 100000 in
theorem cellsOf_drop {l : List El} {i : Nat} (hi : i ≤ l.length) : (cellsOf l).drop (i * 6) = cellsOf (l.drop i) := by
  have h := cellsOf_app (l.take i) (l.drop i)
  rw [List.take_append_drop] at h
  rw [h]
  exact List.drop_left' (by rw [cellsOf_len, List.length_take]; congr 1; omega)
set_option maxRecDepth 100000 in
theorem cellsOf_ins (l : List El) (i : Nat) (e : El) : cellsOf (insAt l i e) = cellsOf (l.take i) ++ e.cells ++ cellsOf (l.drop i) := by
  unfold insAt; rw [cellsOf_app, List.append_assoc]; rfl
set_option maxRecDepth 100000 in
theorem spl_mid (a x c y : List Value) (h : x.length = y.length) (o : Nat) (ho : o = a.length) : spl (a ++ x ++ c) o y = a ++ y ++ c := by
  subst ho
  have e1 : (a ++ x ++ c).take a.length = a := by rw [List.append_assoc]; exact List.take_left' rfl
  have e2 : (a ++ x ++ c).drop (a.length + y.length) = c := List.drop_left' (by rw [List.length_append, h])
  unfold spl
  rw [e1, e2]
set_option maxRecDepth 100000 in
theorem parts {cur : List Value} {l : List El} {i : Nat} (hc : cur.take (l.length * 6) = cellsOf l) (hs : (l.length + 1) * 6 ≤ cur.length) :
    ∃ d r, cur = cellsOf (l.take i) ++ cellsOf (l.drop i) ++ d ++ r ∧ d.length = 6 ∧ r = cur.drop ((l.length + 1) * 6) := by
  refine ⟨(cur.drop (l.length * 6)).take 6, cur.drop ((l.length + 1) * 6), ?_, ?_, rfl⟩
  · rw [← cellsOf_app, List.take_append_drop, ← hc, List.append_assoc]
    have h1 : (cur.drop (l.length * 6)).drop 6 = cur.drop ((l.length + 1) * 6) := by rw [List.drop_drop]; congr 1; omega
    rw [← h1, List.take_append_drop, List.take_append_drop]
  · rw [List.length_take, List.length_drop]; omega
set_option maxRecDepth 100000 in
theorem row_shift {cur : List Value} {l : List El} {i : Nat} (e : El) (hi : i ≤ l.length) (hc : cur.take (l.length * 6) = cellsOf l) (hs : (l.length + 1) * 6 ≤ cur.length) :
    spl (spl cur ((i + 1) * 6) (cellsOf (l.drop i))) (i * 6) e.cells = cellsOf (insAt l i e) ++ cur.drop ((l.length + 1) * 6) := by
  obtain ⟨d, r, hcur, hd, hr⟩ := parts (i := i) hc hs
  have hl1 : (cellsOf (l.take i)).length = i * 6 := by rw [cellsOf_len, List.length_take]; congr 1; omega
  have hl2 : (cellsOf (l.drop i)).length = (l.length - i) * 6 := by rw [cellsOf_len, List.length_drop]
  rw [← hr]
  -- the row as: what is ahead of i; six cells; as many as stand from i on; the rest
  obtain ⟨x, y, hxy, hx⟩ : ∃ x y, cellsOf (l.drop i) ++ d = x ++ y ∧ x.length = 6 := ⟨(cellsOf (l.drop i) ++ d).take 6, (cellsOf (l.drop i) ++ d).drop 6, (List.take_append_drop _ _).symm, by rw [List.length_take, List.length_append]; omega⟩
  have hy : y.length = (cellsOf (l.drop i)).length := by
    have := congrArg List.length hxy
    rw [List.length_append, List.length_append] at this; omega
  have h1 : cur = (cellsOf (l.take i) ++ x) ++ y ++ r := by
    rw [hcur, List.append_assoc (cellsOf (l.take i)), hxy]; simp
  have h2 : spl cur ((i + 1) * 6) (cellsOf (l.drop i)) = (cellsOf (l.take i) ++ x) ++ cellsOf (l.drop i) ++ r := by
    rw [h1]
    exact spl_mid _ _ _ _ hy _ (by rw [List.length_append, hl1, hx]; omega)
  rw [h2, cellsOf_ins]
  have h3 := spl_mid (cellsOf (l.take i)) x (cellsOf (l.drop i) ++ r) e.cells (by rw [hx]; rfl) (i * 6) hl1.symm
  rw [show (cellsOf (l.take i) ++ x) ++ cellsOf (l.drop i) ++ r = cellsOf (l.take i) ++ x ++ (cellsOf (l.drop i) ++ r) by simp, h3]
  simp
set_option maxRecDepth 100000 in
theorem row_fresh {cur : List Value} {l : List El} {i : Nat} (e : El) (hi : i ≤ l.length) (hc : cur.take (i * 6) = cellsOf (l.take i)) (hs : (l.length + 1) * 6 ≤ cur.length) :
    spl (spl cur (i * 6) e.cells) ((i + 1) * 6) (cellsOf (l.drop i)) = cellsOf (insAt l i e) ++ cur.drop ((l.length + 1) * 6) := by
  have hl1 : (cellsOf (l.take i)).length = i * 6 := by rw [cellsOf_len, List.length_take]; congr 1; omega
  have hl2 : (cellsOf (l.drop i)).length = (l.length - i) * 6 := by rw [cellsOf_len, List.length_drop]
  obtain ⟨x, y, hxy, hx, hy⟩ : ∃ x y, cur = cellsOf (l.take i) ++ x ++ y ++ cur.drop ((l.length + 1) * 6) ∧ x.length = 6 ∧ y.length = (cellsOf (l.drop i)).length := by
    refine ⟨(cur.drop (i * 6)).take 6, ((cur.drop (i * 6)).drop 6).take ((l.length - i) * 6), ?_, ?_, ?_⟩
    · rw [← hc]
      have h1 : cur.drop ((l.length + 1) * 6) = ((cur.drop (i * 6)).drop 6).drop ((l.length - i) * 6) := by rw [List.drop_drop, List.drop_drop]; congr 1; omega
      rw [h1, List.append_assoc, List.take_append_drop, List.append_assoc, List.take_append_drop, List.take_append_drop]
    · rw [List.length_take, List.length_drop]; omega
    · rw [List.length_take, List.length_drop, List.length_drop, hl2]; omega
  generalize cur.drop ((l.length + 1) * 6) = r at hxy ⊢
  rw [hxy, cellsOf_ins]
  have h2 := spl_mid (cellsOf (l.take i)) x (y ++ r) e.cells (by rw [hx]; rfl) (i * 6) hl1.symm
  rw [show cellsOf (l.take i) ++ x ++ y ++ r = cellsOf (l.take i) ++ x ++ (y ++ r) by simp, h2]
  have h3 := spl_mid (cellsOf (l.take i) ++ e.cells) y r (cellsOf (l.drop i)) hy ((i + 1) * 6) (by rw [List.length_append, hl1]; show _ = _ + 6; omega)
  rw [show cellsOf (l.take i) ++ e.cells ++ (y ++ r) = cellsOf (l.take i) ++ e.cells ++ y ++ r by simp, h3]
set_option maxRecDepth 100000 in
/-- A row whose first cells are those of l, in a block from base on. -/
theorem OwnR.row {base g cap : Nat} {w : World} {l : List El} {cur : List Value} (hb : base ≤ g) (hg : w.heap[g]? = some (.cells cur.toArray 33 (0, 0))) (hn : l.length ≤ cap) (hc : cap ≤ maxLen) (hs : cur.length = cap * 6) (ht : cur.take (l.length * 6) = cellsOf l) :
    OwnR base w (.slice (some ⟨g, 0, none⟩) l.length cap) l :=
  ⟨cellsOf_len l, .inr ⟨g, cap, cur.toArray, rfl, hb, hg, hn, hc, by simpa using hs, by simpa using ht⟩⟩
set_option maxRecDepth 100000 in
theorem spl_len {cur cs : List Value} {o : Nat} (h : o + cs.length ≤ cur.length) : (spl cur o cs).length = cur.length := by
  unfold spl; simp only [List.length_append, List.length_take, List.length_drop]; omega
set_option maxRecDepth 100000 in
theorem cellsOf_set : ∀ {l : List El} {i j : Nat} {u : Value} {x : El} (hi : i < l.length) (_ : j < 6) (_ : x.cells = l[i].cells.set j u), (cellsOf l).set (i * 6 + j) u = cellsOf (l.set i x)
  | [], _, _, _, _, hi, _, _ => absurd hi (by simp)
  | y :: l, 0, j, u, x, hi, hj, hx => by
    show (y.cells ++ cellsOf l).set (0 * 6 + j) u = x.cells ++ cellsOf l
    rw [Nat.zero_mul, Nat.zero_add, List.set_append_left _ _ (by rw [cells_len]; exact hj), hx]
    rfl
  | y :: l, i + 1, j, u, x, hi, hj, hx => by
    show (y.cells ++ cellsOf l).set ((i + 1) * 6 + j) u = y.cells ++ cellsOf (l.set i x)
    rw [List.set_append_right _ _ (by rw [cells_len]; omega), cells_len, show (i + 1) * 6 + j - 6 = i * 6 + j by omega]
    congr 1
    exact cellsOf_set (l := l) (i := i) (by simpa using hi) hj hx
set_option maxRecDepth 100000 in
/-- One field of a record is stored in an owned row. -/
theorem OwnR.set {base g n cap i j : Nat} {w : World} {l : List El} {u : Value} {x : El} (h : OwnR base w (.slice (some ⟨g, 0, none⟩) n cap) l) (hi : i < l.length) (hj : j < 6) (hx : x.cells = l[i].cells.set j u) :
    OwnR base (w.setCell ⟨g, i * 6 + j, none⟩ u) (.slice (some ⟨g, 0, none⟩) n cap) (l.set i x) := by
  have hn : n = l.length := by
    rcases h.2 with ⟨h1, _⟩ | ⟨g', cap', cur, h1, _⟩
    · cases h1
    · injection h1
  subst hn
  have h1 := (World.ownsRow.stored h (i * 6 + j) u).1
  unfold OwnR
  rw [List.length_set, ← cellsOf_set hi hj hx]
  exact h1
set_option maxRecDepth 100000 in
theorem OwnR.cell {base g n cap i : Nat} {w : World} {l : List El} (h : OwnR base w (.slice (some ⟨g, 0, none⟩) n cap) l) (hi : i < l.length) : ElAt w g (i * 6) l[i] ∧ (∀ j, w.frozen? ⟨g, j, none⟩ = false) ∧ base ≤ g ∧ g < w.heap.size ∧ n = l.length ∧ n ≤ cap := by
  have hn : n = l.length ∧ n ≤ cap := by
    rcases h.2 with ⟨h1, _⟩ | ⟨g', cap', cur, h1, _, _, h2, _⟩
    · cases h1
    · injection h1 with h3 h4 h5
      exact ⟨h4, by omega⟩
  obtain ⟨hn, hnc⟩ := hn
  subst hn
  have key : ∀ j, j < 6 → w.cell? ⟨g, i * 6 + j, none⟩ = l[i].cells[j]? := fun j hj => by
    rw [World.ownsRow.cellAt h (i * 6 + j) (by omega), cellsOf_at l i j _ (List.getElem?_eq_getElem hi) hj]
  have hlt := h.lt g rfl
  exact ⟨⟨key 0 (by omega), key 1 (by omega), key 2 (by omega), key 3 (by omega), key 4 (by omega), key 5 (by omega)⟩, fun j => World.ownsRow.frozenAt h j, hlt.1, hlt.2, rfl, hnc⟩
set_option maxRecDepth 100000 in
theorem OwnR.some {base : Nat} {w : World} {v : Value} {l : List El} (h : OwnR base w v l) (hl : 0 < l.length) : ∃ g cap, v = .slice (some ⟨g, 0, none⟩) l.length cap := by
  rcases h.2 with ⟨_, h1⟩ | ⟨g', cap', cur, h1, _⟩
  · omega
  · exact ⟨g', cap', h1⟩
set_option maxRecDepth 100000 in
theorem OwnR.reads {base n c : Nat} {A : Option Addr} {w : World} {l : List El} (h : OwnR base w (.slice A n c) l) (hw : ∀ e ∈ l, e.wf) : n = l.length ∧ Lies w A l := by
  obtain ⟨A', c', hv, _, _, hL⟩ := h.lies hw
  injection hv with h1 h2 h3
  subst h1
  exact ⟨h2, hL⟩
set_option maxRecDepth 100000 in
theorem Good.wf {l : List El} (h : Good l) : ∀ e ∈ l, e.wf := fun e he => by
  have := mem_bounds h he
  unfold El.wf; omega
end Go.Proofs.Ytgebilpdinbfgaa

/- What the reference's look makes of a tree, plainly: first, what is beneath a node. -/
namespace Go.Proofs.Ytgebilpdinbfgaa

/-- What look answers: the records, the separators, the depth and the nodes beneath a node. -/
structure Bn where
  E : List El
  S : List Sp
  D : Int
  N : List Int
def sepsD (l : List Nd) : Nat → Int → List Sp
  | 0, _ => []
  | d + 1, x => match ndOf l x with | none => [] | some n => n.S ++ n.K.flatMap (sepsD l d)
def nodesD (l : List Nd) : Nat → Int → List Int
  | 0, _ => []
  | d + 1, x => match ndOf l x with | none => [] | some n => x :: n.K.flatMap (nodesD l d)
def beneathD (l : List Nd) (d : Nat) (x : Int) : Bn := ⟨recsD l d x, sepsD l d x, d, nodesD l d x⟩
def sizeOf (l : List Nd) (x : Int) : Nat := match l[x.toNat]? with | some n => n.E.length + n.K.length | none => 0
/-- Is a spot where a child may have it? -/
def betw (S : List Sp) (j : Nat) (s : Sp) : Prop := (∀ h : 0 < j ∧ j - 1 < S.length, ¬ sL s S[j - 1]) ∧ (∀ h : j < S.length, sL s S[j])
def lateOf (E : List El) : Int := gMax 0 (E.map El.last)
/-- Is child k as it must be, behind the others? -/
def kidOk (l : List Nd) (n : Nd) (k : Nat) (o b : Bn) (y : Int) : Prop :=
  4 ≤ sizeOf l y ∧ (0 < k → o.D = b.D + 1) ∧ n.T[k]? = some (lateOf b.E) ∧ ∀ s ∈ b.S ++ b.E.map El.sp, betw n.S k s
open Classical in
/-- The first k children taken in. -/
noncomputable def lookUpto (l : List Nd) (n : Nd) (x : Int) (sub : Int → Option Bn) : Nat → Option Bn
  | 0 => some ⟨n.E, n.S, 1, [x]⟩
  | k + 1 => match lookUpto l n x sub k with
    | none => none
    | some o => match n.K[k]? with
      | none => some o
      | some y => match sub y with
        | none => none
        | some b => if kidOk l n k o b y ∧ (o.N ++ b.N).length ≤ 400 then some ⟨o.E ++ b.E, o.S ++ b.S, b.D + 1, o.N ++ b.N⟩ else none
noncomputable def lookR (l : List Nd) : Nat → Int → Option Bn
  | 0, _ => none
  | m + 1, x => match ndOf l x with
    | none => none
    | some n => if n.kd = 0 then none else lookUpto l n x (lookR l m) n.K.length
/-- A subtree of depth d that look takes. -/
def SubOk (l : List Nd) : Nat → Int → Prop
  | 0, _ => False
  | d + 1, x => ∃ n, ndOf l x = some n ∧ (n.kd = 1 ∧ d = 0 ∨ n.kd = 2 ∧ ∀ (j : Nat) (y : Int), n.K[j]? = some y → SubOk l d y ∧ 4 ≤ sizeOf l y ∧ n.T[j]? = some (lateOf (recsD l d y)) ∧ ∀ s ∈ sepsD l d y ++ (recsD l d y).map El.sp, betw n.S j s)
set_option maxRecDepth 100000 in
theorem SubOk.deep {l : List Nd} : ∀ {d : Nat} {x : Int}, SubOk l d x → Deep l d x
  | 0, _, h => h
  | d + 1, x, ⟨n, hn, hc⟩ => ⟨n, hn, hc.imp id fun ⟨h1, h2⟩ => ⟨h1, fun y hy => by
      obtain ⟨j, hj, rfl⟩ := List.getElem_of_mem hy
      exact SubOk.deep (h2 j _ (List.getElem?_eq_getElem hj)).1⟩⟩
set_option maxRecDepth 100000 in
theorem flat_take {α β : Type} (f : α → List β) (K : List α) {k : Nat} {y : α} (h : K[k]? = some y) : (K.take (k + 1)).flatMap f = (K.take k).flatMap f ++ f y := by
  rw [← takeSnoc' h, List.flatMap_append, List.flatMap_singleton]
set_option maxRecDepth 100000 in
theorem flat_le {α β : Type} (f : α → List β) (K : List α) (k : Nat) : ((K.take k).flatMap f).length ≤ (K.flatMap f).length := by
  conv => rhs; rw [← List.take_append_drop k K]
  rw [List.flatMap_append, List.length_append]; omega
set_option maxRecDepth 100000 in
/-- look takes such a subtree. -/
theorem look_of {l : List Nd} (hok : NdsOk l) : ∀ (d m : Nat) (x : Int), SubOk l d x → d ≤ m → (nodesD l d x).length ≤ 400 → lookR l m x = some (beneathD l d x)
  | 0, _, _, h, _, _ => absurd h id
  | d + 1, 0, _, _, h, _ => absurd h (by omega)
  | d + 1, m + 1, x, ⟨n, hn, hc⟩, hm, hlen => by
    have e1 : recsD l (d + 1) x = n.E ++ n.K.flatMap (recsD l d) := by rw [recsD, hn]
    have e2 : sepsD l (d + 1) x = n.S ++ n.K.flatMap (sepsD l d) := by rw [sepsD, hn]
    have e3 : nodesD l (d + 1) x = x :: n.K.flatMap (nodesD l d) := by rw [nodesD, hn]
    have h9 := hok n (List.mem_of_getElem? (nd_of_in hn).2.2)
    rw [lookR, hn]
    simp only
    rcases hc with ⟨h1, rfl⟩ | ⟨h1, h2⟩
    · rw [h1] at h9
      have hK : n.K = [] := List.eq_nil_of_length_eq_zero (leaf_good h9).1
      rw [if_neg (by omega), hK, List.length_nil, lookUpto]
      unfold beneathD
      rw [e1, e2, e3, hK]
      simp
    · rw [if_neg (by omega)]
      rw [h1] at h9
      have hK0 := (inner_good h9).2.1
      have key : ∀ k, k ≤ n.K.length → lookUpto l n x (lookR l m) k = some ⟨n.E ++ (n.K.take k).flatMap (recsD l d), n.S ++ (n.K.take k).flatMap (sepsD l d), if k = 0 then 1 else ((d + 1 : Nat) : Int), x :: (n.K.take k).flatMap (nodesD l d)⟩ := by
        intro k hk
        induction k with
        | zero => simp [lookUpto]
        | succ k ih =>
          have hlt : k < n.K.length := by omega
          have hy := List.getElem?_eq_getElem hlt
          obtain ⟨s1, s2, s3, s4⟩ := h2 k _ hy
          rw [lookUpto, ih (by omega)]
          simp only [hy]
          have hle : (nodesD l d n.K[k]).length ≤ (n.K.flatMap (nodesD l d)).length := by
            have a1 := flat_le (nodesD l d) n.K (k + 1)
            rw [flat_take _ _ hy, List.length_append] at a1
            omega
          have hsub := look_of hok d m n.K[k] s1 (by omega) (by rw [e3, List.length_cons] at hlen; omega)
          rw [hsub]
          simp only [beneathD]
          have a1 := flat_le (nodesD l d) n.K (k + 1)
          rw [flat_take _ _ hy, List.length_append] at a1
          rw [e3, List.length_cons] at hlen
          refine (if_pos ⟨⟨s2, fun h0 => ?_, s3, s4⟩, ?_⟩).trans ?_
          · rw [flat_take _ _ hy, flat_take _ _ hy, flat_take _ _ hy, if_neg (by omega)]
            simp only [List.append_assoc, List.cons_append]
            rfl
          · show (if k = 0 then (1 : Int) else ((d + 1 : Nat) : Int)) = (d : Int) + 1
            rw [if_neg (by omega)]
            omega
          · simp only [List.cons_append, List.length_cons, List.length_append]; omega
      rw [key _ (Nat.le_refl _), List.take_length, if_neg (by omega)]
      unfold beneathD
      rw [e1, e2, e3]
set_option maxRecDepth 100000 in
/-- What look takes is such a subtree. -/
theorem of_look {l : List Nd} (hok : NdsOk l) : ∀ (m : Nat) (x : Int) (b : Bn), lookR l m x = some b → ∃ d, 0 < d ∧ d ≤ m ∧ SubOk l d x ∧ b = beneathD l d x ∧ b.N.length ≤ 400
  | 0, _, _, h => by rw [lookR] at h; cases h
  | m + 1, x, b, h => by
    rw [lookR] at h
    cases hn : ndOf l x with
    | none => rw [hn] at h; cases h
    | some n =>
      rw [hn] at h
      simp only at h
      split at h
      · cases h
      rename_i h0
      have h9 := hok n (List.mem_of_getElem? (nd_of_in hn).2.2)
      rcases nd_kinds h9 with hk | hk | hk
      · exact absurd hk h0
      · rw [hk] at h9
        have hK : n.K = [] := List.eq_nil_of_length_eq_zero (leaf_good h9).1
        rw [hK, List.length_nil, lookUpto] at h
        injection h with h
        subst h
        refine ⟨1, by omega, by omega, ⟨n, hn, .inl ⟨hk, rfl⟩⟩, ?_, by simp⟩
        unfold beneathD
        rw [recsD, sepsD, nodesD, hn]
        simp [hK]
      · rw [hk] at h9
        have hK0 := (inner_good h9).2.1
        -- behind k children, k > 0: one depth for all of them
        have key : ∀ k, k ≤ n.K.length → ∀ o, lookUpto l n x (lookR l m) k = some o → (o.N.length ≤ 400 ∧ (k = 0 ∧ o = ⟨n.E, n.S, 1, [x]⟩ ∨ ∃ d, 0 < d ∧ d ≤ m ∧ (∀ (j : Nat) (y : Int), j < k → n.K[j]? = some y → SubOk l d y ∧ 4 ≤ sizeOf l y ∧ n.T[j]? = some (lateOf (recsD l d y)) ∧ ∀ s ∈ sepsD l d y ++ (recsD l d y).map El.sp, betw n.S j s) ∧
            o = ⟨n.E ++ (n.K.take k).flatMap (recsD l d), n.S ++ (n.K.take k).flatMap (sepsD l d), ((d + 1 : Nat) : Int), x :: (n.K.take k).flatMap (nodesD l d)⟩)) := by
          intro k hk
          induction k with
          | zero =>
            intro o ho
            rw [lookUpto] at ho
            injection ho with ho
            subst ho
            exact ⟨by simp, .inl ⟨rfl, rfl⟩⟩
          | succ k ih =>
            intro o ho
            have hlt : k < n.K.length := by omega
            have hy := List.getElem?_eq_getElem hlt
            rw [lookUpto] at ho
            cases hp : lookUpto l n x (lookR l m) k with
            | none => rw [hp] at ho; cases ho
            | some p =>
              rw [hp] at ho
              simp only [hy] at ho
              cases hs : lookR l m n.K[k] with
              | none => rw [hs] at ho; cases ho
              | some b' =>
                rw [hs] at ho
                simp only at ho
                split at ho
                · rename_i hkid
                  injection ho with ho
                  subst ho
                  obtain ⟨⟨k1, k2, k3, k4⟩, k5⟩ := hkid
                  obtain ⟨d, g1, g2, g3, g4, g5⟩ := of_look hok m _ b' hs
                  subst g4
                  refine ⟨k5, .inr ?_⟩
                  obtain ⟨-, hp2⟩ := ih (by omega) p hp
                  rcases hp2 with ⟨rfl, rfl⟩ | ⟨d', p1, p2, p3, rfl⟩
                  · refine ⟨d, g1, g2, fun j y hj hyj => ?_, ?_⟩
                    · have : j = 0 := by omega
                      subst this
                      rw [hy] at hyj
                      injection hyj with hyj
                      subst hyj
                      exact ⟨g3, k1, k3, k4⟩
                    · rw [flat_take _ _ hy, flat_take _ _ hy, flat_take _ _ hy]
                      simp [beneathD]
                  · have hd : d' = d ∨ k = 0 := by
                      rcases Nat.eq_zero_or_pos k with h0 | h0
                      · exact .inr h0
                      · have := k2 h0
                        simp only [beneathD] at this
                        exact .inl (by omega)
                    have hd : d' = d ∨ k = 0 := hd
                    rcases Nat.eq_zero_or_pos k with h0 | h0
                    · subst h0
                      refine ⟨d, g1, g2, fun j y hj hyj => ?_, ?_⟩
                      · have : j = 0 := by omega
                        subst this
                        rw [hy] at hyj
                        injection hyj with hyj
                        subst hyj
                        exact ⟨g3, k1, k3, k4⟩
                      · rw [flat_take _ _ hy, flat_take _ _ hy, flat_take _ _ hy]
                        simp [beneathD]
                    · have hdd : d' = d := hd.elim id (by omega)
                      subst hdd
                      refine ⟨d', g1, g2, fun j y hj hyj => ?_, ?_⟩
                      · rcases Nat.lt_or_ge j k with h3 | h3
                        · exact p3 j y h3 hyj
                        · have : j = k := by omega
                          subst this
                          rw [hy] at hyj
                          injection hyj with hyj
                          subst hyj
                          exact ⟨g3, k1, k3, k4⟩
                      · rw [flat_take _ _ hy, flat_take _ _ hy, flat_take _ _ hy]
                        simp [beneathD]
                · cases ho
        obtain ⟨hN, hcase⟩ := key _ (Nat.le_refl _) b h
        rcases hcase with ⟨h0', _⟩ | ⟨d, d1, d2, d3, rfl⟩
        · omega
        · refine ⟨d + 1, by omega, by omega, ⟨n, hn, .inr ⟨hk, fun j y hy => d3 j y (List.getElem?_eq_some_iff.1 hy).1 hy⟩⟩, ?_, hN⟩
          unfold beneathD
          rw [recsD, sepsD, nodesD, hn, List.take_length]
end Go.Proofs.Ytgebilpdinbfgaa

/- What the reference's look makes of a tree, plainly: that it agrees with linked, filled, timed and ordered. -/
namespace Go.Proofs.Ytgebilpdinbfgaa

/-- All spots beneath a node. -/
def spotsD (l : List Nd) (d : Nat) (x : Int) : List Sp := sepsD l d x ++ (recsD l d x).map El.sp
set_option maxRecDepth 100000 in
theorem mem_spots {l : List Nd} {d : Nat} {x : Int} {n : Nd} (hn : ndOf l x = some n) {s : Sp} : s ∈ spotsD l (d + 1) x ↔ s ∈ n.S ∨ (∃ e ∈ n.E, e.sp = s) ∨ ∃ y ∈ n.K, s ∈ spotsD l d y := by
  unfold spotsD
  rw [recsD, sepsD, hn]
  simp only [List.mem_append, List.mem_flatMap, List.mem_map]
  constructor
  · rintro ((h | ⟨y, hy, h⟩) | ⟨e, (h | ⟨y, hy, h⟩), rfl⟩)
    · exact .inl h
    · exact .inr (.inr ⟨y, hy, .inl h⟩)
    · exact .inr (.inl ⟨e, h, rfl⟩)
    · exact .inr (.inr ⟨y, hy, .inr ⟨e, h, rfl⟩⟩)
  · rintro (h | ⟨e, h, rfl⟩ | ⟨y, hy, (h | ⟨e, h, rfl⟩)⟩)
    · exact .inl (.inl h)
    · exact .inr ⟨e, .inl h, rfl⟩
    · exact .inl (.inr ⟨y, hy, h⟩)
    · exact .inr ⟨e, .inr ⟨y, hy, h⟩, rfl⟩
set_option maxRecDepth 100000 in
/-- Spots within a child's bounds stand where the child may have them. -/
theorem betw_of {S : List Sp} {lo hi s : Sp} {j : Nat} (h : inB (bdLo S lo j) (bdHi S hi j) s) : betw S j s := by
  rw [inB_iff] at h
  refine ⟨fun ⟨h0, h1⟩ => ?_, fun h0 => ?_⟩
  · have := h.1
    rw [bdLo_at h0 (by omega)] at this
    exact this
  · have := h.2
    rw [bdHi_at h0] at this
    exact this
set_option maxRecDepth 100000 in
theorem inB_of {S : List Sp} {lo hi s : Sp} {j : Nat} (h : betw S j s) (hb : inB lo hi s) (hj : j ≤ S.length) : inB (bdLo S lo j) (bdHi S hi j) s := by
  rw [inB_iff] at hb ⊢
  constructor
  · rcases Nat.eq_zero_or_pos j with h0 | h0
    · subst h0; exact hb.1
    · rw [bdLo_at h0 hj]; exact h.1 ⟨h0, by omega⟩
  · rcases Nat.lt_or_ge j S.length with h0 | h0
    · rw [bdHi_at h0]; exact h.2 h0
    · rw [bdHi_end h0]; exact hb.2
set_option maxRecDepth 100000 in
theorem ord_spots {l : List Nd} (hok : NdsOk l) : ∀ (d : Nat) (x : Int) (lo hi : Sp), Deep l d x → OrdP l d x lo hi → ∀ s ∈ spotsD l d x, inB lo hi s
  | 0, _, _, _, h, _ => absurd h id
  | d + 1, x, lo, hi, ⟨n, hn, hc⟩, ho => fun s hs => by
    obtain ⟨o1, o2, o3⟩ := ho n hn
    rcases (mem_spots hn).1 hs with h | ⟨e, h, rfl⟩ | ⟨y, hy, h⟩
    · exact o2 s h
    · exact o1 e h
    · have h9 := hok n (List.mem_of_getElem? (nd_of_in hn).2.2)
      rcases hc with ⟨hk, -⟩ | ⟨hk, hkids⟩
      · rw [(nd_sizes h9).2.2.2.2.2 hk] at hy
        exact absurd hy List.not_mem_nil
      · rw [hk] at h9
        have hsl := (inner_good h9).2.2.2.1
        obtain ⟨j, hj, rfl⟩ := List.getElem_of_mem hy
        have h1 := ord_spots hok d _ _ _ (hkids _ hy) (o3 j _ (List.getElem?_eq_getElem hj)) s h
        -- within the child's bounds is within the node's
        rw [inB_iff] at h1 ⊢
        constructor
        · intro h2
          rcases Nat.eq_zero_or_pos j with h0 | h0
          · subst h0; exact h1.1 h2
          · have h3 := h1.1
            rw [bdLo_at h0 (by omega)] at h3
            exact h3 (sL_le_trans h2 (inB_iff.1 (o2 _ (List.getElem_mem (by omega : j - 1 < n.S.length)))).1)
        · rcases Nat.lt_or_ge j n.S.length with h0 | h0
          · have h3 := h1.2
            rw [bdHi_at h0] at h3
            exact sL_trans h3 (inB_iff.1 (o2 _ (List.getElem_mem h0))).2
          · have h3 := h1.2
            rw [bdHi_end h0] at h3
            exact h3
set_option maxRecDepth 100000 in
theorem spots_ord {l : List Nd} (hok : NdsOk l) : ∀ (d : Nat) (x : Int) (lo hi : Sp), SubOk l d x → (∀ s ∈ spotsD l d x, inB lo hi s) → OrdP l d x lo hi
  | 0, _, _, _, h, _ => absurd h id
  | d + 1, x, lo, hi, ⟨n, hn, hc⟩, hs => fun n' hn' => by
    rw [hn] at hn'
    injection hn' with hn'
    subst hn'
    have h9 := hok n (List.mem_of_getElem? (nd_of_in hn).2.2)
    refine ⟨fun e he => hs _ ((mem_spots hn).2 (.inr (.inl ⟨e, he, rfl⟩))), fun s h => hs _ ((mem_spots hn).2 (.inl h)), fun j y hy => ?_⟩
    rcases hc with ⟨hk, -⟩ | ⟨hk, hkids⟩
    · rw [(nd_sizes h9).2.2.2.2.2 hk] at hy
      simp at hy
    · rw [hk] at h9
      have hsl := (inner_good h9).2.2.2.1
      have hj := (List.getElem?_eq_some_iff.1 hy).1
      obtain ⟨s1, s2, s3, s4⟩ := hkids j y hy
      exact spots_ord hok d y _ _ s1 fun s h => inB_of (s4 s h) (hs s ((mem_spots hn).2 (.inr (.inr ⟨y, List.mem_of_getElem? hy, h⟩)))) (by omega)
set_option maxRecDepth 100000 in
/-- Every spot of nodes that are right is between the ends of all. -/
theorem spots_all {l : List Nd} (hok : NdsOk l) : ∀ (d : Nat) (x : Int), ∀ s ∈ spotsD l d x, inB ⟨0, 0, 0, 0⟩ ⟨16, 0, 0, 0⟩ s
  | 0, _, s, h => by simp [spotsD, sepsD, recsD] at h
  | d + 1, x, s, h => by
    have hend : ∀ e : El, e.err = 0 → inB ⟨0, 0, 0, 0⟩ ⟨16, 0, 0, 0⟩ e.sp := fun e he => by
      obtain ⟨h1, h2, h3, h4, h5, h6, h7, h8, -⟩ := err_zero he
      rw [inB_iff]
      unfold sL sLt kLt El.sp
      simp only
      constructor
      · rintro (h | ⟨h, h'⟩)
        · omega
        · omega
      · left; left; omega
    cases hn : ndOf l x with
    | none =>
      unfold spotsD at h
      rw [recsD, sepsD, hn] at h
      simp at h
    | some n =>
      have h9 := hok n (List.mem_of_getElem? (nd_of_in hn).2.2)
      rcases (mem_spots hn).1 h with h | ⟨e, he, rfl⟩ | ⟨y, hy, h⟩
      · rcases nd_kinds h9 with hk | hk | hk
        · rw [hk] at h9
          rw [(free_nil h9).2.2.1] at h
          exact absurd h List.not_mem_nil
        · rw [hk] at h9
          rw [List.eq_nil_of_length_eq_zero (leaf_good h9).2.1] at h
          exact absurd h List.not_mem_nil
        · rw [hk] at h9
          exact hend s.el ((inner_good h9).2.2.2.2.2.2.1 _ (List.mem_map.2 ⟨s, h, rfl⟩))
      · rcases nd_kinds h9 with hk | hk | hk
        · rw [hk] at h9
          rw [(free_nil h9).1] at he
          exact absurd he List.not_mem_nil
        · rw [hk] at h9
          exact hend e ((leaf_good h9).2.2.2.2.1 e he)
        · rw [hk] at h9
          rw [List.eq_nil_of_length_eq_zero (inner_good h9).1] at he
          exact absurd he List.not_mem_nil
      · exact spots_all hok d y s h

/-! ### Times -/
set_option maxRecDepth 100000 in
theorem gMax_flat {α : Type} (f : α → List Int) : ∀ (K : List α), gMax 0 (K.map fun y => gMax 0 (f y)) = gMax 0 (K.flatMap f) := by
  intro K
  have h0 : ∀ L : List Int, 0 ≤ gMax 0 L := fun L => (gMax_ge L 0).1
  refine (gMax_eq (h0 _) (fun x hx => ?_) ?_)
  · obtain ⟨y, hy, rfl⟩ := List.mem_map.1 hx
    refine ?_
    rcases gMax_or (f y) 0 with h | h
    · rw [h]; exact h0 _
    · exact (gMax_ge (K.flatMap f) 0).2 _ (List.mem_flatMap.2 ⟨y, hy, h⟩)
  · rcases gMax_or (K.flatMap f) 0 with h | h
    · exact .inl h
    · obtain ⟨y, hy, hz⟩ := List.mem_flatMap.1 h
      refine .inr (List.mem_map.2 ⟨y, hy, ?_⟩)
      have h1 := (gMax_ge (f y) 0).2 _ hz
      have h2 : gMax 0 (f y) ≤ gMax 0 (K.flatMap f) := by
        rcases gMax_or (f y) 0 with h3 | h3
        · rw [h3]; exact h0 _
        · exact (gMax_ge (K.flatMap f) 0).2 _ (List.mem_flatMap.2 ⟨y, hy, h3⟩)
      omega
set_option maxRecDepth 100000 in
theorem late_flat (f : Int → List El) (K : List Int) : lateOf (K.flatMap f) = gMax 0 (K.map fun y => lateOf (f y)) := by
  unfold lateOf
  rw [List.map_flatMap]
  exact (gMax_flat (fun y => (f y).map El.last) K).symm
set_option maxRecDepth 100000 in
theorem list_eq_map {T : List Int} {K : List Int} {f : Int → Int} (hl : T.length = K.length) (h : ∀ (j : Nat) (y : Int), K[j]? = some y → T[j]? = some (f y)) : T = K.map f := by
  apply List.ext_getElem?
  intro j
  rw [List.getElem?_map]
  cases hj : K[j]? with
  | none => simp only [Option.map_none]; rw [List.getElem?_eq_none_iff] at hj ⊢; omega
  | some y => rw [h j y hj]; rfl
set_option maxRecDepth 100000 in
/-- The greatest time of a node whose children's are right is the greatest beneath it. -/
theorem tid_late {l : List Nd} (hok : NdsOk l) (hT : TimeP l) : ∀ (d : Nat) (x : Int), Deep l d x → tidOf l x = lateOf (recsD l d x)
  | 0, _, h => absurd h id
  | d + 1, x, ⟨n, hn, hc⟩ => by
    obtain ⟨i1, i2, i3⟩ := nd_of_in hn
    have h9 := hok n (List.mem_of_getElem? i3)
    have e0 : tidOf l x = ndTid n.E n.T := by unfold tidOf; rw [i3]
    rw [e0, recsD, hn]
    simp only
    unfold ndTid
    rcases hc with ⟨hk, -⟩ | ⟨hk, hkids⟩
    · rw [hk] at h9
      obtain ⟨l1, l2, l3, -⟩ := leaf_good h9
      rw [List.eq_nil_of_length_eq_zero l1, List.eq_nil_of_length_eq_zero l3]
      simp [lateOf]
    · rw [hk] at h9
      obtain ⟨g1, g2, g3, g4, g5, -⟩ := inner_good h9
      rw [List.eq_nil_of_length_eq_zero g1]
      simp only [List.map_nil, List.nil_append]
      rw [late_flat]
      congr 1
      refine (list_eq_map (f := tidOf l) g5 fun j y hy => hT x.toNat n i3 j y hy).trans ?_
      refine List.map_congr_left fun y hy => ?_
      exact tid_late hok hT d y (hkids y hy)
set_option maxRecDepth 100000 in
theorem tid_sub {l : List Nd} (hok : NdsOk l) : ∀ (d : Nat) (x : Int), SubOk l d x → tidOf l x = lateOf (recsD l d x)
  | 0, _, h => absurd h id
  | d + 1, x, ⟨n, hn, hc⟩ => by
    obtain ⟨i1, i2, i3⟩ := nd_of_in hn
    have h9 := hok n (List.mem_of_getElem? i3)
    have e0 : tidOf l x = ndTid n.E n.T := by unfold tidOf; rw [i3]
    rw [e0, recsD, hn]
    simp only
    unfold ndTid
    rcases hc with ⟨hk, -⟩ | ⟨hk, hkids⟩
    · rw [hk] at h9
      obtain ⟨l1, l2, l3, -⟩ := leaf_good h9
      rw [List.eq_nil_of_length_eq_zero l1, List.eq_nil_of_length_eq_zero l3]
      simp [lateOf]
    · rw [hk] at h9
      obtain ⟨g1, g2, g3, g4, g5, -⟩ := inner_good h9
      rw [List.eq_nil_of_length_eq_zero g1]
      simp only [List.map_nil, List.nil_append]
      rw [late_flat]
      congr 1
      exact list_eq_map (f := fun y => lateOf (recsD l d y)) g5 fun j y hy => (hkids j y hy).2.2.1

set_option maxRecDepth 100000 in
/-- The nodes beneath a node are such subtrees, too. -/
theorem sub_nodes {l : List Nd} : ∀ (d : Nat) (x : Int), SubOk l d x → ∀ z ∈ nodesD l d x, ∃ d', d' ≤ d ∧ SubOk l d' z
  | 0, _, h => absurd h id
  | d + 1, x, hx => fun z hz => by
    obtain ⟨n, hn, hc⟩ := id hx
    rw [nodesD, hn] at hz
    simp only at hz
    rcases List.mem_cons.1 hz with rfl | hz
    · exact ⟨d + 1, Nat.le_refl _, hx⟩
    · obtain ⟨y, hy, hz⟩ := List.mem_flatMap.1 hz
      rcases hc with ⟨hk, rfl⟩ | ⟨hk, hkids⟩
      · simp [nodesD] at hz
      · obtain ⟨j, hj, rfl⟩ := List.getElem_of_mem hy
        obtain ⟨d', h1, h2⟩ := sub_nodes d _ (hkids j _ (List.getElem?_eq_getElem hj)).1 z hz
        exact ⟨d', by omega, h2⟩
set_option maxRecDepth 100000 in
/-- Beneath a node, but not itself: four records or children. -/
theorem sub_fill {l : List Nd} : ∀ (d : Nat) (x : Int), SubOk l d x → ∀ z ∈ nodesD l d x, z = x ∨ 4 ≤ sizeOf l z
  | 0, _, h => absurd h id
  | d + 1, x, ⟨n, hn, hc⟩ => fun z hz => by
    rw [nodesD, hn] at hz
    simp only at hz
    rcases List.mem_cons.1 hz with rfl | hz
    · exact .inl rfl
    · obtain ⟨y, hy, hz⟩ := List.mem_flatMap.1 hz
      rcases hc with ⟨hk, rfl⟩ | ⟨hk, hkids⟩
      · simp [nodesD] at hz
      · obtain ⟨j, hj, rfl⟩ := List.getElem_of_mem hy
        obtain ⟨s1, s2, -⟩ := hkids j _ (List.getElem?_eq_getElem hj)
        rcases sub_fill d _ s1 z hz with h | h
        · rw [h]; exact .inr s2
        · exact .inr h
end Go.Proofs.Ytgebilpdinbfgaa

/- What the reference's look makes of a tree, plainly: the nodes beneath the root are those of the levels. -/
namespace Go.Proofs.Ytgebilpdinbfgaa

/-! ### Counting -/
set_option maxRecDepth 100000 in
theorem nodup_le {α : Type} [DecidableEq α] : ∀ {A B : List α}, A.Nodup → (∀ x ∈ A, x ∈ B) → A.length ≤ B.length
  | [], _, _, _ => Nat.zero_le _
  | a :: A, B, hn, hs => by
    obtain ⟨h1, h2⟩ := List.nodup_cons.1 hn
    have hb := hs a (List.mem_cons_self ..)
    have h3 := nodup_le (A := A) (B := B.erase a) h2 fun x hx => (List.mem_erase_of_ne (fun e => by subst e; exact h1 hx)).2 (hs x (List.mem_cons_of_mem _ hx))
    rw [List.length_erase_of_mem hb] at h3
    have h4 : 0 < B.length := List.length_pos_of_mem hb
    rw [List.length_cons]; omega
set_option maxRecDepth 100000 in
theorem nodup_all {α : Type} [DecidableEq α] {A B : List α} (hn : A.Nodup) (hs : ∀ x ∈ A, x ∈ B) (hl : B.length ≤ A.length) : ∀ x ∈ B, x ∈ A := fun x hx => by
  by_cases h : x ∈ A
  · exact h
  · have h1 := nodup_le (A := x :: A) (B := B) (List.nodup_cons.2 ⟨h, hn⟩) fun y hy => (List.mem_cons.1 hy).elim (fun e => by rw [e]; exact hx) (hs y)
    rw [List.length_cons] at h1
    omega
/-- How many nodes are not free. -/
def usedOf (l : List Nd) : Nat := l.countP fun n => decide (n.kd ≠ 0)
def isUsed (l : List Nd) (i : Nat) : Bool := match l[i]? with | some n => decide (n.kd ≠ 0) | none => false
/-- Their numbers. -/
def usedIdx (l : List Nd) : List Int := ((List.range l.length).filter (isUsed l)).map fun i : Nat => (i : Int)
set_option maxRecDepth 100000 in
theorem usedIdx_len (l : List Nd) : (usedIdx l).length = usedOf l := by
  unfold usedIdx usedOf
  rw [List.length_map]
  suffices h : ∀ k, k ≤ l.length → ((List.range k).filter (isUsed l)).length = (l.take k).countP fun n => decide (n.kd ≠ 0) by
    have := h l.length (Nat.le_refl _)
    rw [List.take_length] at this
    exact this
  intro k hk
  induction k with
  | zero => simp
  | succ k ih =>
    have hlt : k < l.length := by omega
    have hu : isUsed l k = decide (l[k].kd ≠ 0) := by unfold isUsed; rw [List.getElem?_eq_getElem hlt]
    rw [List.range_succ, List.filter_append, List.length_append, ih (by omega), List.take_succ_eq_append_getElem hlt, List.countP_append]
    congr 1
    by_cases h0 : l[k].kd ≠ 0
    · rw [decide_eq_true h0] at hu
      rw [List.filter_cons_of_pos hu, List.countP_cons_of_pos (by simpa using h0)]
      rfl
    · rw [decide_eq_false h0] at hu
      rw [List.filter_cons_of_neg (by rw [hu]; simp), List.countP_cons_of_neg (by simpa using h0)]
      rfl
set_option maxRecDepth 100000 in
theorem usedIdx_nodup (l : List Nd) : (usedIdx l).Nodup := by
  unfold usedIdx
  have h1 : ((List.range l.length).filter (isUsed l)).Nodup := List.Nodup.sublist List.filter_sublist List.nodup_range
  rw [List.Nodup, List.pairwise_map]
  exact h1.imp fun hab he => hab (by omega)
set_option maxRecDepth 100000 in
theorem mem_used {l : List Nd} {x : Int} : x ∈ usedIdx l ↔ ∃ n, ndOf l x = some n ∧ n.kd ≠ 0 := by
  unfold usedIdx
  simp only [List.mem_map, List.mem_filter, List.mem_range]
  constructor
  · rintro ⟨i, ⟨hi, hb⟩, rfl⟩
    unfold isUsed at hb
    rw [List.getElem?_eq_getElem hi] at hb
    exact ⟨l[i], nd_of (by omega) (by rw [Int.toNat_natCast]; exact List.getElem?_eq_getElem hi), of_decide_eq_true hb⟩
  · rintro ⟨n, hn, h0⟩
    obtain ⟨h1, h2, h3⟩ := nd_of_in hn
    exact ⟨x.toNat, ⟨by omega, by unfold isUsed; rw [h3]; exact decide_eq_true h0⟩, by omega⟩

/-! ### Levels -/
def allLev (l : List Nd) (L : List Int) : Nat → List Int
  | 0 => []
  | d + 1 => L ++ allLev l (L.flatMap (kidsOf l)) d
set_option maxRecDepth 100000 in
theorem allLev_snoc (l : List Nd) : ∀ (k : Nat) (L : List Int), allLev l L (k + 1) = allLev l L k ++ levF l L k
  | 0, L => by simp [allLev, levF]
  | k + 1, L => by
    rw [allLev, allLev_snoc l k, allLev, levF_shift, List.append_assoc]
set_option maxRecDepth 100000 in
theorem deep_kids {l : List Nd} {d : Nat} {L : List Int} (h : ∀ x ∈ L, Deep l (d + 1) x) (hd : 0 < d) : ∀ y ∈ L.flatMap (kidsOf l), Deep l d y := fun y hy => by
  obtain ⟨x, hx, hy⟩ := List.mem_flatMap.1 hy
  obtain ⟨n, hn, hc⟩ := h x hx
  rw [kids_of (nd_of_in hn).2.2] at hy
  rcases hc with ⟨_, h0⟩ | ⟨_, hk⟩
  · omega
  · exact hk y hy
set_option maxRecDepth 100000 in
theorem perm_cons_flat {l : List Nd} {d : Nat} : ∀ {L : List Int}, (∀ x ∈ L, Deep l (d + 1) x) → (L.flatMap (nodesD l (d + 1))).Perm (L ++ (L.flatMap (kidsOf l)).flatMap (nodesD l d))
  | [], _ => by simp
  | x :: L, h => by
    have ih := perm_cons_flat (d := d) (L := L) fun y hy => h y (List.mem_cons_of_mem _ hy)
    obtain ⟨n, hn, -⟩ := h x (List.mem_cons_self ..)
    rw [List.flatMap_cons, List.flatMap_cons, List.flatMap_append, nodesD, hn, kids_of (nd_of_in hn).2.2]
    simp only [List.cons_append]
    refine List.Perm.cons _ ?_
    refine (List.Perm.append_left _ ih).trans ?_
    rw [← List.append_assoc, ← List.append_assoc]
    exact List.Perm.append_right _ List.perm_append_comm
set_option maxRecDepth 100000 in
theorem nodes_levels {l : List Nd} (hok : NdsOk l) : ∀ (d : Nat) (L : List Int), (∀ x ∈ L, Deep l d x) → (L.flatMap (nodesD l d)).Perm (allLev l L d)
  | 0, L, _ => by
    have : L.flatMap (nodesD l 0) = [] := List.flatMap_eq_nil_iff.2 fun _ _ => rfl
    rw [this]; exact List.Perm.refl _
  | d + 1, L, h => by
    rw [allLev]
    refine (perm_cons_flat h).trans (List.Perm.append_left _ ?_)
    rcases Nat.eq_zero_or_pos d with h0 | h0
    · subst h0
      have : (L.flatMap (kidsOf l)).flatMap (nodesD l 0) = [] := List.flatMap_eq_nil_iff.2 fun _ _ => rfl
      rw [this]; exact List.Perm.refl _
    · exact nodes_levels hok d _ (deep_kids h h0)

/-! ### Marks -/
set_option maxRecDepth 100000 in
theorem EntP.facts {l : List Nd} {k0 : Int} : ∀ {L : List Int} {bs b1 : List Bool}, EntP l k0 L bs b1 → L.Nodup ∧ (∀ x ∈ L, bs[x.toNat]? = some false) ∧ (∀ i : Nat, b1[i]? = some true ↔ bs[i]? = some true ∨ (i : Int) ∈ L)
  | [], bs, b1, h => by
    have h : b1 = bs := h
    subst h
    exact ⟨List.nodup_nil, fun x hx => absurd hx List.not_mem_nil, fun i => ⟨.inl, fun h => h.elim id (fun h => absurd h List.not_mem_nil)⟩⟩
  | x :: L, bs, b1, h => by
    obtain ⟨h1, h2⟩ := h
    obtain ⟨f1, f2, f3⟩ := h2.facts
    obtain ⟨e1, e2, e3, -, -⟩ := h1
    have hlt : x.toNat < bs.length := (List.getElem?_eq_some_iff.1 e3).1
    refine ⟨List.nodup_cons.2 ⟨fun hx => ?_, f1⟩, fun y hy => ?_, fun i => ?_⟩
    · have := f2 x hx
      rw [List.getElem?_set_self hlt] at this
      cases this
    · rcases List.mem_cons.1 hy with rfl | hy
      · exact e3
      · have := f2 y hy
        rw [List.getElem?_set] at this
        split at this
        · simp at this
        · exact this
    · rw [f3 i, List.getElem?_set]
      constructor
      · rintro (h | h)
        · split at h
          · rename_i he
            exact .inr (List.mem_cons.2 (.inl (by omega)))
          · exact .inl h
        · exact .inr (List.mem_cons_of_mem _ h)
      · rintro (h | h)
        · by_cases he : x.toNat = i
          · rw [if_pos he, if_pos (by omega)]; exact .inl rfl
          · rw [if_neg he]; exact .inl h
        · rcases List.mem_cons.1 h with h | h
          · left; rw [if_pos (by omega), if_pos hlt]
          · exact .inr h
set_option maxRecDepth 100000 in
theorem ent_of {l : List Nd} {k0 : Int} : ∀ {L : List Int} {bs : List Bool}, L.Nodup → (∀ x ∈ L, 0 ≤ x ∧ x < (l.length : Int) ∧ bs[x.toNat]? = some false ∧ kindOf l x ≠ 0 ∧ kindOf l x = k0) → ∃ b1, EntP l k0 L bs b1
  | [], bs, _, _ => ⟨bs, rfl⟩
  | x :: L, bs, hn, h => by
    obtain ⟨h1, h2⟩ := List.nodup_cons.1 hn
    obtain ⟨b1, hb⟩ := ent_of (L := L) (bs := bs.set x.toNat true) h2 fun y hy => by
      obtain ⟨g1, g2, g3, g4, g5⟩ := h y (List.mem_cons_of_mem _ hy)
      obtain ⟨x1, -⟩ := h x (List.mem_cons_self ..)
      refine ⟨g1, g2, ?_, g4, g5⟩
      rw [List.getElem?_set, if_neg (fun e => ?_)]
      · exact g3
      · have : x = y := by omega
        subst this
        exact h1 hy
    exact ⟨b1, h x (List.mem_cons_self ..), hb⟩
set_option maxRecDepth 100000 in
/-- What k levels that may be entered say: all of their nodes are different, and just they are marked. -/
theorem Hist.facts {l : List Nd} {root : Int} : ∀ {k : Nat} {bs : List Bool}, Hist l root k bs → (allLev l [root] k).Nodup ∧ (∀ i : Nat, bs[i]? = some true ↔ (i : Int) ∈ allLev l [root] k) ∧ ∀ x ∈ allLev l [root] k, ∃ n, ndOf l x = some n ∧ n.kd ≠ 0
  | 0, bs, h => by
    have h : bs = _ := h
    refine ⟨List.nodup_nil, fun i => ?_, fun x hx => absurd hx List.not_mem_nil⟩
    rw [h, List.getElem?_replicate]
    constructor
    · intro h; split at h <;> cases h
    · intro h; exact absurd h List.not_mem_nil
  | k + 1, bs, ⟨b0, g1, g2, g3⟩ => by
    obtain ⟨f1, f2, f3⟩ := g1.facts
    obtain ⟨e1, e2, e3⟩ := g3.facts
    rw [lev_levF] at e1 e2 e3
    have e4 := g3.kinds
    rw [lev_levF] at e4
    rw [allLev_snoc]
    refine ⟨List.nodup_append.2 ⟨f1, e1, fun x hx y hy he => ?_⟩, fun i => ?_, fun x hx => ?_⟩
    · subst he
      have h1 := e2 x hy
      obtain ⟨n, hn, -⟩ := e4 x hy
      have h2 := (f2 x.toNat).2 (by rw [Int.toNat_of_nonneg (nd_of_in hn).1]; exact hx)
      rw [h1] at h2; cases h2
    · rw [e3 i, f2 i, List.mem_append]
    · rcases List.mem_append.1 hx with h | h
      · exact f3 x h
      · obtain ⟨n, hn, h0, -⟩ := e4 x h
        exact ⟨n, hn, h0⟩
set_option maxRecDepth 100000 in
theorem lev_deep {l : List Nd} {root : Int} {d : Nat} (hD : Deep l d root) : ∀ (k : Nat) (x : Int), k < d → x ∈ lev l root k → Deep l (d - k) x
  | 0, x, _, hx => by
    have : x = root := List.mem_singleton.1 hx
    subst this
    exact hD
  | k + 1, x, hk, hx => by
    obtain ⟨y, hy, hx⟩ := List.mem_flatMap.1 (show x ∈ (lev l root k).flatMap (kidsOf l) from hx)
    have h1 := lev_deep hD k y (by omega) hy
    obtain ⟨e, he⟩ : ∃ e, d - k = e + 1 := ⟨d - k - 1, by omega⟩
    rw [he] at h1
    obtain ⟨n, hnn, hc⟩ := h1
    rw [kids_of (nd_of_in hnn).2.2] at hx
    rcases hc with ⟨_, h0⟩ | ⟨_, hk2⟩
    · omega
    · rw [show d - (k + 1) = e by omega]; exact hk2 x hx
set_option maxRecDepth 100000 in
theorem deep_kind {l : List Nd} (hok : NdsOk l) {e : Nat} {x : Int} (h : Deep l (e + 1) x) : ∃ n, ndOf l x = some n ∧ n.kd = if e = 0 then 1 else 2 := by
  obtain ⟨n, hn, hc⟩ := h
  refine ⟨n, hn, ?_⟩
  rcases hc with ⟨h1, h2⟩ | ⟨h1, h2⟩
  · rw [if_pos h2]; exact h1
  · by_cases h0 : e = 0
    · subst h0
      have h9 := hok n (List.mem_of_getElem? (nd_of_in hn).2.2)
      rw [h1] at h9
      have h8 := (inner_good h9).2.1
      exact absurd (h2 _ (List.getElem_mem (by omega : 0 < n.K.length))) id
    · rw [if_neg h0]; exact h1
set_option maxRecDepth 100000 in
theorem lev_some {l : List Nd} (hok : NdsOk l) {root : Int} {d : Nat} (hD : Deep l d root) : ∀ k, k < d → lev l root k ≠ []
  | 0, _ => by simp [lev]
  | k + 1, hk => by
    have h1 := lev_some hok hD k (by omega)
    obtain ⟨x, hx⟩ := List.exists_mem_of_ne_nil _ h1
    have h2 := lev_deep hD k x (by omega) hx
    obtain ⟨e, he⟩ : ∃ e, d - k = e + 2 := ⟨d - k - 2, by omega⟩
    rw [he] at h2
    obtain ⟨n, hn, hkd⟩ := deep_kind hok h2
    rw [if_neg (by omega)] at hkd
    have h9 := hok n (List.mem_of_getElem? (nd_of_in hn).2.2)
    rw [hkd] at h9
    have h8 := (inner_good h9).2.1
    intro h
    have h3 := List.flatMap_eq_nil_iff.1 (show (lev l root k).flatMap (kidsOf l) = [] from h) x hx
    rw [kids_of (nd_of_in hn).2.2] at h3
    rw [h3] at h8
    simp at h8
set_option maxRecDepth 100000 in
theorem lev_none {l : List Nd} (hok : NdsOk l) {root : Int} {d : Nat} (hd : 0 < d) (hD : Deep l d root) : lev l root d = [] := by
  obtain ⟨k, rfl⟩ : ∃ k, d = k + 1 := ⟨d - 1, by omega⟩
  refine List.flatMap_eq_nil_iff.2 fun x hx => ?_
  have h2 := lev_deep hD k x (by omega) hx
  rw [show k + 1 - k = 0 + 1 by omega] at h2
  obtain ⟨n, hn, hkd⟩ := deep_kind hok h2
  rw [kids_of (nd_of_in hn).2.2]
  exact (nd_sizes (hok n (List.mem_of_getElem? (nd_of_in hn).2.2))).2.2.2.2.2 (by rw [hkd]; rfl)
set_option maxRecDepth 100000 in
theorem allLev_sub {l : List Nd} {L : List Int} : ∀ {k d : Nat}, k ≤ d → (allLev l L k).Sublist (allLev l L d) := by
  intro k d h
  induction d with
  | zero => rw [show k = 0 by omega]; exact List.Sublist.refl _
  | succ d ih =>
    rcases Nat.lt_or_ge d k with h1 | h1
    · rw [show k = d + 1 by omega]; exact List.Sublist.refl _
    · rw [allLev_snoc]
      exact (ih h1).trans (List.sublist_append_left _ _)
set_option maxRecDepth 100000 in
/-- The levels of a tree of one depth, all of whose nodes are different, may be entered. -/
theorem hist_of {l : List Nd} (hok : NdsOk l) {root : Int} {d : Nat} (hD : Deep l d root) (hn : (allLev l [root] d).Nodup) : ∀ k, k ≤ d → ∃ bs, Hist l root k bs
  | 0, _ => ⟨_, rfl⟩
  | k + 1, hk => by
    obtain ⟨b0, hb⟩ := hist_of hok hD hn k (by omega)
    obtain ⟨f1, f2, f3⟩ := hb.facts
    have hn1 : (allLev l [root] (k + 1)).Nodup := List.Nodup.sublist (allLev_sub hk) hn
    rw [allLev_snoc, ← lev_levF] at hn1
    obtain ⟨n1, n2, n3⟩ := List.nodup_append.1 hn1
    obtain ⟨e, he⟩ : ∃ e, d - k = e + 1 := ⟨d - k - 1, by omega⟩
    have hkd : ∀ x ∈ lev l root k, ∃ n, ndOf l x = some n ∧ n.kd = if e = 0 then 1 else 2 := fun x hx => by
      have h2 := lev_deep hD k x (by omega) hx
      rw [he] at h2
      exact deep_kind hok h2
    have hne := lev_some hok hD k (by omega)
    have hhead : headKind l (lev l root k) = if e = 0 then 1 else 2 := by
      cases hL : lev l root k with
      | nil => exact absurd hL hne
      | cons x L =>
        obtain ⟨n, hx, h1⟩ := hkd x (by rw [hL]; exact List.mem_cons_self ..)
        unfold headKind
        simp only [List.getElem?_cons_zero]
        rw [kindOf_eq (nd_of_in hx).2.2, h1]
    obtain ⟨b1, h1⟩ := ent_of (l := l) (k0 := headKind l (lev l root k)) (L := lev l root k) (bs := b0) n2 fun x hx => by
      obtain ⟨n, hx1, hx2⟩ := hkd x hx
      obtain ⟨i1, i2, i3⟩ := nd_of_in hx1
      have hlt : x.toNat < b0.length := by rw [hb.length]; omega
      refine ⟨i1, i2, ?_, by rw [kindOf_eq i3, hx2]; split <;> omega, by rw [kindOf_eq i3, hx2, hhead]⟩
      rw [List.getElem?_eq_getElem hlt]
      cases hv : b0[x.toNat] with
      | false => rfl
      | true =>
        have h4 := (f2 x.toNat).1 (by rw [List.getElem?_eq_getElem hlt, hv])
        rw [Int.toNat_of_nonneg i1] at h4
        exact absurd rfl (n3 x h4 x hx)
    exact ⟨b1, b0, hb, hne, h1⟩
set_option maxRecDepth 100000 in
/-- Linked, by the nodes beneath the root. -/
theorem link_iff {l : List Nd} (hok : NdsOk l) {root : Int} {d : Nat} (hd : 0 < d) (hD : Deep l d root) : LinkP l root ↔ (nodesD l d root).Nodup ∧ (nodesD l d root).length = usedOf l := by
  have hp : (nodesD l d root).Perm (allLev l [root] d) := by
    have := nodes_levels hok d [root] (fun x hx => by rw [List.mem_singleton.1 hx]; exact hD)
    rwa [List.flatMap_singleton] at this
  rw [hp.nodup_iff, hp.length_eq, ← usedIdx_len]
  constructor
  · rintro ⟨m, bs, h1, h2, h3⟩
    have hm : m = d := by
      rcases Nat.lt_trichotomy m d with h | h | h
      · exact absurd h2 (lev_some hok hD m h)
      · exact h
      · exact absurd (lev_none hok hd hD) (h1.below h).1
    subst hm
    obtain ⟨f1, f2, f3⟩ := h1.facts
    refine ⟨f1, Nat.le_antisymm (nodup_le f1 fun x hx => mem_used.2 (f3 x hx)) (nodup_le (usedIdx_nodup l) fun x hx => ?_)⟩
    obtain ⟨n, hn, h0⟩ := mem_used.1 hx
    obtain ⟨i1, i2, i3⟩ := nd_of_in hn
    have := (f2 x.toNat).1 (h3 x.toNat n i3 h0)
    rwa [Int.toNat_of_nonneg i1] at this
  · rintro ⟨h1, h2⟩
    obtain ⟨bs, hb⟩ := hist_of hok hD h1 d (Nat.le_refl _)
    obtain ⟨f1, f2, f3⟩ := hb.facts
    refine ⟨d, bs, hb, lev_none hok hd hD, fun i n hi h0 => (f2 i).2 ?_⟩
    exact nodup_all f1 (fun x hx => mem_used.2 (f3 x hx)) (by omega) _ (mem_used.2 ⟨n, nd_of (by omega) (by rw [Int.toNat_natCast]; exact hi), h0⟩)
end Go.Proofs.Ytgebilpdinbfgaa

/- What the reference says of a tree is what the program's four checks say. -/
namespace Go.Proofs.Ytgebilpdinbfgaa

set_option maxRecDepth 100000 in
theorem good_sub {l : List Nd} (hok : NdsOk l) {root : Int} {D : Nat} (hR : Deep l D root) (hF : FillP root l) (hT : TimeP l) : ∀ (d : Nat) (x : Int) (lo hi : Sp), Deep l d x → d ≤ D → OrdP l d x lo hi → SubOk l d x
  | 0, _, _, _, h, _, _ => h
  | d + 1, x, lo, hi, ⟨n, hn, hc⟩, hd, ho => by
    obtain ⟨i1, i2, i3⟩ := nd_of_in hn
    refine ⟨n, hn, hc.imp id fun ⟨h1, h2⟩ => ⟨h1, fun j y hy => ?_⟩⟩
    have hyd := h2 y (List.mem_of_getElem? hy)
    have hyo := (ho n hn).2.2 j y hy
    have hyr : y ≠ root := fun h => by
      subst h
      have := Deep.one hok hyd hR
      omega
    have hy1 : d ≠ 0 := fun h => by subst h; exact hyd
    obtain ⟨e, rfl⟩ : ∃ e, d = e + 1 := ⟨d - 1, by omega⟩
    obtain ⟨m, hm, hkd⟩ := deep_kind hok hyd
    obtain ⟨j1, j2, j3⟩ := nd_of_in hm
    refine ⟨good_sub hok hR hF hT (e + 1) y _ _ hyd (by omega) hyo, ?_, ?_, fun s hs => betw_of (ord_spots hok (e + 1) y _ _ hyd hyo s hs)⟩
    · unfold sizeOf
      rw [j3]
      exact hF y.toNat m j3 (by omega) (by rw [hkd]; split <;> omega)
    · rw [hT x.toNat n i3 j y hy, tid_late hok hT (e + 1) y hyd]
set_option maxRecDepth 100000 in
theorem pow_big {D : Nat} (h : 7 ≤ D) : 4096 ≤ 4 ^ (D - 1) := Nat.le_trans (by decide : 4096 ≤ 4 ^ 6) (Nat.pow_le_pow_right (by omega) (by omega))
set_option maxRecDepth 100000 in
theorem ref_good {l : List Nd} {root : Int} (hz : treeErr l root = 0) : lookR l 12 root = some (beneathD l (depthOf l root) root) ∧ (nodesD l (depthOf l root) root).length = usedOf l ∧ (nodesD l (depthOf l root) root).Nodup := by
  obtain ⟨hl, hok, h1, h2, h3, d, hD, hO⟩ := treeErr_zero.1 hz
  have hd := depthOf_eq hok hD
  have hdo := deep_ok hz
  have hd12 : d ≤ 12 := by
    rcases Nat.lt_or_ge d 7 with h | h
    · omega
    · have a := hdo.least (by omega)
      have b := hdo.most
      rw [hd] at a
      have c := pow_big h
      omega
  have hd0 : 0 < d := by
    cases d with
    | zero => exact absurd hD id
    | succ d => omega
  obtain ⟨n1, n2⟩ := (link_iff hok hd0 hD).1 h1
  have hu : usedOf l ≤ l.length := List.countP_le_length
  rw [hd]
  exact ⟨look_of hok d 12 root (good_sub hok hD h2 h3 d root _ _ hD (Nat.le_refl _) hO) hd12 (by omega), n2, n1⟩
set_option maxRecDepth 100000 in
theorem good_ref {l : List Nd} {root : Int} (hl : l.length ≤ 400) (hok : NdsOk l) {b : Bn} (hb : lookR l 12 root = some b) (hn : b.N.length = usedOf l) (hd : b.N.Nodup) : treeErr l root = 0 := by
  obtain ⟨d, d0, d1, hs, rfl, -⟩ := of_look hok 12 root b hb
  simp only [beneathD] at hn hd
  have hD := hs.deep
  have hall : ∀ (i : Nat) (n : Nd), l[i]? = some n → n.kd ≠ 0 → (i : Int) ∈ nodesD l d root := fun i n hi h0 =>
    nodup_all hd (B := usedIdx l) (fun x hx => by
      obtain ⟨d', _, h'⟩ := sub_nodes d root hs x hx
      cases d' with
      | zero => exact absurd h' id
      | succ d' =>
        obtain ⟨m, hm, hc⟩ := h'
        exact mem_used.2 ⟨m, hm, by rcases hc with ⟨h, _⟩ | ⟨h, _⟩ <;> omega⟩) (by rw [usedIdx_len]; omega) _ (mem_used.2 ⟨n, nd_of (by omega) (by rw [Int.toNat_natCast]; exact hi), h0⟩)
  refine treeErr_zero.2 ⟨hl, hok, (link_iff hok d0 hD).2 ⟨hd, hn⟩, fun i n hi hr h0 => ?_, fun i n hi j x hx => ?_, d, hD, spots_ord hok d root _ _ hs (spots_all hok d root)⟩
  · rcases sub_fill d root hs _ (hall i n hi h0) with h | h
    · exact absurd h hr
    · unfold sizeOf at h
      rw [Int.toNat_natCast, hi] at h
      exact h
  · have h9 := hok n (List.mem_of_getElem? hi)
    have h0 : n.kd ≠ 0 := fun h => by
      rw [h] at h9
      rw [(free_nil h9).2.1] at hx
      simp at hx
    obtain ⟨d', -, h'⟩ := sub_nodes d root hs _ (hall i n hi h0)
    cases d' with
    | zero => exact absurd h' id
    | succ d' =>
      obtain ⟨m, hm, hc⟩ := h'
      have hmn : m = n := by
        have := (nd_of_in hm).2.2
        rw [Int.toNat_natCast, hi] at this
        exact (Option.some.inj this).symm
      subst hmn
      rcases hc with ⟨hk, -⟩ | ⟨hk, hkids⟩
      · rw [(nd_sizes h9).2.2.2.2.2 hk] at hx
        simp at hx
      · obtain ⟨s1, -, s3, -⟩ := hkids j x hx
        rw [tid_sub hok d' x s1]
        exact s3
end Go.Proofs.Ytgebilpdinbfgaa

/- look: appends of whole slices, and the box of what is beneath a node. -/
namespace Go.Proofs.Ytgebilpdinbfgaa
open Go.RowKit

set_option maxRecDepth 100000 in
/-- append(out, more...), of rows of any kind. -/
theorem wpList_append_rows {ops : Array Oper} {rest : List Oper} {o : Oper} {a : Act} {w : World} {Q : Exit → Act → World → Prop} (hgd : o.guard = none) (s x : Operand) (t e : TypeId)
    (ho : o.op = .call { callee := .builtin .append, args := #[s, x], argTypes := #[t, t] }) (i0 : TypeInfo) (z : Value) (size bytes : Nat) (hu : Try.prog.underlying t = some (.slice e)) (hi : Try.prog.info? e = some i0) (hz0 : i0.zero = some z) (hz1 : i0.size = size) (hz2 : i0.bytes = bytes) (hzs : z.cells.size = size) (hsz : 0 < size) (hby : bytes ≤ 56)
    (base : Nat) (v : Value) (n : Nat) (xs : List Value) (hs : a.eval s = v) (hown : w.ownsRow base e size v n xs) (A : Option Addr) (m c : Nat) (news : List Value) (hx : a.eval x = .slice A m c) (hlen : news.length = m * size)
    (hsrc : 0 < m → ∃ b q, A = some ⟨b, q, none⟩ ∧ ∀ (j : Nat) (u : Value), news[j]? = some u → w.cell? ⟨b, q + j, none⟩ = some u) (hone : ∀ u ∈ news, u.oneCell' = true) (hl : n + m ≤ 1000000) (hbase : base ≤ w.heap.size)
    (h : ∀ v' w', w'.ownsRow base e size v' (n + m) (xs ++ news) → w.grownBy w' v.ownBlock → (v'.ownBlock = v.ownBlock ∨ v'.ownBlock = some w.heap.size) → wpList Try.prog ops Q rest (a.put o.dst v') w') : wpList Try.prog ops Q (o :: rest) a w := by
  have key : ∀ ad, A = some ad → (∀ j u, news[j]? = some u → w.cell? (ad.add j) = some u) → wpList Try.prog ops Q (o :: rest) a w := fun ad hA hc => by
    subst hA
    exact wpList_append_own_at w hgd s x t ho base e i0 z size bytes hu hi hz0 hz1 hz2 hzs hsz v n xs hs hown ad m c news hx hlen hc hone (by unfold maxLen; omega) (Nat.le_trans (Nat.mul_le_mul_left _ hby) (by omega)) hbase fun v' w' h1 h2 _ h4 => h v' w' h1 h2 h4
  rcases Nat.eq_zero_or_pos m with h0 | h0
  · subst h0
    have hn : news = [] := List.eq_nil_of_length_eq_zero (by rw [hlen, Nat.zero_mul])
    subst hn
    rcases A with _ | ad
    · refine wpList_plain hgd fun K hK => ?_
      have hrun : (Builtin.append_ #[t, t] o.type #[v, .slice none 0 c]).run Try.prog w = .ok v w := by
        rcases hown.2 with ⟨rfl, hn⟩ | ⟨g, cap, cur, rfl, _, _, hnc, _⟩
        · simp [Builtin.append_, run_underlying hu, Go.sizeOf, typeInfo, hi, Builtin.lenOf, Builtin.firstCells]
        · simp [Builtin.append_, run_underlying hu, Go.sizeOf, typeInfo, hi, Builtin.lenOf, Builtin.firstCells, hnc, storeCells]
      unfold Oper.wp execOp
      simp only [ho, resolve, invoke, builtin, Sem.run_bind, Sem.run_pure, Result.andThen_ok, List.map_toArray, List.map_cons, List.map_nil, hs, hx, hrun]
      exact hK _ _ (h v w (by simpa using hown) ⟨rfl, rfl, rfl, Nat.le_refl _, fun _ _ _ => rfl⟩ (.inl rfl))
    · exact key ad rfl fun j u hj => by simp at hj
  · obtain ⟨b, q, hA, hk⟩ := hsrc h0
    refine key _ hA fun j u hj => ?_
    have e : (⟨b, q, none⟩ : Addr).add j = ⟨b, q + j, none⟩ := by unfold Addr.add; split <;> simp_all
    rw [e]; exact hk j u hj
set_option maxRecDepth 100000 in
theorem flat_at {α : Type} (f : α → List Value) (N : Nat) (hN : ∀ x, (f x).length = N) (h0 : 0 < N) : ∀ (l : List α) (j : Nat) (u : Value), (l.flatMap f)[j]? = some u → ∃ k i x, j = k * N + i ∧ i < N ∧ l[k]? = some x ∧ (f x)[i]? = some u
  | [], j, u, h => by simp at h
  | x :: l, j, u, h => by
    rw [List.flatMap_cons, List.getElem?_append, hN] at h
    split at h
    · rename_i hj
      exact ⟨0, j, x, by omega, hj, rfl, h⟩
    · rename_i hj
      obtain ⟨k, i, y, h1, h2, h3, h4⟩ := flat_at f N hN h0 l (j - N) u h
      exact ⟨k + 1, i, y, by rw [Nat.add_mul, Nat.one_mul]; omega, h2, by simpa using h3, h4⟩
set_option maxRecDepth 100000 in
theorem Lies.src {w : World} {A : Option Addr} {l : List El} (h : Lies w A l) : 0 < l.length → ∃ b q, A = some ⟨b, q, none⟩ ∧ ∀ (j : Nat) (u : Value), (cellsOf l)[j]? = some u → w.cell? ⟨b, q + j, none⟩ = some u := fun hp => by
  obtain ⟨b, q, hA, _, hk⟩ := h.2 hp
  refine ⟨b, q, hA, fun j u hj => ?_⟩
  obtain ⟨k, i, x, rfl, hi, hx, hu⟩ := flat_at El.cells 6 (fun _ => rfl) (by omega) l j u hj
  obtain ⟨g0, g1, g2, g3, g4, g5⟩ := hk k x hx
  rw [← Nat.add_assoc, ← hu]
  match i, hi with
  | 0, _ => exact g0
  | 1, _ => exact g1
  | 2, _ => exact g2
  | 3, _ => exact g3
  | 4, _ => exact g4
  | 5, _ => exact g5
set_option maxRecDepth 100000 in
theorem LiesS.src {w : World} {A : Option Addr} {l : List Sp} (h : LiesS w A l) : 0 < l.length → ∃ b q, A = some ⟨b, q, none⟩ ∧ ∀ (j : Nat) (u : Value), (sv l)[j]? = some u → w.cell? ⟨b, q + j, none⟩ = some u := fun hp => by
  obtain ⟨b, q, hA, _, hk⟩ := h.2 hp
  refine ⟨b, q, hA, fun j u hj => ?_⟩
  obtain ⟨k, i, x, rfl, hi, hx, hu⟩ := flat_at spCells 4 (fun _ => rfl) (by omega) l j u hj
  obtain ⟨g0, g1, g2, g3⟩ := hk k x hx
  rw [← Nat.add_assoc, ← hu]
  match i, hi with
  | 0, _ => exact g0
  | 1, _ => exact g1
  | 2, _ => exact g2
  | 3, _ => exact g3
set_option maxRecDepth 100000 in
theorem LiesI.src {w : World} {A : Option Addr} {l : List Int} (h : LiesI w A l) : 0 < l.length → ∃ b q, A = some ⟨b, q, none⟩ ∧ ∀ (j : Nat) (u : Value), (iv l)[j]? = some u → w.cell? ⟨b, q + j, none⟩ = some u := fun hp => by
  obtain ⟨b, q, hA, _, hk⟩ := h hp
  refine ⟨b, q, hA, fun j u hj => ?_⟩
  simp only [iv, List.getElem?_map] at hj
  cases hx : l[j]? with
  | none => rw [hx] at hj; cases hj
  | some x => rw [hx] at hj; rw [hk j x hx, ← hj]; rfl
set_option maxRecDepth 100000 in
theorem wpList_append_eL {ops : Array Oper} {rest : List Oper} {o : Oper} {a : Act} {w : World} {Q : Exit → Act → World → Prop} (hgd : o.guard = none) (s x : Operand)
    (ho : o.op = .call { callee := .builtin .append, args := #[s, x], argTypes := #[27, 27] })
    (base : Nat) (v : Value) (l : List El) (hs : a.eval s = v) (hown : OwnR base w v l) (A : Option Addr) (c : Nat) (l2 : List El) (hx : a.eval x = .slice A l2.length c) (hsrc : Lies w A l2) (hl : l.length + l2.length ≤ 1000000) (hbase : base ≤ w.heap.size)
    (h : ∀ v' w', OwnR base w' v' (l ++ l2) → w.grownBy w' v.ownBlock → (v'.ownBlock = v.ownBlock ∨ v'.ownBlock = some w.heap.size) → wpList Try.prog ops Q rest (a.put o.dst v') w') : wpList Try.prog ops Q (o :: rest) a w := by
  obtain ⟨i0, hi, hz0, hz1, hz2⟩ := info_parts infoElem
  refine wpList_append_rows hgd s x _ 33 ho i0 _ 6 56 Try.underlying27 hi hz0 hz1 hz2 rfl (by decide) (by decide) base v _ _ hs hown A l2.length c (cellsOf l2) hx (cellsOf_len l2) hsrc.src (cellsOf_one l2) hl hbase fun v' w' h1 h2 h3 => h v' w' ?_ h2 h3
  unfold OwnR cellsOf
  rw [List.length_append, List.flatMap_append]
  exact h1
set_option maxRecDepth 100000 in
theorem wpList_append_sL {ops : Array Oper} {rest : List Oper} {o : Oper} {a : Act} {w : World} {Q : Exit → Act → World → Prop} (hgd : o.guard = none) (s x : Operand)
    (ho : o.op = .call { callee := .builtin .append, args := #[s, x], argTypes := #[58, 58] })
    (base : Nat) (v : Value) (l : List Sp) (hs : a.eval s = v) (hown : OwnS base w v l) (A : Option Addr) (c : Nat) (l2 : List Sp) (hx : a.eval x = .slice A l2.length c) (hsrc : LiesS w A l2) (hl : l.length + l2.length ≤ 1000000) (hbase : base ≤ w.heap.size)
    (h : ∀ v' w', OwnS base w' v' (l ++ l2) → w.grownBy w' v.ownBlock → (v'.ownBlock = v.ownBlock ∨ v'.ownBlock = some w.heap.size) → wpList Try.prog ops Q rest (a.put o.dst v') w') : wpList Try.prog ops Q (o :: rest) a w := by
  obtain ⟨i0, hi, hz0, hz1, hz2⟩ := info_parts infoSp
  refine wpList_append_rows hgd s x _ 47 ho i0 _ 4 32 Try.underlying58 hi hz0 hz1 hz2 rfl (by decide) (by decide) base v _ _ hs hown A l2.length c (sv l2) hx (sv_length l2) hsrc.src (fun u hu => ?_) hl hbase fun v' w' h1 h2 h3 => h v' w' ?_ h2 h3
  · obtain ⟨e, _, h⟩ := List.mem_flatMap.1 hu
    exact sp_one e u h
  · unfold OwnS sv
    rw [List.length_append, List.flatMap_append]
    exact h1
set_option maxRecDepth 100000 in
theorem wpList_append_iLat {ops : Array Oper} {rest : List Oper} {o : Oper} {a : Act} {w : World} {Q : Exit → Act → World → Prop} (hgd : o.guard = none) (s x : Operand)
    (ho : o.op = .call { callee := .builtin .append, args := #[s, x], argTypes := #[57, 57] })
    (base : Nat) (v : Value) (l : List Int) (hs : a.eval s = v) (hown : OwnI base w v l) (A : Option Addr) (c : Nat) (l2 : List Int) (hx : a.eval x = .slice A l2.length c) (hsrc : LiesI w A l2) (hl : l.length + l2.length ≤ 1000000) (hbase : base ≤ w.heap.size)
    (h : ∀ v' w', OwnI base w' v' (l ++ l2) → w.grownBy w' v.ownBlock → (v'.ownBlock = v.ownBlock ∨ v'.ownBlock = some w.heap.size) → wpList Try.prog ops Q rest (a.put o.dst v') w') : wpList Try.prog ops Q (o :: rest) a w := by
  obtain ⟨i0, hi, hz0, hz1, hz2⟩ := info_parts infoInt
  refine wpList_append_rows hgd s x _ 3 ho i0 _ 1 8 Try.underlying57 hi hz0 hz1 hz2 rfl (by decide) (by decide) base v _ _ hs hown A l2.length c (iv l2) hx (by rw [iv_length]; omega) hsrc.src (iv_one _) hl hbase fun v' w' h1 h2 h3 => h v' w' ?_ h2 h3
  unfold OwnI
  rw [List.length_append, show iv (l ++ l2) = iv l ++ iv l2 from by simp [iv]]
  exact h1

/-! ### The box of what is beneath a node -/
set_option maxRecDepth 100000 in
theorem set4 {w : World} {g t : Nat} {a0 a1 a2 a3 : Value} (h : w.heap[g]? = some (.cells #[a0, a1, a2, a3] t (0, 0))) (b0 b1 b2 b3 : Value) : (World.four w g 0 b0 b1 b2 b3).heap[g]? = some (.cells #[b0, b1, b2, b3] t (0, 0)) := by
  unfold World.four
  have h1 := heap_setCell_same w g 0 _ _ b0 h
  have h2 := heap_setCell_same _ g 1 _ _ b1 h1
  have h3 := heap_setCell_same _ g 2 _ _ b2 h2
  have h4 := heap_setCell_same _ g 3 _ _ b3 h3
  simpa using h4
set_option maxRecDepth 100000 in
theorem results_bn {fn : Func} {p q : Tmp} (h : fn.results = #[.cell p 63, .tmp q]) (tmps : Array Value) (w : World) (g : Nat) (t : TypeId) (cs : Array Value) (v : Value) (fr : Nat × Nat)
    (hp : tmps.getD p undef = .pointer (some ⟨g, 0, none⟩)) (hq : tmps.getD q undef = v) (hg : w.heap[g]? = some (.cells cs t fr)) (hsz : cs.size = 4) : (results fn tmps).run Try.prog w = .ok (.tuple #[.agg cs, v]) w := by
  have hp' : tmps[p]?.getD undef = .pointer (some ⟨g, 0, none⟩) := by simpa using hp
  have hq' : tmps[q]?.getD undef = v := by simpa using hq
  have hi : (Try.prog.info? 63).map (·.size) = some cs.size := by rw [hsz]; kernel_rfl
  simp [results, h, hp', hq', asAddr, run_loadVar_row w g t 63 cs fr _ hg Try.underlying63 rfl hi]
set_option maxRecDepth 100000 in
theorem end_bn {P : Program} {fn : Func} {p q : Tmp} {Q : Ending → World → Prop} (hP : P = Try.prog) (h : fn.results = #[.cell p 63, .tmp q]) (a : Act) (w : World) (g : Nat) (t : TypeId) (cs : Array Value) (v : Value) (fr : Nat × Nat) (hd : a.defers = [])
    (hp : a.tmps.getD p undef = .pointer (some ⟨g, 0, none⟩)) (hq : a.tmps.getD q undef = v) (hg : w.heap[g]? = some (.cells cs t fr)) (hsz : cs.size = 4) (hQ : Q (.returned (.tuple #[.agg cs, v])) w) : bodyPost P fn Q .ret a w := by
  subst hP
  exact bodyPost_ret (v := .tuple #[.agg cs, v]) (results_bn h a.tmps w g t cs v fr hp hq hg hsz) hd hQ
/-- Three rows of a call's own, apart from one another. -/
structure Own3 (B : Nat) (w : World) (vE vS vN : Value) (E : List El) (S : List Sp) (N : List Int) : Prop where
  e : OwnR B w vE E
  s : OwnS B w vS S
  n : OwnI B w vN N
  es : Away vE vS
  en : Away vE vN
  sn : Away vS vN
set_option maxRecDepth 100000 in
theorem Own3.calm {B : Nat} {w w' : World} {vE vS vN : Value} {E : List El} {S : List Sp} {N : List Int} (h : Own3 B w vE vS vN E S N) (hb : Calm w w') : Own3 B w' vE vS vN E S N :=
  ⟨h.e.calm hb, rows_calm h.s hb, h.n.calm hb, h.es, h.en, h.sn⟩
def bnZ : Array Value := #[.slice none 0 0, .slice none 0 0, .int .i64 0, .slice none 0 0]
/-- What look answers, in memory. -/
def LookEnd (l : List Nd) (m : Nat) (x : Int) (w : World) (e : Ending) (w' : World) : Prop := Calm w w' ∧
  ((lookR l m x = none ∧ e = .returned (.tuple #[.agg bnZ, .bool false])) ∨
    ∃ b vE vS vN, lookR l m x = some b ∧ e = .returned (.tuple #[.agg #[vE, vS, .int .i64 b.D, vN], .bool true]) ∧ Own3 w.heap.size w' vE vS vN b.E b.S b.N)
end Go.Proofs.Ytgebilpdinbfgaa

/- look: where there is nothing to look beneath. -/
namespace Go.Proofs.Ytgebilpdinbfgaa
open Go.RowKit

set_option maxRecDepth 100000 in
theorem Calm.four0 {a w : World} (h : Calm a w) {g : Nat} (hg : a.heap.size ≤ g) (b0 b1 b2 b3 : Value) : Calm a (World.four w g 0 b0 b1 b2 b3) := h.four hg 0 b0 b1 b2 b3
set_option maxRecDepth 100000 in
theorem lookR_bad {l : List Nd} {m : Nat} {x : Int} (h : m = 0 ∨ ndOf l x = none ∨ ∃ n, ndOf l x = some n ∧ n.kd = 0) : lookR l m x = none := by
  cases m with
  | zero => rw [lookR]
  | succ m =>
    rw [lookR]
    rcases h with h | h | ⟨n, h, h0⟩
    · omega
    · rw [h]
    · rw [h]; simp only; rw [if_pos h0]

set_option maxRecDepth 100000 in
set_option maxHeartbeats 8000000 in
theorem look_bad (root : Int) (A : Option Addr) (c : Nat) (l : List Nd) (m : Nat) (x : Int) (w : World) (hl4 : l.length ≤ 400) (h : TrAt w A l) (hb : m = 0 ∨ ndOf l x = none ∨ ∃ n, ndOf l x = some n ∧ n.kd = 0) :
    Calls Try.prog 23 #[.agg #[.int .i64 root, .slice A l.length c], .int .i64 x, .int .i64 (m : Int)] w (LookEnd l m x w) := by
  have hx := heap_past (.cells bnZ 63) (heap_new w (.cells #[.int .i64 root, .slice A l.length c] 24))
  have hz := heap_new (w.alloc (.cells #[.int .i64 root, .slice A l.length c] 24)) (.cells bnZ 63)
  rw [World.size_alloc] at hz
  have hu := ((Calm.refl w).alloc (.cells #[.int .i64 root, .slice A l.length c] 24)).alloc (.cells bnZ 63)
  have hR := Lib.hid (lookR_bad hb)
  have hfin : Hid (∀ w', Calm w w' → LookEnd l m x w (.returned (.tuple #[.agg bnZ, .bool false])) w') := show ∀ _, _ from fun w' hc => ⟨hc, .inl ⟨hR.out, rfl⟩⟩
  have HT := Lib.hid (h.calm hu)
  unfold bnZ at hx hz hu hfin HT
  clear h hR
  by_cases hx0 : x < 0
  · clear hb
    go_enter Try.func23, Try.ntmps23
    go_upto_region 1 with fail
    generalize (w.alloc (.cells #[.int .i64 root, .slice A l.length c] 24)).alloc (.cells #[.slice none 0 0, .slice none 0 0, .int .i64 0, .slice none 0 0] 63) = w1 at hx hz hu HT ⊢
    obtain ⟨x0, x1, hxs⟩ := rowT hx
    obtain ⟨z0, z1, z2, z3, hzs⟩ := row4 hz
    obtain ⟨f0, f1, f2, f3, f4, f5⟩ := free6 hz
    go_wp2_with fail
    have h4 := set4 hz (.slice none 0 0) (.slice none 0 0) (.int .i64 0) (.slice none 0 0)
    have h5 := hfin.out _ (hu.four0 (g := w.heap.size + 1) (by omega) (.slice none 0 0) (.slice none 0 0) (.int .i64 0) (.slice none 0 0))
    exact end_bn rfl rfl _ _ (w.heap.size + 1) _ _ _ (0, 0) rfl rfl rfl h4 rfl h5
  obtain ⟨X, rfl⟩ : ∃ X : Nat, x = (X : Int) := ⟨x.toNat, by omega⟩
  by_cases hxl : l.length ≤ X
  · have hxi : (l.length : Int) ≤ (X : Int) := by omega
    clear hb hx0 hxl
    go_enter Try.func23, Try.ntmps23
    go_upto_region 1 with fail
    generalize (w.alloc (.cells #[.int .i64 root, .slice A l.length c] 24)).alloc (.cells #[.slice none 0 0, .slice none 0 0, .int .i64 0, .slice none 0 0] 63) = w1 at hx hz hu HT ⊢
    obtain ⟨x0, x1, hxs⟩ := rowT hx
    obtain ⟨z0, z1, z2, z3, hzs⟩ := row4 hz
    obtain ⟨f0, f1, f2, f3, f4, f5⟩ := free6 hz
    go_wp2_with fail
    have h4 := set4 hz (.slice none 0 0) (.slice none 0 0) (.int .i64 0) (.slice none 0 0)
    have h5 := hfin.out _ (hu.four0 (g := w.heap.size + 1) (by omega) (.slice none 0 0) (.slice none 0 0) (.int .i64 0) (.slice none 0 0))
    exact end_bn rfl rfl _ _ (w.heap.size + 1) _ _ _ (0, 0) rfl rfl rfl h4 rfl h5
  have hXl : X < l.length := by omega
  have hxi : (X : Int) < (l.length : Int) := by omega
  by_cases hm : m = 0
  · subst hm
    clear hb hx0 hxl
    go_enter Try.func23, Try.ntmps23
    go_upto_region 1 with fail
    generalize (w.alloc (.cells #[.int .i64 root, .slice A l.length c] 24)).alloc (.cells #[.slice none 0 0, .slice none 0 0, .int .i64 0, .slice none 0 0] 63) = w1 at hx hz hu HT ⊢
    obtain ⟨x0, x1, hxs⟩ := rowT hx
    obtain ⟨z0, z1, z2, z3, hzs⟩ := row4 hz
    obtain ⟨f0, f1, f2, f3, f4, f5⟩ := free6 hz
    go_wp2_with fail
    have h4 := set4 hz (.slice none 0 0) (.slice none 0 0) (.int .i64 0) (.slice none 0 0)
    have h5 := hfin.out _ (hu.four0 (g := w.heap.size + 1) (by omega) (.slice none 0 0) (.slice none 0 0) (.int .i64 0) (.slice none 0 0))
    exact end_bn rfl rfl _ _ (w.heap.size + 1) _ _ _ (0, 0) rfl rfl rfl h4 rfl h5
  obtain ⟨b, q, kd, A1, A2, A3, A4, c1, c2, c3, c4, E, K, S, T, hA, hbb, HN, HA, n0, n1, n2, n3, n4⟩ := HT.out.get hXl
  cases hA
  have hk0 : kd = 0 := by
    have hnd : ndOf l (X : Int) = some ⟨kd, A1, A2, A3, A4, c1, c2, c3, c4, E, K, S, T⟩ := by unfold ndOf; rw [if_pos (by omega), Int.toNat_natCast]; exact HN.out
    rcases hb with hb | hb | ⟨n, hb, h0⟩
    · exact absurd hb hm
    · rw [hnd] at hb; cases hb
    · rw [hnd] at hb; injection hb with hb; subst hb; exact h0
  subst hk0
  have hmi : ((m : Int) == 0) = false := by rw [beq_eq_false_iff_ne]; omega
  clear hb hx0 hxl hm
  go_enter Try.func23, Try.ntmps23
  go_upto_region 1 with fail
  generalize (w.alloc (.cells #[.int .i64 root, .slice (some ⟨b, q, none⟩) l.length c] 24)).alloc (.cells #[.slice none 0 0, .slice none 0 0, .int .i64 0, .slice none 0 0] 63) = w1 at hx hz hu HT hbb HA n0 n1 n2 n3 n4 ⊢
  obtain ⟨x0, x1, hxs⟩ := rowT hx
  obtain ⟨z0, z1, z2, z3, hzs⟩ := row4 hz
  obtain ⟨f0, f1, f2, f3, f4, f5⟩ := free6 hz
  go_wp2_with fail
  have h4 := set4 hz (.slice none 0 0) (.slice none 0 0) (.int .i64 0) (.slice none 0 0)
  have h5 := hfin.out _ (hu.four0 (g := w.heap.size + 1) (by omega) (.slice none 0 0) (.slice none 0 0) (.int .i64 0) (.slice none 0 0))
  exact end_bn rfl rfl _ _ (w.heap.size + 1) _ _ _ (0, 0) rfl rfl rfl h4 rfl h5
end Go.Proofs.Ytgebilpdinbfgaa

/- look: slices.Clone of spots; the stages of what look lays first. -/
namespace Go.Proofs.Ytgebilpdinbfgaa
open Go.RowKit

set_option maxRecDepth 100000 in
set_option maxHeartbeats 4000000 in
theorem cloneS_any (A : Option Addr) (c : Nat) (l : List Sp) (w : World) (hn : l.length ≤ 100000) (hL : LiesS w A l) :
    Calls Try.prog 51 #[.slice A l.length c] w fun e w' => ∃ v, e = .returned v ∧ OwnS w.heap.size w' v l ∧ Calm w w' := by
  rcases A with _ | ⟨b, q, sp⟩
  · have h0 : l = [] := by
      rcases Nat.eq_zero_or_pos l.length with h | h
      · exact List.eq_nil_of_length_eq_zero h
      · obtain ⟨_, _, h1, _⟩ := hL.2 h; cases h1
    subst h0
    have q22 : ∀ (w : World) (n c n' c' : Nat), (binOp .eql 58 (.slice none n c) (.slice none n' c')).run Try.prog w = .ok (.bool true) w := fun w n c n' c' => Lib.run_eql_slice_nil w _ _ none n c n' c' Try.underlying58
    go_enter Try.func51, Try.ntmps51
    go_wp2_with fail
    go_ret
    exact ⟨_, rfl, OwnS.nil _ _, Calm.refl _⟩
  · obtain ⟨i0, hi, hz0, hz1, hz2⟩ := info_parts infoSp
    have q22 : ∀ (w : World) (a : Addr) (n c n' c' : Nat), (binOp .eql 58 (.slice (some a) n c) (.slice none n' c')).run Try.prog w = .ok (.bool false) w := fun w a n c n' c' => Lib.run_eql_slice_nil w _ _ (some a) n c n' c' Try.underlying58
    have hsrc : Hid (∀ j v, (sv l)[j]? = some v → (w.alloc (.cells #[] 47)).cell? ((⟨b, q, sp⟩ : Addr).add j) = some v) := show ∀ _, _ from fun j v hj => by
      have hlt : 0 < l.length := by
        have := (List.getElem?_eq_some_iff.1 hj).1
        rw [sv_length] at this; omega
      obtain ⟨b', q', hA, hb, -⟩ := hL.2 hlt
      obtain ⟨b2, q2, hA2, hk⟩ := hL.src hlt
      injection hA with hA
      injection hA with h1 h2 h3
      subst h1; subst h2; subst h3
      injection hA2 with hA2
      injection hA2 with h4 h5 _
      subst h4; subst h5
      have e : (⟨b, q, none⟩ : Addr).add j = ⟨b, q + j, none⟩ := by unfold Addr.add; split <;> simp_all
      rw [e, World.cell?_alloc_lt _ _ _ hb]
      exact hk j v hj
    have hone : Hid (∀ u ∈ sv l, u.oneCell' = true) := show ∀ _, _ from fun u hu => by
      obtain ⟨e, _, h⟩ := List.mem_flatMap.1 hu
      exact sp_one e u h
    have HLEN := Lib.hid (sv_length l)
    have hbig : l.length * 32 ≤ 140737488355328 := by omega
    have hmax : l.length ≤ maxLen := by unfold maxLen; omega
    clear hL
    go_enter Try.func51, Try.ntmps51
    go_wp2_with (at_builtin; refine wpList_append_own _ rfl _ _ 58 rfl w.heap.size 47 i0 _ 4 32 Try.underlying58 hi hz0 hz1 hz2 rfl (by decide) _ _ _ rfl (World.ownsRow_made w #[] 0 (Nat.le_refl _) (Nat.zero_le _) (by simp)) ⟨b, q, sp⟩ l.length c (sv l) rfl HLEN.out hsrc.out hone.out (by rw [Nat.zero_add]; exact hmax) (by rw [Nat.zero_add]; exact hbig) (by simp) ?_; intro v' w1 hown hgrow _)
    have hO : OwnS w.heap.size w1 v' l := by unfold OwnS; simpa using hown
    have hC : Calm w w1 := Below.grown ((Calm.refl w).alloc _) hgrow (by simp) (by intro k hk; cases hk; exact Nat.le_refl _)
    clear hown hgrow
    go_wp2_with fail
    go_ret
    exact ⟨_, rfl, hO, hC⟩

set_option maxRecDepth 100000 in
theorem OwnS.slice {base : Nat} {w : World} {v : Value} {l : List Sp} (h : OwnS base w v l) : ∃ A c, v = .slice A l.length c := by
  rcases h.2 with ⟨rfl, h0⟩ | ⟨g, cap, cur, rfl, -⟩
  · rw [h0]; exact ⟨_, _, rfl⟩
  · exact ⟨_, _, rfl⟩
set_option maxRecDepth 100000 in
theorem OwnI.slice {base : Nat} {w : World} {v : Value} {l : List Int} (h : OwnI base w v l) : ∃ A c, v = .slice A l.length c := by
  rcases h.2 with ⟨rfl, h0⟩ | ⟨g, cap, cur, rfl, -⟩
  · rw [h0]; exact ⟨_, _, rfl⟩
  · exact ⟨_, _, rfl⟩
/-- The box of what is beneath a node, and the rows behind it, none of which lies in the box. -/
structure OutOk (B : Nat) (w : World) (g : Nat) (vE vS vN : Value) (D : Int) (E : List El) (S : List Sp) (N : List Int) : Prop where
  box : w.heap[g]? = some (.cells #[vE, vS, .int .i64 D, vN] 63 (0, 0))
  own : Own3 B w vE vS vN E S N
  ge : B ≤ g
  ne : ∀ k, vE.ownBlock = some k ∨ vS.ownBlock = some k ∨ vN.ownBlock = some k → k ≠ g
set_option maxRecDepth 100000 in
theorem OutOk.calm {B : Nat} {w w' : World} {g : Nat} {vE vS vN : Value} {D : Int} {E : List El} {S : List Sp} {N : List Int} (h : OutOk B w g vE vS vN D E S N) (hb : Calm w w') : OutOk B w' g vE vS vN D E S N :=
  ⟨(hb.block (Array.getElem?_eq_some_iff.1 h.box).1).trans h.box, h.own.calm hb, h.ge, h.ne⟩

/-! ### What look lays first, in any order -/
structure Pre4 (wl : World) (B : Nat) (E : List El) (S : List Sp) (x : Int) (c2 c5 c7 c8 c9 : Bool) (Y : Nat → Value) (w : World) : Prop where
  calm : Calm wl w
  hB : B ≤ wl.heap.size
  e : c2 = true → OwnR B w (Y 2) E
  s : c5 = true → OwnS B w (Y 5) S
  n : c7 = true → OwnI B w (Y 7) [x]
  a : c8 = true → c2 = true ∧ c5 = true ∧ c7 = true ∧ Y 8 = .agg #[Y 2, Y 5, .int .i64 1, Y 7]
  g : c9 = true → ∃ g, Y 9 = .pointer (some ⟨g, 0, none⟩) ∧ B ≤ g ∧ w.heap[g]? = some (.cells bnZ 63 (0, 0))
  es : c2 = true → c5 = true → Away (Y 2) (Y 5)
  en : c2 = true → c7 = true → Away (Y 2) (Y 7)
  sn : c5 = true → c7 = true → Away (Y 5) (Y 7)
  ge : c2 = true → c9 = true → ∀ k, (Y 2).ownBlock = some k → Y 9 ≠ .pointer (some ⟨k, 0, none⟩)
  gs : c5 = true → c9 = true → ∀ k, (Y 5).ownBlock = some k → Y 9 ≠ .pointer (some ⟨k, 0, none⟩)
  gn : c7 = true → c9 = true → ∀ k, (Y 7).ownBlock = some k → Y 9 ≠ .pointer (some ⟨k, 0, none⟩)
section
variable {wl : World} {B : Nat} {E : List El} {S : List Sp} {x : Int} {c2 c5 c7 c8 c9 : Bool} {Y : Nat → Value} {w w' : World}
set_option maxRecDepth 100000 in
theorem Pre4.stay (h : Pre4 wl B E S x c2 c5 c7 c8 c9 Y w) (hb : Calm w w') : Pre4 wl B E S x c2 c5 c7 c8 c9 Y w' :=
  ⟨h.calm.call hb, h.hB, fun c => (h.e c).calm hb, fun c => rows_calm (h.s c) hb, fun c => (h.n c).calm hb, h.a, fun c => by
    obtain ⟨g, g1, g2, g3⟩ := h.g c
    exact ⟨g, g1, g2, (hb.block (Array.getElem?_eq_some_iff.1 g3).1).trans g3⟩, h.es, h.en, h.sn, h.ge, h.gs, h.gn⟩
set_option maxRecDepth 100000 in
theorem Pre4.start (hB : B ≤ wl.heap.size) : Pre4 wl B E S x false false false false false Y wl where
  calm := Calm.refl _
  hB := hB
  e h := absurd h (by simp)
  s h := absurd h (by simp)
  n h := absurd h (by simp)
  a h := absurd h (by simp)
  g h := absurd h (by simp)
  es h := absurd h (by simp)
  en h := absurd h (by simp)
  sn h := absurd h (by simp)
  ge h := absurd h (by simp)
  gs h := absurd h (by simp)
  gn h := absurd h (by simp)
set_option maxRecDepth 100000 in
theorem Pre4.lt2 (h : Pre4 wl B E S x c2 c5 c7 c8 c9 Y w) (c : c2 = true) : ∀ k, (Y 2).ownBlock = some k → k < w.heap.size := fun k hk => ((h.e c).lt k hk).2
set_option maxRecDepth 100000 in
theorem Pre4.lt5 (h : Pre4 wl B E S x c2 c5 c7 c8 c9 Y w) (c : c5 = true) : ∀ k, (Y 5).ownBlock = some k → k < w.heap.size := fun k hk => (rows_lt (h.s c) k hk).2
set_option maxRecDepth 100000 in
theorem Pre4.lt7 (h : Pre4 wl B E S x c2 c5 c7 c8 c9 Y w) (c : c7 = true) : ∀ k, (Y 7).ownBlock = some k → k < w.heap.size := fun k hk => ((h.n c).lt k hk).2
set_option maxRecDepth 100000 in
theorem Pre4.lt9 (h : Pre4 wl B E S x c2 c5 c7 c8 c9 Y w) (c : c9 = true) : ∀ k, Y 9 = .pointer (some ⟨k, 0, none⟩) → k < w.heap.size := fun k hk => by
  obtain ⟨g, g1, g2, g3⟩ := h.g c
  rw [g1] at hk
  injection hk with hk; injection hk with hk; injection hk with hk
  subst hk
  exact (Array.getElem?_eq_some_iff.1 g3).1
set_option maxRecDepth 100000 in
theorem upd_same (Y : Nat → Value) (i : Nat) (y : Value) : updV Y i y i = y := if_pos rfl
set_option maxRecDepth 100000 in
theorem upd_other (Y : Nat → Value) {i j : Nat} (y : Value) (h : j ≠ i) : updV Y i y j = Y j := if_neg h
set_option maxRecDepth 100000 in
theorem Pre4.do2 (h : Pre4 wl B E S x false c5 c7 c8 c9 Y w) {v : Value} (ho : OwnR w.heap.size w' v E) (hb : Calm w w') : Pre4 wl B E S x true c5 c7 c8 c9 (updV Y 2 v) w' := by
  have hw := h.calm.size
  have hBw := h.hB
  have h' := h.stay hb
  have hv := fun k (hk : v.ownBlock = some k) => (ho.lt k hk).1
  refine ⟨h'.calm, h'.hB, fun _ => ?_, h'.s, h'.n, fun c => absurd (h.a c).1 (by simp), h'.g, fun _ c => ?_, fun _ c => ?_, h'.sn, fun _ c => ?_, h'.gs, h'.gn⟩
  · rw [upd_same]; exact ho.weaken (by omega)
  · rw [upd_same, upd_other _ _ (by decide)]
    intro k hk hk2
    have := hv k hk; have := h.lt5 c k hk2; omega
  · rw [upd_same, upd_other _ _ (by decide)]
    intro k hk hk2
    have := hv k hk; have := h.lt7 c k hk2; omega
  · rw [upd_same, upd_other _ _ (by decide)]
    intro k hk hk2
    have := hv k hk; have := h.lt9 c k hk2; omega
set_option maxRecDepth 100000 in
theorem Pre4.do5 (h : Pre4 wl B E S x c2 false c7 c8 c9 Y w) {v : Value} (ho : OwnS w.heap.size w' v S) (hb : Calm w w') : Pre4 wl B E S x c2 true c7 c8 c9 (updV Y 5 v) w' := by
  have hw := h.calm.size
  have hBw := h.hB
  have h' := h.stay hb
  have hv := fun k (hk : v.ownBlock = some k) => (rows_lt ho k hk).1
  refine ⟨h'.calm, h'.hB, h'.e, fun _ => ?_, h'.n, fun c => absurd (h.a c).2.1 (by simp), h'.g, fun c _ => ?_, h'.en, fun _ c => ?_, h'.ge, fun _ c => ?_, h'.gn⟩
  · rw [upd_same]
    refine ⟨ho.1, ?_⟩
    rcases ho.2 with h1 | ⟨g, cap, cur, h1, h2, h3⟩
    · exact .inl h1
    · exact .inr ⟨g, cap, cur, h1, by omega, h3⟩
  · rw [upd_same, upd_other _ _ (by decide)]
    intro k hk hk2
    have := hv k hk2; have := h.lt2 c k hk; omega
  · rw [upd_same, upd_other _ _ (by decide)]
    intro k hk hk2
    have := hv k hk; have := h.lt7 c k hk2; omega
  · rw [upd_same, upd_other _ _ (by decide)]
    intro k hk hk2
    have := hv k hk; have := h.lt9 c k hk2; omega
set_option maxRecDepth 100000 in
theorem Pre4.do7 (h : Pre4 wl B E S x c2 c5 false c8 c9 Y w) : Pre4 wl B E S x c2 c5 true c8 c9 (updV Y 7 (.slice (some ⟨w.heap.size, 0, none⟩) 1 1)) (w.alloc (.cells #[.int .i64 x] 3)) := by
  have hw := h.calm.size
  have hBw := h.hB
  have h' := h.stay ((Calm.refl w).alloc (.cells #[.int .i64 x] 3))
  have hv : ∀ k, (Value.slice (some ⟨w.heap.size, 0, none⟩) 1 1).ownBlock = some k → k = w.heap.size := fun k hk => by injection hk with hk; exact hk.symm
  refine ⟨h'.calm, h'.hB, h'.e, h'.s, fun _ => ?_, fun c => absurd (h.a c).2.2.1 (by simp), h'.g, h'.es, fun c _ => ?_, fun c _ => ?_, h'.ge, h'.gs, fun _ c => ?_⟩
  · rw [upd_same]; exact OwnI.one (by omega) (heap_new _ _)
  · rw [upd_same, upd_other _ _ (by decide)]
    intro k hk hk2
    have := hv k hk2; have := h.lt2 c k hk; omega
  · rw [upd_same, upd_other _ _ (by decide)]
    intro k hk hk2
    have := hv k hk2; have := h.lt5 c k hk; omega
  · rw [upd_same, upd_other _ _ (by decide)]
    intro k hk hk2
    have := hv k hk; have := h.lt9 c k hk2; omega
set_option maxRecDepth 100000 in
theorem Pre4.do8 (h : Pre4 wl B E S x true true true false c9 Y w) : Pre4 wl B E S x true true true true c9 (updV Y 8 (.agg #[Y 2, Y 5, .int .i64 1, Y 7])) w :=
  ⟨h.calm, h.hB, h.e, h.s, h.n, fun _ => ⟨rfl, rfl, rfl, rfl⟩, h.g, h.es, h.en, h.sn, h.ge, h.gs, h.gn⟩
set_option maxRecDepth 100000 in
theorem Pre4.do9 (h : Pre4 wl B E S x c2 c5 c7 c8 false Y w) : Pre4 wl B E S x c2 c5 c7 c8 true (updV Y 9 (.pointer (some ⟨w.heap.size, 0, none⟩))) (w.alloc (.cells bnZ 63)) := by
  have hw := h.calm.size
  have hBw := h.hB
  have h' := h.stay ((Calm.refl w).alloc (.cells bnZ 63))
  have hne : ∀ k, k < w.heap.size → (Value.pointer (some ⟨w.heap.size, 0, none⟩)) ≠ .pointer (some ⟨k, 0, none⟩) := fun k hk he => by
    injection he with he; injection he with he; injection he with he; omega
  refine ⟨h'.calm, h'.hB, h'.e, h'.s, h'.n, h'.a, fun _ => ⟨w.heap.size, upd_same _ _ _, by omega, heap_new _ _⟩, h'.es, h'.en, h'.sn, fun c _ k hk => ?_, fun c _ k hk => ?_, fun c _ k hk => ?_⟩
  · rw [upd_same]; exact hne k (h.lt2 c k hk)
  · rw [upd_same]; exact hne k (h.lt5 c k hk)
  · rw [upd_same]; exact hne k (h.lt7 c k hk)
end
/-- The stages: what has been of a region's ops 2, 5, 7, 8 and 9, and, at last, 10. -/
def St4 (wl : World) (B : Nat) (E : List El) (S : List Sp) (x : Int) : Stages := fun bs Y w =>
  (∃ c2 c5 c7 c8 c9, bs = [c2, c5, c7, c8, c9, false] ∧ Pre4 wl B E S x c2 c5 c7 c8 c9 Y w) ∨
  (bs = [true, true, true, true, true, true] ∧ Calm wl w ∧ ∃ g, Y 9 = .pointer (some ⟨g, 0, none⟩) ∧ OutOk B w g (Y 2) (Y 5) (Y 7) 1 E S [x])
set_option maxRecDepth 100000 in
theorem St4.stay {wl : World} {B : Nat} {E : List El} {S : List Sp} {x : Int} : ∀ bs Y w w', St4 wl B E S x bs Y w → Calm w w' → St4 wl B E S x bs Y w' := fun bs Y w w' h hb => by
  rcases h with ⟨c2, c5, c7, c8, c9, h1, h2⟩ | ⟨h1, h2, g, h3, h4⟩
  · exact .inl ⟨c2, c5, c7, c8, c9, h1, h2.stay hb⟩
  · exact .inr ⟨h1, h2.call hb, g, h3, h4.calm hb⟩
set_option maxRecDepth 100000 in
/-- Before op i, whichever others have been. -/
theorem St4.pre {wl : World} {B : Nat} {E : List El} {S : List Sp} {x : Int} {L : Nat → Bool} {Y : Nat → Value} {w : World} (h : St4 wl B E S x ([2, 5, 7, 8, 9, 10].map L) Y w) (hL : L 2 = false ∨ L 5 = false ∨ L 7 = false ∨ L 8 = false ∨ L 9 = false ∨ L 10 = false) :
    L 10 = false ∧ Pre4 wl B E S x (L 2) (L 5) (L 7) (L 8) (L 9) Y w := by
  rcases h with ⟨c2, c5, c7, c8, c9, h1, h2⟩ | ⟨h1, -⟩
  · simp only [List.map_cons, List.map_nil, List.cons.injEq, and_true] at h1
    obtain ⟨e2, e5, e7, e8, e9, e10⟩ := h1
    subst e2; subst e5; subst e7; subst e8; subst e9
    exact ⟨e10, h2⟩
  · simp only [List.map_cons, List.map_nil, List.cons.injEq, and_true] at h1
    obtain ⟨e2, e5, e7, e8, e9, e10⟩ := h1
    rcases hL with h | h | h | h | h | h <;> simp_all
set_option maxRecDepth 100000 in
theorem updB_same (L : Nat → Bool) (i : Nat) : updB L i i = true := if_pos rfl
set_option maxRecDepth 100000 in
theorem updB_other (L : Nat → Bool) {i j : Nat} (h : j ≠ i) : updB L i j = L j := if_neg h
end Go.Proofs.Ytgebilpdinbfgaa

/- look: the rows taken together, in one forced order: three appends, then three stores. -/
namespace Go.Proofs.Ytgebilpdinbfgaa
open Go.RowKit

set_option maxRecDepth 100000 in
theorem St4.calm {wl : World} {B : Nat} {E : List El} {S : List Sp} {x : Int} {bs : List Bool} {Y : Nat → Value} {w : World} (h : St4 wl B E S x bs Y w) : Calm wl w := by
  rcases h with ⟨_, _, _, _, _, _, h2⟩ | ⟨_, h2, _⟩
  · exact h2.calm
  · exact h2
set_option maxRecDepth 100000 in
theorem rows_same {B : Nat} {w w' : World} {e : TypeId} {size n : Nat} {v : Value} {xs : List Value} (h : w.ownsRow B e size v n xs) (hb : ∀ k, v.ownBlock = some k → w'.heap[k]? = w.heap[k]?) : w'.ownsRow B e size v n xs := by
  refine ⟨h.1, ?_⟩
  rcases h.2 with h1 | ⟨g, cap, cur, rfl, h2, h3, h4⟩
  · exact .inl h1
  · exact .inr ⟨g, cap, cur, rfl, h2, (hb g rfl).trans h3, h4⟩
set_option maxRecDepth 100000 in
theorem rows_weaken {B B' : Nat} {w : World} {e : TypeId} {size n : Nat} {v : Value} {xs : List Value} (h : w.ownsRow B e size v n xs) (hb : B' ≤ B) : w.ownsRow B' e size v n xs := by
  refine ⟨h.1, ?_⟩
  rcases h.2 with h1 | ⟨g, cap, cur, h1, h2, h3⟩
  · exact .inl h1
  · exact .inr ⟨g, cap, cur, h1, Nat.le_trans hb h2, h3⟩
set_option maxRecDepth 100000 in
/-- The last of them: the store. -/
theorem Pre4.do10 {wl : World} {B : Nat} {E : List El} {S : List Sp} {x : Int} {Y : Nat → Value} {w : World} (h : Pre4 wl B E S x true true true true true Y w) (hB : wl.heap.size ≤ B) {g : Nat} (h9 : Y 9 = .pointer (some ⟨g, 0, none⟩)) (hBg : B ≤ g)
    (hg : w.heap[g]? = some (.cells bnZ 63 (0, 0))) : Calm wl (World.four w g 0 (Y 2) (Y 5) (.int .i64 1) (Y 7)) ∧ OutOk B (World.four w g 0 (Y 2) (Y 5) (.int .i64 1) (Y 7)) g (Y 2) (Y 5) (Y 7) 1 E S [x] := by
  have n2 : ∀ k, (Y 2).ownBlock = some k → k ≠ g := fun k hk he => by subst he; exact h.ge rfl rfl k hk h9
  have n5 : ∀ k, (Y 5).ownBlock = some k → k ≠ g := fun k hk he => by subst he; exact h.gs rfl rfl k hk h9
  have n7 : ∀ k, (Y 7).ownBlock = some k → k ≠ g := fun k hk he => by subst he; exact h.gn rfl rfl k hk h9
  refine ⟨h.calm.four (by omega) 0 _ _ _ _, set4 hg _ _ _ _, ⟨rows_same (h.e rfl) fun k hk => four_other _ _ _ _ (n2 k hk), rows_same (h.s rfl) fun k hk => four_other _ _ _ _ (n5 k hk), rows_same (h.n rfl) fun k hk => four_other _ _ _ _ (n7 k hk), h.es rfl rfl, h.en rfl rfl, h.sn rfl rfl⟩, hBg, fun k hk => ?_⟩
  rcases hk with hk | hk | hk
  · exact n2 k hk
  · exact n5 k hk
  · exact n7 k hk
set_option maxRecDepth 100000 in
/-- How much look answers. -/
theorem bn_len {l : List Nd} (hok : NdsOk l) : ∀ (d : Nat) (x : Int), (recsD l d x).length ≤ 8 * (nodesD l d x).length ∧ (sepsD l d x).length ≤ 8 * (nodesD l d x).length
  | 0, _ => by simp [recsD, sepsD, nodesD]
  | d + 1, x => by
    rw [recsD, sepsD, nodesD]
    cases hn : ndOf l x with
    | none => simp
    | some n =>
      have h9 := nd_sizes (hok n (List.mem_of_getElem? (nd_of_in hn).2.2))
      have key : ∀ K : List Int, (K.flatMap (recsD l d)).length ≤ 8 * (K.flatMap (nodesD l d)).length ∧ (K.flatMap (sepsD l d)).length ≤ 8 * (K.flatMap (nodesD l d)).length := by
        intro K
        induction K with
        | nil => simp
        | cons y K ih =>
          have h1 := bn_len hok d y
          simp only [List.flatMap_cons, List.length_append]
          omega
      have h2 := key n.K
      simp only [List.length_append, List.length_cons]
      omega
structure BnLe (o : Bn) (m : Nat) : Prop where
  e : o.E.length ≤ 3200
  s : o.S.length ≤ 3200
  n : o.N.length ≤ 400
  d1 : 1 ≤ o.D
  d2 : o.D ≤ (m : Int)
set_option maxRecDepth 100000 in
theorem look_len {l : List Nd} (hok : NdsOk l) {m : Nat} {x : Int} {b : Bn} (h : lookR l m x = some b) : BnLe b m := by
  obtain ⟨d, h0, h1, -, rfl, h2⟩ := of_look hok m x b h
  have h3 := bn_len hok d x
  simp only [beneathD] at h2
  exact ⟨by simp only [beneathD]; omega, by simp only [beneathD]; omega, h2, by simp only [beneathD]; omega, by simp only [beneathD]; omega⟩
set_option maxRecDepth 100000 in
theorem seps_m {w : World} {A : Option Addr} {l : List Nd} (h : TrAt w A l) : ∀ (d : Nat) (x : Int), ∀ s ∈ sepsD l d x, -9223372036854775808 ≤ s.m
  | 0, _, e, he => absurd he List.not_mem_nil
  | d + 1, x, e, he => by
    rw [sepsD] at he
    cases hn : ndOf l x with
    | none => rw [hn] at he; exact absurd he List.not_mem_nil
    | some n =>
      rw [hn] at he
      simp only at he
      rcases List.mem_append.1 he with he | he
      · exact (h.nd n (List.mem_of_getElem? (nd_of_in hn).2.2)).s.1 e he
      · obtain ⟨y, _, hy⟩ := List.mem_flatMap.1 he
        exact seps_m h d y e hy
set_option maxRecDepth 100000 in
theorem look_wf {w : World} {A : Option Addr} {l : List Nd} (h : TrAt w A l) (hok : NdsOk l) {m : Nat} {x : Int} {b : Bn} (hb : lookR l m x = some b) : (∀ e ∈ b.E, e.wf) ∧ ∀ s ∈ b.S, -9223372036854775808 ≤ s.m := by
  obtain ⟨d, -, -, -, rfl, -⟩ := of_look hok m x b hb
  exact ⟨recs_wf h d x, seps_m h d x⟩
set_option maxRecDepth 100000 in
theorem look_ws {w : World} {A : Option Addr} {l : List Nd} (h : TrAt w A l) (hok : NdsOk l) {m : Nat} {x : Int} {b : Bn} (hb : lookR l m x = some b) : ∀ s ∈ b.S ++ b.E.map El.sp, -9223372036854775808 ≤ s.m := by
  obtain ⟨h1, h2⟩ := look_wf h hok hb
  intro s hs
  rcases List.mem_append.1 hs with hs | hs
  · exact h2 s hs
  · obtain ⟨e, he, rfl⟩ := List.mem_map.1 hs
    exact h1 e he
set_option maxRecDepth 100000 in
theorem upto_len {l : List Nd} (hok : NdsOk l) {n : Nd} {x : Int} (hE : n.E.length ≤ 8) (hS : n.S.length ≤ 8) {m : Nat} : ∀ (k : Nat) (o : Bn), lookUpto l n x (lookR l m) k = some o → o.E.length ≤ 8 * o.N.length ∧ o.S.length ≤ 8 * o.N.length ∧ o.N.length ≤ 400 ∧ 1 ≤ o.D ∧ o.D ≤ ((m + 1 : Nat) : Int)
  | 0, o, h => by
    rw [lookUpto] at h
    injection h with h
    subst h
    simp; omega
  | k + 1, o, h => by
    rw [lookUpto] at h
    cases hp : lookUpto l n x (lookR l m) k with
    | none => rw [hp] at h; cases h
    | some p =>
      rw [hp] at h
      simp only at h
      have ih := upto_len hok hE hS k p hp
      cases hy : n.K[k]? with
      | none => rw [hy] at h; injection h with h; subst h; exact ih
      | some y =>
        rw [hy] at h
        simp only at h
        cases hs : lookR l m y with
        | none => rw [hs] at h; cases h
        | some b =>
          rw [hs] at h
          simp only at h
          split at h
          · rename_i hc
            injection h with h
            subst h
            have h4 := hc.2
            have h5 := look_len hok hs
            obtain ⟨d, h0, h1, -, hb, h2⟩ := of_look hok m y b hs
            have h3 := bn_len hok d y
            subst hb
            simp only [beneathD, List.length_append] at h4 h5 ⊢
            have h6 := h5.d1
            have h7 := h5.d2
            simp only at h6 h7
            omega
          · cases h
set_option maxRecDepth 100000 in
theorem upto_none {l : List Nd} {n : Nd} {x : Int} {sub : Int → Option Bn} {k : Nat} (h : lookUpto l n x sub k = none) : ∀ {j : Nat}, k ≤ j → lookUpto l n x sub j = none := by
  intro j hj
  induction j with
  | zero => rw [show k = 0 by omega] at h; exact h
  | succ j ih =>
    rcases Nat.lt_or_ge j k with h1 | h1
    · rw [show k = j + 1 by omega] at h; exact h
    · rw [lookUpto, ih h1]

set_option maxRecDepth 100000 in
theorem sL_ahead (p o f m p' o' f' m' : Int) : aheadS p o f m p' o' f' m' = true ↔ sL ⟨p, o, f, m⟩ ⟨p', o', f', m'⟩ := by
  have h : aheadS p o f m p' o' f' m' = decide (sLt (p, o, f) m (p', o', f') m') := ahead_rise p o f m 0 { data := #[] } p' o' f' m' 0 { data := #[] }
  rw [h, decide_eq_true_eq]
  exact Iff.rfl
set_option maxRecDepth 100000 in
theorem betw_lo {S : List Sp} {k : Nat} {p o f m p' o' f' m' : Int} (hk : 0 < k) (h8 : S[k - 1]? = some ⟨p', o', f', m'⟩) (ha : aheadS p o f m p' o' f' m' = true) : ¬ betw S k ⟨p, o, f, m⟩ := fun h => by
  obtain ⟨h1, h2⟩ := List.getElem?_eq_some_iff.1 h8
  exact h.1 ⟨hk, h1⟩ (by rw [h2]; exact (sL_ahead _ _ _ _ _ _ _ _).1 ha)
set_option maxRecDepth 100000 in
theorem betw_hi {S : List Sp} {k : Nat} {p o f m p' o' f' m' : Int} (h9 : S[k]? = some ⟨p', o', f', m'⟩) (ha : aheadS p o f m p' o' f' m' = false) : ¬ betw S k ⟨p, o, f, m⟩ := fun h => by
  obtain ⟨h1, h2⟩ := List.getElem?_eq_some_iff.1 h9
  have h3 := h.2 h1
  rw [h2] at h3
  rw [(sL_ahead _ _ _ _ _ _ _ _).2 h3] at ha
  cases ha
/-- The spot is not ahead of the separator before it. -/
def loOk (S : List Sp) (k : Nat) (s : Sp) : Prop := ∀ h : 0 < k ∧ k - 1 < S.length, ¬ sL s S[k - 1]
set_option maxRecDepth 100000 in
theorem loOk_zero (S : List Sp) (s : Sp) {k : Nat} (hk : ¬ 0 < k) : loOk S k s := fun h => absurd h.1 hk
set_option maxRecDepth 100000 in
theorem loOk_mk {S : List Sp} {k : Nat} {p o f m p' o' f' m' : Int} (h8 : S[k - 1]? = some ⟨p', o', f', m'⟩) (ha : aheadS p o f m p' o' f' m' = false) : loOk S k ⟨p, o, f, m⟩ := fun ⟨_, h1⟩ h3 => by
  rw [(List.getElem?_eq_some_iff.1 h8).2] at h3
  rw [(sL_ahead _ _ _ _ _ _ _ _).2 h3] at ha
  cases ha
set_option maxRecDepth 100000 in
theorem betw_mk {S : List Sp} {k : Nat} {p o f m p' o' f' m' : Int} (hlo : loOk S k ⟨p, o, f, m⟩) (h9 : S[k]? = some ⟨p', o', f', m'⟩) (ha : aheadS p o f m p' o' f' m' = true) : betw S k ⟨p, o, f, m⟩ :=
  ⟨hlo, fun h => by rw [(List.getElem?_eq_some_iff.1 h9).2]; exact (sL_ahead _ _ _ _ _ _ _ _).1 ha⟩
set_option maxRecDepth 100000 in
theorem betw_end {S : List Sp} {k : Nat} {s : Sp} (hlo : loOk S k s) (hk : ¬ k < S.length) : betw S k s := ⟨hlo, fun h => absurd h hk⟩
set_option maxRecDepth 100000 in
theorem take_all {S : List Sp} {LL : List Sp} {k j : Nat} {s : Sp} (h : ∀ x ∈ LL.take j, betw S k x) (hs : LL[j]? = some s) (hb : betw S k s) : ∀ x ∈ LL.take (j + 1), betw S k x := fun x hx => by
  obtain ⟨hj, he⟩ := List.getElem?_eq_some_iff.1 hs
  rw [List.take_succ_eq_append_getElem hj] at hx
  rcases List.mem_append.1 hx with hx | hx
  · exact h x hx
  · rw [List.mem_singleton.1 hx, he]; exact hb

/-- The box at g and the three rows behind it, in the making: what lies below B, and between M and where it began, is as it was. -/
structure AS (wl : World) (B M g : Nat) (D : Int) (bE bS bN vE vS vN : Value) (E : List El) (S : List Sp) (N : List Int) (w : World) : Prop where
  os : w.os = wl.os
  tape : w.tape = wl.tape
  output : w.output = wl.output
  size : wl.heap.size ≤ w.heap.size
  low : ∀ k, k < wl.heap.size → (k < B ∨ M ≤ k) → w.heap[k]? = wl.heap[k]?
  hB : B ≤ g
  gM : g < M
  hM : M ≤ wl.heap.size
  box : w.heap[g]? = some (.cells #[bE, bS, .int .i64 D, bN] 63 (0, 0))
  own : Own3 B w vE vS vN E S N
  ne : ∀ k, vE.ownBlock = some k ∨ vS.ownBlock = some k ∨ vN.ownBlock = some k → k ≠ g
  at_ : ∀ k, vE.ownBlock = some k ∨ vS.ownBlock = some k ∨ vN.ownBlock = some k → k < M ∨ wl.heap.size ≤ k
section
variable {wl w w' : World} {B M g : Nat} {D : Int} {bE bS bN vE vS vN v' : Value} {E E2 : List El} {S S2 : List Sp} {N N2 : List Int}
set_option maxRecDepth 100000 in
theorem OwnS.lt {base : Nat} {w : World} {v : Value} {l : List Sp} (h : OwnS base w v l) : ∀ k, v.ownBlock = some k → base ≤ k ∧ k < w.heap.size := rows_lt h
set_option maxRecDepth 100000 in
theorem AS.calm (h : AS wl B M g D bE bS bN vE vS vN E S N w) (hb : Calm w w') : AS wl B M g D bE bS bN vE vS vN E S N w' :=
  ⟨(Below.os hb).trans h.os, (Below.tape hb).trans h.tape, (Below.output hb).trans h.output, Nat.le_trans h.size hb.size,
    fun k hk hc => (hb.block (Nat.lt_of_lt_of_le hk h.size)).trans (h.low k hk hc), h.hB, h.gM, h.hM,
    (hb.block (Array.getElem?_eq_some_iff.1 h.box).1).trans h.box, h.own.calm hb, h.ne, h.at_⟩
set_option maxRecDepth 100000 in
theorem AS.begin (hO : OutOk B wl g vE vS vN D E S N) (hg : g < M) (hM : M ≤ wl.heap.size) (ha : ∀ k, vE.ownBlock = some k ∨ vS.ownBlock = some k ∨ vN.ownBlock = some k → k < M) : AS wl B M g D vE vS vN vE vS vN E S N wl :=
  ⟨rfl, rfl, rfl, Nat.le_refl _, fun _ _ _ => rfl, hO.ge, hg, hM, hO.box, hO.own, hO.ne, fun k hk => .inl (ha k hk)⟩
set_option maxRecDepth 100000 in
theorem AS.blk (h : AS wl B M g D bE bS bN vE vS vN E S N w) {u : Value} (hu : u = vE ∨ u = vS ∨ u = vN) (hlt : ∀ k, u.ownBlock = some k → B ≤ k) (hg : w.grownBy w' u.ownBlock) : (∀ k, k < wl.heap.size → (k < B ∨ M ≤ k) → w'.heap[k]? = wl.heap[k]?) ∧ w'.heap[g]? = w.heap[g]? := by
  have hat : ∀ k, u.ownBlock = some k → k < M ∨ wl.heap.size ≤ k := fun k hk => h.at_ k (by rcases hu with rfl | rfl | rfl <;> simp [hk])
  have hne : ∀ k, u.ownBlock = some k → k ≠ g := fun k hk => h.ne k (by rcases hu with rfl | rfl | rfl <;> simp [hk])
  refine ⟨fun k hk hc => (hg.block k (Nat.lt_of_lt_of_le hk h.size) fun e => ?_).trans (h.low k hk hc), hg.block g (Array.getElem?_eq_some_iff.1 h.box).1 fun e => hne g e.symm rfl⟩
  have h1 := hlt k e.symm
  have h2 := hat k e.symm
  omega
set_option maxRecDepth 100000 in
theorem new_ne (hg : g < w.heap.size) {u v' : Value} (hne : ∀ k, u.ownBlock = some k → k ≠ g) (h3 : v'.ownBlock = u.ownBlock ∨ v'.ownBlock = some w.heap.size) : ∀ k, v'.ownBlock = some k → k ≠ g := fun k hk => by
  rcases h3 with h3 | h3
  · exact hne k (h3.symm.trans hk)
  · rw [h3] at hk; injection hk with hk; omega
set_option maxRecDepth 100000 in
theorem new_at {n : Nat} (hn : n ≤ w.heap.size) {u v' : Value} (hat : ∀ k, u.ownBlock = some k → k < M ∨ n ≤ k) (h3 : v'.ownBlock = u.ownBlock ∨ v'.ownBlock = some w.heap.size) : ∀ k, v'.ownBlock = some k → k < M ∨ n ≤ k := fun k hk => by
  rcases h3 with h3 | h3
  · exact hat k (h3.symm.trans hk)
  · rw [h3] at hk; injection hk with hk; omega
set_option maxRecDepth 100000 in
theorem AS.appE (h : AS wl B M g D bE bS bN vE vS vN E S N w) (h1 : OwnR B w' v' E2) (h2 : w.grownBy w' vE.ownBlock) (h3 : v'.ownBlock = vE.ownBlock ∨ v'.ownBlock = some w.heap.size) : AS wl B M g D bE bS bN v' vS vN E2 S N w' := by
  obtain ⟨k1, k2⟩ := h.blk (.inl rfl) (fun k hk => (h.own.e.lt k hk).1) h2
  refine ⟨h2.os.trans h.os, h2.tape.trans h.tape, h2.output.trans h.output, Nat.le_trans h.size h2.size, k1, h.hB, h.gM, h.hM, k2.trans h.box,
    ⟨h1, rows_away h.own.s h2 h.own.es, rows_away h.own.n h2 h.own.en, away_new h.own.s h.own.es h3, away_new h.own.n h.own.en h3, h.own.sn⟩, fun k hk => ?_, fun k hk => ?_⟩
  · rcases hk with hk | hk
    · exact new_ne (Array.getElem?_eq_some_iff.1 h.box).1 (fun k hk => h.ne k (.inl hk)) h3 k hk
    · exact h.ne k (.inr hk)
  · rcases hk with hk | hk
    · exact new_at h.size (fun k hk => h.at_ k (.inl hk)) h3 k hk
    · exact h.at_ k (.inr hk)
set_option maxRecDepth 100000 in
theorem AS.appS (h : AS wl B M g D bE bS bN vE vS vN E S N w) (h1 : OwnS B w' v' S2) (h2 : w.grownBy w' vS.ownBlock) (h3 : v'.ownBlock = vS.ownBlock ∨ v'.ownBlock = some w.heap.size) : AS wl B M g D bE bS bN vE v' vN E S2 N w' := by
  obtain ⟨k1, k2⟩ := h.blk (.inr (.inl rfl)) (fun k hk => (rows_lt h.own.s k hk).1) h2
  refine ⟨h2.os.trans h.os, h2.tape.trans h.tape, h2.output.trans h.output, Nat.le_trans h.size h2.size, k1, h.hB, h.gM, h.hM, k2.trans h.box,
    ⟨rows_away h.own.e h2 h.own.es.symm, h1, rows_away h.own.n h2 h.own.sn, (away_new h.own.e h.own.es.symm h3).symm, h.own.en, away_new h.own.n h.own.sn h3⟩, fun k hk => ?_, fun k hk => ?_⟩
  · rcases hk with hk | hk | hk
    · exact h.ne k (.inl hk)
    · exact new_ne (Array.getElem?_eq_some_iff.1 h.box).1 (fun k hk => h.ne k (.inr (.inl hk))) h3 k hk
    · exact h.ne k (.inr (.inr hk))
  · rcases hk with hk | hk | hk
    · exact h.at_ k (.inl hk)
    · exact new_at h.size (fun k hk => h.at_ k (.inr (.inl hk))) h3 k hk
    · exact h.at_ k (.inr (.inr hk))
set_option maxRecDepth 100000 in
theorem AS.appN (h : AS wl B M g D bE bS bN vE vS vN E S N w) (h1 : OwnI B w' v' N2) (h2 : w.grownBy w' vN.ownBlock) (h3 : v'.ownBlock = vN.ownBlock ∨ v'.ownBlock = some w.heap.size) : AS wl B M g D bE bS bN vE vS v' E S N2 w' := by
  obtain ⟨k1, k2⟩ := h.blk (.inr (.inr rfl)) (fun k hk => (h.own.n.lt k hk).1) h2
  refine ⟨h2.os.trans h.os, h2.tape.trans h.tape, h2.output.trans h.output, Nat.le_trans h.size h2.size, k1, h.hB, h.gM, h.hM, k2.trans h.box,
    ⟨rows_away h.own.e h2 h.own.en.symm, rows_away h.own.s h2 h.own.sn.symm, h1, h.own.es, (away_new h.own.e h.own.en.symm h3).symm, (away_new h.own.s h.own.sn.symm h3).symm⟩, fun k hk => ?_, fun k hk => ?_⟩
  · rcases hk with hk | hk | hk
    · exact h.ne k (.inl hk)
    · exact h.ne k (.inr (.inl hk))
    · exact new_ne (Array.getElem?_eq_some_iff.1 h.box).1 (fun k hk => h.ne k (.inr (.inr hk))) h3 k hk
  · rcases hk with hk | hk | hk
    · exact h.at_ k (.inl hk)
    · exact h.at_ k (.inr (.inl hk))
    · exact new_at h.size (fun k hk => h.at_ k (.inr (.inr hk))) h3 k hk
set_option maxRecDepth 100000 in
theorem AS.set (h : AS wl B M g D bE bS bN vE vS vN E S N w) (j : Nat) (u : Value) {bE' bS' bN' : Value} (hbox : (#[bE, bS, .int .i64 D, bN] : Array Value).setIfInBounds j u = #[bE', bS', .int .i64 D, bN']) :
    AS wl B M g D bE' bS' bN' vE vS vN E S N (w.setCell ⟨g, j, none⟩ u) := by
  have ho : ∀ k, k ≠ g → (w.setCell ⟨g, j, none⟩ u).heap[k]? = w.heap[k]? := fun k hk => heap_setCell_other w ⟨g, j, none⟩ k u (fun e => hk (by simpa using e))
  exact ⟨h.os, h.tape, h.output, by simpa [World.setCell] using h.size, fun k hk hc => (ho k (by have := h.hB; have := h.gM; omega)).trans (h.low k hk hc), h.hB, h.gM, h.hM, by rw [← hbox]; exact heap_setCell_same w g j _ _ u h.box,
    ⟨rows_same h.own.e fun k hk => ho k (h.ne k (.inl hk)), rows_same h.own.s fun k hk => ho k (h.ne k (.inr (.inl hk))), rows_same h.own.n fun k hk => ho k (h.ne k (.inr (.inr hk))), h.own.es, h.own.en, h.own.sn⟩, h.ne, h.at_⟩
set_option maxRecDepth 100000 in
theorem AS.ends (h : AS wl B M g D vE vS vN vE vS vN E S N w) : OutOk B w g vE vS vN D E S N := ⟨h.box, h.own, h.hB, h.ne⟩
set_option maxRecDepth 100000 in
theorem AS.low_calm {w0 : World} (h : AS wl B M g D bE bS bN vE vS vN E S N w) (hc : Calm w0 wl) (hB : w0.heap.size ≤ B) : Calm w0 w :=
  Below.trans hc ⟨h.os, h.tape, h.output, h.size, fun k hk => h.low k (by have := h.hB; have := h.gM; have := h.hM; omega) (.inl (by omega))⟩
set_option maxRecDepth 100000 in
/-- What another call's rows are: as they were. -/
theorem AS.src {u1 u2 u3 : Value} {E3 : List El} {S3 : List Sp} {N3 : List Int} (h : AS wl B M g D bE bS bN vE vS vN E S N w) (hs : Own3 M wl u1 u2 u3 E3 S3 N3) : Own3 M w u1 u2 u3 E3 S3 N3 :=
  ⟨rows_same hs.e fun k hk => h.low k (hs.e.lt k hk).2 (.inr (hs.e.lt k hk).1), rows_same hs.s fun k hk => h.low k (rows_lt hs.s k hk).2 (.inr (rows_lt hs.s k hk).1), rows_same hs.n fun k hk => h.low k (hs.n.lt k hk).2 (.inr (hs.n.lt k hk).1), hs.es, hs.en, hs.sn⟩
/-- The stages: what stands where, after so many writes. -/
def ASs (wl : World) (B M g : Nat) (D : Int) (uE uS uN : Value) (E E' : List El) (S S' : List Sp) (N N' : List Int) : Nat → (Nat → Value) → World → Prop
  | 0, _, w => AS wl B M g D uE uS uN uE uS uN E S N w
  | 1, Y, w => AS wl B M g D uE uS uN (Y 4) uS uN E' S N w
  | 2, Y, w => AS wl B M g D uE uS uN (Y 4) (Y 9) uN E' S' N w
  | 3, Y, w => AS wl B M g D uE uS uN (Y 4) (Y 9) (Y 14) E' S' N' w
  | 4, Y, w => AS wl B M g D (Y 4) uS uN (Y 4) (Y 9) (Y 14) E' S' N' w
  | 5, Y, w => AS wl B M g D (Y 4) (Y 9) uN (Y 4) (Y 9) (Y 14) E' S' N' w
  | _, Y, w => AS wl B M g D (Y 4) (Y 9) (Y 14) (Y 4) (Y 9) (Y 14) E' S' N' w
set_option maxRecDepth 100000 in
theorem ASs.calm {uE uS uN : Value} {E' : List El} {S' : List Sp} {N' : List Int} : ∀ (m : Nat) (Y : Nat → Value) (w w' : World), ASs wl B M g D uE uS uN E E' S S' N N' m Y w → Calm w w' → ASs wl B M g D uE uS uN E E' S S' N N' m Y w'
  | 0, _, _, _, h, hb => AS.calm h hb
  | 1, _, _, _, h, hb => AS.calm h hb
  | 2, _, _, _, h, hb => AS.calm h hb
  | 3, _, _, _, h, hb => AS.calm h hb
  | 4, _, _, _, h, hb => AS.calm h hb
  | 5, _, _, _, h, hb => AS.calm h hb
  | _ + 6, _, _, _, h, hb => AS.calm h hb
set_option maxRecDepth 100000 in
/-- The box, and what stays in it up to the store. -/
theorem ASs.boxE {uE uS uN : Value} {E' : List El} {S' : List Sp} {N' : List Int} {Y : Nat → Value} : ∀ {m : Nat}, m ≤ 3 → ASs wl B M g D uE uS uN E E' S S' N N' m Y w → ∃ y z, w.heap[g]? = some (.cells #[uE, y, .int .i64 D, z] 63 (0, 0))
  | 0, _, h => ⟨_, _, AS.box h⟩
  | 1, _, h => ⟨_, _, AS.box h⟩
  | 2, _, h => ⟨_, _, AS.box h⟩
  | 3, _, h => ⟨_, _, AS.box h⟩
set_option maxRecDepth 100000 in
theorem ASs.boxS {uE uS uN : Value} {E' : List El} {S' : List Sp} {N' : List Int} {Y : Nat → Value} : ∀ {m : Nat}, m ≤ 4 → ASs wl B M g D uE uS uN E E' S S' N N' m Y w → ∃ y z, w.heap[g]? = some (.cells #[y, uS, .int .i64 D, z] 63 (0, 0))
  | 0, _, h => ⟨_, _, AS.box h⟩
  | 1, _, h => ⟨_, _, AS.box h⟩
  | 2, _, h => ⟨_, _, AS.box h⟩
  | 3, _, h => ⟨_, _, AS.box h⟩
  | 4, _, h => ⟨_, _, AS.box h⟩
set_option maxRecDepth 100000 in
theorem ASs.boxN {uE uS uN : Value} {E' : List El} {S' : List Sp} {N' : List Int} {Y : Nat → Value} : ∀ {m : Nat}, m ≤ 5 → ASs wl B M g D uE uS uN E E' S S' N N' m Y w → ∃ y z, w.heap[g]? = some (.cells #[y, z, .int .i64 D, uN] 63 (0, 0))
  | 0, _, h => ⟨_, _, AS.box h⟩
  | 1, _, h => ⟨_, _, AS.box h⟩
  | 2, _, h => ⟨_, _, AS.box h⟩
  | 3, _, h => ⟨_, _, AS.box h⟩
  | 4, _, h => ⟨_, _, AS.box h⟩
  | 5, _, h => ⟨_, _, AS.box h⟩
set_option maxRecDepth 100000 in
/-- The other blocks. -/
theorem ASs.high {uE uS uN : Value} {E' : List El} {S' : List Sp} {N' : List Int} {Y : Nat → Value} : ∀ {m : Nat}, ASs wl B M g D uE uS uN E E' S S' N N' m Y w → ∀ k, k < wl.heap.size → M ≤ k → w.heap[k]? = wl.heap[k]?
  | 0, h, k, h1, h2 => AS.low h k h1 (.inr h2)
  | 1, h, k, h1, h2 => AS.low h k h1 (.inr h2)
  | 2, h, k, h1, h2 => AS.low h k h1 (.inr h2)
  | 3, h, k, h1, h2 => AS.low h k h1 (.inr h2)
  | 4, h, k, h1, h2 => AS.low h k h1 (.inr h2)
  | 5, h, k, h1, h2 => AS.low h k h1 (.inr h2)
  | _ + 6, h, k, h1, h2 => AS.low h k h1 (.inr h2)
set_option maxRecDepth 100000 in
theorem AS.base (h : AS wl B M g D bE bS bN vE vS vN E S N w) : B ≤ w.heap.size := by
  have := h.hB; have := h.gM; have := h.hM; have := h.size; omega
set_option maxRecDepth 100000 in
theorem OutOk.setD (h : OutOk B w g vE vS vN D E S N) (D' : Int) : OutOk B (w.setCell ⟨g, 2, none⟩ (.int .i64 D')) g vE vS vN D' E S N := by
  have ho : ∀ k, k ≠ g → (w.setCell ⟨g, 2, none⟩ (.int .i64 D')).heap[k]? = w.heap[k]? := fun k hk => heap_setCell_other w ⟨g, 2, none⟩ k _ (fun e => hk (by simpa using e))
  exact ⟨heap_setCell_same w g 2 _ _ _ h.box, ⟨rows_same h.own.e fun k hk => ho k (h.ne k (.inl hk)), rows_same h.own.s fun k hk => ho k (h.ne k (.inr (.inl hk))), rows_same h.own.n fun k hk => ho k (h.ne k (.inr (.inr hk))), h.own.es, h.own.en, h.own.sn⟩, h.ge, h.ne⟩
set_option maxRecDepth 100000 in
theorem Own3.past {u1 u2 u3 : Value} {E3 : List El} {S3 : List Sp} {N3 : List Int} (h : Own3 M w u1 u2 u3 E3 S3 N3) (hg : g < M) (j : Nat) (u : Value) : Own3 M (w.setCell ⟨g, j, none⟩ u) u1 u2 u3 E3 S3 N3 :=
  ⟨rows_set h.e hg j u, rows_set h.s hg j u, rows_set h.n hg j u, h.es, h.en, h.sn⟩
end
end Go.Proofs.Ytgebilpdinbfgaa

