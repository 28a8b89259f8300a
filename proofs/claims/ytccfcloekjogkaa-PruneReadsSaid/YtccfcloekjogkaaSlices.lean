/- slices.Clone, slices.Insert of one record, slices.Delete of one record: over a row that the caller owns. -/
import Derived.Test.YtccfcloekjogkaaOwn
import Derived.Test.YtccfcloekjogkaaPure3
import Derived.Deep.AppendSrc
import Derived.Deep.RegionLaw
import Derived.Laws.Externs
import Derived.Lib.AppendZerosOnto
import Derived.Lib.Overlaps
import Derived.Lib.SliceRun
import Derived.Lib.Hide
import Derived.Outline
namespace Go.Proofs.Ytccfcloekjogkaa
open Go.RowKit

/-- What lies below base is as it was. -/
def Keeps (base : Nat) (w w' : World) : Prop := ∀ w0 : World, w0.heap.size ≤ base → Calm w0 w → Calm w0 w'
def OwnEnd (base : Nat) (l : List El) (w : World) (e : Ending) (w' : World) : Prop := ∃ v, e = .returned v ∧ OwnR base w' v l ∧ Keeps base w w'

set_option maxRecDepth 100000 in
theorem infoElem6s : (Try.prog.info? 33).map (·.size) = some 6 := by kernel_rfl

def spl (cur : List Value) (o : Nat) (cs : List Value) : List Value := cur.take o ++ cs ++ cur.drop (o + cs.length)
set_option maxRecDepth 100000 in
/-- copy(d, s) of records, into a row. -/
theorem run_copy_el (w : World) (ty : TypeId) (g o dLen dCap : Nat) (a : Addr) (sLen sCap : Nat) (cur : List Value) (t : TypeId) (cs : List Value)
    (hg : w.heap[g]? = some (.cells cur.toArray t (0, 0))) (hn : cs.length = Nat.min sLen dLen * 6)
    (hsrc : ∀ j v, cs[j]? = some v → w.cell? (a.add j) = some v) (hfit : o + cs.length ≤ cur.length) (h1 : ∀ v ∈ cs, v.oneCell' = true) :
    (Builtin.copy_ #[22, 22] ty #[.slice (some ⟨g, o, none⟩) dLen dCap, .slice (some a) sLen sCap]).run Try.prog w =
      .ok (goInt (Nat.min sLen dLen)) (w.setRow g (spl cur o cs).toArray) := by
  have hl := run_loadCells_list (P := Try.prog) w a cs hsrc
  have hst := run_storeCells_at Try.prog g o t cs 0 cur.toArray w hg (by simpa using hfit) h1
  have hs := infoElem6s
  cases hq : Try.prog.info? 33 with
  | none => simp [hq] at hs
  | some i =>
    have hi : i.size = 6 := by simpa [hq] using hs
    simp [Builtin.copy_, run_underlying Try.underlying22, Builtin.lenOf, Builtin.firstCells, sizeOf, typeInfo, hq, hi, ← hn, hl, hst, spl]

set_option maxRecDepth 100000 in
/-- A copy whose run is known, as an operation of a plain region and of one that draws. -/
theorem wpList_copy_known {P : Program} {w : World} {ops : Array Oper} {rest : List Oper} {o : Oper} {a : Act} {Q : Exit → Act → World → Prop} (hgd : o.guard = none) (d s : Operand) (t : TypeId)
    (ho : o.op = .call { callee := .builtin .copy, args := #[d, s], argTypes := #[t, t] }) (v u : Value) (hd : a.eval d = v) (hs : a.eval s = u) {v' : Value} {w' : World}
    (hr : (Builtin.copy_ #[t, t] o.type #[v, u]).run P w = .ok v' w') (h : wpList P ops Q rest (a.put o.dst v') w') : wpList P ops Q (o :: rest) a w :=
  wpList_plain hgd fun _ hK => by
    unfold Oper.wp execOp
    simp only [ho, resolve, invoke, builtin, Sem.run_bind, Sem.run_pure, Result.andThen_ok, List.map_toArray, List.map_cons, List.map_nil, hd, hs, hr]
    exact hK _ _ h
set_option maxRecDepth 100000 in
theorem step_copy_known {P : Program} {ops : Array Oper} {o : Oper} {a : Act} {w : World} {K : Act → World → Prop} {Q : Exit → Act → World → Prop} {E : Prop}
    (hg : o.guard = none) (d x : Operand) (t : TypeId) (hop : o.op = Op.call { callee := Callee.builtin Builtin.copy, args := #[d, x], argTypes := #[t, t] })
    (v u : Value) (hd : a.eval d = v) (hx : a.eval x = u) {v' : Value} {w' : World} (hr : (Builtin.copy_ #[t, t] o.type #[v, u]).run P w = .ok v' w') (hK : K (a.put o.dst v') w') :
    if Region.wanted o (yielded ops a.tmps) = true then Oper.wp P o a w K Q else E := by
  have hw : Region.wanted o (yielded ops a.tmps) = true := by simp [Region.wanted, hg]
  rw [if_pos hw]
  unfold Oper.wp
  simp only [execOp, hop, resolve, invoke, builtin, Sem.run_bind, Sem.run_pure, Result.andThen_ok, List.map_toArray, List.map_cons, List.map_nil, hd, hx, hr]
  exact hK

set_option maxRecDepth 100000 in
theorem Lies.cells {w : World} {b q : Nat} {l : List El} (h : Lies w (some ⟨b, q, none⟩) l) : ∀ j v, (cellsOf l)[j]? = some v → w.cell? ⟨b, q + j, none⟩ = some v := fun j v hj => by
  have hlt : j < l.length * 6 := by rw [← cellsOf_len]; exact (List.getElem?_eq_some_iff.1 hj).1
  have hk : j / 6 < l.length := by omega
  have hel := List.getElem?_eq_getElem hk
  obtain ⟨b', q', hA, _, hat⟩ := h.2 (by omega)
  injection hA with hA
  injection hA with h1 h2
  subst h1; subst h2
  have h6 := hat _ _ hel
  rw [show j = j / 6 * 6 + j % 6 by omega, cellsOf_at l (j / 6) (j % 6) _ hel (by omega)] at hj
  have hm : j % 6 < 6 := by omega
  obtain ⟨h0, h1, h2, h3, h4, h5⟩ := h6
  rw [show q + j = q + j / 6 * 6 + j % 6 by omega]
  rcases (by omega : j % 6 = 0 ∨ j % 6 = 1 ∨ j % 6 = 2 ∨ j % 6 = 3 ∨ j % 6 = 4 ∨ j % 6 = 5) with e | e | e | e | e | e <;> rw [e] at hj ⊢ <;> simp [El.cells] at hj <;> subst hj <;> assumption

set_option maxRecDepth 100000 in
set_option maxHeartbeats 4000000 in
theorem clone_any (A : Option Addr) (c : Nat) (l : List El) (w : World) (hn : l.length ≤ 400) (hL : Lies w A l) :
    Calls Try.prog 83 #[.slice A l.length c] w fun e w' => ∃ v, e = .returned v ∧ OwnR w.heap.size w' v l ∧ Calm w w' := by
  rcases A with _ | ⟨b, q, sp⟩
  · have h0 : l = [] := by
      rcases Nat.eq_zero_or_pos l.length with h | h
      · exact List.eq_nil_of_length_eq_zero h
      · obtain ⟨_, _, h1, _⟩ := hL.2 h; cases h1
    subst h0
    have q22 : ∀ (w : World) (n c n' c' : Nat), (binOp .eql 22 (.slice none n c) (.slice none n' c')).run Try.prog w = .ok (.bool true) w := fun w n c n' c' => Lib.run_eql_slice_nil w _ _ none n c n' c' Try.underlying22
    go_enter Try.func83, Try.ntmps83
    go_wp2_with fail
    go_ret
    exact ⟨_, rfl, OwnR.nil _ _, Calm.refl _⟩
  · obtain ⟨i0, hi, hz0, hz1, hz2⟩ := info_parts infoElem
    have q22 : ∀ (w : World) (a : Addr) (n c n' c' : Nat), (binOp .eql 22 (.slice (some a) n c) (.slice none n' c')).run Try.prog w = .ok (.bool false) w := fun w a n c n' c' => Lib.run_eql_slice_nil w _ _ (some a) n c n' c' Try.underlying22
    have hsrc : Hid (∀ j v, (cellsOf l)[j]? = some v → (w.alloc (.cells #[] 33)).cell? ((⟨b, q, sp⟩ : Addr).add j) = some v) := show ∀ _, _ from fun j v hj => by
      have hlt : j < l.length * 6 := by rw [← cellsOf_len]; exact (List.getElem?_eq_some_iff.1 hj).1
      obtain ⟨b', q', hA, hb, _⟩ := hL.2 (by omega)
      injection hA with hA
      injection hA with h1 h2 h3
      subst h1; subst h2; subst h3
      have := hL.cells j v hj
      have e : (⟨b, q, none⟩ : Addr).add j = ⟨b, q + j, none⟩ := by unfold Addr.add; split <;> simp_all
      rw [e, World.cell?_alloc_lt _ _ _ hb]; exact this
    have hlen : (cellsOf l).length = l.length * 6 := cellsOf_len l
    have HLEN := Lib.hid hlen
    have hone : Hid (∀ u ∈ cellsOf l, u.oneCell' = true) := cellsOf_one l
    have hbig : l.length * 56 ≤ 140737488355328 := by omega
    have hmax : l.length ≤ maxLen := by unfold maxLen; omega
    clear hlen hL
    go_enter Try.func83, Try.ntmps83
    go_wp2_with (at_builtin; refine wpList_append_own _ rfl _ _ 22 rfl w.heap.size 33 i0 _ 6 56 Try.underlying22 hi hz0 hz1 hz2 rfl (by decide) _ _ _ rfl (World.ownsRow_made w #[] 0 (Nat.le_refl _) (Nat.zero_le _) (by simp)) ⟨b, q, sp⟩ l.length c (cellsOf l) rfl HLEN.out hsrc.out hone.out (by rw [Nat.zero_add]; exact hmax) (by rw [Nat.zero_add]; exact hbig) (by simp) ?_; intro v' w1 hown hgrow _)
    have hO : OwnR w.heap.size w1 v' l := by unfold OwnR; simpa using hown
    have hC : Calm w w1 := Below.grown ((Calm.refl w).alloc _) hgrow (by simp) (by intro k hk; cases hk; exact Nat.le_refl _)
    clear hown hgrow
    go_wp2_with fail
    go_ret
    exact ⟨_, rfl, hO, hC⟩

/-! ### the rows' contents -/
set_option maxRecDepth 100000 in
theorem insAt_len {l : List El} {i : Nat} (e : El) (hi : i ≤ l.length) : (insAt l i e).length = l.length + 1 := by
  unfold insAt; rw [List.length_append, List.length_cons, List.length_take, List.length_drop]; omega
set_option maxRecDepth 100000 in
theorem cellsOf_app (a b : List El) : cellsOf (a ++ b) = cellsOf a ++ cellsOf b := by unfold cellsOf; simp
set_option maxRecDepth 100000 in
theorem cellsOf_take {l : List El} {i : Nat} (hi : i ≤ l.length) : (cellsOf l).take (i * 6) = cellsOf (l.take i) := by
  have h := cellsOf_app (l.take i) (l.drop i)
  rw [List.take_append_drop] at h
  rw [h]
  exact List.take_left' (by rw [cellsOf_len, List.length_take]; congr 1; omega)
set_option maxRecDepth 100000 in
theorem cellsOf_drop {l : List El} {i : Nat} (hi : i ≤ l.length) : (cellsOf l).drop (i * 6) = cellsOf (l.drop i) := by
  have h := cellsOf_app (l.take i) (l.drop i)
  rw [List.take_append_drop] at h
  rw [h]
  exact List.drop_left' (by rw [cellsOf_len, List.length_take]; congr 1; omega)
set_option maxRecDepth 100000 in
theorem cellsOf_ins (l : List El) (i : Nat) (e : El) : cellsOf (insAt l i e) = cellsOf (l.take i) ++ e.cells ++ cellsOf (l.drop i) := by
  unfold insAt; rw [cellsOf_app, List.append_assoc]; rfl
set_option maxRecDepth 100000 in
theorem spl_mid (a x c y : List Value) (h : x.length = y.length) (o : Nat) (ho : o = a.length) : spl (a ++ x ++ c) o y = a ++ y ++ c := by
  subst ho
  have e1 : (a ++ x ++ c).take a.length = a := by rw [List.append_assoc]; exact List.take_left' rfl
  have e2 : (a ++ x ++ c).drop (a.length + y.length) = c := List.drop_left' (by rw [List.length_append, h])
  unfold spl
  rw [e1, e2]
set_option maxRecDepth 100000 in
theorem parts {cur : List Value} {l : List El} {i : Nat} (hc : cur.take (l.length * 6) = cellsOf l) (hs : (l.length + 1) * 6 ≤ cur.length) :
    ∃ d r, cur = cellsOf (l.take i) ++ cellsOf (l.drop i) ++ d ++ r ∧ d.length = 6 ∧ r = cur.drop ((l.length + 1) * 6) := by
  refine ⟨(cur.drop (l.length * 6)).take 6, cur.drop ((l.length + 1) * 6), ?_, ?_, rfl⟩
  · rw [← cellsOf_app, List.take_append_drop, ← hc, List.append_assoc]
    have h1 : (cur.drop (l.length * 6)).drop 6 = cur.drop ((l.length + 1) * 6) := by rw [List.drop_drop]; congr 1; omega
    rw [← h1, List.take_append_drop, List.take_append_drop]
  · rw [List.length_take, List.length_drop]; omega
set_option maxRecDepth 100000 in
theorem row_shift {cur : List Value} {l : List El} {i : Nat} (e : El) (hi : i ≤ l.length) (hc : cur.take (l.length * 6) = cellsOf l) (hs : (l.length + 1) * 6 ≤ cur.length) :
    spl (spl cur ((i + 1) * 6) (cellsOf (l.drop i))) (i * 6) e.cells = cellsOf (insAt l i e) ++ cur.drop ((l.length + 1) * 6) := by
  obtain ⟨d, r, hcur, hd, hr⟩ := parts (i := i) hc hs
  have hl1 : (cellsOf (l.take i)).length = i * 6 := by rw [cellsOf_len, List.length_take]; congr 1; omega
  have hl2 : (cellsOf (l.drop i)).length = (l.length - i) * 6 := by rw [cellsOf_len, List.length_drop]
  rw [← hr]
  -- the row as: what is ahead of i; six cells; as many as stand from i on; the rest
  obtain ⟨x, y, hxy, hx⟩ : ∃ x y, cellsOf (l.drop i) ++ d = x ++ y ∧ x.length = 6 := ⟨(cellsOf (l.drop i) ++ d).take 6, (cellsOf (l.drop i) ++ d).drop 6, (List.take_append_drop _ _).symm, by rw [List.length_take, List.length_append]; omega⟩
  have hy : y.length = (cellsOf (l.drop i)).length := by
    have := congrArg List.length hxy
    rw [List.length_append, List.length_append] at this; omega
  have h1 : cur = (cellsOf (l.take i) ++ x) ++ y ++ r := by
    rw [hcur, List.append_assoc (cellsOf (l.take i)), hxy]; simp
  have h2 : spl cur ((i + 1) * 6) (cellsOf (l.drop i)) = (cellsOf (l.take i) ++ x) ++ cellsOf (l.drop i) ++ r := by
    rw [h1]
    exact spl_mid _ _ _ _ hy _ (by rw [List.length_append, hl1, hx]; omega)
  rw [h2, cellsOf_ins]
  have h3 := spl_mid (cellsOf (l.take i)) x (cellsOf (l.drop i) ++ r) e.cells (by rw [hx]; rfl) (i * 6) hl1.symm
  rw [show (cellsOf (l.take i) ++ x) ++ cellsOf (l.drop i) ++ r = cellsOf (l.take i) ++ x ++ (cellsOf (l.drop i) ++ r) by simp, h3]
  simp
set_option maxRecDepth 100000 in
theorem row_fresh {cur : List Value} {l : List El} {i : Nat} (e : El) (hi : i ≤ l.length) (hc : cur.take (i * 6) = cellsOf (l.take i)) (hs : (l.length + 1) * 6 ≤ cur.length) :
    spl (spl cur (i * 6) e.cells) ((i + 1) * 6) (cellsOf (l.drop i)) = cellsOf (insAt l i e) ++ cur.drop ((l.length + 1) * 6) := by
  have hl1 : (cellsOf (l.take i)).length = i * 6 := by rw [cellsOf_len, List.length_take]; congr 1; omega
  have hl2 : (cellsOf (l.drop i)).length = (l.length - i) * 6 := by rw [cellsOf_len, List.length_drop]
  obtain ⟨x, y, hxy, hx, hy⟩ : ∃ x y, cur = cellsOf (l.take i) ++ x ++ y ++ cur.drop ((l.length + 1) * 6) ∧ x.length = 6 ∧ y.length = (cellsOf (l.drop i)).length := by
    refine ⟨(cur.drop (i * 6)).take 6, ((cur.drop (i * 6)).drop 6).take ((l.length - i) * 6), ?_, ?_, ?_⟩
    · rw [← hc]
      have h1 : cur.drop ((l.length + 1) * 6) = ((cur.drop (i * 6)).drop 6).drop ((l.length - i) * 6) := by rw [List.drop_drop, List.drop_drop]; congr 1; omega
      rw [h1, List.append_assoc, List.take_append_drop, List.append_assoc, List.take_append_drop, List.take_append_drop]
    · rw [List.length_take, List.length_drop]; omega
    · rw [List.length_take, List.length_drop, List.length_drop, hl2]; omega
  generalize cur.drop ((l.length + 1) * 6) = r at hxy ⊢
  rw [hxy, cellsOf_ins]
  have h2 := spl_mid (cellsOf (l.take i)) x (y ++ r) e.cells (by rw [hx]; rfl) (i * 6) hl1.symm
  rw [show cellsOf (l.take i) ++ x ++ y ++ r = cellsOf (l.take i) ++ x ++ (y ++ r) by simp, h2]
  have h3 := spl_mid (cellsOf (l.take i) ++ e.cells) y r (cellsOf (l.drop i)) hy ((i + 1) * 6) (by rw [List.length_append, hl1]; show _ = _ + 6; omega)
  rw [show cellsOf (l.take i) ++ e.cells ++ (y ++ r) = cellsOf (l.take i) ++ e.cells ++ y ++ r by simp, h3]
set_option maxRecDepth 100000 in
/-- A row whose first cells are those of l, in a block from base on. -/
theorem OwnR.row {base g cap : Nat} {w : World} {l : List El} {cur : List Value} (hb : base ≤ g) (hg : w.heap[g]? = some (.cells cur.toArray 33 (0, 0))) (hn : l.length ≤ cap) (hc : cap ≤ maxLen) (hs : cur.length = cap * 6) (ht : cur.take (l.length * 6) = cellsOf l) :
    OwnR base w (.slice (some ⟨g, 0, none⟩) l.length cap) l :=
  ⟨cellsOf_len l, .inr ⟨g, cap, cur.toArray, rfl, hb, hg, hn, hc, by simpa using hs, by simpa using ht⟩⟩
set_option maxRecDepth 100000 in
theorem spl_len {cur cs : List Value} {o : Nat} (h : o + cs.length ≤ cur.length) : (spl cur o cs).length = cur.length := by
  unfold spl; simp only [List.length_append, List.length_take, List.length_drop]; omega
set_option maxRecDepth 100000 in
theorem cellsOf_set : ∀ {l : List El} {i j : Nat} {u : Value} {x : El} (hi : i < l.length) (_ : j < 6) (_ : x.cells = l[i].cells.set j u), (cellsOf l).set (i * 6 + j) u = cellsOf (l.set i x)
  | [], _, _, _, _, hi, _, _ => absurd hi (by simp)
  | y :: l, 0, j, u, x, hi, hj, hx => by
    show (y.cells ++ cellsOf l).set (0 * 6 + j) u = x.cells ++ cellsOf l
    rw [Nat.zero_mul, Nat.zero_add, List.set_append_left _ _ (by rw [cells_len]; exact hj), hx]
    rfl
  | y :: l, i + 1, j, u, x, hi, hj, hx => by
    show (y.cells ++ cellsOf l).set ((i + 1) * 6 + j) u = y.cells ++ cellsOf (l.set i x)
    rw [List.set_append_right _ _ (by rw [cells_len]; omega), cells_len, show (i + 1) * 6 + j - 6 = i * 6 + j by omega]
    congr 1
    exact cellsOf_set (l := l) (i := i) (by simpa using hi) hj hx
set_option maxRecDepth 100000 in
/-- One field of a record is stored in an owned row. -/
theorem OwnR.set {base g n cap i j : Nat} {w : World} {l : List El} {u : Value} {x : El} (h : OwnR base w (.slice (some ⟨g, 0, none⟩) n cap) l) (hi : i < l.length) (hj : j < 6) (hx : x.cells = l[i].cells.set j u) :
    OwnR base (w.setCell ⟨g, i * 6 + j, none⟩ u) (.slice (some ⟨g, 0, none⟩) n cap) (l.set i x) := by
  have hn : n = l.length := by
    rcases h.2 with ⟨h1, _⟩ | ⟨g', cap', cur, h1, _⟩
    · cases h1
    · injection h1
  subst hn
  have h1 := (World.ownsRow.stored h (i * 6 + j) u).1
  unfold OwnR
  rw [List.length_set, ← cellsOf_set hi hj hx]
  exact h1
set_option maxRecDepth 100000 in
theorem OwnR.cell {base g n cap i : Nat} {w : World} {l : List El} (h : OwnR base w (.slice (some ⟨g, 0, none⟩) n cap) l) (hi : i < l.length) : ElAt w g (i * 6) l[i] ∧ (∀ j, w.frozen? ⟨g, j, none⟩ = false) ∧ base ≤ g ∧ g < w.heap.size ∧ n = l.length ∧ n ≤ cap := by
  have hn : n = l.length ∧ n ≤ cap := by
    rcases h.2 with ⟨h1, _⟩ | ⟨g', cap', cur, h1, _, _, h2, _⟩
    · cases h1
    · injection h1 with h3 h4 h5
      exact ⟨h4, by omega⟩
  obtain ⟨hn, hnc⟩ := hn
  subst hn
  have key : ∀ j, j < 6 → w.cell? ⟨g, i * 6 + j, none⟩ = l[i].cells[j]? := fun j hj => by
    rw [World.ownsRow.cellAt h (i * 6 + j) (by omega), cellsOf_at l i j _ (List.getElem?_eq_getElem hi) hj]
  have hlt := h.lt g rfl
  exact ⟨⟨key 0 (by omega), key 1 (by omega), key 2 (by omega), key 3 (by omega), key 4 (by omega), key 5 (by omega)⟩, fun j => World.ownsRow.frozenAt h j, hlt.1, hlt.2, rfl, hnc⟩
set_option maxRecDepth 100000 in
theorem OwnR.some {base : Nat} {w : World} {v : Value} {l : List El} (h : OwnR base w v l) (hl : 0 < l.length) : ∃ g cap, v = .slice (some ⟨g, 0, none⟩) l.length cap := by
  rcases h.2 with ⟨_, h1⟩ | ⟨g', cap', cur, h1, _⟩
  · omega
  · exact ⟨g', cap', h1⟩
set_option maxRecDepth 100000 in
theorem OwnR.reads {base n c : Nat} {A : Option Addr} {w : World} {l : List El} (h : OwnR base w (.slice A n c) l) (hw : ∀ e ∈ l, e.wf) : n = l.length ∧ Lies w A l := by
  obtain ⟨A', c', hv, _, _, hL⟩ := h.lies hw
  injection hv with h1 h2 h3
  subst h1
  exact ⟨h2, hL⟩
set_option maxRecDepth 100000 in
theorem Good.wf {l : List El} (h : Good l) : ∀ e ∈ l, e.wf := fun e he => by
  have := mem_bounds h he
  unfold El.wf; omega
end Go.Proofs.Ytccfcloekjogkaa
