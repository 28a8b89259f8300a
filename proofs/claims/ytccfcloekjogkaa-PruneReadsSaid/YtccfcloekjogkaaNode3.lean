/- node.records. -/
import Derived.Test.YtccfcloekjogkaaNode2
import Derived.Laws.MakeOwn
namespace Go.Proofs.Ytccfcloekjogkaa
open Go.RowKit

def nilE : El := ⟨0, 0, 0, 0, 0, { data := #[] }⟩
def cellsL (l : List El) : List Value := l.flatMap El.cells
set_option maxRecDepth 100000 in
theorem cellsL_length (l : List El) : (cellsL l).length = l.length * 6 := by
  induction l with
  | nil => rfl
  | cons a l ih => simp [cellsL] at ih ⊢; rw [ih]; simp [El.cells]; omega
set_option maxRecDepth 100000 in
theorem cellsL_get (l : List El) : ∀ (i j : Nat), j < 6 → (cellsL l)[i * 6 + j]? = (l[i]?).bind fun e => e.cells[j]? := by
  induction l with
  | nil => intro i j _; simp [cellsL]
  | cons a l ih =>
    intro i j hj
    have e : cellsL (a :: l) = a.cells ++ cellsL l := by simp [cellsL]
    have h6 : a.cells.length = 6 := rfl
    rw [e]
    cases i with
    | zero => rw [List.getElem?_append_left (by omega)]; simp
    | succ i =>
      rw [List.getElem?_append_right (by omega), h6, show (i + 1) * 6 + j - 6 = i * 6 + j from by omega, ih i j hj]
      simp
/-- The block g holds just the records l. -/
def RowE (w : World) (g : Nat) (l : List El) : Prop := w.heap[g]? = some (.cells (cellsL l).toArray 33 (0, 0))
set_option maxRecDepth 100000 in
theorem RowE.lt {w : World} {g : Nat} {l : List El} (h : RowE w g l) : g < w.heap.size := (Array.getElem?_eq_some_iff.1 h).1
set_option maxRecDepth 100000 in
theorem RowE.calm {w w' : World} {g : Nat} {l : List El} (h : RowE w g l) (hb : Calm w w') : RowE w' g l := (hb.block h.lt).trans h
set_option maxRecDepth 100000 in
theorem RowE.cell {w : World} {g : Nat} {l : List El} (h : RowE w g l) {i j : Nat} (hj : j < 6) : w.cell? ⟨g, i * 6 + j, none⟩ = (l[i]?).bind fun e => e.cells[j]? := by
  rw [cell_of_row _ _ _ _ _ _ h, List.getElem?_toArray, cellsL_get _ _ _ hj]
set_option maxRecDepth 100000 in
theorem RowE.free {w : World} {g : Nat} {l : List El} (h : RowE w g l) (o : Nat) : w.frozen? ⟨g, o, none⟩ = false := frozen_of_row _ _ _ _ _ h
set_option maxRecDepth 100000 in
theorem RowE.lies {w : World} {g : Nat} {l : List El} (h : RowE w g l) (hw : ∀ e ∈ l, e.wf) : Lies w (some ⟨g, 0, none⟩) l := by
  refine ⟨hw, fun _ => ⟨g, 0, rfl, h.lt, fun k e he => ?_⟩⟩
  have c := fun j (hj : j < 6) => h.cell (i := k) hj
  simp only [he, Option.bind_some] at c
  refine ⟨?_, ?_, ?_, ?_, ?_, ?_⟩
  · rw [Nat.zero_add]; exact c 0 (by omega)
  · rw [Nat.zero_add]; exact c 1 (by omega)
  · rw [Nat.zero_add]; exact c 2 (by omega)
  · rw [Nat.zero_add]; exact c 3 (by omega)
  · rw [Nat.zero_add]; exact c 4 (by omega)
  · rw [Nat.zero_add]; exact c 5 (by omega)
set_option maxRecDepth 100000 in
theorem cellsL_append (a b : List El) : cellsL (a ++ b) = cellsL a ++ cellsL b := by simp [cellsL]
set_option maxRecDepth 100000 in
theorem set_sixth (X Y : List Value) (n i : Nat) (hX : X.length = n) (v : Value) : (X ++ Y).set (n + i) v = X ++ Y.set i v := by
  rw [List.set_append_right _ _ (by omega), hX, Nat.add_sub_cancel_left]
set_option maxRecDepth 100000 in
theorem six_set {l : List El} {j : Nat} (hj : j < l.length) (e : El) :
    ((((((cellsL l).set (j * 6) (.int .i64 e.p)).set (j * 6 + 1) (.int .i64 e.o)).set (j * 6 + 2) (.int .i64 e.f)).set (j * 6 + 3) (.int .i64 e.m)).set (j * 6 + 4) (.int .i64 e.g)).set (j * 6 + 5) (.string e.s) = cellsL (l.set j e) := by
  have hl : cellsL l = cellsL (l.take j) ++ (l[j].cells ++ cellsL (l.drop (j + 1))) := by
    have h1 : l = l.take j ++ l[j] :: l.drop (j + 1) := by rw [← List.drop_eq_getElem_cons hj, List.take_append_drop]
    calc cellsL l = cellsL (l.take j ++ l[j] :: l.drop (j + 1)) := congrArg cellsL h1
      _ = _ := by rw [cellsL_append, show cellsL (l[j] :: l.drop (j + 1)) = l[j].cells ++ cellsL (l.drop (j + 1)) from rfl]
  have hs : cellsL (l.set j e) = cellsL (l.take j) ++ (e.cells ++ cellsL (l.drop (j + 1))) := by
    rw [List.set_eq_take_append_cons_drop, if_pos hj, cellsL_append]; simp [cellsL]
  have hX : (cellsL (l.take j)).length = j * 6 := by rw [cellsL_length, List.length_take]; omega
  rw [hl, hs]
  generalize cellsL (l.take j) = X at hX
  generalize cellsL (l.drop (j + 1)) = Y
  rw [show (X ++ (l[j].cells ++ Y)).set (j * 6) (.int .i64 e.p) = X ++ (l[j].cells ++ Y).set 0 (.int .i64 e.p) from set_sixth X _ _ 0 hX _, set_sixth _ _ _ 1 hX, set_sixth _ _ _ 2 hX, set_sixth _ _ _ 3 hX, set_sixth _ _ _ 4 hX, set_sixth _ _ _ 5 hX]
  rfl
set_option maxRecDepth 100000 in
/-- The record at j stored anew. -/
theorem RowE.six {w : World} {g : Nat} {l : List El} (h : RowE w g l) {j : Nat} (hj : j < l.length) (e : El) :
    RowE ((((((w.setCell ⟨g, j * 6, none⟩ (.int .i64 e.p)).setCell ⟨g, j * 6 + 1, none⟩ (.int .i64 e.o)).setCell ⟨g, j * 6 + 2, none⟩ (.int .i64 e.f)).setCell ⟨g, j * 6 + 3, none⟩ (.int .i64 e.m)).setCell ⟨g, j * 6 + 4, none⟩ (.int .i64 e.g)).setCell ⟨g, j * 6 + 5, none⟩ (.string e.s)) g (l.set j e) := by
  have h1 := heap_setCell_same w g (j * 6) _ _ (.int .i64 e.p) h
  have h2 := heap_setCell_same _ g (j * 6 + 1) _ _ (.int .i64 e.o) h1
  have h3 := heap_setCell_same _ g (j * 6 + 2) _ _ (.int .i64 e.f) h2
  have h4 := heap_setCell_same _ g (j * 6 + 3) _ _ (.int .i64 e.m) h3
  have h5 := heap_setCell_same _ g (j * 6 + 4) _ _ (.int .i64 e.g) h4
  have h6 := heap_setCell_same _ g (j * 6 + 5) _ _ (.string e.s) h5
  simp only [List.setIfInBounds_toArray, six_set hj e] at h6
  exact h6
set_option maxRecDepth 100000 in
theorem infoElem6 : (Try.prog.info? 33).map (fun i => (i.zero, i.size, i.bytes)) = some (some (.agg #[.int .i64 0, .int .i64 0, .int .i64 0, .int .i64 0, .int .i64 0, .string { data := #[] }]), 6, 56) := by kernel_rfl
set_option maxRecDepth 100000 in
/-- make([]api.Elem, k). -/
theorem makeElems (w : World) (k : Nat) (hk : k ≤ 400) : (Instr.makeSlice 22 (.int .i64 (k : Int)) (.int .i64 (k : Int))).run Try.prog w =
    .ok (.slice (some ⟨w.heap.size, 0, none⟩) k k) (w.alloc (.cells (cellsL (List.replicate k nilE)).toArray 33)) := by
  obtain ⟨i, hi, hz, h1, h2⟩ : ∃ i, Try.prog.info? 33 = some i ∧ i.zero = some (.agg #[.int .i64 0, .int .i64 0, .int .i64 0, .int .i64 0, .int .i64 0, .string { data := #[] }]) ∧ i.size = 6 ∧ i.bytes = 56 := by
    have h := infoElem6
    match hi : Try.prog.info? 33, h with
    | some i, h =>
      simp only [Option.map_some, Option.some.injEq, Prod.mk.injEq] at h
      exact ⟨i, rfl, h.1, h.2.1, h.2.2⟩
  rw [run_make w 22 33 i _ Try.underlying22 hi hz .i64 .i64 k k (by omega) (by omega) (by rw [h2]; omega) (by omega), h1]
  have e : madeCells (Value.agg #[.int .i64 0, .int .i64 0, .int .i64 0, .int .i64 0, .int .i64 0, .string { data := #[] }]).cells (((k : Int)).toNat * 6) = (cellsL (List.replicate k nilE)).toArray := by
    rw [Int.toNat_natCast]
    apply Array.toList_inj.1
    apply List.ext_getElem?
    intro n
    rw [← Nat.div_add_mod' n 6, List.toList_toArray, cellsL_get _ _ _ (Nat.mod_lt _ (by omega)), List.getElem?_replicate]
    simp only [madeCells, Array.toList_map, Array.toList_range, List.getElem?_map, Value.cells]
    by_cases h : n / 6 < k
    · rw [if_pos h, List.getElem?_range (by omega)]
      have h6 : (n / 6 * 6 + n % 6) % 6 = n % 6 := by omega
      have h7 := Nat.mod_lt n (show 0 < 6 by omega)
      simp only [Option.map_some, Option.bind_some, nilE, El.cells]
      rw [show (#[Value.int IntKind.i64 0, Value.int IntKind.i64 0, Value.int IntKind.i64 0, Value.int IntKind.i64 0, Value.int IntKind.i64 0, Value.string { data := #[] }] : Array Value).size = 6 from rfl, h6]
      generalize n % 6 = j at h7
      match j, h7 with
      | 0, _ => rfl
      | 1, _ => rfl
      | 2, _ => rfl
      | 3, _ => rfl
      | 4, _ => rfl
      | 5, _ => rfl
    · rw [if_neg h, List.getElem?_eq_none (by simp; omega)]; rfl
  rw [e]; rfl

/-- The records that are laid after k rounds. -/
def laidL (S : List Sp) (k : Nat) : List El := (S.take k).map Sp.el ++ List.replicate (S.length - k) nilE
set_option maxRecDepth 100000 in
theorem laidL_length {S : List Sp} {k : Nat} (h : k ≤ S.length) : (laidL S k).length = S.length := by simp [laidL]; omega
set_option maxRecDepth 100000 in
theorem laidL_succ {S : List Sp} {k : Nat} {s : Sp} (h : S[k]? = some s) : (laidL S k).set k s.el = laidL S (k + 1) := by
  have hk : k < S.length := (List.getElem?_eq_some_iff.1 h).1
  have hs : S[k] = s := (List.getElem?_eq_some_iff.1 h).2
  have hl : ((S.take k).map Sp.el).length = k := by simp; omega
  unfold laidL
  rw [List.set_append_right _ _ (by omega), hl, Nat.sub_self, show S.length - k = (S.length - (k + 1)) + 1 from by omega, List.replicate_succ, List.set_cons_zero, List.take_succ_eq_append_getElem hk, List.map_append, List.append_assoc, hs]
  rfl

set_option maxRecDepth 100000 in
set_option maxHeartbeats 4000000 in
theorem records_any (A : Option Addr) (c : Nat) (S : List Sp) (w : World) (hn : S.length ≤ 400) (hL : LiesS w A S) :
    Calls Try.prog 128 #[.slice A S.length c] w fun e w' => ∃ g, e = .returned (.slice (some ⟨g, 0, none⟩) S.length S.length) ∧ Lies w' (some ⟨g, 0, none⟩) (S.map Sp.el) ∧ Calm w w' := by
  have hmk := makeElems w S.length hn
  have hwf : ∀ e ∈ S.map Sp.el, e.wf := fun e he => by
    obtain ⟨x, hx, rfl⟩ := List.mem_map.1 he
    exact hL.1 x hx
  go_enter Try.func128, Try.ntmps128
  go_wp2_with fail
  go_loopw [11] (fun i wr => ∃ k : Nat, k ≤ S.length ∧ i = .int .i64 k ∧ Calm w wr ∧ RowE wr w.heap.size (laidL S k)) (fun i _ => S.length - (intOf i).toNat)
  case atStart => exact ⟨0, Nat.zero_le _, rfl, (Calm.refl _).alloc _, by unfold laidL RowE; simpa using heap_new w (.cells (cellsL (List.replicate S.length nilE)).toArray 33)⟩
  case round =>
    obtain ⟨k, hk, rfl, hu, hR⟩ := hrel
    by_cases hlt : k < S.length
    rotate_left
    · obtain rfl : k = S.length := by omega
      rw [laidL, List.take_of_length_le (Nat.le_refl _), Nat.sub_self, List.replicate_zero, List.append_nil] at hR
      go_wp2_with fail
      go_ret
      exact ⟨_, rfl, hR.lies hwf, hu⟩
    obtain ⟨b, q, p, o, f, m, rfl, hb, HE, hm, c0, c1, c2, c3⟩ := (hL.calm hu).get hlt
    go_upto_region 5 with fail
    have hx := heap_new wr (.cells #[.int .i64 p, .int .i64 o, .int .i64 f, .int .i64 m] 47)
    have hv := (Calm.refl wr).alloc (.cells #[.int .i64 p, .int .i64 o, .int .i64 f, .int .i64 m] 47)
    generalize wr.alloc (.cells #[.int .i64 p, .int .i64 o, .int .i64 f, .int .i64 m] 47) = wz at hx hv ⊢
    obtain ⟨x0, x1, x2, x3, hxs⟩ := row4 hx
    have hRz := hR.calm hv
    have hlen : k < (laidL S k).length := by rw [laidL_length (by omega)]; exact hlt
    have hC := fun j (hj : j < 6) => hRz.cell (i := k) hj
    simp only [List.getElem?_eq_getElem hlen, Option.bind_some, El.cells] at hC
    have d0 := hC 0 (by omega)
    have d1 := hC 1 (by omega)
    have d2 := hC 2 (by omega)
    have d3 := hC 3 (by omega)
    have d4 := hC 4 (by omega)
    have d5 := hC 5 (by omega)
    simp only [Nat.add_zero, List.getElem?_cons_zero, List.getElem?_cons_succ] at d0 d1 d2 d3 d4 d5
    have f0 := hRz.free (k * 6)
    have f1 := hRz.free (k * 6 + 1)
    have f2 := hRz.free (k * 6 + 2)
    have f3 := hRz.free (k * 6 + 3)
    have f4 := hRz.free (k * 6 + 4)
    have f5 := hRz.free (k * 6 + 5)
    have hR2 := hRz.six hlen (Sp.el ⟨p, o, f, m⟩)
    rw [laidL_succ HE.out] at hR2
    have hu2 := ((((((hu.call hv).setCell (p := ⟨w.heap.size, k * 6, none⟩) (Nat.le_refl _) (.int .i64 p)).setCell (p := ⟨w.heap.size, k * 6 + 1, none⟩) (Nat.le_refl _) (.int .i64 o)).setCell (p := ⟨w.heap.size, k * 6 + 2, none⟩) (Nat.le_refl _) (.int .i64 f)).setCell (p := ⟨w.heap.size, k * 6 + 3, none⟩) (Nat.le_refl _) (.int .i64 m)).setCell (p := ⟨w.heap.size, k * 6 + 4, none⟩) (Nat.le_refl _) (.int .i64 0)).setCell (p := ⟨w.heap.size, k * 6 + 5, none⟩) (Nat.le_refl _) (.string { data := #[] })
    generalize (laidL S k)[k] = z at d0 d1 d2 d3 d4 d5
    clear hC hRz hv hx hR
    have H2 := Lib.hid hR2
    have U2 := Lib.hid hu2
    clear hR2 hu2
    go_wp2_with fail
    go_roundw
    case rel => exact ⟨k + 1, by omega, by go_num, U2.out, H2.out⟩
    case measure => simp [intOf]; omega
end Go.Proofs.Ytccfcloekjogkaa
