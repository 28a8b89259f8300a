/- Texts of one kind in one file. -/
import Derived.Laws.MakeOwn
import Derived.Lib.SliceRun
import Derived.Lib.Hide
import Derived.Maps.AppendAt
import Derived.Laws.BitsAll
import Derived.IntWalk
import Derived.Laws.BytesArg
import Derived.Test.YtoklknjjkchgmaaPkPageApart1
set_option maxRecDepth 100000
namespace Go.Proofs.Ytoklknjjkchgmaa
open Go.RowKit
def nilE : El := ⟨0, 0, 0, 0, 0, { data := #[] }⟩
def cellsL (l : List El) : List Value := l.flatMap El.cells
theorem cellsL_length (l : List El) : (cellsL l).length = l.length * 6 := by
 induction l with
 |nil => rfl
 |cons a l ih => simp [cellsL] at ih ⊢; rw [ih]; simp [El.cells]; omega
theorem cellsL_get (l : List El) : ∀ (i j : Nat), j < 6 → (cellsL l)[i * 6 + j]? = (l[i]?).bind fun e => e.cells[j]? := by
 induction l with
 |nil => intro i j _; simp [cellsL]
 |cons a l ih =>
  intro i j hj
  have e : cellsL (a :: l) = a.cells ++ cellsL l := by simp [cellsL]
  have h6 : a.cells.length = 6 := rfl
  rw [e]
  cases i with
  |zero => rw [List.getElem?_append_left (by omega)]; simp
  |succ i =>
   rw [List.getElem?_append_right (by omega), h6, show (i + 1) * 6 + j - 6 = i * 6 + j from by omega, ih i j hj]
   simp
def RowE (w : World) (g : Nat) (l : List El) : Prop := w.heap[g]? = some (.cells (cellsL l).toArray 25 (0, 0))
theorem RowE.lt {w : World} {g : Nat} {l : List El} (h : RowE w g l) : g < w.heap.size := (Array.getElem?_eq_some_iff.1 h).1
theorem RowE.calm {w w' : World} {g : Nat} {l : List El} (h : RowE w g l) (hb : Calm w w') : RowE w' g l := (hb.block h.lt).trans h
theorem RowE.cell {w : World} {g : Nat} {l : List El} (h : RowE w g l) {i j : Nat} (hj : j < 6) : w.cell? ⟨g, i * 6 + j, none⟩ = (l[i]?).bind fun e => e.cells[j]? := by
 rw [cell_of_row _ _ _ _ _ _ h, List.getElem?_toArray, cellsL_get _ _ _ hj]
theorem RowE.free {w : World} {g : Nat} {l : List El} (h : RowE w g l) (o : Nat) : w.frozen? ⟨g, o, none⟩ = false := frozen_of_row _ _ _ _ _ h
theorem RowE.lies {w : World} {g : Nat} {l : List El} (h : RowE w g l) (hw : ∀ e ∈ l, e.wf) : Lies w (some ⟨g, 0, none⟩) l := by
 refine ⟨hw, fun _ => ⟨g, 0, rfl, h.lt, fun k e he => ?_⟩⟩
 have c := fun j (hj : j < 6) => h.cell (i := k) hj
 simp only [he, Option.bind_some] at c
 refine ⟨?_, ?_, ?_, ?_, ?_, ?_⟩
 ·rw [Nat.zero_add]; exact c 0 (by omega)
 ·rw [Nat.zero_add]; exact c 1 (by omega)
 ·rw [Nat.zero_add]; exact c 2 (by omega)
 ·rw [Nat.zero_add]; exact c 3 (by omega)
 ·rw [Nat.zero_add]; exact c 4 (by omega)
 ·rw [Nat.zero_add]; exact c 5 (by omega)
theorem cellsL_append (a b : List El) : cellsL (a ++ b) = cellsL a ++ cellsL b := by simp [cellsL]
theorem set_sixth (X Y : List Value) (n i : Nat) (hX : X.length = n) (v : Value) : (X ++ Y).set (n + i) v = X ++ Y.set i v := by
 rw [List.set_append_right _ _ (by omega), hX, Nat.add_sub_cancel_left]
theorem six_set {l : List El} {j : Nat} (hj : j < l.length) (e : El) :
    ((((((cellsL l).set (j * 6) (.int .i64 e.p)).set (j * 6 + 1) (.int .i64 e.o)).set (j * 6 + 2) (.int .i64 e.f)).set (j * 6 + 3) (.int .i64 e.m)).set (j * 6 + 4) (.int .i64 e.g)).set (j * 6 + 5) (.string e.s) = cellsL (l.set j e) := by
  have hl : cellsL l = cellsL (l.take j) ++ (l[j].cells ++ cellsL (l.drop (j + 1))) := by
    have h1 : l = l.take j ++ l[j] :: l.drop (j + 1) := by rw [← List.drop_eq_getElem_cons hj, List.take_append_drop]
    calc cellsL l = cellsL (l.take j ++ l[j] :: l.drop (j + 1)) := congrArg cellsL h1
      _ = _ := by rw [cellsL_append, show cellsL (l[j] :: l.drop (j + 1)) = l[j].cells ++ cellsL (l.drop (j + 1)) from rfl]
  have hs : cellsL (l.set j e) = cellsL (l.take j) ++ (e.cells ++ cellsL (l.drop (j + 1))) := by
    rw [List.set_eq_take_append_cons_drop, if_pos hj, cellsL_append]; simp [cellsL]
  have hX : (cellsL (l.take j)).length = j * 6 := by rw [cellsL_length, List.length_take]; omega
  rw [hl, hs]
  generalize cellsL (l.take j) = X at hX
  generalize cellsL (l.drop (j + 1)) = Y
  rw [show (X ++ (l[j].cells ++ Y)).set (j * 6) (.int .i64 e.p) = X ++ (l[j].cells ++ Y).set 0 (.int .i64 e.p) from set_sixth X _ _ 0 hX _, set_sixth _ _ _ 1 hX, set_sixth _ _ _ 2 hX, set_sixth _ _ _ 3 hX, set_sixth _ _ _ 4 hX, set_sixth _ _ _ 5 hX]
  rfl
/-- The record at j stored anew. -/
theorem RowE.six {w : World} {g : Nat} {l : List El} (h : RowE w g l) {j : Nat} (hj : j < l.length) (e : El) :
    RowE ((((((w.setCell ⟨g, j * 6, none⟩ (.int .i64 e.p)).setCell ⟨g, j * 6 + 1, none⟩ (.int .i64 e.o)).setCell ⟨g, j * 6 + 2, none⟩ (.int .i64 e.f)).setCell ⟨g, j * 6 + 3, none⟩ (.int .i64 e.m)).setCell ⟨g, j * 6 + 4, none⟩ (.int .i64 e.g)).setCell ⟨g, j * 6 + 5, none⟩ (.string e.s)) g (l.set j e) := by
  have h1 := heap_setCell_same w g (j * 6) _ _ (.int .i64 e.p) h
  have h2 := heap_setCell_same _ g (j * 6 + 1) _ _ (.int .i64 e.o) h1
  have h3 := heap_setCell_same _ g (j * 6 + 2) _ _ (.int .i64 e.f) h2
  have h4 := heap_setCell_same _ g (j * 6 + 3) _ _ (.int .i64 e.m) h3
  have h5 := heap_setCell_same _ g (j * 6 + 4) _ _ (.int .i64 e.g) h4
  have h6 := heap_setCell_same _ g (j * 6 + 5) _ _ (.string e.s) h5
  simp only [List.setIfInBounds_toArray, six_set hj e] at h6
  exact h6
theorem infoElem6 : (Try.prog.info? 25).map (fun i => (i.zero, i.size, i.bytes)) = some (some (.agg #[.int .i64 0, .int .i64 0, .int .i64 0, .int .i64 0, .int .i64 0, .string { data := #[] }]), 6, 56) := by kernel_rfl
/-- make([]api.Elem, k). -/
theorem makeElems (w : World) (k : Nat) (hk : k ≤ 400) : (Instr.makeSlice 33 (.int .i64 (k : Int)) (.int .i64 (k : Int))).run Try.prog w =
    .ok (.slice (some ⟨w.heap.size, 0, none⟩) k k) (w.alloc (.cells (cellsL (List.replicate k nilE)).toArray 25)) := by
  obtain ⟨i, hi, hz, h1, h2⟩ : ∃ i, Try.prog.info? 25 = some i ∧ i.zero = some (.agg #[.int .i64 0, .int .i64 0, .int .i64 0, .int .i64 0, .int .i64 0, .string { data := #[] }]) ∧ i.size = 6 ∧ i.bytes = 56 := by
    have h := infoElem6
    match hi : Try.prog.info? 25, h with
    | some i, h =>
      simp only [Option.map_some, Option.some.injEq, Prod.mk.injEq] at h
      exact ⟨i, rfl, h.1, h.2.1, h.2.2⟩
  rw [run_make w 33 25 i _ Try.underlying33 hi hz .i64 .i64 k k (by omega) (by omega) (by rw [h2]; omega) (by omega), h1]
  have e : madeCells (Value.agg #[.int .i64 0, .int .i64 0, .int .i64 0, .int .i64 0, .int .i64 0, .string { data := #[] }]).cells (((k : Int)).toNat * 6) = (cellsL (List.replicate k nilE)).toArray := by
    rw [Int.toNat_natCast]
    apply Array.toList_inj.1
    apply List.ext_getElem?
    intro n
    rw [← Nat.div_add_mod' n 6, List.toList_toArray, cellsL_get _ _ _ (Nat.mod_lt _ (by omega)), List.getElem?_replicate]
    simp only [madeCells, Array.toList_map, Array.toList_range, List.getElem?_map, Value.cells]
    by_cases h : n / 6 < k
    · rw [if_pos h, List.getElem?_range (by omega)]
      have h6 : (n / 6 * 6 + n % 6) % 6 = n % 6 := by omega
      have h7 := Nat.mod_lt n (show 0 < 6 by omega)
      simp only [Option.map_some, Option.bind_some, nilE, El.cells]
      rw [show (#[Value.int IntKind.i64 0, Value.int IntKind.i64 0, Value.int IntKind.i64 0, Value.int IntKind.i64 0, Value.int IntKind.i64 0, Value.string { data := #[] }] : Array Value).size = 6 from rfl, h6]
      generalize n % 6 = j at h7
      match j, h7 with
      | 0, _ => rfl
      | 1, _ => rfl
      | 2, _ => rfl
      | 3, _ => rfl
      | 4, _ => rfl
      | 5, _ => rfl
    · rw [if_neg h, List.getElem?_eq_none (by simp; omega)]; rfl
  rw [e]; rfl
def laidL (S : List Sp) (k : Nat) : List El := (S.take k).map Sp.el ++ List.replicate (S.length - k) nilE
theorem laidL_length {S : List Sp} {k : Nat} (h : k ≤ S.length) : (laidL S k).length = S.length := by simp [laidL]; omega
theorem laidL_succ {S : List Sp} {k : Nat} {s : Sp} (h : S[k]? = some s) : (laidL S k).set k s.el = laidL S (k + 1) := by
 have hk : k < S.length := (List.getElem?_eq_some_iff.1 h).1
 have hs : S[k] = s := (List.getElem?_eq_some_iff.1 h).2
 have hl : ((S.take k).map Sp.el).length = k := by simp; omega
 unfold laidL
 rw [List.set_append_right _ _ (by omega), hl, Nat.sub_self, show S.length - k = (S.length - (k + 1)) + 1 from by omega, List.replicate_succ, List.set_cons_zero, List.take_succ_eq_append_getElem hk, List.map_append, List.append_assoc, hs]
 rfl
set_option maxHeartbeats 4000000 in
theorem records_any (A : Option Addr) (c : Nat) (S : List Sp) (w : World) (hn : S.length ≤ 400) (hL : LiesS w A S) :
    Calls Try.prog 77 #[.slice A S.length c] w fun e w' => ∃ g, e = .returned (.slice (some ⟨g, 0, none⟩) S.length S.length) ∧ Lies w' (some ⟨g, 0, none⟩) (S.map Sp.el) ∧ Calm w w' := by
  have hmk := makeElems w S.length hn
  have hwf : ∀ e ∈ S.map Sp.el, e.wf := fun e he => by
    obtain ⟨x, hx, rfl⟩ := List.mem_map.1 he
    exact hL.1 x hx
  go_enter Try.func77, Try.ntmps77
  go_wp2_with fail
  go_loopw [11] (fun i wr => ∃ k : Nat, k ≤ S.length ∧ i = .int .i64 k ∧ Calm w wr ∧ RowE wr w.heap.size (laidL S k)) (fun i _ => S.length - (intOf i).toNat)
  case atStart => exact ⟨0, Nat.zero_le _, rfl, (Calm.refl _).alloc _, by unfold laidL RowE; simpa using heap_new w (.cells (cellsL (List.replicate S.length nilE)).toArray 25)⟩
  case round =>
    obtain ⟨k, hk, rfl, hu, hR⟩ := hrel
    by_cases hlt : k < S.length
    rotate_left
    · obtain rfl : k = S.length := by omega
      rw [laidL, List.take_of_length_le (Nat.le_refl _), Nat.sub_self, List.replicate_zero, List.append_nil] at hR
      go_wp2_with fail
      go_ret
      exact ⟨_, rfl, hR.lies hwf, hu⟩
    obtain ⟨b, q, p, o, f, m, rfl, hb, HE, hm, c0, c1, c2, c3⟩ := (hL.calm hu).get hlt
    go_upto_region 5 with fail
    have hx := heap_new wr (.cells #[.int .i64 p, .int .i64 o, .int .i64 f, .int .i64 m] 45)
    have hv := (Calm.refl wr).alloc (.cells #[.int .i64 p, .int .i64 o, .int .i64 f, .int .i64 m] 45)
    generalize wr.alloc (.cells #[.int .i64 p, .int .i64 o, .int .i64 f, .int .i64 m] 45) = wz at hx hv ⊢
    obtain ⟨x0, x1, x2, x3, hxs⟩ := row4 hx
    have hRz := hR.calm hv
    have hlen : k < (laidL S k).length := by rw [laidL_length (by omega)]; exact hlt
    have hC := fun j (hj : j < 6) => hRz.cell (i := k) hj
    simp only [List.getElem?_eq_getElem hlen, Option.bind_some, El.cells] at hC
    have d0 := hC 0 (by omega)
    have d1 := hC 1 (by omega)
    have d2 := hC 2 (by omega)
    have d3 := hC 3 (by omega)
    have d4 := hC 4 (by omega)
    have d5 := hC 5 (by omega)
    simp only [Nat.add_zero, List.getElem?_cons_zero, List.getElem?_cons_succ] at d0 d1 d2 d3 d4 d5
    have f0 := hRz.free (k * 6)
    have f1 := hRz.free (k * 6 + 1)
    have f2 := hRz.free (k * 6 + 2)
    have f3 := hRz.free (k * 6 + 3)
    have f4 := hRz.free (k * 6 + 4)
    have f5 := hRz.free (k * 6 + 5)
    have hR2 := hRz.six hlen (Sp.el ⟨p, o, f, m⟩)
    rw [laidL_succ HE.out] at hR2
    have hu2 := ((((((hu.call hv).setCell (p := ⟨w.heap.size, k * 6, none⟩) (Nat.le_refl _) (.int .i64 p)).setCell (p := ⟨w.heap.size, k * 6 + 1, none⟩) (Nat.le_refl _) (.int .i64 o)).setCell (p := ⟨w.heap.size, k * 6 + 2, none⟩) (Nat.le_refl _) (.int .i64 f)).setCell (p := ⟨w.heap.size, k * 6 + 3, none⟩) (Nat.le_refl _) (.int .i64 m)).setCell (p := ⟨w.heap.size, k * 6 + 4, none⟩) (Nat.le_refl _) (.int .i64 0)).setCell (p := ⟨w.heap.size, k * 6 + 5, none⟩) (Nat.le_refl _) (.string { data := #[] })
    generalize (laidL S k)[k] = z at d0 d1 d2 d3 d4 d5
    clear hC hRz hv hx hR
    have H2 := Lib.hid hR2
    have U2 := Lib.hid hu2
    clear hR2 hu2
    go_wp2_with fail
    go_roundw
    case rel => exact ⟨k + 1, by omega, by go_num, U2.out, H2.out⟩
    case measure => simp [intOf]; omega
open Go.RowKit
set_option maxHeartbeats 4000000 in
theorem checkLeaf_any (kd : Int) (A1 A2 A3 A4 : Option Addr) (c1 c2 c3 c4 : Nat) (E : List El) (K : List Int) (S : List Sp) (T : List Int) (w : World) (h : NdAt w A1 A2 A3 A4 E K S T) :
    Calls Try.prog 63 #[.agg #[.int .i64 kd, .slice A1 E.length c1, .slice A2 K.length c2, .slice A3 S.length c3, .slice A4 T.length c4]] w fun e w' => e = .returned (.int .i64 (leafErr E K S T)) ∧ Calm w w' := by
  have cH := fun u => hasKids_any kd A1 A2 A3 A4 c1 c2 c3 c4 E K S T u h.nk h.ns h.nt
  have hx := heap_new w (.cells #[.int .i64 kd, .slice A1 E.length c1, .slice A2 K.length c2, .slice A3 S.length c3, .slice A4 T.length c4] 63)
  have hu := (Calm.refl w).alloc (.cells #[.int .i64 kd, .slice A1 E.length c1, .slice A2 K.length c2, .slice A3 S.length c3, .slice A4 T.length c4] 63)
  have hne := h.ne
  by_cases hB : 0 < K.length ∨ 0 < S.length ∨ 0 < T.length
  · have hG : Hid (3 = leafErr E K S T) := (if_pos hB).symm
    rw [decide_eq_true hB] at cH
    clear hB
    go_enter Try.func63, Try.ntmps63
    go_wp2_with (go_at_call 75; (with_reducible refine (cH _).mono ?_); rintro e w1 ⟨rfl, hb1⟩; replace hu := hu.call hb1; clear hb1)
    go_ret
    exact ⟨ret_int hG.out, hu⟩
  rw [decide_eq_false hB] at cH
  by_cases h8 : 8 < E.length
  · have hG : Hid (2 = leafErr E K S T) := by show _ = _; unfold leafErr; rw [if_neg hB, if_pos h8]
    have h8' : (8 : Int) < E.length := by omega
    clear hB h8
    go_enter Try.func63, Try.ntmps63
    go_wp2_with (go_at_call 75; (with_reducible refine (cH _).mono ?_); rintro e w1 ⟨rfl, hb1⟩; replace hu := hu.call hb1; replace hx := (hb1.block (row5 hx).2.2.2.2.2).trans hx; clear hb1; obtain ⟨x0, x1, x2, x3, x4, hxs⟩ := row5 hx)
    go_ret
    exact ⟨ret_int hG.out, hu⟩
  have hG : Hid (elsErr E = leafErr E K S T) := by show _ = _; unfold leafErr; rw [if_neg hB, if_neg h8]
  have h8' : (E.length : Int) ≤ 8 := by omega
  have hL : Hid (Lies w A1 E) := h.e
  clear hB h8
  go_enter Try.func63, Try.ntmps63
  go_wp2_with (first
    | (go_at_call 75; (with_reducible refine (cH _).mono ?_); rintro e w1 ⟨rfl, hb1⟩; replace hu := hu.call hb1; replace hx := (hb1.block (row5 hx).2.2.2.2.2).trans hx; clear hb1; obtain ⟨x0, x1, x2, x3, x4, hxs⟩ := row5 hx)
    | (go_at_call 76; refine (checkElems_any _ _ E _ hne (hL.out.calm hu)).mono ?_; rintro e w1 ⟨rfl, hb1⟩; replace hu := hu.call hb1; clear hb1))
  go_ret
  exact ⟨ret_int hG.out, hu⟩
open Go.RowKit
set_option maxHeartbeats 4000000 in
theorem checkInner_any (kd : Int) (A1 A2 A3 A4 : Option Addr) (c1 c2 c3 c4 : Nat) (E : List El) (K : List Int) (S : List Sp) (T : List Int) (w : World) (h : NdAt w A1 A2 A3 A4 E K S T) :
    Calls Try.prog 64 #[.agg #[.int .i64 kd, .slice A1 E.length c1, .slice A2 K.length c2, .slice A3 S.length c3, .slice A4 T.length c4]] w fun e w' => e = .returned (.int .i64 (innerErr E K S T)) ∧ Calm w w' := by
  have hx := heap_new w (.cells #[.int .i64 kd, .slice A1 E.length c1, .slice A2 K.length c2, .slice A3 S.length c3, .slice A4 T.length c4] 63)
  have hu := (Calm.refl w).alloc (.cells #[.int .i64 kd, .slice A1 E.length c1, .slice A2 K.length c2, .slice A3 S.length c3, .slice A4 T.length c4] 63)
  obtain ⟨hne, hnk, hns, hnt⟩ : _ ∧ _ ∧ _ ∧ _ := ⟨h.ne, h.nk, h.ns, h.nt⟩
  by_cases hF : formI E K S T
  · have hG : Hid (3 = innerErr E K S T) := (if_pos hF).symm
    unfold formI at hF
    generalize innerErr E K S T = R at hG ⊢
    generalize E.length = ne at *
    generalize K.length = nk at *
    generalize S.length = ns at *
    generalize T.length = nt at *
    obtain ⟨x0, x1, x2, x3, x4, hxs⟩ := row5 hx
    clear hx h
    have h4 : (0 : Int) < ne ∨ ((ne : Int) ≤ 0 ∧ (nk : Int) < 2) ∨ ((ne : Int) ≤ 0 ∧ (2 : Int) ≤ nk ∧ ns + 1 ≠ nk) ∨ ((ne : Int) ≤ 0 ∧ (2 : Int) ≤ nk ∧ ns + 1 = nk ∧ nt ≠ nk) := by omega
    clear hF
    rcases h4 with h4 | ⟨h4, h5⟩ | ⟨h4, h5, h6⟩ | ⟨h4, h5, h6, h7⟩
    · go_enter Try.func64, Try.ntmps64
      go_wp2_with fail
      go_ret
      exact ⟨ret_int hG.out, hu⟩
    · obtain rfl : ne = 0 := by omega
      clear h4
      go_enter Try.func64, Try.ntmps64
      go_wp2_with fail
      go_ret
      exact ⟨ret_int hG.out, hu⟩
    · obtain rfl : ne = 0 := by omega
      have b1 : ((ns : Int) != (nk : Int) - 1) = true := by rw [bne_iff_ne]; omega
      clear h4
      go_enter Try.func64, Try.ntmps64
      go_wp2_with fail
      go_ret
      exact ⟨ret_int hG.out, hu⟩
    · obtain rfl : ne = 0 := by omega
      have b1 : ((ns : Int) != (nk : Int) - 1) = false := by rw [bne_eq_false_iff_eq]; omega
      have b2 : ((nt : Int) != (nk : Int)) = true := by rw [bne_iff_ne]; omega
      clear h4 h6 h7
      go_enter Try.func64, Try.ntmps64
      go_wp2_with fail
      go_ret
      exact ⟨ret_int hG.out, hu⟩
  have hF2 : E.length = 0 ∧ 2 ≤ K.length ∧ S.length + 1 = K.length ∧ T.length = K.length := by unfold formI at hF; omega
  obtain ⟨hE0, hK2, hSK, hTK⟩ := hF2
  have b1 : ((S.length : Int) != (K.length : Int) - 1) = false := by rw [bne_eq_false_iff_eq]; omega
  have b2 : ((T.length : Int) != (K.length : Int)) = false := by rw [bne_eq_false_iff_eq]; omega
  have hK2' : (2 : Int) ≤ (K.length : Int) := by omega
  by_cases h8 : 8 < K.length
  · have hG : Hid (2 = innerErr E K S T) := by show _ = _; unfold innerErr; rw [if_neg hF, if_pos h8]
    have h8' : (8 : Int) < (K.length : Int) := by omega
    rw [hE0] at hx hu ⊢
    obtain ⟨x0, x1, x2, x3, x4, hxs⟩ := row5 hx
    clear hF hSK hTK h8
    go_enter Try.func64, Try.ntmps64
    go_wp2_with fail
    go_ret
    exact ⟨ret_int hG.out, hu⟩
  have h8' : (K.length : Int) ≤ 8 := by omega
  have hG : innerErr E K S T = if kidsErr K T ≠ 0 then kidsErr K T else elsErr (S.map Sp.el) := by unfold innerErr; rw [if_neg hF, if_neg h8]
  generalize innerErr E K S T = R at hG ⊢
  have HG := Lib.hid hG
  rw [hE0] at hx hu ⊢
  obtain ⟨hLK, hLS, hLT⟩ : Hid (LiesI w A2 K) ∧ Hid (LiesS w A3 S) ∧ Hid (LiesI w A4 T) := ⟨h.k, h.s, h.t⟩
  obtain ⟨x0, x1, x2, x3, x4, hxs⟩ := row5 hx
  have hTK' := Lib.hid hTK
  have hSK' := Lib.hid hSK
  have hS8 : S.length ≤ 400 := by omega
  clear hF hG h hE0 hSK hTK h8
  go_enter Try.func64, Try.ntmps64
  go_wp2_with fail
  go_loopw [38] (fun i wr => ∃ k : Nat, k ≤ K.length ∧ i = .int .i64 k ∧ Calm w wr ∧ wr.heap[w.heap.size]? = some (.cells #[.int .i64 kd, .slice A1 0 c1, .slice A2 K.length c2, .slice A3 S.length c3, .slice A4 T.length c4] 63 (0, 0)) ∧ NoKid K T k) (fun i _ => K.length - (intOf i).toNat)
  case atStart => exact ⟨0, Nat.zero_le _, rfl, hu, hx, NoKid.zero K T⟩
  case round =>
    obtain ⟨k, hk, rfl, hv, hy, hN⟩ := hrel
    clear x0 x1 x2 x3 x4 hxs hx hu
    obtain ⟨x0, x1, x2, x3, x4, hxs⟩ := row5 hy
    by_cases hlt : k < K.length
    rotate_left
    · have hK0 := hN.good (by omega)
      have K0 : Hid (R = elsErr (S.map Sp.el)) := HG.out.trans (by rw [hK0, if_neg (by simp)])
      clear hK0
      go_wp2_with (first
        | (go_at_call 77; refine (records_any _ _ S _ hS8 (hLS.out.calm hv)).mono ?_; rintro e w1 ⟨g, rfl, hL1, hb1⟩; replace hv := hv.call hb1; clear hb1; have HL1 := Lib.hid hL1; clear hL1)
        | (go_at_call 76; rw [show S.length = (S.map Sp.el).length from by simp]; refine (checkElems_any _ _ (S.map Sp.el) _ (by simp; omega) HL1.out).mono ?_; rintro e w1 ⟨rfl, hb1⟩; replace hv := hv.call hb1; clear hb1))
      go_ret
      exact ⟨ret_int K0.out.symm, hv⟩
    obtain ⟨b, q, x, rfl, hb, HX, cx⟩ := (hLK.out.calm hv).get hlt
    obtain ⟨b', q', y, rfl, hb', HY, cy⟩ := (hLT.out.calm hv).get (k := k) (by rw [hTK'.out]; exact hlt)
    have hst := kStep_at HX.out HY.out
    have hkT : (k : Int) < (T.length : Int) := by have := hTK'.out; omega
    by_cases hx1 : 0 ≤ x ∧ x ≤ 399
    rotate_left
    · rw [if_neg hx1] at hst
      have hR := hN.bad (by rw [hst]; decide) hlt
      have K1 : Hid (R = 1) := HG.out.trans (by rw [← hR, hst, if_pos (by decide)])
      have h2 : x < 0 ∨ 0 ≤ x ∧ 400 ≤ x := by omega
      clear hx1 hst hR
      rcases h2 with h2 | ⟨h2, h3⟩
      · go_wp2_with fail
        go_ret
        exact ⟨ret_int K1.out.symm, hv⟩
      · go_wp2_with fail
        go_ret
        exact ⟨ret_int K1.out.symm, hv⟩
    rw [if_pos hx1] at hst
    have h2 : 0 ≤ x := hx1.1
    have h3 : x < 400 := by omega
    by_cases hy1 : 0 ≤ y ∧ y ≤ 2147483647
    rotate_left
    · rw [if_neg hy1] at hst
      have hR := hN.bad (by rw [hst]; decide) hlt
      have K1 : Hid (R = 9) := HG.out.trans (by rw [← hR, hst, if_pos (by decide)])
      have h4 : y < 0 ∨ 0 ≤ y ∧ 2147483647 < y := by omega
      clear hy1 hx1 hst hR
      rcases h4 with h4 | ⟨h4, h5⟩
      · go_wp2_with fail
        go_ret
        exact ⟨ret_int K1.out.symm, hv⟩
      · go_wp2_with fail
        go_ret
        exact ⟨ret_int K1.out.symm, hv⟩
    rw [if_pos hy1] at hst
    have hN1 := hN.succ hst
    have h4 : 0 ≤ y := hy1.1
    have h5 : y ≤ 2147483647 := hy1.2
    clear hy1 hx1 hst hN
    go_wp2_with fail
    go_roundw
    case rel => exact ⟨k + 1, by omega, by go_num, hv, hy, hN1⟩
    case measure => simp [intOf]; omega
open Go.RowKit
theorem nd_free (E : List El) (K : List Int) (S : List Sp) (T : List Int) : ndErr 0 E K S T = freeErr E K S T := if_pos rfl
theorem nd_leaf (E : List El) (K : List Int) (S : List Sp) (T : List Int) : ndErr 1 E K S T = leafErr E K S T := by unfold ndErr; rw [if_neg (by decide), if_pos rfl]
theorem nd_inner (E : List El) (K : List Int) (S : List Sp) (T : List Int) : ndErr 2 E K S T = innerErr E K S T := by unfold ndErr; rw [if_neg (by decide), if_neg (by decide), if_pos rfl]
theorem nd_other {kd : Int} (h0 : kd ≠ 0) (h1 : kd ≠ 1) (h2 : kd ≠ 2) (E : List El) (K : List Int) (S : List Sp) (T : List Int) : ndErr kd E K S T = 3 := by unfold ndErr; rw [if_neg h0, if_neg h1, if_neg h2]
set_option maxHeartbeats 4000000 in
theorem nodeCheck_any (kd : Int) (A1 A2 A3 A4 : Option Addr) (c1 c2 c3 c4 : Nat) (E : List El) (K : List Int) (S : List Sp) (T : List Int) (w : World) (h : NdAt w A1 A2 A3 A4 E K S T) :
    Calls Try.prog 42 #[.agg #[.int .i64 kd, .slice A1 E.length c1, .slice A2 K.length c2, .slice A3 S.length c3, .slice A4 T.length c4]] w fun e w' => e = .returned (.int .i64 (ndErr kd E K S T)) ∧ Calm w w' := by
  have hx := heap_new w (.cells #[.int .i64 kd, .slice A1 E.length c1, .slice A2 K.length c2, .slice A3 S.length c3, .slice A4 T.length c4] 63)
  have hu := (Calm.refl w).alloc (.cells #[.int .i64 kd, .slice A1 E.length c1, .slice A2 K.length c2, .slice A3 S.length c3, .slice A4 T.length c4] 63)
  have cF := fun u => checkFree_any kd A1 A2 A3 A4 c1 c2 c3 c4 E K S T u h.ne h.nk h.ns h.nt
  have cL := fun u (hu : Calm w u) => checkLeaf_any kd A1 A2 A3 A4 c1 c2 c3 c4 E K S T u (h.calm hu)
  have cI := fun u (hu : Calm w u) => checkInner_any kd A1 A2 A3 A4 c1 c2 c3 c4 E K S T u (h.calm hu)
  clear h
  by_cases h0 : kd = 0
  · subst h0
    rw [nd_free]
    clear cL cI
    obtain ⟨x0, x1, x2, x3, x4, hxs⟩ := row5 hx
    go_enter Try.func42, Try.ntmps42
    go_wp2_with (go_at_call 62; (with_reducible refine (cF _).mono ?_); rintro e w1 ⟨rfl, hb1⟩; replace hu := hu.call hb1; clear hb1)
    go_ret
    exact ⟨rfl, hu⟩
  by_cases h1 : kd = 1
  · subst h1
    rw [nd_leaf]
    clear cF cI
    obtain ⟨x0, x1, x2, x3, x4, hxs⟩ := row5 hx
    go_enter Try.func42, Try.ntmps42
    go_wp2_with (go_at_call 63; (with_reducible refine (cL _ hu).mono ?_); rintro e w1 ⟨rfl, hb1⟩; replace hu := hu.call hb1; clear hb1)
    go_ret
    exact ⟨rfl, hu⟩
  by_cases h2 : kd = 2
  · subst h2
    rw [nd_inner]
    clear cF cL
    obtain ⟨x0, x1, x2, x3, x4, hxs⟩ := row5 hx
    go_enter Try.func42, Try.ntmps42
    go_wp2_with (go_at_call 64; (with_reducible refine (cI _ hu).mono ?_); rintro e w1 ⟨rfl, hb1⟩; replace hu := hu.call hb1; clear hb1)
    go_ret
    exact ⟨rfl, hu⟩
  rw [nd_other h0 h1 h2]
  have b0 : (kd == 0) = false := by rw [beq_eq_false_iff_ne]; exact h0
  have b1 : (kd == 1) = false := by rw [beq_eq_false_iff_ne]; exact h1
  have b2 : (kd == 2) = false := by rw [beq_eq_false_iff_ne]; exact h2
  clear cF cL cI h0 h1 h2
  obtain ⟨x0, x1, x2, x3, x4, hxs⟩ := row5 hx
  go_enter Try.func42, Try.ntmps42
  go_wp2_with fail
  go_ret
  exact ⟨rfl, hu⟩
open Go.RowKit
def iv (l : List Int) : List Value := l.map (Value.int .i64)
def OwnI (base : Nat) (w : World) (v : Value) (l : List Int) : Prop := w.ownsRow base 3 1 v l.length (iv l)
theorem OwnI.nil (base : Nat) (w : World) : OwnI base w (.slice none 0 0) [] := World.ownsRow_nil _ _ _ _
theorem OwnI.lies {base : Nat} {w : World} {v : Value} {l : List Int} (h : OwnI base w v l) : ∃ A c, v = .slice A l.length c ∧ LiesI w A l := by
 rcases h.2 with ⟨rfl, hl⟩ | ⟨g, cap, cur, rfl, _, hg, hnc, hcm, _, ht⟩
 ·have : l = [] := List.eq_nil_of_length_eq_zero hl
  subst this
  exact ⟨none, 0, rfl, fun h => absurd h (by simp)⟩
 ·refine ⟨some ⟨g, 0, none⟩, cap, rfl, fun _ => ⟨g, 0, rfl, (Array.getElem?_eq_some_iff.1 hg).1, fun k x hx => ?_⟩⟩
  have hk : k < l.length := (List.getElem?_eq_some_iff.1 hx).1
  have h2 := congrArg (·[k]?) ht
  simp only [Nat.mul_one] at h2
  rw [List.getElem?_take_of_lt hk, Array.getElem?_toList] at h2
  rw [Nat.zero_add, cell_of_row w g _ cur _ (0, 0) hg, h2]
  simp [iv, hx]
open Go.RowKit
def spCells (s : Sp) : List Value := [.int .i64 s.p, .int .i64 s.o, .int .i64 s.f, .int .i64 s.m]
def sv (l : List Sp) : List Value := l.flatMap spCells
def OwnS (base : Nat) (w : World) (v : Value) (l : List Sp) : Prop := w.ownsRow base 45 4 v l.length (sv l)
theorem sv_get (l : List Sp) : ∀ (i j : Nat), j < 4 → (sv l)[i * 4 + j]? = (l[i]?).bind fun e => (spCells e)[j]? := by
 induction l with
 |nil => intro i j _; simp [sv]
 |cons a l ih =>
  intro i j hj
  have e : sv (a :: l) = spCells a ++ sv l := by simp [sv]
  have h4 : (spCells a).length = 4 := rfl
  rw [e]
  cases i with
  |zero => rw [List.getElem?_append_left (by omega)]; simp
  |succ i =>
   rw [List.getElem?_append_right (by omega), h4, show (i + 1) * 4 + j - 4 = i * 4 + j from by omega, ih i j hj]
   simp
theorem OwnS.nil (base : Nat) (w : World) : OwnS base w (.slice none 0 0) [] := World.ownsRow_nil _ _ _ _
theorem OwnS.lies {base : Nat} {w : World} {v : Value} {l : List Sp} (h : OwnS base w v l) (hm : ∀ s ∈ l, -9223372036854775808 ≤ s.m) : ∃ A c, v = .slice A l.length c ∧ LiesS w A l := by
 rcases h.2 with ⟨rfl, hl⟩ | ⟨g, cap, cur, rfl, _, hg, hnc, hcm, _, ht⟩
 ·have : l = [] := List.eq_nil_of_length_eq_zero hl
  subst this
  exact ⟨none, 0, rfl, by simp, fun h => absurd h (by simp)⟩
 ·refine ⟨some ⟨g, 0, none⟩, cap, rfl, hm, fun _ => ⟨g, 0, rfl, (Array.getElem?_eq_some_iff.1 hg).1, fun k x hx => ?_⟩⟩
  have hk : k < l.length := (List.getElem?_eq_some_iff.1 hx).1
  have key : ∀ j, j < 4 → w.cell? ⟨g, 0 + k * 4 + j, none⟩ = (spCells x)[j]? := fun j hj => by
   have h2 := congrArg (·[k * 4 + j]?) ht
   rw [List.getElem?_take_of_lt (by omega), Array.getElem?_toList, sv_get l k j hj, hx] at h2
   rw [Nat.zero_add, cell_of_row w g _ cur _ (0, 0) hg, h2]; rfl
  exact ⟨key 0 (by omega), key 1 (by omega), key 2 (by omega), key 3 (by omega)⟩
open Go.RowKit
theorem OwnI.at_ {B : Nat} {w : World} {A : Option Addr} {n c : Nat} {l : List Int} (h : OwnI B w (.slice A n c) l) : LiesI w A l := by
 obtain ⟨A', c', e, h2⟩ := h.lies
 injection e with e1
 rw [e1]; exact h2
theorem OwnS.at_ {B : Nat} {w : World} {A : Option Addr} {n c : Nat} {l : List Sp} (h : OwnS B w (.slice A n c) l) (hm : ∀ s ∈ l, -9223372036854775808 ≤ s.m) : LiesS w A l := by
 obtain ⟨A', c', e, h2⟩ := h.lies hm
 injection e with e1
 rw [e1]; exact h2
theorem OwnR.at_ {B : Nat} {w : World} {A : Option Addr} {n c : Nat} {l : List El} (h : OwnR B w (.slice A n c) l) (hm : ∀ e ∈ l, e.wf) : Lies w A l := by
 obtain ⟨A', c', e, _, _, h2⟩ := h.lies hm
 injection e with e1
 rw [e1]; exact h2
structure NdOwn (B : Nat) (w : World) (A1 A2 A3 A4 : Option Addr) (c1 c2 c3 c4 : Nat) (E : List El) (K : List Int) (S : List Sp) (T : List Int) : Prop where
 e : OwnR B w (.slice A1 E.length c1) E
 k : OwnI B w (.slice A2 K.length c2) K
 s : OwnS B w (.slice A3 S.length c3) S
 t : OwnI B w (.slice A4 T.length c4) T
 we : ∀ e ∈ E, e.wf
 ws : ∀ s ∈ S, -9223372036854775808 ≤ s.m
 ne : E.length ≤ 1000000
 nk : K.length ≤ 1000000
 ns : S.length ≤ 1000000
 nt : T.length ≤ 1000000
section
variable {B g : Nat} {w w' : World} {A1 A2 A3 A4 : Option Addr} {c1 c2 c3 c4 : Nat} {E : List El} {K : List Int} {S : List Sp} {T : List Int}
theorem NdOwn.at_ (h : NdOwn B w A1 A2 A3 A4 c1 c2 c3 c4 E K S T) : NdAt w A1 A2 A3 A4 E K S T :=
 ⟨OwnR.at_ h.e h.we, OwnI.at_ h.k, OwnS.at_ h.s h.ws, OwnI.at_ h.t, by have := h.ne; omega, by have := h.nk; omega, by have := h.ns; omega, by have := h.nt; omega⟩
theorem NdOwn.zero (B : Nat) (w : World) : NdOwn B w none none none none 0 0 0 0 [] [] [] [] :=
 ⟨OwnR.nil _ _, OwnI.nil _ _, OwnS.nil _ _, OwnI.nil _ _, by simp, by simp, by simp, by simp, by simp, by simp⟩
end
def kNum (K : List Int) (T : List Int) (i : Nat) : List UInt8 := be 2 (K.getD i 0).toNat ++ be 4 (T.getD i 0).toNat
def kSep (S : List Sp) (i : Nat) : List UInt8 := if i = 0 then [] else enc (S.getD (i - 1) ⟨0, 0, 0, 0⟩).el
def kPiece (K T : List Int) (S : List Sp) (i : Nat) : List UInt8 := kNum K T i ++ kSep S i
def kRow (K T : List Int) (S : List Sp) (n : Nat) : List UInt8 := (List.range n).flatMap (kPiece K T S)
def kRest (K T : List Int) (S : List Sp) (i : Nat) : List UInt8 := (List.range' i (K.length - i)).flatMap (kPiece K T S)
def pgBody (E : List El) (K : List Int) (S : List Sp) (T : List Int) : List UInt8 := E.flatMap enc ++ kRow K T S K.length
def pgEnc (kd : Int) (E : List El) (K : List Int) (S : List Sp) (T : List Int) : List UInt8 := encF (kd.toNat + 1) (pgBody E K S T)
theorem kNum_length (K T : List Int) (i : Nat) : (kNum K T i).length = 6 := by simp [kNum, be_length]
theorem kRow_succ (K T : List Int) (S : List Sp) (n : Nat) : kRow K T S (n + 1) = kRow K T S n ++ kPiece K T S n := by
 unfold kRow; rw [List.range_succ, List.flatMap_append, List.flatMap_singleton]
theorem kRest_zero (K T : List Int) (S : List Sp) : kRest K T S 0 = kRow K T S K.length := by
 unfold kRest kRow; rw [Nat.sub_zero, List.range_eq_range']
theorem kRest_step {K T : List Int} {S : List Sp} {i : Nat} (h : i < K.length) : kRest K T S i = kPiece K T S i ++ kRest K T S (i + 1) := by
 unfold kRest
 rw [show K.length - i = (K.length - (i + 1)) + 1 from by omega, List.range'_succ, List.flatMap_cons]
theorem kRest_end {K T : List Int} {S : List Sp} {i : Nat} (h : K.length ≤ i) : kRest K T S i = [] := by
 unfold kRest; rw [show K.length - i = 0 from by omega]; rfl
structure Inn (K : List Int) (S : List Sp) (T : List Int) : Prop where
 nk : 2 ≤ K.length ∧ K.length ≤ 8
 ns : S.length + 1 = K.length
 nt : T.length = K.length
 k : ∀ x ∈ K, 0 ≤ x ∧ x ≤ 399
 t : ∀ x ∈ T, 0 ≤ x ∧ x ≤ 2147483647
 s : ∀ x ∈ S, x.el.err = 0
theorem inn_of {E : List El} {K : List Int} {S : List Sp} {T : List Int} (h : ndErr 2 E K S T = 0) : E = [] ∧ Inn K S T := by
 unfold ndErr at h
 rw [if_neg (by decide), if_neg (by decide), if_pos rfl] at h
 unfold innerErr at h
 split at h
 ·cases h
 rename_i h1
 split at h
 ·cases h
 rename_i h2
 split at h
 ·rename_i h3; exact absurd h h3
 rename_i h3
 unfold formI at h1
 have h4 := (kidsErr_zero (K := K) (T := T) (by omega)).1 (by simpa using h3)
 have h5 := elsErr_zero.1 h
 refine ⟨List.eq_nil_of_length_eq_zero (by omega), ⟨by omega, by omega⟩, by omega, by omega, h4.1, h4.2, fun x hx => h5.1 _ (List.mem_map_of_mem hx)⟩
theorem leaf_of {E : List El} {K : List Int} {S : List Sp} {T : List Int} (h : ndErr 1 E K S T = 0) : K = [] ∧ S = [] ∧ T = [] ∧ E.length ≤ 8 ∧ ∀ e ∈ E, e.err = 0 := by
 unfold ndErr at h
 rw [if_neg (by decide), if_pos rfl] at h
 unfold leafErr at h
 split at h
 ·cases h
 split at h
 ·cases h
 exact ⟨List.eq_nil_of_length_eq_zero (by omega), List.eq_nil_of_length_eq_zero (by omega), List.eq_nil_of_length_eq_zero (by omega), by omega, (elsErr_zero.1 h).1⟩
theorem free_of {E : List El} {K : List Int} {S : List Sp} {T : List Int} (h : ndErr 0 E K S T = 0) : E = [] ∧ K = [] ∧ S = [] ∧ T = [] := by
 unfold ndErr at h
 rw [if_pos rfl] at h
 unfold freeErr at h
 split at h
 ·cases h
 exact ⟨List.eq_nil_of_length_eq_zero (by omega), List.eq_nil_of_length_eq_zero (by omega), List.eq_nil_of_length_eq_zero (by omega), List.eq_nil_of_length_eq_zero (by omega)⟩
theorem kind_of {kd : Int} {E : List El} {K : List Int} {S : List Sp} {T : List Int} (h : ndErr kd E K S T = 0) : kd = 0 ∨ kd = 1 ∨ kd = 2 := by
 unfold ndErr at h
 split at h
 ·left; assumption
 split at h
 ·right; left; assumption
 split at h
 ·right; right; assumption
 ·cases h
structure Ndd (kd : Int) (E : List El) (K : List Int) (S : List Sp) (T : List Int) : Prop where
 kd : 0 ≤ kd ∧ kd ≤ 2
 ne : E.length ≤ 8
 nk : K.length ≤ 8
 ns : S.length ≤ 8 ∧ S.length ≤ K.length ∧ (0 < K.length → S.length + 1 = K.length)
 nt : T.length = K.length
 e : ∀ x ∈ E, x.err = 0
 k : ∀ x ∈ K, 0 ≤ x ∧ x ≤ 399
 t : ∀ x ∈ T, 0 ≤ x ∧ x ≤ 2147483647
 s : ∀ x ∈ S, x.el.err = 0
theorem ndd_of {kd : Int} {E : List El} {K : List Int} {S : List Sp} {T : List Int} (h : ndErr kd E K S T = 0) : Ndd kd E K S T := by
 rcases kind_of h with rfl | rfl | rfl
 ·obtain ⟨rfl, rfl, rfl, rfl⟩ := free_of h
  exact ⟨by omega, by simp, by simp, by simp, rfl, by simp, by simp, by simp, by simp⟩
 ·obtain ⟨rfl, rfl, rfl, h1, h2⟩ := leaf_of h
  exact ⟨by omega, h1, by simp, by simp, rfl, h2, by simp, by simp, by simp⟩
 ·obtain ⟨rfl, hI⟩ := inn_of h
  have := hI.nk; have := hI.ns; have := hI.nt
  exact ⟨by omega, by simp, by omega, by omega, by omega, by simp, hI.k, hI.t, hI.s⟩
theorem encs_length (l : List El) (h : ∀ x ∈ l, x.err = 0) : (l.flatMap enc).length ≤ l.length * 58 := by
 induction l with
 |nil => simp
 |cons e l ih =>
  rw [List.flatMap_cons, List.length_append, enc_length, List.length_cons]
  have h1 := ih fun x hx => h x (by simp [hx])
  have h2 := (err_zero (h e (by simp))).2.2.2.2.2.2.2.2.2.2
  omega
theorem el_size (s : Sp) : s.el.s.size = 0 := rfl
theorem kSep_length (S : List Sp) (i : Nat) : (kSep S i).length ≤ 18 := by
 unfold kSep
 split
 ·simp
 ·rw [enc_length, el_size]; omega
theorem kRow_length (K T : List Int) (S : List Sp) (n : Nat) : (kRow K T S n).length ≤ n * 24 := by
 induction n with
 |zero => simp [kRow]
 |succ n ih =>
  rw [kRow_succ, List.length_append, kPiece, List.length_append, kNum_length]
  have := kSep_length S n
  omega
theorem pgBody_length {kd : Int} {E : List El} {K : List Int} {S : List Sp} {T : List Int} (h : Ndd kd E K S T) : (pgBody E K S T).length ≤ 656 := by
 unfold pgBody
 rw [List.length_append]
 have h1 := encs_length E h.e
 have h2 := kRow_length K T S K.length
 have := h.ne; have := h.nk
 omega
def IsPg (l : List UInt8) (kd : Int) (E : List El) (K : List Int) (S : List Sp) (T : List Int) : Prop := ndErr kd E K S T = 0 ∧ pgEnc kd E K S T = l
theorem IsPg.un {l : List UInt8} {kd : Int} {E : List El} {K : List Int} {S : List Sp} {T : List Int} (h : IsPg l kd E K S T) : unErr l = 0 ∧ (unKind l : Int) = kd + 1 ∧ unBody l = pgBody E K S T ∧ l.length = 5 + unSize l := by
 obtain ⟨h1, rfl⟩ := h
 have hd := ndd_of h1
 have := hd.kd
 have hb := pgBody_length hd
 have hu := un_enc (k := kd.toNat + 1) (b := pgBody E K S T) (by omega) (by omega) (by omega) []
 rw [List.append_nil] at hu
 refine ⟨hu.1, ?_, hu.2.2.2, ?_⟩
 ·rw [pgEnc, hu.2.1]; omega
 ·rw [pgEnc, hu.2.2.1, encF_length]
/-- What the encoding of a right inner node begins with. -/
theorem Inn.step {K : List Int} {S : List Sp} {T : List Int} (h : Inn K S T) {i : Nat} (hi : i < K.length) {R : List UInt8} (hR : R = kRest K T S i) :
    6 ≤ R.length ∧ K[i]? = some (num (R.take 2) : Int) ∧ T[i]? = some (num ((R.drop 2).take 4) : Int) ∧ R.drop 6 = kSep S i ++ kRest K T S (i + 1) := by
  have hE : R = be 2 (K.getD i 0).toNat ++ (be 4 (T.getD i 0).toNat ++ (kSep S i ++ kRest K T S (i + 1))) := by
    rw [hR, kRest_step hi, kPiece, kNum, List.append_assoc, List.append_assoc]
  have hiT : i < T.length := by rw [h.nt]; exact hi
  have hk := h.k _ (List.getElem_mem hi)
  have ht := h.t _ (List.getElem_mem hiT)
  rw [List.getD_eq_getElem?_getD, List.getD_eq_getElem?_getD, List.getElem?_eq_getElem hi, List.getElem?_eq_getElem hiT] at hE
  simp only [Option.getD_some] at hE
  have l2 := be_length 2 (K[i]).toNat
  have l4 := be_length 4 (T[i]).toNat
  refine ⟨?_, ?_, ?_, ?_⟩
  · rw [hE, List.length_append, List.length_append, l2, l4]; omega
  · rw [List.getElem?_eq_getElem hi, hE, List.take_left' l2, num_be _ _ (by omega)]
    congr 1; omega
  · rw [List.getElem?_eq_getElem hiT, hE, List.drop_left' l2, List.take_left' l4, num_be _ _ (by omega)]
    congr 1; omega
  · rw [hE, show 6 = 2 + 4 from rfl, ← List.drop_drop, List.drop_left' l2, List.drop_left' l4]
theorem Inn.sep {K : List Int} {S : List Sp} {T : List Int} (h : Inn K S T) {i : Nat} (hi : i < K.length) (h0 : 0 < i) {R : List UInt8} (hR : R = kSep S i ++ kRest K T S (i + 1)) :
    decErr R = 0 ∧ S[i - 1]?.map Sp.el = some (decEl R) ∧ R.drop (decLen R) = kRest K T S (i + 1) := by
  have hs : i - 1 < S.length := by have := h.ns; omega
  have he : kSep S i = enc S[i - 1].el := by
    unfold kSep
    rw [if_neg (by omega), List.getD_eq_getElem?_getD, List.getElem?_eq_getElem hs]
    rfl
  rw [he] at hR
  obtain ⟨d1, d2, d3⟩ := dec_enc (h.s _ (List.getElem_mem hs)) (kRest K T S (i + 1))
  subst hR
  exact ⟨d1, by rw [List.getElem?_eq_getElem hs, d2]; rfl, by rw [d3, List.drop_left]⟩
def RdI (B : List UInt8) (K T : List Int) (S : List Sp) (R : List UInt8) : Prop :=
 ∀ K' S' T', Inn K' S' T' → kRow K' T' S' K'.length = B → K.length ≤ K'.length ∧ K = K'.take K.length ∧ T = T'.take K.length ∧ S = S'.take (K.length - 1) ∧ R = kRest K' T' S' K.length
theorem RdI.start (B : List UInt8) : RdI B [] [] [] B := fun K' S' T' _ h => ⟨Nat.zero_le _, by simp, by simp, by simp, by rw [List.length_nil, kRest_zero, h]⟩
theorem takeSnoc {α : Type} {l : List α} {i : Nat} {x : α} (h : l[i]? = some x) : l.take i ++ [x] = l.take (i + 1) := by
 have hk : i < l.length := (List.getElem?_eq_some_iff.1 h).1
 rw [List.take_succ_eq_append_getElem hk, (List.getElem?_eq_some_iff.1 h).2]
theorem RdI.lt {B : List UInt8} {K T : List Int} {S : List Sp} {R : List UInt8} (h : RdI B K T S R) (hR : R ≠ []) {K' : List Int} {S' : List Sp} {T' : List Int} (hI : Inn K' S' T') (hB : kRow K' T' S' K'.length = B) : K.length < K'.length := by
 obtain ⟨h1, _, _, _, h5⟩ := h K' S' T' hI hB
 rcases Nat.lt_or_ge K.length K'.length with h2 | h2
 ·exact h2
 ·rw [kRest_end h2] at h5; exact absurd h5 hR
/-- The first child: no separator is ahead of it. -/
theorem RdI.first {B : List UInt8} {T : List Int} {S : List Sp} {R : List UInt8} (h : RdI B [] T S R) (hR : R ≠ []) : RdI B [(num (R.take 2) : Int)] (T ++ [(num ((R.drop 2).take 4) : Int)]) S (R.drop 6) := by
 intro K' S' T' hI hB
 have hlt := h.lt hR hI hB
 obtain ⟨h1, h2, h3, h4, h5⟩ := h K' S' T' hI hB
 obtain ⟨g1, g2, g3, g4⟩ := hI.step hlt h5
 simp only [List.length_nil] at *
 refine ⟨hlt, ?_, ?_, ?_, ?_⟩
 ·have := takeSnoc g2; simpa using this
 ·rw [h3]; exact takeSnoc g3
 ·rw [h4]; simp
 ·rw [g4]; rfl
/-- A further one. -/
theorem RdI.next {B : List UInt8} {K T : List Int} {S : List Sp} {R : List UInt8} (h : RdI B K T S R) (hR : R ≠ []) (h0 : 0 < K.length) :
    RdI B (K ++ [(num (R.take 2) : Int)]) (T ++ [(num ((R.drop 2).take 4) : Int)]) (S ++ [⟨(decEl (R.drop 6)).p, (decEl (R.drop 6)).o, (decEl (R.drop 6)).f, (decEl (R.drop 6)).m⟩]) ((R.drop 6).drop (decLen (R.drop 6))) := by
  intro K' S' T' hI hB
  have hlt := h.lt hR hI hB
  obtain ⟨h1, h2, h3, h4, h5⟩ := h K' S' T' hI hB
  obtain ⟨g1, g2, g3, g4⟩ := hI.step hlt h5
  obtain ⟨e1, e2, e3⟩ := hI.sep hlt h0 g4
  rw [List.length_append, List.length_singleton]
  have hs : S'[K.length - 1]? = some ⟨(decEl (R.drop 6)).p, (decEl (R.drop 6)).o, (decEl (R.drop 6)).f, (decEl (R.drop 6)).m⟩ := by
    cases hx : S'[K.length - 1]? with
    | none => rw [hx] at e2; cases e2
    | some x => rw [hx] at e2; simp only [Option.map_some, Option.some.injEq] at e2; rw [← e2]; rfl
  refine ⟨hlt, ?_, ?_, ?_, e3⟩
  · conv => lhs; rw [h2]
    exact takeSnoc g2
  · conv => lhs; rw [h3]
    exact takeSnoc g3
  · conv => lhs; rw [h4]
    rw [takeSnoc hs]; congr 1; omega
theorem RdI.end_ {B : List UInt8} {K T : List Int} {S : List Sp} (h : RdI B K T S []) {K' : List Int} {S' : List Sp} {T' : List Int} (hI : Inn K' S' T') (hB : kRow K' T' S' K'.length = B) : K = K' ∧ T = T' ∧ S = S' := by
 obtain ⟨h1, h2, h3, h4, h5⟩ := h K' S' T' hI hB
 have he : K.length = K'.length := by
  rcases Nat.lt_or_ge K.length K'.length with hlt | hge
  ·have := (hI.step hlt h5).1; simp at this
  ·omega
 have := hI.nt; have := hI.ns
 refine ⟨?_, ?_, ?_⟩
 ·rw [h2, he, List.take_of_length_le (Nat.le_refl _)]
 ·rw [h3, he, List.take_of_length_le (by omega)]
 ·rw [h4, he, List.take_of_length_le (by omega)]
/-- One page is that of one node alone. -/
theorem IsPg.one {l : List UInt8} {kd kd' : Int} {E E' : List El} {K K' : List Int} {S S' : List Sp} {T T' : List Int} (h : IsPg l kd E K S T) (h' : IsPg l kd' E' K' S' T') : kd = kd' ∧ E = E' ∧ K = K' ∧ S = S' ∧ T = T' := by
 have h1 := h.un
 have h2 := h'.un
 have hk : kd = kd' := by omega
 subst hk
 have hb : pgBody E K S T = pgBody E' K' S' T' := h1.2.2.1.symm.trans h2.2.2.1
 refine ⟨rfl, ?_⟩
 rcases kind_of h.1 with rfl | rfl | rfl
 ·obtain ⟨rfl, rfl, rfl, rfl⟩ := free_of h.1
  obtain ⟨rfl, rfl, rfl, rfl⟩ := free_of h'.1
  exact ⟨rfl, rfl, rfl, rfl⟩
 ·obtain ⟨rfl, rfl, rfl, _, g1⟩ := leaf_of h.1
  obtain ⟨rfl, rfl, rfl, _, g2⟩ := leaf_of h'.1
  have e1 := (all_encs E g1).2
  have e2 := (all_encs E' g2).2
  have : E.flatMap enc = E'.flatMap enc := by simpa [pgBody, kRow] using hb
  rw [this, e2] at e1
  exact ⟨e1.symm, rfl, rfl, rfl⟩
 ·obtain ⟨rfl, i1⟩ := inn_of h.1
  obtain ⟨rfl, i2⟩ := inn_of h'.1
  simp only [pgBody, List.flatMap_nil, List.nil_append] at hb
  have key : ∀ n, n ≤ K.length → RdI (kRow K T S K.length) (K.take n) (T.take n) (S.take (n - 1)) (kRest K T S n) := by
   intro n
   induction n with
   |zero => intro _; rw [kRest_zero]; simpa using RdI.start (kRow K T S K.length)
   |succ n ih =>
    intro hn
    have hst := ih (by omega)
    have hlt : n < K.length := by omega
    obtain ⟨g1, g2, g3, g4⟩ := i1.step hlt rfl
    have hne : kRest K T S n ≠ [] := by intro e; rw [e] at g1; simp at g1
    rcases Nat.eq_zero_or_pos n with rfl | hpos
    ·have := RdI.first (by simpa using hst) hne
     rw [g4] at this
     have e1 : K.take 1 = [(num ((kRest K T S 0).take 2) : Int)] := by have := takeSnoc g2; simpa using this.symm
     have e2 : T.take 1 = [(num (((kRest K T S 0).drop 2).take 4) : Int)] := by have := takeSnoc g3; simpa using this.symm
     simpa [e1, e2, kSep] using this
    ·obtain ⟨-, d2, d3⟩ := i1.sep hlt hpos g4
     have := RdI.next hst hne (by simp; omega)
     rw [d3, takeSnoc g2, takeSnoc g3] at this
     have hs : S[n - 1]? = some ⟨(decEl ((kRest K T S n).drop 6)).p, (decEl ((kRest K T S n).drop 6)).o, (decEl ((kRest K T S n).drop 6)).f, (decEl ((kRest K T S n).drop 6)).m⟩ := by
      cases hx : S[n - 1]? with
      |none => rw [hx] at d2; cases d2
      |some x => rw [hx] at d2; simp only [Option.map_some, Option.some.injEq] at d2; rw [← d2]; rfl
     rw [takeSnoc hs, show n - 1 + 1 = n + 1 - 1 from by omega] at this
     exact this
  have hk := key K.length (Nat.le_refl _)
  rw [kRest_end (Nat.le_refl _), List.take_of_length_le (Nat.le_refl _), List.take_of_length_le (by have := i1.nt; omega), List.take_of_length_le (by have := i1.ns; omega)] at hk
  obtain ⟨e1, e2, e3⟩ := hk.end_ i2 hb.symm
  exact ⟨rfl, e1, e3, e2⟩
open Go.RowKit
set_option maxHeartbeats 4000000 in
theorem separator_any (p o f m : Int) (w : World) : Calls Try.prog 72 #[.agg #[.int .i64 p, .int .i64 o, .int .i64 f, .int .i64 m]] w fun e w' => e = .returned (.agg #[.int .i64 p, .int .i64 o, .int .i64 f, .int .i64 m, .int .i64 0, .string { data := #[] }]) ∧ Calm w w' := by
 go_enter Try.func72, Try.ntmps72
 go_wp2
 go_returns
 exact ⟨rfl, by repeat (first | (with_reducible exact Calm.refl _) | (with_reducible refine Calm.alloc ?_ _) | (with_reducible refine Calm.drew ?_) | (with_reducible refine Calm.drewN ?_ _) | (refine Calm.call ?_ (by with_reducible assumption)))⟩
set_option maxHeartbeats 4000000 in
theorem appendRec_any (base : Nat) (v : Value) (l : List UInt8) (p o f m g : Int) (s : ByteArray) (w : World) (hx : (⟨p, o, f, m, g, s⟩ : El).err = 0) (ho : OwnB base w v l) (hl : l.length ≤ 10000) (hb : base ≤ w.heap.size) :
    Calls Try.prog 71 #[v, .agg #[.int .i64 p, .int .i64 o, .int .i64 f, .int .i64 m, .int .i64 g, .string s]] w (PairEnd base (l ++ enc ⟨p, o, f, m, g, s⟩) w) := by
  have HO := Lib.hid ho
  have hsz := (err_zero hx).2.2.2.2.2.2.2.2.2.2
  have cW := fun u => codeWrite_any p o f m g s u
  have G : ∀ u, WriteEnd ⟨p, o, f, m, g, s⟩ u = fun e w' => e = .returned (.tuple #[.string (wroteS ⟨p, o, f, m, g, s⟩), .int .i64 0]) ∧ Calm u w' := fun u => by
    funext e w'; simp only [WriteEnd, hx]
  simp only [G] at cW
  have hW : Hid ((wroteS ⟨p, o, f, m, g, s⟩).data.toList = enc ⟨p, o, f, m, g, s⟩) := by show _ = _; unfold wroteS; rw [if_pos hx]
  have hWs : (wroteS ⟨p, o, f, m, g, s⟩).size ≤ 58 := by
    have h1 := congrArg List.length hW.out
    rw [bytes_len, enc_length] at h1
    simp only at h1 hsz; omega
  generalize wroteS ⟨p, o, f, m, g, s⟩ = W at cW hW hWs
  clear G ho hx hsz
  go_enter Try.func71, Try.ntmps71
  go_wp2_with (first
    | (go_at_call 17; (with_reducible refine (cW _).mono ?_); rintro e w1 ⟨rfl, hb1⟩; have hu1 := ((Calm.refl w).alloc _).call hb1; replace HO := Lib.hid (HO.out.calm hu1); have hbs := hu1.size; clear hb1)
    | (at_builtin; refine wpList_append_st rfl _ _ rfl base _ _ rfl HO.out _ rfl (by omega) (by omega) ?_; intro v9 w9 ho9 hc9; rw [hW.out] at ho9; have H9 := Lib.hid ho9; have C9 : Hid (∀ w0 : World, w0.heap.size ≤ base → Calm w0 w → Calm w0 w9) := (show ∀ _, _ from fun w0 h0 hc => hc9 w0 h0 (hc.call hu1)); clear ho9 hc9))
  go_ret
  exact ⟨_, rfl, H9.out, C9.out⟩
open Go.RowKit
/-- string(b), of an empty b too. -/
theorem OwnB.str0 {base : Nat} {w : World} {v : Value} {l : List UInt8} (h : OwnB base w v l) : (convert 57 9 v).run Try.prog w = .ok (.string ⟨l.toArray⟩) w := by
 rcases Nat.eq_zero_or_pos l.length with h0 | h0
 ·have : l = [] := List.eq_nil_of_length_eq_zero h0
  subst this
  rcases h.2 with ⟨rfl, _⟩ | ⟨g, cap, cur, rfl, _⟩
  ·exact run_convert_bytes_nil _ 57 5 Try.underlying57 Try.underlying5 _ _ _ Try.underlying9
  ·exact run_convert_bytes_back w 57 9 5 ⟨g, 0, none⟩ cap [] Try.underlying57 Try.underlying5 Try.underlying9 fun j hj => absurd hj (by simp)
 ·exact h.str h0
theorem encs_take {E : List El} {k : Nat} {e : El} (h : E[k]? = some e) : (E.take (k + 1)).flatMap enc = (E.take k).flatMap enc ++ enc e := by
 rw [← takeSnoc h, List.flatMap_append, List.flatMap_singleton]
theorem kRow_next {K T : List Int} {S : List Sp} {k : Nat} {x y : Int} (hx : K[k]? = some x) (hy : T[k]? = some y) (h0 : k = 0) : kRow K T S (k + 1) = kRow K T S k ++ be 2 x.toNat ++ be 4 y.toNat := by
 rw [kRow_succ, kPiece, kNum, kSep, if_pos h0, List.getD_eq_getElem?_getD, hx, List.getD_eq_getElem?_getD, hy, List.append_nil, ← List.append_assoc]; rfl
theorem kRow_next' {K T : List Int} {S : List Sp} {k : Nat} {x y : Int} {s : Sp} (hx : K[k]? = some x) (hy : T[k]? = some y) (h0 : 0 < k) (hs : S[k - 1]? = some s) : kRow K T S (k + 1) = kRow K T S k ++ be 2 x.toNat ++ be 4 y.toNat ++ enc s.el := by
 rw [kRow_succ, kPiece, kNum, kSep, if_neg (by omega), List.getD_eq_getElem?_getD, hx, List.getD_eq_getElem?_getD, hy, List.getD_eq_getElem?_getD, hs]
 simp only [Option.getD_some, List.append_assoc]
set_option maxHeartbeats 8000000 in
theorem pageBody_any (kd : Int) (A1 A2 A3 A4 : Option Addr) (c1 c2 c3 c4 : Nat) (E : List El) (K : List Int) (S : List Sp) (T : List Int) (w : World) (h : NdAt w A1 A2 A3 A4 E K S T) (hd : Ndd kd E K S T) :
    Calls Try.prog 55 #[.agg #[.int .i64 kd, .slice A1 E.length c1, .slice A2 K.length c2, .slice A3 S.length c3, .slice A4 T.length c4]] w fun e w' => e = .returned (.string ⟨(pgBody E K S T).toArray⟩) ∧ Calm w w' := by
  have hx := heap_new w (.cells #[.int .i64 kd, .slice A1 E.length c1, .slice A2 K.length c2, .slice A3 S.length c3, .slice A4 T.length c4] 63)
  have hu := (Calm.refl w).alloc (.cells #[.int .i64 kd, .slice A1 E.length c1, .slice A2 K.length c2, .slice A3 S.length c3, .slice A4 T.length c4] 63)
  have HE := Lib.hid h.e
  have HS1 := Lib.hid (h.s.calm hu)
  have HK1 := Lib.hid (h.k.calm hu)
  have HT1 := Lib.hid (h.t.calm hu)
  have hEl := encs_length E hd.e
  have hBl := pgBody_length hd
  have hRl := kRow_length K T S
  obtain ⟨n1, n2, n3, n4⟩ : E.length ≤ 8 ∧ K.length ≤ 8 ∧ Hid (T.length = K.length) ∧ S.length ≤ 8 := ⟨hd.ne, hd.nk, hd.nt, hd.ns.1⟩
  have n5 := Lib.hid hd.ns.2.2
  have HD := Lib.hid hd
  obtain ⟨x0, x1, x2, x3, x4, hxs⟩ := row5 hx
  clear h hd
  go_enter Try.func55, Try.ntmps55
  go_wp2_with fail
  go_loopw [3, 11] (fun t i wr => ∃ k : Nat, k ≤ E.length ∧ i = .int .i64 k ∧ OwnB (w.heap.size + 1) wr t ((E.take k).flatMap enc) ∧ Calm (w.alloc (.cells #[.int .i64 kd, .slice A1 E.length c1, .slice A2 K.length c2, .slice A3 S.length c3, .slice A4 T.length c4] 63)) wr) (fun _ i _ => E.length - (intOf i).toNat)
  case atStart => exact ⟨0, Nat.zero_le _, rfl, OwnB.nil _ _, Calm.refl _⟩
  case round =>
    obtain ⟨k, hk, rfl, ho, hv⟩ := hrel
    have HO := Lib.hid ho
    have hsv := hv.size
    simp only [World.size_alloc] at hsv
    clear ho x0 x1 x2 x3 x4 hxs
    by_cases hlt : k < E.length
    · obtain ⟨b, q, p, o, f, m, g, s, rfl, hb, HEL, hm, e0, e1, e2, e3, e4, e5⟩ := (HE.out.calm (((Calm.refl w).alloc _).call hv)).get hlt
      have hgood : (⟨p, o, f, m, g, s⟩ : El).err = 0 := HD.out.e _ (List.mem_of_getElem? HEL.out)
      have hl9 : ((E.take k).flatMap enc).length ≤ 10000 := by
        have := encs_length (E.take k) fun x hx => HD.out.e x (List.mem_of_mem_take hx)
        rw [List.length_take] at this; omega
      have hsucc := Lib.hid (encs_take HEL.out)
      have hG := Lib.hid hgood
      clear hgood
      go_wp2_with (go_at_call 71; refine (appendRec_any (w.heap.size + 1) _ _ _ _ _ _ _ _ _ hG.out (HO.out.calm ((Calm.refl _).alloc _)) hl9 ?_).mono ?_; (· simp; omega); rintro e w9 ⟨v9, rfl, ho9, hc9⟩; have H9 := Lib.hid ho9; have hv9 := hc9 _ (by simp) (hv.alloc _); clear ho9 hc9)
      go_roundw
      case rel => exact ⟨k + 1, by omega, by go_num, by rw [hsucc.out]; exact H9.out, hv9⟩
      case measure => simp [intOf]; omega
    · have hE : (E.take k).flatMap enc = E.flatMap enc := by rw [List.take_of_length_le (by omega)]
      rw [hE] at HO
      have hx1 := (hv.block (by simp)).trans hx
      obtain ⟨x0, x1, x2, x3, x4, hxs⟩ := row5 hx1
      go_wp2_with fail
      go_loopw [3, 22] (fun t i wr => ∃ k : Nat, k ≤ K.length ∧ i = .int .i64 k ∧ OwnB (w.heap.size + 1) wr t (E.flatMap enc ++ kRow K T S k) ∧ Calm (w.alloc (.cells #[.int .i64 kd, .slice A1 E.length c1, .slice A2 K.length c2, .slice A3 S.length c3, .slice A4 T.length c4] 63)) wr) (fun _ i _ => K.length - (intOf i).toNat)
      case atStart => exact ⟨0, Nat.zero_le _, rfl, by simpa [kRow] using HO.out, hv⟩
      case round =>
        obtain ⟨k', hk', rfl, ho, hz⟩ := hrel
        have hsz := hz.size
        simp only [World.size_alloc] at hsz
        have hcz := ((Calm.refl w).alloc (.cells #[.int .i64 kd, .slice A1 E.length c1, .slice A2 K.length c2, .slice A3 S.length c3, .slice A4 T.length c4] 63)).call hz
        have hx2 := (hz.block (by simp)).trans hx
        clear x0 x1 x2 x3 x4 hxs hx1 HO hv
        have HO := Lib.hid ho
        clear ho
        by_cases hlt' : k' < K.length
        rotate_left
        · obtain rfl : k' = K.length := by omega
          have hcv := HO.out.str0
          go_wp2_with fail
          go_ret
          exact ⟨rfl, hcz⟩
        obtain ⟨b, q, x, rfl, hb, HX, cx0⟩ := HK1.out.get hlt'
        obtain ⟨b', q', y, rfl, hb', HY, cy0⟩ := HT1.out.get (show k' < T.length by rw [n3.out]; exact hlt')
        have cx := (hz.facts.1 b _ hb).trans cx0
        have CY := Lib.hid cy0
        clear cx0 cy0
        have gx := HD.out.k _ (List.mem_of_getElem? HX.out)
        have gy := HD.out.t _ (List.mem_of_getElem? HY.out)
        obtain ⟨X, rfl⟩ : ∃ X : Nat, x = (X : Int) := ⟨x.toNat, by omega⟩
        obtain ⟨Z, rfl⟩ : ∃ Z : Nat, y = (Z : Int) := ⟨y.toNat, by omega⟩
        have hr9 := hRl k'
        have ll : (E.flatMap enc ++ kRow K T S k').length ≤ 656 := by rw [List.length_append]; omega
        have hltT : (k' : Int) < (T.length : Int) := by rw [n3.out]; omega
        obtain ⟨x0, x1, x2, x3, x4, hxs⟩ := row5 hx2
        have hx3 := hx2
        clear hx2
        rcases Nat.eq_zero_or_pos k' with hk0 | hk0
        · have hsucc := Lib.hid (kRow_next (S := S) HX.out HY.out hk0)
          simp only [Int.toNat_natCast] at hsucc
          have hk0i : (k' : Int) ≤ 0 := by omega
          clear hk0
          go_wp2_with (first
            | (go_at_call 43; (with_reducible refine (appendNum2_any (w.heap.size + 1) _ _ _ _ (by omega) HO.out (by omega) (by omega)).mono ?_); rintro e w9 ⟨v9, rfl, ho9, hc9⟩; have hz9 := hc9 _ (by simp) hz; have hs9 := hz9.size; simp only [World.size_alloc] at hs9; replace HO := Lib.hid ho9; have hy := (hz9.block (by simp)).trans hx; have cy9 := (hz9.facts.1 b' _ hb').trans CY.out; clear ho9 hc9; obtain ⟨x0, x1, x2, x3, x4, hxs⟩ := row5 hy)
            | (go_at_call 43; (with_reducible refine (appendNum4_any (w.heap.size + 1) _ _ _ _ (by omega) HO.out (by rw [List.length_append, be_length]; omega) (by omega)).mono ?_); rintro e w8 ⟨v8, rfl, ho8, hc8⟩; have hz8 := hc8 _ (by simp) hz9; have hs8 := hz8.size; simp only [World.size_alloc] at hs8; have hy8 := (hz8.block (by simp)).trans hx; replace HO := Lib.hid ho8; clear ho8 hc8; obtain ⟨x0, x1, x2, x3, x4, hxs⟩ := row5 hy8))
          go_roundw
          case rel => exact ⟨k' + 1, by omega, by go_num, by have h9 := HO.out; rw [hsucc.out]; simpa only [List.append_assoc] using h9, hz8⟩
          case measure => simp [intOf]; omega
        · obtain ⟨j, hj⟩ : ∃ j, j + 1 = k' := ⟨k' - 1, by omega⟩
          have hjS : j < S.length := by have := n5.out (by omega); omega
          obtain ⟨b2, q2, p, o, f, m, rfl, hb2, HSP, hm, s0, s1, s2, s3⟩ := HS1.out.get hjS
          have hsucc := Lib.hid (kRow_next' (s := ⟨p, o, f, m⟩) HX.out HY.out hk0 (by rw [← HSP.out]; congr 1; omega))
          simp only [Int.toNat_natCast] at hsucc
          have hgood := Lib.hid (HD.out.s _ (List.mem_of_getElem? HSP.out))
          have e1 : IntKind.i64.wrap ((k' : Int) - 1) = (j : Int) := by rw [IntWalk.i64_in _ (by omega)]; omega
          have e2 : (k' : Int) - 1 = (j : Int) := by omega
          have e3 : (j : Int) < (S.length : Int) := by omega
          have hk0' : (0 : Int) < (k' : Int) := by omega
          have S0 := Lib.hid s0
          have S1 := Lib.hid s1
          have S2 := Lib.hid s2
          have S3 := Lib.hid s3
          clear s0 s1 s2 s3 hj hk0
          go_wp2_with (first
            | (go_at_call 43; (with_reducible refine (appendNum2_any (w.heap.size + 1) _ _ _ _ (by omega) HO.out (by omega) (by omega)).mono ?_); rintro e w9 ⟨v9, rfl, ho9, hc9⟩; have hz9 := hc9 _ (by simp) hz; have hs9 := hz9.size; simp only [World.size_alloc] at hs9; replace HO := Lib.hid ho9; have hy := (hz9.block (by simp)).trans hx; have cy9 := (hz9.facts.1 b' _ hb').trans CY.out; clear ho9 hc9; obtain ⟨x0, x1, x2, x3, x4, hxs⟩ := row5 hy)
            | (go_at_call 43; (with_reducible refine (appendNum4_any (w.heap.size + 1) _ _ _ _ (by omega) HO.out (by rw [List.length_append, be_length]; omega) (by omega)).mono ?_); rintro e w8 ⟨v8, rfl, ho8, hc8⟩; have hz8 := hc8 _ (by simp) hz9; have hs8 := hz8.size; simp only [World.size_alloc] at hs8; have hy8 := (hz8.block (by simp)).trans hx; replace HO := Lib.hid ho8; have t0 := (hz8.facts.1 b2 _ hb2).trans S0.out; have t1 := (hz8.facts.1 b2 _ hb2).trans S1.out; have t2 := (hz8.facts.1 b2 _ hb2).trans S2.out; have t3 := (hz8.facts.1 b2 _ hb2).trans S3.out; clear ho8 hc8; obtain ⟨x0, x1, x2, x3, x4, hxs⟩ := row5 hy8)
            | (go_at_call 72; refine (separator_any _ _ _ _ _).mono ?_; rintro e w7 ⟨rfl, hb7⟩; have hz7 := hz8.call hb7; have hs7 := hz7.size; simp only [World.size_alloc] at hs7; replace HO := Lib.hid (HO.out.calm hb7); clear hb7)
            | (go_at_call 71; refine (appendRec_any (w.heap.size + 1) _ _ _ _ _ _ _ _ _ hgood.out HO.out (by rw [List.length_append, List.length_append, be_length, be_length]; omega) (by omega)).mono ?_; rintro e w6 ⟨v6, rfl, ho6, hc6⟩; have hz6 := hc6 _ (by simp) hz7; replace HO := Lib.hid ho6; clear ho6 hc6))
          go_roundw
          case rel => exact ⟨k' + 1, by omega, by go_num, by have h9 := HO.out; rw [hsucc.out]; simp only [List.append_assoc] at h9 ⊢; exact h9, hz6⟩
          case measure => simp [intOf]; omega
open Go.RowKit
theorem ret_u16 {a b : Int} (h : a = b) : Ending.returned (.int .u16 a) = .returned (.int .u16 b) := by rw [h]
set_option maxHeartbeats 1000000 in
theorem shift_any (r : BitVec 16) (w : World) : Calls Try.prog 70 #[.int .u16 (r.toNat : Int)] w fun e w' => e = .returned (.int .u16 ((shB r).toNat : Int)) ∧ w = w' := by
 have hr := r.isLt
 by_cases h : 32768 ≤ r.toNat
 ·have H := Lib.hid (shB_top r h)
  generalize (shB r).toNat = z at H ⊢
  generalize r.toNat = n at *
  have b1 : ((n : Int) / 32768 == 1) = true := by rw [beq_iff_eq]; omega
  go_enter Try.func70, Try.ntmps70
  go_wp2
  go_ret
  refine ⟨ret_u16 ?_, rfl⟩
  rw [H.out, IntKind.wrap_u16, ← Go.u16_xor_nat _ _ (Nat.mod_lt _ (by decide)) (by decide)]
  congr 1
 ·have H := Lib.hid (shB_low r (by omega))
  generalize (shB r).toNat = z at H ⊢
  generalize r.toNat = n at *
  have b1 : ((n : Int) / 32768 == 1) = false := by rw [beq_eq_false_iff_ne]; omega
  go_enter Try.func70, Try.ntmps70
  go_wp2
  go_ret
  refine ⟨ret_u16 ?_, rfl⟩
  rw [H.out]
  omega
theorem shN_succ (n : Nat) (a : BitVec 16) : shN (n + 1) a = shB (shN n a) := (shB_shN n a).symm
theorem take_snoc (s : ByteArray) (k : Nat) (h : k < s.size) : s.data.toList.take (k + 1) = s.data.toList.take k ++ [s[k]] := by
 rw [List.take_succ_eq_append_getElem (by simpa using h)]; rfl
theorem byte_in (r : BitVec 16) (c : UInt8) : bits .xor .u16 (r.toNat : Int) ((c.toNat : Int) * 256) = ((r ^^^ (BitVec.ofNat 16 c.toNat <<< 8)).toNat : Int) := by
 have hc := c.toNat_lt
 have hr := r.isLt
 rw [stp_in, ← Go.u16_xor_nat _ _ hr (by omega)]
 congr 1
set_option maxHeartbeats 1000000 in
theorem sumOf_any (s : ByteArray) (w : World) (hs : s.size ≤ maxLen) : Calls Try.prog 53 #[.string s] w fun e w' => e = .returned (.int .i64 ((crc s.data.toList).toNat : Int)) ∧ w = w' := by
 unfold maxLen at hs
 go_enter Try.func53, Try.ntmps53
 go_wp2
 go_loop [3, 7] (fun r i => ∃ k : Nat, k ≤ s.size ∧ i = .int .i64 k ∧ r = .int .u16 ((crc (s.data.toList.take k)).toNat)) (fun _ i => s.size - (intOf i).toNat)
 case atStart => exact ⟨0, Nat.zero_le _, rfl, rfl⟩
 case round =>
  obtain ⟨k, hk, rfl, rfl⟩ := hrel
  have hr := (crc (s.data.toList.take k)).isLt
  by_cases hlt : k < s.size
  ·have hts := Lib.hid (take_snoc s k hlt)
   have hc := s[k].toNat_lt
   go_wp2
   go_loop [3, 17] (fun r i => ∃ j : Nat, j ≤ 8 ∧ i = .int .i64 j ∧ r = .int .u16 ((shN j (crc (s.data.toList.take k) ^^^ (BitVec.ofNat 16 s[k].toNat <<< 8))).toNat)) (fun _ i => 8 - (intOf i).toNat)
   case atStart => exact ⟨0, Nat.zero_le _, rfl, by rw [byte_in]; rfl⟩
   case round =>
    obtain ⟨j, hj, rfl, rfl⟩ := hrel
    have hr2 := (shN j (crc (s.data.toList.take k) ^^^ (BitVec.ofNat 16 s[k].toNat <<< 8))).isLt
    have hsu := Lib.hid (shN_succ j (crc (s.data.toList.take k) ^^^ (BitVec.ofNat 16 s[k].toNat <<< 8)))
    by_cases hj8 : j < 8
    ·go_wp2_with (go_at_call 70; refine (shift_any _ _).mono ?_; rintro e w1 ⟨rfl, rfl⟩)
     go_round
     case rel => exact ⟨j + 1, by omega, by go_num, by rw [hsu.out]⟩
     case measure => simp [intOf]; omega
    ·obtain rfl : 8 = j := by omega
     go_wp2
     go_round
     case rel => exact ⟨k + 1, by omega, by go_num, by rw [hts.out, crc_snoc]; rfl⟩
     case measure => simp [intOf]; omega
  ·go_wp2
   go_ret
   exact ⟨ret_int (by rw [List.take_of_length_le (by simp; omega)]), rfl⟩
open Go.RowKit
def frS (k : Int) (s : ByteArray) : ByteArray := if frErr k s.size = 0 then ⟨(encF k.toNat s.data.toList).toArray⟩ else { data := #[] }
def FPutEnd (k : Int) (s : ByteArray) (w : World) (e : Ending) (w' : World) : Prop := e = .returned (.tuple #[.string (frS k s), .int .i64 (frErr k s.size)]) ∧ Calm w w'
theorem row2 {w : World} {g t : Nat} {a b : Value} {fr : Nat × Nat} (h : w.heap[g]? = some (.cells #[a, b] t fr)) : w.cell? ⟨g, 0, none⟩ = some a ∧ w.cell? ⟨g, 1, none⟩ = some b ∧ g < w.heap.size :=
 ⟨cell_of_row _ _ 0 _ _ _ h, cell_of_row _ _ 1 _ _ _ h, (Array.getElem?_eq_some_iff.1 h).1⟩
theorem heap_new3 (w : World) (o o' o'' : Obj) : (((w.alloc o).alloc o').alloc o'').heap[w.heap.size + 1 + 1]? = some o'' := by simpa using heap_new ((w.alloc o).alloc o') o''
theorem bytes_size (l : List UInt8) : (⟨l.toArray⟩ : ByteArray).size = l.length := by show l.toArray.size = _; simp
theorem bytes_list (l : List UInt8) : (⟨l.toArray⟩ : ByteArray).data.toList = l := by simp
set_option maxHeartbeats 8000000 in
theorem framePut_any (k : Int) (s : ByteArray) (w : World) : Calls Try.prog 31 #[.agg #[.int .i64 k, .string s]] w (FPutEnd k s w) := by
 have hx := heap_new w (.cells #[.int .i64 k, .string s] 50)
 have hu := (Calm.refl w).alloc (.cells #[.int .i64 k, .string s] 50)
 by_cases h1 : k < 1 ∨ 255 < k
 ·have e1 : frErr k s.size = 1 := if_pos h1
  have e2 : FPutEnd k s w = fun e w' => e = .returned (.tuple #[.string { data := #[] }, .int .i64 1]) ∧ Calm w w' := by
   funext e w'; simp [FPutEnd, frS, e1]
  rw [e2]
  clear e1 e2
  rcases h1 with h1 | h1
  ·obtain ⟨x0, x1, hxs⟩ := row2 hx
   go_enter Try.func31, Try.ntmps31
   go_wp2
   go_ret2
   exact ⟨rfl, hu⟩
  ·obtain ⟨x0, x1, hxs⟩ := row2 hx
   have h1' : (1 : Int) ≤ k := by omega
   go_enter Try.func31, Try.ntmps31
   go_wp2
   go_ret2
   exact ⟨rfl, hu⟩
 have h1' : (1 : Int) ≤ k := by omega
 have h2' : k ≤ (255 : Int) := by omega
 by_cases h3 : 3000 < s.size
 ·have e1 : frErr k s.size = 2 := by unfold frErr; rw [if_neg h1, if_pos h3]
  have e2 : FPutEnd k s w = fun e w' => e = .returned (.tuple #[.string { data := #[] }, .int .i64 2]) ∧ Calm w w' := by
   funext e w'; simp [FPutEnd, frS, e1]
  rw [e2]
  clear e1 e2 h1
  have h3' : (3000 : Int) < s.size := by omega
  obtain ⟨x0, x1, hxs⟩ := row2 hx
  go_enter Try.func31, Try.ntmps31
  go_wp2
  go_ret2
  exact ⟨rfl, hu⟩
 have h3' : (s.size : Int) ≤ 3000 := by omega
 have h3n : s.size ≤ 3000 := by omega
 have e1 : frErr k s.size = 0 := by unfold frErr; rw [if_neg h1, if_neg h3]
 have hW : Hid (frS k s = ⟨(encF k.toNat s.data.toList).toArray⟩) := by show _ = _; unfold frS; exact if_pos e1
 have G : FPutEnd k s w = fun e w' => e = .returned (.tuple #[.string (frS k s), .int .i64 0]) ∧ Calm w w' := by
  funext e w'; simp [FPutEnd, e1]
 rw [G]
 generalize frS k s = W at hW ⊢
 clear G e1 h1 h3
 obtain ⟨K, rfl⟩ : ∃ n : Nat, k = (n : Int) := ⟨k.toNat, by omega⟩
 have i8 : IntKind.u8.wrap (K : Int) = (K : Int) := IntWalk.u8_in _ (by omega)
 have hmk := fun u => makeRoom u ((3 : Int) + (s.size : Int) + 2) (5 + s.size) (by omega) (by omega)
 have hsl : s.data.toList.length = s.size := by simp
 have hx0 := hx
 obtain ⟨x0, x1, hxs⟩ := row2 hx
 have cS := fun u => sumOf_any ⟨(frHead K s.data.toList).toArray⟩ u (by rw [bytes_size, frHead_length]; simp only [maxLen]; omega)
 rw [bytes_list] at cS
 have hC := (crc (frHead K s.data.toList)).isLt
 have hE : Hid (W = ⟨(frHead K s.data.toList ++ be 2 (crc (frHead K s.data.toList)).toNat).toArray⟩) := by show _ = _; rw [hW.out]; rfl
 have hH : Hid ([] ++ [UInt8.ofNat (K : Int).toNat] ++ be 2 s.size ++ s.data.toList = frHead K s.data.toList) := by show _ = _; rw [frHead, be1 K (by omega), hsl]; simp
 have hHl := frHead_length K s.data.toList
 generalize (crc (frHead K s.data.toList)).toNat = C at cS hC hE
 generalize frHead K s.data.toList = H at cS hE hH hHl
 clear hW
 have hv := (Calm.refl (w.alloc (.cells #[.int .i64 (K : Int), .string s] 50))).alloc (.cells (bv (List.replicate (5 + s.size) 0)).toArray 5)
 have ho0 := (OwnB.made (w.heap.size + 1) (w.alloc (.cells #[.int .i64 (K : Int), .string s] 50)) (5 + s.size) (by simp) (by omega))
 simp only [World.size_alloc] at ho0
 have ho := Lib.hid ho0
 clear ho0
 go_enter Try.func31, Try.ntmps31
 go_wp2_with (first
  |(at_builtin; refine wpList_append_st rfl _ _ rfl (w.heap.size + 1) _ _ rfl ho.out _ rfl ?_ ?_ ?_; (· simp [be_length]; omega); (· omega); intro v' w9 ho9 hc9; replace hv := hc9 (w.alloc (.cells #[.int .i64 (K : Int), .string s] 50)) (by simp) hv; replace hx := (hv.block (by simp)).trans hx0; have hvs := hv.size; simp only [World.size_alloc] at hvs; rw [hH.out] at ho9; replace ho := Lib.hid ho9; clear ho9 hc9; have hcv := ho.out.str (by rw [hHl]; omega); obtain ⟨x0, x1, hxs⟩ := row2 hx)
  |(go_at_call 43; refine (appendNum2_any (w.heap.size + 1) _ _ _ _ ?_ ho.out ?_ ?_).mono ?_; (· omega); (· first | (rw [hHl]; omega) | simp); (· omega); rintro e w9 ⟨v', rfl, ho9, hc9⟩; replace hv := hc9 (w.alloc (.cells #[.int .i64 (K : Int), .string s] 50)) (by simp) hv; replace hx := (hv.block (by simp)).trans hx0; have hvs := hv.size; simp only [World.size_alloc] at hvs; replace ho := Lib.hid ho9; clear ho9 hc9; have hcv := ho.out.str (by rw [List.length_append, be_length]; omega); obtain ⟨x0, x1, hxs⟩ := row2 hx)
  |(at_builtin; go_must (refine wpList_append_b1 rfl _ _ rfl (w.heap.size + 1) _ _ rfl (ho.out.calm ((Calm.refl _).alloc _)) _ _ _ _ rfl (heap_new3 _ _ _ _) ?_ ?_ ?_ ?_); (· omega); (· simp only [List.length_nil]; omega); (· simp only [World.size_alloc]; omega); intro v' w9 ho9 hc9; replace hv := hc9 (w.alloc (.cells #[.int .i64 (K : Int), .string s] 50)) (by simp) (hv.alloc _); replace hx := (hv.block (by simp)).trans hx0; have hvs := hv.size; simp only [World.size_alloc] at hvs; replace ho := Lib.hid ho9; clear ho9 hc9; obtain ⟨x0, x1, hxs⟩ := row2 hx)
  |(go_at_call 53; refine (cS _).mono ?_; rintro e w1 ⟨rfl, rfl⟩))
 have hu9 := ((Calm.refl w).alloc (.cells #[.int .i64 (K : Int), .string s] 50)).call hv
 go_ret2
 exact ⟨by rw [hE.out]; rfl, hu9⟩
open Go.RowKit
def pgS (kd : Int) (E : List El) (K : List Int) (S : List Sp) (T : List Int) : ByteArray := if ndErr kd E K S T = 0 then ⟨(pgEnc kd E K S T).toArray⟩ else { data := #[] }
def PgWriteEnd (kd : Int) (E : List El) (K : List Int) (S : List Sp) (T : List Int) (w : World) (e : Ending) (w' : World) : Prop := e = .returned (.tuple #[.string (pgS kd E K S T), .int .i64 (ndErr kd E K S T)]) ∧ Calm w w'
theorem pgPut_good (k : Int) (s W : ByteArray) (h : frErr k s.size = 0) (hW : encF k.toNat s.data.toList = W.data.toList) (w : World) : Calls Try.prog 31 #[.agg #[.int .i64 k, .string s]] w fun e w' => e = .returned (.tuple #[.string W, .int .i64 0]) ∧ Calm w w' := by
 have h2 := framePut_any k s w
 unfold FPutEnd at h2
 rw [h, frS, if_pos h, hW] at h2
 exact h2
theorem frErr_in {k : Int} {n : Nat} (h1 : 1 ≤ k) (h2 : k ≤ 255) (h3 : n ≤ 3000) : frErr k n = 0 := by
 unfold frErr; rw [if_neg (by omega), if_neg (by omega)]
set_option maxHeartbeats 8000000 in
theorem pageWrite_any (kd : Int) (A1 A2 A3 A4 : Option Addr) (c1 c2 c3 c4 : Nat) (E : List El) (K : List Int) (S : List Sp) (T : List Int) (w : World) (h : NdAt w A1 A2 A3 A4 E K S T) :
    Calls Try.prog 35 #[.agg #[.int .i64 kd, .slice A1 E.length c1, .slice A2 K.length c2, .slice A3 S.length c3, .slice A4 T.length c4]] w (PgWriteEnd kd E K S T w) := by
  have hx := heap_new w (.cells #[.int .i64 kd, .slice A1 E.length c1, .slice A2 K.length c2, .slice A3 S.length c3, .slice A4 T.length c4] 63)
  have hu := (Calm.refl w).alloc (.cells #[.int .i64 kd, .slice A1 E.length c1, .slice A2 K.length c2, .slice A3 S.length c3, .slice A4 T.length c4] 63)
  have cC := fun u (hu : Calm w u) => nodeCheck_any kd A1 A2 A3 A4 c1 c2 c3 c4 E K S T u (h.calm hu)
  by_cases he : ndErr kd E K S T = 0
  rotate_left
  · have G : PgWriteEnd kd E K S T w = fun e w' => e = .returned (.tuple #[.string { data := #[] }, .int .i64 (ndErr kd E K S T)]) ∧ Calm w w' := by
      funext e w'; simp only [PgWriteEnd, pgS, if_neg he]
    rw [G]
    have b1 : (ndErr kd E K S T != 0) = true := by simpa using he
    generalize ndErr kd E K S T = R at cC b1 ⊢
    clear he G
    obtain ⟨x0, x1, x2, x3, x4, hxs⟩ := row5 hx
    go_enter Try.func35, Try.ntmps35
    go_wp2_with (go_at_call 42; (with_reducible refine (cC _ hu).mono ?_); rintro e w1 ⟨rfl, hb1⟩; replace hu := hu.call hb1; clear hb1)
    go_ret2
    exact ⟨rfl, hu⟩
  have hd := ndd_of he
  have hkd := hd.kd
  have hbl := pgBody_length hd
  have cB := fun u (hu : Calm w u) => pageBody_any kd A1 A2 A3 A4 c1 c2 c3 c4 E K S T u (h.calm hu) hd
  have G : PgWriteEnd kd E K S T w = fun e w' => e = .returned (.tuple #[.string ⟨(pgEnc kd E K S T).toArray⟩, .int .i64 0]) ∧ Calm w w' := by
    funext e w'; simp only [PgWriteEnd, pgS, he, if_true]
  obtain ⟨k1, hk1⟩ : ∃ k1, k1 = 1 + kd := ⟨_, rfl⟩
  have i1 : IntKind.i64.wrap (1 + kd) = k1 := by rw [IntWalk.i64_in _ (by omega)]; omega
  have i2 : 1 + kd = k1 := hk1.symm
  have i3 : IntKind.i64.wrap k1 = k1 := IntWalk.i64_in _ (by omega)
  have cP := fun u => pgPut_good k1 ⟨(pgBody E K S T).toArray⟩ ⟨(pgEnc kd E K S T).toArray⟩ (frErr_in (by omega) (by omega) (by rw [bytes_size]; omega)) (by rw [bytes_list, bytes_list, pgEnc, show k1.toNat = kd.toNat + 1 from by omega]) u
  rw [G]
  rw [he] at cC
  generalize (⟨(pgEnc kd E K S T).toArray⟩ : ByteArray) = W at cP ⊢
  generalize (⟨(pgBody E K S T).toArray⟩ : ByteArray) = B at cP cB
  clear G he hd hkd hbl h hk1
  obtain ⟨x0, x1, x2, x3, x4, hxs⟩ := row5 hx
  go_enter Try.func35, Try.ntmps35
  go_upto_region 4 with (go_at_call 42; (with_reducible refine (cC _ hu).mono ?_); rintro e w1 ⟨rfl, hb1⟩; replace hu := hu.call hb1; replace hx := (hb1.block (row5 hx).2.2.2.2.2).trans hx; clear hb1; obtain ⟨x0, x1, x2, x3, x4, hxs⟩ := row5 hx)
  clear cC
  have hv := hu
  clear hu
  refine wp_region_plan [.val (.pointer (some ⟨w.heap.size, 0, none⟩)), .val (.int .i64 (kd)), .val (.int .i64 (k1)), .val (.agg #[.int .i64 kd, .slice A1 E.length c1, .slice A2 K.length c2, .slice A3 S.length c3, .slice A4 T.length c4]), .val (.string B), .val (.agg #[.int .i64 k1, .string B]), .val (.tuple #[.string W, .int .i64 0]), .val (.string W), .val (.int .i64 (0)), .val (.string W), .val (.int .i64 (0))] (by kernel_rfl) (by kernel_rfl) (by kernel_rfl) ?_
  intro X
  iterate 11
    refine plan_val (by kernel_rfl) (fun u hu => ?_) ?_
    · obtain ⟨hc, hf, hz⟩ := hu.of_drew.facts
      go_simp
      all_goals first
        | ((go_at_call 55; exact cB _ (hv.call hu.of_drew)))
        | ((go_at_call 31; exact cP _))
        | (exact i1)
        | (exact i3)
    simp only [Act.put, List.setIfInBounds_toArray, List.set_cons_zero, List.set_cons_succ, Nat.reduceAdd]
  refine plan_end ?_
  intro w' hB
  have hk := hB.calm.of_drew
  clear hB
  go_wp2
  go_ret2
  exact ⟨rfl, hv.call hk⟩
open Go.RowKit
instance : DecidableEq Sp := fun a b => decidable_of_iff (a.p = b.p ∧ a.o = b.o ∧ a.f = b.f ∧ a.m = b.m) (by cases a; cases b; simp)
set_option maxHeartbeats 8000000 in
theorem equalI_any (A A' : Option Addr) (c c' : Nat) (l l' : List Int) (w : World) (hn : l.length ≤ 9223372036854775807) (hL : LiesI w A l) (hL' : LiesI w A' l') :
    Calls Try.prog 60 #[.slice A l.length c, .slice A' l'.length c'] w fun e w' => e = .returned (.bool (decide (l = l'))) ∧ Calm w w' := by
  by_cases hll : l.length = l'.length
  rotate_left
  · have hd : decide (l = l') = false := decide_eq_false fun h => hll (by rw [h])
    have hz : ¬ (l.length : Int) = (l'.length : Int) := by omega
    rw [hd]
    clear hd hll hL hL'
    go_enter Try.func60, Try.ntmps60
    go_wp2_with fail
    go_ret
    exact ⟨rfl, Calm.refl _⟩
  generalize hr : decide (l = l') = r
  have HR : Hid (decide (l = l') = r) := hr
  clear hr
  obtain ⟨n, hn1⟩ : ∃ n, n = l.length := ⟨_, rfl⟩
  have hn2 : n = l'.length := hn1.trans hll
  rw [← hn1, ← hn2]
  rw [← hn1] at hn
  have HN1 : Hid (n = l.length) := hn1
  have HN2 : Hid (n = l'.length) := hn2
  clear hn1 hn2 hll
  go_enter Try.func60, Try.ntmps60
  go_wp2_with fail
  go_loopw [13] (fun i wr => ∃ k : Nat, k ≤ n ∧ i = .int .i64 k ∧ Calm w wr ∧ Hid (∀ j, j < k → l[j]? = l'[j]?)) (fun i _ => n - (intOf i).toNat)
  case atStart => exact ⟨0, Nat.zero_le _, rfl, Calm.refl _, show ∀ _, _ from fun j h => absurd h (Nat.not_lt_zero _)⟩
  case round =>
    obtain ⟨k, hk, rfl, hu, hN⟩ := hrel
    by_cases hlt : k < n
    rotate_left
    · have K : Hid (r = true) := by
        rw [← HR.out]
        refine decide_eq_true (List.ext_getElem? fun j => ?_)
        rcases Nat.lt_or_ge j k with h | h
        · exact hN.out j h
        · rw [List.getElem?_eq_none (by rw [← HN1.out]; omega), List.getElem?_eq_none (by rw [← HN2.out]; omega)]
      clear HR
      go_wp2_with fail
      go_ret
      exact ⟨by rw [K.out]; rfl, hu⟩
    obtain ⟨b, q, x, rfl, hb, HE, c0⟩ := (hL.calm hu).get (by rw [← HN1.out]; exact hlt)
    obtain ⟨b', q', x', rfl, hb', HE', d0⟩ := (hL'.calm hu).get (by rw [← HN2.out]; exact hlt)
    have hiz : (k : Int) < (n : Int) := by omega
    have hDF : (x : Int) ≠ x' → l ≠ l' := fun h h2 => by
      have h3 := HE.out; rw [h2, HE'.out] at h3; injection h3 with h3; exact h h3.symm
    have hN1 : (x : Int) = x' → Hid (∀ j, j < k + 1 → l[j]? = l'[j]?) := fun h => show ∀ _, _ from fun j hj => by
      rcases Nat.lt_or_ge j k with h2 | h2
      · exact hN.out j h2
      · rw [show j = k by omega, HE.out, HE'.out, h]
    have HR2 := HR.out
    clear hL hL' HE HE'
    have hcs : (¬ x = x') ∨ (x = x') := by
      by_cases e0 : x = x' <;> simp [*]
    rcases hcs with h0 | h0
    · skip
      go_wp2_with fail
      refine wp_region_plan [.val (.slice (some ⟨b, q, none⟩) n c), .val (.int .i64 ((k : Int))), .val (.pointer (some ⟨b, q + k, none⟩)), .val (.int .i64 x), .val (.slice (some ⟨b', q', none⟩) n c'), .val (.int .i64 ((k : Int))), .val (.pointer (some ⟨b', q' + k, none⟩)), .val (.int .i64 x'), .val (.bool true)] (by kernel_rfl) (by kernel_rfl) (by kernel_rfl) ?_
      intro X
      iterate 9
        refine plan_val (by kernel_rfl) (fun u hu => ?_) ?_
        · obtain ⟨hc, hf, hz⟩ := hu.of_drew.facts
          go_simp
        simp only [Act.put, List.setIfInBounds_toArray, List.set_cons_zero, List.set_cons_succ, Nat.reduceAdd]
      refine plan_end ?_
      intro w' hB
      have hk := hB.calm.of_drew
      clear hB
      go_wp2_with fail
      go_ret
      exact ⟨ret_bool ((decide_eq_false (hDF (by simp [*]))).symm.trans HR2), hu.call hk⟩
    · skip
      subst h0
      have hN2 := hN1 rfl
      clear hN1 hDF
      go_wp2_with fail
      refine wp_region_plan [.val (.slice (some ⟨b, q, none⟩) n c), .val (.int .i64 ((k : Int))), .val (.pointer (some ⟨b, q + k, none⟩)), .val (.int .i64 x), .val (.slice (some ⟨b', q', none⟩) n c'), .val (.int .i64 ((k : Int))), .val (.pointer (some ⟨b', q' + k, none⟩)), .val (.int .i64 x), .val (.bool false)] (by kernel_rfl) (by kernel_rfl) (by kernel_rfl) ?_
      intro X
      iterate 9
        refine plan_val (by kernel_rfl) (fun u hu => ?_) ?_
        · obtain ⟨hc, hf, hz⟩ := hu.of_drew.facts
          go_simp
        simp only [Act.put, List.setIfInBounds_toArray, List.set_cons_zero, List.set_cons_succ, Nat.reduceAdd]
      refine plan_end ?_
      intro w' hB
      have hk := hB.calm.of_drew
      clear hB
      go_wp2_with fail
      go_roundw
      case rel => exact ⟨k + 1, by omega, by go_num, hu.call hk, hN2⟩
      case measure => simp [intOf]; omega
set_option maxHeartbeats 8000000 in
theorem equalS_any (A A' : Option Addr) (c c' : Nat) (l l' : List Sp) (w : World) (hn : l.length ≤ 9223372036854775807) (hL : LiesS w A l) (hL' : LiesS w A' l') :
    Calls Try.prog 61 #[.slice A l.length c, .slice A' l'.length c'] w fun e w' => e = .returned (.bool (decide (l = l'))) ∧ Calm w w' := by
  by_cases hll : l.length = l'.length
  rotate_left
  · have hd : decide (l = l') = false := decide_eq_false fun h => hll (by rw [h])
    have hz : ¬ (l.length : Int) = (l'.length : Int) := by omega
    rw [hd]
    clear hd hll hL hL'
    go_enter Try.func61, Try.ntmps61
    go_wp2_with fail
    go_ret
    exact ⟨rfl, Calm.refl _⟩
  generalize hr : decide (l = l') = r
  have HR : Hid (decide (l = l') = r) := hr
  clear hr
  obtain ⟨n, hn1⟩ : ∃ n, n = l.length := ⟨_, rfl⟩
  have hn2 : n = l'.length := hn1.trans hll
  rw [← hn1, ← hn2]
  rw [← hn1] at hn
  have HN1 : Hid (n = l.length) := hn1
  have HN2 : Hid (n = l'.length) := hn2
  clear hn1 hn2 hll
  go_enter Try.func61, Try.ntmps61
  go_wp2_with fail
  go_loopw [13] (fun i wr => ∃ k : Nat, k ≤ n ∧ i = .int .i64 k ∧ Calm w wr ∧ Hid (∀ j, j < k → l[j]? = l'[j]?)) (fun i _ => n - (intOf i).toNat)
  case atStart => exact ⟨0, Nat.zero_le _, rfl, Calm.refl _, show ∀ _, _ from fun j h => absurd h (Nat.not_lt_zero _)⟩
  case round =>
    obtain ⟨k, hk, rfl, hu, hN⟩ := hrel
    by_cases hlt : k < n
    rotate_left
    · have K : Hid (r = true) := by
        rw [← HR.out]
        refine decide_eq_true (List.ext_getElem? fun j => ?_)
        rcases Nat.lt_or_ge j k with h | h
        · exact hN.out j h
        · rw [List.getElem?_eq_none (by rw [← HN1.out]; omega), List.getElem?_eq_none (by rw [← HN2.out]; omega)]
      clear HR
      go_wp2_with fail
      go_ret
      exact ⟨by rw [K.out]; rfl, hu⟩
    obtain ⟨b, q, p, o, f, m, rfl, hb, HE, -, c0, c1, c2, c3⟩ := (hL.calm hu).get (by rw [← HN1.out]; exact hlt)
    obtain ⟨b', q', p', o', f', m', rfl, hb', HE', -, d0, d1, d2, d3⟩ := (hL'.calm hu).get (by rw [← HN2.out]; exact hlt)
    have hiz : (k : Int) < (n : Int) := by omega
    have hDF : (⟨p, o, f, m⟩ : Sp) ≠ ⟨p', o', f', m'⟩ → l ≠ l' := fun h h2 => by
      have h3 := HE.out; rw [h2, HE'.out] at h3; injection h3 with h3; exact h h3.symm
    have hN1 : (⟨p, o, f, m⟩ : Sp) = ⟨p', o', f', m'⟩ → Hid (∀ j, j < k + 1 → l[j]? = l'[j]?) := fun h => show ∀ _, _ from fun j hj => by
      rcases Nat.lt_or_ge j k with h2 | h2
      · exact hN.out j h2
      · rw [show j = k by omega, HE.out, HE'.out, h]
    have HR2 := HR.out
    clear hL hL' HE HE'
    have hcs : (¬ p = p') ∨ (p = p' ∧ ¬ o = o') ∨ (p = p' ∧ o = o' ∧ ¬ f = f') ∨ (p = p' ∧ o = o' ∧ f = f' ∧ ¬ m = m') ∨ (p = p' ∧ o = o' ∧ f = f' ∧ m = m') := by
      by_cases e0 : p = p' <;> by_cases e1 : o = o' <;> by_cases e2 : f = f' <;> by_cases e3 : m = m' <;> simp [*]
    rcases hcs with ⟨h0⟩ | ⟨h0, h1⟩ | ⟨h0, h1, h2⟩ | ⟨h0, h1, h2, h3⟩ | ⟨h0, h1, h2, h3⟩
    · skip
      go_wp2_with fail
      refine wp_region_plan [.val (.slice (some ⟨b, q, none⟩) n c), .val (.int .i64 ((k : Int))), .val (.pointer (some ⟨b, q + k * 4, none⟩)), .val (.agg #[.int .i64 p, .int .i64 o, .int .i64 f, .int .i64 m]), .val (.slice (some ⟨b', q', none⟩) n c'), .val (.int .i64 ((k : Int))), .val (.pointer (some ⟨b', q' + k * 4, none⟩)), .val (.agg #[.int .i64 p', .int .i64 o', .int .i64 f', .int .i64 m']), .val (.bool true)] (by kernel_rfl) (by kernel_rfl) (by kernel_rfl) ?_
      intro X
      iterate 9
        refine plan_val (by kernel_rfl) (fun u hu => ?_) ?_
        · obtain ⟨hc, hf, hz⟩ := hu.of_drew.facts
          go_simp
        simp only [Act.put, List.setIfInBounds_toArray, List.set_cons_zero, List.set_cons_succ, Nat.reduceAdd]
      refine plan_end ?_
      intro w' hB
      have hk := hB.calm.of_drew
      clear hB
      go_wp2_with fail
      go_ret
      exact ⟨ret_bool ((decide_eq_false (hDF (by simp [*]))).symm.trans HR2), hu.call hk⟩
    · skip
      subst h0
      go_wp2_with fail
      refine wp_region_plan [.val (.slice (some ⟨b, q, none⟩) n c), .val (.int .i64 ((k : Int))), .val (.pointer (some ⟨b, q + k * 4, none⟩)), .val (.agg #[.int .i64 p, .int .i64 o, .int .i64 f, .int .i64 m]), .val (.slice (some ⟨b', q', none⟩) n c'), .val (.int .i64 ((k : Int))), .val (.pointer (some ⟨b', q' + k * 4, none⟩)), .val (.agg #[.int .i64 p, .int .i64 o', .int .i64 f', .int .i64 m']), .val (.bool true)] (by kernel_rfl) (by kernel_rfl) (by kernel_rfl) ?_
      intro X
      iterate 9
        refine plan_val (by kernel_rfl) (fun u hu => ?_) ?_
        · obtain ⟨hc, hf, hz⟩ := hu.of_drew.facts
          go_simp
        simp only [Act.put, List.setIfInBounds_toArray, List.set_cons_zero, List.set_cons_succ, Nat.reduceAdd]
      refine plan_end ?_
      intro w' hB
      have hk := hB.calm.of_drew
      clear hB
      go_wp2_with fail
      go_ret
      exact ⟨ret_bool ((decide_eq_false (hDF (by simp [*]))).symm.trans HR2), hu.call hk⟩
    · skip
      subst h0
      subst h1
      go_wp2_with fail
      refine wp_region_plan [.val (.slice (some ⟨b, q, none⟩) n c), .val (.int .i64 ((k : Int))), .val (.pointer (some ⟨b, q + k * 4, none⟩)), .val (.agg #[.int .i64 p, .int .i64 o, .int .i64 f, .int .i64 m]), .val (.slice (some ⟨b', q', none⟩) n c'), .val (.int .i64 ((k : Int))), .val (.pointer (some ⟨b', q' + k * 4, none⟩)), .val (.agg #[.int .i64 p, .int .i64 o, .int .i64 f', .int .i64 m']), .val (.bool true)] (by kernel_rfl) (by kernel_rfl) (by kernel_rfl) ?_
      intro X
      iterate 9
        refine plan_val (by kernel_rfl) (fun u hu => ?_) ?_
        · obtain ⟨hc, hf, hz⟩ := hu.of_drew.facts
          go_simp
        simp only [Act.put, List.setIfInBounds_toArray, List.set_cons_zero, List.set_cons_succ, Nat.reduceAdd]
      refine plan_end ?_
      intro w' hB
      have hk := hB.calm.of_drew
      clear hB
      go_wp2_with fail
      go_ret
      exact ⟨ret_bool ((decide_eq_false (hDF (by simp [*]))).symm.trans HR2), hu.call hk⟩
    · skip
      subst h0
      subst h1
      subst h2
      go_wp2_with fail
      refine wp_region_plan [.val (.slice (some ⟨b, q, none⟩) n c), .val (.int .i64 ((k : Int))), .val (.pointer (some ⟨b, q + k * 4, none⟩)), .val (.agg #[.int .i64 p, .int .i64 o, .int .i64 f, .int .i64 m]), .val (.slice (some ⟨b', q', none⟩) n c'), .val (.int .i64 ((k : Int))), .val (.pointer (some ⟨b', q' + k * 4, none⟩)), .val (.agg #[.int .i64 p, .int .i64 o, .int .i64 f, .int .i64 m']), .val (.bool true)] (by kernel_rfl) (by kernel_rfl) (by kernel_rfl) ?_
      intro X
      iterate 9
        refine plan_val (by kernel_rfl) (fun u hu => ?_) ?_
        · obtain ⟨hc, hf, hz⟩ := hu.of_drew.facts
          go_simp
        simp only [Act.put, List.setIfInBounds_toArray, List.set_cons_zero, List.set_cons_succ, Nat.reduceAdd]
      refine plan_end ?_
      intro w' hB
      have hk := hB.calm.of_drew
      clear hB
      go_wp2_with fail
      go_ret
      exact ⟨ret_bool ((decide_eq_false (hDF (by simp [*]))).symm.trans HR2), hu.call hk⟩
    · skip
      subst h0
      subst h1
      subst h2
      subst h3
      have hN2 := hN1 rfl
      clear hN1 hDF
      go_wp2_with fail
      refine wp_region_plan [.val (.slice (some ⟨b, q, none⟩) n c), .val (.int .i64 ((k : Int))), .val (.pointer (some ⟨b, q + k * 4, none⟩)), .val (.agg #[.int .i64 p, .int .i64 o, .int .i64 f, .int .i64 m]), .val (.slice (some ⟨b', q', none⟩) n c'), .val (.int .i64 ((k : Int))), .val (.pointer (some ⟨b', q' + k * 4, none⟩)), .val (.agg #[.int .i64 p, .int .i64 o, .int .i64 f, .int .i64 m]), .val (.bool false)] (by kernel_rfl) (by kernel_rfl) (by kernel_rfl) ?_
      intro X
      iterate 9
        refine plan_val (by kernel_rfl) (fun u hu => ?_) ?_
        · obtain ⟨hc, hf, hz⟩ := hu.of_drew.facts
          go_simp
        simp only [Act.put, List.setIfInBounds_toArray, List.set_cons_zero, List.set_cons_succ, Nat.reduceAdd]
      refine plan_end ?_
      intro w' hB
      have hk := hB.calm.of_drew
      clear hB
      go_wp2_with fail
      go_roundw
      case rel => exact ⟨k + 1, by omega, by go_num, hu.call hk, hN2⟩
      case measure => simp [intOf]; omega
set_option maxHeartbeats 8000000 in
theorem sameNode_any (kd : Int) (A1 A2 A3 A4 : Option Addr) (c1 c2 c3 c4 : Nat) (E : List El) (K : List Int) (S : List Sp) (T : List Int) (kd' : Int) (A1' A2' A3' A4' : Option Addr) (c1' c2' c3' c4' : Nat) (E' : List El) (K' : List Int) (S' : List Sp) (T' : List Int) (w : World) (h : NdAt w A1 A2 A3 A4 E K S T) (h' : NdAt w A1' A2' A3' A4' E' K' S' T') :
    Calls Try.prog 40 #[.agg #[.int .i64 kd, .slice A1 E.length c1, .slice A2 K.length c2, .slice A3 S.length c3, .slice A4 T.length c4], .agg #[.int .i64 kd', .slice A1' E'.length c1', .slice A2' K'.length c2', .slice A3' S'.length c3', .slice A4' T'.length c4']] w fun e w' => e = .returned (.bool (decide (kd = kd' ∧ E = E' ∧ K = K' ∧ S = S' ∧ T = T'))) ∧ Calm w w' := by
  have hx := heap_past (.cells #[.int .i64 kd', .slice A1' E'.length c1', .slice A2' K'.length c2', .slice A3' S'.length c3', .slice A4' T'.length c4'] 63) (heap_new w (.cells #[.int .i64 kd, .slice A1 E.length c1, .slice A2 K.length c2, .slice A3 S.length c3, .slice A4 T.length c4] 63))
  have hy := heap_new2 w (.cells #[.int .i64 kd, .slice A1 E.length c1, .slice A2 K.length c2, .slice A3 S.length c3, .slice A4 T.length c4] 63) (.cells #[.int .i64 kd', .slice A1' E'.length c1', .slice A2' K'.length c2', .slice A3' S'.length c3', .slice A4' T'.length c4'] 63)
  have hu := ((Calm.refl w).alloc (.cells #[.int .i64 kd, .slice A1 E.length c1, .slice A2 K.length c2, .slice A3 S.length c3, .slice A4 T.length c4] 63)).alloc (.cells #[.int .i64 kd', .slice A1' E'.length c1', .slice A2' K'.length c2', .slice A3' S'.length c3', .slice A4' T'.length c4'] 63)
  have cE := fun u (hu : Calm w u) => equal_any A1 A1' c1 c1' E E' u h.ne h'.ne (h.e.calm hu) (h'.e.calm hu)
  have cK := fun u (hu : Calm w u) => equalI_any A2 A2' c2 c2' K K' u h.nk (h.k.calm hu) (h'.k.calm hu)
  have cS := fun u (hu : Calm w u) => equalS_any A3 A3' c3 c3' S S' u h.ns (h.s.calm hu) (h'.s.calm hu)
  have cT := fun u (hu : Calm w u) => equalI_any A4 A4' c4 c4' T T' u h.nt (h.t.calm hu) (h'.t.calm hu)
  have hG : Hid (decide (kd = kd' ∧ E = E' ∧ K = K' ∧ S = S' ∧ T = T') = (decide (kd = kd') && decide (E = E') && decide (K = K') && decide (S = S') && decide (T = T'))) := by show _ = _; simp [Bool.decide_and, Bool.and_assoc]
  generalize decide (kd = kd' ∧ E = E' ∧ K = K' ∧ S = S' ∧ T = T') = r at hG ⊢
  generalize decide (E = E') = bE at cE hG
  generalize decide (K = K') = bK at cK hG
  generalize decide (S = S') = bS at cS hG
  generalize decide (T = T') = bT at cT hG
  have hk : (kd == kd') = decide (kd = kd') := by by_cases e : kd = kd' <;> simp [e]
  clear h h'
  obtain ⟨x0, x1, x2, x3, x4, hxs⟩ := row5 hx
  obtain ⟨y0, y1, y2, y3, y4, hys⟩ := row5 hy
  by_cases hkd : kd = kd'
  rotate_left
  · rw [decide_eq_false hkd] at hG hk
    clear hkd
    go_enter Try.func40, Try.ntmps40
    go_wp2_with fail
    go_ret
    exact ⟨ret_bool (by rw [hG.out]; simp), hu⟩
  subst hkd
  rw [decide_eq_true rfl] at hG hk
  clear hk
  cases bE
  · go_enter Try.func40, Try.ntmps40
    go_wp2_with (first
                    | (go_at_call 24; (with_reducible refine (cE _ hu).mono ?_); rintro e w1 ⟨rfl, hb1⟩; replace hu := hu.call hb1; replace hx := (hb1.block (row5 hx).2.2.2.2.2).trans hx; replace hy := (hb1.block (row5 hy).2.2.2.2.2).trans hy; clear hb1; obtain ⟨x0, x1, x2, x3, x4, hxs⟩ := row5 hx; obtain ⟨y0, y1, y2, y3, y4, hys⟩ := row5 hy)
                    | (go_at_call 60; (first | (with_reducible refine (cK _ hu).mono ?_) | (with_reducible refine (cT _ hu).mono ?_)); rintro e w1 ⟨rfl, hb1⟩; replace hu := hu.call hb1; replace hx := (hb1.block (row5 hx).2.2.2.2.2).trans hx; replace hy := (hb1.block (row5 hy).2.2.2.2.2).trans hy; clear hb1; obtain ⟨x0, x1, x2, x3, x4, hxs⟩ := row5 hx; obtain ⟨y0, y1, y2, y3, y4, hys⟩ := row5 hy)
                    | (go_at_call 61; (with_reducible refine (cS _ hu).mono ?_); rintro e w1 ⟨rfl, hb1⟩; replace hu := hu.call hb1; replace hx := (hb1.block (row5 hx).2.2.2.2.2).trans hx; replace hy := (hb1.block (row5 hy).2.2.2.2.2).trans hy; clear hb1; obtain ⟨x0, x1, x2, x3, x4, hxs⟩ := row5 hx; obtain ⟨y0, y1, y2, y3, y4, hys⟩ := row5 hy))
    go_ret
    exact ⟨ret_bool (by rw [hG.out]; simp), hu⟩
  · cases bK
    · go_enter Try.func40, Try.ntmps40
      go_wp2_with (first
                    | (go_at_call 24; (with_reducible refine (cE _ hu).mono ?_); rintro e w1 ⟨rfl, hb1⟩; replace hu := hu.call hb1; replace hx := (hb1.block (row5 hx).2.2.2.2.2).trans hx; replace hy := (hb1.block (row5 hy).2.2.2.2.2).trans hy; clear hb1; obtain ⟨x0, x1, x2, x3, x4, hxs⟩ := row5 hx; obtain ⟨y0, y1, y2, y3, y4, hys⟩ := row5 hy)
                    | (go_at_call 60; (first | (with_reducible refine (cK _ hu).mono ?_) | (with_reducible refine (cT _ hu).mono ?_)); rintro e w1 ⟨rfl, hb1⟩; replace hu := hu.call hb1; replace hx := (hb1.block (row5 hx).2.2.2.2.2).trans hx; replace hy := (hb1.block (row5 hy).2.2.2.2.2).trans hy; clear hb1; obtain ⟨x0, x1, x2, x3, x4, hxs⟩ := row5 hx; obtain ⟨y0, y1, y2, y3, y4, hys⟩ := row5 hy)
                    | (go_at_call 61; (with_reducible refine (cS _ hu).mono ?_); rintro e w1 ⟨rfl, hb1⟩; replace hu := hu.call hb1; replace hx := (hb1.block (row5 hx).2.2.2.2.2).trans hx; replace hy := (hb1.block (row5 hy).2.2.2.2.2).trans hy; clear hb1; obtain ⟨x0, x1, x2, x3, x4, hxs⟩ := row5 hx; obtain ⟨y0, y1, y2, y3, y4, hys⟩ := row5 hy))
      go_ret
      exact ⟨ret_bool (by rw [hG.out]; simp), hu⟩
    · cases bS
      · go_enter Try.func40, Try.ntmps40
        go_wp2_with (first
                    | (go_at_call 24; (with_reducible refine (cE _ hu).mono ?_); rintro e w1 ⟨rfl, hb1⟩; replace hu := hu.call hb1; replace hx := (hb1.block (row5 hx).2.2.2.2.2).trans hx; replace hy := (hb1.block (row5 hy).2.2.2.2.2).trans hy; clear hb1; obtain ⟨x0, x1, x2, x3, x4, hxs⟩ := row5 hx; obtain ⟨y0, y1, y2, y3, y4, hys⟩ := row5 hy)
                    | (go_at_call 60; (first | (with_reducible refine (cK _ hu).mono ?_) | (with_reducible refine (cT _ hu).mono ?_)); rintro e w1 ⟨rfl, hb1⟩; replace hu := hu.call hb1; replace hx := (hb1.block (row5 hx).2.2.2.2.2).trans hx; replace hy := (hb1.block (row5 hy).2.2.2.2.2).trans hy; clear hb1; obtain ⟨x0, x1, x2, x3, x4, hxs⟩ := row5 hx; obtain ⟨y0, y1, y2, y3, y4, hys⟩ := row5 hy)
                    | (go_at_call 61; (with_reducible refine (cS _ hu).mono ?_); rintro e w1 ⟨rfl, hb1⟩; replace hu := hu.call hb1; replace hx := (hb1.block (row5 hx).2.2.2.2.2).trans hx; replace hy := (hb1.block (row5 hy).2.2.2.2.2).trans hy; clear hb1; obtain ⟨x0, x1, x2, x3, x4, hxs⟩ := row5 hx; obtain ⟨y0, y1, y2, y3, y4, hys⟩ := row5 hy))
        go_ret
        exact ⟨ret_bool (by rw [hG.out]; simp), hu⟩
      · cases bT
        · go_enter Try.func40, Try.ntmps40
          go_wp2_with (first
                    | (go_at_call 24; (with_reducible refine (cE _ hu).mono ?_); rintro e w1 ⟨rfl, hb1⟩; replace hu := hu.call hb1; replace hx := (hb1.block (row5 hx).2.2.2.2.2).trans hx; replace hy := (hb1.block (row5 hy).2.2.2.2.2).trans hy; clear hb1; obtain ⟨x0, x1, x2, x3, x4, hxs⟩ := row5 hx; obtain ⟨y0, y1, y2, y3, y4, hys⟩ := row5 hy)
                    | (go_at_call 60; (first | (with_reducible refine (cK _ hu).mono ?_) | (with_reducible refine (cT _ hu).mono ?_)); rintro e w1 ⟨rfl, hb1⟩; replace hu := hu.call hb1; replace hx := (hb1.block (row5 hx).2.2.2.2.2).trans hx; replace hy := (hb1.block (row5 hy).2.2.2.2.2).trans hy; clear hb1; obtain ⟨x0, x1, x2, x3, x4, hxs⟩ := row5 hx; obtain ⟨y0, y1, y2, y3, y4, hys⟩ := row5 hy)
                    | (go_at_call 61; (with_reducible refine (cS _ hu).mono ?_); rintro e w1 ⟨rfl, hb1⟩; replace hu := hu.call hb1; replace hx := (hb1.block (row5 hx).2.2.2.2.2).trans hx; replace hy := (hb1.block (row5 hy).2.2.2.2.2).trans hy; clear hb1; obtain ⟨x0, x1, x2, x3, x4, hxs⟩ := row5 hx; obtain ⟨y0, y1, y2, y3, y4, hys⟩ := row5 hy))
          go_ret
          exact ⟨ret_bool (by rw [hG.out]; simp), hu⟩
        · go_enter Try.func40, Try.ntmps40
          go_wp2_with (first
                    | (go_at_call 24; (with_reducible refine (cE _ hu).mono ?_); rintro e w1 ⟨rfl, hb1⟩; replace hu := hu.call hb1; replace hx := (hb1.block (row5 hx).2.2.2.2.2).trans hx; replace hy := (hb1.block (row5 hy).2.2.2.2.2).trans hy; clear hb1; obtain ⟨x0, x1, x2, x3, x4, hxs⟩ := row5 hx; obtain ⟨y0, y1, y2, y3, y4, hys⟩ := row5 hy)
                    | (go_at_call 60; (first | (with_reducible refine (cK _ hu).mono ?_) | (with_reducible refine (cT _ hu).mono ?_)); rintro e w1 ⟨rfl, hb1⟩; replace hu := hu.call hb1; replace hx := (hb1.block (row5 hx).2.2.2.2.2).trans hx; replace hy := (hb1.block (row5 hy).2.2.2.2.2).trans hy; clear hb1; obtain ⟨x0, x1, x2, x3, x4, hxs⟩ := row5 hx; obtain ⟨y0, y1, y2, y3, y4, hys⟩ := row5 hy)
                    | (go_at_call 61; (with_reducible refine (cS _ hu).mono ?_); rintro e w1 ⟨rfl, hb1⟩; replace hu := hu.call hb1; replace hx := (hb1.block (row5 hx).2.2.2.2.2).trans hx; replace hy := (hb1.block (row5 hy).2.2.2.2.2).trans hy; clear hb1; obtain ⟨x0, x1, x2, x3, x4, hxs⟩ := row5 hx; obtain ⟨y0, y1, y2, y3, y4, hys⟩ := row5 hy))
          go_ret
          exact ⟨ret_bool (by rw [hG.out]; simp), hu⟩
open Go.ChangeShapes Go.WideShapes Go.ChangeAt Go.RowKit
theorem wr_good (kd : Int) (A1 A2 A3 A4 : Option Addr) (c1 c2 c3 c4 : Nat) (E : List El) (K : List Int) (S : List Sp) (T : List Int) (w : World) (h : NdAt w A1 A2 A3 A4 E K S T) (he : ndErr kd E K S T = 0) (W : ByteArray) (hW : pgEnc kd E K S T = W.data.toList) :
    Calls Try.prog 35 #[.agg #[.int .i64 kd, .slice A1 E.length c1, .slice A2 K.length c2, .slice A3 S.length c3, .slice A4 T.length c4]] w fun e w' => e = .returned (.tuple #[.string W, .int .i64 0]) ∧ Calm w w' :=
  (pageWrite_any kd A1 A2 A3 A4 c1 c2 c3 c4 E K S T w h).mono fun e w' ⟨h1, h2⟩ => ⟨by rw [h1, pgS, if_pos he, he, hW], h2⟩
theorem wr_bad (kd : Int) (A1 A2 A3 A4 : Option Addr) (c1 c2 c3 c4 : Nat) (E : List El) (K : List Int) (S : List Sp) (T : List Int) (w : World) (h : NdAt w A1 A2 A3 A4 E K S T) (n : Int) (he : ndErr kd E K S T = n) (hn : n ≠ 0) :
    Calls Try.prog 35 #[.agg #[.int .i64 kd, .slice A1 E.length c1, .slice A2 K.length c2, .slice A3 S.length c3, .slice A4 T.length c4]] w fun e w' => e = .returned (.tuple #[.string { data := #[] }, .int .i64 n]) ∧ Calm w w' :=
  (pageWrite_any kd A1 A2 A3 A4 c1 c2 c3 c4 E K S T w h).mono fun e w' ⟨h1, h2⟩ => ⟨by rw [h1, pgS, if_neg (by rw [he]; exact hn), he], h2⟩
open Go.ChangeShapes Go.WideShapes Go.ChangeAt Go.RowKit
def pg0 : ByteArray := ⟨(pgEnc 0 [] [] [] []).toArray⟩
theorem pg0_size : pg0.size = 5 := by decide +kernel
theorem pg0_head : pg0.extract 0 3 = { data := #[1, 0, 0] } := by decide +kernel
theorem wr_zero (w : World) : Calls Try.prog 35 #[.agg #[.int .i64 0, .slice none 0 0, .slice none 0 0, .slice none 0 0, .slice none 0 0]] w fun e w' => e = .returned (.tuple #[.string pg0, .int .i64 0]) ∧ Calm w w' :=
 wr_good 0 none none none none 0 0 0 0 [] [] [] [] w (NdOwn.zero 0 w).at_ (by decide +kernel) pg0 (by simp [pg0])
set_option maxHeartbeats 8000000 in
theorem pageApart_walk (kd : Int) (A1 A2 A3 A4 : Option Addr) (c1 c2 c3 c4 : Nat) (E : List El) (K : List Int) (S : List Sp) (T : List Int) (kd' : Int) (A1' A2' A3' A4' : Option Addr) (c1' c2' c3' c4' : Nat) (E' : List El) (K' : List Int) (S' : List Sp) (T' : List Int) (w : World) (h : NdAt w A1 A2 A3 A4 E K S T) (h' : NdAt w A1' A2' A3' A4' E' K' S' T') :
    Calls Try.prog 16 #[.agg #[.int .i64 kd, .slice A1 E.length c1, .slice A2 K.length c2, .slice A3 S.length c3, .slice A4 T.length c4], .agg #[.int .i64 kd', .slice A1' E'.length c1', .slice A2' K'.length c2', .slice A3' S'.length c3', .slice A4' T'.length c4']] w fun e w' => e = .returned (.bool true) ∧ Calm w w' := by
  have hx := heap_past (.cells #[.int .i64 kd', .slice A1' E'.length c1', .slice A2' K'.length c2', .slice A3' S'.length c3', .slice A4' T'.length c4'] 63) (heap_new w (.cells #[.int .i64 kd, .slice A1 E.length c1, .slice A2 K.length c2, .slice A3 S.length c3, .slice A4 T.length c4] 63))
  have hy := heap_new2 w (.cells #[.int .i64 kd, .slice A1 E.length c1, .slice A2 K.length c2, .slice A3 S.length c3, .slice A4 T.length c4] 63) (.cells #[.int .i64 kd', .slice A1' E'.length c1', .slice A2' K'.length c2', .slice A3' S'.length c3', .slice A4' T'.length c4'] 63)
  have hu := ((Calm.refl w).alloc (.cells #[.int .i64 kd, .slice A1 E.length c1, .slice A2 K.length c2, .slice A3 S.length c3, .slice A4 T.length c4] 63)).alloc (.cells #[.int .i64 kd', .slice A1' E'.length c1', .slice A2' K'.length c2', .slice A3' S'.length c3', .slice A4' T'.length c4'] 63)
  have c0 := fun u => wr_zero u
  have z5 := pg0_size
  have z3 := pg0_head
  generalize pg0 = Z at c0 z5 z3
  obtain ⟨x0, x1, x2, x3, x4, hxs⟩ := row5 hx
  obtain ⟨y0, y1, y2, y3, y4, hys⟩ := row5 hy
  have z5i : (Z.size : Int) = 5 := by omega
  have cS := fun u (hu : Calm w u) => sameNode_any kd A1 A2 A3 A4 c1 c2 c3 c4 E K S T kd' A1' A2' A3' A4' c1' c2' c3' c4' E' K' S' T' u (h.calm hu) (h'.calm hu)
  by_cases ha : ndErr kd E K S T = 0
  rotate_left
  · have cA := fun u (hu : Calm w u) => wr_bad kd A1 A2 A3 A4 c1 c2 c3 c4 E K S T u (h.calm hu) _ rfl ha
    have b1 : (ndErr kd E K S T != 0) = true := by simpa using ha
    have b2 : (ndErr kd E K S T == 0) = false := by simpa using ha
    generalize ndErr kd E K S T = N at cA b1 b2
    obtain ⟨W', N', cB⟩ : ∃ (W' : ByteArray) (N' : Int), ∀ u (hu : Calm w u), Calls Try.prog 35 #[.agg #[.int .i64 kd', .slice A1' E'.length c1', .slice A2' K'.length c2', .slice A3' S'.length c3', .slice A4' T'.length c4']] u fun e w' => e = .returned (.tuple #[.string W', .int .i64 N']) ∧ Calm u w' := ⟨_, _, fun u hu => pageWrite_any kd' A1' A2' A3' A4' c1' c2' c3' c4' E' K' S' T' u (h'.calm hu)⟩
    clear ha h h' cS
    go_enter Try.func16, Try.ntmps16
    go_wp2_with (first
      | (go_at_call 35; (with_reducible refine (c0 _).mono ?_); rintro e w1 ⟨rfl, hb1⟩; replace hx := (hb1.block (row5 hx).2.2.2.2.2).trans hx; replace hy := (hb1.block (row5 hy).2.2.2.2.2).trans hy; replace hu := hu.call hb1; clear hb1; obtain ⟨x0, x1, x2, x3, x4, hxs⟩ := row5 hx; obtain ⟨y0, y1, y2, y3, y4, hys⟩ := row5 hy)
      | (go_at_call 35; (with_reducible refine (cA _ hu).mono ?_); rintro e w1 ⟨rfl, hb1⟩; replace hx := (hb1.block (row5 hx).2.2.2.2.2).trans hx; replace hy := (hb1.block (row5 hy).2.2.2.2.2).trans hy; replace hu := hu.call hb1; clear hb1; obtain ⟨x0, x1, x2, x3, x4, hxs⟩ := row5 hx; obtain ⟨y0, y1, y2, y3, y4, hys⟩ := row5 hy)
      | (go_at_call 35; (with_reducible refine (cB _ hu).mono ?_); rintro e w1 ⟨rfl, hb1⟩; replace hx := (hb1.block (row5 hx).2.2.2.2.2).trans hx; replace hy := (hb1.block (row5 hy).2.2.2.2.2).trans hy; replace hu := hu.call hb1; clear hb1; obtain ⟨x0, x1, x2, x3, x4, hxs⟩ := row5 hx; obtain ⟨y0, y1, y2, y3, y4, hys⟩ := row5 hy))
    go_ret
    exact ⟨rfl, hu⟩
  by_cases hb : ndErr kd' E' K' S' T' = 0
  rotate_left
  · have cA := fun u (hu : Calm w u) => wr_good kd A1 A2 A3 A4 c1 c2 c3 c4 E K S T u (h.calm hu) ha ⟨(pgEnc kd E K S T).toArray⟩ (by simp)
    have cB := fun u (hu : Calm w u) => wr_bad kd' A1' A2' A3' A4' c1' c2' c3' c4' E' K' S' T' u (h'.calm hu) _ rfl hb
    have b1 : (ndErr kd' E' K' S' T' != 0) = true := by simpa using hb
    generalize ndErr kd' E' K' S' T' = N at cB b1
    generalize (⟨(pgEnc kd E K S T).toArray⟩ : ByteArray) = W at cA
    clear ha hb h h' cS
    go_enter Try.func16, Try.ntmps16
    go_wp2_with (first
      | (go_at_call 35; (with_reducible refine (c0 _).mono ?_); rintro e w1 ⟨rfl, hb1⟩; replace hx := (hb1.block (row5 hx).2.2.2.2.2).trans hx; replace hy := (hb1.block (row5 hy).2.2.2.2.2).trans hy; replace hu := hu.call hb1; clear hb1; obtain ⟨x0, x1, x2, x3, x4, hxs⟩ := row5 hx; obtain ⟨y0, y1, y2, y3, y4, hys⟩ := row5 hy)
      | (go_at_call 35; (with_reducible refine (cA _ hu).mono ?_); rintro e w1 ⟨rfl, hb1⟩; replace hx := (hb1.block (row5 hx).2.2.2.2.2).trans hx; replace hy := (hb1.block (row5 hy).2.2.2.2.2).trans hy; replace hu := hu.call hb1; clear hb1; obtain ⟨x0, x1, x2, x3, x4, hxs⟩ := row5 hx; obtain ⟨y0, y1, y2, y3, y4, hys⟩ := row5 hy)
      | (go_at_call 35; (with_reducible refine (cB _ hu).mono ?_); rintro e w1 ⟨rfl, hb1⟩; replace hx := (hb1.block (row5 hx).2.2.2.2.2).trans hx; replace hy := (hb1.block (row5 hy).2.2.2.2.2).trans hy; replace hu := hu.call hb1; clear hb1; obtain ⟨x0, x1, x2, x3, x4, hxs⟩ := row5 hx; obtain ⟨y0, y1, y2, y3, y4, hys⟩ := row5 hy))
    go_ret
    exact ⟨rfl, hu⟩
  have cA := fun u (hu : Calm w u) => wr_good kd A1 A2 A3 A4 c1 c2 c3 c4 E K S T u (h.calm hu) ha ⟨(pgEnc kd E K S T).toArray⟩ (by simp)
  have cB := fun u (hu : Calm w u) => wr_good kd' A1' A2' A3' A4' c1' c2' c3' c4' E' K' S' T' u (h'.calm hu) hb ⟨(pgEnc kd' E' K' S' T').toArray⟩ (by simp)
  by_cases hs : kd = kd' ∧ E = E' ∧ K = K' ∧ S = S' ∧ T = T'
  · rw [decide_eq_true hs] at cS
    have hW : (⟨(pgEnc kd E K S T).toArray⟩ : ByteArray) = ⟨(pgEnc kd' E' K' S' T').toArray⟩ := by obtain ⟨rfl, rfl, rfl, rfl, rfl⟩ := hs; rfl
    rw [hW] at cA
    generalize (⟨(pgEnc kd' E' K' S' T').toArray⟩ : ByteArray) = W at cA cB
    clear ha hb h h' hs hW
    go_enter Try.func16, Try.ntmps16
    go_wp2_with (first
      | (go_at_call 35; (with_reducible refine (c0 _).mono ?_); rintro e w1 ⟨rfl, hb1⟩; replace hx := (hb1.block (row5 hx).2.2.2.2.2).trans hx; replace hy := (hb1.block (row5 hy).2.2.2.2.2).trans hy; replace hu := hu.call hb1; clear hb1; obtain ⟨x0, x1, x2, x3, x4, hxs⟩ := row5 hx; obtain ⟨y0, y1, y2, y3, y4, hys⟩ := row5 hy)
      | (go_at_call 35; (with_reducible refine (cA _ hu).mono ?_); rintro e w1 ⟨rfl, hb1⟩; replace hx := (hb1.block (row5 hx).2.2.2.2.2).trans hx; replace hy := (hb1.block (row5 hy).2.2.2.2.2).trans hy; replace hu := hu.call hb1; clear hb1; obtain ⟨x0, x1, x2, x3, x4, hxs⟩ := row5 hx; obtain ⟨y0, y1, y2, y3, y4, hys⟩ := row5 hy)
      | (go_at_call 35; (with_reducible refine (cB _ hu).mono ?_); rintro e w1 ⟨rfl, hb1⟩; replace hx := (hb1.block (row5 hx).2.2.2.2.2).trans hx; replace hy := (hb1.block (row5 hy).2.2.2.2.2).trans hy; replace hu := hu.call hb1; clear hb1; obtain ⟨x0, x1, x2, x3, x4, hxs⟩ := row5 hx; obtain ⟨y0, y1, y2, y3, y4, hys⟩ := row5 hy)
      | (go_at_call 40; (with_reducible refine (cS _ hu).mono ?_); rintro e w1 ⟨rfl, hb1⟩; replace hx := (hb1.block (row5 hx).2.2.2.2.2).trans hx; replace hy := (hb1.block (row5 hy).2.2.2.2.2).trans hy; replace hu := hu.call hb1; clear hb1; obtain ⟨x0, x1, x2, x3, x4, hxs⟩ := row5 hx; obtain ⟨y0, y1, y2, y3, y4, hys⟩ := row5 hy))
    go_ret
    exact ⟨rfl, hu⟩
  · rw [decide_eq_false hs] at cS
    have hW : ¬ (⟨(pgEnc kd E K S T).toArray⟩ : ByteArray) = ⟨(pgEnc kd' E' K' S' T').toArray⟩ := fun e => by
      have e2 := congrArg (fun b : ByteArray => b.data.toList) e
      simp only at e2
      exact hs (IsPg.one (l := pgEnc kd E K S T) ⟨ha, rfl⟩ ⟨hb, e2.symm⟩)
    generalize (⟨(pgEnc kd' E' K' S' T').toArray⟩ : ByteArray) = W' at hW cB
    generalize (⟨(pgEnc kd E K S T).toArray⟩ : ByteArray) = W at hW cA
    have hs1 : (W.toList == W'.toList) = false := str_ne hW
    clear ha hb h h' hs hW
    go_enter Try.func16, Try.ntmps16
    go_wp2_with (first
      | (go_at_call 35; (with_reducible refine (c0 _).mono ?_); rintro e w1 ⟨rfl, hb1⟩; replace hx := (hb1.block (row5 hx).2.2.2.2.2).trans hx; replace hy := (hb1.block (row5 hy).2.2.2.2.2).trans hy; replace hu := hu.call hb1; clear hb1; obtain ⟨x0, x1, x2, x3, x4, hxs⟩ := row5 hx; obtain ⟨y0, y1, y2, y3, y4, hys⟩ := row5 hy)
      | (go_at_call 35; (with_reducible refine (cA _ hu).mono ?_); rintro e w1 ⟨rfl, hb1⟩; replace hx := (hb1.block (row5 hx).2.2.2.2.2).trans hx; replace hy := (hb1.block (row5 hy).2.2.2.2.2).trans hy; replace hu := hu.call hb1; clear hb1; obtain ⟨x0, x1, x2, x3, x4, hxs⟩ := row5 hx; obtain ⟨y0, y1, y2, y3, y4, hys⟩ := row5 hy)
      | (go_at_call 35; (with_reducible refine (cB _ hu).mono ?_); rintro e w1 ⟨rfl, hb1⟩; replace hx := (hb1.block (row5 hx).2.2.2.2.2).trans hx; replace hy := (hb1.block (row5 hy).2.2.2.2.2).trans hy; replace hu := hu.call hb1; clear hb1; obtain ⟨x0, x1, x2, x3, x4, hxs⟩ := row5 hx; obtain ⟨y0, y1, y2, y3, y4, hys⟩ := row5 hy)
      | (go_at_call 40; (with_reducible refine (cS _ hu).mono ?_); rintro e w1 ⟨rfl, hb1⟩; replace hx := (hb1.block (row5 hx).2.2.2.2.2).trans hx; replace hy := (hb1.block (row5 hy).2.2.2.2.2).trans hy; replace hu := hu.call hb1; clear hb1; obtain ⟨x0, x1, x2, x3, x4, hxs⟩ := row5 hx; obtain ⟨y0, y1, y2, y3, y4, hys⟩ := row5 hy))
    go_ret
    exact ⟨rfl, hu⟩
end Go.Proofs.Ytoklknjjkchgmaa
