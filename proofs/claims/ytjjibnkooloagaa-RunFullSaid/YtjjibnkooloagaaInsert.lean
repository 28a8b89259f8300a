/- slices.Insert of one record. -/
import Derived.Test.YtjjibnkooloagaaSlices
import Derived.IntWalk
namespace Go.Proofs.Ytjjibnkooloagaa
open Go.RowKit

theorem zero6 : ∀ w, (Go.sizeOf 32).run Try.prog w = .ok 6 w := fun _ => by kernel_rfl

set_option maxRecDepth 100000 in
set_option maxHeartbeats 8000000 in
theorem insert_shift (g h i n cap : Nat) (l : List El) (cur : List Value) (p o f m gg : Int) (s : ByteArray) (w : World) (hn : n = l.length) (hi : i < n) (hn4 : n ≤ 400) (hroom : n + 1 ≤ cap) (hc63 : cap ≤ 9223372036854775807)
    (hg : w.heap[g]? = some (.cells cur.toArray 32 (0, 0))) (hs : cur.length = cap * 6) (ht : cur.take (n * 6) = cellsOf l) (hh : w.heap[h]? = some (.cells #[.int .i64 p, .int .i64 o, .int .i64 f, .int .i64 m, .int .i64 gg, .string s] 32 (0, 0))) (hne : h ≠ g) :
    Calls Try.prog 54 #[.slice (some ⟨g, 0, none⟩) n cap, .int .i64 i, .slice (some ⟨h, 0, none⟩) 1 1] w fun e w' => e = .returned (.slice (some ⟨g, 0, none⟩) (n + 1) cap) ∧
      w'.heap[g]? = some (.cells (spl (spl cur ((i + 1) * 6) (cellsOf (l.drop i))) (i * 6) (El.cells ⟨p, o, f, m, gg, s⟩)).toArray 32 (0, 0)) ∧ w.grownBy w' (some g) := by
  have hov : ∀ lb cb, (callFunc 65 #[.slice (some ⟨h, 0, none⟩) 1 1, .slice (some ⟨g, (i + 1) * 6, none⟩) lb cb]).run Try.prog w = .ok (.value (.bool false)) w := fun lb cb => by
    rw [run_callFunc_extern Try.func65 (by kernel_rfl) (by kernel_rfl) (by kernel_rfl) (e := Extern.SlicesOverlaps.overlaps #[22, 22] #[4]) (by kernel_rfl),
      Lib.run_overlaps_apart w 22 4 32 Try.underlying22 6 zero6 ⟨h, 0, none⟩ ⟨g, (i + 1) * 6, none⟩ 1 1 lb cb hne 32 32 6 cur.toArray.size (by simp [World.shape?, hh]) (by simp [World.shape?, hg]) (by rw [List.size_toArray, hs]; omega) (frozen_of_row _ _ _ _ _ hh) (frozen_of_row _ _ _ _ _ hh)]
    rfl
  have hdl : (cellsOf (l.drop i)).length = (n - i) * 6 := by rw [cellsOf_len, List.length_drop, hn]
  have hcell : ∀ j v, (cellsOf (l.drop i))[j]? = some v → w.cell? ⟨g, i * 6 + j, none⟩ = some v := fun j v hj => by
    have hj2 : j < (n - i) * 6 := by rw [← hdl]; exact (List.getElem?_eq_some_iff.1 hj).1
    rw [← cellsOf_drop (by omega), List.getElem?_drop, ← ht, List.getElem?_take, if_pos (by omega)] at hj
    rw [cell_of_row _ _ _ _ _ _ hg, ← hj, List.getElem?_toArray]
  have hfit1 : (i + 1) * 6 + (cellsOf (l.drop i)).length ≤ cur.length := by omega
  obtain ⟨c1, hc1⟩ : ∃ c1, c1 = spl cur ((i + 1) * 6) (cellsOf (l.drop i)) := ⟨_, rfl⟩
  have hc1l : c1.length = cur.length := by rw [hc1]; exact spl_len hfit1
  have hcp1 : ∀ ty dc sc, (Builtin.copy_ #[22, 22] ty #[.slice (some ⟨g, (i + 1) * 6, none⟩) (n - i) dc, .slice (some ⟨g, i * 6, none⟩) (n + 1 - i) sc]).run Try.prog w.drew = .ok (goInt (Nat.min (n + 1 - i) (n - i))) (w.drew.setRow g c1.toArray) := fun ty dc sc => by
    rw [hc1]
    refine run_copy_el w.drew ty g ((i + 1) * 6) (n - i) dc ⟨g, i * 6, none⟩ (n + 1 - i) sc cur _ (cellsOf (l.drop i)) hg (by rw [hdl]; congr 1; simp only [Nat.min_def]; split <;> omega) (fun j v hj => ?_) hfit1 (cellsOf_one _)
    rw [Addr.add_lit]; exact hcell j v hj
  have hcp2 : ∀ W : World, W.heap = (w.drew.setRow g c1.toArray).heap → ∀ ty dc, (Builtin.copy_ #[22, 22] ty #[.slice (some ⟨g, i * 6, none⟩) (n + 1 - i) dc, .slice (some ⟨h, 0, none⟩) 1 1]).run Try.prog W = .ok (goInt (Nat.min 1 (n + 1 - i))) (W.setRow g (spl c1 (i * 6) (El.cells ⟨p, o, f, m, gg, s⟩)).toArray) := fun W hW ty dc => by
    refine run_copy_el W ty g (i * 6) (n + 1 - i) dc ⟨h, 0, none⟩ 1 1 c1 32 _ (by rw [hW]; exact setRow_heap _ _ _ _ _ _ hg) (by show 6 = _; simp only [Nat.min_def]; split <;> omega) (fun j v hj => ?_) (by show _ + 6 ≤ _; omega) (cells_one _)
    have e : (⟨h, 0, none⟩ : Addr).add j = ⟨h, j, none⟩ := by unfold Addr.add; split <;> simp_all
    have hhW : W.heap[h]? = some (.cells #[.int .i64 p, .int .i64 o, .int .i64 f, .int .i64 m, .int .i64 gg, .string s] 32 (0, 0)) := by rw [hW, setRow_other _ _ _ _ hne]; exact hh
    rw [e, cell_of_row _ _ _ _ _ _ hhW, ← hj]; simp [El.cells]
  have hfin : ∀ W : World, W.heap = (w.drew.setRow g c1.toArray).heap → W.os = w.os → W.tape = w.tape → W.output = w.output → (W.setRow g (spl c1 (i * 6) (El.cells ⟨p, o, f, m, gg, s⟩)).toArray).heap[g]? = some (.cells (spl c1 (i * 6) (El.cells ⟨p, o, f, m, gg, s⟩)).toArray 32 (0, 0)) ∧ w.grownBy (W.setRow g (spl c1 (i * 6) (El.cells ⟨p, o, f, m, gg, s⟩)).toArray) (some g) := fun W hW h1 h2 h3 => by
    refine ⟨setRow_heap _ _ c1.toArray _ _ _ (by rw [hW]; exact setRow_heap _ _ _ _ _ _ hg), h1, h2, h3, ?_, fun k hk hne' => ?_⟩
    · rw [show (W.setRow g _).heap.size = W.heap.size by simp, hW]; simp
    · have hkg : k ≠ g := fun e => hne' (by rw [e])
      rw [setRow_other _ _ _ _ hkg, hW, setRow_other _ _ _ _ hkg]
      rfl
  rw [← hc1]
  have hin : i ≤ n := by omega
  have hz2 : ¬ ((i : Int) = (n : Int)) := by omega
  have hw1 : IntKind.i64.wrap ((i : Int) + 1) = (i : Int) + 1 := by rw [IntKind.wrap_i64]; omega
  have hb1 : (0 : Int) ≤ (i : Int) + 1 := by omega
  have htn : ((i : Int) + 1).toNat = i + 1 := by omega
  have hb2 : ¬ (cap = i + 1) := by omega
  have hb3 : (i : Int) ≤ (n : Int) + 1 := by omega
  have hb4 : ¬ (cap = i) := by omega
  have hb5 : (i : Int) < (n : Int) := by omega
  have hb6 : (n : Int) + 1 ≤ (cap : Int) := by omega
  clear hdl hcell hfit1 hc1 hc1l hn ht hs hg hh
  go_enter Try.func54, Try.ntmps54
  go_wp2_with (simp only [hov])
  go_region_law (refine step_copy_known rfl _ _ 22 rfl _ _ (by simp [Act.eval, Act.put]) (by simp [Act.eval, Act.put]) (hcp1 _ _ _) ?_)
  go_wp2_with (at_builtin; refine wpList_copy_known rfl _ _ 22 rfl _ _ rfl rfl (hcp2 _ rfl _ _) ?_)
  go_ret
  exact ⟨rfl, hfin _ rfl rfl rfl rfl⟩

def GrowEnd (w : World) (l : List El) (i : Nat) (x : El) (e : Ending) (w' : World) : Prop :=
  ∃ (G : Nat) (C : List Value), e = .returned (.slice (some ⟨w.heap.size, 0, none⟩) (l.length + 1) G) ∧ l.length + 1 ≤ G ∧ G ≤ maxLen ∧ C.length = G * 6 ∧ C.take (i * 6) = cellsOf (l.take i) ∧
    w'.heap[w.heap.size]? = some (.cells (spl (spl C (i * 6) x.cells) ((i + 1) * 6) (cellsOf (l.drop i))).toArray 32 (0, 0)) ∧ Calm w w'

set_option maxRecDepth 100000 in
set_option maxHeartbeats 8000000 in
theorem insert_grow (g h i n cap : Nat) (l : List El) (cur : List Value) (p o f m gg : Int) (s : ByteArray) (w : World) (hn : n = l.length) (hi : i < n) (hn4 : n ≤ 400) (hnc : n ≤ cap) (hroom : cap < n + 1)
    (hg : w.heap[g]? = some (.cells cur.toArray 32 (0, 0))) (ht : cur.take (n * 6) = cellsOf l) (hh : w.heap[h]? = some (.cells #[.int .i64 p, .int .i64 o, .int .i64 f, .int .i64 m, .int .i64 gg, .string s] 32 (0, 0))) :
    Calls Try.prog 54 #[.slice (some ⟨g, 0, none⟩) n cap, .int .i64 i, .slice (some ⟨h, 0, none⟩) 1 1] w (GrowEnd w l i ⟨p, o, f, m, gg, s⟩) := by
  obtain ⟨i0, hi0, hz0, hzs, hzb⟩ := info_parts infoElem
  have hgw : g < w.heap.size := (Array.getElem?_eq_some_iff.1 hg).1
  have hhw : h < w.heap.size := (Array.getElem?_eq_some_iff.1 hh).1
  have hcl : ∀ j v, (cellsOf l)[j]? = some v → w.cell? ⟨g, j, none⟩ = some v := fun j v hj => by
    have hj2 : j < n * 6 := by rw [hn, ← cellsOf_len]; exact (List.getElem?_eq_some_iff.1 hj).1
    rw [← ht, List.getElem?_take, if_pos hj2] at hj
    rw [cell_of_row _ _ _ _ _ _ hg, ← hj, List.getElem?_toArray]
  have hdl : (cellsOf (l.drop i)).length = (n - i) * 6 := by rw [cellsOf_len, List.length_drop, hn]
  have htl : (cellsOf (l.take i)).length = i * 6 := by rw [cellsOf_len, List.length_take]; congr 1; omega
  have hkk : (n : Int) + 1 - (i : Int) = ((n + 1 - i : Nat) : Int) := by omega
  have hik : i + (n + 1 - i) = n + 1 := by omega
  have hold : (Builtin.firstCells i0.size i (.slice (some ⟨g, 0, none⟩) i cap)).run Try.prog w.drew = .ok (cellsOf (l.take i)).toArray w.drew := by
    rw [hzs]
    refine run_firstCells_some w.drew 6 i ⟨g, 0, none⟩ i cap (cellsOf (l.take i)) htl fun j v hj => ?_
    have e : (⟨g, 0, none⟩ : Addr).add j = ⟨g, j, none⟩ := by unfold Addr.add; split <;> simp_all
    rw [e]
    rw [← cellsOf_take (by omega), List.getElem?_take] at hj
    split at hj
    · exact hcl j v hj
    · cases hj
  obtain ⟨G, hG⟩ : ∃ G, G = grownCap w (n + 1) cap 32 := ⟨_, rfl⟩
  obtain ⟨C, hC⟩ : ∃ C : List Value, C = cellsOf (l.take i) ++ (Builtin.zeroCells (Value.agg #[.int .i64 0, .int .i64 0, .int .i64 0, .int .i64 0, .int .i64 0, .string ByteArray.empty]).cells (n + 1 - i)).toList ++ (Builtin.zeroCells (Value.agg #[.int .i64 0, .int .i64 0, .int .i64 0, .int .i64 0, .int .i64 0, .string ByteArray.empty]).cells (G - (n + 1))).toList := ⟨_, rfl⟩
  have hGn : n + 1 ≤ G := by rw [hG]; exact grownCap_ge w _ _ _
  have hGm : G ≤ maxLen := by rw [hG]; exact grownCap_le_maxLen w (n + 1) cap _ (by unfold maxLen; omega)
  have hCl : C.length = G * 6 := by
    rw [hC, List.length_append, List.length_append, htl, Array.length_toList, Array.length_toList, size_zeroCells, size_zeroCells]
    show i * 6 + (n + 1 - i) * 6 + (G - (n + 1)) * 6 = G * 6
    omega
  have hCt : C.take (i * 6) = cellsOf (l.take i) := by rw [hC, List.append_assoc]; exact List.take_left' htl
  have hrz : ∀ ty, (Builtin.append_ #[22, 3] ty #[.slice (some ⟨g, 0, none⟩) i cap, .int .i64 ((n : Int) + 1 - (i : Int))]).run Try.prog w = .ok (.slice (some ⟨w.heap.size, 0, none⟩) (n + 1) G) (w.drew.alloc (.cells C.toArray 32)) := fun ty => by
    have h := Lib.run_append_grow_zeros w 22 3 ty 32 i0 _ .i64 .i64 Try.underlying22 Try.underlying3 hi0 hz0 (some ⟨g, 0, none⟩) i cap (cellsOf (l.take i)) hold (n + 1 - i) (by omega) (by omega) (by omega) (by omega) (by rw [hzb]; omega) (by rw [hzb, hik]; exact growslice_fits hroom (by omega))
    rw [hik, ← hG] at h
    rw [hkk, h, hC]
    exact congrArg (fun x => Result.ok _ (w.drew.alloc (.cells x 32))) (Array.toList_inj.1 (by simp))
  obtain ⟨W1, hW1⟩ : ∃ W1, W1 = w.drew.alloc (.cells C.toArray 32) := ⟨_, rfl⟩
  have hHg : W1.heap[w.heap.size]? = some (.cells C.toArray 32 (0, 0)) := by rw [hW1]; exact heap_alloc_new w.drew _
  have hGg : W1.heap[g]? = some (.cells cur.toArray 32 (0, 0)) := by rw [hW1, Below.heap_alloc w.drew _ _ hgw]; exact hg
  have hHh : W1.heap[h]? = some (.cells #[.int .i64 p, .int .i64 o, .int .i64 f, .int .i64 m, .int .i64 gg, .string s] 32 (0, 0)) := by rw [hW1, Below.heap_alloc w.drew _ _ hhw]; exact hh
  obtain ⟨c1, hc1⟩ : ∃ c1, c1 = spl C (i * 6) (El.cells ⟨p, o, f, m, gg, s⟩) := ⟨_, rfl⟩
  have hc1l : c1.length = C.length := by rw [hc1]; exact spl_len (by show _ + 6 ≤ _; omega)
  have hcpA : ∀ W : World, W.heap = W1.heap → ∀ ty dc, (Builtin.copy_ #[22, 22] ty #[.slice (some ⟨w.heap.size, i * 6, none⟩) (n + 1 - i) dc, .slice (some ⟨h, 0, none⟩) 1 1]).run Try.prog W = .ok (goInt (Nat.min 1 (n + 1 - i))) (W.setRow w.heap.size c1.toArray) := fun W hW ty dc => by
    rw [hc1]
    refine run_copy_el W ty w.heap.size (i * 6) (n + 1 - i) dc ⟨h, 0, none⟩ 1 1 C 32 _ (by rw [hW]; exact hHg) (by show 6 = _; simp only [Nat.min_def]; split <;> omega) (fun j v hj => ?_) (by show _ + 6 ≤ _; omega) (cells_one _)
    have e : (⟨h, 0, none⟩ : Addr).add j = ⟨h, j, none⟩ := by unfold Addr.add; split <;> simp_all
    rw [e, cell_of_row _ _ _ _ _ _ (by rw [hW]; exact hHh), ← hj]; simp [El.cells]
  have hcpB : ∀ W : World, W.heap = (W1.setRow w.heap.size c1.toArray).heap → ∀ ty dc sc, (Builtin.copy_ #[22, 22] ty #[.slice (some ⟨w.heap.size, (i + 1) * 6, none⟩) (n - i) dc, .slice (some ⟨g, i * 6, none⟩) (n - i) sc]).run Try.prog W = .ok (goInt (Nat.min (n - i) (n - i))) (W.setRow w.heap.size (spl c1 ((i + 1) * 6) (cellsOf (l.drop i))).toArray) := fun W hW ty dc sc => by
    refine run_copy_el W ty w.heap.size ((i + 1) * 6) (n - i) dc ⟨g, i * 6, none⟩ (n - i) sc c1 32 _ (by rw [hW]; exact setRow_heap _ _ _ _ _ _ hHg) (by rw [hdl]; congr 1; exact (Nat.min_self _).symm) (fun j v hj => ?_) (by rw [hdl]; omega) (cellsOf_one _)
    rw [Addr.add_lit, cell_of_row _ _ _ _ _ _ (show W.heap[g]? = _ by rw [hW, setRow_other _ _ _ _ (by omega)]; exact hGg)]
    rw [← cellsOf_drop (by omega), List.getElem?_drop, ← ht, List.getElem?_take] at hj
    split at hj
    · rw [← hj, List.getElem?_toArray]
    · cases hj
  have hfin : ∀ W : World, W.heap = (W1.setRow w.heap.size c1.toArray).heap → W.os = w.os → W.tape = w.tape → W.output = w.output → (W.setRow w.heap.size (spl c1 ((i + 1) * 6) (cellsOf (l.drop i))).toArray).heap[w.heap.size]? = some (.cells (spl c1 ((i + 1) * 6) (cellsOf (l.drop i))).toArray 32 (0, 0)) ∧ Calm w (W.setRow w.heap.size (spl c1 ((i + 1) * 6) (cellsOf (l.drop i))).toArray) := fun W hW h1 h2 h3 => by
    refine ⟨setRow_heap _ _ c1.toArray _ _ _ (by rw [hW]; exact setRow_heap _ _ _ _ _ _ hHg), h1, h2, h3, ?_, fun k hk => ?_⟩
    · rw [show (W.setRow w.heap.size _).heap.size = W.heap.size by simp, hW, hW1]; simp
    · rw [setRow_other _ _ _ _ (by omega), hW, setRow_other _ _ _ _ (by omega), hW1]
      exact Below.heap_alloc w.drew _ _ hk
  have hGi : ¬ (G = i) := by omega
  have hGim : ¬ (G = i + 1) := by omega
  have hci : ¬ (cap = i) := by omega
  have hG63 : G ≤ 9223372036854775807 := by unfold maxLen at hGm; omega
  have HEND : ∀ w', w'.heap[w.heap.size]? = some (.cells (spl c1 ((i + 1) * 6) (cellsOf (l.drop i))).toArray 32 (0, 0)) → Calm w w' → GrowEnd w l i ⟨p, o, f, m, gg, s⟩ (.returned (.slice (some ⟨w.heap.size, 0, none⟩) (n + 1) G)) w' := fun w' h1 h2 =>
    ⟨G, C, by rw [hn], by omega, hGm, hCl, hCt, by rw [hc1] at h1; exact h1, h2⟩
  have hz2 : ¬ ((i : Int) = (n : Int)) := by omega
  have hz3 : (cap : Int) < (n : Int) + 1 := by omega
  have hw1 : IntKind.i64.wrap ((i : Int) + 1) = (i : Int) + 1 := by rw [IntKind.wrap_i64]; omega
  have hb1 : (0 : Int) ≤ (i : Int) + 1 := by omega
  have hin : i ≤ n := by omega
  have htn : ((i : Int) + 1).toNat = i + 1 := by omega
  have hb3 : (i : Int) ≤ (n : Int) := by omega
  subst hW1
  clear hkk hik hold hG hC hGn hGm hCl hCt hc1 hc1l hcl hdl htl hn ht hg hh hHg hGg hHh hi0 hz0 hzs hzb hgw hhw
  go_enter Try.func54, Try.ntmps54
  go_wp2_with (first
    | (at_builtin; refine Lib.wpList_append_run _ rfl _ _ _ _ rfl _ _ rfl rfl _ _ (hrz _) ?_)
    | (refine wpList_copy_known rfl _ _ 22 rfl _ _ rfl rfl (v' := goInt (Nat.min 1 (n + 1 - i))) (w' := ((w.alloc (.cells C.toArray 32)).drew).setRow w.heap.size c1.toArray) (by exact hcpA ((w.alloc (.cells C.toArray 32)).drew) rfl _ _) ?_))
  go_region_law (refine step_copy_known rfl _ _ 22 rfl (.slice (some ⟨w.heap.size, (i + 1) * 6, none⟩) (n - i) (G - (i + 1))) (.slice (some ⟨g, i * 6, none⟩) (n - i) (cap - i)) (by simp [Act.eval, Act.put]) (by simp [Act.eval, Act.put]) (v' := goInt (Nat.min (n - i) (n - i))) (w' := ((((w.alloc (.cells C.toArray 32)).drew).setRow w.heap.size c1.toArray).drew).setRow w.heap.size (spl c1 ((i + 1) * 6) (cellsOf (l.drop i))).toArray) (by exact hcpB ((((w.alloc (.cells C.toArray 32)).drew).setRow w.heap.size c1.toArray).drew) rfl _ _ _) ?_)
  go_wp2_with fail
  go_ret
  exact HEND _ (hfin ((((w.alloc (.cells C.toArray 32)).drew).setRow w.heap.size c1.toArray).drew) rfl rfl rfl rfl).1 (hfin ((((w.alloc (.cells C.toArray 32)).drew).setRow w.heap.size c1.toArray).drew) rfl rfl rfl rfl).2

theorem Keeps.append {base : Nat} {w w' : World} (h : ∀ w0 : World, w0.heap.size ≤ base → Calm w0 w → Calm w0 w') : Keeps base w w' := h

set_option maxRecDepth 100000 in
set_option maxHeartbeats 8000000 in
theorem insert_any (base h i : Nat) (v : Value) (l : List El) (p o f m gg : Int) (s : ByteArray) (w : World) (hi : i ≤ l.length) (hl : l.length ≤ 400) (ho : OwnR base w v l) (hb : base ≤ w.heap.size)
    (hh : w.heap[h]? = some (.cells #[.int .i64 p, .int .i64 o, .int .i64 f, .int .i64 m, .int .i64 gg, .string s] 32 (0, 0))) (hne : v.ownBlock ≠ some h) :
    Calls Try.prog 54 #[v, .int .i64 i, .slice (some ⟨h, 0, none⟩) 1 1] w (OwnEnd base (insAt l i ⟨p, o, f, m, gg, s⟩) w) := by
  have hend : i = l.length → insAt l i ⟨p, o, f, m, gg, s⟩ = l ++ [⟨p, o, f, m, gg, s⟩] := fun h => by unfold insAt; rw [h, List.take_length, List.drop_length]
  rcases id ho.2 with ⟨rfl, hl0⟩ | ⟨g, cap, cur, rfl, hbg, hg, hnc, hcm, hcs, ht⟩
  · have h0 : i = l.length := by omega
    rw [hend h0]
    have h1 : i = 0 := by omega
    subst h1
    have HO := Lib.hid ho
    clear ho hend hi h0
    go_enter Try.func54, Try.ntmps54
    go_wp2_with (at_builtin; refine wpList_append_el rfl _ _ rfl base _ l rfl HO.out h _ p o f m gg s _ rfl hh (by omega) hb ?_; intro v' w9 ho9 hc9)
    have HO9 := Lib.hid ho9
    have HC9 := Lib.hid hc9
    clear ho9 hc9
    go_wp2_with fail
    go_ret
    exact ⟨_, rfl, HO9.out, HC9.out⟩
  · have hcs' : cur.toList.length = cap * 6 := by simpa using hcs
    have hg' : w.heap[g]? = some (.cells cur.toList.toArray 32 (0, 0)) := by simpa using hg
    have hc63 : cap ≤ 9223372036854775807 := by unfold maxLen at hcm; exact hcm
    have hKe : ∀ w', w.grownBy w' (some g) → Keeps base w w' := fun w' hgr w0 h0 hc => Below.grown hc hgr hc.size fun k hk => by injection hk with hk; omega
    by_cases hin : i = l.length
    · rw [hend hin]
      have HO := Lib.hid ho
      obtain ⟨n, hn⟩ : ∃ n, n = l.length := ⟨_, rfl⟩
      have hin' : i = n := by omega
      rw [← hn] at HO ⊢
      have hn4 : n ≤ 400 := by omega
      have hll : l.length ≤ 1000000 := by omega
      have hnc' : n ≤ cap := by omega
      clear ho hend hi hin hn hl hcs' hg' hKe ht hcs hnc
      subst hin'
      by_cases hci : cap = i
      all_goals
        first | subst hci | skip
        go_enter Try.func54, Try.ntmps54
        go_wp2_with (at_builtin; refine wpList_append_el rfl _ _ rfl base _ l rfl HO.out h _ p o f m gg s _ rfl hh hll hb ?_; intro v' w9 ho9 hc9)
        have HO9 := Lib.hid ho9
        have HC9 := Lib.hid hc9
        clear ho9 hc9
        go_wp2_with fail
        go_ret
        exact ⟨_, rfl, HO9.out, HC9.out⟩
    · by_cases hroom : l.length + 1 ≤ cap
      · refine (insert_shift g h i l.length cap l cur.toList p o f m gg s w rfl (by omega) hl hroom hc63 hg' hcs' ht hh (fun e => hne (by simp [Value.ownBlock, e]))).mono fun e w' ⟨he, hr, hgr⟩ => ⟨_, he, ?_, hKe w' hgr⟩
        rw [row_shift _ (by omega) ht (by omega)] at hr
        have hil := insAt_len ⟨p, o, f, m, gg, s⟩ hi
        rw [← hil]
        have hlc : (cellsOf (insAt l i ⟨p, o, f, m, gg, s⟩)).length = (l.length + 1) * 6 := by rw [cellsOf_len, hil]
        exact OwnR.row hbg hr (by omega) hcm (by rw [List.length_append, hlc, List.length_drop]; omega) (List.take_left' (by rw [cellsOf_len]))
      · refine (insert_grow g h i l.length cap l cur.toList p o f m gg s w rfl (by omega) hl hnc (by omega) hg' ht hh).mono fun e w' ⟨G, C, he, h1, h2, h3, h4, hr, hc⟩ => ⟨_, he, ?_, fun w0 h0 hcc => hcc.call hc⟩
        rw [row_fresh _ (by omega) h4 (by omega)] at hr
        have hil := insAt_len ⟨p, o, f, m, gg, s⟩ hi
        rw [← hil]
        have hlc : (cellsOf (insAt l i ⟨p, o, f, m, gg, s⟩)).length = (l.length + 1) * 6 := by rw [cellsOf_len, hil]
        exact OwnR.row hb hr (by omega) h2 (by rw [List.length_append, hlc, List.length_drop]; omega) (List.take_left' (by rw [cellsOf_len]))
end Go.Proofs.Ytjjibnkooloagaa
