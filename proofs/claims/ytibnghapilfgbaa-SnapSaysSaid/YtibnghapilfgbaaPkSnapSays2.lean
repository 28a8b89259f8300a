/- Texts of one kind in one file. -/
import Derived.Test.YtibnghapilfgbaaPkSnapSays1
set_option maxRecDepth 100000
namespace Go.Proofs.Ytibnghapilfgbaa
open Go.RowKit
theorem infoSnP : (Try.prog.info? 35).map (fun i => (i.zero, i.size, i.bytes)) = some (some (.agg #[.string ByteArray.empty, .int .i64 0]), 2, 24) := by kernel_rfl
theorem sizeP : ∀ w, (Go.sizeOf 35).run Try.prog w = .ok 2 w := fun _ => by kernel_rfl
theorem infosP : (Try.prog.info? 35).map (·.size) = some 2 := by kernel_rfl
theorem copyP (w : World) (ty : TypeId) (g o dLen dCap : Nat) (a : Addr) (sLen sCap : Nat) (cur : List Value) (t : TypeId) (cs : List Value)
    (hg : w.heap[g]? = some (.cells cur.toArray t (0, 0))) (hn : cs.length = Nat.min sLen dLen * 2)
    (hsrc : ∀ j v, cs[j]? = some v → w.cell? (a.add j) = some v) (hfit : o + cs.length ≤ cur.length) (h1 : ∀ v ∈ cs, v.oneCell' = true) :
    (Builtin.copy_ #[22, 22] ty #[.slice (some ⟨g, o, none⟩) dLen dCap, .slice (some a) sLen sCap]).run Try.prog w =
      .ok (goInt (Nat.min sLen dLen)) (w.setRow g (spl cur o cs).toArray) := by
  have hl := run_loadCells_list (P := Try.prog) w a cs hsrc
  have hst := run_storeCells_at Try.prog g o t cs 0 cur.toArray w hg (by simpa using hfit) h1
  have hs := infosP
  cases hq : Try.prog.info? 35 with
  | none => simp [hq] at hs
  | some i =>
    have hi : i.size = 2 := by simpa [hq] using hs
    have hn' : cs.length = Nat.min sLen dLen * i.size := by rw [hi]; exact hn
    rw [hi] at hn'
    simp [Builtin.copy_, run_underlying Try.underlying22, Builtin.lenOf, Builtin.firstCells, typeInfo, hq, hi, ← hn, hl, hst, spl]
set_option maxHeartbeats 8000000 in
theorem insP_shift (g h i n cap : Nat) (xs cur nc : List Value) (w : World) (hxl : xs.length = n * 2) (hi : i < n) (hn4 : n ≤ 400) (hroom : n + 1 ≤ cap) (hc63 : cap ≤ 9223372036854775807)
    (hg : w.heap[g]? = some (.cells cur.toArray 35 (0, 0))) (hs : cur.length = cap * 2) (ht : cur.take (n * 2) = xs) (hh : w.heap[h]? = some (.cells nc.toArray 35 (0, 0))) (hnc : nc.length = 2) (ho1 : ∀ u ∈ nc, u.oneCell' = true) (hx1 : ∀ u ∈ xs, u.oneCell' = true) (hne : h ≠ g) :
    Calls Try.prog 25 #[.slice (some ⟨g, 0, none⟩) n cap, .int .i64 i, .slice (some ⟨h, 0, none⟩) 1 1] w fun e w' => e = .returned (.slice (some ⟨g, 0, none⟩) (n + 1) cap) ∧
      w'.heap[g]? = some (.cells (spl (spl cur ((i + 1) * 2) (xs.drop (i * 2))) (i * 2) nc).toArray 35 (0, 0)) ∧ w.grownBy w' (some g) := by
  have hov : ∀ lb cb, (callFunc 46 #[.slice (some ⟨h, 0, none⟩) 1 1, .slice (some ⟨g, (i + 1) * 2, none⟩) lb cb]).run Try.prog w = .ok (.value (.bool false)) w := fun lb cb => by
    rw [run_callFunc_extern Try.func46 (by kernel_rfl) (by kernel_rfl) (by kernel_rfl) (e := Extern.SlicesOverlaps.overlaps #[22, 22] #[4]) (by kernel_rfl),
      Lib.run_overlaps_apart w 22 4 35 Try.underlying22 2 sizeP ⟨h, 0, none⟩ ⟨g, (i + 1) * 2, none⟩ 1 1 lb cb hne 35 35 nc.toArray.size cur.toArray.size (by simp [World.shape?, hh]) (by simp [World.shape?, hg]) (by rw [List.size_toArray, hs]; omega) (frozen_of_row _ _ _ _ _ hh) (frozen_of_row _ _ _ _ _ hh)]
    rfl
  have hdl : (xs.drop (i * 2)).length = (n - i) * 2 := by rw [List.length_drop, hxl]; try omega
  have hd1 : ∀ u ∈ xs.drop (i * 2), u.oneCell' = true := fun u hu => hx1 u (List.mem_of_mem_drop hu)
  have hcell : ∀ j v, (xs.drop (i * 2))[j]? = some v → w.cell? ⟨g, i * 2 + j, none⟩ = some v := fun j v hj => by
    have hj2 : j < (n - i) * 2 := by rw [← hdl]; exact (List.getElem?_eq_some_iff.1 hj).1
    rw [List.getElem?_drop, ← ht, List.getElem?_take, if_pos (by omega)] at hj
    rw [cell_of_row _ _ _ _ _ _ hg, ← hj, List.getElem?_toArray]
  have hfit1 : (i + 1) * 2 + (xs.drop (i * 2)).length ≤ cur.length := by omega
  obtain ⟨c1, hc1⟩ : ∃ c1, c1 = spl cur ((i + 1) * 2) (xs.drop (i * 2)) := ⟨_, rfl⟩
  have hc1l : c1.length = cur.length := by rw [hc1]; exact spl_len hfit1
  have hcp1 : ∀ ty dc sc, (Builtin.copy_ #[22, 22] ty #[.slice (some ⟨g, (i + 1) * 2, none⟩) (n - i) dc, .slice (some ⟨g, i * 2, none⟩) (n + 1 - i) sc]).run Try.prog w.drew = .ok (goInt (Nat.min (n + 1 - i) (n - i))) (w.drew.setRow g c1.toArray) := fun ty dc sc => by
    rw [hc1]
    refine copyP w.drew ty g ((i + 1) * 2) (n - i) dc ⟨g, i * 2, none⟩ (n + 1 - i) sc cur _ (xs.drop (i * 2)) hg (by rw [hdl]; simp only [Nat.min_def]; split <;> omega) (fun j v hj => ?_) hfit1 hd1
    rw [Addr.add_lit]; exact hcell j v hj
  have hcp2 : ∀ W : World, W.heap = (w.drew.setRow g c1.toArray).heap → ∀ ty dc, (Builtin.copy_ #[22, 22] ty #[.slice (some ⟨g, i * 2, none⟩) (n + 1 - i) dc, .slice (some ⟨h, 0, none⟩) 1 1]).run Try.prog W = .ok (goInt (Nat.min 1 (n + 1 - i))) (W.setRow g (spl c1 (i * 2) nc).toArray) := fun W hW ty dc => by
    refine copyP W ty g (i * 2) (n + 1 - i) dc ⟨h, 0, none⟩ 1 1 c1 35 _ (by rw [hW]; exact setRow_heap _ _ _ _ _ _ hg) (by rw [hnc]; simp only [Nat.min_def]; split <;> omega) (fun j v hj => ?_) (by rw [hnc]; omega) ho1
    have e : (⟨h, 0, none⟩ : Addr).add j = ⟨h, j, none⟩ := by unfold Addr.add; split <;> simp_all
    have hhW : W.heap[h]? = some (.cells nc.toArray 35 (0, 0)) := by rw [hW, setRow_other _ _ _ _ hne]; exact hh
    rw [e, cell_of_row _ _ _ _ _ _ hhW, ← hj, List.getElem?_toArray]
  have hfin : ∀ W : World, W.heap = (w.drew.setRow g c1.toArray).heap → W.os = w.os → W.tape = w.tape → W.output = w.output → (W.setRow g (spl c1 (i * 2) nc).toArray).heap[g]? = some (.cells (spl c1 (i * 2) nc).toArray 35 (0, 0)) ∧ w.grownBy (W.setRow g (spl c1 (i * 2) nc).toArray) (some g) := fun W hW h1 h2 h3 => by
    refine ⟨setRow_heap _ _ c1.toArray _ _ _ (by rw [hW]; exact setRow_heap _ _ _ _ _ _ hg), h1, h2, h3, ?_, fun k hk hne' => ?_⟩
    · rw [show (W.setRow g _).heap.size = W.heap.size by simp, hW]; simp
    · have hkg : k ≠ g := fun e => hne' (by rw [e])
      rw [setRow_other _ _ _ _ hkg, hW, setRow_other _ _ _ _ hkg]
      rfl
  rw [← hc1]
  have hin : i ≤ n := by omega
  have hz2 : ¬ ((i : Int) = (n : Int)) := by omega
  have hw1 : IntKind.i64.wrap ((i : Int) + 1) = (i : Int) + 1 := by rw [IntKind.wrap_i64]; omega
  have hb1 : (0 : Int) ≤ (i : Int) + 1 := by omega
  have htn : ((i : Int) + 1).toNat = i + 1 := by omega
  have hb2 : ¬ (cap = i + 1) := by omega
  have hb3 : (i : Int) ≤ (n : Int) + 1 := by omega
  have hb4 : ¬ (cap = i) := by omega
  have hb5 : (i : Int) < (n : Int) := by omega
  have hb6 : (n : Int) + 1 ≤ (cap : Int) := by omega
  clear hdl hcell hfit1 hc1 hc1l hxl ht hs hg hh hnc ho1 hx1 hd1
  go_enter Try.func25, Try.ntmps25
  go_wp2_with (simp only [hov])
  go_region_law (refine step_copy_known rfl _ _ 22 rfl _ _ (by simp [Act.eval, Act.put]) (by simp [Act.eval, Act.put]) (hcp1 _ _ _) ?_)
  go_wp2_with (at_builtin; refine wpList_copy_known rfl _ _ 22 rfl _ _ rfl rfl (hcp2 _ rfl _ _) ?_)
  go_ret
  exact ⟨rfl, hfin _ rfl rfl rfl rfl⟩
def GrowPEnd (w : World) (n : Nat) (xs nc : List Value) (i : Nat) (e : Ending) (w' : World) : Prop :=
 ∃ (G : Nat) (C : List Value), e = .returned (.slice (some ⟨w.heap.size, 0, none⟩) (n + 1) G) ∧ n + 1 ≤ G ∧ G ≤ maxLen ∧ C.length = G * 2 ∧ C.take (i * 2) = xs.take (i * 2) ∧
  w'.heap[w.heap.size]? = some (.cells (spl (spl C (i * 2) nc) ((i + 1) * 2) (xs.drop (i * 2))).toArray 35 (0, 0)) ∧ Calm w w'
set_option maxHeartbeats 8000000 in
theorem insP_grow (g h i n cap : Nat) (xs cur nc : List Value) (w : World) (hxl : xs.length = n * 2) (hi : i < n) (hn4 : n ≤ 400) (hnc : n ≤ cap) (hroom : cap < n + 1)
    (hg : w.heap[g]? = some (.cells cur.toArray 35 (0, 0))) (ht : cur.take (n * 2) = xs) (hh : w.heap[h]? = some (.cells nc.toArray 35 (0, 0))) (hncl : nc.length = 2) (ho1 : ∀ u ∈ nc, u.oneCell' = true) (hx1 : ∀ u ∈ xs, u.oneCell' = true) :
    Calls Try.prog 25 #[.slice (some ⟨g, 0, none⟩) n cap, .int .i64 i, .slice (some ⟨h, 0, none⟩) 1 1] w (GrowPEnd w n xs nc i) := by
  obtain ⟨i0, hi0, hz0, hzs, hzb⟩ := info_parts infoSnP
  have hgw : g < w.heap.size := (Array.getElem?_eq_some_iff.1 hg).1
  have hhw : h < w.heap.size := (Array.getElem?_eq_some_iff.1 hh).1
  have hcl : ∀ j v, xs[j]? = some v → w.cell? ⟨g, j, none⟩ = some v := fun j v hj => by
    have hj2 : j < n * 2 := by rw [← hxl]; exact (List.getElem?_eq_some_iff.1 hj).1
    rw [← ht, List.getElem?_take, if_pos hj2] at hj
    rw [cell_of_row _ _ _ _ _ _ hg, ← hj, List.getElem?_toArray]
  have hdl : (xs.drop (i * 2)).length = (n - i) * 2 := by rw [List.length_drop, hxl]; try omega
  have hd1 : ∀ u ∈ xs.drop (i * 2), u.oneCell' = true := fun u hu => hx1 u (List.mem_of_mem_drop hu)
  have htl : (xs.take (i * 2)).length = i * 2 := by rw [List.length_take, hxl]; omega
  have hkk : (n : Int) + 1 - (i : Int) = ((n + 1 - i : Nat) : Int) := by omega
  have hik : i + (n + 1 - i) = n + 1 := by omega
  have hold : (Builtin.firstCells i0.size i (.slice (some ⟨g, 0, none⟩) i cap)).run Try.prog w.drew = .ok (xs.take (i * 2)).toArray w.drew := by
    rw [hzs]
    refine run_firstCells_some w.drew 2 i ⟨g, 0, none⟩ i cap (xs.take (i * 2)) (by rw [htl]; try omega) fun j v hj => ?_
    have e : (⟨g, 0, none⟩ : Addr).add j = ⟨g, j, none⟩ := by unfold Addr.add; split <;> simp_all
    rw [e]
    rw [List.getElem?_take] at hj
    split at hj
    · exact hcl j v hj
    · cases hj
  obtain ⟨G, hG⟩ : ∃ G, G = grownCap w (n + 1) cap 35 := ⟨_, rfl⟩
  obtain ⟨Z, hZ⟩ : ∃ Z, i0.zero = some Z ∧ Z.cells.size = 2 := ⟨_, hz0, by kernel_rfl⟩
  obtain ⟨hZ, hZs⟩ := hZ
  obtain ⟨C, hC⟩ : ∃ C : List Value, C = xs.take (i * 2) ++ (Builtin.zeroCells Z.cells (n + 1 - i)).toList ++ (Builtin.zeroCells Z.cells (G - (n + 1))).toList := ⟨_, rfl⟩
  have hGn : n + 1 ≤ G := by rw [hG]; exact grownCap_ge w _ _ _
  have hGm : G ≤ maxLen := by rw [hG]; exact grownCap_le_maxLen w (n + 1) cap _ (by unfold maxLen; omega)
  have hCl : C.length = G * 2 := by
    rw [hC, List.length_append, List.length_append, htl, Array.length_toList, Array.length_toList, size_zeroCells, size_zeroCells, hZs]
    omega
  have hCt : C.take (i * 2) = xs.take (i * 2) := by rw [hC, List.append_assoc]; exact List.take_left' htl
  have hrz : ∀ ty, (Builtin.append_ #[22, 3] ty #[.slice (some ⟨g, 0, none⟩) i cap, .int .i64 ((n : Int) + 1 - (i : Int))]).run Try.prog w = .ok (.slice (some ⟨w.heap.size, 0, none⟩) (n + 1) G) (w.drew.alloc (.cells C.toArray 35)) := fun ty => by
    have h := Lib.run_append_grow_zeros w 22 3 ty 35 i0 _ .i64 .i64 Try.underlying22 Try.underlying3 hi0 hZ (some ⟨g, 0, none⟩) i cap (xs.take (i * 2)) hold (n + 1 - i) (by omega) (by omega) (by omega) (by omega) (by rw [hzb]; omega) (by rw [hzb, hik]; exact growslice_fits hroom (by omega))
    rw [hik, ← hG] at h
    rw [hkk, h, hC]
    exact congrArg (fun x => Result.ok _ (w.drew.alloc (.cells x 35))) (Array.toList_inj.1 (by simp))
  obtain ⟨W1, hW1⟩ : ∃ W1, W1 = w.drew.alloc (.cells C.toArray 35) := ⟨_, rfl⟩
  have hHg : W1.heap[w.heap.size]? = some (.cells C.toArray 35 (0, 0)) := by rw [hW1]; exact heap_alloc_new w.drew _
  have hGg : W1.heap[g]? = some (.cells cur.toArray 35 (0, 0)) := by rw [hW1, Below.heap_alloc w.drew _ _ hgw]; exact hg
  have hHh : W1.heap[h]? = some (.cells nc.toArray 35 (0, 0)) := by rw [hW1, Below.heap_alloc w.drew _ _ hhw]; exact hh
  obtain ⟨c1, hc1⟩ : ∃ c1, c1 = spl C (i * 2) nc := ⟨_, rfl⟩
  have hc1l : c1.length = C.length := by rw [hc1]; exact spl_len (by rw [hncl]; omega)
  have hcpA : ∀ W : World, W.heap = W1.heap → ∀ ty dc, (Builtin.copy_ #[22, 22] ty #[.slice (some ⟨w.heap.size, i * 2, none⟩) (n + 1 - i) dc, .slice (some ⟨h, 0, none⟩) 1 1]).run Try.prog W = .ok (goInt (Nat.min 1 (n + 1 - i))) (W.setRow w.heap.size c1.toArray) := fun W hW ty dc => by
    rw [hc1]
    refine copyP W ty w.heap.size (i * 2) (n + 1 - i) dc ⟨h, 0, none⟩ 1 1 C 35 _ (by rw [hW]; exact hHg) (by rw [hncl]; simp only [Nat.min_def]; split <;> omega) (fun j v hj => ?_) (by rw [hncl]; omega) ho1
    have e : (⟨h, 0, none⟩ : Addr).add j = ⟨h, j, none⟩ := by unfold Addr.add; split <;> simp_all
    rw [e, cell_of_row _ _ _ _ _ _ (by rw [hW]; exact hHh), ← hj, List.getElem?_toArray]
  have hcpB : ∀ W : World, W.heap = (W1.setRow w.heap.size c1.toArray).heap → ∀ ty dc sc, (Builtin.copy_ #[22, 22] ty #[.slice (some ⟨w.heap.size, (i + 1) * 2, none⟩) (n - i) dc, .slice (some ⟨g, i * 2, none⟩) (n - i) sc]).run Try.prog W = .ok (goInt (Nat.min (n - i) (n - i))) (W.setRow w.heap.size (spl c1 ((i + 1) * 2) (xs.drop (i * 2))).toArray) := fun W hW ty dc sc => by
    refine copyP W ty w.heap.size ((i + 1) * 2) (n - i) dc ⟨g, i * 2, none⟩ (n - i) sc c1 35 _ (by rw [hW]; exact setRow_heap _ _ _ _ _ _ hHg) (by rw [hdl]; simp only [Nat.min_def]; split <;> omega) (fun j v hj => ?_) (by rw [hdl]; omega) hd1
    rw [Addr.add_lit, cell_of_row _ _ _ _ _ _ (show W.heap[g]? = _ by rw [hW, setRow_other _ _ _ _ (by omega)]; exact hGg)]
    rw [List.getElem?_drop, ← ht, List.getElem?_take] at hj
    split at hj
    · rw [← hj, List.getElem?_toArray]
    · cases hj
  have hfin : ∀ W : World, W.heap = (W1.setRow w.heap.size c1.toArray).heap → W.os = w.os → W.tape = w.tape → W.output = w.output → (W.setRow w.heap.size (spl c1 ((i + 1) * 2) (xs.drop (i * 2))).toArray).heap[w.heap.size]? = some (.cells (spl c1 ((i + 1) * 2) (xs.drop (i * 2))).toArray 35 (0, 0)) ∧ Calm w (W.setRow w.heap.size (spl c1 ((i + 1) * 2) (xs.drop (i * 2))).toArray) := fun W hW h1 h2 h3 => by
    refine ⟨setRow_heap _ _ c1.toArray _ _ _ (by rw [hW]; exact setRow_heap _ _ _ _ _ _ hHg), h1, h2, h3, ?_, fun k hk => ?_⟩
    · rw [show (W.setRow w.heap.size _).heap.size = W.heap.size by simp, hW, hW1]; simp
    · rw [setRow_other _ _ _ _ (by omega), hW, setRow_other _ _ _ _ (by omega), hW1]
      exact Below.heap_alloc w.drew _ _ hk
  have hGi : ¬ (G = i) := by omega
  have hGim : ¬ (G = i + 1) := by omega
  have hci : ¬ (cap = i) := by omega
  have hG63 : G ≤ 9223372036854775807 := by unfold maxLen at hGm; omega
  have HEND : ∀ w', w'.heap[w.heap.size]? = some (.cells (spl c1 ((i + 1) * 2) (xs.drop (i * 2))).toArray 35 (0, 0)) → Calm w w' → GrowPEnd w n xs nc i (.returned (.slice (some ⟨w.heap.size, 0, none⟩) (n + 1) G)) w' := fun w' h1 h2 =>
    ⟨G, C, rfl, by omega, hGm, hCl, hCt, by rw [hc1] at h1; exact h1, h2⟩
  have hz2 : ¬ ((i : Int) = (n : Int)) := by omega
  have hz3 : (cap : Int) < (n : Int) + 1 := by omega
  have hw1 : IntKind.i64.wrap ((i : Int) + 1) = (i : Int) + 1 := by rw [IntKind.wrap_i64]; omega
  have hb1 : (0 : Int) ≤ (i : Int) + 1 := by omega
  have hin : i ≤ n := by omega
  have htn : ((i : Int) + 1).toNat = i + 1 := by omega
  have hb3 : (i : Int) ≤ (n : Int) := by omega
  subst hW1
  clear hkk hik hold hG hC hGn hGm hCl hCt hc1 hc1l hcl hdl htl hxl ht hg hh hHg hGg hHh hi0 hz0 hzs hzb hgw hhw hZ hZs hncl ho1 hx1 hd1
  go_enter Try.func25, Try.ntmps25
  go_wp2_with (first
    | (at_builtin; refine Lib.wpList_append_run _ rfl _ _ _ _ rfl _ _ rfl rfl _ _ (hrz _) ?_)
    | (refine wpList_copy_known rfl _ _ 22 rfl _ _ rfl rfl (v' := goInt (Nat.min 1 (n + 1 - i))) (w' := ((w.alloc (.cells C.toArray 35)).drew).setRow w.heap.size c1.toArray) (by exact hcpA ((w.alloc (.cells C.toArray 35)).drew) rfl _ _) ?_))
  go_region_law (refine step_copy_known rfl _ _ 22 rfl (.slice (some ⟨w.heap.size, (i + 1) * 2, none⟩) (n - i) (G - (i + 1))) (.slice (some ⟨g, i * 2, none⟩) (n - i) (cap - i)) (by simp [Act.eval, Act.put]) (by simp [Act.eval, Act.put]) (v' := goInt (Nat.min (n - i) (n - i))) (w' := ((((w.alloc (.cells C.toArray 35)).drew).setRow w.heap.size c1.toArray).drew).setRow w.heap.size (spl c1 ((i + 1) * 2) (xs.drop (i * 2))).toArray) (by exact hcpB ((((w.alloc (.cells C.toArray 35)).drew).setRow w.heap.size c1.toArray).drew) rfl _ _ _) ?_)
  go_wp2_with fail
  go_ret
  exact HEND _ (hfin ((((w.alloc (.cells C.toArray 35)).drew).setRow w.heap.size c1.toArray).drew) rfl rfl rfl rfl).1 (hfin ((((w.alloc (.cells C.toArray 35)).drew).setRow w.heap.size c1.toArray).drew) rfl rfl rfl rfl).2
set_option maxHeartbeats 8000000 in
theorem insP_own (base h i n : Nat) (v : Value) (xs nc : List Value) (w : World) (hi : i ≤ n) (hn4 : n ≤ 400) (ho : w.ownsRow base 35 2 v n xs) (hb : base ≤ w.heap.size)
    (hh : w.heap[h]? = some (.cells nc.toArray 35 (0, 0))) (hnc : nc.length = 2) (ho1 : ∀ u ∈ nc, u.oneCell' = true) (hx1 : ∀ u ∈ xs, u.oneCell' = true) (hne : v.ownBlock ≠ some h) :
    Calls Try.prog 25 #[v, .int .i64 i, .slice (some ⟨h, 0, none⟩) 1 1] w (RowEnd base 35 2 w v (n + 1) (insC xs (i * 2) nc)) := by
  have hxl := ho.1
  have hend : i = n → insC xs (i * 2) nc = xs ++ nc := fun h => by unfold insC; rw [h, List.take_of_length_le (by omega), List.drop_of_length_le (by omega), List.append_nil]
  have hnews : ∀ (j : Nat) u, nc[j]? = some u → w.cell? ((⟨h, 0, none⟩ : Addr).add j) = some u := fun j u hj => by
    have : (⟨h, 0, none⟩ : Addr).add j = ⟨h, j, none⟩ := by unfold Addr.add; split <;> simp_all
    rw [this, cell_of_row w h j _ _ _ hh, ← hj, List.getElem?_toArray]
  obtain ⟨i0, hi0, hz0, hz1, hz2⟩ := info_parts infoSnP
  have hnl : nc.length = 1 * 2 := by omega
  have HN := Lib.hid hnews
  have HO := Lib.hid ho
  have HO1 := Lib.hid ho1
  have HNL := Lib.hid hnl
  have HI0 : Hid (Try.prog.info? 35 = some i0) := hi0
  have HZ0 := Lib.hid hz0
  have HZ1 := Lib.hid hz1
  have HZ2 := Lib.hid hz2
  clear hnews hnl hi0 hz0 hz1 hz2
  rcases id ho.2 with ⟨rfl, hl0⟩ | ⟨g, cap, cur, rfl, hbg, hg, hnc', hcm, hcs, ht⟩
  · have h0 : i = n := by omega
    rw [hend h0]
    have h1 : i = 0 := by omega
    subst h1
    have hll : n + 1 ≤ maxLen := by unfold maxLen; omega
    have hlb : (n + 1) * 24 ≤ 140737488355328 := by omega
    clear ho hend hi h0 hxl hl0
    go_enter Try.func25, Try.ntmps25
    go_wp2_with (at_builtin; refine wpList_append_own_at _ rfl _ _ 22 rfl base 35 i0 _ 2 24 Try.underlying22 HI0.out HZ0.out HZ1.out HZ2.out rfl (by decide) _ _ _ rfl HO.out ⟨h, 0, none⟩ 1 1 nc rfl HNL.out HN.out HO1.out hll hlb hb ?_; intro v' w9 r1 r2 _ r4)
    have HE : Hid (RowEnd base 35 2 w (.slice none 0 0) (n + 1) (xs ++ nc) (.returned v') w9) := show RowEnd _ _ _ _ _ _ _ _ _ from ⟨_, rfl, r1, r2, r4.imp id fun h => ⟨_, h, Nat.le_refl _⟩⟩
    clear r1 r2 r4
    go_wp2_with fail
    go_ret
    exact HE.out
  · have hcs' : cur.toList.length = cap * 2 := by simpa using hcs
    have hg' : w.heap[g]? = some (.cells cur.toList.toArray 35 (0, 0)) := by simpa using hg
    have hc63 : cap ≤ 9223372036854775807 := by unfold maxLen at hcm; exact hcm
    by_cases hin : i = n
    · rw [hend hin]
      have hll : n + 1 ≤ maxLen := by unfold maxLen; omega
      have hlb : (n + 1) * 24 ≤ 140737488355328 := by omega
      clear ho hend hi hcs' hg' ht hcs hxl
      subst hin
      by_cases hci : cap = i
      all_goals
        first | (have hci' := hci.symm; subst hci') | skip
        go_enter Try.func25, Try.ntmps25
        go_wp2_with (at_builtin; refine wpList_append_own_at _ rfl _ _ 22 rfl base 35 i0 _ 2 24 Try.underlying22 HI0.out HZ0.out HZ1.out HZ2.out rfl (by decide) _ _ _ rfl HO.out ⟨h, 0, none⟩ 1 1 nc rfl HNL.out HN.out HO1.out hll hlb hb ?_; intro v' w9 r1 r2 _ r4)
        have HE : Hid (RowEnd base 35 2 w (.slice (some ⟨g, 0, none⟩) i _) (i + 1) (xs ++ nc) (.returned v') w9) := show RowEnd _ _ _ _ _ _ _ _ _ from ⟨_, rfl, r1, r2, r4.imp id fun h => ⟨_, h, Nat.le_refl _⟩⟩
        clear r1 r2 r4
        go_wp2_with fail
        go_ret
        exact HE.out
    · have hfit := fun p : Nat => hn4
      by_cases hroom : n + 1 ≤ cap
      · refine (insP_shift g h i n cap xs cur.toList nc w (by omega) (by omega) hn4 hroom hc63 hg' (by omega) (by simpa using ht) hh hnc ho1 hx1 (fun e => hne (by simp [Value.ownBlock, e]))).mono fun e w' ⟨he, hr, hgr⟩ => ⟨_, he, ?_, hgr, .inl rfl⟩
        obtain ⟨q1, q2⟩ := shift_row (cur := cur.toList) (xs := xs) (nc := nc) (p := i * 2) (q := n * 2) (N := 2) (by omega) (by simpa using ht) (by omega) hnc (by omega)
        rw [show i * 2 + 2 = (i + 1) * 2 by omega] at q1 q2
        exact ⟨by rw [insC_len (by omega)]; omega, .inr ⟨g, cap, _, rfl, hbg, hr, by omega, hcm, by simp only [List.size_toArray]; omega, by simp only [List.toList_toArray]; rw [show (n + 1) * 2 = n * 2 + 2 by omega]; exact q1⟩⟩
      · refine (insP_grow g h i n cap xs cur.toList nc w (by omega) (by omega) hn4 hnc' (by omega) hg' (by simpa using ht) hh hnc ho1 hx1).mono fun e w' ⟨G, C, he, h1, h2, h3, h4, hr, hc⟩ => ⟨_, he, ?_, hc.grownBy _, .inr ⟨_, rfl, Nat.le_refl _⟩⟩
        obtain ⟨q1, q2⟩ := fresh_row (cur := C) (xs := xs) (nc := nc) (p := i * 2) (q := n * 2) (N := 2) (by omega) h4 (by omega) hnc (by omega)
        rw [show i * 2 + 2 = (i + 1) * 2 by omega] at q1 q2
        exact ⟨by rw [insC_len (by omega)]; omega, .inr ⟨_, G, _, rfl, hb, hr, by omega, h2, by simp only [List.size_toArray]; omega, by simp only [List.toList_toArray]; rw [show (n + 1) * 2 = n * 2 + 2 by omega]; exact q1⟩⟩
open Go.RowKit
/-- append(s[:i], s[j:]...) in a row with room for it, as a step of a region that draws. -/
theorem stepDelP {ops : Array Oper} {o : Oper} {a : Act} {w : World} {K : Act → World → Prop} {Q : Exit → Act → World → Prop} {E : Prop} (hgd : o.guard = none) (s x : Operand)
    (hop : o.op = Op.call { callee := Callee.builtin Builtin.append, args := #[s, x], argTypes := #[22, 22] })
    (g n cap : Nat) (hs : a.eval s = .slice (some ⟨g, 0, none⟩) n cap) (ad : Addr) (m c : Nat) (hx : a.eval x = .slice (some ad) m c) (cur : List Value) (hg : w.heap[g]? = some (.cells cur.toArray 35 (0, 0)))
    (news : List Value) (hl : news.length = m * 2) (hnews : ∀ j u, news[j]? = some u → w.cell? (ad.add j) = some u) (h1 : ∀ u ∈ news, u.oneCell' = true) (hroom : n + m ≤ cap) (hfit : n * 2 + news.length ≤ cur.length)
    (hK : K (a.put o.dst (.slice (some ⟨g, 0, none⟩) (n + m) cap)) (w.setRow g (spl cur (n * 2) news).toArray)) : if Region.wanted o (yielded ops a.tmps) = true then Oper.wp Try.prog o a w K Q else E := by
  have hw : Region.wanted o (yielded ops a.tmps) = true := by simp [Region.wanted, hgd]
  rw [if_pos hw]
  obtain ⟨i0, hi, hz0, hz1, hz2⟩ := info_parts infoSnP
  have hr := run_append_room (P := Try.prog) w 22 o.type 35 i0 Try.underlying22 hi g n cap cur.toArray hg ad m c news (by rw [hz1]; exact hl) hnews h1 hroom (by rw [hz1]; simpa using hfit)
  rw [hz1] at hr
  unfold Oper.wp
  simp only [execOp, hop, resolve, invoke, builtin, Sem.run_bind, Sem.run_pure, Result.andThen_ok, List.map_toArray, List.map_cons, List.map_nil, hs, hx, hr]
  exact hK
def zeroDP : List Value := [.string ByteArray.empty, .int .i64 0]
theorem clearDP (w : World) (ty : TypeId) (g o c : Nat) (cur : List Value) (hg : w.heap[g]? = some (.cells cur.toArray 35 (0, 0))) (hfit : o + 2 ≤ cur.length) :
    (Builtin.clear_ #[22] ty #[.slice (some ⟨g, o, none⟩) 1 c]).run Try.prog w = .ok (.tuple #[]) (w.setRow g (spl cur o zeroDP).toArray) := by
  have hzc : (Builtin.zeroCells (Value.cells (.agg #[.string ByteArray.empty, .int .i64 0])) 1).toList = zeroDP := by kernel_rfl
  have hzd : (Builtin.zeroCells (Value.cells (.agg #[.string { data := #[] }, .int .i64 0])) 1).toList = zeroDP := hzc
  have hst := run_storeCells_at Try.prog g o 35 zeroDP 0 cur.toArray w hg (by simp [zeroDP]; omega) (by intro u hu; simp only [zeroDP, List.mem_cons, List.not_mem_nil, or_false] at hu; rcases hu with rfl | rfl <;> rfl)
  simp [Builtin.clear_, run_underlying Try.underlying22, hzd, hst, spl]
set_option maxHeartbeats 8000000 in
theorem delP_own (base g i n cap : Nat) (xs : List Value) (w : World) (hi : i < n) (hn4 : n ≤ 400) (hx1 : ∀ u ∈ xs, u.oneCell' = true) (ho : w.ownsRow base 35 2 (.slice (some ⟨g, 0, none⟩) n cap) n xs) :
    Calls Try.prog 28 #[.slice (some ⟨g, 0, none⟩) n cap, .int .i64 i, .int .i64 ((i : Int) + 1)] w (RowEnd base 35 2 w (.slice (some ⟨g, 0, none⟩) n cap) (n - 1) (delC xs (i * 2) 2)) := by
  have hxl := ho.1
  rcases id ho.2 with ⟨h, _⟩ | ⟨g', cap', cur0, hv, hbg, hg0, hnc, hcm, hcs, ht⟩
  · cases h
  injection hv with h1 h2 h3
  injection h1 with h1
  injection h1 with h1
  subst h1; subst h3
  clear ho h2
  obtain ⟨cur, rfl⟩ : ∃ cur : List Value, cur.toArray = cur0 := ⟨cur0.toList, by simp⟩
  simp only [List.size_toArray] at hcs ht
  have hc63 : cap ≤ 9223372036854775807 := by unfold maxLen at hcm; exact hcm
  have hdl : (xs.drop (i * 2 + 2)).length = (n - (i + 1)) * 2 := by rw [List.length_drop, hxl]; omega
  have hfit1 : i * 2 + (xs.drop (i * 2 + 2)).length ≤ cur.length := by omega
  obtain ⟨A, hA, hsrc⟩ : ∃ A : Addr, (if cap = i + 1 then some (⟨g, 0, none⟩ : Addr) else some ⟨g, (i + 1) * 2, none⟩) = some A ∧ Hid (∀ j u, (xs.drop (i * 2 + 2))[j]? = some u → w.drew.cell? (A.add j) = some u) := by
    by_cases h : cap = i + 1
    · refine ⟨⟨g, 0, none⟩, by simp [h], show ∀ _, _ from fun j u hu => ?_⟩
      have h0 : (xs.drop (i * 2 + 2)).length = 0 := by rw [hdl]; omega
      rw [List.eq_nil_of_length_eq_zero h0] at hu; simp at hu
    · refine ⟨⟨g, (i + 1) * 2, none⟩, by simp [h], show ∀ _, _ from fun j u hu => ?_⟩
      have hj : j < (n - (i + 1)) * 2 := by rw [← hdl]; exact (List.getElem?_eq_some_iff.1 hu).1
      rw [List.getElem?_drop, ← ht, List.getElem?_take, if_pos (by omega)] at hu
      rw [Addr.add_lit]
      show w.cell? _ = _
      rw [cell_of_row _ _ _ _ _ _ hg0, ← hu, List.getElem?_toArray]
      try (congr 1; omega)
  obtain ⟨c1, hc1⟩ : ∃ c1, c1 = spl cur (i * 2) (xs.drop (i * 2 + 2)) := ⟨_, rfl⟩
  have hc1l : c1.length = cur.length := by rw [hc1]; exact spl_len (by omega)
  obtain ⟨W1, hW1⟩ : ∃ W1, W1 = w.drew.setRow g c1.toArray := ⟨_, rfl⟩
  have hWg : W1.heap[g]? = some (.cells c1.toArray 35 (0, 0)) := by rw [hW1]; exact setRow_heap _ _ _ _ _ _ hg0
  have hcl : ∀ ty c, (Builtin.clear_ #[22] ty #[.slice (some ⟨g, (n - 1) * 2, none⟩) (n - (n - 1)) c]).run Try.prog W1 = .ok (.tuple #[]) (W1.setRow g (spl c1 ((n - 1) * 2) zeroDP).toArray) := fun ty c => by
    rw [show n - (n - 1) = 1 by omega]; exact clearDP W1 ty g _ c c1 hWg (by omega)
  have HEND : Hid (RowEnd base 35 2 w (.slice (some ⟨g, 0, none⟩) n cap) (n - 1) (delC xs (i * 2) 2) (.returned (.slice (some ⟨g, 0, none⟩) (n - 1) cap)) (W1.setRow g (spl c1 ((n - 1) * 2) zeroDP).toArray)) := show RowEnd _ _ _ _ _ _ _ _ _ from by
    have hfin : (W1.setRow g (spl c1 ((n - 1) * 2) zeroDP).toArray).heap[g]? = some (.cells (spl c1 ((n - 1) * 2) zeroDP).toArray 35 (0, 0)) := setRow_heap _ _ _ _ _ _ hWg
    obtain ⟨q1, q2⟩ := del_row (cur := cur) (xs := xs) (z := zeroDP) (p := i * 2) (q := (n - 1) * 2) (N := 2) (by omega) (by rw [← ht]; congr 1; omega) (by omega) rfl (by omega)
    rw [← hc1] at q1 q2
    refine ⟨_, rfl, ⟨by rw [delC_len (by omega)]; omega, .inr ⟨g, cap, _, rfl, hbg, hfin, by omega, hcm, by simp only [List.size_toArray]; omega, by simp only [List.toList_toArray]; first | exact q1 | (rw [Nat.mul_one]; exact q1)⟩⟩, ⟨by rw [hW1]; rfl, by rw [hW1]; rfl, by rw [hW1]; rfl, by rw [hW1]; simp, fun k _ hne => ?_⟩, .inl rfl⟩
    have hkg : k ≠ g := fun e => hne (by rw [e]; rfl)
    rw [setRow_other _ _ _ _ hkg, hW1, setRow_other _ _ _ _ hkg]
    rfl
  have hW := Lib.hid hW1
  have HC := Lib.hid hc1
  have s1 := Lib.hid hdl
  have s2 : Hid (∀ u ∈ xs.drop (i * 2 + 2), u.oneCell' = true) := show ∀ u ∈ _, _ from fun u hu => hx1 u (List.mem_of_mem_drop hu)
  have s3 : Hid (w.drew.heap[g]? = some (.cells cur.toArray 35 (0, 0))) := hg0
  have s4 := Lib.hid hfit1
  have hic : i ≤ cap := by omega
  have hjc : i + 1 ≤ cap := by omega
  have hb5 : (i : Int) < (n : Int) := by omega
  have hb6 : (i : Int) + 1 ≤ (n : Int) := by omega
  have hb7 : ¬ ((i : Int) = (i : Int) + 1) := by omega
  have htn : ((i : Int) + 1).toNat = i + 1 := by omega
  have hb8 : (0 : Int) ≤ (i : Int) + 1 := by omega
  have hb9 : i + (n - (i + 1)) = n - 1 := by omega
  clear hW1 hWg hc1 hdl hfit1 hg0 hcs ht hc1l hxl hx1
  go_enter Try.func28, Try.ntmps28
  go_wp2_with fail
  go_region_law (refine stepDelP rfl (.tmp 22) (.tmp 25) rfl g i cap (by simp [Act.eval, Act.put]) A (n - (i + 1)) (cap - (i + 1)) (by simp [Act.eval, Act.put]) cur s3.out (xs.drop (i * 2 + 2)) s1.out hsrc.out s2.out (by omega) s4.out ?_; try simp only [Nat.mul_one]; rw [← HC.out, ← hW.out])
  go_wp2_with fail
  go_ret
  exact HEND.out
open Go.ChangeShapes Go.WideShapes Go.ChangeAt Go.RowKit
set_option maxHeartbeats 4000000 in
theorem cloneN_any (A : Option Addr) (c : Nat) (l : List Sn) (w : World) (hn : l.length ≤ 1000000) (hL : LiesN w A l) :
    Calls Try.prog 26 #[.slice A l.length c] w fun e w' => ∃ v, e = .returned v ∧ OwnSn w.heap.size w' v l ∧ Calm w w' := by
  rcases A with _ | ⟨b, q, sp⟩
  · have h0 : l = [] := by
      rcases Nat.eq_zero_or_pos l.length with h | h
      · exact List.eq_nil_of_length_eq_zero h
      · obtain ⟨_, _, h1, _⟩ := hL h; cases h1
    subst h0
    have q22 : ∀ (w : World) (n c n' c' : Nat), (binOp .eql 22 (.slice none n c) (.slice none n' c')).run Try.prog w = .ok (.bool true) w := fun w n c n' c' => Lib.run_eql_slice_nil w _ _ none n c n' c' Try.underlying22
    go_enter Try.func26, Try.ntmps26
    go_wp2_with fail
    go_ret
    exact ⟨_, rfl, OwnG.nil _ _ _ _ _, Calm.refl _⟩
  · obtain ⟨i0, hi, hz0, hz1, hz2⟩ := info_parts infoSnP
    have q22 : ∀ (w : World) (a : Addr) (n c n' c' : Nat), (binOp .eql 22 (.slice (some a) n c) (.slice none n' c')).run Try.prog w = .ok (.bool false) w := fun w a n c n' c' => Lib.run_eql_slice_nil w _ _ (some a) n c n' c' Try.underlying22
    have hsrc : Hid (∀ j v, (cvs snV l)[j]? = some v → (w.alloc (.cells #[] 35)).cell? ((⟨b, q, sp⟩ : Addr).add j) = some v) := show ∀ _, _ from fun j v hj => by
      have hlt : j < l.length * 2 := by rw [← cvs_len snV_len]; exact (List.getElem?_eq_some_iff.1 hj).1
      obtain ⟨b', q', hA, hb, _⟩ := hL (by omega)
      injection hA with hA
      injection hA with h1 h2 h3
      subst h1; subst h2; subst h3
      have := (LiesG.cells snV_len (by omega) hL j v hj).2
      have e : (⟨b, q, none⟩ : Addr).add j = ⟨b, q + j, none⟩ := by unfold Addr.add; split <;> simp_all
      rw [e, World.cell?_alloc_lt _ _ _ hb]; exact this
    have HLEN := Lib.hid (cvs_len snV_len l)
    have hone : Hid (∀ u ∈ cvs snV l, u.oneCell' = true) := cvs_one snV_one l
    have hbig : l.length * 24 ≤ 140737488355328 := by omega
    have hmax : l.length ≤ maxLen := by unfold maxLen; omega
    clear hL
    go_enter Try.func26, Try.ntmps26
    go_wp2_with (at_builtin; refine wpList_append_own _ rfl _ _ 22 rfl w.heap.size 35 i0 _ 2 24 Try.underlying22 hi hz0 hz1 hz2 rfl (by decide) _ _ _ rfl (World.ownsRow_made w #[] 0 (Nat.le_refl _) (Nat.zero_le _) (by simp)) ⟨b, q, sp⟩ l.length c (cvs snV l) rfl HLEN.out hsrc.out hone.out (by rw [Nat.zero_add]; exact hmax) (by rw [Nat.zero_add]; exact hbig) (by simp) ?_; intro v' w1 hown hgrow _)
    have hO : OwnSn w.heap.size w1 v' l := by unfold OwnSn OwnG; simpa using hown
    have hC : Calm w w1 := Below.grown ((Calm.refl w).alloc _) hgrow (by simp) (by intro k hk; cases hk; exact Nat.le_refl _)
    clear hown hgrow
    go_wp2_with fail
    go_ret
    exact ⟨_, rfl, hO, hC⟩
theorem cvs_takeN (l : List Sn) (p : Nat) (hp : p ≤ l.length) : (cvs snV l).take (p * 2) = cvs snV (l.take p) := by
 conv => lhs; rw [← List.take_append_drop p l, cvs_app]
 exact List.take_left' (by rw [cvs_len snV_len, List.length_take]; congr 1; omega)
theorem cvs_dropN (l : List Sn) (p : Nat) (hp : p ≤ l.length) : (cvs snV l).drop (p * 2) = cvs snV (l.drop p) := by
 conv => lhs; rw [← List.take_append_drop p l, cvs_app]
 exact List.drop_left' (by rw [cvs_len snV_len, List.length_take]; congr 1; omega)
theorem cvs_insN (l : List Sn) (p : Nat) (s : Sn) (hp : p ≤ l.length) : insC (cvs snV l) (p * 2) (snV s) = cvs snV (insL l p s) := by
 unfold insC insL
 rw [cvs_takeN l p hp, cvs_dropN l p hp, cvs_app, List.append_assoc]
 rfl
theorem cvs_delN (l : List Sn) (p : Nat) (hp : p < l.length) : delC (cvs snV l) (p * 2) 2 = cvs snV (delL l p) := by
 unfold delC delL
 rw [cvs_takeN l p (by omega), show p * 2 + 2 = (p + 1) * 2 from by omega, cvs_dropN l (p + 1) (by omega), cvs_app]
theorem posN_le (l : List Sn) (x : ByteArray) : posN l x ≤ l.length := List.countP_le_length
def adErr (l : List Sn) (x : ByteArray) (t : Int) : Int := if snErr l = 0 then (if nameOk x = true then (if tidOk t then (if hitN l x = true then 5 else if l.length = 20 then 8 else 0) else 9) else 3) else snErr l
def adL (l : List Sn) (x : ByteArray) (t : Int) : List Sn := if adErr l x t = 0 then insL l (posN l x) ⟨x, t⟩ else []
def drL (l : List Sn) (x : ByteArray) : List Sn := if fiErr l x = 0 then delL l (posN l x) else []
def SnEnd (L : List Sn) (E : Int) (w : World) (e : Ending) (w' : World) : Prop := ∃ v, e = .returned (.tuple #[v, .int .i64 E]) ∧ OwnSn w.heap.size w' v L ∧ Calm w w'
theorem insL_lenN {l : List Sn} {p : Nat} (s : Sn) (hp : p ≤ l.length) : (insL l p s).length = l.length + 1 := by
 unfold insL; rw [List.length_append, List.length_cons, List.length_take, List.length_drop]; omega
set_option maxHeartbeats 8000000 in
theorem snAdd_any (A : Option Addr) (c : Nat) (l : List Sn) (x : ByteArray) (t : Int) (w : World) (hn : l.length ≤ 9223372036854775807) (hS : Szs l) (hx : x.size ≤ maxLen) (hL : LiesN w A l) :
    Calls Try.prog 6 #[.slice A l.length c, .string x, .int .i64 t] w (SnEnd (adL l x t) (adErr l x t) w) := by
  have cC := fun u (hu : Calm w u) => snCheck_any A c l u hn hS (hL.calm hu)
  have cN := fun u => dirName_any x u hx
  have cT := fun u => isTid_any t u
  have hu := Calm.refl w
  by_cases h1 : snErr l = 0
  rotate_left
  · have e1 : adErr l x t = snErr l := by unfold adErr; rw [if_neg h1]
    have e2 : adL l x t = [] := by unfold adL; rw [e1, if_neg h1]
    rw [e1, e2]
    have b1 : (snErr l != 0) = true := by simpa using h1
    generalize snErr l = E at *
    clear e1 e2 h1 hL
    go_enter Try.func6, Try.ntmps6
    go_wp2_with (go_at_call 11; (with_reducible refine (cC _ hu).mono ?_); rintro e w1 ⟨rfl, hb⟩; replace hu := hu.call hb; clear hb cC)
    go_ret2
    exact ⟨_, rfl, OwnG.nil _ _ _ _ _, hu⟩
  have hG := snErr_zero.1 h1
  have e0 : adErr l x t = if nameOk x = true then (if tidOk t then (if hitN l x = true then 5 else if l.length = 20 then 8 else 0) else 9) else 3 := by unfold adErr; rw [if_pos h1]
  rw [h1] at cC
  have cP := fun u (hu : Calm w u) => snPosition_any A c l x u (by have := hG.1; omega) (hL.calm hu) hG.2.2
  have cK := fun u (hu : Calm w u) => cloneN_any A c l u (by have := hG.1; omega) (hL.calm hu)
  by_cases h2 : nameOk x = true
  rotate_left
  · have e1 : adErr l x t = 3 := by rw [e0, if_neg h2]
    have e2 : adL l x t = [] := by unfold adL; rw [e1, if_neg (by decide)]
    rw [e1, e2]
    rw [show nameOk x = false from by simpa using h2] at cN
    clear e0 e1 e2 h1 h2 hG hL
    go_enter Try.func6, Try.ntmps6
    go_wp2_with (first
      | (go_at_call 11; (with_reducible refine (cC _ hu).mono ?_); rintro e w1 ⟨rfl, hb⟩; replace hu := hu.call hb; clear hb cC)
      | (go_at_call 22; (with_reducible refine (cN _).mono ?_); rintro e w2 ⟨rfl, rfl⟩; clear cN))
    go_ret2
    exact ⟨_, rfl, OwnG.nil _ _ _ _ _, hu⟩
  rw [h2] at cN
  by_cases h3 : tidOk t
  rotate_left
  · have e1 : adErr l x t = 9 := by rw [e0, if_pos h2, if_neg h3]
    have e2 : adL l x t = [] := by unfold adL; rw [e1, if_neg (by decide)]
    rw [e1, e2]
    rw [decide_eq_false h3] at cT
    clear e0 e1 e2 h1 h2 h3 hG hL
    go_enter Try.func6, Try.ntmps6
    go_wp2_with (first
      | (go_at_call 11; (with_reducible refine (cC _ hu).mono ?_); rintro e w1 ⟨rfl, hb⟩; replace hu := hu.call hb; clear hb cC)
      | (go_at_call 22; (with_reducible refine (cN _).mono ?_); rintro e w2 ⟨rfl, rfl⟩; clear cN)
      | (go_at_call 23; (with_reducible refine (cT _).mono ?_); rintro e w3 ⟨rfl, rfl⟩; clear cT))
    go_ret2
    exact ⟨_, rfl, OwnG.nil _ _ _ _ _, hu⟩
  rw [decide_eq_true h3] at cT
  by_cases h4 : hitN l x = true
  · have e1 : adErr l x t = 5 := by rw [e0, if_pos h2, if_pos h3, if_pos h4]
    have e2 : adL l x t = [] := by unfold adL; rw [e1, if_neg (by decide)]
    rw [e1, e2]
    rw [h4] at cP
    generalize posN l x = P at cP
    clear e0 e1 e2 h1 h2 h3 h4 hG hL
    go_enter Try.func6, Try.ntmps6
    go_wp2_with (first
      | (go_at_call 11; (with_reducible refine (cC _ hu).mono ?_); rintro e w1 ⟨rfl, hb⟩; replace hu := hu.call hb; clear hb cC)
      | (go_at_call 22; (with_reducible refine (cN _).mono ?_); rintro e w2 ⟨rfl, rfl⟩; clear cN)
      | (go_at_call 23; (with_reducible refine (cT _).mono ?_); rintro e w3 ⟨rfl, rfl⟩; clear cT)
      | (go_at_call 24; (with_reducible refine (cP _ hu).mono ?_); rintro e w4 ⟨rfl, hb⟩; replace hu := hu.call hb; clear hb cP))
    go_ret2
    exact ⟨_, rfl, OwnG.nil _ _ _ _ _, hu⟩
  rw [show hitN l x = false from by simpa using h4] at cP
  by_cases h5 : l.length = 20
  · have e1 : adErr l x t = 8 := by rw [e0, if_pos h2, if_pos h3, if_neg h4, if_pos h5]
    have e2 : adL l x t = [] := by unfold adL; rw [e1, if_neg (by decide)]
    rw [e1, e2]
    generalize posN l x = P at cP
    have b5 : ((l.length : Int) == 20) = true := by rw [h5]; rfl
    have b6 : (l.length : Int) = 20 := by omega
    clear e0 e1 e2 h1 h2 h3 h4 hG hL h5 cK hn
    go_enter Try.func6, Try.ntmps6
    go_wp2_with (first
      | (go_at_call 11; (with_reducible refine (cC _ hu).mono ?_); rintro e w1 ⟨rfl, hb⟩; replace hu := hu.call hb; clear hb cC)
      | (go_at_call 22; (with_reducible refine (cN _).mono ?_); rintro e w2 ⟨rfl, rfl⟩; clear cN)
      | (go_at_call 23; (with_reducible refine (cT _).mono ?_); rintro e w3 ⟨rfl, rfl⟩; clear cT)
      | (go_at_call 24; (with_reducible refine (cP _ hu).mono ?_); rintro e w4 ⟨rfl, hb⟩; replace hu := hu.call hb; clear hb cP))
    go_ret2
    exact ⟨_, rfl, OwnG.nil _ _ _ _ _, hu⟩
  have e1 : adErr l x t = 0 := by rw [e0, if_pos h2, if_pos h3, if_neg h4, if_neg h5]
  have e2 : adL l x t = insL l (posN l x) ⟨x, t⟩ := by unfold adL; rw [if_pos e1]
  rw [e1, e2]
  have hP := posN_le l x
  have hins := cvs_insN l (posN l x) ⟨x, t⟩ hP
  have hil := insL_lenN ⟨x, t⟩ hP
  have h20 := hG.1
  have b6 : ¬ (l.length : Int) = 20 := by omega
  generalize posN l x = P at *
  have HINS := Lib.hid (And.intro hins hil)
  have HP := Lib.hid (And.intro hP h20)
  clear e0 e1 e2 h1 h2 h3 h4 h5 hG hL hins hil hP h20
  go_enter Try.func6, Try.ntmps6
  go_wp2_with (first
    | (go_at_call 11; (with_reducible refine (cC _ hu).mono ?_); rintro e w1 ⟨rfl, hb⟩; replace hu := hu.call hb; clear hb cC)
    | (go_at_call 22; (with_reducible refine (cN _).mono ?_); rintro e w2 ⟨rfl, rfl⟩; clear cN)
    | (go_at_call 23; (with_reducible refine (cT _).mono ?_); rintro e w3 ⟨rfl, rfl⟩; clear cT)
    | (go_at_call 24; (with_reducible refine (cP _ hu).mono ?_); rintro e w4 ⟨rfl, hb⟩; replace hu := hu.call hb; clear hb cP)
    | (go_at_call 26; (with_reducible refine (cK _ hu).mono ?_); rintro e w5 ⟨v5, rfl, ho5, hb⟩; have HO5 := Lib.hid ho5; have hu0 := Lib.hid hu; have hz5 := Lib.hid hu.size; replace hu := hu.call hb; clear ho5 hb cK)
    | (go_at_call 25; (refine (insP_own w.heap.size _ P l.length v5 (cvs snV l) (snV ⟨x, t⟩) _ HP.out.1 (by have := HP.out.2; omega) (OwnG.calm (OwnG.weaken HO5.out hz5.out) ((Calm.refl _).alloc (.cells #[.string x, .int .i64 t] 35 (0, 0)))) (by have := hu.size; simp; omega) (heap_new _ _) rfl (snV_one _) (cvs_one snV_one l) (fun e => by have := (HO5.out.lt _ e).2; simp at this)).mono ?_); rintro e w6 ⟨v6, rfl, ho6, hg6, -⟩; have HO6 := Lib.hid ho6; have hu6 : Calm w w6 := Below.grown (hu.alloc _) hg6 (hu.alloc _).size (fun k hk => (OwnG.lt (OwnG.weaken HO5.out hz5.out) k hk).1); clear ho6 hg6))
  go_ret2
  refine ⟨_, rfl, ?_, hu6⟩
  have h9 := HO6.out
  unfold OwnSn OwnG
  rw [HINS.out.2, ← HINS.out.1]
  exact h9
set_option maxHeartbeats 8000000 in
theorem snDrop_any (A : Option Addr) (c : Nat) (l : List Sn) (x : ByteArray) (w : World) (hn : l.length ≤ 9223372036854775807) (hS : Szs l) (hL : LiesN w A l) :
    Calls Try.prog 7 #[.slice A l.length c, .string x] w (SnEnd (drL l x) (fiErr l x) w) := by
  have cF := fun u (hu : Calm w u) => snfind_any A c l x u hn hS (hL.calm hu)
  have hu := Calm.refl w
  unfold drL
  by_cases h1 : fiErr l x = 0
  rotate_left
  · rw [if_neg h1]
    have b1 : (fiErr l x != 0) = true := by simpa using h1
    generalize fiErr l x = E at *
    generalize fiPos l x = P at cF
    clear h1 hL
    go_enter Try.func7, Try.ntmps7
    go_wp2_with (go_at_call 27; (with_reducible refine (cF _ hu).mono ?_); rintro e w1 ⟨rfl, hb⟩; replace hu := hu.call hb; clear hb)
    go_ret2
    exact ⟨_, rfl, OwnG.nil _ _ _ _ _, hu⟩
  have hz : snErr l = 0 := by
    by_cases h : snErr l = 0
    · exact h
    · unfold fiErr at h1; rw [if_neg h] at h1; exact absurd h1 h
  have hh : hitN l x = true := by
    unfold fiErr at h1
    rw [if_pos hz] at h1
    by_cases h : hitN l x = true
    · exact h
    · rw [if_neg h] at h1; cases h1
  obtain ⟨s, hs, -⟩ := hit_at hh
  have hPl : posN l x < l.length := (List.getElem?_eq_some_iff.1 hs).1
  have h20 := (snErr_zero.1 hz).1
  have hp : fiPos l x = posN l x := by unfold fiPos; rw [if_pos h1]
  have cK := fun u (hu : Calm w u) => cloneN_any A c l u (by omega) (hL.calm hu)
  rw [if_pos h1]
  have hdel := cvs_delN l (posN l x) hPl
  have hdl := delL_len' (l := l) (i := posN l x) hPl
  simp only [h1, hp] at cF ⊢
  generalize posN l x = P at *
  have HD := Lib.hid (And.intro hdel hdl)
  have HP := Lib.hid (And.intro hPl h20)
  have y1 : IntKind.i64.wrap ((P : Int) + 1) = (P : Int) + 1 := IntWalk.i64_in _ (by omega)
  clear h1 hz hh hs hp hdel hdl hL
  go_enter Try.func7, Try.ntmps7
  go_wp2_with (first
    | (go_at_call 27; (with_reducible refine (cF _ hu).mono ?_); rintro e w1 ⟨rfl, hb⟩; replace hu := hu.call hb; clear hb cF)
    | (go_at_call 26; (with_reducible refine (cK _ hu).mono ?_); rintro e w5 ⟨v5, rfl, ho5, hb⟩; have hz5 := Lib.hid hu.size; have HO5 := Lib.hid (OwnG.weaken ho5 hz5.out); obtain ⟨g, cap, rfl⟩ := OwnG.some_ ho5 (by have := HP.out.1; omega); replace hu := hu.call hb; clear ho5 hb cK)
    | (go_at_call 28; (refine (delP_own w.heap.size g P l.length cap (cvs snV l) _ HP.out.1 (by have := HP.out.2; omega) (cvs_one snV_one l) HO5.out).mono ?_); rintro e w6 ⟨v6, rfl, ho6, hg6, -⟩; have HO6 := Lib.hid ho6; have hu6 : Calm w w6 := Below.grown hu hg6 hu.size (fun k hk => (OwnG.lt HO5.out k hk).1); clear ho6 hg6))
  go_ret2
  refine ⟨_, rfl, ?_, hu6⟩
  have h9 := HO6.out
  unfold OwnSn OwnG
  rw [HD.out.2, ← HD.out.1]
  exact h9
theorem posN_spec {l : List Sn} (hS : NS l) (x : ByteArray) : (∀ i (h : i < l.length), i < posN l x → nLt l[i].nm x) ∧ (∀ i (h : i < l.length), posN l x ≤ i → ¬ nLt l[i].nm x) := by
 have hP := List.pairwise_iff_getElem.1 hS
 obtain ⟨c, hc, h1, h2⟩ : ∃ c, c ≤ l.length ∧ (∀ i (h : i < l.length), i < c → nLt l[i].nm x) ∧ (∀ i (h : i < l.length), c ≤ i → ¬ nLt l[i].nm x) := by
  refine ⟨l.findIdx fun s => !decide (nLt s.nm x), List.findIdx_le_length, fun i h hi => ?_, fun i h hi hn => ?_⟩
  ·have := List.not_of_lt_findIdx hi
   simpa using this
  ·have hlt : (l.findIdx fun s => !decide (nLt s.nm x)) < l.length := by omega
   have hat := List.findIdx_getElem (w := hlt)
   simp only [Bool.not_eq_true', decide_eq_false_iff_not] at hat
   rcases Nat.lt_or_eq_of_le hi with h3 | h3
   ·exact hat (nLt_trans (hP _ _ hlt h h3) hn)
   ·exact hat (by simpa only [h3] using hn)
 rw [posN_part hc h1 h2]
 exact ⟨h1, h2⟩
theorem hit_iff {l : List Sn} (hS : NS l) (x : ByteArray) : hitN l x = true ↔ ∃ s ∈ l, s.nm = x := by
 constructor
 ·intro h
  obtain ⟨s, hs, hx⟩ := hit_at h
  exact ⟨s, List.mem_of_getElem? hs, hx⟩
 ·rintro ⟨s, hs, rfl⟩
  obtain ⟨i, hi, rfl⟩ := List.getElem_of_mem hs
  obtain ⟨p1, p2⟩ := posN_spec hS l[i].nm
  have hle : posN l l[i].nm ≤ i := by
   rcases Nat.lt_or_ge i (posN l l[i].nm) with h | h
   ·exact absurd (p1 i hi h) (nLt_irrefl _)
   ·exact h
  have heq : posN l l[i].nm = i := by
   rcases Nat.lt_or_eq_of_le hle with h | h
   ·exact absurd (List.pairwise_iff_getElem.1 hS _ _ (by omega) hi h) (p2 _ (by omega) (Nat.le_refl _))
   ·exact h
  unfold hitN
  rw [heq, List.getElem?_eq_getElem hi]
  show (bc l[i].nm l[i].nm == 0) = true
  rw [bc_eq.2 rfl]; rfl
theorem ad_zero {l : List Sn} {x : ByteArray} {t : Int} (h : adErr l x t = 0) : GoodS l ∧ nameOk x = true ∧ tidOk t ∧ hitN l x = false ∧ l.length < 20 ∧ adL l x t = insL l (posN l x) ⟨x, t⟩ := by
 have h0 : adL l x t = insL l (posN l x) ⟨x, t⟩ := by unfold adL; rw [if_pos h]
 unfold adErr at h
 by_cases h1 : snErr l = 0
 ·rw [if_pos h1] at h
  by_cases h2 : nameOk x = true
  ·rw [if_pos h2] at h
   by_cases h3 : tidOk t
   ·rw [if_pos h3] at h
    by_cases h4 : hitN l x = true
    ·rw [if_pos h4] at h; cases h
    ·rw [if_neg h4] at h
     by_cases h5 : l.length = 20
     ·rw [if_pos h5] at h; cases h
     ·have hG := snErr_zero.1 h1
      exact ⟨hG, h2, h3, by simpa using h4, by have := hG.1; omega, h0⟩
   ·rw [if_neg h3] at h; cases h
  ·rw [if_neg h2] at h; cases h
 ·rw [if_neg h1] at h; exact absurd h h1
open Go.RowKit
def nmP (x : ByteArray) : Sn → Bool := fun s => decide (s.nm = x)
def tdP (v : Int) : Sn → Bool := fun s => decide (s.td = v)
def SFI (l : List Sn) (q : Sn → Bool) (r : Int) : Prop := (r = -1 ∧ ∀ e ∈ l, q e = false) ∨ (∃ (i : Nat) (h : i < l.length), r = i ∧ q l[i] = true ∧ ∀ j (hj : j < l.length), j < i → q l[j] = false)
theorem SFI_ex (l : List Sn) (q : Sn → Bool) : ∃ r, SFI l q r := by
 have E : ∀ n, n ≤ l.length → (∃ (i : Nat) (h : i < l.length), q l[i] = true ∧ ∀ j (hj : j < l.length), j < i → q l[j] = false) ∨ ∀ j (hj : j < l.length), j < n → q l[j] = false := fun n => by
  induction n with
  |zero => intro _; right; intro j hj h0; omega
  |succ n ih =>
   intro hn
   rcases ih (by omega) with h | h
   ·exact .inl h
   ·cases hp : q l[n]
    ·right; intro j hj h1
     rcases Nat.lt_or_ge j n with h2 | h2
     ·exact h j hj h2
     ·rw [show l[j] = l[n] from by congr 1; omega]; exact hp
    ·exact .inl ⟨n, by omega, hp, h⟩
 rcases E l.length (Nat.le_refl _) with ⟨i, h, h1, h2⟩ | h
 ·exact ⟨i, .inr ⟨i, h, rfl, h1, h2⟩⟩
 ·exact ⟨-1, .inl ⟨rfl, fun e he => by obtain ⟨j, hj, rfl⟩ := List.getElem_of_mem he; exact h j hj hj⟩⟩
set_option maxHeartbeats 4000000 in
theorem snapC_any (B1 : Nat) (nm : ByteArray) (td : Int) (x : ByteArray) (w : World) (hB : w.heap[B1]? = some (.cells #[.string x] 9 (0, 0))) :
    Calls Try.prog 36 #[.agg #[.string nm, .int .i64 td], .pointer (some ⟨B1, 0, none⟩)] w fun e w' => e = .returned (.bool (nmP x ⟨nm, td⟩)) ∧ Calm w w' := by
  have y0 := cell_of_row _ _ 0 _ _ _ hB
  simp only [List.getElem?_toArray, List.getElem?_cons_zero] at y0
  have hys := (Array.getElem?_eq_some_iff.1 hB).1
  clear hB
  by_cases h : nm = x
  · have K : Hid (nmP x ⟨nm, td⟩ = true) := show _ = _ from decide_eq_true h
    subst h
    go_enter Try.func36, Try.ntmps36
    go_wp2_with fail
    go_ret
    exact ⟨ret_bool (by rw [K.out]), by repeat (first | (with_reducible exact Calm.refl _) | (with_reducible refine Calm.alloc ?_ _) | (with_reducible refine Calm.drew ?_) | (with_reducible refine Calm.drewN ?_ _) | (refine Calm.call ?_ (by with_reducible assumption)))⟩
  · have K : Hid (nmP x ⟨nm, td⟩ = false) := show _ = _ from decide_eq_false h
    have e1 := str_ne h
    go_enter Try.func36, Try.ntmps36
    go_wp2_with fail
    go_ret
    exact ⟨ret_bool (by rw [K.out]), by repeat (first | (with_reducible exact Calm.refl _) | (with_reducible refine Calm.alloc ?_ _) | (with_reducible refine Calm.drew ?_) | (with_reducible refine Calm.drewN ?_ _) | (refine Calm.call ?_ (by with_reducible assumption)))⟩
set_option maxHeartbeats 4000000 in
theorem sayC_any (B1 : Nat) (nm : ByteArray) (td : Int) (v : Int) (w : World) (hB : w.heap[B1]? = some (.cells #[.int .i64 v] 3 (0, 0))) :
    Calls Try.prog 13 #[.agg #[.string nm, .int .i64 td], .pointer (some ⟨B1, 0, none⟩)] w fun e w' => e = .returned (.bool (tdP v ⟨nm, td⟩)) ∧ Calm w w' := by
  have y0 := cell_of_row _ _ 0 _ _ _ hB
  simp only [List.getElem?_toArray, List.getElem?_cons_zero] at y0
  have hys := (Array.getElem?_eq_some_iff.1 hB).1
  clear hB
  have K : Hid ((td == v) = tdP v ⟨nm, td⟩) := show _ = _ from by unfold tdP; rw [Bool.eq_iff_iff]; simp
  go_enter Try.func13, Try.ntmps13
  go_wp2_with fail
  go_ret
  exact ⟨ret_bool K.out, by repeat (first | (with_reducible exact Calm.refl _) | (with_reducible refine Calm.alloc ?_ _) | (with_reducible refine Calm.drew ?_) | (with_reducible refine Calm.drewN ?_ _) | (refine Calm.call ?_ (by with_reducible assumption)))⟩
set_option maxHeartbeats 4000000 in
theorem snapIx_any (B1 : Nat) (A : Option Addr) (c : Nat) (l : List Sn) (x : ByteArray) (r : Int) (w : World) (hn : l.length ≤ 9223372036854775807) (hL : LiesN w A l) (hB : w.heap[B1]? = some (.cells #[.string x] 9 (0, 0))) (hF : SFI l (nmP x) r) :
    Calls Try.prog 34 #[.slice A l.length c, .func (.func 36) #[] #[.pointer (some ⟨B1, 0, none⟩)]] w fun e w' => e = .returned (.int .i64 r) ∧ Calm w w' := by
  have HF := Lib.hid hF
  have C : ∀ (u : World) (nm : ByteArray) (td : Int), Calm w u → Calls Try.prog 36 (#[.agg #[.string nm, .int .i64 td]] ++ #[.pointer (some ⟨B1, 0, none⟩)]) u fun e w' => e = .returned (.bool ((nmP x) ⟨nm, td⟩)) ∧ Calm u w' := fun u nm td hu => snapC_any B1 nm td _ u ((hu.block (Array.getElem?_eq_some_iff.1 hB).1).trans hB)
  clear hF hB
  generalize hQ : (nmP x) = Q at HF C
  clear hQ
  go_enter Try.func34, Try.ntmps34
  go_wp2_with fail
  go_loopw [8] (fun i wr => ∃ k : Nat, k ≤ l.length ∧ i = .int .i64 k ∧ Calm w wr ∧ Hid (∀ j (hj : j < l.length), j < k → Q l[j] = false)) (fun i _ => l.length - (intOf i).toNat)
  case atStart => exact ⟨0, Nat.zero_le _, rfl, Calm.refl _, show ∀ _, _ from fun j hj h => absurd h (Nat.not_lt_zero _)⟩
  case round =>
    obtain ⟨k, hk, rfl, hu, hN⟩ := hrel
    by_cases hlt : k < l.length
    rotate_left
    · have K : Hid (r = -1) := by
        rcases HF.out with h | ⟨i, hi, _, h2, _⟩
        · exact h.1
        · rw [hN.out i hi (by omega)] at h2; cases h2
      clear C
      go_wp2_with fail
      go_ret
      exact ⟨by rw [K.out]; rfl, hu⟩
    obtain ⟨b, q, nm, td, rfl, hb, HE, c0, c1⟩ := sn_get (hL.calm hu) hlt
    have HE2 := (List.getElem?_eq_some_iff.1 HE.out).2
    have hc := C wr nm td hu
    cases hp : Q ⟨nm, td⟩
    · rw [hp] at hc
      have hN2 : Hid (∀ j (hj : j < l.length), j < k + 1 → Q l[j] = false) := show ∀ _, _ from fun j hj h => by
        rcases Nat.lt_or_ge j k with h2 | h2
        · exact hN.out j hj h2
        · rw [show l[j] = l[k] from by congr 1; omega, HE2]; exact hp
      clear hp C HE2
      go_wp2_with (go_at_call 36; refine hc.mono ?_; rintro e w1 ⟨rfl, hb1⟩)
      go_roundw
      case rel => exact ⟨k + 1, by omega, by go_num, hu.call hb1, hN2⟩
      case measure => simp [intOf]; omega
    · rw [hp] at hc
      have K : Hid (r = k) := by
        rcases HF.out with h | ⟨i, hi, hr, h2, h3⟩
        · have := h.2 _ (List.getElem_mem hlt); rw [HE2, hp] at this; cases this
        · rw [hr]
          rcases Nat.lt_trichotomy i k with h4 | h4 | h4
          · rw [hN.out i hi h4] at h2; cases h2
          · show _ = _; rw [h4]
          · have := h3 k hlt h4; rw [HE2, hp] at this; cases this
      clear hp C HE2
      go_wp2_with (go_at_call 36; refine hc.mono ?_; rintro e w1 ⟨rfl, hb1⟩)
      go_ret
      exact ⟨by rw [K.out]; rfl, hu.call hb1⟩
set_option maxHeartbeats 4000000 in
theorem sayIx_any (B1 : Nat) (A : Option Addr) (c : Nat) (l : List Sn) (v : Int) (r : Int) (w : World) (hn : l.length ≤ 9223372036854775807) (hL : LiesN w A l) (hB : w.heap[B1]? = some (.cells #[.int .i64 v] 3 (0, 0))) (hF : SFI l (tdP v) r) :
    Calls Try.prog 34 #[.slice A l.length c, .func (.func 13) #[] #[.pointer (some ⟨B1, 0, none⟩)]] w fun e w' => e = .returned (.int .i64 r) ∧ Calm w w' := by
  have HF := Lib.hid hF
  have C : ∀ (u : World) (nm : ByteArray) (td : Int), Calm w u → Calls Try.prog 13 (#[.agg #[.string nm, .int .i64 td]] ++ #[.pointer (some ⟨B1, 0, none⟩)]) u fun e w' => e = .returned (.bool ((tdP v) ⟨nm, td⟩)) ∧ Calm u w' := fun u nm td hu => sayC_any B1 nm td _ u ((hu.block (Array.getElem?_eq_some_iff.1 hB).1).trans hB)
  clear hF hB
  generalize hQ : (tdP v) = Q at HF C
  clear hQ
  go_enter Try.func34, Try.ntmps34
  go_wp2_with fail
  go_loopw [8] (fun i wr => ∃ k : Nat, k ≤ l.length ∧ i = .int .i64 k ∧ Calm w wr ∧ Hid (∀ j (hj : j < l.length), j < k → Q l[j] = false)) (fun i _ => l.length - (intOf i).toNat)
  case atStart => exact ⟨0, Nat.zero_le _, rfl, Calm.refl _, show ∀ _, _ from fun j hj h => absurd h (Nat.not_lt_zero _)⟩
  case round =>
    obtain ⟨k, hk, rfl, hu, hN⟩ := hrel
    by_cases hlt : k < l.length
    rotate_left
    · have K : Hid (r = -1) := by
        rcases HF.out with h | ⟨i, hi, _, h2, _⟩
        · exact h.1
        · rw [hN.out i hi (by omega)] at h2; cases h2
      clear C
      go_wp2_with fail
      go_ret
      exact ⟨by rw [K.out]; rfl, hu⟩
    obtain ⟨b, q, nm, td, rfl, hb, HE, c0, c1⟩ := sn_get (hL.calm hu) hlt
    have HE2 := (List.getElem?_eq_some_iff.1 HE.out).2
    have hc := C wr nm td hu
    cases hp : Q ⟨nm, td⟩
    · rw [hp] at hc
      have hN2 : Hid (∀ j (hj : j < l.length), j < k + 1 → Q l[j] = false) := show ∀ _, _ from fun j hj h => by
        rcases Nat.lt_or_ge j k with h2 | h2
        · exact hN.out j hj h2
        · rw [show l[j] = l[k] from by congr 1; omega, HE2]; exact hp
      clear hp C HE2
      go_wp2_with (go_at_call 13; refine hc.mono ?_; rintro e w1 ⟨rfl, hb1⟩)
      go_roundw
      case rel => exact ⟨k + 1, by omega, by go_num, hu.call hb1, hN2⟩
      case measure => simp [intOf]; omega
    · rw [hp] at hc
      have K : Hid (r = k) := by
        rcases HF.out with h | ⟨i, hi, hr, h2, h3⟩
        · have := h.2 _ (List.getElem_mem hlt); rw [HE2, hp] at this; cases this
        · rw [hr]
          rcases Nat.lt_trichotomy i k with h4 | h4 | h4
          · rw [hN.out i hi h4] at h2; cases h2
          · show _ = _; rw [h4]
          · have := h3 k hlt h4; rw [HE2, hp] at this; cases this
      clear hp C HE2
      go_wp2_with (go_at_call 13; refine hc.mono ?_; rintro e w1 ⟨rfl, hb1⟩)
      go_ret
      exact ⟨by rw [K.out]; rfl, hu.call hb1⟩
def ixN (l : List Sn) (x : ByteArray) : Int := if hitN l x = true then (posN l x : Nat) else -1
theorem ixN_is {l : List Sn} (hS : NS l) (x : ByteArray) : SFI l (nmP x) (ixN l x) := by
 unfold ixN
 by_cases h : hitN l x = true
 ·rw [if_pos h]
  obtain ⟨s, hs, hx⟩ := hit_at h
  obtain ⟨hi, rfl⟩ := List.getElem?_eq_some_iff.1 hs
  refine .inr ⟨posN l x, hi, rfl, decide_eq_true hx, fun j hj hlt => decide_eq_false fun e => ?_⟩
  have := (posN_spec hS x).1 j hj hlt
  rw [e] at this
  exact nLt_irrefl _ this
 ·rw [if_neg h]
  exact .inl ⟨rfl, fun e he => decide_eq_false fun hx => h ((hit_iff hS x).2 ⟨e, he, hx⟩)⟩
set_option maxHeartbeats 4000000 in
theorem refSnap_any (A : Option Addr) (c : Nat) (l : List Sn) (x : ByteArray) (w : World) (hn : l.length ≤ 9223372036854775807) (hS : NS l) (hL : LiesN w A l) :
    Calls Try.prog 15 #[.slice A l.length c, .string x] w fun e w' => e = .returned (.int .i64 (ixN l x)) ∧ Calm w w' := by
  have hu := (Calm.refl w).alloc (.cells #[.string x] 9 (0, 0))
  have cI := snapIx_any w.heap.size A c l x (ixN l x) (w.alloc (.cells #[.string x] 9 (0, 0))) hn (hL.calm hu) (heap_new _ _) (ixN_is hS x)
  generalize ixN l x = r at cI ⊢
  clear hS hL
  go_enter Try.func15, Try.ntmps15
  go_wp2_with (go_at_call 34; (with_reducible refine cI.mono ?_); rintro e w1 ⟨rfl, hb⟩; replace hu := hu.call hb)
  go_ret
  exact ⟨rfl, hu⟩
set_option maxHeartbeats 4000000 in
/-- Has some snapshot this time? -/
theorem sayHas_any (B1 : Nat) (A : Option Addr) (c : Nat) (l : List Sn) (v : Int) (w : World) (hn : l.length ≤ 9223372036854775807) (hL : LiesN w A l) (hB : w.heap[B1]? = some (.cells #[.int .i64 v] 3 (0, 0))) (hv : ∃ s ∈ l, s.td = v) :
    Calls Try.prog 12 #[.slice A l.length c, .func (.func 13) #[] #[.pointer (some ⟨B1, 0, none⟩)]] w fun e w' => e = .returned (.bool true) ∧ Calm w w' := by
  obtain ⟨r, hr⟩ := SFI_ex l (tdP v)
  have cI := sayIx_any B1 A c l v r w hn hL hB hr
  have h0 : 0 ≤ r := by
    rcases hr with ⟨_, h⟩ | ⟨i, _, rfl, _⟩
    · obtain ⟨s, hs, he⟩ := hv
      have := h s hs
      unfold tdP at this
      rw [decide_eq_false_iff_not] at this
      exact absurd he this
    · omega
  clear hr hv hL hB
  go_enter Try.func12, Try.ntmps12
  go_wp2_with (go_at_call 34; (with_reducible refine cI.mono ?_); rintro e w1 ⟨rfl, hb⟩)
  go_ret
  exact ⟨rfl, hb⟩
open Go.RowKit
theorem ownN_row {base g cap : Nat} {w : World} {l : List Sn} {cur : List Value} (hb : base ≤ g) (hg : w.heap[g]? = some (.cells cur.toArray 35 (0, 0))) (hn : l.length ≤ cap) (hc : cap ≤ maxLen) (hs : cur.length = cap * 2) (ht : cur.take (l.length * 2) = cvs snV l) :
    OwnSn base w (.slice (some ⟨g, 0, none⟩) l.length cap) l :=
  ⟨cvs_len snV_len l, .inr ⟨g, cap, cur.toArray, rfl, hb, hg, hn, hc, by simpa using hs, by simpa using ht⟩⟩
/-- append(out, s...), s any slice that reads as records. -/
theorem wpList_append_liesN {ops : Array Oper} {rest : List Oper} {o : Oper} {a : Act} {w : World} {Q : Exit → Act → World → Prop} (hgd : o.guard = none) (s x : Operand)
    (ho : o.op = .call { callee := .builtin .append, args := #[s, x], argTypes := #[22, 22] })
    (base : Nat) (v : Value) (l : List Sn) (hs : a.eval s = v) (hown : OwnSn base w v l) (A : Option Addr) (c : Nat) (l2 : List Sn) (hx : a.eval x = .slice A l2.length c) (hsrc : LiesN w A l2)
    (hl : (l.length + l2.length) * 24 ≤ 140737488355328) (hbase : base ≤ w.heap.size)
    (h : ∀ v' w', OwnSn base w' v' (l ++ l2) → (∀ w0 : World, w0.heap.size ≤ base → Calm w0 w → Calm w0 w') → wpList Try.prog ops Q rest (a.put o.dst v') w') : wpList Try.prog ops Q (o :: rest) a w := by
  obtain ⟨i0, hi, hz0, hz1, hz2⟩ := info_parts infoSnP
  have fin : ∀ v' w', w'.ownsRow base 35 2 v' (l.length + l2.length) (cvs snV l ++ cvs snV l2) → w.grownBy w' v.ownBlock → wpList Try.prog ops Q rest (a.put o.dst v') w' := fun v' w' h1 h2 => by
    refine h v' w' ?_ fun w0 h0 hc => hc.grownG h0 hown h2
    unfold OwnSn OwnG
    rw [List.length_append, cvs_app]
    exact h1
  rcases A with _ | ad
  · have h0 : l2 = [] := by
      rcases Nat.eq_zero_or_pos l2.length with h | h
      · exact List.eq_nil_of_length_eq_zero h
      · obtain ⟨_, _, h1, _⟩ := hsrc h; cases h1
    subst h0
    refine wpList_plain hgd fun K hK => ?_
    have hrun : (Builtin.append_ #[22, 22] o.type #[v, .slice none 0 c]).run Try.prog w = .ok v w := by
      rcases hown.2 with ⟨rfl, hn⟩ | ⟨g, cap, cur, rfl, _, _, hnc, _⟩
      · simp [Builtin.append_, run_underlying Try.underlying22, sizeOf, typeInfo, hi, Builtin.lenOf, Builtin.firstCells]
      · simp [Builtin.append_, run_underlying Try.underlying22, sizeOf, typeInfo, hi, Builtin.lenOf, Builtin.firstCells, hnc, storeCells]
    have hx' : a.eval x = .slice none 0 c := hx
    unfold Oper.wp execOp
    simp only [ho, resolve, invoke, builtin, Sem.run_bind, Sem.run_pure, Result.andThen_ok, List.map_toArray, List.map_cons, List.map_nil, hs, hx', hrun]
    exact hK _ _ (h v w (by simpa using hown) fun _ _ h => h)
  · refine wpList_append_own w hgd s x _ ho base 35 i0 _ 2 24 Try.underlying22 hi hz0 hz1 hz2 rfl (by decide) v _ _ hs hown ad l2.length c (cvs snV l2) hx (cvs_len snV_len l2) (fun j u hj => ?_) (cvs_one snV_one l2) (by unfold maxLen; omega) (by omega) hbase fun v' w' h1 h2 _ => fin v' w' h1 h2
    have hj2 : j < l2.length * 2 := by rw [← cvs_len snV_len]; exact (List.getElem?_eq_some_iff.1 hj).1
    obtain ⟨b, q, hA, _, _⟩ := hsrc (by omega)
    injection hA with hA
    subst hA
    have e : (⟨b, q, none⟩ : Addr).add j = ⟨b, q + j, none⟩ := by unfold Addr.add; split <;> simp_all
    rw [e]
    exact (LiesG.cells snV_len (by decide) hsrc j u hj).2
set_option maxHeartbeats 4000000 in
theorem growN_any (n : Nat) (w : World) (hn : n ≤ 1000) : Calls Try.prog 37 #[.slice none 0 0, .int .i64 (n : Int)] w fun e w' => ∃ v, e = .returned v ∧ OwnSn w.heap.size w' v [] ∧ Calm w w' := by
 by_cases h0 : n = 0
 ·subst h0
  go_enter Try.func37, Try.ntmps37
  go_wp2_with fail
  go_ret
  exact ⟨_, rfl, OwnG.nil _ _ _ _ _, Calm.refl _⟩
 obtain ⟨i0, hi0, hz0, hzs, hzb⟩ := info_parts infoSnP
 obtain ⟨G, hG⟩ : ∃ G, G = grownCap w n 0 35 := ⟨_, rfl⟩
 have hGn : n ≤ G := by rw [hG]; exact grownCap_ge w _ _ _
 have hGm : G ≤ maxLen := by rw [hG]; exact grownCap_le_maxLen w n 0 _ (by unfold maxLen; omega)
 obtain ⟨C, hC⟩ : ∃ C : List Value, C = (Builtin.zeroCells (Value.agg #[.string ByteArray.empty, .int .i64 0]).cells n).toList ++ (Builtin.zeroCells (Value.agg #[.string ByteArray.empty, .int .i64 0]).cells (G - n)).toList := ⟨_, rfl⟩
 have hCl : C.length = G * 2 := by
  rw [hC, List.length_append, Array.length_toList, Array.length_toList, size_zeroCells, size_zeroCells]
  show n * 2 + (G - n) * 2 = G * 2
  omega
 have hrz : ∀ ty, (Builtin.append_ #[22, 3] ty #[.slice none 0 0, .int .i64 (n : Int)]).run Try.prog w = .ok (.slice (some ⟨w.heap.size, 0, none⟩) n G) (w.drew.alloc (.cells C.toArray 35)) := fun ty => by
  have h := Lib.run_append_grow_zeros w 22 3 ty 35 i0 _ .i64 .i64 Try.underlying22 Try.underlying3 hi0 hz0 none 0 0 [] (run_firstCells_none w.drew _ 0 0 0) n (by omega) (by omega) (by omega) (by omega) (by rw [hzb]; omega) (by rw [hzb]; exact growslice_fits (by omega) (by omega))
  rw [Nat.zero_add, ← hG] at h
  rw [h, hC]
  exact congrArg (fun x => Result.ok _ (w.drew.alloc (.cells x 35))) (Array.toList_inj.1 (by simp))
 have hO : OwnSn w.heap.size (w.drew.alloc (.cells C.toArray 35)) (.slice (some ⟨w.heap.size, 0, none⟩) 0 G) [] :=
  ownN_row (l := []) (Nat.le_refl _) (heap_alloc_new w.drew _) (Nat.zero_le _) hGm hCl rfl
 have HO := Lib.hid hO
 have hni : (0 : Int) < (n : Int) := by omega
 have hG0 : ¬ G = 0 := by omega
 clear hG hGn hGm hC hCl hi0 hz0 hzs hzb h0 hO
 go_enter Try.func37, Try.ntmps37
 go_wp2_with (at_builtin; refine Lib.wpList_append_run _ rfl _ _ _ _ rfl _ _ rfl rfl _ _ (hrz _) ?_)
 go_ret
 exact ⟨_, rfl, HO.out, ((Calm.refl w).drew).alloc _⟩
set_option maxHeartbeats 8000000 in
theorem concat2N_any (H : Nat) (A1 A2 : Option Addr) (c1 c2 : Nat) (l1 l2 : List Sn) (w : World) (h : l1.length + l2.length ≤ 1000) (hL1 : LiesN w A1 l1) (hL2 : LiesN w A2 l2) (t : Nat)
    (hx : w.heap[H]? = some (.cells #[.slice A1 l1.length c1, .slice A2 l2.length c2] t (0, 0))) :
    Calls Try.prog 17 #[.slice (some ⟨H, 0, none⟩) 2 2] w fun e w' => ∃ v, e = .returned v ∧ OwnSn w.heap.size w' v (l1 ++ l2) ∧ Calm w w' := by
  have x0 := cell_of_row _ _ 0 _ _ _ hx
  have x1 := cell_of_row _ _ 1 _ _ _ hx
  have hxs := (Array.getElem?_eq_some_iff.1 hx).1
  have HX0 := Lib.hid hx
  simp only [List.getElem?_toArray, List.getElem?_cons_zero, List.getElem?_cons_succ] at x0 x1
  have cG := fun u => growN_any (l1.length + l2.length) u (by omega)
  rw [show ((l1.length + l2.length : Nat) : Int) = (l1.length : Int) + (l2.length : Int) from by omega] at cG
  have n1 : (l1.length : Int) ≤ 1000 := by omega
  have n2 : (l2.length : Int) ≤ 1000 := by omega
  have hb : (([] ++ l1).length + l2.length) * 24 ≤ 140737488355328 := by simp only [List.nil_append]; omega
  have hb0 : (([] : List Sn).length + l1.length) * 24 ≤ 140737488355328 := by simp only [List.length_nil]; omega
  clear h
  go_enter Try.func17, Try.ntmps17
  go_wp2_with fail
  refine wp_loop_rounds 3 ?_
  rw [rounds_succ]
  go_wp2_with fail
  rw [rounds_succ]
  go_wp2_with fail
  rw [rounds_succ]
  go_wp2_with (go_at_call 37; refine (cG _).mono ?_; rintro e w1 ⟨v, rfl, hov, hb1⟩; have hu := (Calm.refl w).call hb1; have HO := Lib.hid hov; replace hx := (hb1.block hxs).trans hx; clear hov hb1)
  have x0 := cell_of_row _ _ 0 _ _ _ hx
  have x1 := cell_of_row _ _ 1 _ _ _ hx
  simp only [List.getElem?_toArray, List.getElem?_cons_zero, List.getElem?_cons_succ] at x0 x1
  have HL1 := Lib.hid (hL1.calm hu)
  clear hL1
  have HL2 := Lib.hid hL2
  clear hL2
  refine wp_loop_rounds 3 ?_
  rw [rounds_succ]
  go_wp2_with (at_builtin; go_must (refine wpList_append_liesN rfl _ _ rfl w.heap.size _ [] rfl HO.out _ _ l1 rfl HL1.out hb0 hu.size ?_); intro v2 w2 ho2 hc2; have hu2 := hc2 _ (Nat.le_refl _) hu; have HO2 := Lib.hid ho2; clear ho2 hc2; have y1 := cell_of_row _ _ 1 _ _ _ ((hu2.block hxs).trans HX0.out); simp only [List.getElem?_toArray, List.getElem?_cons_zero, List.getElem?_cons_succ] at y1)
  rw [rounds_succ]
  go_wp2_with (at_builtin; go_must (refine wpList_append_liesN rfl _ _ rfl w.heap.size _ _ rfl HO2.out _ _ l2 rfl (HL2.out.calm hu2) hb hu2.size ?_); intro v3 w3 ho3 hc3; have hu3 := hc3 _ (Nat.le_refl _) hu2; have HO3 := Lib.hid ho3; clear ho3 hc3)
  rw [rounds_succ]
  go_wp2_with fail
  go_ret
  exact ⟨_, rfl, HO3.out, hu3⟩
set_option maxHeartbeats 8000000 in
theorem concat3N_any (H : Nat) (A1 A2 A3 : Option Addr) (c1 c2 c3 : Nat) (l1 l2 l3 : List Sn) (w : World) (h : l1.length + l2.length + l3.length ≤ 1000) (hL1 : LiesN w A1 l1) (hL2 : LiesN w A2 l2) (hL3 : LiesN w A3 l3) (t : Nat)
    (hx : w.heap[H]? = some (.cells #[.slice A1 l1.length c1, .slice A2 l2.length c2, .slice A3 l3.length c3] t (0, 0))) :
    Calls Try.prog 17 #[.slice (some ⟨H, 0, none⟩) 3 3] w fun e w' => ∃ v, e = .returned v ∧ OwnSn w.heap.size w' v (l1 ++ l2 ++ l3) ∧ Calm w w' := by
  have x0 := cell_of_row _ _ 0 _ _ _ hx
  have x1 := cell_of_row _ _ 1 _ _ _ hx
  have x2 := cell_of_row _ _ 2 _ _ _ hx
  have hxs := (Array.getElem?_eq_some_iff.1 hx).1
  have HX0 := Lib.hid hx
  simp only [List.getElem?_toArray, List.getElem?_cons_zero, List.getElem?_cons_succ] at x0 x1 x2
  have cG := fun u => growN_any (l1.length + l2.length + l3.length) u (by omega)
  rw [show ((l1.length + l2.length + l3.length : Nat) : Int) = (l1.length : Int) + (l2.length : Int) + (l3.length : Int) from by omega] at cG
  have n1 : (l1.length : Int) ≤ 1000 := by omega
  have n2 : (l2.length : Int) ≤ 1000 := by omega
  have n3 : (l3.length : Int) ≤ 1000 := by omega
  have hc : (([] ++ l1 ++ l2).length + l3.length) * 24 ≤ 140737488355328 := by simp only [List.nil_append, List.length_append]; omega
  have hb : (([] ++ l1).length + l2.length) * 24 ≤ 140737488355328 := by simp only [List.nil_append]; omega
  have hb0 : (([] : List Sn).length + l1.length) * 24 ≤ 140737488355328 := by simp only [List.length_nil]; omega
  clear h
  go_enter Try.func17, Try.ntmps17
  go_wp2_with fail
  refine wp_loop_rounds 4 ?_
  rw [rounds_succ]
  go_wp2_with fail
  rw [rounds_succ]
  go_wp2_with fail
  rw [rounds_succ]
  go_wp2_with fail
  rw [rounds_succ]
  go_wp2_with (go_at_call 37; refine (cG _).mono ?_; rintro e w1 ⟨v, rfl, hov, hb1⟩; have hu := (Calm.refl w).call hb1; have HO := Lib.hid hov; replace hx := (hb1.block hxs).trans hx; clear hov hb1)
  have x0 := cell_of_row _ _ 0 _ _ _ hx
  have x1 := cell_of_row _ _ 1 _ _ _ hx
  simp only [List.getElem?_toArray, List.getElem?_cons_zero, List.getElem?_cons_succ] at x0 x1
  have HL1 := Lib.hid (hL1.calm hu)
  clear hL1
  have HL2 := Lib.hid hL2
  clear hL2
  have HL3 := Lib.hid hL3
  clear hL3
  refine wp_loop_rounds 4 ?_
  rw [rounds_succ]
  go_wp2_with (at_builtin; go_must (refine wpList_append_liesN rfl _ _ rfl w.heap.size _ [] rfl HO.out _ _ l1 rfl HL1.out hb0 hu.size ?_); intro v2 w2 ho2 hc2; have hu2 := hc2 _ (Nat.le_refl _) hu; have HO2 := Lib.hid ho2; clear ho2 hc2; have y1 := cell_of_row _ _ 1 _ _ _ ((hu2.block hxs).trans HX0.out); simp only [List.getElem?_toArray, List.getElem?_cons_zero, List.getElem?_cons_succ] at y1)
  rw [rounds_succ]
  go_wp2_with (at_builtin; go_must (refine wpList_append_liesN rfl _ _ rfl w.heap.size _ _ rfl HO2.out _ _ l2 rfl (HL2.out.calm hu2) hb hu2.size ?_); intro v3 w3 ho3 hc3; have hu3 := hc3 _ (Nat.le_refl _) hu2; have HO3 := Lib.hid ho3; clear ho3 hc3; have y2 := cell_of_row _ _ 2 _ _ _ ((hu3.block hxs).trans HX0.out); simp only [List.getElem?_toArray, List.getElem?_cons_zero, List.getElem?_cons_succ] at y2)
  rw [rounds_succ]
  go_wp2_with (at_builtin; go_must (refine wpList_append_liesN rfl _ _ rfl w.heap.size _ _ rfl HO3.out _ _ l3 rfl (HL3.out.calm hu3) hc hu3.size ?_); intro v4 w4 ho4 hc4; have hu4 := hc4 _ (Nat.le_refl _) hu3; have HO4 := Lib.hid ho4; clear ho4 hc4)
  rw [rounds_succ]
  go_wp2_with fail
  go_ret
  exact ⟨_, rfl, HO4.out, hu4⟩
open Go.ChangeShapes Go.WideShapes Go.ChangeAt Go.RowKit
theorem compact_lt {N : List Int} (h : N.Pairwise (· ≤ ·)) : (Lib.compact N).Pairwise (· < ·) := by
 have hP := List.pairwise_iff_getElem.1 h
 unfold Lib.compact Lib.compactUpTo
 rw [List.pairwise_map]
 have h1 : (List.range N.length).Pairwise (· < ·) := List.pairwise_lt_range
 refine (h1.filter _).imp_of_mem fun {a b} ha hb hab => ?_
 have ha' := List.mem_range.1 (List.mem_filter.1 ha).1
 obtain ⟨hb1, hb2⟩ := List.mem_filter.1 hb
 have hb' := List.mem_range.1 hb1
 unfold Lib.keeps at hb2
 rw [decide_eq_true_eq] at hb2
 rcases hb2 with hb2 | hb2
 ·omega
 rw [getElem!_pos N.toArray b (by simpa using hb'), getElem!_pos N.toArray (b - 1) (by simp; omega)] at hb2
 rw [getElem!_pos N.toArray b (by simpa using hb'), getElem!_pos N.toArray a (by simpa using ha')]
 simp only [List.getElem_toArray] at hb2 ⊢
 have q1 := hP (b - 1) b (by omega) hb' (by omega)
 have q2 : N[a] ≤ N[b - 1] := by
  rcases Nat.lt_or_ge a (b - 1) with h2 | h2
  ·exact hP a (b - 1) ha' (by omega) h2
  ·have : a = b - 1 := by omega
   simp only [this]; omega
 omega
theorem tmL_lt (l : List Sn) : (tmL l).Pairwise (· < ·) := compact_lt (sortI_sorted _)
theorem ss_bad {l : List Sn} (h : snErr l ≠ 0) (x : ByteArray) (t : Int) : adErr l x t = snErr l ∧ adL l x t = [] ∧ fiErr l x = snErr l ∧ fiT l x = 0 ∧ drL l x = [] := by
 have h1 : adErr l x t = snErr l := by unfold adErr; rw [if_neg h]
 have h2 : fiErr l x = snErr l := by unfold fiErr; rw [if_neg h]
 exact ⟨h1, by unfold adL; rw [h1, if_neg h], h2, by unfold fiT; rw [h2, if_neg h], by unfold drL; rw [h2, if_neg h]⟩
theorem ss_none {l : List Sn} (h : snErr l = 0) {x : ByteArray} (hh : ¬ hitN l x = true) : fiErr l x = 4 ∧ fiT l x = 0 ∧ drL l x = [] := by
 have h2 : fiErr l x = 4 := by unfold fiErr; rw [if_pos h, if_neg hh]
 exact ⟨h2, by unfold fiT; rw [h2, if_neg (by decide)], by unfold drL; rw [h2, if_neg (by decide)]⟩
theorem ss_there {l : List Sn} (h : snErr l = 0) {x : ByteArray} (hh : hitN l x = true) : ∃ s, l[posN l x]? = some s ∧ fiErr l x = 0 ∧ fiT l x = s.td ∧ drL l x = l.take (posN l x) ++ l.drop (posN l x + 1) := by
 have h2 : fiErr l x = 0 := by unfold fiErr; rw [if_pos h, if_pos hh]
 obtain ⟨s, hs, _⟩ := hit_at hh
 exact ⟨s, hs, h2, by unfold fiT; rw [if_pos h2, hs], by unfold drL; rw [if_pos h2]; rfl⟩
theorem one_err (x : ByteArray) (t : Int) : snErr [⟨x, t⟩] = if nameOk x = true then (if tidOk t then 0 else 9) else 3 := by
 have h := stepS_first (l := [⟨x, t⟩]) (s := ⟨x, t⟩) rfl
 by_cases h0 : stepS [⟨x, t⟩] 0 = 0
 ·rw [← h, h0]
  exact (snErr_good (by simp) fun j hj => by
   have : j = 0 := by simp at hj; omega
   rw [this]; exact h0).symm
 ·rw [← h]
  exact (snErr_at (l := [⟨x, t⟩]) (k := 0) (by simp) (fun j hj => absurd hj (Nat.not_lt_zero _)) h0 (by simp)).symm
theorem ss_ad {l : List Sn} (h : snErr l = 0) (x : ByteArray) (t : Int) : adErr l x t = if snErr [⟨x, t⟩] = 0 then (if hitN l x = true then 5 else if 20 ≤ l.length then 8 else 0) else snErr [⟨x, t⟩] := by
 have h20 := (snErr_zero.1 h).1
 rw [one_err]
 unfold adErr
 rw [if_pos h]
 by_cases h1 : nameOk x = true
 ·rw [if_pos h1, if_pos h1]
  by_cases h2 : tidOk t
  ·rw [if_pos h2, if_pos h2, if_pos rfl]
   by_cases h3 : hitN l x = true
   ·rw [if_pos h3, if_pos h3]
   ·rw [if_neg h3, if_neg h3]
    by_cases h4 : l.length = 20
    ·rw [if_pos h4, if_pos (by omega)]
    ·rw [if_neg h4, if_neg (by omega)]
  ·rw [if_neg h2, if_neg h2, if_neg (by decide)]
 ·rw [if_neg h1, if_neg h1, if_neg (by decide)]
theorem contI_any (A : Option Addr) (c : Nat) (T : List Int) (x : Int) (w : World) (hn : T.length ≤ 9223372036854775807) (hL : LiesI w A T) (hx : x ∈ T) :
    Calls Try.prog 14 #[.slice A T.length c, .int .i64 x] w fun e w' => e = .returned (.bool true) ∧ Calm w w' := by
  obtain ⟨b, o, rfl, hlt, hc⟩ := hL (List.length_pos_of_mem hx)
  refine (Try.slices_Contains_int b o T.length c T x w (Nat.le_refl _) hn fun j hj => ?_).mono ?_
  · rw [hc j T[j] (List.getElem?_eq_getElem hj)]
    congr 2
    rw [List.getD_eq_getElem?_getD, List.getElem?_eq_getElem hj]; rfl
  · rintro e w' ⟨rfl, rfl⟩
    refine ⟨?_, Calm.refl _⟩
    rw [List.take_length, List.contains_iff_mem.2 hx]
theorem snTail {w : World} {A : Option Addr} {l : List Sn} (h : LiesN w A l) (n : Nat) : LiesN w (Option.map (fun a => a.add (n * 2)) A) (l.drop n) := fun hpos => by
 rw [List.length_drop] at hpos
 obtain ⟨b, q, rfl, hlt, hk⟩ := h (by omega)
 refine ⟨b, q + n * 2, ?_, hlt, fun k e he j hj => ?_⟩
 ·show some ((⟨b, q, none⟩ : Addr).add (n * 2)) = _
  congr 1
  unfold Addr.add
  split <;> simp_all
 ·rw [List.getElem?_drop] at he
  have := hk (n + k) e he j hj
  rwa [show q + n * 2 + k * 2 = q + (n + k) * 2 from by omega]
theorem snHead {w : World} {A : Option Addr} {l : List Sn} (h : LiesN w A l) (n : Nat) : LiesN w A (l.take n) := fun hpos => by
 rw [List.length_take] at hpos
 obtain ⟨b, q, rfl, hlt, hk⟩ := h (by omega)
 refine ⟨b, q, rfl, hlt, fun k e he j hj => hk k e ?_ j hj⟩
 rw [List.getElem?_take] at he
 split at he
 ·exact he
 ·cases he
section
variable {H : Type} {enc : TypeId × Value → H} {w : World} {base : Nat} {spare : Nat → Bool} {held : Bool}
variable {r : Reach} {b0 : Nat} {v : Value} {d : DataW H} {ps : List MemPlace}
theorem open_snapsC (hv : Value.okWide Try.prog w r b0 22 v) (h : DataW.Trod enc Try.prog w base spare held 22 v d ps) :
    ∃ (A : Option Addr) (c : Nat) (l : List Sn), v = .slice A l.length c ∧ l.length ≤ 9223372036854775807 ∧ l.length ≤ c ∧ Szs l ∧ LiesN w A l := by
  obtain ⟨A0, len, cap, rfl⟩ := okWide_slice Try.underlying22 hv
  obtain ⟨fuel, hf⟩ := h
  obtain ⟨A, c, l, e1, le1, c1, wf1, at1, -⟩ := rows_open (α := Sn) snV (fun s => s.nm.size ≤ maxLen) 2 Try.underlying22 cellsSnap (by omega) (fun fuel cs x hx => snap_cells hx) hf
  have e2 : Value.slice A0 len cap = .slice A l.length c := by simpa [Value.cells] using e1
  rw [e2]
  exact ⟨A, c, l, rfl, le1, c1, wf1, at1⟩
end
open Go.ChangeShapes Go.WideShapes Go.ChangeAt Go.RowKit
set_option maxHeartbeats 8000000 in
theorem equalN_self (A A' : Option Addr) (c c' : Nat) (l : List Sn) (w : World) (hn : l.length ≤ 9223372036854775807) (hL : LiesN w A l) (hL' : LiesN w A' l) :
    Calls Try.prog 16 #[.slice A l.length c, .slice A' l.length c'] w fun e w' => e = .returned (.bool true) ∧ Calm w w' := by
  go_enter Try.func16, Try.ntmps16
  go_wp2_with fail
  go_loopw [13] (fun i wr => ∃ k : Nat, k ≤ l.length ∧ i = .int .i64 k ∧ Calm w wr) (fun i _ => l.length - (intOf i).toNat)
  case atStart => exact ⟨0, Nat.zero_le _, rfl, Calm.refl _⟩
  case round =>
    obtain ⟨k, hk, rfl, hu⟩ := hrel
    by_cases hlt : k < l.length
    rotate_left
    · go_wp2_with fail
      go_ret
      exact ⟨rfl, hu⟩
    obtain ⟨b, q, nm, td, rfl, hb, HE, c0, c1⟩ := sn_get (hL.calm hu) hlt
    obtain ⟨b', q', nm', td', rfl, hb', HE', d0, d1⟩ := sn_get (hL'.calm hu) hlt
    have hq : (⟨nm, td⟩ : Sn) = ⟨nm', td'⟩ := by have := HE.out.symm.trans HE'.out; injection this
    injection hq with e0 e1
    subst e0; subst e1
    clear hL hL' HE HE'
    go_wp2_with fail
    refine wp_region_plan [.val (.slice (some ⟨b, q, none⟩) l.length c), .val (.int .i64 ((k : Int))), .val (.pointer (some ⟨b, q + k * 2, none⟩)), .val (.agg #[.string nm, .int .i64 td]), .val (.slice (some ⟨b', q', none⟩) l.length c'), .val (.int .i64 ((k : Int))), .val (.pointer (some ⟨b', q' + k * 2, none⟩)), .val (.agg #[.string nm, .int .i64 td]), .val (.bool false)] (by kernel_rfl) (by kernel_rfl) (by kernel_rfl) ?_
    intro X
    iterate 9
      refine plan_val (by kernel_rfl) (fun u hu => ?_) ?_
      · obtain ⟨hc, hf, hz⟩ := hu.of_drew.facts
        go_simp
      simp only [Act.put, List.setIfInBounds_toArray, List.set_cons_zero, List.set_cons_succ, Nat.reduceAdd]
    refine plan_end ?_
    intro w' hB
    have hk := hB.calm.of_drew
    clear hB
    go_wp2_with fail
    go_roundw
    case rel => exact ⟨k + 1, by omega, by go_num, hu.call hk⟩
    case measure => simp [intOf]; omega
theorem own_at {w : World} {v : Value} {base : Nat} {l : List Sn} {n : Nat} (h : OwnSn base w v l) (hn : l.length = n) : ∃ A c, v = .slice A n c ∧ Hid (LiesN w A l) := by
 obtain ⟨A, c, hv, h1, _, h2⟩ := OwnG.lies snV_len h
 subst hn
 exact ⟨A, c, hv, h2⟩
theorem sns_one {w : World} {g t : Nat} (x : Sn) (h : w.heap[g]? = some (.cells #[.string x.nm, .int .i64 x.td] t (0, 0))) : LiesN w (some ⟨g, 0, none⟩) [x] := fun _ => by
 refine ⟨g, 0, rfl, (Array.getElem?_eq_some_iff.1 h).1, fun k y hy j hj => ?_⟩
 have hk : k = 0 := by have := (List.getElem?_eq_some_iff.1 hy).1; simp at this; exact this
 subst hk
 simp at hy; subst hy
 rw [cell_of_row w g _ _ t _ h]
 simp [snV]
theorem cAdd_is {A : Option Addr} {c : Nat} {l L : List Sn} {x : ByteArray} {t E : Int} {u : World} (hn : l.length ≤ 9223372036854775807) (hS : Szs l) (hx : x.size ≤ maxLen) (h : LiesN u A l) (hE : adErr l x t = E) (hL : adL l x t = L) : Calls Try.prog 6 #[.slice A l.length c, .string x, .int .i64 t] u (SnEnd L E u) := by
 have := snAdd_any A c l x t u hn hS hx h
 rw [hE, hL] at this
 exact this
theorem cFind_is {A : Option Addr} {c : Nat} {l : List Sn} {x : ByteArray} {u : World} {t E : Int} (hn : l.length ≤ 9223372036854775807) (hS : Szs l) (h : LiesN u A l) (hE : fiErr l x = E) (hT : fiT l x = t) : Calls Try.prog 8 #[.slice A l.length c, .string x] u fun e w' => e = .returned (.tuple #[.int .i64 t, .int .i64 E]) ∧ Calm u w' := by
 have := snFind_any A c l x u hn hS h
 rw [hE, hT] at this
 exact this
open Go.RowKit
def FreeS (late : List Nat) (F : Nat → Value → World → Prop) (w1 : World) : Stages := fun bs Y u => Calm w1 u ∧ ∃ L : Nat → Bool, bs = late.map L ∧ ∀ i ∈ late, L i = true → F i (Y i) u
section
variable {late : List Nat} {F : Nat → Value → World → Prop} {w1 u u' : World} {Y : Nat → Value} {L : Nat → Bool}
theorem FreeS.stay (hF : ∀ i y u u', F i y u → Calm u u' → F i y u') : ∀ bs Y u u', FreeS late F w1 bs Y u → Calm u u' → FreeS late F w1 bs Y u' := fun _ _ _ _ ⟨h, L, e, hL⟩ hb => ⟨h.call hb, L, e, fun i hi hl => hF i _ _ _ (hL i hi hl) hb⟩
theorem FreeS.start (h : Calm w1 u) : FreeS late F w1 (late.map fun _ => false) Y u := ⟨h, _, rfl, fun _ _ h => by cases h⟩
theorem FreeS.get (h : FreeS late F w1 (late.map L) Y u) {i : Nat} (hi : i ∈ late) (hl : L i = true) : F i (Y i) u := by
 obtain ⟨-, M, e, hM⟩ := h
 have : L i = M i := List.map_inj_left.1 e i hi
 exact hM i hi (this ▸ hl)
theorem FreeS.do (hF : ∀ i y u u', F i y u → Calm u u' → F i y u') (h : FreeS late F w1 (late.map L) Y u) (hb : Calm u u') {i : Nat} {y : Value} (hn : F i y u') : FreeS late F w1 (late.map (updB L i)) (updV Y i y) u' := by
 refine ⟨h.1.call hb, _, rfl, fun j hj hl => ?_⟩
 by_cases e : j = i
 ·subst e; rw [show updV Y j y j = y by simp [updV]]; exact hn
 ·rw [show updV Y i y j = Y j by simp [updV, e]]; exact hF _ _ _ _ (h.get hj (by simpa [updB, e] using hl)) hb
end
open Go.ChangeShapes Go.WideShapes Go.ChangeAt Go.RowKit
theorem cDrop2 {A : Option Addr} {c : Nat} {l L : List Sn} {x : ByteArray} {E : Int} {u : World} (hn : l.length ≤ 9223372036854775807) (hS : Szs l) (h : LiesN u A l) (hE : fiErr l x = E) (hL : drL l x = L) : Calls Try.prog 7 #[.slice A l.length c, .string x] u (SnEnd L E u) := by
 have := snDrop_any A c l x u hn hS h
 rw [hE, hL] at this
 exact this
set_option maxHeartbeats 16000000 in
theorem snapSays_bad (A : Option Addr) (c : Nat) (l : List Sn) (x : ByteArray) (t : Int) (w : World) (hn : l.length ≤ 9223372036854775807) (hS : Szs l) (hx : x.size ≤ maxLen) (hL : LiesN w A l) (h0 : snErr l ≠ 0) :
    Calls Try.prog 3 #[.slice A l.length c, .string x, .int .i64 t] w fun e w' => e = .returned (.bool true) ∧ Calm w w' := by
  have hu := Calm.refl w
  obtain ⟨e1, e2, e3, e4, e5⟩ := ss_bad h0 x t
  have c1 := fun u (hu : Calm w u) => cAdd_is (c := c) hn hS hx (hL.calm hu) e1 e2
  have c2 := fun u (hu : Calm w u) => cDrop2 (c := c) hn hS (hL.calm hu) e3 e5
  have c3 := fun u (hu : Calm w u) => cFind_is (c := c) hn hS (hL.calm hu) e3 e4
  have c4 := fun u (hu : Calm w u) => snTimes_any A c l u hn hS (hL.calm hu)
  have c5 := fun u (hu : Calm w u) => refSnaps_any A c l u hn hS (hL.calm hu)
  have c6 := fun u (hu : Calm w u) => snCheck_any A c l u hn hS (hL.calm hu)
  simp only [if_neg h0] at c4
  have b1 : (snErr l != 0) = true := by simpa using h0
  clear e1 e2 e3 e4 e5
  generalize snErr l = E at *
  clear h0 hL
  go_enter Try.func3, Try.ntmps3
  go_wp2_with (first
    | (go_at_call 6; (with_reducible refine (c1 _ hu).mono ?_); rintro e w1 ⟨v, rfl, ho, hb⟩; obtain ⟨A1, d1, rfl, H1⟩ := own_at ho (rfl : _ = 0); replace hu := hu.call hb; clear ho hb c1)
    | (go_at_call 7; (with_reducible refine (c2 _ hu).mono ?_); rintro e w2 ⟨v, rfl, ho, hb⟩; obtain ⟨A2, d2, rfl, H2⟩ := own_at ho (rfl : _ = 0); replace hu := hu.call hb; clear ho hb c2)
    | (go_at_call 8; (with_reducible refine (c3 _ hu).mono ?_); rintro e w3 ⟨rfl, hb⟩; replace hu := hu.call hb; clear hb c3)
    | (go_at_call 9; (with_reducible refine (c4 _ hu).mono ?_); rintro e w4 ⟨A4, d4, rfl, h4, hb⟩; replace hu := hu.call hb; clear h4 hb c4)
    | (go_at_call 10; (with_reducible refine (c5 _ hu).mono ?_); rintro e w5 ⟨rfl, hb⟩; replace hu := hu.call hb; clear hb c5)
    | (go_at_call 11; (with_reducible refine (c6 _ hu).mono ?_); rintro e w6 ⟨rfl, hb⟩; replace hu := hu.call hb; clear hb c6))
  go_ret
  exact ⟨rfl, hu⟩
def A26 (A A7 : Option Addr) (c p n : Nat) (R : List Sn) : Nat → Value → World → Prop
 | 24, y, u => ∃ g, y = .slice (some ⟨g, 0, none⟩) 2 2 ∧ u.heap[g]? = some (.cells #[.slice A p c, .slice A7 (n - (p + 1)) (c - (p + 1))] 22 (0, 0))
 | 25, y, u => ∃ A9 c9, y = .slice A9 R.length c9 ∧ LiesN u A9 R
 | 26, y, _ => y = .bool true
 | 27, y, _ => y = .bool false
 | 28, y, _ => y = .bool false
 |_, _, _ => False
theorem a26_stay {A A7 : Option Addr} {c p n : Nat} {R : List Sn} (i : Nat) (y : Value) (u u' : World) (h : A26 A A7 c p n R i y u) (hb : Calm u u') : A26 A A7 c p n R i y u' := by
 unfold A26 at h ⊢
 split at h
 ·obtain ⟨g, e, hg⟩ := h; exact ⟨g, e, (hb.block (Array.getElem?_eq_some_iff.1 hg).1).trans hg⟩
 ·obtain ⟨A9, c9, e, h9⟩ := h; exact ⟨A9, c9, e, LiesG.calm h9 hb⟩
 all_goals exact h
def A39 (A A8 : Option Addr) (c k n : Nat) (x : ByteArray) (t : Int) (X : List Sn) : Nat → Value → World → Prop
 | 14, y, u => ∃ g, y = .slice (some ⟨g, 0, none⟩) 1 1 ∧ u.heap[g]? = some (.cells #[.string x, .int .i64 t] 35 (0, 0))
 | 18, y, u => ∃ g h, y = .slice (some ⟨g, 0, none⟩) 3 3 ∧ u.heap[g]? = some (.cells #[.slice A k c, .slice (some ⟨h, 0, none⟩) 1 1, .slice A8 (n - k) (c - k)] 22 (0, 0)) ∧ u.heap[h]? = some (.cells #[.string x, .int .i64 t] 35 (0, 0))
 | 19, y, u => ∃ A9 c9, y = .slice A9 X.length c9 ∧ LiesN u A9 X
 | 20, y, _ => y = .bool true
 | 21, y, _ => y = .bool true
 | 22, y, _ => y = .bool true
 |_, _, _ => False
theorem a39_stay {A A8 : Option Addr} {c k n : Nat} {x : ByteArray} {t : Int} {X : List Sn} (i : Nat) (y : Value) (u u' : World) (h : A39 A A8 c k n x t X i y u) (hb : Calm u u') : A39 A A8 c k n x t X i y u' := by
 unfold A39 at h ⊢
 split at h
 ·obtain ⟨g, e, hg⟩ := h; exact ⟨g, e, (hb.block (Array.getElem?_eq_some_iff.1 hg).1).trans hg⟩
 ·obtain ⟨g, g', e, hg, hh⟩ := h; exact ⟨g, g', e, (hb.block (Array.getElem?_eq_some_iff.1 hg).1).trans hg, (hb.block (Array.getElem?_eq_some_iff.1 hh).1).trans hh⟩
 ·obtain ⟨A9, c9, e, h9⟩ := h; exact ⟨A9, c9, e, LiesG.calm h9 hb⟩
 all_goals exact h
theorem snDropAt {w : World} {A : Option Addr} {l : List Sn} (h : LiesN w A l) {b c : Nat} (hb : b ≤ l.length) (hc : l.length ≤ c) : LiesN w (if c = b then A else Option.map (fun a => a.add (b * 2)) A) (l.drop b) := by
 by_cases he : c = b
 ·rw [if_pos he, List.drop_of_length_le (by omega)]; exact fun h => absurd h (by simp)
 ·rw [if_neg he]; exact snTail h b
theorem ss_cat2 {w : World} {A A7 : Option Addr} {l : List Sn} {c p : Nat} (h : LiesN w A l) (hl : l.length ≤ 20) (hp : p + 1 ≤ l.length) (hc : l.length ≤ c) (hA : (if c = p + 1 then A else Option.map (fun a => a.add ((p + 1) * 2)) A) = A7) (H : Nat) (hx : w.heap[H]? = some (.cells #[.slice A p c, .slice A7 (l.length - (p + 1)) (c - (p + 1))] 22 (0, 0))) :
    Calls Try.prog 17 #[.slice (some ⟨H, 0, none⟩) 2 2] w fun e w' => ∃ A9 c9, e = .returned (.slice A9 (l.take p ++ l.drop (p + 1)).length c9) ∧ LiesN w' A9 (l.take p ++ l.drop (p + 1)) ∧ Calm w w' := by
  subst hA
  have ht : (l.take p).length = p := by rw [List.length_take]; omega
  have hd : (l.drop (p + 1)).length = l.length - (p + 1) := List.length_drop
  refine (concat2N_any H A _ c (c - (p + 1)) (l.take p) (l.drop (p + 1)) w (by rw [ht, hd]; omega) (snHead h p) (snDropAt h hp hc) 22 (by rw [ht, hd]; exact hx)).mono ?_
  rintro e w' ⟨v, rfl, ho, hb⟩
  obtain ⟨A9, c9, rfl, H9⟩ := own_at ho rfl
  exact ⟨A9, c9, rfl, H9.out, hb⟩
theorem ss_cat3 {w : World} {A A8 : Option Addr} {l : List Sn} {c k : Nat} {x : ByteArray} {t : Int} (h : LiesN w A l) (hl : l.length ≤ 20) (hp : k ≤ l.length) (hc : l.length ≤ c) (hA : (if c = k then A else Option.map (fun a => a.add (k * 2)) A) = A8) (H g : Nat) (hx : w.heap[H]? = some (.cells #[.slice A k c, .slice (some ⟨g, 0, none⟩) 1 1, .slice A8 (l.length - k) (c - k)] 22 (0, 0))) (hg : w.heap[g]? = some (.cells #[.string x, .int .i64 t] 35 (0, 0))) :
    Calls Try.prog 17 #[.slice (some ⟨H, 0, none⟩) 3 3] w fun e w' => ∃ A9 c9, e = .returned (.slice A9 (l.take k ++ [(⟨x, t⟩ : Sn)] ++ l.drop k).length c9) ∧ LiesN w' A9 (l.take k ++ [(⟨x, t⟩ : Sn)] ++ l.drop k) ∧ Calm w w' := by
  subst hA
  have ht : (l.take k).length = k := by rw [List.length_take]; omega
  have hd : (l.drop k).length = l.length - k := List.length_drop
  refine (concat3N_any H A _ _ c 1 (c - k) (l.take k) [⟨x, t⟩] (l.drop k) w (by rw [ht, hd]; simp only [List.length_cons, List.length_nil]; omega) (snHead h k) (sns_one ⟨x, t⟩ hg) (snDropAt h hp hc) 22 (by rw [ht, hd]; exact hx)).mono ?_
  rintro e w' ⟨v, rfl, ho, hb⟩
  obtain ⟨A9, c9, rfl, H9⟩ := own_at ho rfl
  exact ⟨A9, c9, rfl, H9.out, hb⟩
set_option maxHeartbeats 64000000 in
theorem snapSays_walk (A : Option Addr) (c : Nat) (l : List Sn) (x : ByteArray) (t : Int) (w : World) (hn : l.length ≤ 9223372036854775807) (hcap : l.length ≤ c) (hS : Szs l) (hx : x.size ≤ maxLen) (hL : LiesN w A l) :
    Calls Try.prog 3 #[.slice A l.length c, .string x, .int .i64 t] w fun e w' => e = .returned (.bool true) ∧ Calm w w' := by
  by_cases h0 : snErr l = 0
  rotate_left
  · exact snapSays_bad A c l x t w hn hS hx hL h0
  have hu := Calm.refl w
  have HL := Lib.hid hL
  have hG := snErr_zero.1 h0
  have H20 := Lib.hid hG.1
  obtain ⟨E, hE⟩ : ∃ E, adErr l x t = E := ⟨_, rfl⟩
  obtain ⟨X, hX⟩ : ∃ X, adL l x t = X := ⟨_, rfl⟩
  obtain ⟨F, hF⟩ : ∃ F, fiErr l x = F := ⟨_, rfl⟩
  obtain ⟨R, hR⟩ : ∃ R, drL l x = R := ⟨_, rfl⟩
  obtain ⟨n, hN⟩ : ∃ n, fiT l x = n := ⟨_, rfl⟩
  obtain ⟨T, hT⟩ : ∃ T, tmL l = T := ⟨_, rfl⟩
  have c1 := fun u (hu : Calm w u) => cAdd_is (c := c) hn hS hx (HL.out.calm hu) hE hX
  have c2 := fun u (hu : Calm w u) => cDrop2 (c := c) hn hS (HL.out.calm hu) hF hR
  have c3 := fun u (hu : Calm w u) => cFind_is (c := c) hn hS (HL.out.calm hu) hF hN
  have c4 := fun u (hu : Calm w u) => snTimes_any A c l u hn hS (HL.out.calm hu)
  have c5 := fun u (hu : Calm w u) => refSnaps_any A c l u hn hS (HL.out.calm hu)
  have c6 := fun u (hu : Calm w u) => snCheck_any A c l u hn hS (HL.out.calm hu)
  have c7 := fun u (hu : Calm w u) => refSnap_any A c l x u hn hG.2.2 (HL.out.calm hu)
  simp only [h0, hT, ↓reduceIte] at c4 c5 c6
  have hTlt : T.Pairwise (· < ·) := hT ▸ tmL_lt l
  have HTm := Lib.hid (show ∀ z, z ∈ T ↔ ∃ s ∈ l, s.td = z from fun z => hT ▸ tmL_mem)
  have HTlt := Lib.hid (List.pairwise_iff_getElem.1 hTlt)
  have hTn : T.length ≤ 20 := by have := tmL_len l; rw [hT] at this; have := hG.1; omega
  have HA := Lib.hid (ss_ad h0 x t)
  rw [hE] at HA
  have HS1 := Lib.hid (show Szs [(⟨x, t⟩ : Sn)] from fun s hs => by simp at hs; subst hs; exact hx)
  have HX := Lib.hid (show E = 0 → X = l.take (posN l x) ++ [(⟨x, t⟩ : Sn)] ++ l.drop (posN l x) from fun h => by
    have := (ad_zero (hE.trans h)).2.2.2.2.2
    rw [← hX, this]; unfold insL; simp)
  have HX0 := Lib.hid (show E ≠ 0 → X = [] from fun h => by rw [← hX]; unfold adL; rw [hE, if_neg h])
  have HD : Hid ((hitN l x = true → ∃ s, l[posN l x]? = some s ∧ F = 0 ∧ n = s.td ∧ R = l.take (posN l x) ++ l.drop (posN l x + 1)) ∧ (¬ hitN l x = true → F = 4 ∧ n = 0 ∧ R = [])) := by
    constructor
    · intro h; have := ss_there h0 h; rw [hF, hN, hR] at this; exact this
    · intro h; have := ss_none h0 h; rw [hF, hN, hR] at this; exact this
  have HP := Lib.hid (posN_spec hG.2.2 x)
  clear hL hG hE hX hF hR hN hT hTlt h0
  go_enter Try.func3, Try.ntmps3
  go_upto_region 10 with (first
    | (go_at_call 6; (with_reducible refine (c1 _ hu).mono ?_); rintro e w1 ⟨v, rfl, ho, hb⟩; obtain ⟨A1, d1, rfl, H1⟩ := own_at ho rfl; replace hu := hu.call hb; clear ho hb c1)
    | (go_at_call 7; (with_reducible refine (c2 _ hu).mono ?_); rintro e w2 ⟨v, rfl, ho, hb⟩; obtain ⟨A2, d2, rfl, H2⟩ := own_at ho rfl; replace hu := hu.call hb; replace H1 := Lib.hid (LiesG.calm H1.out hb); clear ho hb c2)
    | (go_at_call 8; (with_reducible refine (c3 _ hu).mono ?_); rintro e w3 ⟨rfl, hb⟩; replace hu := hu.call hb; replace H1 := Lib.hid (LiesG.calm H1.out hb); replace H2 := Lib.hid (LiesG.calm H2.out hb); clear hb c3)
    | (go_at_call 9; (with_reducible refine (c4 _ hu).mono ?_); rintro e w4 ⟨A4, d4, rfl, h4, hb⟩; replace hu := hu.call hb; replace H1 := Lib.hid (LiesG.calm H1.out hb); replace H2 := Lib.hid (LiesG.calm H2.out hb); have H4 := Lib.hid h4; clear h4 hb c4)
    | (go_at_call 10; (with_reducible refine (c5 _ hu).mono ?_); rintro e w5 ⟨rfl, hb⟩; replace hu := hu.call hb; replace H1 := Lib.hid (LiesG.calm H1.out hb); replace H2 := Lib.hid (LiesG.calm H2.out hb); replace H4 := Lib.hid (LiesI.calm H4.out hb); clear hb c5)
    | (go_at_call 11; (with_reducible refine (c6 _ hu).mono ?_); rintro e w6 ⟨rfl, hb⟩; replace hu := hu.call hb; replace H1 := Lib.hid (LiesG.calm H1.out hb); replace H2 := Lib.hid (LiesG.calm H2.out hb); replace H4 := Lib.hid (LiesI.calm H4.out hb); clear hb c6))
  go_wp2_with fail
  go_loopw [93] (fun i wr => ∃ k : Nat, k ≤ T.length ∧ i = .int .i64 k ∧ Calm w6 wr) (fun i _ => T.length - (intOf i).toNat)
  case atStart => exact ⟨0, Nat.zero_le _, rfl, Calm.refl _⟩
  case round =>
    obtain ⟨k, hk, rfl, hv⟩ := hrel
    by_cases hlt : k < T.length
    rotate_left
    · replace hu := hu.call hv
      replace H1 := Lib.hid (LiesG.calm H1.out hv)
      replace H2 := Lib.hid (LiesG.calm H2.out hv)
      replace H4 := Lib.hid (LiesI.calm H4.out hv)
      clear hv HTlt
      go_wp2_with fail
      go_loopw [118] (fun i wS => ∃ k : Nat, k ≤ l.length ∧ i = .int .i64 k ∧ Calm wr wS) (fun i _ => l.length - (intOf i).toNat)
      case atStart => exact ⟨0, Nat.zero_le _, rfl, Calm.refl _⟩
      case round =>
        obtain ⟨j, hj, rfl, hs⟩ := hrel
        by_cases hjl : j < l.length
        rotate_left
        · replace hu := hu.call hs
          replace H1 := Lib.hid (LiesG.calm H1.out hs)
          replace H2 := Lib.hid (LiesG.calm H2.out hs)
          clear hs H4 HTm
          by_cases hh : hitN l x = true
          · obtain ⟨⟨nm, td⟩, hsn, rfl, hnt, hR⟩ := HD.out.1 hh
            replace hnt : n = td := hnt
            subst hnt
            have HRe := Lib.hid hR
            have hix : ixN l x = (posN l x : Nat) := by unfold ixN; rw [if_pos hh]
            have HA2 : Hid (E = if snErr [(⟨x, t⟩ : Sn)] = 0 then 5 else snErr [(⟨x, t⟩ : Sn)]) := show _ = _ from by rw [HA.out, if_pos hh]
            have hpl := (List.getElem?_eq_some_iff.1 hsn).1
            have HRn := Lib.hid (show R.length ≤ 9223372036854775807 by rw [hR, List.length_append, List.length_take, List.length_drop]; have := H20.out; omega)
            rw [hix] at c7
            clear hR HD HA HX HP hix hh
            generalize posN l x = p at *
            go_upto_region 23 with (go_at_call 15; (with_reducible refine (c7 _ hu).mono ?_); rintro e w7 ⟨rfl, hb⟩; replace hu := hu.call hb; replace H1 := Lib.hid (LiesG.calm H1.out hb); replace H2 := Lib.hid (LiesG.calm H2.out hb); clear hb c7)
            obtain ⟨bL, qL, nm', td', rfl, hbL, HE, y0, y1⟩ := sn_get (HL.out.calm hu) hpl
            have hq := hsn.symm.trans HE.out
            injection hq with hq
            injection hq with e0 e1
            subst e0; subst e1
            clear hsn HE
            have hA7e : ∃ A7, (if c = p + 1 then (some (⟨bL, qL, none⟩ : Addr)) else Option.map (fun (a : Addr) => a.add ((p + 1) * 2)) (some (⟨bL, qL, none⟩ : Addr))) = A7 := ⟨_, rfl⟩
            obtain ⟨A7, hA7⟩ := hA7e
            have cC := fun u (hu : Calm w u) => fun H => ss_cat2 (A := some ⟨bL, qL, none⟩) (HL.out.calm hu) H20.out (show p + 1 ≤ l.length by omega) hcap hA7 H
            have cQ := fun A c A' c' u (h : LiesN u A R) (h' : LiesN u A' R) => equalN_self A A' c c' R u HRn.out h h'
            rw [← HRe.out] at cC
            have z1 : IntKind.i64.wrap ((p : Int) + 1) = (p : Int) + 1 := IntWalk.i64_in _ (by omega)
            have z2 : ((p : Int) + 1).toNat = p + 1 := by omega
            have z3 : 0 ≤ (p : Int) + 1 := by omega
            have z4 : (p : Int) + 1 ≤ l.length := by omega
            have z5 : (p : Int) < l.length := by omega
            go_upto_region 26 with fail
            have HU := Lib.hid hu
            have HH1 := Lib.hid H1
            generalize w7 = wS at *
            clear H1 hu
            have z6 : p ≤ c := by omega
            have z7 : p + 1 ≤ c := by omega
            have hA7' : (if c = p + 1 then (some (⟨bL, qL, none⟩ : Addr)) else some (⟨bL, qL + (p + 1) * 2, none⟩ : Addr)) = A7 := by rw [← hA7]; rfl
            refine wp_region_stages [.val (.int .i64 0), .val (.bool false), .val (.bool false), .val (.int .i64 0), .val (.bool false), .val (.bool false), .val (.bool false), .val (.int .i64 n), .val (.slice (some ⟨bL, qL, none⟩) l.length c), .val (.int .i64 (p : Int)), .val (.pointer (some ⟨bL, qL + p * 2, none⟩)), .val (.pointer (some ⟨bL, qL + p * 2 + 1, none⟩)), .val (.int .i64 n), .val (.bool false), .val (.bool false), .val (.bool false), .val (.slice A2 R.length d2), .val (.slice (some ⟨bL, qL, none⟩) l.length c), .val (.int .i64 (p : Int)), .val (.slice (some ⟨bL, qL, none⟩) p c), .val (.slice (some ⟨bL, qL, none⟩) l.length c), .val (.int .i64 (p : Int)), .val (.int .i64 ((p : Int) + 1)), .val (.slice A7 (l.length - (p + 1)) (c - (p + 1))), .late, .late [24], .late [25], .late [26], .late [27]] [24, 25, 26, 27, 28]
              (FreeS [24, 25, 26, 27, 28] (A26 (some ⟨bL, qL, none⟩) A7 c p l.length R) wS) (by kernel_rfl) (by kernel_rfl) (by kernel_rfl) (FreeS.stay a26_stay) (fun Y => FreeS.start (Calm.refl _).drew) (fun Y => ?_)
            iterate 23
              refine planS_val (by kernel_rfl) (fun L9 u hb hS => ?_) ?_
              · have hc0 := hS.1
                clear hS hb
                obtain ⟨hc, hf, hz⟩ := hc0.facts
                go_simp
              simp only [Act.put, List.setIfInBounds_toArray, List.set_cons_zero, List.set_cons_succ, Nat.reduceAdd]
            refine planS_val (by kernel_rfl) (fun L9 u hb hS => ?_) ?_
            · clear hS hb
              go_simp
              all_goals first
                | (exact hA7')
                | (exact ⟨hA7', rfl, rfl⟩)
            simp only [Act.put, List.setIfInBounds_toArray, List.set_cons_zero, List.set_cons_succ, Nat.reduceAdd]
            refine planS_late (fun L9 u hi hb hS => ?_) ?_
            · have hc := hS.1
              have H := Lib.hid (fun (y : Value) (u' : World) (hb' : Calm u u') (hn : ∃ g, y = .slice (some ⟨g, 0, none⟩) 2 2 ∧ u'.heap[g]? = some (.cells #[.slice (some ⟨bL, qL, none⟩) p c, .slice A7 (l.length - (p + 1)) (c - (p + 1))] 22 (0, 0))) => (FreeS.do a26_stay hS hb' (i := 24) (show A26 (some ⟨bL, qL, none⟩) A7 c p l.length R 24 y u' from hn) : FreeS [24, 25, 26, 27, 28] (A26 (some ⟨bL, qL, none⟩) A7 c p l.length R) wS ([24, 25, 26, 27, 28].map (updB L9 24)) (updV Y 24 y) u'))
              clear hS hb hi hc
              go_wp2_with fail
              exact H.out _ _ ((Calm.refl _).alloc _) ⟨_, rfl, heap_new _ _⟩
            simp only [Act.put, List.setIfInBounds_toArray, List.set_cons_zero, List.set_cons_succ, Nat.reduceAdd]
            refine planS_late (fun L9 u hi hb hS => ?_) ?_
            · have hc := hS.1
              have H := Lib.hid (fun (y : Value) (u' : World) (hb' : Calm u u') (hn : ∃ A9 c9, y = .slice A9 R.length c9 ∧ LiesN u' A9 R) => (FreeS.do a26_stay hS hb' (i := 25) (show A26 (some ⟨bL, qL, none⟩) A7 c p l.length R 25 y u' from hn) : FreeS [24, 25, 26, 27, 28] (A26 (some ⟨bL, qL, none⟩) A7 c p l.length R) wS ([24, 25, 26, 27, 28].map (updB L9 25)) (updV Y 25 y) u'))
              obtain ⟨g9, e1, hg9⟩ := (show ∃ g, Y 24 = .slice (some ⟨g, 0, none⟩) 2 2 ∧ u.heap[g]? = some (.cells #[.slice (some ⟨bL, qL, none⟩) p c, .slice A7 (l.length - (p + 1)) (c - (p + 1))] 22 (0, 0)) from FreeS.get hS (i := 24) (by decide) (hb 24 (by simp)))
              rw [e1]
              have k1 := cC u (HU.out.call hc) g9 hg9
              clear hS hb hi hc e1 hg9 cC
              go_wp2_with (go_at_call 17; (with_reducible refine k1.mono ?_); rintro e w9 ⟨A9, c9, rfl, h9, hk⟩; have H9 := Lib.hid h9; have HK := Lib.hid hk; clear h9 hk)
              exact H.out _ w9 HK.out ⟨A9, c9, rfl, H9.out⟩
            simp only [Act.put, List.setIfInBounds_toArray, List.set_cons_zero, List.set_cons_succ, Nat.reduceAdd]
            refine planS_late (fun L9 u hi hb hS => ?_) ?_
            · have hc := hS.1
              have H := Lib.hid (fun (y : Value) (u' : World) (hb' : Calm u u') (hn : y = .bool true) => (FreeS.do a26_stay hS hb' (i := 26) (show A26 (some ⟨bL, qL, none⟩) A7 c p l.length R 26 y u' from hn) : FreeS [24, 25, 26, 27, 28] (A26 (some ⟨bL, qL, none⟩) A7 c p l.length R) wS ([24, 25, 26, 27, 28].map (updB L9 26)) (updV Y 26 y) u'))
              obtain ⟨A9, c9, e1, h9⟩ := (show ∃ A9 c9, Y 25 = .slice A9 R.length c9 ∧ LiesN u A9 R from FreeS.get hS (i := 25) (by decide) (hb 25 (by simp)))
              rw [e1]
              have k1 := cQ A2 d2 A9 c9 u (LiesG.calm H2.out hc) h9
              clear hS hb hi hc e1 h9 cC cQ
              go_wp2_with (go_at_call 16; (with_reducible refine k1.mono ?_); rintro e w9 ⟨rfl, hk⟩; have HK := Lib.hid hk; clear hk)
              exact H.out _ w9 HK.out rfl
            simp only [Act.put, List.setIfInBounds_toArray, List.set_cons_zero, List.set_cons_succ, Nat.reduceAdd]
            refine planS_late (fun L9 u hi hb hS => ?_) ?_
            · have hc := hS.1
              have H := Lib.hid (fun (y : Value) (u' : World) (hb' : Calm u u') (hn : y = .bool false) => (FreeS.do a26_stay hS hb' (i := 27) (show A26 (some ⟨bL, qL, none⟩) A7 c p l.length R 27 y u' from hn) : FreeS [24, 25, 26, 27, 28] (A26 (some ⟨bL, qL, none⟩) A7 c p l.length R) wS ([24, 25, 26, 27, 28].map (updB L9 27)) (updV Y 27 y) u'))
              have e1 := (show Y 26 = .bool true from FreeS.get hS (i := 26) (by decide) (hb 26 (by simp)))
              rw [e1]
              clear hS hb hi hc e1 cC cQ
              go_wp2_with fail
              exact H.out _ u (Calm.refl _) rfl
            simp only [Act.put, List.setIfInBounds_toArray, List.set_cons_zero, List.set_cons_succ, Nat.reduceAdd]
            refine planS_late (fun L9 u hi hb hS => ?_) ?_
            · have hc := hS.1
              have H := Lib.hid (fun (y : Value) (u' : World) (hb' : Calm u u') (hn : y = .bool false) => (FreeS.do a26_stay hS hb' (i := 28) (show A26 (some ⟨bL, qL, none⟩) A7 c p l.length R 28 y u' from hn) : FreeS [24, 25, 26, 27, 28] (A26 (some ⟨bL, qL, none⟩) A7 c p l.length R) wS ([24, 25, 26, 27, 28].map (updB L9 28)) (updV Y 28 y) u'))
              have e1 := (show Y 27 = .bool false from FreeS.get hS (i := 27) (by decide) (hb 27 (by simp)))
              rw [e1]
              clear hS hb hi hc e1 cC cQ
              go_wp2_with fail
              exact H.out _ u (Calm.refl _) rfl
            simp only [Act.put, List.setIfInBounds_toArray, List.set_cons_zero, List.set_cons_succ, Nat.reduceAdd]
            try simp only [Act.put, Nat.reduceAdd]
            refine planS_end ?_
            intro w8 hS
            have hc8 := hS.1
            have e8 := (show Y 28 = .bool false from FreeS.get (L := fun _ => true) hS (i := 28) (by decide) rfl)
            rw [e8]
            clear hS e8
            replace H1 := Lib.hid (LiesG.calm HH1.out hc8)
            have hu := HU.out.call hc8
            clear HH1 HU hc8 H2 hA7 hA7' z1 z2 z3 z4 z5 z6 z7 y0 y1 cC cQ HRe HRn
            obtain ⟨W, hWe⟩ : ∃ W, snErr [(⟨x, t⟩ : Sn)] = W := ⟨_, rfl⟩
            have cW := fun u H (h : u.heap[H]? = some (.cells #[.string x, .int .i64 t] 35 (0, 0))) => refSnaps_any (some ⟨H, 0, none⟩) 1 [(⟨x, t⟩ : Sn)] u (by simp) HS1.out (sns_one ⟨x, t⟩ h)
            rw [hWe] at cW HA2
            clear hWe HS1
            by_cases hW : W = 0
            rotate_left
            · have hEW : E = W := by rw [HA2.out, if_neg hW]
              obtain rfl : X = [] := HX0.out (by rw [hEW]; exact hW)
              subst hEW
              have b1 : (E != 0) = true := by simpa using hW
              clear HA2 HX0 hW
              go_wp2_with (go_at_call 10; replace hu := hu.alloc (.cells #[.string x, .int .i64 t] 35 (0, 0)); replace H1 := Lib.hid (LiesG.calm H1.out ((Calm.refl _).alloc (.cells #[.string x, .int .i64 t] 35 (0, 0)))); (refine (cW _ _ (heap_new _ _)).mono ?_); rintro e w9 ⟨rfl, hb⟩; replace hu := hu.call hb; replace H1 := Lib.hid (LiesG.calm H1.out hb); clear hb cW)
              go_ret
              exact ⟨rfl, hu⟩
            subst hW
            have z0 : (0 : Int) ≤ (p : Int) := by omega
            have hE5 : E = 5 := by rw [HA2.out, if_pos rfl]
            obtain rfl : X = [] := HX0.out (by rw [hE5]; decide)
            subst hE5
            clear HA2 HX0
            go_wp2_with (go_at_call 10; replace hu := hu.alloc (.cells #[.string x, .int .i64 t] 35 (0, 0)); replace H1 := Lib.hid (LiesG.calm H1.out ((Calm.refl _).alloc (.cells #[.string x, .int .i64 t] 35 (0, 0)))); (refine (cW _ _ (heap_new _ _)).mono ?_); rintro e w9 ⟨rfl, hb⟩; replace hu := hu.call hb; replace H1 := Lib.hid (LiesG.calm H1.out hb); clear hb cW)
            go_ret
            exact ⟨rfl, hu⟩
          · obtain ⟨rfl, rfl, rfl⟩ := HD.out.2 hh
            have hix : ixN l x = -1 := by unfold ixN; rw [if_neg hh]
            have HA2 : Hid (E = if snErr [(⟨x, t⟩ : Sn)] = 0 then (if 20 ≤ l.length then 8 else 0) else snErr [(⟨x, t⟩ : Sn)]) := show _ = _ from by rw [HA.out, if_neg hh]
            have hpl := posN_le l x
            rw [hix] at c7
            clear HD HA hix hh
            generalize posN l x = p at *
            go_upto_region 28 with (go_at_call 15; (with_reducible refine (c7 _ hu).mono ?_); rintro e w7 ⟨rfl, hb⟩; replace hu := hu.call hb; replace H1 := Lib.hid (LiesG.calm H1.out hb); replace H2 := Lib.hid (LiesG.calm H2.out hb); clear hb c7)
            obtain ⟨W, hWe⟩ : ∃ W, snErr [(⟨x, t⟩ : Sn)] = W := ⟨_, rfl⟩
            have cW := fun u H (h : u.heap[H]? = some (.cells #[.string x, .int .i64 t] 35 (0, 0))) => refSnaps_any (some ⟨H, 0, none⟩) 1 [(⟨x, t⟩ : Sn)] u (by simp) HS1.out (sns_one ⟨x, t⟩ h)
            rw [hWe] at cW HA2
            clear hWe HS1
            by_cases hW : W = 0
            rotate_left
            · have hEW : E = W := by rw [HA2.out, if_neg hW]
              obtain rfl : X = [] := HX0.out (by rw [hEW]; exact hW)
              subst hEW
              have b1 : (E != 0) = true := by simpa using hW
              clear HA2 HX0 hW
              go_wp2_with (go_at_call 10; replace hu := hu.alloc (.cells #[.string x, .int .i64 t] 35 (0, 0)); replace H1 := Lib.hid (LiesG.calm H1.out ((Calm.refl _).alloc (.cells #[.string x, .int .i64 t] 35 (0, 0)))); (refine (cW _ _ (heap_new _ _)).mono ?_); rintro e w9 ⟨rfl, hb⟩; replace hu := hu.call hb; replace H1 := Lib.hid (LiesG.calm H1.out hb); clear hb cW)
              go_ret
              exact ⟨rfl, hu⟩
            subst hW
            by_cases h20 : 20 ≤ l.length
            · have h20i : (20 : Int) ≤ l.length := by omega
              have hE5 : E = 8 := by rw [HA2.out, if_pos rfl, if_pos h20]
              obtain rfl : X = [] := HX0.out (by rw [hE5]; decide)
              subst hE5
              clear HA2 HX0
              go_wp2_with (go_at_call 10; replace hu := hu.alloc (.cells #[.string x, .int .i64 t] 35 (0, 0)); replace H1 := Lib.hid (LiesG.calm H1.out ((Calm.refl _).alloc (.cells #[.string x, .int .i64 t] 35 (0, 0)))); (refine (cW _ _ (heap_new _ _)).mono ?_); rintro e w9 ⟨rfl, hb⟩; replace hu := hu.call hb; replace H1 := Lib.hid (LiesG.calm H1.out hb); clear hb cW)
              go_ret
              exact ⟨rfl, hu⟩
            have h20i : ¬ (20 : Int) ≤ l.length := by omega
            have hE0 : E = 0 := by rw [HA2.out, if_pos rfl, if_neg h20]
            have HXe := Lib.hid (HX.out hE0)
            subst hE0
            have HXn := Lib.hid (show X.length ≤ 9223372036854775807 by rw [HXe.out]; simp only [List.length_append, List.length_take, List.length_drop, List.length_cons, List.length_nil]; omega)
            clear HA2 HX0 HX
            go_upto_region 36 with (go_at_call 10; replace hu := hu.alloc (.cells #[.string x, .int .i64 t] 35 (0, 0)); replace H1 := Lib.hid (LiesG.calm H1.out ((Calm.refl _).alloc (.cells #[.string x, .int .i64 t] 35 (0, 0)))); (refine (cW _ _ (heap_new _ _)).mono ?_); rintro e w9 ⟨rfl, hb⟩; replace hu := hu.call hb; replace H1 := Lib.hid (LiesG.calm H1.out hb); clear hb cW)
            go_wp2_with fail
            go_loopw [21] (fun i wr3 => ∃ k : Nat, k ≤ p ∧ i = .int .i64 k ∧ Calm w9 wr3) (fun i _ => p - (intOf i).toNat)
            case atStart => exact ⟨0, Nat.zero_le _, rfl, Calm.refl _⟩
            case round =>
              obtain ⟨k, hk, rfl, hs3⟩ := hrel
              by_cases hkp : k < p
              · obtain ⟨bL, qL, nm, td, rfl, hbL, HE, y0, y1⟩ := sn_get (HL.out.calm (hu.call hs3)) (show k < l.length by omega)
                have e1 : Op.bytesLess nm.toList x.toList = true := by
                  obtain ⟨q1, q2⟩ := List.getElem?_eq_some_iff.1 HE.out
                  have := HP.out.1 k q1 hkp
                  rw [q2] at this
                  rw [bl_eq]; exact decide_eq_true this
                have hkl : (k : Int) < l.length := by omega
                clear HE HP
                go_wp2_with fail
                go_roundw
                case rel => exact ⟨k + 1, by omega, by go_num, hs3⟩
                case measure => simp [intOf]; omega
              obtain rfl : k = p := by omega
              clear hk hkp
              by_cases hpl2 : k < l.length
              · obtain ⟨bL, qL, nm, td, rfl, hbL, HE, y0, y1⟩ := sn_get (HL.out.calm (hu.call hs3)) hpl2
                have e1 : Op.bytesLess nm.toList x.toList = false := by
                  obtain ⟨q1, q2⟩ := List.getElem?_eq_some_iff.1 HE.out
                  have := HP.out.2 k q1 (Nat.le_refl _)
                  rw [q2] at this
                  rw [bl_eq]; exact decide_eq_false this
                have hkl : (k : Int) < l.length := by omega
                clear HE HP
                go_upto_region 39 with fail
                clear y0 y1 e1 hkl
                generalize k = p at *
                obtain ⟨A8, hA8⟩ : ∃ A8, (if c = p then ((some (⟨bL, qL, none⟩ : Addr)) : Option Addr) else Option.map (fun (a : Addr) => a.add (p * 2)) (some (⟨bL, qL, none⟩ : Addr))) = A8 := ⟨_, rfl⟩
                have hA8' : (if c = p then (some (⟨bL, qL, none⟩ : Addr)) else some (⟨bL, qL + p * 2, none⟩ : Addr)) = A8 := by rw [← hA8, Option.map_some, show (⟨bL, qL, none⟩ : Addr).add (p * 2) = ⟨bL, qL + p * 2, none⟩ from by unfold Addr.add; split <;> simp_all]
                have cC := fun u (hu : Calm w u) => fun H g => ss_cat3 (A := (some (⟨bL, qL, none⟩ : Addr))) (x := x) (t := t) (HL.out.calm hu) H20.out hpl hcap hA8 H g
                rw [← HXe.out] at cC
                have cQ := fun A c A' c' u (h : LiesN u A X) (h' : LiesN u A' X) => equalN_self A A' c c' X u HXn.out h h'
                have HU := Lib.hid (hu.call hs3)
                have HH1 := Lib.hid (LiesG.calm H1.out hs3)
                have z6 : p ≤ c := by omega
                clear hs3 hu H1
                have z7 : (0 : Int) ≤ (p : Int) := by omega
                generalize wr = wS at *
                refine wp_region_stages [.val (.int .i64 0), .val (.bool true), .val (.bool true), .val (.int .i64 0), .val (.bool true), .val (.bool true), .val (.bool true), .val (.slice A1 X.length d1), .val (.slice ((some (⟨bL, qL, none⟩ : Addr))) l.length c), .val (.int .i64 (p : Int)), .val (.slice ((some (⟨bL, qL, none⟩ : Addr))) p c), .val (.string x), .val (.int .i64 t), .val (.agg #[.string x, .int .i64 t]), .late, .val (.slice ((some (⟨bL, qL, none⟩ : Addr))) l.length c), .val (.int .i64 (p : Int)), .val (.slice A8 (l.length - p) (c - p)), .late [14], .late [18], .late [19], .late [20], .late [21]] [14, 18, 19, 20, 21, 22]
                  (FreeS [14, 18, 19, 20, 21, 22] (A39 (some (⟨bL, qL, none⟩ : Addr)) A8 c p l.length x t X) wS) (by kernel_rfl) (by kernel_rfl) (by kernel_rfl) (FreeS.stay a39_stay) (fun Y => FreeS.start (Calm.refl _).drew) (fun Y => ?_)
                iterate 14
                  refine planS_val (by kernel_rfl) (fun L9 u hb hS => ?_) ?_
                  · clear hS hb
                    go_simp
                  simp only [Act.put, List.setIfInBounds_toArray, List.set_cons_zero, List.set_cons_succ, Nat.reduceAdd]
                refine planS_late (fun L9 u hi hb hS => ?_) ?_
                · have hc := hS.1
                  have H := Lib.hid (fun (y : Value) (u' : World) (hb' : Calm u u') (hn : ∃ g, y = .slice (some ⟨g, 0, none⟩) 1 1 ∧ u'.heap[g]? = some (.cells #[.string x, .int .i64 t] 35 (0, 0))) => (FreeS.do a39_stay hS hb' (i := 14) (show A39 (some (⟨bL, qL, none⟩ : Addr)) A8 c p l.length x t X 14 y u' from hn) : FreeS [14, 18, 19, 20, 21, 22] (A39 (some (⟨bL, qL, none⟩ : Addr)) A8 c p l.length x t X) wS ([14, 18, 19, 20, 21, 22].map (updB L9 14)) (updV Y 14 y) u'))
                  clear hS hb hi hc
                  go_wp2_with fail
                  exact H.out _ _ ((Calm.refl _).alloc _) ⟨_, rfl, heap_new _ _⟩
                simp only [Act.put, List.setIfInBounds_toArray, List.set_cons_zero, List.set_cons_succ, Nat.reduceAdd]
                iterate 2
                  refine planS_val (by kernel_rfl) (fun L9 u hb hS => ?_) ?_
                  · clear hS hb
                    go_simp
                  simp only [Act.put, List.setIfInBounds_toArray, List.set_cons_zero, List.set_cons_succ, Nat.reduceAdd]
                refine planS_val (by kernel_rfl) (fun L9 u hb hS => ?_) ?_
                · clear hS hb
                  go_simp
                  all_goals first
                    | (exact hA8')
                    | (exact ⟨hA8', rfl, rfl⟩)
                simp only [Act.put, List.setIfInBounds_toArray, List.set_cons_zero, List.set_cons_succ, Nat.reduceAdd]
                refine planS_late (fun L9 u hi hb hS => ?_) ?_
                · have hc := hS.1
                  have H := Lib.hid (fun (y : Value) (u' : World) (hb' : Calm u u') (hn : ∃ g h, y = .slice (some ⟨g, 0, none⟩) 3 3 ∧ u'.heap[g]? = some (.cells #[.slice (some (⟨bL, qL, none⟩ : Addr)) p c, .slice (some ⟨h, 0, none⟩) 1 1, .slice A8 (l.length - p) (c - p)] 22 (0, 0)) ∧ u'.heap[h]? = some (.cells #[.string x, .int .i64 t] 35 (0, 0))) => (FreeS.do a39_stay hS hb' (i := 18) (show A39 (some (⟨bL, qL, none⟩ : Addr)) A8 c p l.length x t X 18 y u' from hn) : FreeS [14, 18, 19, 20, 21, 22] (A39 (some (⟨bL, qL, none⟩ : Addr)) A8 c p l.length x t X) wS ([14, 18, 19, 20, 21, 22].map (updB L9 18)) (updV Y 18 y) u'))
                  obtain ⟨g9, e1, hg9⟩ := (show ∃ g, Y 14 = .slice (some ⟨g, 0, none⟩) 1 1 ∧ u.heap[g]? = some (.cells #[.string x, .int .i64 t] 35 (0, 0)) from FreeS.get hS (i := 14) (by decide) (hb 14 (by simp)))
                  rw [e1]
                  have HG9 := Lib.hid hg9
                  clear hS hb hi hc e1 hg9 cC cQ
                  go_wp2_with fail
                  exact H.out _ _ ((Calm.refl _).alloc _) ⟨_, _, rfl, heap_new _ _, (((Calm.refl _).alloc _).block (Array.getElem?_eq_some_iff.1 HG9.out).1).trans HG9.out⟩
                simp only [Act.put, List.setIfInBounds_toArray, List.set_cons_zero, List.set_cons_succ, Nat.reduceAdd]
                refine planS_late (fun L9 u hi hb hS => ?_) ?_
                · have hc := hS.1
                  have H := Lib.hid (fun (y : Value) (u' : World) (hb' : Calm u u') (hn : ∃ A9 c9, y = .slice A9 X.length c9 ∧ LiesN u' A9 X) => (FreeS.do a39_stay hS hb' (i := 19) (show A39 (some (⟨bL, qL, none⟩ : Addr)) A8 c p l.length x t X 19 y u' from hn) : FreeS [14, 18, 19, 20, 21, 22] (A39 (some (⟨bL, qL, none⟩ : Addr)) A8 c p l.length x t X) wS ([14, 18, 19, 20, 21, 22].map (updB L9 19)) (updV Y 19 y) u'))
                  obtain ⟨g9, h9, e1, hg9, hh9⟩ := (show ∃ g h, Y 18 = .slice (some ⟨g, 0, none⟩) 3 3 ∧ u.heap[g]? = some (.cells #[.slice (some (⟨bL, qL, none⟩ : Addr)) p c, .slice (some ⟨h, 0, none⟩) 1 1, .slice A8 (l.length - p) (c - p)] 22 (0, 0)) ∧ u.heap[h]? = some (.cells #[.string x, .int .i64 t] 35 (0, 0)) from FreeS.get hS (i := 18) (by decide) (hb 18 (by simp)))
                  rw [e1]
                  have k1 := cC u (HU.out.call hc) g9 h9 hg9 hh9
                  clear hS hb hi hc e1 hg9 hh9 cC cQ
                  go_wp2_with (go_at_call 17; (with_reducible refine k1.mono ?_); rintro e w9 ⟨A9, c9, rfl, h9, hk⟩; have H9 := Lib.hid h9; have HK := Lib.hid hk; clear h9 hk)
                  exact H.out _ w9 HK.out ⟨A9, c9, rfl, H9.out⟩
                simp only [Act.put, List.setIfInBounds_toArray, List.set_cons_zero, List.set_cons_succ, Nat.reduceAdd]
                refine planS_late (fun L9 u hi hb hS => ?_) ?_
                · have hc := hS.1
                  have H := Lib.hid (fun (y : Value) (u' : World) (hb' : Calm u u') (hn : y = .bool true) => (FreeS.do a39_stay hS hb' (i := 20) (show A39 (some (⟨bL, qL, none⟩ : Addr)) A8 c p l.length x t X 20 y u' from hn) : FreeS [14, 18, 19, 20, 21, 22] (A39 (some (⟨bL, qL, none⟩ : Addr)) A8 c p l.length x t X) wS ([14, 18, 19, 20, 21, 22].map (updB L9 20)) (updV Y 20 y) u'))
                  obtain ⟨A9, c9, e1, h9⟩ := (show ∃ A9 c9, Y 19 = .slice A9 X.length c9 ∧ LiesN u A9 X from FreeS.get hS (i := 19) (by decide) (hb 19 (by simp)))
                  rw [e1]
                  have k1 := cQ A1 d1 A9 c9 u (LiesG.calm HH1.out hc) h9
                  clear hS hb hi hc e1 h9 cC cQ
                  go_wp2_with (go_at_call 16; (with_reducible refine k1.mono ?_); rintro e w9 ⟨rfl, hk⟩; have HK := Lib.hid hk; clear hk)
                  exact H.out _ w9 HK.out rfl
                simp only [Act.put, List.setIfInBounds_toArray, List.set_cons_zero, List.set_cons_succ, Nat.reduceAdd]
                refine planS_late (fun L9 u hi hb hS => ?_) ?_
                · have hc := hS.1
                  have H := Lib.hid (fun (y : Value) (u' : World) (hb' : Calm u u') (hn : y = .bool true) => (FreeS.do a39_stay hS hb' (i := 21) (show A39 (some (⟨bL, qL, none⟩ : Addr)) A8 c p l.length x t X 21 y u' from hn) : FreeS [14, 18, 19, 20, 21, 22] (A39 (some (⟨bL, qL, none⟩ : Addr)) A8 c p l.length x t X) wS ([14, 18, 19, 20, 21, 22].map (updB L9 21)) (updV Y 21 y) u'))
                  have e1 := (show Y 20 = .bool true from FreeS.get hS (i := 20) (by decide) (hb 20 (by simp)))
                  rw [e1]
                  clear hS hb hi hc e1 cC cQ
                  go_wp2_with fail
                  exact H.out _ u (Calm.refl _) rfl
                simp only [Act.put, List.setIfInBounds_toArray, List.set_cons_zero, List.set_cons_succ, Nat.reduceAdd]
                refine planS_late (fun L9 u hi hb hS => ?_) ?_
                · have hc := hS.1
                  have H := Lib.hid (fun (y : Value) (u' : World) (hb' : Calm u u') (hn : y = .bool true) => (FreeS.do a39_stay hS hb' (i := 22) (show A39 (some (⟨bL, qL, none⟩ : Addr)) A8 c p l.length x t X 22 y u' from hn) : FreeS [14, 18, 19, 20, 21, 22] (A39 (some (⟨bL, qL, none⟩ : Addr)) A8 c p l.length x t X) wS ([14, 18, 19, 20, 21, 22].map (updB L9 22)) (updV Y 22 y) u'))
                  have e1 := (show Y 21 = .bool true from FreeS.get hS (i := 21) (by decide) (hb 21 (by simp)))
                  rw [e1]
                  clear hS hb hi hc e1 cC cQ
                  go_wp2_with fail
                  exact H.out _ u (Calm.refl _) rfl
                simp only [Act.put, List.setIfInBounds_toArray, List.set_cons_zero, List.set_cons_succ, Nat.reduceAdd]
                try simp only [Act.put, Nat.reduceAdd]
                refine planS_end ?_
                intro w8 hS
                have hc8 := hS.1
                have e8 := (show Y 22 = .bool true from FreeS.get (L := fun _ => true) hS (i := 22) (by decide) rfl)
                rw [e8]
                clear hS e8
                have hu := HU.out.call hc8
                clear HH1 HU hc8 hA8 hA8' z6 z7 cC cQ
                go_wp2_with fail
                go_ret
                exact ⟨rfl, hu⟩
              · have hkl : ¬ (k : Int) < l.length := by omega
                clear HP
                go_upto_region 39 with fail
                clear hkl
                generalize k = p at *
                obtain ⟨A8, hA8⟩ : ∃ A8, (if c = p then (A : Option Addr) else Option.map (fun (a : Addr) => a.add (p * 2)) A) = A8 := ⟨_, rfl⟩
                have hA8' : (if c = p then (A : Option Addr) else Option.map (fun (a : Addr) => a.add (p * 2)) A) = A8 := by exact hA8
                have cC := fun u (hu : Calm w u) => fun H g => ss_cat3 (A := A) (x := x) (t := t) (HL.out.calm hu) H20.out hpl hcap hA8 H g
                rw [← HXe.out] at cC
                have cQ := fun A c A' c' u (h : LiesN u A X) (h' : LiesN u A' X) => equalN_self A A' c c' X u HXn.out h h'
                have HU := Lib.hid (hu.call hs3)
                have HH1 := Lib.hid (LiesG.calm H1.out hs3)
                have z6 : p ≤ c := by omega
                clear hs3 hu H1
                have z7 : (0 : Int) ≤ (p : Int) := by omega
                generalize wr = wS at *
                refine wp_region_stages [.val (.int .i64 0), .val (.bool true), .val (.bool true), .val (.int .i64 0), .val (.bool true), .val (.bool true), .val (.bool true), .val (.slice A1 X.length d1), .val (.slice A l.length c), .val (.int .i64 (p : Int)), .val (.slice A p c), .val (.string x), .val (.int .i64 t), .val (.agg #[.string x, .int .i64 t]), .late, .val (.slice A l.length c), .val (.int .i64 (p : Int)), .val (.slice A8 (l.length - p) (c - p)), .late [14], .late [18], .late [19], .late [20], .late [21]] [14, 18, 19, 20, 21, 22]
                  (FreeS [14, 18, 19, 20, 21, 22] (A39 A A8 c p l.length x t X) wS) (by kernel_rfl) (by kernel_rfl) (by kernel_rfl) (FreeS.stay a39_stay) (fun Y => FreeS.start (Calm.refl _).drew) (fun Y => ?_)
                iterate 14
                  refine planS_val (by kernel_rfl) (fun L9 u hb hS => ?_) ?_
                  · clear hS hb
                    go_simp
                  simp only [Act.put, List.setIfInBounds_toArray, List.set_cons_zero, List.set_cons_succ, Nat.reduceAdd]
                refine planS_late (fun L9 u hi hb hS => ?_) ?_
                · have hc := hS.1
                  have H := Lib.hid (fun (y : Value) (u' : World) (hb' : Calm u u') (hn : ∃ g, y = .slice (some ⟨g, 0, none⟩) 1 1 ∧ u'.heap[g]? = some (.cells #[.string x, .int .i64 t] 35 (0, 0))) => (FreeS.do a39_stay hS hb' (i := 14) (show A39 A A8 c p l.length x t X 14 y u' from hn) : FreeS [14, 18, 19, 20, 21, 22] (A39 A A8 c p l.length x t X) wS ([14, 18, 19, 20, 21, 22].map (updB L9 14)) (updV Y 14 y) u'))
                  clear hS hb hi hc
                  go_wp2_with fail
                  exact H.out _ _ ((Calm.refl _).alloc _) ⟨_, rfl, heap_new _ _⟩
                simp only [Act.put, List.setIfInBounds_toArray, List.set_cons_zero, List.set_cons_succ, Nat.reduceAdd]
                iterate 2
                  refine planS_val (by kernel_rfl) (fun L9 u hb hS => ?_) ?_
                  · clear hS hb
                    go_simp
                  simp only [Act.put, List.setIfInBounds_toArray, List.set_cons_zero, List.set_cons_succ, Nat.reduceAdd]
                refine planS_val (by kernel_rfl) (fun L9 u hb hS => ?_) ?_
                · clear hS hb
                  go_simp
                  all_goals first
                    | (exact hA8')
                    | (exact ⟨hA8', rfl, rfl⟩)
                simp only [Act.put, List.setIfInBounds_toArray, List.set_cons_zero, List.set_cons_succ, Nat.reduceAdd]
                refine planS_late (fun L9 u hi hb hS => ?_) ?_
                · have hc := hS.1
                  have H := Lib.hid (fun (y : Value) (u' : World) (hb' : Calm u u') (hn : ∃ g h, y = .slice (some ⟨g, 0, none⟩) 3 3 ∧ u'.heap[g]? = some (.cells #[.slice A p c, .slice (some ⟨h, 0, none⟩) 1 1, .slice A8 (l.length - p) (c - p)] 22 (0, 0)) ∧ u'.heap[h]? = some (.cells #[.string x, .int .i64 t] 35 (0, 0))) => (FreeS.do a39_stay hS hb' (i := 18) (show A39 A A8 c p l.length x t X 18 y u' from hn) : FreeS [14, 18, 19, 20, 21, 22] (A39 A A8 c p l.length x t X) wS ([14, 18, 19, 20, 21, 22].map (updB L9 18)) (updV Y 18 y) u'))
                  obtain ⟨g9, e1, hg9⟩ := (show ∃ g, Y 14 = .slice (some ⟨g, 0, none⟩) 1 1 ∧ u.heap[g]? = some (.cells #[.string x, .int .i64 t] 35 (0, 0)) from FreeS.get hS (i := 14) (by decide) (hb 14 (by simp)))
                  rw [e1]
                  have HG9 := Lib.hid hg9
                  clear hS hb hi hc e1 hg9 cC cQ
                  go_wp2_with fail
                  exact H.out _ _ ((Calm.refl _).alloc _) ⟨_, _, rfl, heap_new _ _, (((Calm.refl _).alloc _).block (Array.getElem?_eq_some_iff.1 HG9.out).1).trans HG9.out⟩
                simp only [Act.put, List.setIfInBounds_toArray, List.set_cons_zero, List.set_cons_succ, Nat.reduceAdd]
                refine planS_late (fun L9 u hi hb hS => ?_) ?_
                · have hc := hS.1
                  have H := Lib.hid (fun (y : Value) (u' : World) (hb' : Calm u u') (hn : ∃ A9 c9, y = .slice A9 X.length c9 ∧ LiesN u' A9 X) => (FreeS.do a39_stay hS hb' (i := 19) (show A39 A A8 c p l.length x t X 19 y u' from hn) : FreeS [14, 18, 19, 20, 21, 22] (A39 A A8 c p l.length x t X) wS ([14, 18, 19, 20, 21, 22].map (updB L9 19)) (updV Y 19 y) u'))
                  obtain ⟨g9, h9, e1, hg9, hh9⟩ := (show ∃ g h, Y 18 = .slice (some ⟨g, 0, none⟩) 3 3 ∧ u.heap[g]? = some (.cells #[.slice A p c, .slice (some ⟨h, 0, none⟩) 1 1, .slice A8 (l.length - p) (c - p)] 22 (0, 0)) ∧ u.heap[h]? = some (.cells #[.string x, .int .i64 t] 35 (0, 0)) from FreeS.get hS (i := 18) (by decide) (hb 18 (by simp)))
                  rw [e1]
                  have k1 := cC u (HU.out.call hc) g9 h9 hg9 hh9
                  clear hS hb hi hc e1 hg9 hh9 cC cQ
                  go_wp2_with (go_at_call 17; (with_reducible refine k1.mono ?_); rintro e w9 ⟨A9, c9, rfl, h9, hk⟩; have H9 := Lib.hid h9; have HK := Lib.hid hk; clear h9 hk)
                  exact H.out _ w9 HK.out ⟨A9, c9, rfl, H9.out⟩
                simp only [Act.put, List.setIfInBounds_toArray, List.set_cons_zero, List.set_cons_succ, Nat.reduceAdd]
                refine planS_late (fun L9 u hi hb hS => ?_) ?_
                · have hc := hS.1
                  have H := Lib.hid (fun (y : Value) (u' : World) (hb' : Calm u u') (hn : y = .bool true) => (FreeS.do a39_stay hS hb' (i := 20) (show A39 A A8 c p l.length x t X 20 y u' from hn) : FreeS [14, 18, 19, 20, 21, 22] (A39 A A8 c p l.length x t X) wS ([14, 18, 19, 20, 21, 22].map (updB L9 20)) (updV Y 20 y) u'))
                  obtain ⟨A9, c9, e1, h9⟩ := (show ∃ A9 c9, Y 19 = .slice A9 X.length c9 ∧ LiesN u A9 X from FreeS.get hS (i := 19) (by decide) (hb 19 (by simp)))
                  rw [e1]
                  have k1 := cQ A1 d1 A9 c9 u (LiesG.calm HH1.out hc) h9
                  clear hS hb hi hc e1 h9 cC cQ
                  go_wp2_with (go_at_call 16; (with_reducible refine k1.mono ?_); rintro e w9 ⟨rfl, hk⟩; have HK := Lib.hid hk; clear hk)
                  exact H.out _ w9 HK.out rfl
                simp only [Act.put, List.setIfInBounds_toArray, List.set_cons_zero, List.set_cons_succ, Nat.reduceAdd]
                refine planS_late (fun L9 u hi hb hS => ?_) ?_
                · have hc := hS.1
                  have H := Lib.hid (fun (y : Value) (u' : World) (hb' : Calm u u') (hn : y = .bool true) => (FreeS.do a39_stay hS hb' (i := 21) (show A39 A A8 c p l.length x t X 21 y u' from hn) : FreeS [14, 18, 19, 20, 21, 22] (A39 A A8 c p l.length x t X) wS ([14, 18, 19, 20, 21, 22].map (updB L9 21)) (updV Y 21 y) u'))
                  have e1 := (show Y 20 = .bool true from FreeS.get hS (i := 20) (by decide) (hb 20 (by simp)))
                  rw [e1]
                  clear hS hb hi hc e1 cC cQ
                  go_wp2_with fail
                  exact H.out _ u (Calm.refl _) rfl
                simp only [Act.put, List.setIfInBounds_toArray, List.set_cons_zero, List.set_cons_succ, Nat.reduceAdd]
                refine planS_late (fun L9 u hi hb hS => ?_) ?_
                · have hc := hS.1
                  have H := Lib.hid (fun (y : Value) (u' : World) (hb' : Calm u u') (hn : y = .bool true) => (FreeS.do a39_stay hS hb' (i := 22) (show A39 A A8 c p l.length x t X 22 y u' from hn) : FreeS [14, 18, 19, 20, 21, 22] (A39 A A8 c p l.length x t X) wS ([14, 18, 19, 20, 21, 22].map (updB L9 22)) (updV Y 22 y) u'))
                  have e1 := (show Y 21 = .bool true from FreeS.get hS (i := 21) (by decide) (hb 21 (by simp)))
                  rw [e1]
                  clear hS hb hi hc e1 cC cQ
                  go_wp2_with fail
                  exact H.out _ u (Calm.refl _) rfl
                simp only [Act.put, List.setIfInBounds_toArray, List.set_cons_zero, List.set_cons_succ, Nat.reduceAdd]
                try simp only [Act.put, Nat.reduceAdd]
                refine planS_end ?_
                intro w8 hS
                have hc8 := hS.1
                have e8 := (show Y 22 = .bool true from FreeS.get (L := fun _ => true) hS (i := 22) (by decide) rfl)
                rw [e8]
                clear hS e8
                have hu := HU.out.call hc8
                clear HH1 HU hc8 hA8 hA8' z6 z7 cC cQ
                go_wp2_with fail
                go_ret
                exact ⟨rfl, hu⟩
        obtain ⟨bL, qL, nm, td, rfl, hbL, HE, y0, y1⟩ := sn_get (HL.out.calm (hu.call hs)) hjl
        have hsa := hs.alloc (.cells #[.string nm, .int .i64 td] 35 (0, 0))
        have cI := fun A c u (h : LiesI u A T) => contI_any A c T td u (by omega) h ((HTm.out td).2 ⟨_, List.mem_of_getElem? HE.out, rfl⟩)
        clear HE
        go_wp2_with (go_at_call 14; (with_reducible refine (cI _ _ _ (LiesI.calm H4.out hsa)).mono ?_); rintro e w7 ⟨rfl, hb⟩; have hsb := hsa.call hb; clear hb)
        go_roundw
        case rel => exact ⟨j + 1, by omega, by go_num, hsb⟩
        case measure => simp [intOf]; omega
    have hvv := hu.call hv
    obtain ⟨z, hz⟩ : ∃ z, T[k]? = some z := ⟨_, List.getElem?_eq_getElem hlt⟩
    have hzm : z ∈ T := List.mem_of_getElem? hz
    obtain ⟨b4, q4, rfl, hlt4, hc4⟩ := (LiesI.calm H4.out hv) (List.length_pos_of_mem hzm)
    have z1 := hc4 k z hz
    have HC4 := Lib.hid hc4
    clear hc4
    have hg := heap_new wr (.cells #[.int .i64 z] 3 (0, 0))
    have hva := hvv.alloc (.cells #[.int .i64 z] 3 (0, 0))
    have cH : ∀ u, Calm w u → u.heap[wr.heap.size]? = some (.cells #[.int .i64 z] 3 (0, 0)) → _ := fun u hu hB => sayHas_any wr.heap.size A c l z u hn (HL.out.calm hu) hB ((HTm.out z).1 hzm)
    go_upto_region 13 with fail
    by_cases hk0 : k = 0
    · subst hk0
      refine wp_region_plan [.val (.int .i64 ((0 : Nat))), .val (.bool false), .val (.bool false), .idle, .idle, .idle, .idle, .idle, .idle, .idle, .val (.bool false), .val (.bool false), .val (.slice A l.length c), .val (.func (.func 13) #[] #[.pointer (some ⟨wr.heap.size, 0, none⟩)]), .val (.bool true), .val (.bool false), .val (.bool false)] (by kernel_rfl) (by kernel_rfl) (by kernel_rfl) ?_
      intro X
      iterate 3
        refine plan_val (by kernel_rfl) (fun u hu => ?_) ?_
        · obtain ⟨hc, hf, hz⟩ := hu.of_drew.facts
          go_simp
          all_goals first
            | ((go_at_call 12; (with_reducible exact cH _ (hva.call hu.of_drew) ((hu.of_drew.block (Array.getElem?_eq_some_iff.1 hg).1).trans hg))))
        simp only [Act.put, List.setIfInBounds_toArray, List.set_cons_zero, List.set_cons_succ, Nat.reduceAdd]
      iterate 7
        refine plan_idle (by kernel_rfl) ?_
        simp only [Act.put, List.setIfInBounds_toArray, List.set_cons_zero, List.set_cons_succ, Nat.reduceAdd]
      iterate 7
        refine plan_val (by kernel_rfl) (fun u hu => ?_) ?_
        · obtain ⟨hc, hf, hz⟩ := hu.of_drew.facts
          go_simp
          all_goals first
            | ((go_at_call 12; (with_reducible exact cH _ (hva.call hu.of_drew) ((hu.of_drew.block (Array.getElem?_eq_some_iff.1 hg).1).trans hg))))
        simp only [Act.put, List.setIfInBounds_toArray, List.set_cons_zero, List.set_cons_succ, Nat.reduceAdd]
      refine plan_end ?_
      intro w' hB
      have hk := hB.calm.of_drew
      clear hB
      have hvk := (hv.alloc (.cells #[.int .i64 z] 3 (0, 0))).call hk
      go_wp2_with fail
      go_roundw
      case rel => exact ⟨1, by omega, by go_num, hvk⟩
      case measure => simp [intOf]; omega
    · obtain ⟨z', hz'⟩ : ∃ z', T[k - 1]? = some z' := ⟨_, List.getElem?_eq_getElem (by omega)⟩
      have hzz : z' < z := by
        obtain ⟨q1, rfl⟩ := List.getElem?_eq_some_iff.1 hz
        obtain ⟨q2, rfl⟩ := List.getElem?_eq_some_iff.1 hz'
        exact HTlt.out (k - 1) k q2 q1 (by omega)
      have hzn : ¬ z ≤ z' := by omega
      have y1 := HC4.out (k - 1) z' hz'
      have z0 : 0 < k := by omega
      have z1 : IntKind.i64.wrap ((k : Int) - 1) = (k : Int) - 1 := IntWalk.i64_in _ (by omega)
      have z2 : ((k : Int) - 1).toNat = k - 1 := by omega
      have z3 : 0 ≤ (k : Int) - 1 := by omega
      have z4 : (k : Int) - 1 < T.length := by omega
      have z5 : (1 : Int) ≤ k := by omega
      refine wp_region_plan [.val (.int .i64 ((k : Int))), .val (.bool true), .val (.bool true), .val (.slice (some ⟨b4, q4, none⟩) T.length d4), .val (.int .i64 ((k : Int))), .val (.int .i64 ((k : Int) - 1)), .val (.pointer (some ⟨b4, q4 + (k - 1), none⟩)), .val (.int .i64 (z')), .val (.int .i64 (z)), .val (.bool false), .val (.bool false), .val (.bool false), .val (.slice A l.length c), .val (.func (.func 13) #[] #[.pointer (some ⟨wr.heap.size, 0, none⟩)]), .val (.bool true), .val (.bool false), .val (.bool false)] (by kernel_rfl) (by kernel_rfl) (by kernel_rfl) ?_
      intro X
      iterate 17
        refine plan_val (by kernel_rfl) (fun u hu => ?_) ?_
        · obtain ⟨hc, hf, hz⟩ := hu.of_drew.facts
          go_simp
          all_goals first
            | ((go_at_call 12; (with_reducible exact cH _ (hva.call hu.of_drew) ((hu.of_drew.block (Array.getElem?_eq_some_iff.1 hg).1).trans hg))))
        simp only [Act.put, List.setIfInBounds_toArray, List.set_cons_zero, List.set_cons_succ, Nat.reduceAdd]
      refine plan_end ?_
      intro w' hB
      have hk := hB.calm.of_drew
      clear hB
      have hvk := (hv.alloc (.cells #[.int .i64 z] 3 (0, 0))).call hk
      go_wp2_with fail
      go_roundw
      case rel => exact ⟨k + 1, by omega, by go_num, hvk⟩
      case measure => simp [intOf]; omega
end Go.Proofs.Ytibnghapilfgbaa
