/- Texts of one kind in one file. -/
import Derived.Test.YtbkafjffofaonaaShelf
import Derived.Test.YtbkafjffofaonaaPkGrowSets4
set_option maxRecDepth 100000
namespace Go.Proofs.Ytbkafjffofaonaa
open Go.RowKit
theorem sizeI:∀ w,(Go.sizeOf 3).run Try.prog w=.ok 1 w:=fun _=>by kernel_rfl
theorem infosI:(Try.prog.info? 3).map (·.size)=some 1:=by kernel_rfl
theorem copyI (w : World) (ty : TypeId) (g o dLen dCap : Nat) (a : Addr) (sLen sCap : Nat) (cur : List Value) (t : TypeId) (cs : List Value)
    (hg : w.heap[g]? = some (.cells cur.toArray t (0, 0))) (hn : cs.length = Nat.min sLen dLen * 1)
    (hsrc : ∀ j v, cs[j]? = some v → w.cell? (a.add j) = some v) (hfit : o + cs.length ≤ cur.length) (h1 : ∀ v ∈ cs, v.oneCell' = true) :
    (Builtin.copy_ #[29, 29] ty #[.slice (some ⟨g, o, none⟩) dLen dCap, .slice (some a) sLen sCap]).run Try.prog w =
      .ok (goInt (Nat.min sLen dLen)) (w.setRow g (spl cur o cs).toArray) := by
  have hl := run_loadCells_list (P := Try.prog) w a cs hsrc
  have hst := run_storeCells_at Try.prog g o t cs 0 cur.toArray w hg (by simpa using hfit) h1
  have hs := infosI
  cases hq : Try.prog.info? 3 with
  | none => simp [hq] at hs
  | some i =>
    have hi : i.size = 1 := by simpa [hq] using hs
    have hn' : cs.length = Nat.min sLen dLen * i.size := by rw [hi]; exact hn
    rw [hi] at hn'
    simp [Builtin.copy_, run_underlying Try.underlying29, Builtin.lenOf, Builtin.firstCells, typeInfo, hq, hi, ← hn, hl, hst, spl]
set_option maxHeartbeats 8000000 in
theorem insI_shift (g h i n cap : Nat) (xs cur nc : List Value) (w : World) (hxl : xs.length = n) (hi : i < n) (hn4 : n ≤ 400) (hroom : n + 1 ≤ cap) (hc63 : cap ≤ 9223372036854775807)
    (hg : w.heap[g]? = some (.cells cur.toArray 3 (0, 0))) (hs : cur.length = cap) (ht : cur.take (n) = xs) (hh : w.heap[h]? = some (.cells nc.toArray 3 (0, 0))) (hnc : nc.length = 1) (ho1 : ∀ u ∈ nc, u.oneCell' = true) (hx1 : ∀ u ∈ xs, u.oneCell' = true) (hne : h ≠ g) :
    Calls Try.prog 141 #[.slice (some ⟨g, 0, none⟩) n cap, .int .i64 i, .slice (some ⟨h, 0, none⟩) 1 1] w fun e w' => e = .returned (.slice (some ⟨g, 0, none⟩) (n + 1) cap) ∧
      w'.heap[g]? = some (.cells (spl (spl cur ((i + 1)) (xs.drop (i))) (i) nc).toArray 3 (0, 0)) ∧ w.grownBy w' (some g) := by
  have hov : ∀ lb cb, (callFunc 149 #[.slice (some ⟨h, 0, none⟩) 1 1, .slice (some ⟨g, (i + 1), none⟩) lb cb]).run Try.prog w = .ok (.value (.bool false)) w := fun lb cb => by
    rw [run_callFunc_extern Try.func149 (by kernel_rfl) (by kernel_rfl) (by kernel_rfl) (e := Extern.SlicesOverlaps.overlaps #[29, 29] #[4]) (by kernel_rfl),
      Lib.run_overlaps_apart w 29 4 3 Try.underlying29 1 sizeI ⟨h, 0, none⟩ ⟨g, (i + 1), none⟩ 1 1 lb cb hne 3 3 nc.toArray.size cur.toArray.size (by simp [World.shape?, hh]) (by simp [World.shape?, hg]) (by rw [List.size_toArray, hs]; omega) (frozen_of_row _ _ _ _ _ hh) (frozen_of_row _ _ _ _ _ hh)]
    rfl
  have hdl : (xs.drop (i)).length = (n - i) := by rw [List.length_drop, hxl]; try omega
  have hd1 : ∀ u ∈ xs.drop (i), u.oneCell' = true := fun u hu => hx1 u (List.mem_of_mem_drop hu)
  have hcell : ∀ j v, (xs.drop (i))[j]? = some v → w.cell? ⟨g, i + j, none⟩ = some v := fun j v hj => by
    have hj2 : j < (n - i) := by rw [← hdl]; exact (List.getElem?_eq_some_iff.1 hj).1
    rw [List.getElem?_drop, ← ht, List.getElem?_take, if_pos (by omega)] at hj
    rw [cell_of_row _ _ _ _ _ _ hg, ← hj, List.getElem?_toArray]
  have hfit1 : (i + 1) + (xs.drop (i)).length ≤ cur.length := by omega
  obtain ⟨c1, hc1⟩ : ∃ c1, c1 = spl cur ((i + 1)) (xs.drop (i)) := ⟨_, rfl⟩
  have hc1l : c1.length = cur.length := by rw [hc1]; exact spl_len hfit1
  have hcp1 : ∀ ty dc sc, (Builtin.copy_ #[29, 29] ty #[.slice (some ⟨g, (i + 1), none⟩) (n - i) dc, .slice (some ⟨g, i, none⟩) (n + 1 - i) sc]).run Try.prog w.drew = .ok (goInt (Nat.min (n + 1 - i) (n - i))) (w.drew.setRow g c1.toArray) := fun ty dc sc => by
    rw [hc1]
    refine copyI w.drew ty g ((i + 1)) (n - i) dc ⟨g, i, none⟩ (n + 1 - i) sc cur _ (xs.drop (i)) hg (by rw [hdl]; simp only [Nat.min_def]; split <;> omega) (fun j v hj => ?_) hfit1 hd1
    rw [Addr.add_lit]; exact hcell j v hj
  have hcp2 : ∀ W : World, W.heap = (w.drew.setRow g c1.toArray).heap → ∀ ty dc, (Builtin.copy_ #[29, 29] ty #[.slice (some ⟨g, i, none⟩) (n + 1 - i) dc, .slice (some ⟨h, 0, none⟩) 1 1]).run Try.prog W = .ok (goInt (Nat.min 1 (n + 1 - i))) (W.setRow g (spl c1 (i) nc).toArray) := fun W hW ty dc => by
    refine copyI W ty g (i) (n + 1 - i) dc ⟨h, 0, none⟩ 1 1 c1 3 _ (by rw [hW]; exact setRow_heap _ _ _ _ _ _ hg) (by rw [hnc]; simp only [Nat.min_def]; split <;> omega) (fun j v hj => ?_) (by rw [hnc]; omega) ho1
    have e : (⟨h, 0, none⟩ : Addr).add j = ⟨h, j, none⟩ := by unfold Addr.add; split <;> simp_all
    have hhW : W.heap[h]? = some (.cells nc.toArray 3 (0, 0)) := by rw [hW, setRow_other _ _ _ _ hne]; exact hh
    rw [e, cell_of_row _ _ _ _ _ _ hhW, ← hj, List.getElem?_toArray]
  have hfin : ∀ W : World, W.heap = (w.drew.setRow g c1.toArray).heap → W.os = w.os → W.tape = w.tape → W.output = w.output → (W.setRow g (spl c1 (i) nc).toArray).heap[g]? = some (.cells (spl c1 (i) nc).toArray 3 (0, 0)) ∧ w.grownBy (W.setRow g (spl c1 (i) nc).toArray) (some g) := fun W hW h1 h2 h3 => by
    refine ⟨setRow_heap _ _ c1.toArray _ _ _ (by rw [hW]; exact setRow_heap _ _ _ _ _ _ hg), h1, h2, h3, ?_, fun k hk hne' => ?_⟩
    · rw [show (W.setRow g _).heap.size = W.heap.size by simp, hW]; simp
    · have hkg : k ≠ g := fun e => hne' (by rw [e])
      rw [setRow_other _ _ _ _ hkg, hW, setRow_other _ _ _ _ hkg]
      rfl
  rw [← hc1]
  have hin : i ≤ n := by omega
  have hz2 : ¬ ((i : Int) = (n : Int)) := by omega
  have hw1 : IntKind.i64.wrap ((i : Int) + 1) = (i : Int) + 1 := by rw [IntKind.wrap_i64]; omega
  have hb1 : (0 : Int) ≤ (i : Int) + 1 := by omega
  have htn : ((i : Int) + 1).toNat = i + 1 := by omega
  have hb2 : ¬ (cap = i + 1) := by omega
  have hb3 : (i : Int) ≤ (n : Int) + 1 := by omega
  have hb4 : ¬ (cap = i) := by omega
  have hb5 : (i : Int) < (n : Int) := by omega
  have hb6 : (n : Int) + 1 ≤ (cap : Int) := by omega
  clear hdl hcell hfit1 hc1 hc1l hxl ht hs hg hh hnc ho1 hx1 hd1
  go_enter Try.func141, Try.ntmps141
  go_wp2_with (simp only [hov])
  go_region_law (refine step_copy_known rfl _ _ 29 rfl _ _ (by simp [Act.eval, Act.put]) (by simp [Act.eval, Act.put]) (hcp1 _ _ _) ?_)
  go_wp2_with (at_builtin; refine wpList_copy_known rfl _ _ 29 rfl _ _ rfl rfl (hcp2 _ rfl _ _) ?_)
  go_ret
  exact ⟨rfl, hfin _ rfl rfl rfl rfl⟩
def GrowIEnd (w:World) (n:Nat) (xs nc:List Value) (i:Nat) (e:Ending) (w':World):Prop :=
 ∃ (G:Nat) (C:List Value),e=.returned (.slice (some ⟨w.heap.size,0,none⟩) (n+1) G)∧n+1≤G∧G≤maxLen∧C.length=G∧C.take (i)=xs.take (i) ∧
  w'.heap[w.heap.size]?=some (.cells (spl (spl C (i) nc) ((i+1)) (xs.drop (i))).toArray 3 (0,0))∧Calm w w'
set_option maxHeartbeats 8000000 in
theorem insI_grow (g h i n cap : Nat) (xs cur nc : List Value) (w : World) (hxl : xs.length = n) (hi : i < n) (hn4 : n ≤ 400) (hnc : n ≤ cap) (hroom : cap < n + 1)
    (hg : w.heap[g]? = some (.cells cur.toArray 3 (0, 0))) (ht : cur.take (n) = xs) (hh : w.heap[h]? = some (.cells nc.toArray 3 (0, 0))) (hncl : nc.length = 1) (ho1 : ∀ u ∈ nc, u.oneCell' = true) (hx1 : ∀ u ∈ xs, u.oneCell' = true) :
    Calls Try.prog 141 #[.slice (some ⟨g, 0, none⟩) n cap, .int .i64 i, .slice (some ⟨h, 0, none⟩) 1 1] w (GrowIEnd w n xs nc i) := by
  obtain ⟨i0, hi0, hz0, hzs, hzb⟩ := info_parts infoInt
  have hgw : g < w.heap.size := (Array.getElem?_eq_some_iff.1 hg).1
  have hhw : h < w.heap.size := (Array.getElem?_eq_some_iff.1 hh).1
  have hcl : ∀ j v, xs[j]? = some v → w.cell? ⟨g, j, none⟩ = some v := fun j v hj => by
    have hj2 : j < n := by rw [← hxl]; exact (List.getElem?_eq_some_iff.1 hj).1
    rw [← ht, List.getElem?_take, if_pos hj2] at hj
    rw [cell_of_row _ _ _ _ _ _ hg, ← hj, List.getElem?_toArray]
  have hdl : (xs.drop (i)).length = (n - i) := by rw [List.length_drop, hxl]; try omega
  have hd1 : ∀ u ∈ xs.drop (i), u.oneCell' = true := fun u hu => hx1 u (List.mem_of_mem_drop hu)
  have htl : (xs.take (i)).length = i := by rw [List.length_take, hxl]; omega
  have hkk : (n : Int) + 1 - (i : Int) = ((n + 1 - i : Nat) : Int) := by omega
  have hik : i + (n + 1 - i) = n + 1 := by omega
  have hold : (Builtin.firstCells i0.size i (.slice (some ⟨g, 0, none⟩) i cap)).run Try.prog w.drew = .ok (xs.take (i)).toArray w.drew := by
    rw [hzs]
    refine run_firstCells_some w.drew 1 i ⟨g, 0, none⟩ i cap (xs.take (i)) (by rw [htl]; try omega) fun j v hj => ?_
    have e : (⟨g, 0, none⟩ : Addr).add j = ⟨g, j, none⟩ := by unfold Addr.add; split <;> simp_all
    rw [e]
    rw [List.getElem?_take] at hj
    split at hj
    · exact hcl j v hj
    · cases hj
  obtain ⟨G, hG⟩ : ∃ G, G = grownCap w (n + 1) cap 3 := ⟨_, rfl⟩
  obtain ⟨Z, hZ⟩ : ∃ Z, i0.zero = some Z ∧ Z.cells.size = 1 := ⟨_, hz0, by kernel_rfl⟩
  obtain ⟨hZ, hZs⟩ := hZ
  obtain ⟨C, hC⟩ : ∃ C : List Value, C = xs.take (i) ++ (Builtin.zeroCells Z.cells (n + 1 - i)).toList ++ (Builtin.zeroCells Z.cells (G - (n + 1))).toList := ⟨_, rfl⟩
  have hGn : n + 1 ≤ G := by rw [hG]; exact grownCap_ge w _ _ _
  have hGm : G ≤ maxLen := by rw [hG]; exact grownCap_le_maxLen w (n + 1) cap _ (by unfold maxLen; omega)
  have hCl : C.length = G := by
    rw [hC, List.length_append, List.length_append, htl, Array.length_toList, Array.length_toList, size_zeroCells, size_zeroCells, hZs]
    omega
  have hCt : C.take (i) = xs.take (i) := by rw [hC, List.append_assoc]; exact List.take_left' htl
  have hrz : ∀ ty, (Builtin.append_ #[29, 3] ty #[.slice (some ⟨g, 0, none⟩) i cap, .int .i64 ((n : Int) + 1 - (i : Int))]).run Try.prog w = .ok (.slice (some ⟨w.heap.size, 0, none⟩) (n + 1) G) (w.drew.alloc (.cells C.toArray 3)) := fun ty => by
    have h := Lib.run_append_grow_zeros w 29 3 ty 3 i0 _ .i64 .i64 Try.underlying29 Try.underlying3 hi0 hZ (some ⟨g, 0, none⟩) i cap (xs.take (i)) hold (n + 1 - i) (by omega) (by omega) (by omega) (by omega) (by rw [hzb]; omega) (by rw [hzb, hik]; exact growslice_fits hroom (by omega))
    rw [hik, ← hG] at h
    rw [hkk, h, hC]
    exact congrArg (fun x => Result.ok _ (w.drew.alloc (.cells x 3))) (Array.toList_inj.1 (by simp))
  obtain ⟨W1, hW1⟩ : ∃ W1, W1 = w.drew.alloc (.cells C.toArray 3) := ⟨_, rfl⟩
  have hHg : W1.heap[w.heap.size]? = some (.cells C.toArray 3 (0, 0)) := by rw [hW1]; exact heap_alloc_new w.drew _
  have hGg : W1.heap[g]? = some (.cells cur.toArray 3 (0, 0)) := by rw [hW1, Below.heap_alloc w.drew _ _ hgw]; exact hg
  have hHh : W1.heap[h]? = some (.cells nc.toArray 3 (0, 0)) := by rw [hW1, Below.heap_alloc w.drew _ _ hhw]; exact hh
  obtain ⟨c1, hc1⟩ : ∃ c1, c1 = spl C (i) nc := ⟨_, rfl⟩
  have hc1l : c1.length = C.length := by rw [hc1]; exact spl_len (by rw [hncl]; omega)
  have hcpA : ∀ W : World, W.heap = W1.heap → ∀ ty dc, (Builtin.copy_ #[29, 29] ty #[.slice (some ⟨w.heap.size, i, none⟩) (n + 1 - i) dc, .slice (some ⟨h, 0, none⟩) 1 1]).run Try.prog W = .ok (goInt (Nat.min 1 (n + 1 - i))) (W.setRow w.heap.size c1.toArray) := fun W hW ty dc => by
    rw [hc1]
    refine copyI W ty w.heap.size (i) (n + 1 - i) dc ⟨h, 0, none⟩ 1 1 C 3 _ (by rw [hW]; exact hHg) (by rw [hncl]; simp only [Nat.min_def]; split <;> omega) (fun j v hj => ?_) (by rw [hncl]; omega) ho1
    have e : (⟨h, 0, none⟩ : Addr).add j = ⟨h, j, none⟩ := by unfold Addr.add; split <;> simp_all
    rw [e, cell_of_row _ _ _ _ _ _ (by rw [hW]; exact hHh), ← hj, List.getElem?_toArray]
  have hcpB : ∀ W : World, W.heap = (W1.setRow w.heap.size c1.toArray).heap → ∀ ty dc sc, (Builtin.copy_ #[29, 29] ty #[.slice (some ⟨w.heap.size, (i + 1), none⟩) (n - i) dc, .slice (some ⟨g, i, none⟩) (n - i) sc]).run Try.prog W = .ok (goInt (Nat.min (n - i) (n - i))) (W.setRow w.heap.size (spl c1 ((i + 1)) (xs.drop (i))).toArray) := fun W hW ty dc sc => by
    refine copyI W ty w.heap.size ((i + 1)) (n - i) dc ⟨g, i, none⟩ (n - i) sc c1 3 _ (by rw [hW]; exact setRow_heap _ _ _ _ _ _ hHg) (by rw [hdl]; simp only [Nat.min_def]; split <;> omega) (fun j v hj => ?_) (by rw [hdl]; omega) hd1
    rw [Addr.add_lit, cell_of_row _ _ _ _ _ _ (show W.heap[g]? = _ by rw [hW, setRow_other _ _ _ _ (by omega)]; exact hGg)]
    rw [List.getElem?_drop, ← ht, List.getElem?_take] at hj
    split at hj
    · rw [← hj, List.getElem?_toArray]
    · cases hj
  have hfin : ∀ W : World, W.heap = (W1.setRow w.heap.size c1.toArray).heap → W.os = w.os → W.tape = w.tape → W.output = w.output → (W.setRow w.heap.size (spl c1 ((i + 1)) (xs.drop (i))).toArray).heap[w.heap.size]? = some (.cells (spl c1 ((i + 1)) (xs.drop (i))).toArray 3 (0, 0)) ∧ Calm w (W.setRow w.heap.size (spl c1 ((i + 1)) (xs.drop (i))).toArray) := fun W hW h1 h2 h3 => by
    refine ⟨setRow_heap _ _ c1.toArray _ _ _ (by rw [hW]; exact setRow_heap _ _ _ _ _ _ hHg), h1, h2, h3, ?_, fun k hk => ?_⟩
    · rw [show (W.setRow w.heap.size _).heap.size = W.heap.size by simp, hW, hW1]; simp
    · rw [setRow_other _ _ _ _ (by omega), hW, setRow_other _ _ _ _ (by omega), hW1]
      exact Below.heap_alloc w.drew _ _ hk
  have hGi : ¬ (G = i) := by omega
  have hGim : ¬ (G = i + 1) := by omega
  have hci : ¬ (cap = i) := by omega
  have hG63 : G ≤ 9223372036854775807 := by unfold maxLen at hGm; omega
  have HEND : ∀ w', w'.heap[w.heap.size]? = some (.cells (spl c1 ((i + 1)) (xs.drop (i))).toArray 3 (0, 0)) → Calm w w' → GrowIEnd w n xs nc i (.returned (.slice (some ⟨w.heap.size, 0, none⟩) (n + 1) G)) w' := fun w' h1 h2 =>
    ⟨G, C, rfl, by omega, hGm, hCl, hCt, by rw [hc1] at h1; exact h1, h2⟩
  have hz2 : ¬ ((i : Int) = (n : Int)) := by omega
  have hz3 : (cap : Int) < (n : Int) + 1 := by omega
  have hw1 : IntKind.i64.wrap ((i : Int) + 1) = (i : Int) + 1 := by rw [IntKind.wrap_i64]; omega
  have hb1 : (0 : Int) ≤ (i : Int) + 1 := by omega
  have hin : i ≤ n := by omega
  have htn : ((i : Int) + 1).toNat = i + 1 := by omega
  have hb3 : (i : Int) ≤ (n : Int) := by omega
  subst hW1
  clear hkk hik hold hG hC hGn hGm hCl hCt hc1 hc1l hcl hdl htl hxl ht hg hh hHg hGg hHh hi0 hz0 hzs hzb hgw hhw hZ hZs hncl ho1 hx1 hd1
  go_enter Try.func141, Try.ntmps141
  go_wp2_with (first
    | (at_builtin; refine Lib.wpList_append_run _ rfl _ _ _ _ rfl _ _ rfl rfl _ _ (hrz _) ?_)
    | (refine wpList_copy_known rfl _ _ 29 rfl _ _ rfl rfl (v' := goInt (Nat.min 1 (n + 1 - i))) (w' := ((w.alloc (.cells C.toArray 3)).drew).setRow w.heap.size c1.toArray) (by exact hcpA ((w.alloc (.cells C.toArray 3)).drew) rfl _ _) ?_))
  go_region_law (refine step_copy_known rfl _ _ 29 rfl (.slice (some ⟨w.heap.size, (i + 1), none⟩) (n - i) (G - (i + 1))) (.slice (some ⟨g, i, none⟩) (n - i) (cap - i)) (by simp [Act.eval, Act.put]) (by simp [Act.eval, Act.put]) (v' := goInt (Nat.min (n - i) (n - i))) (w' := ((((w.alloc (.cells C.toArray 3)).drew).setRow w.heap.size c1.toArray).drew).setRow w.heap.size (spl c1 ((i + 1)) (xs.drop (i))).toArray) (by exact hcpB ((((w.alloc (.cells C.toArray 3)).drew).setRow w.heap.size c1.toArray).drew) rfl _ _ _) ?_)
  go_wp2_with fail
  go_ret
  exact HEND _ (hfin ((((w.alloc (.cells C.toArray 3)).drew).setRow w.heap.size c1.toArray).drew) rfl rfl rfl rfl).1 (hfin ((((w.alloc (.cells C.toArray 3)).drew).setRow w.heap.size c1.toArray).drew) rfl rfl rfl rfl).2
set_option maxHeartbeats 8000000 in
theorem insI_own (base h i n : Nat) (v : Value) (xs nc : List Value) (w : World) (hi : i ≤ n) (hn4 : n ≤ 400) (ho : w.ownsRow base 3 1 v n xs) (hb : base ≤ w.heap.size)
    (hh : w.heap[h]? = some (.cells nc.toArray 3 (0, 0))) (hnc : nc.length = 1) (ho1 : ∀ u ∈ nc, u.oneCell' = true) (hx1 : ∀ u ∈ xs, u.oneCell' = true) (hne : v.ownBlock ≠ some h) :
    Calls Try.prog 141 #[v, .int .i64 i, .slice (some ⟨h, 0, none⟩) 1 1] w (RowEnd base 3 1 w v (n + 1) (insC xs (i) nc)) := by
  have hxl := ho.1
  have hend : i = n → insC xs (i) nc = xs ++ nc := fun h => by unfold insC; rw [h, List.take_of_length_le (by omega), List.drop_of_length_le (by omega), List.append_nil]
  have hnews : ∀ (j : Nat) u, nc[j]? = some u → w.cell? ((⟨h, 0, none⟩ : Addr).add j) = some u := fun j u hj => by
    have : (⟨h, 0, none⟩ : Addr).add j = ⟨h, j, none⟩ := by unfold Addr.add; split <;> simp_all
    rw [this, cell_of_row w h j _ _ _ hh, ← hj, List.getElem?_toArray]
  obtain ⟨i0, hi0, hz0, hz1, hz2⟩ := info_parts infoInt
  have hnl : nc.length = 1 * 1 := by omega
  have HN := Lib.hid hnews
  have HO := Lib.hid ho
  have HO1 := Lib.hid ho1
  have HNL := Lib.hid hnl
  have HI0 : Hid (Try.prog.info? 3 = some i0) := hi0
  have HZ0 := Lib.hid hz0
  have HZ1 := Lib.hid hz1
  have HZ2 := Lib.hid hz2
  clear hnews hnl hi0 hz0 hz1 hz2
  rcases id ho.2 with ⟨rfl, hl0⟩ | ⟨g, cap, cur, rfl, hbg, hg, hnc', hcm, hcs, ht⟩
  · have h0 : i = n := by omega
    rw [hend h0]
    have h1 : i = 0 := by omega
    subst h1
    have hll : n + 1 ≤ maxLen := by unfold maxLen; omega
    have hlb : (n + 1) * 8 ≤ 140737488355328 := by omega
    clear ho hend hi h0 hxl hl0
    go_enter Try.func141, Try.ntmps141
    go_wp2_with (at_builtin; refine wpList_append_own_at _ rfl _ _ 29 rfl base 3 i0 _ 1 8 Try.underlying29 HI0.out HZ0.out HZ1.out HZ2.out rfl (by decide) _ _ _ rfl HO.out ⟨h, 0, none⟩ 1 1 nc rfl HNL.out HN.out HO1.out hll hlb hb ?_; intro v' w9 r1 r2 _ r4)
    have HE : Hid (RowEnd base 3 1 w (.slice none 0 0) (n + 1) (xs ++ nc) (.returned v') w9) := show RowEnd _ _ _ _ _ _ _ _ _ from ⟨_, rfl, r1, r2, r4.imp id fun h => ⟨_, h, Nat.le_refl _⟩⟩
    clear r1 r2 r4
    go_wp2_with fail
    go_ret
    exact HE.out
  · have hcs' : cur.toList.length = cap * 1 := by simpa using hcs
    have hg' : w.heap[g]? = some (.cells cur.toList.toArray 3 (0, 0)) := by simpa using hg
    have hc63 : cap ≤ 9223372036854775807 := by unfold maxLen at hcm; exact hcm
    by_cases hin : i = n
    · rw [hend hin]
      have hll : n + 1 ≤ maxLen := by unfold maxLen; omega
      have hlb : (n + 1) * 8 ≤ 140737488355328 := by omega
      clear ho hend hi hcs' hg' ht hcs hxl
      subst hin
      by_cases hci : cap = i
      all_goals
        first | (have hci' := hci.symm; subst hci') | skip
        go_enter Try.func141, Try.ntmps141
        go_wp2_with (at_builtin; refine wpList_append_own_at _ rfl _ _ 29 rfl base 3 i0 _ 1 8 Try.underlying29 HI0.out HZ0.out HZ1.out HZ2.out rfl (by decide) _ _ _ rfl HO.out ⟨h, 0, none⟩ 1 1 nc rfl HNL.out HN.out HO1.out hll hlb hb ?_; intro v' w9 r1 r2 _ r4)
        have HE : Hid (RowEnd base 3 1 w (.slice (some ⟨g, 0, none⟩) i _) (i + 1) (xs ++ nc) (.returned v') w9) := show RowEnd _ _ _ _ _ _ _ _ _ from ⟨_, rfl, r1, r2, r4.imp id fun h => ⟨_, h, Nat.le_refl _⟩⟩
        clear r1 r2 r4
        go_wp2_with fail
        go_ret
        exact HE.out
    · have hfit := fun p : Nat => hn4
      by_cases hroom : n + 1 ≤ cap
      · refine (insI_shift g h i n cap xs cur.toList nc w (by omega) (by omega) hn4 hroom hc63 hg' (by omega) (by simpa using ht) hh hnc ho1 hx1 (fun e => hne (by simp [Value.ownBlock, e]))).mono fun e w' ⟨he, hr, hgr⟩ => ⟨_, he, ?_, hgr, .inl rfl⟩
        obtain ⟨q1, q2⟩ := shift_row (cur := cur.toList) (xs := xs) (nc := nc) (p := i) (q := n) (N := 1) (by omega) (by simpa using ht) (by omega) hnc (by omega)
        rw [show i + 1 = (i + 1) by omega] at q1 q2
        exact ⟨by rw [insC_len (by omega)]; omega, .inr ⟨g, cap, _, rfl, hbg, hr, by omega, hcm, by simp only [List.size_toArray]; omega, by simp only [List.toList_toArray]; rw [show (n + 1) * 1 = n + 1 by omega]; exact q1⟩⟩
      · refine (insI_grow g h i n cap xs cur.toList nc w (by omega) (by omega) hn4 hnc' (by omega) hg' (by simpa using ht) hh hnc ho1 hx1).mono fun e w' ⟨G, C, he, h1, h2, h3, h4, hr, hc⟩ => ⟨_, he, ?_, hc.grownBy _, .inr ⟨_, rfl, Nat.le_refl _⟩⟩
        obtain ⟨q1, q2⟩ := fresh_row (cur := C) (xs := xs) (nc := nc) (p := i) (q := n) (N := 1) (by omega) h4 (by omega) hnc (by omega)
        rw [show i + 1 = (i + 1) by omega] at q1 q2
        exact ⟨by rw [insC_len (by omega)]; omega, .inr ⟨_, G, _, rfl, hb, hr, by omega, h2, by simp only [List.size_toArray]; omega, by simp only [List.toList_toArray]; rw [show (n + 1) * 1 = n + 1 by omega]; exact q1⟩⟩
open Go.RowKit
theorem sizeS:∀ w,(Go.sizeOf 62).run Try.prog w=.ok 4 w:=fun _=>by kernel_rfl
theorem infosS:(Try.prog.info? 62).map (·.size)=some 4:=by kernel_rfl
theorem copyS (w : World) (ty : TypeId) (g o dLen dCap : Nat) (a : Addr) (sLen sCap : Nat) (cur : List Value) (t : TypeId) (cs : List Value)
    (hg : w.heap[g]? = some (.cells cur.toArray t (0, 0))) (hn : cs.length = Nat.min sLen dLen * 4)
    (hsrc : ∀ j v, cs[j]? = some v → w.cell? (a.add j) = some v) (hfit : o + cs.length ≤ cur.length) (h1 : ∀ v ∈ cs, v.oneCell' = true) :
    (Builtin.copy_ #[30, 30] ty #[.slice (some ⟨g, o, none⟩) dLen dCap, .slice (some a) sLen sCap]).run Try.prog w =
      .ok (goInt (Nat.min sLen dLen)) (w.setRow g (spl cur o cs).toArray) := by
  have hl := run_loadCells_list (P := Try.prog) w a cs hsrc
  have hst := run_storeCells_at Try.prog g o t cs 0 cur.toArray w hg (by simpa using hfit) h1
  have hs := infosS
  cases hq : Try.prog.info? 62 with
  | none => simp [hq] at hs
  | some i =>
    have hi : i.size = 4 := by simpa [hq] using hs
    have hn' : cs.length = Nat.min sLen dLen * i.size := by rw [hi]; exact hn
    rw [hi] at hn'
    simp [Builtin.copy_, run_underlying Try.underlying30, Builtin.lenOf, Builtin.firstCells, typeInfo, hq, hi, ← hn, hl, hst, spl]
set_option maxHeartbeats 8000000 in
theorem insS_shift (g h i n cap : Nat) (xs cur nc : List Value) (w : World) (hxl : xs.length = n * 4) (hi : i < n) (hn4 : n ≤ 400) (hroom : n + 1 ≤ cap) (hc63 : cap ≤ 9223372036854775807)
    (hg : w.heap[g]? = some (.cells cur.toArray 62 (0, 0))) (hs : cur.length = cap * 4) (ht : cur.take (n * 4) = xs) (hh : w.heap[h]? = some (.cells nc.toArray 62 (0, 0))) (hnc : nc.length = 4) (ho1 : ∀ u ∈ nc, u.oneCell' = true) (hx1 : ∀ u ∈ xs, u.oneCell' = true) (hne : h ≠ g) :
    Calls Try.prog 147 #[.slice (some ⟨g, 0, none⟩) n cap, .int .i64 i, .slice (some ⟨h, 0, none⟩) 1 1] w fun e w' => e = .returned (.slice (some ⟨g, 0, none⟩) (n + 1) cap) ∧
      w'.heap[g]? = some (.cells (spl (spl cur ((i + 1) * 4) (xs.drop (i * 4))) (i * 4) nc).toArray 62 (0, 0)) ∧ w.grownBy w' (some g) := by
  have hov : ∀ lb cb, (callFunc 153 #[.slice (some ⟨h, 0, none⟩) 1 1, .slice (some ⟨g, (i + 1) * 4, none⟩) lb cb]).run Try.prog w = .ok (.value (.bool false)) w := fun lb cb => by
    rw [run_callFunc_extern Try.func153 (by kernel_rfl) (by kernel_rfl) (by kernel_rfl) (e := Extern.SlicesOverlaps.overlaps #[30, 30] #[4]) (by kernel_rfl),
      Lib.run_overlaps_apart w 30 4 62 Try.underlying30 4 sizeS ⟨h, 0, none⟩ ⟨g, (i + 1) * 4, none⟩ 1 1 lb cb hne 62 62 nc.toArray.size cur.toArray.size (by simp [World.shape?, hh]) (by simp [World.shape?, hg]) (by rw [List.size_toArray, hs]; omega) (frozen_of_row _ _ _ _ _ hh) (frozen_of_row _ _ _ _ _ hh)]
    rfl
  have hdl : (xs.drop (i * 4)).length = (n - i) * 4 := by rw [List.length_drop, hxl]; try omega
  have hd1 : ∀ u ∈ xs.drop (i * 4), u.oneCell' = true := fun u hu => hx1 u (List.mem_of_mem_drop hu)
  have hcell : ∀ j v, (xs.drop (i * 4))[j]? = some v → w.cell? ⟨g, i * 4 + j, none⟩ = some v := fun j v hj => by
    have hj2 : j < (n - i) * 4 := by rw [← hdl]; exact (List.getElem?_eq_some_iff.1 hj).1
    rw [List.getElem?_drop, ← ht, List.getElem?_take, if_pos (by omega)] at hj
    rw [cell_of_row _ _ _ _ _ _ hg, ← hj, List.getElem?_toArray]
  have hfit1 : (i + 1) * 4 + (xs.drop (i * 4)).length ≤ cur.length := by omega
  obtain ⟨c1, hc1⟩ : ∃ c1, c1 = spl cur ((i + 1) * 4) (xs.drop (i * 4)) := ⟨_, rfl⟩
  have hc1l : c1.length = cur.length := by rw [hc1]; exact spl_len hfit1
  have hcp1 : ∀ ty dc sc, (Builtin.copy_ #[30, 30] ty #[.slice (some ⟨g, (i + 1) * 4, none⟩) (n - i) dc, .slice (some ⟨g, i * 4, none⟩) (n + 1 - i) sc]).run Try.prog w.drew = .ok (goInt (Nat.min (n + 1 - i) (n - i))) (w.drew.setRow g c1.toArray) := fun ty dc sc => by
    rw [hc1]
    refine copyS w.drew ty g ((i + 1) * 4) (n - i) dc ⟨g, i * 4, none⟩ (n + 1 - i) sc cur _ (xs.drop (i * 4)) hg (by rw [hdl]; simp only [Nat.min_def]; split <;> omega) (fun j v hj => ?_) hfit1 hd1
    rw [Addr.add_lit]; exact hcell j v hj
  have hcp2 : ∀ W : World, W.heap = (w.drew.setRow g c1.toArray).heap → ∀ ty dc, (Builtin.copy_ #[30, 30] ty #[.slice (some ⟨g, i * 4, none⟩) (n + 1 - i) dc, .slice (some ⟨h, 0, none⟩) 1 1]).run Try.prog W = .ok (goInt (Nat.min 1 (n + 1 - i))) (W.setRow g (spl c1 (i * 4) nc).toArray) := fun W hW ty dc => by
    refine copyS W ty g (i * 4) (n + 1 - i) dc ⟨h, 0, none⟩ 1 1 c1 62 _ (by rw [hW]; exact setRow_heap _ _ _ _ _ _ hg) (by rw [hnc]; simp only [Nat.min_def]; split <;> omega) (fun j v hj => ?_) (by rw [hnc]; omega) ho1
    have e : (⟨h, 0, none⟩ : Addr).add j = ⟨h, j, none⟩ := by unfold Addr.add; split <;> simp_all
    have hhW : W.heap[h]? = some (.cells nc.toArray 62 (0, 0)) := by rw [hW, setRow_other _ _ _ _ hne]; exact hh
    rw [e, cell_of_row _ _ _ _ _ _ hhW, ← hj, List.getElem?_toArray]
  have hfin : ∀ W : World, W.heap = (w.drew.setRow g c1.toArray).heap → W.os = w.os → W.tape = w.tape → W.output = w.output → (W.setRow g (spl c1 (i * 4) nc).toArray).heap[g]? = some (.cells (spl c1 (i * 4) nc).toArray 62 (0, 0)) ∧ w.grownBy (W.setRow g (spl c1 (i * 4) nc).toArray) (some g) := fun W hW h1 h2 h3 => by
    refine ⟨setRow_heap _ _ c1.toArray _ _ _ (by rw [hW]; exact setRow_heap _ _ _ _ _ _ hg), h1, h2, h3, ?_, fun k hk hne' => ?_⟩
    · rw [show (W.setRow g _).heap.size = W.heap.size by simp, hW]; simp
    · have hkg : k ≠ g := fun e => hne' (by rw [e])
      rw [setRow_other _ _ _ _ hkg, hW, setRow_other _ _ _ _ hkg]
      rfl
  rw [← hc1]
  have hin : i ≤ n := by omega
  have hz2 : ¬ ((i : Int) = (n : Int)) := by omega
  have hw1 : IntKind.i64.wrap ((i : Int) + 1) = (i : Int) + 1 := by rw [IntKind.wrap_i64]; omega
  have hb1 : (0 : Int) ≤ (i : Int) + 1 := by omega
  have htn : ((i : Int) + 1).toNat = i + 1 := by omega
  have hb2 : ¬ (cap = i + 1) := by omega
  have hb3 : (i : Int) ≤ (n : Int) + 1 := by omega
  have hb4 : ¬ (cap = i) := by omega
  have hb5 : (i : Int) < (n : Int) := by omega
  have hb6 : (n : Int) + 1 ≤ (cap : Int) := by omega
  clear hdl hcell hfit1 hc1 hc1l hxl ht hs hg hh hnc ho1 hx1 hd1
  go_enter Try.func147, Try.ntmps147
  go_wp2_with (simp only [hov])
  go_region_law (refine step_copy_known rfl _ _ 30 rfl _ _ (by simp [Act.eval, Act.put]) (by simp [Act.eval, Act.put]) (hcp1 _ _ _) ?_)
  go_wp2_with (at_builtin; refine wpList_copy_known rfl _ _ 30 rfl _ _ rfl rfl (hcp2 _ rfl _ _) ?_)
  go_ret
  exact ⟨rfl, hfin _ rfl rfl rfl rfl⟩
def GrowSEnd (w:World) (n:Nat) (xs nc:List Value) (i:Nat) (e:Ending) (w':World):Prop :=
 ∃ (G:Nat) (C:List Value),e=.returned (.slice (some ⟨w.heap.size,0,none⟩) (n+1) G)∧n+1≤G∧G≤maxLen∧C.length=G * 4∧C.take (i * 4)=xs.take (i * 4) ∧
  w'.heap[w.heap.size]?=some (.cells (spl (spl C (i * 4) nc) ((i+1) * 4) (xs.drop (i * 4))).toArray 62 (0,0))∧Calm w w'
set_option maxHeartbeats 8000000 in
theorem insS_grow (g h i n cap : Nat) (xs cur nc : List Value) (w : World) (hxl : xs.length = n * 4) (hi : i < n) (hn4 : n ≤ 400) (hnc : n ≤ cap) (hroom : cap < n + 1)
    (hg : w.heap[g]? = some (.cells cur.toArray 62 (0, 0))) (ht : cur.take (n * 4) = xs) (hh : w.heap[h]? = some (.cells nc.toArray 62 (0, 0))) (hncl : nc.length = 4) (ho1 : ∀ u ∈ nc, u.oneCell' = true) (hx1 : ∀ u ∈ xs, u.oneCell' = true) :
    Calls Try.prog 147 #[.slice (some ⟨g, 0, none⟩) n cap, .int .i64 i, .slice (some ⟨h, 0, none⟩) 1 1] w (GrowSEnd w n xs nc i) := by
  obtain ⟨i0, hi0, hz0, hzs, hzb⟩ := info_parts infoSp
  have hgw : g < w.heap.size := (Array.getElem?_eq_some_iff.1 hg).1
  have hhw : h < w.heap.size := (Array.getElem?_eq_some_iff.1 hh).1
  have hcl : ∀ j v, xs[j]? = some v → w.cell? ⟨g, j, none⟩ = some v := fun j v hj => by
    have hj2 : j < n * 4 := by rw [← hxl]; exact (List.getElem?_eq_some_iff.1 hj).1
    rw [← ht, List.getElem?_take, if_pos hj2] at hj
    rw [cell_of_row _ _ _ _ _ _ hg, ← hj, List.getElem?_toArray]
  have hdl : (xs.drop (i * 4)).length = (n - i) * 4 := by rw [List.length_drop, hxl]; try omega
  have hd1 : ∀ u ∈ xs.drop (i * 4), u.oneCell' = true := fun u hu => hx1 u (List.mem_of_mem_drop hu)
  have htl : (xs.take (i * 4)).length = i * 4 := by rw [List.length_take, hxl]; omega
  have hkk : (n : Int) + 1 - (i : Int) = ((n + 1 - i : Nat) : Int) := by omega
  have hik : i + (n + 1 - i) = n + 1 := by omega
  have hold : (Builtin.firstCells i0.size i (.slice (some ⟨g, 0, none⟩) i cap)).run Try.prog w.drew = .ok (xs.take (i * 4)).toArray w.drew := by
    rw [hzs]
    refine run_firstCells_some w.drew 4 i ⟨g, 0, none⟩ i cap (xs.take (i * 4)) (by rw [htl]; try omega) fun j v hj => ?_
    have e : (⟨g, 0, none⟩ : Addr).add j = ⟨g, j, none⟩ := by unfold Addr.add; split <;> simp_all
    rw [e]
    rw [List.getElem?_take] at hj
    split at hj
    · exact hcl j v hj
    · cases hj
  obtain ⟨G, hG⟩ : ∃ G, G = grownCap w (n + 1) cap 62 := ⟨_, rfl⟩
  obtain ⟨Z, hZ⟩ : ∃ Z, i0.zero = some Z ∧ Z.cells.size = 4 := ⟨_, hz0, by kernel_rfl⟩
  obtain ⟨hZ, hZs⟩ := hZ
  obtain ⟨C, hC⟩ : ∃ C : List Value, C = xs.take (i * 4) ++ (Builtin.zeroCells Z.cells (n + 1 - i)).toList ++ (Builtin.zeroCells Z.cells (G - (n + 1))).toList := ⟨_, rfl⟩
  have hGn : n + 1 ≤ G := by rw [hG]; exact grownCap_ge w _ _ _
  have hGm : G ≤ maxLen := by rw [hG]; exact grownCap_le_maxLen w (n + 1) cap _ (by unfold maxLen; omega)
  have hCl : C.length = G * 4 := by
    rw [hC, List.length_append, List.length_append, htl, Array.length_toList, Array.length_toList, size_zeroCells, size_zeroCells, hZs]
    omega
  have hCt : C.take (i * 4) = xs.take (i * 4) := by rw [hC, List.append_assoc]; exact List.take_left' htl
  have hrz : ∀ ty, (Builtin.append_ #[30, 3] ty #[.slice (some ⟨g, 0, none⟩) i cap, .int .i64 ((n : Int) + 1 - (i : Int))]).run Try.prog w = .ok (.slice (some ⟨w.heap.size, 0, none⟩) (n + 1) G) (w.drew.alloc (.cells C.toArray 62)) := fun ty => by
    have h := Lib.run_append_grow_zeros w 30 3 ty 62 i0 _ .i64 .i64 Try.underlying30 Try.underlying3 hi0 hZ (some ⟨g, 0, none⟩) i cap (xs.take (i * 4)) hold (n + 1 - i) (by omega) (by omega) (by omega) (by omega) (by rw [hzb]; omega) (by rw [hzb, hik]; exact growslice_fits hroom (by omega))
    rw [hik, ← hG] at h
    rw [hkk, h, hC]
    exact congrArg (fun x => Result.ok _ (w.drew.alloc (.cells x 62))) (Array.toList_inj.1 (by simp))
  obtain ⟨W1, hW1⟩ : ∃ W1, W1 = w.drew.alloc (.cells C.toArray 62) := ⟨_, rfl⟩
  have hHg : W1.heap[w.heap.size]? = some (.cells C.toArray 62 (0, 0)) := by rw [hW1]; exact heap_alloc_new w.drew _
  have hGg : W1.heap[g]? = some (.cells cur.toArray 62 (0, 0)) := by rw [hW1, Below.heap_alloc w.drew _ _ hgw]; exact hg
  have hHh : W1.heap[h]? = some (.cells nc.toArray 62 (0, 0)) := by rw [hW1, Below.heap_alloc w.drew _ _ hhw]; exact hh
  obtain ⟨c1, hc1⟩ : ∃ c1, c1 = spl C (i * 4) nc := ⟨_, rfl⟩
  have hc1l : c1.length = C.length := by rw [hc1]; exact spl_len (by rw [hncl]; omega)
  have hcpA : ∀ W : World, W.heap = W1.heap → ∀ ty dc, (Builtin.copy_ #[30, 30] ty #[.slice (some ⟨w.heap.size, i * 4, none⟩) (n + 1 - i) dc, .slice (some ⟨h, 0, none⟩) 1 1]).run Try.prog W = .ok (goInt (Nat.min 1 (n + 1 - i))) (W.setRow w.heap.size c1.toArray) := fun W hW ty dc => by
    rw [hc1]
    refine copyS W ty w.heap.size (i * 4) (n + 1 - i) dc ⟨h, 0, none⟩ 1 1 C 62 _ (by rw [hW]; exact hHg) (by rw [hncl]; simp only [Nat.min_def]; split <;> omega) (fun j v hj => ?_) (by rw [hncl]; omega) ho1
    have e : (⟨h, 0, none⟩ : Addr).add j = ⟨h, j, none⟩ := by unfold Addr.add; split <;> simp_all
    rw [e, cell_of_row _ _ _ _ _ _ (by rw [hW]; exact hHh), ← hj, List.getElem?_toArray]
  have hcpB : ∀ W : World, W.heap = (W1.setRow w.heap.size c1.toArray).heap → ∀ ty dc sc, (Builtin.copy_ #[30, 30] ty #[.slice (some ⟨w.heap.size, (i + 1) * 4, none⟩) (n - i) dc, .slice (some ⟨g, i * 4, none⟩) (n - i) sc]).run Try.prog W = .ok (goInt (Nat.min (n - i) (n - i))) (W.setRow w.heap.size (spl c1 ((i + 1) * 4) (xs.drop (i * 4))).toArray) := fun W hW ty dc sc => by
    refine copyS W ty w.heap.size ((i + 1) * 4) (n - i) dc ⟨g, i * 4, none⟩ (n - i) sc c1 62 _ (by rw [hW]; exact setRow_heap _ _ _ _ _ _ hHg) (by rw [hdl]; simp only [Nat.min_def]; split <;> omega) (fun j v hj => ?_) (by rw [hdl]; omega) hd1
    rw [Addr.add_lit, cell_of_row _ _ _ _ _ _ (show W.heap[g]? = _ by rw [hW, setRow_other _ _ _ _ (by omega)]; exact hGg)]
    rw [List.getElem?_drop, ← ht, List.getElem?_take] at hj
    split at hj
    · rw [← hj, List.getElem?_toArray]
    · cases hj
  have hfin : ∀ W : World, W.heap = (W1.setRow w.heap.size c1.toArray).heap → W.os = w.os → W.tape = w.tape → W.output = w.output → (W.setRow w.heap.size (spl c1 ((i + 1) * 4) (xs.drop (i * 4))).toArray).heap[w.heap.size]? = some (.cells (spl c1 ((i + 1) * 4) (xs.drop (i * 4))).toArray 62 (0, 0)) ∧ Calm w (W.setRow w.heap.size (spl c1 ((i + 1) * 4) (xs.drop (i * 4))).toArray) := fun W hW h1 h2 h3 => by
    refine ⟨setRow_heap _ _ c1.toArray _ _ _ (by rw [hW]; exact setRow_heap _ _ _ _ _ _ hHg), h1, h2, h3, ?_, fun k hk => ?_⟩
    · rw [show (W.setRow w.heap.size _).heap.size = W.heap.size by simp, hW, hW1]; simp
    · rw [setRow_other _ _ _ _ (by omega), hW, setRow_other _ _ _ _ (by omega), hW1]
      exact Below.heap_alloc w.drew _ _ hk
  have hGi : ¬ (G = i) := by omega
  have hGim : ¬ (G = i + 1) := by omega
  have hci : ¬ (cap = i) := by omega
  have hG63 : G ≤ 9223372036854775807 := by unfold maxLen at hGm; omega
  have HEND : ∀ w', w'.heap[w.heap.size]? = some (.cells (spl c1 ((i + 1) * 4) (xs.drop (i * 4))).toArray 62 (0, 0)) → Calm w w' → GrowSEnd w n xs nc i (.returned (.slice (some ⟨w.heap.size, 0, none⟩) (n + 1) G)) w' := fun w' h1 h2 =>
    ⟨G, C, rfl, by omega, hGm, hCl, hCt, by rw [hc1] at h1; exact h1, h2⟩
  have hz2 : ¬ ((i : Int) = (n : Int)) := by omega
  have hz3 : (cap : Int) < (n : Int) + 1 := by omega
  have hw1 : IntKind.i64.wrap ((i : Int) + 1) = (i : Int) + 1 := by rw [IntKind.wrap_i64]; omega
  have hb1 : (0 : Int) ≤ (i : Int) + 1 := by omega
  have hin : i ≤ n := by omega
  have htn : ((i : Int) + 1).toNat = i + 1 := by omega
  have hb3 : (i : Int) ≤ (n : Int) := by omega
  subst hW1
  clear hkk hik hold hG hC hGn hGm hCl hCt hc1 hc1l hcl hdl htl hxl ht hg hh hHg hGg hHh hi0 hz0 hzs hzb hgw hhw hZ hZs hncl ho1 hx1 hd1
  go_enter Try.func147, Try.ntmps147
  go_wp2_with (first
    | (at_builtin; refine Lib.wpList_append_run _ rfl _ _ _ _ rfl _ _ rfl rfl _ _ (hrz _) ?_)
    | (refine wpList_copy_known rfl _ _ 30 rfl _ _ rfl rfl (v' := goInt (Nat.min 1 (n + 1 - i))) (w' := ((w.alloc (.cells C.toArray 62)).drew).setRow w.heap.size c1.toArray) (by exact hcpA ((w.alloc (.cells C.toArray 62)).drew) rfl _ _) ?_))
  go_region_law (refine step_copy_known rfl _ _ 30 rfl (.slice (some ⟨w.heap.size, (i + 1) * 4, none⟩) (n - i) (G - (i + 1))) (.slice (some ⟨g, i * 4, none⟩) (n - i) (cap - i)) (by simp [Act.eval, Act.put]) (by simp [Act.eval, Act.put]) (v' := goInt (Nat.min (n - i) (n - i))) (w' := ((((w.alloc (.cells C.toArray 62)).drew).setRow w.heap.size c1.toArray).drew).setRow w.heap.size (spl c1 ((i + 1) * 4) (xs.drop (i * 4))).toArray) (by exact hcpB ((((w.alloc (.cells C.toArray 62)).drew).setRow w.heap.size c1.toArray).drew) rfl _ _ _) ?_)
  go_wp2_with fail
  go_ret
  exact HEND _ (hfin ((((w.alloc (.cells C.toArray 62)).drew).setRow w.heap.size c1.toArray).drew) rfl rfl rfl rfl).1 (hfin ((((w.alloc (.cells C.toArray 62)).drew).setRow w.heap.size c1.toArray).drew) rfl rfl rfl rfl).2
set_option maxHeartbeats 8000000 in
theorem insS_own (base h i n : Nat) (v : Value) (xs nc : List Value) (w : World) (hi : i ≤ n) (hn4 : n ≤ 400) (ho : w.ownsRow base 62 4 v n xs) (hb : base ≤ w.heap.size)
    (hh : w.heap[h]? = some (.cells nc.toArray 62 (0, 0))) (hnc : nc.length = 4) (ho1 : ∀ u ∈ nc, u.oneCell' = true) (hx1 : ∀ u ∈ xs, u.oneCell' = true) (hne : v.ownBlock ≠ some h) :
    Calls Try.prog 147 #[v, .int .i64 i, .slice (some ⟨h, 0, none⟩) 1 1] w (RowEnd base 62 4 w v (n + 1) (insC xs (i * 4) nc)) := by
  have hxl := ho.1
  have hend : i = n → insC xs (i * 4) nc = xs ++ nc := fun h => by unfold insC; rw [h, List.take_of_length_le (by omega), List.drop_of_length_le (by omega), List.append_nil]
  have hnews : ∀ (j : Nat) u, nc[j]? = some u → w.cell? ((⟨h, 0, none⟩ : Addr).add j) = some u := fun j u hj => by
    have : (⟨h, 0, none⟩ : Addr).add j = ⟨h, j, none⟩ := by unfold Addr.add; split <;> simp_all
    rw [this, cell_of_row w h j _ _ _ hh, ← hj, List.getElem?_toArray]
  obtain ⟨i0, hi0, hz0, hz1, hz2⟩ := info_parts infoSp
  have hnl : nc.length = 1 * 4 := by omega
  have HN := Lib.hid hnews
  have HO := Lib.hid ho
  have HO1 := Lib.hid ho1
  have HNL := Lib.hid hnl
  have HI0 : Hid (Try.prog.info? 62 = some i0) := hi0
  have HZ0 := Lib.hid hz0
  have HZ1 := Lib.hid hz1
  have HZ2 := Lib.hid hz2
  clear hnews hnl hi0 hz0 hz1 hz2
  rcases id ho.2 with ⟨rfl, hl0⟩ | ⟨g, cap, cur, rfl, hbg, hg, hnc', hcm, hcs, ht⟩
  · have h0 : i = n := by omega
    rw [hend h0]
    have h1 : i = 0 := by omega
    subst h1
    have hll : n + 1 ≤ maxLen := by unfold maxLen; omega
    have hlb : (n + 1) * 32 ≤ 140737488355328 := by omega
    clear ho hend hi h0 hxl hl0
    go_enter Try.func147, Try.ntmps147
    go_wp2_with (at_builtin; refine wpList_append_own_at _ rfl _ _ 30 rfl base 62 i0 _ 4 32 Try.underlying30 HI0.out HZ0.out HZ1.out HZ2.out rfl (by decide) _ _ _ rfl HO.out ⟨h, 0, none⟩ 1 1 nc rfl HNL.out HN.out HO1.out hll hlb hb ?_; intro v' w9 r1 r2 _ r4)
    have HE : Hid (RowEnd base 62 4 w (.slice none 0 0) (n + 1) (xs ++ nc) (.returned v') w9) := show RowEnd _ _ _ _ _ _ _ _ _ from ⟨_, rfl, r1, r2, r4.imp id fun h => ⟨_, h, Nat.le_refl _⟩⟩
    clear r1 r2 r4
    go_wp2_with fail
    go_ret
    exact HE.out
  · have hcs' : cur.toList.length = cap * 4 := by simpa using hcs
    have hg' : w.heap[g]? = some (.cells cur.toList.toArray 62 (0, 0)) := by simpa using hg
    have hc63 : cap ≤ 9223372036854775807 := by unfold maxLen at hcm; exact hcm
    by_cases hin : i = n
    · rw [hend hin]
      have hll : n + 1 ≤ maxLen := by unfold maxLen; omega
      have hlb : (n + 1) * 32 ≤ 140737488355328 := by omega
      clear ho hend hi hcs' hg' ht hcs hxl
      subst hin
      by_cases hci : cap = i
      all_goals
        first | (have hci' := hci.symm; subst hci') | skip
        go_enter Try.func147, Try.ntmps147
        go_wp2_with (at_builtin; refine wpList_append_own_at _ rfl _ _ 30 rfl base 62 i0 _ 4 32 Try.underlying30 HI0.out HZ0.out HZ1.out HZ2.out rfl (by decide) _ _ _ rfl HO.out ⟨h, 0, none⟩ 1 1 nc rfl HNL.out HN.out HO1.out hll hlb hb ?_; intro v' w9 r1 r2 _ r4)
        have HE : Hid (RowEnd base 62 4 w (.slice (some ⟨g, 0, none⟩) i _) (i + 1) (xs ++ nc) (.returned v') w9) := show RowEnd _ _ _ _ _ _ _ _ _ from ⟨_, rfl, r1, r2, r4.imp id fun h => ⟨_, h, Nat.le_refl _⟩⟩
        clear r1 r2 r4
        go_wp2_with fail
        go_ret
        exact HE.out
    · have hfit := fun p : Nat => hn4
      by_cases hroom : n + 1 ≤ cap
      · refine (insS_shift g h i n cap xs cur.toList nc w (by omega) (by omega) hn4 hroom hc63 hg' (by omega) (by simpa using ht) hh hnc ho1 hx1 (fun e => hne (by simp [Value.ownBlock, e]))).mono fun e w' ⟨he, hr, hgr⟩ => ⟨_, he, ?_, hgr, .inl rfl⟩
        obtain ⟨q1, q2⟩ := shift_row (cur := cur.toList) (xs := xs) (nc := nc) (p := i * 4) (q := n * 4) (N := 4) (by omega) (by simpa using ht) (by omega) hnc (by omega)
        rw [show i * 4 + 4 = (i + 1) * 4 by omega] at q1 q2
        exact ⟨by rw [insC_len (by omega)]; omega, .inr ⟨g, cap, _, rfl, hbg, hr, by omega, hcm, by simp only [List.size_toArray]; omega, by simp only [List.toList_toArray]; rw [show (n + 1) * 4 = n * 4 + 4 by omega]; exact q1⟩⟩
      · refine (insS_grow g h i n cap xs cur.toList nc w (by omega) (by omega) hn4 hnc' (by omega) hg' (by simpa using ht) hh hnc ho1 hx1).mono fun e w' ⟨G, C, he, h1, h2, h3, h4, hr, hc⟩ => ⟨_, he, ?_, hc.grownBy _, .inr ⟨_, rfl, Nat.le_refl _⟩⟩
        obtain ⟨q1, q2⟩ := fresh_row (cur := C) (xs := xs) (nc := nc) (p := i * 4) (q := n * 4) (N := 4) (by omega) h4 (by omega) hnc (by omega)
        rw [show i * 4 + 4 = (i + 1) * 4 by omega] at q1 q2
        exact ⟨by rw [insC_len (by omega)]; omega, .inr ⟨_, G, _, rfl, hb, hr, by omega, h2, by simp only [List.size_toArray]; omega, by simp only [List.toList_toArray]; rw [show (n + 1) * 4 = n * 4 + 4 by omega]; exact q1⟩⟩
open Go.RowKit
structure Mod (F:Nat→Prop) (w w':World):Prop where
 os:w'.os=w.os
 tape:w'.tape=w.tape
 output:w'.output=w.output
 size:w.heap.size≤w'.heap.size
 same:∀ k,k<w.heap.size→¬ F k→w'.heap[k]?=w.heap[k]?
theorem Calm.mod {w w':World} (h:Calm w w') (F:Nat→Prop):Mod F w w':=⟨Below.os h,Below.tape h,Below.output h,Below.size h,fun _ hk _=>h.block hk⟩
theorem Mod.refl (F:Nat→Prop) (w:World):Mod F w w:=(Calm.refl w).mod F
theorem Mod.trans {F G:Nat→Prop} {w w1 w2:World} (h:Mod F w w1) (h2:Mod G w1 w2) (hg:∀ k,G k→F k∨w.heap.size≤k):Mod F w w2 :=
 ⟨h2.os.trans h.os,h2.tape.trans h.tape,h2.output.trans h.output,Nat.le_trans h.size h2.size,fun k hk hF=>(h2.same k (Nat.lt_of_lt_of_le hk h.size) fun hG=>by
  rcases hg k hG with g | g
  ·exact hF g
  ·omega).trans (h.same k hk hF)⟩
theorem Mod.call {F:Nat→Prop} {w w1 w2:World} (h:Mod F w w1) (h2:Calm w1 w2):Mod F w w2:=h.trans (h2.mod fun _=>False) fun _ hk=>absurd hk id
theorem grownBy.mod {w w':World} {row:Option Nat} (h:w.grownBy w' row) {F:Nat→Prop} (hF:∀ k,row=some k→F k):Mod F w w' :=
 ⟨h.os,h.tape,h.output,h.size,fun k hk hk2=>h.block k hk fun e=>hk2 (hF k e.symm)⟩
theorem Mod.cell {F:Nat→Prop} {w w1:World} (h:Mod F w w1) {g:Nat} (hg:F g∨w.heap.size≤g) (j:Nat) (u:Value):Mod F w (w1.setCell ⟨g,j,none⟩ u) :=
 ⟨h.os,h.tape,h.output,by have:=h.size;simpa [World.setCell] using this,fun k hk hF=>(heap_setCell_other w1 ⟨g,j,none⟩ k u (fun e=>by
  have e:k=g:=by simpa using e
  subst e
  rcases hg with g | g
  ·exact hF g
  ·omega)).trans (h.same k hk hF)⟩
/-- For who has all of it above what he looks at,nothing has changed. -/
theorem Mod.calm {F:Nat→Prop} {a w w':World} (h:Mod F w w') (hc:Calm a w) (hF:∀ k,F k→a.heap.size≤k):Calm a w':=by
 refine ⟨h.os.trans (Below.os hc),h.tape.trans (Below.tape hc),h.output.trans (Below.output hc),Nat.le_trans hc.size h.size,fun k hk=>?_⟩
 exact (h.same k (Nat.lt_of_lt_of_le hk hc.size) fun hk2=>by have:=hF k hk2;omega).trans (hc.block hk)
def Foot (g:Nat) (v vW:Value) (us:List Nd) (k:Nat):Prop:=k=g∨TB v us k∨vW.ownBlock=some k
theorem InsOk.foot {B:Nat} {w:World} {g:Nat} {root:Int} {v vW:Value} {us:List Nd} {W:List Int} (h:InsOk B w g root v vW us W):∀ k,Foot g v vW us k→B≤k∧k<w.heap.size:=fun k hk=>by
 rcases hk with rfl | hk | hk
 ·exact ⟨h.ge,(Array.getElem?_eq_some_iff.1 h.box).1⟩
 ·exact h.t.range k hk
 ·exact h.n.lt k hk
/-- The rows of a node in memory. -/
theorem cellsN_set:∀ {l:List Nd} {i j:Nat} {u:Value} {x:Nd} (hi:i<l.length) (_:j<5) (_:x.cells=l[i].cells.set j u),(cellsN l).set (i * 5+j) u=cellsN (l.set i x)
 | [],_,_,_,_,hi,_,_=>absurd hi (by simp)
 |y::l,0,j,u,x,hi,hj,hx=>by
  show (y.cells++cellsN l).set (0 * 5+j) u=x.cells++cellsN l
  rw [Nat.zero_mul,Nat.zero_add,List.set_append_left _ _ (by show j<5;exact hj),hx]
  rfl
 |y::l,i+1,j,u,x,hi,hj,hx=>by
  show (y.cells++cellsN l).set ((i+1) * 5+j) u=y.cells++cellsN (l.set i x)
  rw [List.set_append_right _ _ (by show 5≤_;omega),show y.cells.length=5 from rfl,show (i+1) * 5+j - 5=i * 5+j by omega]
  congr 1
  exact cellsN_set (l:=l) (i:=i) (by simpa using hi) hj hx
theorem OwnN.put {B gN cN : Nat} {w : World} {us : List Nd} {x : Nat} {n n' : Nd} (h : OwnN B w (.slice (some ⟨gN, 0, none⟩) us.length cN) us) (hx : us[x]? = some n) {j : Nat} {u : Value} (hj : j < 5) (hc : n'.cells = n.cells.set j u) :
    OwnN B (w.setCell ⟨gN, x * 5 + j, none⟩ u) (.slice (some ⟨gN, 0, none⟩) us.length cN) (us.set x n') := by
  obtain ⟨hlt, rfl⟩ := List.getElem?_eq_some_iff.1 hx
  have h1 := (World.ownsRow.stored h (x * 5 + j) u).1
  unfold OwnN
  rw [List.length_set, ← cellsN_set hlt hj hc]
  exact h1
def World.fiveAt (w:World) (g o:Nat) (b0 b1 b2 b3 b4:Value):World:=((((w.setCell ⟨g,o,none⟩ b0).setCell ⟨g,o+1,none⟩ b1).setCell ⟨g,o+2,none⟩ b2).setCell ⟨g,o+3,none⟩ b3).setCell ⟨g,o+4,none⟩ b4
theorem fiveAt_other {w:World} {g o:Nat} (b0 b1 b2 b3 b4:Value) {k:Nat} (hk:k≠g):(World.fiveAt w g o b0 b1 b2 b3 b4).heap[k]?=w.heap[k]?:=by
 have ho:∀ (u:World) (j:Nat) (x:Value),(u.setCell ⟨g,j,none⟩ x).heap[k]?=u.heap[k]?:=fun u j x=>heap_setCell_other u ⟨g,j,none⟩ k x (fun e=>hk (by simpa using e))
 unfold World.fiveAt
 rw [ho,ho,ho,ho,ho]
theorem Mod.five {F:Nat→Prop} {w w1:World} (h:Mod F w w1) {g:Nat} (hg:F g∨w.heap.size≤g) (o:Nat) (b0 b1 b2 b3 b4:Value):Mod F w (World.fiveAt w1 g o b0 b1 b2 b3 b4) :=
 ((((h.cell hg o b0).cell hg (o+1) b1).cell hg (o+2) b2).cell hg (o+3) b3).cell hg (o+4) b4
theorem OwnN.len {B cN:Nat} {A:Option Addr} {w:World} {us us':List Nd} (h:OwnN B w (.slice A us.length cN) us') (hl:us'.length=us.length):OwnN B w (.slice A us'.length cN) us':=by rw [hl];exact h
theorem OwnN.put5 {B gN cN : Nat} {w : World} {us : List Nd} {x : Nat} {n n' : Nd} (h : OwnN B w (.slice (some ⟨gN, 0, none⟩) us.length cN) us) (hx : us[x]? = some n) :
    OwnN B (World.fiveAt w gN (x * 5) (.int .i64 n'.kd) (.slice n'.A1 n'.E.length n'.c1) (.slice n'.A2 n'.K.length n'.c2) (.slice n'.A3 n'.S.length n'.c3) (.slice n'.A4 n'.T.length n'.c4)) (.slice (some ⟨gN, 0, none⟩) us.length cN) (us.set x n') := by
  obtain ⟨hlt, -⟩ := List.getElem?_eq_some_iff.1 hx
  have h0 := OwnN.put h hx (n' := ⟨n'.kd, n.A1, n.A2, n.A3, n.A4, n.c1, n.c2, n.c3, n.c4, n.E, n.K, n.S, n.T⟩) (j := 0) (u := .int .i64 n'.kd) (by decide) rfl
  rw [Nat.add_zero] at h0
  have e0 := OwnN.len h0 List.length_set
  have h1 := OwnN.put e0 (List.getElem?_set_self hlt) (n' := ⟨n'.kd, n'.A1, n.A2, n.A3, n.A4, n'.c1, n.c2, n.c3, n.c4, n'.E, n.K, n.S, n.T⟩) (j := 1) (u := .slice n'.A1 n'.E.length n'.c1) (by decide) rfl
  rw [List.set_set, List.length_set] at h1
  have e1 := OwnN.len h1 List.length_set
  have h2 := OwnN.put e1 (List.getElem?_set_self hlt) (n' := ⟨n'.kd, n'.A1, n'.A2, n.A3, n.A4, n'.c1, n'.c2, n.c3, n.c4, n'.E, n'.K, n.S, n.T⟩) (j := 2) (u := .slice n'.A2 n'.K.length n'.c2) (by decide) rfl
  rw [List.set_set, List.length_set] at h2
  have e2 := OwnN.len h2 List.length_set
  have h3 := OwnN.put e2 (List.getElem?_set_self hlt) (n' := ⟨n'.kd, n'.A1, n'.A2, n'.A3, n.A4, n'.c1, n'.c2, n'.c3, n.c4, n'.E, n'.K, n'.S, n.T⟩) (j := 3) (u := .slice n'.A3 n'.S.length n'.c3) (by decide) rfl
  rw [List.set_set, List.length_set] at h3
  have e3 := OwnN.len h3 List.length_set
  have h4 := OwnN.put e3 (List.getElem?_set_self hlt) (n' := ⟨n'.kd, n'.A1, n'.A2, n'.A3, n'.A4, n'.c1, n'.c2, n'.c3, n'.c4, n'.E, n'.K, n'.S, n'.T⟩) (j := 4) (u := .slice n'.A4 n'.T.length n'.c4) (by decide) rfl
  rw [List.set_set, List.length_set] at h4
  exact h4
theorem set_at {us:List Nd} {x i:Nat} {n' m:Nd} (h:(us.set x n')[i]?=some m):i=x∧m=n'∨i≠x∧us[i]?=some m:=by
 rw [List.getElem?_set] at h
 split at h
 ·rename_i he
  split at h
  ·injection h with h;exact .inl ⟨he.symm,h.symm⟩
  ·cases h
 ·rename_i he
  exact .inr ⟨fun e=>he e.symm,h⟩
theorem TB.set_of {v:Value} {us:List Nd} {x:Nat} {n':Nd} {k:Nat} (h:TB v (us.set x n') k):TB v us k∨∃ j,n'.blk j=some k:=by
 rcases h with h | ⟨i,m,j,hi,hj⟩
 ·exact .inl (.inl h)
 ·rcases set_at hi with ⟨-,rfl⟩ | ⟨-,hi⟩
  ·exact .inr ⟨j,hj⟩
  ·exact .inl (.inr ⟨i,m,j,hi,hj⟩)
theorem Foot.set_of {g:Nat} {v vW:Value} {us:List Nd} {x:Nat} {n':Nd} {k:Nat} (h:Foot g v vW (us.set x n') k):Foot g v vW us k∨∃ j,n'.blk j=some k:=by
 rcases h with h | h | h
 ·exact .inl (.inl h)
 ·rcases h.set_of with h | h
  ·exact .inl (.inr (.inl h))
  ·exact .inr h
 ·exact .inl (.inr (.inr h))
/-- One node replaced: its blocks are those of the old one, or new. -/
theorem InsOk.put {B : Nat} {w w' : World} {g : Nat} {root : Int} {v vW : Value} {us : List Nd} {W : List Int} (h : InsOk B w g root v vW us W) {x : Nat} {n n' : Nd} (hx : us[x]? = some n)
    (hrow : OwnN B w' v (us.set x n')) (hn : NdO B w' n') (hs : ∀ k, Foot g v vW us k → (∀ j, n.blk j ≠ some k) → v.ownBlock ≠ some k → w'.heap[k]? = w.heap[k]?)
    (hap : ∀ j j' k, n'.blk j = some k → n'.blk j' = some k → j = j') (hfr : ∀ j k, n'.blk j = some k → (∃ j0, n.blk j0 = some k) ∨ ¬ Foot g v vW us k) : InsOk B w' g root v vW (us.set x n') W := by
  have hold : ∀ (i : Nat) (m : Nd) (j k : Nat), i ≠ x → us[i]? = some m → m.blk j = some k → ∀ j', n'.blk j' ≠ some k := fun i m j k hi hm hj j' hj' => by
    rcases hfr j' k hj' with ⟨j0, h0⟩ | h0
    · exact hi (h.t.ap i x j j0 m n k hm hx hj h0).1
    · exact h0 (.inr (.inl (.inr ⟨i, m, j, hm, hj⟩)))
  have hnot : ∀ (i : Nat) (m : Nd) (j k : Nat), i ≠ x → us[i]? = some m → m.blk j = some k → w'.heap[k]? = w.heap[k]? := fun i m j k hi hm hj =>
    hs k (.inr (.inl (.inr ⟨i, m, j, hm, hj⟩))) (fun j0 h0 => hi (h.t.ap i x j j0 m n k hm hx hj h0).1) (h.t.ne i j m k hm hj)
  have hnn : ∀ j k, n.blk j = some k → k ≠ g ∧ vW.ownBlock ≠ some k ∧ v.ownBlock ≠ some k := fun j k hj =>
    ⟨fun e => h.tg (e ▸ .inr ⟨x, n, j, hx, hj⟩), h.tn k (.inr ⟨x, n, j, hx, hj⟩), h.t.ne x j n k hx hj⟩
  have hn' : ∀ j k, n'.blk j = some k → k ≠ g ∧ vW.ownBlock ≠ some k ∧ v.ownBlock ≠ some k := fun j k hj => by
    rcases hfr j k hj with ⟨j0, h0⟩ | h0
    · exact hnn j0 k h0
    · exact ⟨fun e => h0 (.inl e), fun e => h0 (.inr (.inr e)), fun e => h0 (.inr (.inl (.inl e)))⟩
  refine ⟨?_, ⟨hrow, fun i m hi => ?_, fun i i' j j' m m' k hi hi' hj hj' => ?_, fun i j m k hi hj => ?_⟩, ?_, h.ge, fun k hk => ?_, fun hk => ?_, h.ng⟩
  · exact tag_of ((hs g (.inl rfl) (fun j hj => (hnn j g hj).1 rfl) fun e => h.tg (.inl e)).trans h.box)
  · rcases set_at hi with ⟨-, rfl⟩ | ⟨hne, hi2⟩
    · exact hn
    · exact (h.t.nd i m hi2).same fun j k hj => hnot i m j k hne hi2 hj
  · rcases set_at hi with ⟨a1, a2⟩ | ⟨hne, hi2⟩ <;> rcases set_at hi' with ⟨b1, b2⟩ | ⟨hne', hi3⟩
    · subst a2; subst b2; exact ⟨a1.trans b1.symm, hap j j' k hj hj'⟩
    · subst a2; exact absurd hj (hold i' m' j' k hne' hi3 hj' j)
    · subst b2; exact absurd hj' (hold i m j k hne hi2 hj j')
    · exact h.t.ap i i' j j' m m' k hi2 hi3 hj hj'
  · rcases set_at hi with ⟨a1, a2⟩ | ⟨hne, hi2⟩
    · subst a2; exact (hn' j k hj).2.2
    · exact h.t.ne i j m k hi2 hj
  · exact rows_same h.n fun k hk => hs k (.inr (.inr hk)) (fun j hj => (hnn j k hj).2.1 hk) fun e => h.tn k (.inl e) hk
  · rcases hk.set_of with hk | ⟨j, hj⟩
    · exact h.tn k hk
    · exact (hn' j k hj).2.1
  · rcases hk.set_of with hk | ⟨j, hj⟩
    · exact h.tg hk
    · exact (hn' j g hj).1 rfl
/-- The blocks of a node of the tree,and the block of the row of nodes,apart. -/
theorem InsOk.apart {B:Nat} {w:World} {g:Nat} {root:Int} {v vW:Value} {us:List Nd} {W:List Int} (h:InsOk B w g root v vW us W) {x:Nat} {n:Nd} (hx:us[x]?=some n):(∀ j j' k,n.blk j=some k→n.blk j'=some k→j=j')∧(∀ j k,n.blk j=some k→v.ownBlock≠some k∧k≠g∧vW.ownBlock≠some k∧k<w.heap.size) :=
 ⟨fun j j' k hj hj'=>(h.t.ap x x j j' n n k hx hx hj hj').2,fun j k hj=>⟨h.t.ne x j n k hx hj,fun e=>h.tg (e ▸ .inr ⟨x,n,j,hx,hj⟩),h.tn k (.inr ⟨x,n,j,hx,hj⟩),(h.t.range k (.inr ⟨x,n,j,hx,hj⟩)).2⟩⟩
theorem NdO.reK {B:Nat} {w w1:World} {n:Nd} (h:NdO B w n) (hap:∀ j j' k,n.blk j=some k→n.blk j'=some k→j=j') (hg:w.grownBy w1 (n.blk 1)) (hlt:∀ j k,n.blk j=some k→k<w.heap.size) {A:Option Addr} {c:Nat} {K:List Int} (ho:OwnI B w1 (.slice A K.length c) K) (hl:K.length≤1000000):NdO B w1 { n with A2:=A,c2:=c,K:=K }:=by
 have hs:∀ j k,j≠1→n.blk j=some k→w1.heap[k]?=w.heap[k]?:=fun j k hj hk=>hg.block k (hlt j k hk) fun e=>hj (hap j 1 k hk e.symm)
 exact ⟨rows_same h.e fun k hk=>hs 0 k (by decide) hk,ho,rows_same h.s fun k hk=>hs 2 k (by decide) hk,rows_same h.t fun k hk=>hs 3 k (by decide) hk,h.we,h.ws,h.ne,hl,h.ns,h.nt⟩
theorem NdO.reS {B:Nat} {w w1:World} {n:Nd} (h:NdO B w n) (hap:∀ j j' k,n.blk j=some k→n.blk j'=some k→j=j') (hg:w.grownBy w1 (n.blk 2)) (hlt:∀ j k,n.blk j=some k→k<w.heap.size) {A:Option Addr} {c:Nat} {S:List Sp} (ho:OwnS B w1 (.slice A S.length c) S) (hw:∀ s∈S,-9223372036854775808≤s.m) (hl:S.length≤1000000):NdO B w1 { n with A3:=A,c3:=c,S:=S }:=by
 have hs:∀ j k,j≠2→n.blk j=some k→w1.heap[k]?=w.heap[k]?:=fun j k hj hk=>hg.block k (hlt j k hk) fun e=>hj (hap j 2 k hk e.symm)
 exact ⟨rows_same h.e fun k hk=>hs 0 k (by decide) hk,rows_same h.k fun k hk=>hs 1 k (by decide) hk,ho,rows_same h.t fun k hk=>hs 3 k (by decide) hk,h.we,hw,h.ne,h.nk,hl,h.nt⟩
theorem NdO.reT {B:Nat} {w w1:World} {n:Nd} (h:NdO B w n) (hap:∀ j j' k,n.blk j=some k→n.blk j'=some k→j=j') (hg:w.grownBy w1 (n.blk 3)) (hlt:∀ j k,n.blk j=some k→k<w.heap.size) {A:Option Addr} {c:Nat} {T:List Int} (ho:OwnI B w1 (.slice A T.length c) T) (hl:T.length≤1000000):NdO B w1 { n with A4:=A,c4:=c,T:=T }:=by
 have hs:∀ j k,j≠3→n.blk j=some k→w1.heap[k]?=w.heap[k]?:=fun j k hj hk=>hg.block k (hlt j k hk) fun e=>hj (hap j 3 k hk e.symm)
 exact ⟨rows_same h.e fun k hk=>hs 0 k (by decide) hk,rows_same h.k fun k hk=>hs 1 k (by decide) hk,rows_same h.s fun k hk=>hs 2 k (by decide) hk,ho,h.we,h.ws,h.ne,h.nk,h.ns,hl⟩
structure Done (B:Nat) (w w':World) (g:Nat) (v vW:Value) (us:List Nd) (root':Int) (v' vW':Value) (us':List Nd) (W':List Int):Prop where
 ok:InsOk B w' g root' v' vW' us' W'
 mod:Mod (Foot g v vW us) w w'
 foot:∀ k,Foot g v' vW' us' k→Foot g v vW us k∨w.heap.size≤k
theorem Done.trans {B:Nat} {w w1 w2:World} {g:Nat} {v vW v1 vW1 v2 vW2:Value} {us us1 us2:List Nd} {root1 root2:Int} {W1 W2:List Int} (h:Done B w w1 g v vW us root1 v1 vW1 us1 W1) (h2:Done B w1 w2 g v1 vW1 us1 root2 v2 vW2 us2 W2):Done B w w2 g v vW us root2 v2 vW2 us2 W2 :=
 ⟨h2.ok,h.mod.trans h2.mod h.foot,fun k hk=>by
  rcases h2.foot k hk with g1 | g1
  ·exact h.foot k g1
  ·have:=h.mod.size;exact .inr (by omega)⟩
theorem Done.call {B:Nat} {w w1 w2:World} {g:Nat} {v vW v1 vW1:Value} {us us1:List Nd} {root1:Int} {W1:List Int} (h:Done B w w1 g v vW us root1 v1 vW1 us1 W1) (h2:Calm w1 w2):Done B w w2 g v vW us root1 v1 vW1 us1 W1 :=
 ⟨h.ok.calm h2,h.mod.call h2,h.foot⟩
theorem Done.refl {B:Nat} {w w1:World} {g:Nat} {v vW:Value} {us:List Nd} {root:Int} {W:List Int} (h:InsOk B w g root v vW us W) (hc:Calm w w1):Done B w w1 g v vW us root v vW us W :=
 ⟨h.calm hc,hc.mod _,fun _ hk=>.inl hk⟩
theorem Done.after {B:Nat} {w0 w w1:World} {g:Nat} {v vW v1 vW1:Value} {us us1:List Nd} {root1:Int} {W1:List Int} (hc:Calm w0 w) (h:Done B w w1 g v vW us root1 v1 vW1 us1 W1):Done B w0 w1 g v vW us root1 v1 vW1 us1 W1 :=
 ⟨h.ok,(hc.mod _).trans h.mod fun _ hk=>.inl hk,fun k hk=>(h.foot k hk).imp id fun g1=>by have:=hc.size;omega⟩
/-- The slice of one row is stored, behind what made the row. -/
theorem InsOk.reRow {B : Nat} {w w1 : World} {g gN cN : Nat} {root : Int} {vW : Value} {us : List Nd} {W : List Int} (h : InsOk B w g root (.slice (some ⟨gN, 0, none⟩) us.length cN) vW us W) {x : Nat} {n n' : Nd} (hx : us[x]? = some n) {j : Nat} (hj : j < 4) {u : Value}
    (hg : w.grownBy w1 (n.blk j)) (hfr : ∀ k, n'.blk j = some k → n.blk j = some k ∨ w.heap.size ≤ k) (hot : ∀ j', j' ≠ j → n'.blk j' = n.blk j') (hn : NdO B w1 n') (hc : n'.cells = n.cells.set (j + 1) u) :
    Done B w (w1.setCell ⟨gN, x * 5 + (j + 1), none⟩ u) g (.slice (some ⟨gN, 0, none⟩) us.length cN) vW us root (.slice (some ⟨gN, 0, none⟩) us.length cN) vW (us.set x n') W := by
  obtain ⟨hap, hout⟩ := h.apart hx
  have hgN : (Value.slice (some ⟨gN, 0, none⟩) us.length cN).ownBlock = some gN := rfl
  have hNlt := (h.t.range gN (.inl rfl)).2
  have hbN : w1.heap[gN]? = w.heap[gN]? := hg.block gN hNlt fun e => (hout j gN e.symm).1 rfl
  have hcell : ∀ k, k ≠ gN → (w1.setCell ⟨gN, x * 5 + (j + 1), none⟩ u).heap[k]? = w1.heap[k]? := fun k hk => heap_setCell_other w1 ⟨gN, x * 5 + (j + 1), none⟩ k u (fun e => hk (by simpa using e))
  have hold : ∀ j' k, n'.blk j' = some k → (∃ j0, n.blk j0 = some k) ∨ w.heap.size ≤ k := fun j' k hk => by
    by_cases he : j' = j
    · subst he
      exact (hfr k hk).imp (fun h => ⟨_, h⟩) id
    · rw [hot j' he] at hk; exact .inl ⟨j', hk⟩
  have hngN : ∀ j' k, n'.blk j' = some k → k ≠ gN := fun j' k hk e => by
    subst e
    rcases hold j' k hk with ⟨j0, h0⟩ | h0
    · exact (hout j0 k h0).1 rfl
    · omega
  have hap' : ∀ j1 j2 k, n'.blk j1 = some k → n'.blk j2 = some k → j1 = j2 := fun j1 j2 k h1 h2 => by
    by_cases e1 : j1 = j <;> by_cases e2 : j2 = j
    · omega
    · subst e1
      have h3 := (hot j2 e2).symm.trans h2
      rcases hfr k h1 with h4 | h4
      · exact hap _ _ k h4 h3
      · have := (hout j2 k h3).2.2.2; omega
    · subst e2
      have h3 := (hot j1 e1).symm.trans h1
      rcases hfr k h2 with h4 | h4
      · exact hap _ _ k h3 h4
      · have := (hout j1 k h3).2.2.2; omega
    · exact hap _ _ k ((hot j1 e1).symm.trans h1) ((hot j2 e2).symm.trans h2)
  refine ⟨h.put hx ?_ ?_ ?_ hap' ?_, ?_, fun k hk => ?_⟩
  · exact OwnN.put (rows_same h.t.row fun k hk => by
      have : k = gN := by rw [hgN] at hk; injection hk with hk; exact hk.symm
      subst this; exact hbN) hx (by omega) hc
  · exact hn.same fun j' k hk => hcell k (hngN j' k hk)
  · intro k hk hnk hvk
    have hkN : k ≠ gN := fun e => hvk (by rw [e]; rfl)
    exact (hcell k hkN).trans (hg.block k (h.foot k hk).2 fun e => hnk j e.symm)
  · intro j' k hk
    rcases hold j' k hk with h0 | h0
    · exact .inl h0
    · exact .inr fun hf => by have := (h.foot k hf).2; omega
  · exact (grownBy.mod hg fun k hk => .inr (.inl (.inr ⟨x, n, j, hx, hk⟩))).cell (.inl (.inr (.inl (.inl rfl)))) _ _
  · rcases hk.set_of with hk | ⟨j', hj'⟩
    · exact .inl hk
    · rcases hold j' k hj' with ⟨j0, h0⟩ | h0
      · exact .inl (.inr (.inl (.inr ⟨x, n, j0, hx, h0⟩)))
      · exact .inr h0
/-- A whole node is stored whose rows are new. -/
theorem InsOk.putNew {B M : Nat} {w : World} {g gN cN : Nat} {root : Int} {vW : Value} {us : List Nd} {W : List Int} (h : InsOk B w g root (.slice (some ⟨gN, 0, none⟩) us.length cN) vW us W) {x : Nat} {n n' : Nd} (hx : us[x]? = some n)
    (hn : NdO M w n') (hBM : B ≤ M) (hM : ∀ j k, n'.blk j = some k → ¬ Foot g (.slice (some ⟨gN, 0, none⟩) us.length cN) vW us k) (hap : ∀ j j' k, n'.blk j = some k → n'.blk j' = some k → j = j') :
    InsOk B (World.fiveAt w gN (x * 5) (.int .i64 n'.kd) (.slice n'.A1 n'.E.length n'.c1) (.slice n'.A2 n'.K.length n'.c2) (.slice n'.A3 n'.S.length n'.c3) (.slice n'.A4 n'.T.length n'.c4)) g root (.slice (some ⟨gN, 0, none⟩) us.length cN) vW (us.set x n') W := by
  refine h.put hx (OwnN.put5 h.t.row hx) ?_ ?_ hap fun j k hj => .inr (hM j k hj)
  · exact NdO.same (NdOwn.mono hn hBM) fun j k hj => fiveAt_other _ _ _ _ _ fun e => hM j k hj (.inr (.inl (.inl (by rw [e]; rfl))))
  · exact fun k _ _ hvk => fiveAt_other _ _ _ _ _ fun e => hvk (by rw [e]; rfl)
open Go.RowKit
set_option maxHeartbeats 4000000 in
theorem greatest_any (kd:Int) (A1 A2 A3 A4:Option Addr) (c1 c2 c3 c4:Nat) (E:List El) (K:List Int) (S:List Sp) (T:List Int) (w:World) (h:NdAt w A1 A2 A3 A4 E K S T) (hz:ndErr kd E K S T=0):Calls Try.prog 138 #[.agg #[.int .i64 kd,.slice A1 E.length c1,.slice A2 K.length c2,.slice A3 S.length c3,.slice A4 T.length c4]] w fun e w'=>e=.returned (.int .i64 (ndTid E T))∧Calm w w':=by
 have hx:=heap_new w (.cells #[.int .i64 kd,.slice A1 E.length c1,.slice A2 K.length c2,.slice A3 S.length c3,.slice A4 T.length c4] 32)
 have hu:=(Calm.refl w).alloc (.cells #[.int .i64 kd,.slice A1 E.length c1,.slice A2 K.length c2,.slice A3 S.length c3,.slice A4 T.length c4] 32)
 have cT:=fun u (hu:Calm w u)=>nodeTid_any kd A1 A2 A3 A4 c1 c2 c3 c4 E K S T u (h.calm hu)
 simp only [hz,if_true] at cT
 obtain ⟨x0,x1,x2,x3,x4,hxs⟩:=row5 hx
 generalize ndTid E T=N at cT ⊢
 clear h hz
 go_enter Try.func138,Try.ntmps138
 go_wp2_with (go_at_call 64;(with_reducible refine (cT _ hu).mono ?_);rintro e w1 ⟨rfl,hb1⟩)
 go_ret
 exact ⟨rfl,hu.call hb1⟩
/-- slices.Index of a number that stands at i for the first time. -/
theorem indexI_any (A : Option Addr) (c : Nat) (l : List Int) (i : Nat) (x : Int) (w : World) (hl : l.length ≤ 1000000) (h : LiesI w A l) (hi : l[i]? = some x) (hf : ∀ j, j < i → l[j]? ≠ some x) :
    Calls Try.prog 148 #[.slice A l.length c, .int .i64 x] w fun e w' => e = .returned (.int .i64 (i : Int)) ∧ Calm w w' := by
  obtain ⟨hlt, hx⟩ := List.getElem?_eq_some_iff.1 hi
  obtain ⟨b, q, rfl, hb, hc⟩ := h (by omega)
  have e := Lib.idxOf_hit l l.length i x hlt (Nat.le_refl _) (by rw [List.getD_eq_getElem?_getD, hi]; rfl) fun j hj hjx => hf j hj (by
    have hj2 : j < l.length := by omega
    rw [List.getD_eq_getElem?_getD, List.getElem?_eq_getElem hj2] at hjx
    rw [List.getElem?_eq_getElem hj2]
    exact congrArg some hjx)
  refine (Try.slices_Index_int b q l.length c l x w (Nat.le_refl _) (by omega) fun j hj => ?_).mono ?_
  · rw [hc j _ (List.getElem?_eq_getElem hj), List.getD_eq_getElem?_getD, List.getElem?_eq_getElem hj]; rfl
  · rintro e' w' ⟨rfl, rfl⟩
    exact ⟨by rw [e], Calm.refl _⟩
set_option maxHeartbeats 4000000 in
/-- The index of the node on a level among its parent's children. -/
theorem place_any (B g gN cN cW : Nat) (A : Option Addr) (root : Int) (us : List Nd) (W : List Int) (w : World) (h : InsOk B w g root (.slice (some ⟨gN, 0, none⟩) us.length cN) (.slice A W.length cW) us W) (j x y i : Nat) (p : Nd)
    (hj : W[j]? = some (x : Int)) (hj1 : W[j + 1]? = some (y : Int)) (hx : us[x]? = some p) (hi : p.K[i]? = some (y : Int)) (hf : ∀ k, k < i → p.K[k]? ≠ some (y : Int)) (hW : W.length ≤ 1000000) :
    Calls Try.prog 139 #[.pointer (some ⟨g, 0, none⟩), .int .i64 ((j + 1 : Nat) : Int)] w fun e w' => e = .returned (.int .i64 (i : Int)) ∧ Calm w w' := by
  have hxl : x < us.length := (List.getElem?_eq_some_iff.1 hx).1
  obtain ⟨hjl, he⟩ := List.getElem?_eq_some_iff.1 hj1
  have cA := fun u (hu : Calm w u) => at_any B g gN cN cW A root us W u (h.calm hu) j x hj hxl
  have hT := h.t.at_ (c := cN) (A := some ⟨gN, 0, none⟩) (l := us) (by
    rcases h.t.row.2 with ⟨h1, -⟩ | ⟨g', cap', cur', h1, -, -, h2, h3, -⟩
    · cases h1
    · simp only [maxLen] at h3; omega)
  obtain ⟨b0, q0, kd, A1, A2, A3, A4, c1, c2, c3, c4, E, K, S, T, hA, hb, HN, HA, n0, n1, n2, n3, n4⟩ := hT.get hxl
  cases hA
  obtain rfl : p = ⟨kd, A1, A2, A3, A4, c1, c2, c3, c4, E, K, S, T⟩ := Option.some.inj (hx.symm.trans HN.out)
  simp only [Nat.zero_add] at n0 n1 n2 n3 n4
  simp only at hi hf
  have hKl : K.length ≤ 1000000 := (h.t.nd x _ hx).nk
  have cI := fun u (hu : Calm w u) => indexI_any A2 c2 K i y u hKl (HA.out.calm hu).k hi hf
  obtain ⟨A', c', e1, hL⟩ := h.n.lies
  injection e1 with e1 _ e2
  subst e1; subst e2
  obtain ⟨bw, qw, y', hA, hbw, HY, cy⟩ := hL.get hjl
  subst hA
  obtain rfl : y' = (y : Int) := Option.some.inj (HY.out.symm.trans hj1)
  obtain ⟨i0, i1, i2, his⟩ := row3 h.box
  have hji : ((j + 1 : Nat) : Int) < (W.length : Int) := by omega
  have e9 : IntKind.i64.wrap (((j + 1 : Nat) : Int) - 1) = (j : Int) := by rw [IntWalk.i64_in _ (by omega)]; omega
  obtain ⟨J, hJ⟩ : ∃ J, j + 1 = J := ⟨_, rfl⟩
  rw [hJ] at hjl hji e9 cy ⊢
  clear h hj hj1 hx hi hf he HY hL HN HA hT hKl hJ
  go_enter Try.func139, Try.ntmps139
  go_upto_region 1 with fail
  refine wp_region_plan [.val (.pointer (some ⟨g, 0, none⟩)), .val (.int .i64 ((J : Int))), .val (.int .i64 ((j : Int))), .val (.pointer (some ⟨gN, x * 5, none⟩)), .val (.pointer (some ⟨gN, x * 5, none⟩)), .val (.pointer (some ⟨gN, x*5+2, none⟩)), .val (.slice A2 K.length c2), .val (.pointer (some ⟨g, 0, none⟩)), .val (.pointer (some ⟨g, 0, none⟩)), .val (.pointer (some ⟨g, 2, none⟩)), .val (.slice (some ⟨bw, qw, none⟩) W.length cW), .val (.int .i64 ((J : Int))), .val (.pointer (some ⟨bw, qw+J, none⟩)), .val (.int .i64 ((y : Int))), .val (.int .i64 ((i : Int))), .val (.int .i64 ((i : Int)))] (by kernel_rfl) (by kernel_rfl) (by kernel_rfl) ?_
  intro X
  iterate 16
    refine plan_val (by kernel_rfl) (fun u hu => ?_) ?_
    · obtain ⟨hc, hf, hz⟩ := hu.of_drew.facts
      go_simp
      all_goals first
        | ((go_at_call 125; exact cA _ hu.of_drew))
        | ((go_at_call 148; exact cI _ hu.of_drew))
    simp only [Act.put, List.setIfInBounds_toArray, List.set_cons_zero, List.set_cons_succ, Nat.reduceAdd]
  refine plan_end ?_
  intro w' hB
  have hk := hB.calm.of_drew
  clear hB
  go_wp2_with fail
  go_ret
  exact ⟨rfl, hk⟩
open Go.RowKit
structure CutS (wl:World) (T:TypeId) (N n1 n2:Nat) (xs1 xs2:List Value) (c3 c7 c8 c9:Bool) (Y:Nat→Value) (w:World):Prop where
 calm:Calm wl w
 a:c3=true→w.ownsRow wl.heap.size T N (Y 3) n1 xs1
 b:c7=true→w.ownsRow wl.heap.size T N (Y 7) n2 xs2
 ap:c3=true→c7=true→Away (Y 3) (Y 7)
 e8:c8=true→c3=true∧Y 8=Y 3
 e9:c9=true→c7=true∧Y 9=Y 7
def StC (wl:World) (T:TypeId) (N n1 n2:Nat) (xs1 xs2:List Value):Stages:=fun bs Y w=>∃ c3 c7 c8 c9,bs=[c3,c7,c8,c9]∧CutS wl T N n1 n2 xs1 xs2 c3 c7 c8 c9 Y w
section
variable {wl w w':World} {T:TypeId} {N n1 n2:Nat} {xs1 xs2:List Value} {c3 c7 c8 c9:Bool} {Y:Nat→Value} {L:Nat→Bool}
theorem CutS.stay (h:CutS wl T N n1 n2 xs1 xs2 c3 c7 c8 c9 Y w) (hb:Calm w w'):CutS wl T N n1 n2 xs1 xs2 c3 c7 c8 c9 Y w' :=
 ⟨h.calm.call hb,fun c=>rows_calm (h.a c) hb,fun c=>rows_calm (h.b c) hb,h.ap,h.e8,h.e9⟩
theorem StC.stay:∀ bs Y w w',StC wl T N n1 n2 xs1 xs2 bs Y w→Calm w w'→StC wl T N n1 n2 xs1 xs2 bs Y w':=fun bs Y w w' ⟨c3,c7,c8,c9,h1,h2⟩ hb=>⟨c3,c7,c8,c9,h1,h2.stay hb⟩
theorem StC.start (h:Calm wl w):StC wl T N n1 n2 xs1 xs2 [false,false,false,false] Y w :=
 ⟨_,_,_,_,rfl,h,fun c=>absurd c (by simp),fun c=>absurd c (by simp),fun c=>absurd c (by simp),fun c=>absurd c (by simp),fun c=>absurd c (by simp)⟩
theorem StC.get (h:StC wl T N n1 n2 xs1 xs2 ([3,7,8,9].map L) Y w):CutS wl T N n1 n2 xs1 xs2 (L 3) (L 7) (L 8) (L 9) Y w:=by
 obtain ⟨c3,c7,c8,c9,h1,h2⟩:=h
 simp only [List.map_cons,List.map_nil,List.cons.injEq,and_true] at h1
 obtain ⟨e1,e2,e3,e4⟩:=h1
 subst e1;subst e2;subst e3;subst e4
 exact h2
theorem StC.do3 (h:StC wl T N n1 n2 xs1 xs2 ([3,7,8,9].map L) Y w) (hi:L 3=false):CutS wl T N n1 n2 xs1 xs2 false (L 7) (L 8) (L 9) Y w∧∀ v w',w'.ownsRow w.heap.size T N v n1 xs1→Calm w w'→StC wl T N n1 n2 xs1 xs2 ([3,7,8,9].map (updB L 3)) (updV Y 3 v) w':=by
 have hP:=h.get
 rw [hi] at hP
 refine ⟨hP,fun v w' ho hb=>⟨true,L 7,L 8,L 9,by simp [updB],?_⟩⟩
 have hs:=hP.calm.size
 refine ⟨hP.calm.call hb,fun _=>by rw [lkUpd_same];exact rows_weaken ho hs,fun c=>by rw [lkUpd_other _ _ (by decide)];exact rows_calm (hP.b c) hb,fun _ c=>?_,fun c=>absurd (hP.e8 c).1 (by simp),fun c=>by rw [lkUpd_other _ _ (by decide),lkUpd_other _ _ (by decide)];exact hP.e9 c⟩
 rw [lkUpd_same,lkUpd_other _ _ (by decide)]
 intro k hk hk2
 have:=(rows_lt ho k hk).1
 have:=(rows_lt (hP.b c) k hk2).2
 omega
theorem StC.do7 (h:StC wl T N n1 n2 xs1 xs2 ([3,7,8,9].map L) Y w) (hi:L 7=false):CutS wl T N n1 n2 xs1 xs2 (L 3) false (L 8) (L 9) Y w∧∀ v w',w'.ownsRow w.heap.size T N v n2 xs2→Calm w w'→StC wl T N n1 n2 xs1 xs2 ([3,7,8,9].map (updB L 7)) (updV Y 7 v) w':=by
 have hP:=h.get
 rw [hi] at hP
 refine ⟨hP,fun v w' ho hb=>⟨L 3,true,L 8,L 9,by simp [updB],?_⟩⟩
 have hs:=hP.calm.size
 refine ⟨hP.calm.call hb,fun c=>by rw [lkUpd_other _ _ (by decide)];exact rows_calm (hP.a c) hb,fun _=>by rw [lkUpd_same];exact rows_weaken ho hs,fun c _=>?_,fun c=>by rw [lkUpd_other _ _ (by decide),lkUpd_other _ _ (by decide)];exact hP.e8 c,fun c=>absurd (hP.e9 c).1 (by simp)⟩
 rw [lkUpd_same,lkUpd_other _ _ (by decide)]
 intro k hk hk2
 have:=(rows_lt ho k hk2).1
 have:=(rows_lt (hP.a c) k hk).2
 omega
theorem StC.do8 (h:StC wl T N n1 n2 xs1 xs2 ([3,7,8,9].map L) Y w) (hi:L 8=false) (h3:L 3=true):StC wl T N n1 n2 xs1 xs2 ([3,7,8,9].map (updB L 8)) (updV Y 8 (Y 3)) w:=by
 have hP:=h.get
 refine ⟨L 3,L 7,true,L 9,by simp [updB],?_⟩
 exact ⟨hP.calm,fun c=>by rw [lkUpd_other _ _ (by decide)];exact hP.a c,fun c=>by rw [lkUpd_other _ _ (by decide)];exact hP.b c,fun c c'=>by rw [lkUpd_other _ _ (by decide),lkUpd_other _ _ (by decide)];exact hP.ap c c',fun _=>⟨h3,by rw [lkUpd_same,lkUpd_other _ _ (by decide)]⟩,fun c=>by rw [lkUpd_other _ _ (by decide),lkUpd_other _ _ (by decide)];exact hP.e9 c⟩
theorem StC.do9 (h:StC wl T N n1 n2 xs1 xs2 ([3,7,8,9].map L) Y w) (hi:L 9=false) (h7:L 7=true):StC wl T N n1 n2 xs1 xs2 ([3,7,8,9].map (updB L 9)) (updV Y 9 (Y 7)) w:=by
 have hP:=h.get
 refine ⟨L 3,L 7,L 8,true,by simp [updB],?_⟩
 exact ⟨hP.calm,fun c=>by rw [lkUpd_other _ _ (by decide)];exact hP.a c,fun c=>by rw [lkUpd_other _ _ (by decide)];exact hP.b c,fun c c'=>by rw [lkUpd_other _ _ (by decide),lkUpd_other _ _ (by decide)];exact hP.ap c c',fun c=>by rw [lkUpd_other _ _ (by decide),lkUpd_other _ _ (by decide)];exact hP.e8 c,fun _=>⟨h7,by rw [lkUpd_same,lkUpd_other _ _ (by decide)]⟩⟩
theorem StC.done (h:StC wl T N n1 n2 xs1 xs2 ([3,7,8,9].map fun _=>true) Y w):Calm wl w∧w.ownsRow wl.heap.size T N (Y 3) n1 xs1∧w.ownsRow wl.heap.size T N (Y 7) n2 xs2∧Y 8=Y 3∧Y 9=Y 7∧Away (Y 3) (Y 7):=by
 have hP:=h.get
 exact ⟨hP.calm,hP.a rfl,hP.b rfl,(hP.e8 rfl).2,(hP.e9 rfl).2,hP.ap rfl rfl⟩
end
theorem LiesI.take {w:World} {A:Option Addr} {l:List Int} (h:LiesI w A l) (m:Nat):LiesI w A (l.take m):=fun hp=>by
 rw [List.length_take] at hp
 obtain ⟨b,q,hA,hb,hc⟩:=h (by omega)
 exact ⟨b,q,hA,hb,fun k x hx=>hc k x (at_take hx).2⟩
theorem LiesI.drop {w:World} {b q:Nat} {l:List Int} (h:LiesI w (some ⟨b,q,none⟩) l) (m:Nat):LiesI w (some ⟨b,q+m,none⟩) (l.drop m):=fun hp=>by
 rw [List.length_drop] at hp
 obtain ⟨b',q',hA,hb,hc⟩:=h (by omega)
 injection hA with hA
 injection hA with h1 h2
 subst h1;subst h2
 refine ⟨b,q+m,rfl,hb,fun k x hx=>?_⟩
 rw [List.getElem?_drop] at hx
 have:=hc _ x hx
 rw [show q+m+k=q+(m+k) by omega];exact this
theorem Lies.take {w:World} {A:Option Addr} {l:List El} (h:Lies w A l) (m:Nat):Lies w A (l.take m):=⟨fun e he=>h.1 e (List.mem_of_mem_take he),fun hp=>by
 rw [List.length_take] at hp
 obtain ⟨b,q,hA,hb,hc⟩:=h.2 (by omega)
 exact ⟨b,q,hA,hb,fun k x hx=>hc k x (at_take hx).2⟩⟩
theorem Lies.drop {w:World} {b q:Nat} {l:List El} (h:Lies w (some ⟨b,q,none⟩) l) (m:Nat):Lies w (some ⟨b,q+m * 6,none⟩) (l.drop m):=⟨fun e he=>h.1 e (List.mem_of_mem_drop he),fun hp=>by
 rw [List.length_drop] at hp
 obtain ⟨b',q',hA,hb,hc⟩:=h.2 (by omega)
 injection hA with hA
 injection hA with h1 h2
 subst h1;subst h2
 refine ⟨b,q+m * 6,rfl,hb,fun k x hx=>?_⟩
 rw [List.getElem?_drop] at hx
 have:=hc _ x hx
 rw [show q+m * 6+k * 6=q+(m+k) * 6 by omega];exact this⟩
set_option maxHeartbeats 4000000 in
theorem cutI_any (b q c m : Nat) (l : List Int) (w : World) (hl : l.length ≤ 400) (hm : m < l.length) (hc : l.length ≤ c) (h : LiesI w (some ⟨b, q, none⟩) l) :
    Calls Try.prog 152 #[.slice (some ⟨b, q, none⟩) l.length c, .int .i64 (m : Int)] w fun e w' => ∃ v1 v2, e = .returned (.tuple #[v1, v2]) ∧ OwnI w.heap.size w' v1 (l.take m) ∧ OwnI w.heap.size w' v2 (l.drop m) ∧ Away v1 v2 ∧ Calm w w' := by
  have hlt : (l.take m).length = m := by rw [List.length_take]; omega
  have hld : (l.drop m).length = l.length - m := List.length_drop
  have L1 : LiesI w (some ⟨b, q, none⟩) (l.take m) := h.take m
  have L2 : LiesI w (some ⟨b, q + m, none⟩) (l.drop m) := h.drop m
  have C1 := fun u (hu : Calm w u) => cloneI_any (some ⟨b, q, none⟩) c (l.take m) u (by omega) (L1.calm hu)
  have C2 := fun u (hu : Calm w u) => cloneI_any (some ⟨b, q + m, none⟩) (c - m) (l.drop m) u (by omega) (L2.calm hu)
  rw [hlt] at C1
  rw [hld] at C2
  unfold OwnI at C1 C2 ⊢
  rw [hlt] at C1 ⊢
  rw [hld] at C2 ⊢
  generalize iv (l.take m) = xs1 at C1 ⊢
  generalize iv (l.drop m) = xs2 at C2 ⊢
  generalize l.length = n at *
  have hmn : m ≤ n := by omega
  have hmc : m ≤ c := by omega
  have hmc2 : ¬ (c = m) := by omega
  have hmi : (m : Int) ≤ (n : Int) := by omega
  have hmi2 : (m : Int) ≤ (c : Int) := by omega
  have hm0 : (0 : Int) ≤ (m : Int) := by omega
  clear hlt hld L1 L2 h hl hm hc
  go_enter Try.func152, Try.ntmps152
  generalize hQ0 : bodyPost Try.prog Try.f152 _ = Q0
  have HRET : Hid (∀ a w' v1 v2, a.defers = [] → a.tmps.getD 4 undef = v1 → a.tmps.getD 5 undef = v2 → w'.ownsRow w.heap.size 3 1 v1 m xs1 → w'.ownsRow w.heap.size 3 1 v2 (n - m) xs2 → Away v1 v2 → Calm w w' → Q0 .ret a w') := show ∀ a w' v1 v2, _ → _ → _ → _ → _ → _ → _ → _ from fun a w' v1 v2 h0 h1 h2 h3 h4 h5 h6 => by
    rw [← hQ0]
    exact bodyPost_ret (v := .tuple #[v1, v2]) (by simp only [Array.getD_eq_getD_getElem?] at h1 h2; simp [results, Try.f152, h1, h2]) h0 ⟨_, _, rfl, h3, h4, h5, h6⟩
  clear hQ0
  go_upto_region 1 with fail
  refine wp_region_stages [.val (.slice (some ⟨b, q, none⟩) n c), .val (.int .i64 (m : Int)), .val (.slice (some ⟨b, q, none⟩) m c), .late, .val (.slice (some ⟨b, q, none⟩) n c), .val (.int .i64 (m : Int)), .val (.slice (some ⟨b, q + m, none⟩) (n - m) (c - m)), .late, .late [3], .late [7]] [3, 7, 8, 9]
    (StC w 3 1 m (n - m) xs1 xs2) (by kernel_rfl) (by kernel_rfl) (by kernel_rfl) StC.stay (fun Y => (StC.start (Calm.refl w).drew)) (fun Y => ?_)
  iterate 3
    refine planS_val (by kernel_rfl) (fun L u hb hS => ?_) ?_
    · clear hS hb
      go_simp
    simp only [Act.put, List.setIfInBounds_toArray, List.set_cons_zero, List.set_cons_succ, Nat.reduceAdd]
  refine planS_late (fun L u hi hb hS => ?_) ?_
  · obtain ⟨hP, hK⟩ := hS.do3 hi
    have HP := Lib.hid hP
    have HK := Lib.hid hK
    clear hS hP hK hb
    go_wp2_with (go_at_call 122; (with_reducible refine (C1 _ HP.out.calm).mono ?_); rintro e w9 ⟨v9, rfl, ho9, hb9⟩)
    exact HK.out _ _ ho9 hb9
  simp only [Act.put, List.setIfInBounds_toArray, List.set_cons_zero, List.set_cons_succ, Nat.reduceAdd]
  iterate 3
    refine planS_val (by kernel_rfl) (fun L u hb hS => ?_) ?_
    · clear hS hb
      go_simp
    simp only [Act.put, List.setIfInBounds_toArray, List.set_cons_zero, List.set_cons_succ, Nat.reduceAdd]
  refine planS_late (fun L u hi hb hS => ?_) ?_
  · obtain ⟨hP, hK⟩ := hS.do7 hi
    have HP := Lib.hid hP
    have HK := Lib.hid hK
    clear hS hP hK hb
    go_wp2_with (go_at_call 122; (with_reducible refine (C2 _ HP.out.calm).mono ?_); rintro e w9 ⟨v9, rfl, ho9, hb9⟩)
    exact HK.out _ _ ho9 hb9
  simp only [Act.put, List.setIfInBounds_toArray, List.set_cons_zero, List.set_cons_succ, Nat.reduceAdd]
  refine planS_late (fun L u hi hb hS => ?_) ?_
  · have HK := Lib.hid (hS.do8 hi (hb 3 (by simp)))
    clear hS hb
    go_wp2_with fail
    exact HK.out
  simp only [Act.put, List.setIfInBounds_toArray, List.set_cons_zero, List.set_cons_succ, Nat.reduceAdd]
  refine planS_late (fun L u hi hb hS => ?_) ?_
  · have HK := Lib.hid (hS.do9 hi (hb 7 (by simp)))
    clear hS hb
    go_wp2_with fail
    exact HK.out
  simp only [Act.put, List.setIfInBounds_toArray, List.set_cons_zero, List.set_cons_succ, Nat.reduceAdd]
  refine planS_end ?_
  intro w4 hS
  obtain ⟨hc4, o1, o2, e8, e9, ha⟩ := hS.done
  rw [e8, e9]
  generalize Y 3 = v1 at *
  generalize Y 7 = v2 at *
  clear hS C1 C2 e8 e9
  have HE := Lib.hid (HRET.out · w4 v1 v2 · · · o1 o2 ha hc4)
  clear o1 o2 ha hc4
  go_wp2_with fail
  exact HE.out _ rfl rfl rfl
set_option maxHeartbeats 4000000 in
theorem cutE_any (b q c m : Nat) (l : List El) (w : World) (hl : l.length ≤ 400) (hm : m < l.length) (hc : l.length ≤ c) (h : Lies w (some ⟨b, q, none⟩) l) :
    Calls Try.prog 151 #[.slice (some ⟨b, q, none⟩) l.length c, .int .i64 (m : Int)] w fun e w' => ∃ v1 v2, e = .returned (.tuple #[v1, v2]) ∧ OwnR w.heap.size w' v1 (l.take m) ∧ OwnR w.heap.size w' v2 (l.drop m) ∧ Away v1 v2 ∧ Calm w w' := by
  have hlt : (l.take m).length = m := by rw [List.length_take]; omega
  have hld : (l.drop m).length = l.length - m := List.length_drop
  have L1 : Lies w (some ⟨b, q, none⟩) (l.take m) := h.take m
  have L2 : Lies w (some ⟨b, q + m * 6, none⟩) (l.drop m) := h.drop m
  have C1 := fun u (hu : Calm w u) => clone_any (some ⟨b, q, none⟩) c (l.take m) u (by omega) (L1.calm hu)
  have C2 := fun u (hu : Calm w u) => clone_any (some ⟨b, q + m * 6, none⟩) (c - m) (l.drop m) u (by omega) (L2.calm hu)
  rw [hlt] at C1
  rw [hld] at C2
  unfold OwnR at C1 C2 ⊢
  rw [hlt] at C1 ⊢
  rw [hld] at C2 ⊢
  generalize cellsOf (l.take m) = xs1 at C1 ⊢
  generalize cellsOf (l.drop m) = xs2 at C2 ⊢
  generalize l.length = n at *
  have hmn : m ≤ n := by omega
  have hmc : m ≤ c := by omega
  have hmc2 : ¬ (c = m) := by omega
  have hmi : (m : Int) ≤ (n : Int) := by omega
  have hmi2 : (m : Int) ≤ (c : Int) := by omega
  have hm0 : (0 : Int) ≤ (m : Int) := by omega
  clear hlt hld L1 L2 h hl hm hc
  go_enter Try.func151, Try.ntmps151
  generalize hQ0 : bodyPost Try.prog Try.f151 _ = Q0
  have HRET : Hid (∀ a w' v1 v2, a.defers = [] → a.tmps.getD 4 undef = v1 → a.tmps.getD 5 undef = v2 → w'.ownsRow w.heap.size 43 6 v1 m xs1 → w'.ownsRow w.heap.size 43 6 v2 (n - m) xs2 → Away v1 v2 → Calm w w' → Q0 .ret a w') := show ∀ a w' v1 v2, _ → _ → _ → _ → _ → _ → _ → _ from fun a w' v1 v2 h0 h1 h2 h3 h4 h5 h6 => by
    rw [← hQ0]
    exact bodyPost_ret (v := .tuple #[v1, v2]) (by simp only [Array.getD_eq_getD_getElem?] at h1 h2; simp [results, Try.f151, h1, h2]) h0 ⟨_, _, rfl, h3, h4, h5, h6⟩
  clear hQ0
  go_upto_region 1 with fail
  refine wp_region_stages [.val (.slice (some ⟨b, q, none⟩) n c), .val (.int .i64 (m : Int)), .val (.slice (some ⟨b, q, none⟩) m c), .late, .val (.slice (some ⟨b, q, none⟩) n c), .val (.int .i64 (m : Int)), .val (.slice (some ⟨b, q + m * 6, none⟩) (n - m) (c - m)), .late, .late [3], .late [7]] [3, 7, 8, 9]
    (StC w 43 6 m (n - m) xs1 xs2) (by kernel_rfl) (by kernel_rfl) (by kernel_rfl) StC.stay (fun Y => (StC.start (Calm.refl w).drew)) (fun Y => ?_)
  iterate 3
    refine planS_val (by kernel_rfl) (fun L u hb hS => ?_) ?_
    · clear hS hb
      go_simp
    simp only [Act.put, List.setIfInBounds_toArray, List.set_cons_zero, List.set_cons_succ, Nat.reduceAdd]
  refine planS_late (fun L u hi hb hS => ?_) ?_
  · obtain ⟨hP, hK⟩ := hS.do3 hi
    have HP := Lib.hid hP
    have HK := Lib.hid hK
    clear hS hP hK hb
    go_wp2_with (go_at_call 32; (with_reducible refine (C1 _ HP.out.calm).mono ?_); rintro e w9 ⟨v9, rfl, ho9, hb9⟩)
    exact HK.out _ _ ho9 hb9
  simp only [Act.put, List.setIfInBounds_toArray, List.set_cons_zero, List.set_cons_succ, Nat.reduceAdd]
  iterate 3
    refine planS_val (by kernel_rfl) (fun L u hb hS => ?_) ?_
    · clear hS hb
      go_simp
    simp only [Act.put, List.setIfInBounds_toArray, List.set_cons_zero, List.set_cons_succ, Nat.reduceAdd]
  refine planS_late (fun L u hi hb hS => ?_) ?_
  · obtain ⟨hP, hK⟩ := hS.do7 hi
    have HP := Lib.hid hP
    have HK := Lib.hid hK
    clear hS hP hK hb
    go_wp2_with (go_at_call 32; (with_reducible refine (C2 _ HP.out.calm).mono ?_); rintro e w9 ⟨v9, rfl, ho9, hb9⟩)
    exact HK.out _ _ ho9 hb9
  simp only [Act.put, List.setIfInBounds_toArray, List.set_cons_zero, List.set_cons_succ, Nat.reduceAdd]
  refine planS_late (fun L u hi hb hS => ?_) ?_
  · have HK := Lib.hid (hS.do8 hi (hb 3 (by simp)))
    clear hS hb
    go_wp2_with fail
    exact HK.out
  simp only [Act.put, List.setIfInBounds_toArray, List.set_cons_zero, List.set_cons_succ, Nat.reduceAdd]
  refine planS_late (fun L u hi hb hS => ?_) ?_
  · have HK := Lib.hid (hS.do9 hi (hb 7 (by simp)))
    clear hS hb
    go_wp2_with fail
    exact HK.out
  simp only [Act.put, List.setIfInBounds_toArray, List.set_cons_zero, List.set_cons_succ, Nat.reduceAdd]
  refine planS_end ?_
  intro w4 hS
  obtain ⟨hc4, o1, o2, e8, e9, ha⟩ := hS.done
  rw [e8, e9]
  generalize Y 3 = v1 at *
  generalize Y 7 = v2 at *
  clear hS C1 C2 e8 e9
  have HE := Lib.hid (HRET.out · w4 v1 v2 · · · o1 o2 ha hc4)
  clear o1 o2 ha hc4
  go_wp2_with fail
  exact HE.out _ rfl rfl rfl
open Go.RowKit
def ndZ:Array Value:=#[.int .i64 0,.slice none 0 0,.slice none 0 0,.slice none 0 0,.slice none 0 0]
def spZ:Array Value:=#[.int .i64 0,.int .i64 0,.int .i64 0,.int .i64 0]
def nd1:Array Value:=#[.int .i64 1,.slice none 0 0,.slice none 0 0,.slice none 0 0,.slice none 0 0]
structure Tri (wl:World) (g:Nat) (X2 X3 X4:Array Value) (u:World):Prop where
 mod:Mod (fun k=>k=g+1∨k=g+2∨k=g+3) wl u
 lt:g+3<wl.heap.size
 b2:u.heap[g+1]?=some (.cells X2 32 (0,0))
 b3:u.heap[g+2]?=some (.cells X3 32 (0,0))
 b4:u.heap[g+3]?=some (.cells X4 62 (0,0))
section
variable {wl u u':World} {g:Nat} {X2 X3 X4 X:Array Value}
theorem Tri.stay (h:Tri wl g X2 X3 X4 u) (hb:Calm u u'):Tri wl g X2 X3 X4 u' :=
 ⟨h.mod.call hb,h.lt,(hb.block (Array.getElem?_eq_some_iff.1 h.b2).1).trans h.b2,(hb.block (Array.getElem?_eq_some_iff.1 h.b3).1).trans h.b3,(hb.block (Array.getElem?_eq_some_iff.1 h.b4).1).trans h.b4⟩
theorem Tri.p (h:Tri wl g X2 X3 X4 u) {k:Nat} {o:Obj} (hk:k≤g) (ho:wl.heap[k]?=some o):u.heap[k]?=some o:=(h.mod.same k (Array.getElem?_eq_some_iff.1 ho).1 (by omega)).trans ho
theorem Tri.at2 (h:Tri wl g X2 X3 X4 u) (hm:Mod (fun k=>k=g+1) u u') (h2:u'.heap[g+1]?=some (.cells X 32 (0,0))):Tri wl g X X3 X4 u' :=
 ⟨h.mod.trans hm fun k hk=>.inl (.inl hk),h.lt,h2,(hm.same _ (Array.getElem?_eq_some_iff.1 h.b3).1 (by omega)).trans h.b3,(hm.same _ (Array.getElem?_eq_some_iff.1 h.b4).1 (by omega)).trans h.b4⟩
theorem Tri.at3 (h:Tri wl g X2 X3 X4 u) (hm:Mod (fun k=>k=g+2) u u') (h2:u'.heap[g+2]?=some (.cells X 32 (0,0))):Tri wl g X2 X X4 u' :=
 ⟨h.mod.trans hm fun k hk=>.inl (.inr (.inl hk)),h.lt,(hm.same _ (Array.getElem?_eq_some_iff.1 h.b2).1 (by omega)).trans h.b2,h2,(hm.same _ (Array.getElem?_eq_some_iff.1 h.b4).1 (by omega)).trans h.b4⟩
theorem Tri.at4 (h:Tri wl g X2 X3 X4 u) (hm:Mod (fun k=>k=g+3) u u') (h2:u'.heap[g+3]?=some (.cells X 62 (0,0))):Tri wl g X2 X3 X u' :=
 ⟨h.mod.trans hm fun k hk=>.inl (.inr (.inr hk)),h.lt,(hm.same _ (Array.getElem?_eq_some_iff.1 h.b2).1 (by omega)).trans h.b2,(hm.same _ (Array.getElem?_eq_some_iff.1 h.b3).1 (by omega)).trans h.b3,h2⟩
theorem Tri.set2 (h:Tri wl g X2 X3 X4 u) (j:Nat) (v:Value):Tri wl g (X2.setIfInBounds j v) X3 X4 (u.setCell ⟨g+1,j,none⟩ v):=h.at2 ((Mod.refl (fun k=>k=g+1) _).cell (.inl rfl) _ _) (box_set h.b2 j v)
theorem Tri.set3 (h:Tri wl g X2 X3 X4 u) (j:Nat) (v:Value):Tri wl g X2 (X3.setIfInBounds j v) X4 (u.setCell ⟨g+2,j,none⟩ v):=h.at3 ((Mod.refl (fun k=>k=g+2) _).cell (.inl rfl) _ _) (box_set h.b3 j v)
theorem Tri.set4 (h:Tri wl g X2 X3 X4 u) (j:Nat) (v:Value):Tri wl g X2 X3 (X4.setIfInBounds j v) (u.setCell ⟨g+3,j,none⟩ v):=h.at4 ((Mod.refl (fun k=>k=g+3) _).cell (.inl rfl) _ _) (box_set h.b4 j v)
end
theorem Tri.five2 {wl u:World} {g:Nat} {X2 X3 X4:Array Value} {a0 a1 a2 a3 a4:Value} (h:Tri wl g X2 X3 X4 u) (hX:X2=#[a0,a1,a2,a3,a4]) (b0 b1 b2 b3 b4:Value):Tri wl g #[b0,b1,b2,b3,b4] X3 X4 (World.five u (g+1) b0 b1 b2 b3 b4):=by
 subst hX
 have:=((((h.set2 0 b0).set2 1 b1).set2 2 b2).set2 3 b3).set2 4 b4
 simpa [World.five] using this
theorem Tri.five3 {wl u:World} {g:Nat} {X2 X3 X4:Array Value} {a0 a1 a2 a3 a4:Value} (h:Tri wl g X2 X3 X4 u) (hX:X3=#[a0,a1,a2,a3,a4]) (b0 b1 b2 b3 b4:Value):Tri wl g X2 #[b0,b1,b2,b3,b4] X4 (World.five u (g+2) b0 b1 b2 b3 b4):=by
 subst hX
 have:=((((h.set3 0 b0).set3 1 b1).set3 2 b2).set3 3 b3).set3 4 b4
 simpa [World.five] using this
theorem Tri.four4 {wl u:World} {g:Nat} {X2 X3 X4:Array Value} {a0 a1 a2 a3:Value} (h:Tri wl g X2 X3 X4 u) (b0 b1 b2 b3:Value) (hX:X4=#[a0,a1,a2,a3]):Tri wl g X2 X3 #[b0,b1,b2,b3] (World.four u (g+3) 0 b0 b1 b2 b3):=by
 subst hX
 have:=(((h.set4 0 b0).set4 1 b1).set4 2 b2).set4 3 b3
 simpa [World.four] using this
def StX (wl:World) (g:Nat) (X2 X3 X4:List Bool→(Nat→Value)→Array Value) (P:List Bool→(Nat→Value)→World→Prop):Stages:=fun bs Y u=>Tri wl g (X2 bs Y) (X3 bs Y) (X4 bs Y) u∧P bs Y u
theorem StX.stay {wl:World} {g:Nat} {X2 X3 X4:List Bool→(Nat→Value)→Array Value} {P:List Bool→(Nat→Value)→World→Prop} (hP:∀ bs Y w w',P bs Y w→Calm w w'→P bs Y w'):∀ bs Y w w',StX wl g X2 X3 X4 P bs Y w→Calm w w'→StX wl g X2 X3 X4 P bs Y w' :=
 fun bs Y w w' h hb=>⟨h.1.stay hb,hP bs Y w w' h.2 hb⟩
theorem results_nns {fn : Func} {p q r : Tmp} (h : fn.results = #[.cell p 32, .cell q 32, .cell r 62]) (tmps : Array Value) (w : World) (g1 g2 g3 : Nat) (c1 c2 c3 : Array Value)
    (hp : tmps.getD p undef = .pointer (some ⟨g1, 0, none⟩)) (hq : tmps.getD q undef = .pointer (some ⟨g2, 0, none⟩)) (hr : tmps.getD r undef = .pointer (some ⟨g3, 0, none⟩))
    (h1 : w.heap[g1]? = some (.cells c1 32 (0, 0))) (h2 : w.heap[g2]? = some (.cells c2 32 (0, 0))) (h3 : w.heap[g3]? = some (.cells c3 62 (0, 0))) (s1 : c1.size = 5) (s2 : c2.size = 5) (s3 : c3.size = 4) :
    (results fn tmps).run Try.prog w = .ok (.tuple #[.agg c1, .agg c2, .agg c3]) w := by
  have hp' : tmps[p]?.getD undef = .pointer (some ⟨g1, 0, none⟩) := by simpa using hp
  have hq' : tmps[q]?.getD undef = .pointer (some ⟨g2, 0, none⟩) := by simpa using hq
  have hr' : tmps[r]?.getD undef = .pointer (some ⟨g3, 0, none⟩) := by simpa using hr
  have i1 : (Try.prog.info? 32).map (·.size) = some c1.size := by rw [s1]; kernel_rfl
  have i2 : (Try.prog.info? 32).map (·.size) = some c2.size := by rw [s2]; kernel_rfl
  have i3 : (Try.prog.info? 62).map (·.size) = some c3.size := by rw [s3]; kernel_rfl
  simp [results, h, hp', hq', hr', asAddr, run_loadVar_row w g1 _ 32 c1 _ _ h1 Try.underlying32 rfl i1, run_loadVar_row w g2 _ 32 c2 _ _ h2 Try.underlying32 rfl i2, run_loadVar_row w g3 _ 62 c3 _ _ h3 Try.underlying62 rfl i3]
theorem end_nns {P : Program} {fn : Func} {p q r : Tmp} {Q : Ending → World → Prop} (hP : P = Try.prog) (h : fn.results = #[.cell p 32, .cell q 32, .cell r 62]) (a : Act) (w : World) (g1 g2 g3 : Nat) (c1 c2 c3 : Array Value) (hd : a.defers = [])
    (hp : a.tmps.getD p undef = .pointer (some ⟨g1, 0, none⟩)) (hq : a.tmps.getD q undef = .pointer (some ⟨g2, 0, none⟩)) (hr : a.tmps.getD r undef = .pointer (some ⟨g3, 0, none⟩))
    (h1 : w.heap[g1]? = some (.cells c1 32 (0, 0))) (h2 : w.heap[g2]? = some (.cells c2 32 (0, 0))) (h3 : w.heap[g3]? = some (.cells c3 62 (0, 0))) (s1 : c1.size = 5) (s2 : c2.size = 5) (s3 : c3.size = 4)
    (hQ : Q (.returned (.tuple #[.agg c1, .agg c2, .agg c3])) w) : bodyPost P fn Q .ret a w := by
  subst hP
  exact bodyPost_ret (results_nns h a.tmps w g1 g2 g3 c1 c2 c3 hp hq hr h1 h2 h3 s1 s2 s3) hd hQ
def HalvesEnd (w:World) (kd:Int) (E:List El) (K:List Int) (S:List Sp) (T:List Int) (m:Nat) (e:Ending) (w':World):Prop:=∃ (l r:Nd) (sep:Sp),e=.returned (.tuple #[.agg l.cells.toArray,.agg r.cells.toArray,spV sep]) ∧
 l.kd=kd∧l.E=E.take m∧l.K=K.take m∧l.S=S.take (m - 1)∧l.T=T.take m∧r.kd=kd∧r.E=E.drop m∧r.K=K.drop m∧r.S=S.drop m∧r.T=T.drop m∧((kd=1→∃ e,E[m]?=some e∧sep=e.sp)∧(kd=2→S[m - 1]?=some sep)) ∧
 NdO w.heap.size w' l∧NdO w.heap.size w' r∧(∀ j j' k,l.blk j=some k→l.blk j'=some k→j=j')∧(∀ j j' k,r.blk j=some k→r.blk j'=some k→j=j')∧(∀ j j' k,l.blk j=some k→r.blk j'≠some k)∧Calm w w'
theorem oneBlk {n:Nd} (h1:n.A2=none) (h2:n.A3=none) (h3:n.A4=none):∀ j k,n.blk j=some k→j=0:=fun j k hj=>by
 match j,hj with
 | 0,_=>rfl
 | 1,hj=>simp [Nd.blk,Value.ownBlock,h1] at hj
 | 2,hj=>simp [Nd.blk,Value.ownBlock,h2] at hj
 | 3,hj=>simp [Nd.blk,Value.ownBlock,h3] at hj
 |j+4,hj=>simp [Nd.blk] at hj
theorem half_num {n m:Nat} (hn:n≤100) (hm:m=(n+1) / 2):IntKind.i64.wrap ((n:Int)+1)=(n:Int)+1∧Int.tdiv ((n:Int)+1) 2=(m:Int)∧IntKind.i64.wrap (m:Int)=(m:Int):=by
 refine ⟨by rw [IntWalk.i64_in _ (by omega)],?_,by rw [IntWalk.i64_in _ (by omega)]⟩
 rw [Int.tdiv_eq_ediv_of_nonneg (by omega)];omega
set_option maxHeartbeats 16000000 in
theorem halvesL_any (A1 A2 A3 A4 : Option Addr) (c1 c2 c3 c4 : Nat) (E : List El) (w : World) (h : NdAt w A1 A2 A3 A4 E [] [] []) (h9 : 8 < E.length) (h16 : E.length ≤ 16) (hc : E.length ≤ c1) (m : Nat) (hm : m = (E.length + 1) / 2) :
    Calls Try.prog 146 #[.agg #[.int .i64 1, .slice A1 E.length c1, .slice A2 0 c2, .slice A3 0 c3, .slice A4 0 c4]] w (HalvesEnd w 1 E [] [] [] m) := by
  obtain ⟨b1, q1, hA1, hb1, -⟩ := h.e.2 (by omega)
  subst hA1
  have hmE : m < E.length := by omega
  have hm5 : 5 ≤ m := by omega
  have cS := fun u => size_any 1 (some ⟨b1, q1, none⟩) A2 A3 A4 c1 c2 c3 c4 E [] [] [] u (by omega) (by simp)
  simp only [List.length_nil, Nat.add_zero] at cS
  have cC := fun u (hu : Calm w u) => cutE_any b1 q1 c1 m E u (by omega) hmE hc (h.e.calm hu)
  obtain ⟨e1, e2, e3⟩ := half_num (n := E.length) (by omega) hm
  obtain ⟨z0, hz0⟩ : ∃ z0, E.drop m = z0 :: E.drop (m + 1) := ⟨_, List.drop_eq_getElem_cons hmE⟩
  have hz0' : E[m]? = some z0 := by
    have := congrArg (·[0]?) hz0
    simp only [List.getElem?_drop, Nat.add_zero, List.getElem?_cons_zero] at this
    exact this
  have hwf : ∀ e ∈ E, e.wf := h.e.1
  have hEl : (E.take m).length = m ∧ (E.drop m).length = E.length - m := ⟨by rw [List.length_take]; omega, List.length_drop⟩
  obtain ⟨NE, hNE⟩ : ∃ NE, NE = E.length := ⟨_, rfl⟩
  rw [← hNE] at cS cC e1 e2 h9 h16 hEl ⊢
  have hmE' : 0 < NE - m := by omega
  have HWF := Lib.hid hwf
  have HEL := Lib.hid hEl
  have HZ0 := Lib.hid hz0'
  have HM9 : Hid (NE ≤ 16 ∧ 8 < NE ∧ 5 ≤ m ∧ m < NE) := show _ ∧ _ from ⟨h16, h9, hm5, by omega⟩
  have HZ := Lib.hid hz0
  clear h hc hm hNE hz0 hz0' hwf hEl hmE h16 h9 hm5
  go_enter Try.func146, Try.ntmps146
  generalize hQ0 : bodyPost Try.prog Try.f146 (HalvesEnd w 1 E [] [] [] m) = Q0
  have HRET : Hid (∀ a w', bodyPost Try.prog Try.f146 (HalvesEnd w 1 E [] [] [] m) .ret a w' → Q0 .ret a w') := show ∀ _ _, _ → _ from fun a w' h => by rw [← hQ0]; exact h
  clear hQ0
  go_upto_region 1 with fail
  obtain ⟨w1, hw1⟩ : ∃ w1, w1 = (((w.alloc (.cells #[.int .i64 1, .slice (some ⟨b1, q1, none⟩) NE c1, .slice A2 0 c2, .slice A3 0 c3, .slice A4 0 c4] 32)).alloc (.cells ndZ 32)).alloc (.cells ndZ 32)).alloc (.cells spZ 62) := ⟨_, rfl⟩
  have hT1 : Tri w1 w.heap.size ndZ ndZ spZ w1 ∧ w1.heap[w.heap.size]? = some (.cells #[.int .i64 1, .slice (some ⟨b1, q1, none⟩) NE c1, .slice A2 0 c2, .slice A3 0 c3, .slice A4 0 c4] 32 (0, 0)) ∧ Calm w w1 := by
    rw [hw1]
    refine ⟨⟨Mod.refl _ _, by simp, ?_, ?_, ?_⟩, ?_, by repeat (first | (with_reducible exact Calm.refl _) | (with_reducible refine Calm.alloc ?_ _) | (with_reducible refine Calm.drew ?_) | (with_reducible refine Calm.drewN ?_ _) | (refine Calm.call ?_ (by with_reducible assumption)))⟩
    · exact heap_past _ (heap_past _ (by have := heap_new (w.alloc (.cells #[.int .i64 1, .slice (some ⟨b1, q1, none⟩) NE c1, .slice A2 0 c2, .slice A3 0 c3, .slice A4 0 c4] 32)) (.cells ndZ 32); rw [World.size_alloc] at this; exact this))
    · exact heap_past _ (by have := heap_new ((w.alloc (.cells #[.int .i64 1, .slice (some ⟨b1, q1, none⟩) NE c1, .slice A2 0 c2, .slice A3 0 c3, .slice A4 0 c4] 32)).alloc (.cells ndZ 32)) (.cells ndZ 32); rw [World.size_alloc, World.size_alloc] at this; exact this)
    · have := heap_new (((w.alloc (.cells #[.int .i64 1, .slice (some ⟨b1, q1, none⟩) NE c1, .slice A2 0 c2, .slice A3 0 c3, .slice A4 0 c4] 32)).alloc (.cells ndZ 32)).alloc (.cells ndZ 32)) (.cells spZ 62)
      rw [World.size_alloc, World.size_alloc, World.size_alloc] at this; exact this
    · exact heap_past _ (heap_past _ (heap_past _ (heap_new _ _)))
  unfold ndZ spZ at hw1
  rw [← hw1]
  clear hw1
  obtain ⟨hT1, hx1, hu1⟩ := hT1
  obtain ⟨x0, x1, x2, x3, x4, hxs⟩ := row5 hx1
  go_upto_region 2 with (go_at_call 129; (with_reducible refine (cS _).mono ?_); rintro e w2 ⟨rfl, hb2⟩; have hT2 := hT1.stay hb2; have hx2 := (hb2.block (row5 hx1).2.2.2.2.2).trans hx1; have hu2 := hu1.call hb2; clear hT1 hb2 x0 x1 x2 x3 x4 hxs)
  have hl2 := (row5 hx2).2.2.2.2.2
  refine wp_region_stages [.val (.pointer (some ⟨w.heap.size, 0, none⟩)), .val (.int .i64 1), .val (.pointer (some ⟨w.heap.size, 0, none⟩)), .val (.int .i64 1), .val (.pointer (some ⟨w.heap.size + 1, 0, none⟩)), .late, .val (.pointer (some ⟨w.heap.size + 2, 0, none⟩)), .late] [5, 7]
    (StX w1 w.heap.size (fun bs _ => if bs.getD 0 false then nd1 else ndZ) (fun bs _ => if bs.getD 1 false then nd1 else ndZ) (fun _ _ => spZ) (fun _ _ u => Calm w u)) (by kernel_rfl) (by kernel_rfl) (by kernel_rfl) (StX.stay fun _ _ _ _ h hb => h.call hb) (fun Y => ⟨hT2.stay (Calm.refl w2).drew, hu2.call (Calm.refl w2).drew⟩) (fun Y => ?_)
  iterate 5
    refine planS_val (by kernel_rfl) (fun L u hb hS => ?_) ?_
    · obtain ⟨x0, x1, x2, x3, x4, hxs⟩ := row5 (hS.1.p (Nat.le_refl _) hx1)
      clear hS hb
      go_simp
    simp only [Act.put, List.setIfInBounds_toArray, List.set_cons_zero, List.set_cons_succ, Nat.reduceAdd]
  refine planS_late (fun L u hi hb hS => ?_) ?_
  · have hT := hS.1
    obtain ⟨f0, f1, f2, f3, f4⟩ := free5 hT.b2
    have hy := hT.b2
    simp only [List.map_cons, List.map_nil, List.getD_cons_zero, hi, Bool.false_eq_true, if_false] at hy
    unfold ndZ at hy
    obtain ⟨y0, y1, y2, y3, y4, hys⟩ := row5 hy
    have hq := hT.set2 0 (.int .i64 1)
    have HQ : Hid (∀ y, StX w1 w.heap.size (fun bs _ => if bs.getD 0 false then nd1 else ndZ) (fun bs _ => if bs.getD 1 false then nd1 else ndZ) (fun _ _ => spZ) (fun _ _ u => Calm w u) ([5, 7].map (updB L 5)) (updV Y 5 y) (u.setCell ⟨w.heap.size + 1, 0, none⟩ (.int .i64 1))) := show ∀ _, _ from fun y => ⟨by simp [hi, updB, nd1, ndZ] at hq ⊢; exact hq, hS.2.setCell (p := ⟨w.heap.size + 1, 0, none⟩) (Nat.le_succ _) _⟩
    clear hS hb hT hq hy
    go_wp2_with fail
    exact ⟨undef, HQ.out undef⟩
  simp only [Act.put, List.setIfInBounds_toArray, List.set_cons_zero, List.set_cons_succ, Nat.reduceAdd]
  refine planS_val (by kernel_rfl) (fun L u hb hS => ?_) ?_
  · clear hS hb
    go_simp
  simp only [Act.put, List.setIfInBounds_toArray, List.set_cons_zero, List.set_cons_succ, Nat.reduceAdd]
  refine planS_late (fun L u hi hb hS => ?_) ?_
  · have hT := hS.1
    obtain ⟨f0, f1, f2, f3, f4⟩ := free5 hT.b3
    have hy := hT.b3
    simp only [List.map_cons, List.map_nil, List.getD_cons_zero, List.getD_cons_succ, hi, Bool.false_eq_true, if_false] at hy
    unfold ndZ at hy
    obtain ⟨y0, y1, y2, y3, y4, hys⟩ := row5 hy
    have hq := hT.set3 0 (.int .i64 1)
    have HQ : Hid (∀ y, StX w1 w.heap.size (fun bs _ => if bs.getD 0 false then nd1 else ndZ) (fun bs _ => if bs.getD 1 false then nd1 else ndZ) (fun _ _ => spZ) (fun _ _ u => Calm w u) ([5, 7].map (updB L 7)) (updV Y 7 y) (u.setCell ⟨w.heap.size + 2, 0, none⟩ (.int .i64 1))) := show ∀ _, _ from fun y => ⟨by simp [hi, updB, nd1, ndZ] at hq ⊢; exact hq, hS.2.setCell (p := ⟨w.heap.size + 2, 0, none⟩) (Nat.le_add_right _ _) _⟩
    clear hS hb hT hq hy
    go_wp2_with fail
    exact ⟨undef, HQ.out undef⟩
  simp only [Act.put, List.setIfInBounds_toArray, List.set_cons_zero, List.set_cons_succ, Nat.reduceAdd]
  refine planS_end ?_
  intro w4 hS
  have hT4 : Tri w1 w.heap.size nd1 nd1 spZ w4 := by have := hS.1; simpa using this
  have hu4 : Calm w w4 := hS.2
  clear hS hT2 hx2 hu2 hl2 cS
  have hx4 := hT4.p (Nat.le_refl _) hx1
  obtain ⟨x0, x1, x2, x3, x4, hxs⟩ := row5 hx4
  unfold nd1 at hT4
  have HL4 : Hid (w.heap.size + 3 < w4.heap.size) := show _ < _ from Nat.lt_of_lt_of_le hT4.lt hT4.mod.size
  go_upto_region 5 with (go_at_call 151; (with_reducible refine (cC _ hu4).mono ?_); rintro e w5 ⟨v1, v2, rfl, o1, o2, ha, hb5⟩; have hT5 := hT4.stay hb5; have hu5 := hu4.call hb5; obtain ⟨B1, d1, r1⟩ := o1.slice; obtain ⟨B2, d2, r2⟩ := o2.slice; rw [HEL.out.1] at r1; rw [HEL.out.2] at r2; subst r1; subst r2; have HO1 := Lib.hid o1; have HO2 := Lib.hid o2; have HA := Lib.hid ha; have HT5 := Lib.hid hT5; have HU5 := Lib.hid hu5; obtain ⟨f0, f1, f2, f3, f4⟩ := free5 hT5.b2; obtain ⟨j0, j1, j2, j3, j4⟩ := free5 hT5.b3; obtain ⟨y0, y1, y2, y3, y4, hys⟩ := row5 hT5.b2; obtain ⟨k0, k1, k2, k3, k4, hks⟩ := row5 hT5.b3; clear hT4 hb5 o1 o2 ha hx4 hu4 hT5 hu5 x0 x1 x2 x3 x4 hxs)
  have hT6 := (HT5.out.set2 1 (.slice B1 m d1)).set3 1 (.slice B2 (NE - m) d2)
  have hO1 := rows_set (rows_set HO1.out (Nat.lt_of_le_of_lt (by omega) HL4.out : w.heap.size + 1 < _) 1 (.slice B1 m d1)) (Nat.lt_of_le_of_lt (by omega) HL4.out : w.heap.size + 2 < _) 1 (.slice B2 (NE - m) d2)
  have hO2 := rows_set (rows_set HO2.out (Nat.lt_of_le_of_lt (by omega) HL4.out : w.heap.size + 1 < _) 1 (.slice B1 m d1)) (Nat.lt_of_le_of_lt (by omega) HL4.out : w.heap.size + 2 < _) 1 (.slice B2 (NE - m) d2)
  have hu6 := (HU5.out.setCell (p := ⟨w.heap.size + 1, 1, none⟩) (Nat.le_succ _) (.slice B1 m d1)).setCell (p := ⟨w.heap.size + 2, 1, none⟩) (Nat.le_add_right _ _) (.slice B2 (NE - m) d2)
  clear HO1 HO2 HT5 HU5 f0 f1 f2 f3 f4 j0 j1 j2 j3 j4 y0 y1 y2 y3 y4 hys k0 k1 k2 k3 k4 hks
  generalize (w5.setCell ⟨w.heap.size + 1, 1, none⟩ (.slice B1 m d1)).setCell ⟨w.heap.size + 2, 1, none⟩ (.slice B2 (NE - m) d2) = w6 at hT6 hO1 hO2 hu6 ⊢
  simp only [List.setIfInBounds_toArray, List.set_cons_zero, List.set_cons_succ] at hT6
  obtain ⟨g2, cap2, hB2⟩ : ∃ g2 cap2, B2 = some ⟨g2, 0, none⟩ ∧ d2 = cap2 ∧ NE - m ≤ d2 := by
    rcases hO2.2 with ⟨h1, -⟩ | ⟨g', cap', cur', h1, -, -, h2, -⟩
    · injection h1 with _ h1; omega
    · injection h1 with h1 _ h3; exact ⟨g', cap', h1, h3, by have := HEL.out.2; omega⟩
  obtain ⟨hB2, -, hd2⟩ := hB2
  subst hB2
  obtain ⟨lc, hlc⟩ : ∃ lc : Array Value, lc = #[.int .i64 1, .slice B1 m d1, .slice none 0 0, .slice none 0 0, .slice none 0 0] := ⟨_, rfl⟩
  obtain ⟨rc, hrc⟩ : ∃ rc : Array Value, rc = #[.int .i64 1, .slice (some ⟨g2, 0, none⟩) (NE - m) d2, .slice none 0 0, .slice none 0 0, .slice none 0 0] := ⟨_, rfl⟩
  obtain ⟨sc, hsc⟩ : ∃ sc : Array Value, sc = #[.int .i64 z0.p, .int .i64 z0.o, .int .i64 z0.f, .int .i64 z0.m] := ⟨_, rfl⟩
  rw [← hlc, ← hrc] at hT6
  have HLC := Lib.hid hlc
  have HRC := Lib.hid hrc
  have HSC := Lib.hid hsc
  obtain ⟨PO, hPO⟩ : ∃ PO : List Bool → (Nat → Value) → World → Prop, PO = fun _ _ u => Calm w u ∧ OwnR w4.heap.size u (.slice B1 m d1) (E.take m) ∧ OwnR w4.heap.size u (.slice (some ⟨g2, 0, none⟩) (NE - m) d2) (E.drop m) := ⟨_, rfl⟩
  have HPO := Lib.hid hPO
  have hPs : ∀ bs Y u u', PO bs Y u → Calm u u' → PO bs Y u' := fun bs Y u u' h hb => by rw [hPO] at h ⊢; exact ⟨h.1.call hb, rows_calm h.2.1 hb, rows_calm h.2.2 hb⟩
  have hP6 : ∀ Y, PO [false, false, false] Y w6 := fun Y => by rw [hPO]; exact ⟨hu6, hO1, hO2⟩
  have HPS : Hid (∀ bs Y bs' Y' u gg j v, PO bs Y u → gg = w.heap.size + 1 ∨ gg = w.heap.size + 2 ∨ gg = w.heap.size + 3 → PO bs' Y' (u.setCell ⟨gg, j, none⟩ v)) := show ∀ _ _ _ _ _ _ _ _, _ → _ → _ from fun bs Y bs' Y' u gg j v h hg => by
    rw [hPO] at h ⊢
    have hgl : gg < w4.heap.size := by have := HL4.out; omega
    exact ⟨h.1.setCell (p := ⟨gg, j, none⟩) (by show w.heap.size ≤ gg; omega) _, rows_set h.2.1 hgl j v, rows_set h.2.2 hgl j v⟩
  have hel : ∀ L u Y, StX w1 w.heap.size (fun _ _ => lc) (fun _ _ => rc) (fun bs _ => if bs.getD 2 false then sc else spZ) PO (([7, 8, 9] : List Nat).map L) Y u → ElAt u g2 0 z0 ∧ g2 < u.heap.size ∧ z0.wf := fun L u Y hS => by
    have h := hS.2
    rw [hPO] at h
    have hl := OwnR.at_ h.2.2 fun e he => HWF.out e (List.mem_of_mem_drop he)
    obtain ⟨b', q', hA, hb', hk⟩ := hl.2 (by rw [HEL.out.2]; omega)
    injection hA with hA
    injection hA with a1 a2
    subst a1; subst a2
    have := hk 0 z0 (by rw [HZ.out]; rfl)
    rw [Nat.zero_mul, Nat.add_zero] at this
    exact ⟨this, hb', HWF.out _ (List.mem_of_getElem? HZ0.out)⟩
  have HEA := Lib.hid hel
  clear hlc hrc hsc hPO hel hO1 hO2 hu6
  obtain ⟨zp, zo, zf, zm, zg, zs⟩ := z0
  simp only at HSC HEA HZ0 HZ
  have hn0 : (0 : Int) < ((NE - m : Nat) : Int) := by omega
  refine wp_region_stages [.val (.agg lc), .val (.agg rc), .val (.pointer (some ⟨w.heap.size + 2, 1, none⟩)), .val (.slice (some ⟨g2, 0, none⟩) (NE - m) d2), .val (.pointer (some ⟨g2, 0, none⟩)), .val (.agg #[.int .i64 zp, .int .i64 zo, .int .i64 zf, .int .i64 zm, .int .i64 zg, .string zs]), .val (.agg #[.int .i64 zp, .int .i64 zo, .int .i64 zf, .int .i64 zm]), .late, .late [7], .late [8]] [7, 8, 9]
    (StX w1 w.heap.size (fun _ _ => lc) (fun _ _ => rc) (fun bs _ => if bs.getD 2 false then sc else spZ) PO) (by kernel_rfl) (by kernel_rfl) (by kernel_rfl) (StX.stay hPs) (fun Y => ⟨hT6.stay (Calm.refl w6).drew, hPs _ _ _ _ (hP6 Y) (Calm.refl w6).drew⟩) (fun Y => ?_)
  iterate 7
    refine planS_val (by kernel_rfl) (fun L u hb hS => ?_) ?_
    · have hb2 := hS.1.b2
      have hb3 := hS.1.b3
      obtain ⟨⟨a0, a1, a2, a3, a4, a5⟩, hg2, -⟩ := HEA.out _ _ _ hS
      first | rw [HLC.out] at hb2 ⊢ | rw [HLC.out] at hb2
      first | rw [HRC.out] at hb3 ⊢ | rw [HRC.out] at hb3
      obtain ⟨y0, y1, y2, y3, y4, hys⟩ := row5 hb2
      obtain ⟨k0, k1, k2, k3, k4, hks⟩ := row5 hb3
      simp only [Nat.zero_add] at a0 a1 a2 a3 a4 a5
      clear hS hb hb2 hb3
      go_simp
      all_goals first
        | (go_at_call 28; exact spot_any _ _ _ _ _ _ _)
    simp only [Act.put, List.setIfInBounds_toArray, List.set_cons_zero, List.set_cons_succ, Nat.reduceAdd]
  refine planS_late (fun L u hi hb hS => ?_) ?_
  · have hT := hS.1
    have hQP := hS.2
    have hy := hT.b2
    rw [HLC.out] at hy
    have hq := hT.five2 HLC.out (.int .i64 1) (.slice B1 m d1) (.slice none 0 0) (.slice none 0 0) (.slice none 0 0)
    rw [← HLC.out] at hq
    have HQ : Hid (∀ y, (StX w1 w.heap.size (fun _ _ => lc) (fun _ _ => rc) (fun bs _ => if bs.getD 2 false then sc else spZ) PO) ([7, 8, 9].map (updB L 7)) (updV Y 7 y) (World.five u (w.heap.size + 1) (.int .i64 1) (.slice B1 m d1) (.slice none 0 0) (.slice none 0 0) (.slice none 0 0))) := show ∀ _, _ from fun y => by
      have k := fun j v u bs Y' h => HPS.out bs Y' ([7, 8, 9].map (updB L 7)) (updV Y 7 y) u (w.heap.size + 1) j v h (by omega)
      exact ⟨by simpa [updB] using hq, k 4 _ _ _ _ (k 3 _ _ _ _ (k 2 _ _ _ _ (k 1 _ _ _ _ (k 0 _ _ _ _ hQP))))⟩
    obtain ⟨y0, y1, y2, y3, y4, hys⟩ := row5 hy
    obtain ⟨f0, f1, f2, f3, f4⟩ := free5 hy
    rw [HLC.out] at HQ ⊢
    clear hS hb hT hQP hy hq
    go_wp2_with fail
    exact ⟨undef, HQ.out undef⟩
  simp only [Act.put, List.setIfInBounds_toArray, List.set_cons_zero, List.set_cons_succ, Nat.reduceAdd]
  refine planS_late (fun L u hi hb hS => ?_) ?_
  · have hT := hS.1
    have hQP := hS.2
    have hy := hT.b3
    rw [HRC.out] at hy
    have hq := hT.five3 HRC.out (.int .i64 1) (.slice (some ⟨g2, 0, none⟩) (NE - m) d2) (.slice none 0 0) (.slice none 0 0) (.slice none 0 0)
    rw [← HRC.out] at hq
    have HQ : Hid (∀ y, (StX w1 w.heap.size (fun _ _ => lc) (fun _ _ => rc) (fun bs _ => if bs.getD 2 false then sc else spZ) PO) ([7, 8, 9].map (updB L 8)) (updV Y 8 y) (World.five u (w.heap.size + 2) (.int .i64 1) (.slice (some ⟨g2, 0, none⟩) (NE - m) d2) (.slice none 0 0) (.slice none 0 0) (.slice none 0 0))) := show ∀ _, _ from fun y => by
      have k := fun j v u bs Y' h => HPS.out bs Y' ([7, 8, 9].map (updB L 8)) (updV Y 8 y) u (w.heap.size + 2) j v h (by omega)
      exact ⟨by simpa [updB] using hq, k 4 _ _ _ _ (k 3 _ _ _ _ (k 2 _ _ _ _ (k 1 _ _ _ _ (k 0 _ _ _ _ hQP))))⟩
    obtain ⟨y0, y1, y2, y3, y4, hys⟩ := row5 hy
    obtain ⟨f0, f1, f2, f3, f4⟩ := free5 hy
    rw [HRC.out] at HQ ⊢
    clear hS hb hT hQP hy hq
    go_wp2_with fail
    exact ⟨undef, HQ.out undef⟩
  simp only [Act.put, List.setIfInBounds_toArray, List.set_cons_zero, List.set_cons_succ, Nat.reduceAdd]
  refine planS_late (fun L u hi hb hS => ?_) ?_
  · have hT := hS.1
    have hQP := hS.2
    have hy := hT.b4
    simp only [List.map_cons, List.map_nil, List.getD_cons_zero, List.getD_cons_succ, hi, Bool.false_eq_true, if_false] at hy
    have hq := hT.four4 (.int .i64 zp) (.int .i64 zo) (.int .i64 zf) (.int .i64 zm) (by simp only [List.map_cons, List.map_nil, List.getD_cons_zero, List.getD_cons_succ, hi, Bool.false_eq_true, if_false]; rfl)
    rw [← HSC.out] at hq
    have HQ : Hid (∀ y, (StX w1 w.heap.size (fun _ _ => lc) (fun _ _ => rc) (fun bs _ => if bs.getD 2 false then sc else spZ) PO) ([7, 8, 9].map (updB L 9)) (updV Y 9 y) (World.four u (w.heap.size + 3) 0 (.int .i64 zp) (.int .i64 zo) (.int .i64 zf) (.int .i64 zm))) := show ∀ _, _ from fun y => by
      have k := fun j v u bs Y' h => HPS.out bs Y' ([7, 8, 9].map (updB L 9)) (updV Y 9 y) u (w.heap.size + 3) j v h (by omega)
      exact ⟨by simpa [updB] using hq, k 3 _ _ _ _ (k 2 _ _ _ _ (k 1 _ _ _ _ (k 0 _ _ _ _ hQP)))⟩
    unfold spZ at hy
    obtain ⟨y0, y1, y2, y3, hys⟩ := row4 hy
    obtain ⟨f0, f1, f2, f3, f4⟩ := free5 hy
    clear hS hb hT hQP hy hq
    go_wp2_with fail
    exact ⟨undef, HQ.out undef⟩
  simp only [Act.put, List.setIfInBounds_toArray, List.set_cons_zero, List.set_cons_succ, Nat.reduceAdd]
  refine planS_end ?_
  intro w7 hS
  have hT7 : Tri w1 w.heap.size lc rc sc w7 := by have := hS.1; simpa using this
  have hP7 := hS.2
  rw [HPO.out] at hP7
  rw [HLC.out, HRC.out, HSC.out] at hT7
  have HE : Hid (HalvesEnd w 1 E [] [] [] m (.returned (.tuple #[.agg #[.int .i64 1, .slice B1 m d1, .slice none 0 0, .slice none 0 0, .slice none 0 0], .agg #[.int .i64 1, .slice (some ⟨g2, 0, none⟩) (NE - m) d2, .slice none 0 0, .slice none 0 0, .slice none 0 0], .agg #[.int .i64 zp, .int .i64 zo, .int .i64 zf, .int .i64 zm]])) w7) := by
    have hw4 : w.heap.size ≤ w4.heap.size := by have := HL4.out; omega
    have o1 : OwnR w4.heap.size w7 (.slice B1 (E.take m).length d1) (E.take m) := by rw [HEL.out.1]; exact hP7.2.1
    have o2 : OwnR w4.heap.size w7 (.slice (some ⟨g2, 0, none⟩) (E.drop m).length d2) (E.drop m) := by rw [HEL.out.2]; exact hP7.2.2
    have hm16 := HM9.out
    have hAp := HA.out
    refine show HalvesEnd _ _ _ _ _ _ _ _ _ from ⟨⟨1, B1, none, none, none, d1, 0, 0, 0, E.take m, [], [], []⟩, ⟨1, some ⟨g2, 0, none⟩, none, none, none, d2, 0, 0, 0, E.drop m, [], [], []⟩, ⟨zp, zo, zf, zm⟩, ?_, rfl, rfl, by simp, by simp, by simp, rfl, rfl, by simp, by simp, by simp, ⟨fun _ => ⟨_, HZ0.out, rfl⟩, fun h => by omega⟩, ?_, ?_, ?_, ?_, ?_, hP7.1⟩
    · unfold Nd.cells spV; rw [HEL.out.1, HEL.out.2]; rfl
    · exact ⟨rows_weaken o1 hw4, OwnI.nil _ _, OwnS.nil _ _, OwnI.nil _ _, fun e he => HWF.out e (List.mem_of_mem_take he), by simp, by rw [HEL.out.1]; omega, by simp, by simp, by simp⟩
    · exact ⟨rows_weaken o2 hw4, OwnI.nil _ _, OwnS.nil _ _, OwnI.nil _ _, fun e he => HWF.out e (List.mem_of_mem_drop he), by simp, by rw [HEL.out.2]; omega, by simp, by simp, by simp⟩
    · intro j j' k h1 h2
      rw [oneBlk rfl rfl rfl j k h1, oneBlk rfl rfl rfl j' k h2]
    · intro j j' k h1 h2
      rw [oneBlk rfl rfl rfl j k h1, oneBlk rfl rfl rfl j' k h2]
    · intro j j' k h1 h2
      rw [oneBlk rfl rfl rfl j k h1] at h1
      rw [oneBlk rfl rfl rfl j' k h2] at h2
      have h1' : (Value.slice B1 (E.take m).length d1).ownBlock = some k := h1
      have h2' : (Value.slice (some ⟨g2, 0, none⟩) (E.drop m).length d2).ownBlock = some k := h2
      rw [HEL.out.1] at h1'
      rw [HEL.out.2] at h2'
      exact hAp k h1' h2'
  have HT7 := Lib.hid hT7
  clear hS hT7 hP7 hT6 hP6
  go_wp2_with fail
  exact HRET.out _ _ (end_nns rfl rfl _ _ (w.heap.size + 1) (w.heap.size + 2) (w.heap.size + 3) _ _ _ rfl rfl rfl rfl HT7.out.b2 HT7.out.b3 HT7.out.b4 rfl rfl rfl HE.out)
open Go.RowKit
def nd2:Array Value:=#[.int .i64 2,.slice none 0 0,.slice none 0 0,.slice none 0 0,.slice none 0 0]
theorem LiesS.take {w:World} {A:Option Addr} {l:List Sp} (h:LiesS w A l) (m:Nat):LiesS w A (l.take m):=⟨fun e he=>h.1 e (List.mem_of_mem_take he),fun hp=>by
 rw [List.length_take] at hp
 obtain ⟨b,q,hA,hb,hc⟩:=h.2 (by omega)
 exact ⟨b,q,hA,hb,fun k x hx=>hc k x (at_take hx).2⟩⟩
theorem LiesS.drop {w:World} {b q:Nat} {l:List Sp} (h:LiesS w (some ⟨b,q,none⟩) l) (m:Nat):LiesS w (some ⟨b,q+m * 4,none⟩) (l.drop m):=⟨fun e he=>h.1 e (List.mem_of_mem_drop he),fun hp=>by
 rw [List.length_drop] at hp
 obtain ⟨b',q',hA,hb,hc⟩:=h.2 (by omega)
 injection hA with hA
 injection hA with h1 h2
 subst h1;subst h2
 refine ⟨b,q+m * 4,rfl,hb,fun k x hx=>?_⟩
 rw [List.getElem?_drop] at hx
 have:=hc _ x hx
 rw [show q+m * 4+k * 4=q+(m+k) * 4 by omega];exact this⟩
structure SepP (w:World) (PR:World→Prop) (B8:Nat) (S1 S2:List Sp) (c5 c10 c12 c14:Bool) (Y:Nat→Value) (u:World):Prop where
 calm:Calm w u
 pr:PR u
 a:c5=true→OwnS B8 u (Y 5) S1
 b:c10=true→OwnS B8 u (Y 10) S2
 ab:c5=true→c10=true→Away (Y 5) (Y 10)
 e12:c12=true→c5=true
 e14:c14=true→c10=true
def sepX (k:Int) (v2 v4 z:Value):Array Value:=#[.int .i64 k,.slice none 0 0,v2,z,v4]
def StK (w8 w:World) (g:Nat) (PR:World→Prop) (S1 S2:List Sp) (l2 l4 r2 r4:Value):Stages:=fun bs Y u=>∃ c5 c10 c12 c14,bs=[c5,c10,c12,c14]∧SepP w PR w8.heap.size S1 S2 c5 c10 c12 c14 Y u∧Tri w8 g (sepX 2 l2 l4 (if c12=true then Y 5 else .slice none 0 0)) (sepX 2 r2 r4 (if c14=true then Y 10 else .slice none 0 0)) spZ u
section
variable {w8 w u u':World} {g:Nat} {PR:World→Prop} {S1 S2:List Sp} {l2 l4 r2 r4:Value} {Y:Nat→Value} {L:Nat→Bool}
theorem SepP.stay {B8:Nat} {c5 c10 c12 c14:Bool} (h:SepP w PR B8 S1 S2 c5 c10 c12 c14 Y u) (hp:PR u') (hb:Calm u u'):SepP w PR B8 S1 S2 c5 c10 c12 c14 Y u' :=
 ⟨h.calm.call hb,hp,fun c=>rows_calm (h.a c) hb,fun c=>rows_calm (h.b c) hb,h.ab,h.e12,h.e14⟩
theorem StK.stay (hPR:∀ u u',PR u→Calm u u'→PR u'):∀ bs Y u u',StK w8 w g PR S1 S2 l2 l4 r2 r4 bs Y u→Calm u u'→StK w8 w g PR S1 S2 l2 l4 r2 r4 bs Y u':=fun bs Y u u' ⟨c5,c10,c12,c14,h1,h2,h3⟩ hb=>⟨c5,c10,c12,c14,h1,h2.stay (hPR _ _ h2.pr hb) hb,h3.stay hb⟩
theorem StK.start (hp:PR u) (hc:Calm w u) (hT:Tri w8 g (sepX 2 l2 l4 (.slice none 0 0)) (sepX 2 r2 r4 (.slice none 0 0)) spZ u):StK w8 w g PR S1 S2 l2 l4 r2 r4 [false,false,false,false] Y u :=
 ⟨_,_,_,_,rfl,⟨hc,hp,fun c=>absurd c (by simp),fun c=>absurd c (by simp),fun c=>absurd c (by simp),fun c=>absurd c (by simp),fun c=>absurd c (by simp)⟩,by simpa using hT⟩
theorem StK.get (h:StK w8 w g PR S1 S2 l2 l4 r2 r4 ([5,10,12,14].map L) Y u):SepP w PR w8.heap.size S1 S2 (L 5) (L 10) (L 12) (L 14) Y u∧Tri w8 g (sepX 2 l2 l4 (if L 12=true then Y 5 else .slice none 0 0)) (sepX 2 r2 r4 (if L 14=true then Y 10 else .slice none 0 0)) spZ u:=by
 obtain ⟨c5,c10,c12,c14,h1,h2⟩:=h
 simp only [List.map_cons,List.map_nil,List.cons.injEq,and_true] at h1
 obtain ⟨e1,e2,e3,e4⟩:=h1
 subst e1;subst e2;subst e3;subst e4
 exact h2
theorem StK.do5 (h:StK w8 w g PR S1 S2 l2 l4 r2 r4 ([5,10,12,14].map L) Y u) (hi:L 5=false) (hPR:∀ u u',PR u→Calm u u'→PR u'):Calm w u∧∀ v u',OwnS u.heap.size u' v S1→Calm u u'→StK w8 w g PR S1 S2 l2 l4 r2 r4 ([5,10,12,14].map (updB L 5)) (updV Y 5 v) u':=by
 obtain ⟨hP,hT⟩:=h.get
 refine ⟨hP.calm,fun v u' ho hb=>⟨true,L 10,L 12,L 14,by simp [updB],?_,?_⟩⟩
 ·have hs:=hT.mod.size
  refine ⟨hP.calm.call hb,hPR _ _ hP.pr hb,fun _=>by rw [lkUpd_same];exact rows_weaken ho hs,fun c=>by rw [lkUpd_other _ _ (by decide)];exact rows_calm (hP.b c) hb,fun _ c=>?_,fun _=>rfl,hP.e14⟩
  rw [lkUpd_same,lkUpd_other _ _ (by decide)]
  intro k hk hk2
  have:=(rows_lt ho k hk).1
  have:=(rows_lt (hP.b c) k hk2).2
  omega
 ·have h12:L 12=false:=by
   cases h12:L 12 with
   |false=>rfl
   |true=>exact absurd (hP.e12 h12) (by simp [hi])
  have:=hT.stay hb
  simp only [h12,Bool.false_eq_true,if_false] at this ⊢
  rw [lkUpd_other _ _ (by decide)];exact this
theorem StK.do10 (h:StK w8 w g PR S1 S2 l2 l4 r2 r4 ([5,10,12,14].map L) Y u) (hi:L 10=false) (hPR:∀ u u',PR u→Calm u u'→PR u'):Calm w u∧∀ v u',OwnS u.heap.size u' v S2→Calm u u'→StK w8 w g PR S1 S2 l2 l4 r2 r4 ([5,10,12,14].map (updB L 10)) (updV Y 10 v) u':=by
 obtain ⟨hP,hT⟩:=h.get
 refine ⟨hP.calm,fun v u' ho hb=>⟨L 5,true,L 12,L 14,by simp [updB],?_,?_⟩⟩
 ·have hs:=hT.mod.size
  refine ⟨hP.calm.call hb,hPR _ _ hP.pr hb,fun c=>by rw [lkUpd_other _ _ (by decide)];exact rows_calm (hP.a c) hb,fun _=>by rw [lkUpd_same];exact rows_weaken ho hs,fun c _=>?_,hP.e12,fun _=>rfl⟩
  rw [lkUpd_same,lkUpd_other _ _ (by decide)]
  intro k hk hk2
  have:=(rows_lt ho k hk2).1
  have:=(rows_lt (hP.a c) k hk).2
  omega
 ·have h14:L 14=false:=by
   cases h14:L 14 with
   |false=>rfl
   |true=>exact absurd (hP.e14 h14) (by simp [hi])
  have:=hT.stay hb
  simp only [h14,Bool.false_eq_true,if_false] at this ⊢
  rw [lkUpd_other _ _ (by decide)];exact this
theorem StK.do12 (h:StK w8 w g PR S1 S2 l2 l4 r2 r4 ([5,10,12,14].map L) Y u) (hi:L 12=false) (h5:L 5=true) (hwg:w.heap.size≤g) (hPR:PR (u.setCell ⟨g+1,3,none⟩ (Y 5))):u.heap[g+1]?=some (.cells (sepX 2 l2 l4 (.slice none 0 0)) 32 (0,0))∧OwnS w8.heap.size u (Y 5) S1∧∀ y,StK w8 w g PR S1 S2 l2 l4 r2 r4 ([5,10,12,14].map (updB L 12)) (updV Y 12 y) (u.setCell ⟨g+1,3,none⟩ (Y 5)):=by
 obtain ⟨hP,hT⟩:=h.get
 simp only [hi,Bool.false_eq_true,if_false] at hT
 have hlt:=hT.lt
 refine ⟨hT.b2,hP.a h5,fun y=>⟨L 5,L 10,true,L 14,by simp [updB],⟨hP.calm.setCell (p:=⟨g+1,3,none⟩) (by show w.heap.size≤g+1;omega) _,hPR,fun c=>?_,fun c=>?_,fun c c'=>?_,fun _=>h5,hP.e14⟩,?_⟩⟩
 ·rw [lkUpd_other _ _ (by decide)];exact rows_set (hP.a c) (by omega) _ _
 ·rw [lkUpd_other _ _ (by decide)];exact rows_set (hP.b c) (by omega) _ _
 ·rw [lkUpd_other _ _ (by decide),lkUpd_other _ _ (by decide)];exact hP.ab c c'
 ·have:=hT.set2 3 (Y 5)
  simp only [if_true]
  rw [lkUpd_other _ _ (by decide),lkUpd_other _ _ (by decide)]
  exact this
theorem StK.do14 (h:StK w8 w g PR S1 S2 l2 l4 r2 r4 ([5,10,12,14].map L) Y u) (hi:L 14=false) (h5:L 10=true) (hwg:w.heap.size≤g) (hPR:PR (u.setCell ⟨g+2,3,none⟩ (Y 10))):u.heap[g+2]?=some (.cells (sepX 2 r2 r4 (.slice none 0 0)) 32 (0,0))∧OwnS w8.heap.size u (Y 10) S2∧∀ y,StK w8 w g PR S1 S2 l2 l4 r2 r4 ([5,10,12,14].map (updB L 14)) (updV Y 14 y) (u.setCell ⟨g+2,3,none⟩ (Y 10)):=by
 obtain ⟨hP,hT⟩:=h.get
 simp only [hi,Bool.false_eq_true,if_false] at hT
 have hlt:=hT.lt
 refine ⟨hT.b3,hP.b h5,fun y=>⟨L 5,L 10,L 12,true,by simp [updB],⟨hP.calm.setCell (p:=⟨g+2,3,none⟩) (by show w.heap.size≤g+2;omega) _,hPR,fun c=>?_,fun c=>?_,fun c c'=>?_,hP.e12,fun _=>h5⟩,?_⟩⟩
 ·rw [lkUpd_other _ _ (by decide)];exact rows_set (hP.a c) (by omega) _ _
 ·rw [lkUpd_other _ _ (by decide)];exact rows_set (hP.b c) (by omega) _ _
 ·rw [lkUpd_other _ _ (by decide),lkUpd_other _ _ (by decide)];exact hP.ab c c'
 ·have:=hT.set3 3 (Y 10)
  simp only [if_true]
  rw [lkUpd_other _ _ (by decide),lkUpd_other _ _ (by decide)]
  exact this
theorem StK.done (h:StK w8 w g PR S1 S2 l2 l4 r2 r4 ([5,10,12,14].map fun _=>true) Y u):SepP w PR w8.heap.size S1 S2 true true true true Y u∧Tri w8 g (sepX 2 l2 l4 (Y 5)) (sepX 2 r2 r4 (Y 10)) spZ u:=by
 have:=h.get
 simpa using this
end
/-- Six rows, made in three pairs one after another, stand apart. -/
theorem halves_apart {l r : Nd} {a b : Nat} (hl0 : l.A1 = none) (hr0 : r.A1 = none) (l1 : ∀ k, l.blk 1 = some k → k < a) (r1 : ∀ k, r.blk 1 = some k → k < a) (l3 : ∀ k, l.blk 3 = some k → a ≤ k ∧ k < b) (r3 : ∀ k, r.blk 3 = some k → a ≤ k ∧ k < b) (l2 : ∀ k, l.blk 2 = some k → b ≤ k) (r2 : ∀ k, r.blk 2 = some k → b ≤ k) (hab : a ≤ b)
    (w1 : ∀ k, l.blk 1 = some k → r.blk 1 ≠ some k) (w2 : ∀ k, l.blk 2 = some k → r.blk 2 ≠ some k) (w3 : ∀ k, l.blk 3 = some k → r.blk 3 ≠ some k) :
    (∀ j j' k, l.blk j = some k → l.blk j' = some k → j = j') ∧ (∀ j j' k, r.blk j = some k → r.blk j' = some k → j = j') ∧ (∀ j j' k, l.blk j = some k → r.blk j' ≠ some k) := by
  have key : ∀ (n : Nd), n.A1 = none → (∀ k, n.blk 1 = some k → k < a) → (∀ k, n.blk 3 = some k → a ≤ k ∧ k < b) → (∀ k, n.blk 2 = some k → b ≤ k) → ∀ j k, n.blk j = some k → j = 1 ∧ k < a ∨ j = 3 ∧ a ≤ k ∧ k < b ∨ j = 2 ∧ b ≤ k := fun n h0 h1 h3 h2 j k hj => by
    match j, hj with
    | 0, hj => simp [Nd.blk, Value.ownBlock, h0] at hj
    | 1, hj => exact .inl ⟨rfl, h1 k hj⟩
    | 2, hj => exact .inr (.inr ⟨rfl, h2 k hj⟩)
    | 3, hj => exact .inr (.inl ⟨rfl, h3 k hj⟩)
    | j + 4, hj => simp [Nd.blk] at hj
  have kl := key l hl0 l1 l3 l2
  have kr := key r hr0 r1 r3 r2
  refine ⟨fun j j' k h1 h2 => ?_, fun j j' k h1 h2 => ?_, fun j j' k h1 h2 => ?_⟩
  · have := kl j k h1; have := kl j' k h2; omega
  · have := kr j k h1; have := kr j' k h2; omega
  · have a1 := kl j k h1
    have a2 := kr j' k h2
    have : j = j' := by omega
    subst this
    rcases a1 with a1 | a1 | a1
    · rw [a1.1] at h1 h2; exact w1 k h1 h2
    · rw [a1.1] at h1 h2; exact w3 k h1 h2
    · rw [a1.1] at h1 h2; exact w2 k h1 h2
set_option maxHeartbeats 16000000 in
theorem halvesK_any (A1 A2 A3 A4 : Option Addr) (c1 c2 c3 c4 : Nat) (K : List Int) (S : List Sp) (T : List Int) (w : World) (h : NdAt w A1 A2 A3 A4 [] K S T) (h9 : 8 < K.length) (h16 : K.length ≤ 16) (hS : S.length + 1 = K.length) (hT : T.length = K.length) (hc2 : K.length ≤ c2) (hc3 : S.length ≤ c3) (hc4 : T.length ≤ c4) (m : Nat) (hm : m = (K.length + 1) / 2) :
    Calls Try.prog 146 #[.agg #[.int .i64 2, .slice A1 0 c1, .slice A2 K.length c2, .slice A3 S.length c3, .slice A4 T.length c4]] w (HalvesEnd w 2 [] K S T m) := by
  obtain ⟨b2, q2, hA2, hb2, -⟩ := h.k (by omega)
  obtain ⟨b3, q3, hA3, hb3, hc3'⟩ := h.s.2 (by omega)
  obtain ⟨b4, q4, hA4, hb4, -⟩ := h.t (by omega)
  subst hA2; subst hA3; subst hA4
  have hmK : m < K.length := by omega
  have hm5 : 5 ≤ m := by omega
  have hmS : m < S.length := by omega
  have cZ := fun u => size_any 2 A1 (some ⟨b2, q2, none⟩) (some ⟨b3, q3, none⟩) (some ⟨b4, q4, none⟩) c1 c2 c3 c4 [] K S T u (by simp) (by omega)
  simp only [List.length_nil, Nat.zero_add] at cZ
  have cK := fun u (hu : Calm w u) => cutI_any b2 q2 c2 m K u (by omega) hmK hc2 (h.k.calm hu)
  have cT := fun u (hu : Calm w u) => cutI_any b4 q4 c4 m T u (by omega) (by omega) hc4 (h.t.calm hu)
  have cS1 := fun u (hu : Calm w u) => cloneS_any (some ⟨b3, q3, none⟩) c3 (S.take (m - 1)) u (by rw [List.length_take]; omega) ((h.s.take (m - 1)).calm hu)
  have cS2 := fun u (hu : Calm w u) => cloneS_any (some ⟨b3, q3 + m * 4, none⟩) (c3 - m) (S.drop m) u (by rw [List.length_drop]; omega) ((h.s.drop m).calm hu)
  obtain ⟨e1, e2, e3⟩ := half_num (n := K.length) (by omega) hm
  have e4 : IntKind.i64.wrap ((m : Int) - 1) = ((m - 1 : Nat) : Int) := by rw [IntWalk.i64_in _ (by omega)]; omega
  have hm1 : m - 1 < S.length := by omega
  obtain ⟨sep, hsep⟩ : ∃ sep, S[m - 1]? = some sep := ⟨_, List.getElem?_eq_getElem hm1⟩
  have hsat := fun u (hu : Calm w u) => (show SpAt u b3 (q3 + (m - 1) * 4) sep from by
    have := hc3' _ _ hsep
    obtain ⟨s0, s1, s2, s3⟩ := this
    have hc := hu.facts.1
    exact ⟨(hc b3 _ hb3).trans s0, (hc b3 _ hb3).trans s1, (hc b3 _ hb3).trans s2, (hc b3 _ hb3).trans s3⟩)
  have hwf : ∀ s ∈ S, -9223372036854775808 ≤ s.m := h.s.1
  have hl1 : (K.take m).length = m ∧ (T.take m).length = m ∧ (S.take (m - 1)).length = m - 1 := ⟨by rw [List.length_take]; omega, by rw [List.length_take]; omega, by rw [List.length_take]; omega⟩
  obtain ⟨NK, hNK⟩ : ∃ NK, NK = K.length := ⟨_, rfl⟩
  have hl2 : (K.drop m).length = NK - m ∧ (T.drop m).length = NK - m ∧ (S.drop m).length = NK - 1 - m := ⟨by rw [List.length_drop]; omega, by rw [List.length_drop]; omega, by rw [List.length_drop]; omega⟩
  have hSN : S.length = NK - 1 := by omega
  rw [hl1.2.2] at cS1
  rw [hl2.2.2] at cS2
  rw [hT, ← hNK] at cT
  simp only [hT, hSN, ← hNK] at cZ
  rw [← hNK] at cK e1 e2
  rw [hT, hSN, ← hNK]
  have g1 : m - 1 ≤ NK - 1 := by omega
  have g2 : m ≤ NK - 1 := by omega
  have g3 : m - 1 ≤ c3 := by omega
  have g4 : m ≤ c3 := by omega
  have g5 : ¬ (c3 = m) := by omega
  have g6 : ((m - 1 : Nat) : Int) ≤ ((NK - 1 : Nat) : Int) := by omega
  have g7 : (m : Int) ≤ ((NK - 1 : Nat) : Int) := by omega
  have g8 : ((m - 1 : Nat) : Int) < ((NK - 1 : Nat) : Int) := by omega
  have g9 : m - 1 < NK - 1 := by omega
  have g10 : (m : Int) ≤ (c3 : Int) := by omega
  have g11 : ((m - 1 : Nat) : Int) ≤ (c3 : Int) := by omega
  have HWF := Lib.hid hwf
  have HL1 := Lib.hid hl1
  have HL2 := Lib.hid hl2
  have HSEP := Lib.hid hsep
  have HSAT := Lib.hid hsat
  have HM9 : Hid (NK ≤ 16 ∧ 8 < NK ∧ 5 ≤ m ∧ m < NK - 1) := show _ ∧ _ from ⟨by omega, by omega, hm5, by omega⟩
  obtain ⟨M1, hM1⟩ : ∃ M1, M1 = m - 1 := ⟨_, rfl⟩
  rw [← hM1] at cS1 e4 g1 g3 g6 g8 g9 g11 HL1 HSEP HSAT
  have HMM := Lib.hid hM1
  clear h hc2 hc3 hc4 hm hNK hwf hl1 hl2 hmK h16 h9 hm5 hS hT hsep hsat hSN hmS hm1 hM1 hc3'
  go_enter Try.func146, Try.ntmps146
  generalize hQ0 : bodyPost Try.prog Try.f146 (HalvesEnd w 2 [] K S T m) = Q0
  have HRET : Hid (∀ a w', bodyPost Try.prog Try.f146 (HalvesEnd w 2 [] K S T m) .ret a w' → Q0 .ret a w') := show ∀ _ _, _ → _ from fun a w' h => by rw [← hQ0]; exact h
  clear hQ0
  go_upto_region 1 with fail
  obtain ⟨w1, hw1⟩ : ∃ w1, w1 = (((w.alloc (.cells #[.int .i64 2, .slice A1 0 c1, .slice (some ⟨b2, q2, none⟩) NK c2, .slice (some ⟨b3, q3, none⟩) (NK - 1) c3, .slice (some ⟨b4, q4, none⟩) NK c4] 32)).alloc (.cells ndZ 32)).alloc (.cells ndZ 32)).alloc (.cells spZ 62) := ⟨_, rfl⟩
  have hT1 : Tri w1 w.heap.size ndZ ndZ spZ w1 ∧ w1.heap[w.heap.size]? = some (.cells #[.int .i64 2, .slice A1 0 c1, .slice (some ⟨b2, q2, none⟩) NK c2, .slice (some ⟨b3, q3, none⟩) (NK - 1) c3, .slice (some ⟨b4, q4, none⟩) NK c4] 32 (0, 0)) ∧ Calm w w1 := by
    rw [hw1]
    refine ⟨⟨Mod.refl _ _, by simp, ?_, ?_, ?_⟩, ?_, by repeat (first | (with_reducible exact Calm.refl _) | (with_reducible refine Calm.alloc ?_ _) | (with_reducible refine Calm.drew ?_) | (with_reducible refine Calm.drewN ?_ _) | (refine Calm.call ?_ (by with_reducible assumption)))⟩
    · exact heap_past _ (heap_past _ (by have := heap_new (w.alloc (.cells #[.int .i64 2, .slice A1 0 c1, .slice (some ⟨b2, q2, none⟩) NK c2, .slice (some ⟨b3, q3, none⟩) (NK - 1) c3, .slice (some ⟨b4, q4, none⟩) NK c4] 32)) (.cells ndZ 32); rw [World.size_alloc] at this; exact this))
    · exact heap_past _ (by have := heap_new ((w.alloc (.cells #[.int .i64 2, .slice A1 0 c1, .slice (some ⟨b2, q2, none⟩) NK c2, .slice (some ⟨b3, q3, none⟩) (NK - 1) c3, .slice (some ⟨b4, q4, none⟩) NK c4] 32)).alloc (.cells ndZ 32)) (.cells ndZ 32); rw [World.size_alloc, World.size_alloc] at this; exact this)
    · have := heap_new (((w.alloc (.cells #[.int .i64 2, .slice A1 0 c1, .slice (some ⟨b2, q2, none⟩) NK c2, .slice (some ⟨b3, q3, none⟩) (NK - 1) c3, .slice (some ⟨b4, q4, none⟩) NK c4] 32)).alloc (.cells ndZ 32)).alloc (.cells ndZ 32)) (.cells spZ 62)
      rw [World.size_alloc, World.size_alloc, World.size_alloc] at this; exact this
    · exact heap_past _ (heap_past _ (heap_past _ (heap_new _ _)))
  unfold ndZ spZ at hw1
  rw [← hw1]
  clear hw1
  obtain ⟨hT1, hx1, hu1⟩ := hT1
  obtain ⟨x0, x1, x2, x3, x4, hxs⟩ := row5 hx1
  go_upto_region 2 with (go_at_call 129; (with_reducible refine (cZ _).mono ?_); rintro e w2 ⟨rfl, hb2⟩; have hT2 := hT1.stay hb2; have hx2 := (hb2.block (row5 hx1).2.2.2.2.2).trans hx1; have hu2 := hu1.call hb2; clear hT1 hb2 x0 x1 x2 x3 x4 hxs)
  have hl2 := (row5 hx2).2.2.2.2.2
  refine wp_region_stages [.val (.pointer (some ⟨w.heap.size, 0, none⟩)), .val (.int .i64 2), .val (.pointer (some ⟨w.heap.size, 0, none⟩)), .val (.int .i64 2), .val (.pointer (some ⟨w.heap.size + 1, 0, none⟩)), .late, .val (.pointer (some ⟨w.heap.size + 2, 0, none⟩)), .late] [5, 7]
    (StX w1 w.heap.size (fun bs _ => if bs.getD 0 false then nd2 else ndZ) (fun bs _ => if bs.getD 1 false then nd2 else ndZ) (fun _ _ => spZ) (fun _ _ u => Calm w u)) (by kernel_rfl) (by kernel_rfl) (by kernel_rfl) (StX.stay fun _ _ _ _ h hb => h.call hb) (fun Y => ⟨hT2.stay (Calm.refl w2).drew, hu2.call (Calm.refl w2).drew⟩) (fun Y => ?_)
  iterate 5
    refine planS_val (by kernel_rfl) (fun L u hb hS => ?_) ?_
    · obtain ⟨x0, x1, x2, x3, x4, hxs⟩ := row5 (hS.1.p (Nat.le_refl _) hx1)
      clear hS hb
      go_simp
    simp only [Act.put, List.setIfInBounds_toArray, List.set_cons_zero, List.set_cons_succ, Nat.reduceAdd]
  refine planS_late (fun L u hi hb hS => ?_) ?_
  · have hT := hS.1
    obtain ⟨f0, f1, f2, f3, f4⟩ := free5 hT.b2
    have hy := hT.b2
    simp only [List.map_cons, List.map_nil, List.getD_cons_zero, hi, Bool.false_eq_true, if_false] at hy
    unfold ndZ at hy
    obtain ⟨y0, y1, y2, y3, y4, hys⟩ := row5 hy
    have hq := hT.set2 0 (.int .i64 2)
    have HQ : Hid (∀ y, StX w1 w.heap.size (fun bs _ => if bs.getD 0 false then nd2 else ndZ) (fun bs _ => if bs.getD 1 false then nd2 else ndZ) (fun _ _ => spZ) (fun _ _ u => Calm w u) ([5, 7].map (updB L 5)) (updV Y 5 y) (u.setCell ⟨w.heap.size + 1, 0, none⟩ (.int .i64 2))) := show ∀ _, _ from fun y => ⟨by simp [hi, updB, nd2, ndZ] at hq ⊢; exact hq, hS.2.setCell (p := ⟨w.heap.size + 1, 0, none⟩) (Nat.le_succ _) _⟩
    clear hS hb hT hq hy
    go_wp2_with fail
    exact ⟨undef, HQ.out undef⟩
  simp only [Act.put, List.setIfInBounds_toArray, List.set_cons_zero, List.set_cons_succ, Nat.reduceAdd]
  refine planS_val (by kernel_rfl) (fun L u hb hS => ?_) ?_
  · clear hS hb
    go_simp
  simp only [Act.put, List.setIfInBounds_toArray, List.set_cons_zero, List.set_cons_succ, Nat.reduceAdd]
  refine planS_late (fun L u hi hb hS => ?_) ?_
  · have hT := hS.1
    obtain ⟨f0, f1, f2, f3, f4⟩ := free5 hT.b3
    have hy := hT.b3
    simp only [List.map_cons, List.map_nil, List.getD_cons_zero, List.getD_cons_succ, hi, Bool.false_eq_true, if_false] at hy
    unfold ndZ at hy
    obtain ⟨y0, y1, y2, y3, y4, hys⟩ := row5 hy
    have hq := hT.set3 0 (.int .i64 2)
    have HQ : Hid (∀ y, StX w1 w.heap.size (fun bs _ => if bs.getD 0 false then nd2 else ndZ) (fun bs _ => if bs.getD 1 false then nd2 else ndZ) (fun _ _ => spZ) (fun _ _ u => Calm w u) ([5, 7].map (updB L 7)) (updV Y 7 y) (u.setCell ⟨w.heap.size + 2, 0, none⟩ (.int .i64 2))) := show ∀ _, _ from fun y => ⟨by simp [hi, updB, nd2, ndZ] at hq ⊢; exact hq, hS.2.setCell (p := ⟨w.heap.size + 2, 0, none⟩) (Nat.le_add_right _ _) _⟩
    clear hS hb hT hq hy
    go_wp2_with fail
    exact ⟨undef, HQ.out undef⟩
  simp only [Act.put, List.setIfInBounds_toArray, List.set_cons_zero, List.set_cons_succ, Nat.reduceAdd]
  refine planS_end ?_
  intro w4 hS
  have hT4 : Tri w1 w.heap.size nd2 nd2 spZ w4 := by have := hS.1; simpa using this
  have hu4 : Calm w w4 := hS.2
  clear hS hT2 hx2 hu2 hl2 cZ
  have hx4 := hT4.p (Nat.le_refl _) hx1
  obtain ⟨x0, x1, x2, x3, x4, hxs⟩ := row5 hx4
  unfold nd2 at hT4
  have HL4 : Hid (w.heap.size + 3 < w4.heap.size) := show _ < _ from Nat.lt_of_lt_of_le hT4.lt hT4.mod.size
  go_upto_region 7 with (go_at_call 152; (with_reducible refine (cK _ hu4).mono ?_); rintro e w5 ⟨v1, v2, rfl, o1, o2, ha, hb5⟩; have hT5 := hT4.stay hb5; have hu5 := hu4.call hb5; obtain ⟨B1, d1, r1⟩ := o1.slice; obtain ⟨B2, d2, r2⟩ := o2.slice; rw [HL1.out.1] at r1; rw [HL2.out.1] at r2; subst r1; subst r2; have HO1 := Lib.hid o1; have HO2 := Lib.hid o2; have HA := Lib.hid ha; have HT5 := Lib.hid hT5; have HU5 := Lib.hid hu5; have HS45 := Lib.hid hb5.size; obtain ⟨f0, f1, f2, f3, f4⟩ := free5 hT5.b2; obtain ⟨j0, j1, j2, j3, j4⟩ := free5 hT5.b3; obtain ⟨y0, y1, y2, y3, y4, hys⟩ := row5 hT5.b2; obtain ⟨k0, k1, k2, k3, k4, hks⟩ := row5 hT5.b3; clear hT4 hb5 o1 o2 ha hx4 hu4 hT5 hu5 x0 x1 x2 x3 x4 hxs)
  have hgl1 : w.heap.size + 1 < w4.heap.size := by have := HL4.out; omega
  have hgl2 : w.heap.size + 2 < w4.heap.size := by have := HL4.out; omega
  have hT6 := (HT5.out.set2 2 (.slice B1 m d1)).set3 2 (.slice B2 (NK - m) d2)
  have hO1 := rows_set (rows_set HO1.out hgl1 2 (.slice B1 m d1)) hgl2 2 (.slice B2 (NK - m) d2)
  have hO2 := rows_set (rows_set HO2.out hgl1 2 (.slice B1 m d1)) hgl2 2 (.slice B2 (NK - m) d2)
  have hu6 := (HU5.out.setCell (p := ⟨w.heap.size + 1, 2, none⟩) (Nat.le_succ _) (.slice B1 m d1)).setCell (p := ⟨w.heap.size + 2, 2, none⟩) (Nat.le_add_right _ _) (.slice B2 (NK - m) d2)
  have hs6 : ((w5.setCell ⟨w.heap.size + 1, 2, none⟩ (.slice B1 m d1)).setCell ⟨w.heap.size + 2, 2, none⟩ (.slice B2 (NK - m) d2)).heap.size = w5.heap.size := by simp [World.setCell]
  clear HO1 HO2 HT5 HU5 f0 f1 f2 f3 f4 j0 j1 j2 j3 j4 y0 y1 y2 y3 y4 hys k0 k1 k2 k3 k4 hks
  generalize (w5.setCell ⟨w.heap.size + 1, 2, none⟩ (.slice B1 m d1)).setCell ⟨w.heap.size + 2, 2, none⟩ (.slice B2 (NK - m) d2) = w6 at hT6 hO1 hO2 hu6 hs6 ⊢
  simp only [List.setIfInBounds_toArray, List.set_cons_zero, List.set_cons_succ] at hT6
  have hx6 := hT6.p (Nat.le_refl _) hx1
  obtain ⟨x0, x1, x2, x3, x4, hxs⟩ := row5 hx6
  have HO1 := Lib.hid hO1
  have HO2 := Lib.hid hO2
  have HS46 : Hid (w4.heap.size ≤ w6.heap.size) := show _ ≤ _ from by rw [hs6]; exact HS45.out
  clear hO1 hO2
  have HL6 : Hid (w4.heap.size ≤ w6.heap.size) := show _ ≤ _ from HS46.out
  go_upto_region 8 with (go_at_call 152; (with_reducible refine (cT _ hu6).mono ?_); rintro e w7 ⟨v3, v4, rfl, o3, o4, ha3, hb7⟩; have hT7 := hT6.stay hb7; have hu7 := hu6.call hb7; have ho1 := rows_calm HO1.out hb7; have ho2 := rows_calm HO2.out hb7; have hs67 := hb7.size; obtain ⟨B3, d3, r3⟩ := o3.slice; obtain ⟨B4, d4, r4⟩ := o4.slice; rw [HL1.out.2.1] at r3; rw [HL2.out.2.1] at r4; subst r3; subst r4; have HO3 := Lib.hid o3; have HO4 := Lib.hid o4; have HA3 := Lib.hid ha3; have HT7 := Lib.hid hT7; have HU7 := Lib.hid hu7; have HP1 := Lib.hid ho1; have HP2 := Lib.hid ho2; have HS67 := Lib.hid hs67; obtain ⟨f0, f1, f2, f3, f4⟩ := free5 hT7.b2; obtain ⟨j0, j1, j2, j3, j4⟩ := free5 hT7.b3; obtain ⟨y0, y1, y2, y3, y4, hys⟩ := row5 hT7.b2; obtain ⟨k0, k1, k2, k3, k4, hks⟩ := row5 hT7.b3; clear hT6 hb7 o3 o4 ha3 hx6 hu6 hT7 hu7 ho1 ho2 hs67 x0 x1 x2 x3 x4 hxs)
  have hg61 : w.heap.size + 1 < w6.heap.size := by have := HL6.out; omega
  have hg62 : w.heap.size + 2 < w6.heap.size := by have := HL6.out; omega
  have hT8 := (HT7.out.set2 4 (.slice B3 m d3)).set3 4 (.slice B4 (NK - m) d4)
  have hP1 := rows_set (rows_set HP1.out hgl1 4 (.slice B3 m d3)) hgl2 4 (.slice B4 (NK - m) d4)
  have hP2 := rows_set (rows_set HP2.out hgl1 4 (.slice B3 m d3)) hgl2 4 (.slice B4 (NK - m) d4)
  have hO3 := rows_set (rows_set HO3.out hg61 4 (.slice B3 m d3)) hg62 4 (.slice B4 (NK - m) d4)
  have hO4 := rows_set (rows_set HO4.out hg61 4 (.slice B3 m d3)) hg62 4 (.slice B4 (NK - m) d4)
  have hu8 := (HU7.out.setCell (p := ⟨w.heap.size + 1, 4, none⟩) (Nat.le_succ _) (.slice B3 m d3)).setCell (p := ⟨w.heap.size + 2, 4, none⟩) (Nat.le_add_right _ _) (.slice B4 (NK - m) d4)
  have hs8 : ((w7.setCell ⟨w.heap.size + 1, 4, none⟩ (.slice B3 m d3)).setCell ⟨w.heap.size + 2, 4, none⟩ (.slice B4 (NK - m) d4)).heap.size = w7.heap.size := by simp [World.setCell]
  clear HO3 HO4 HT7 HU7 HP1 HP2 f0 f1 f2 f3 f4 j0 j1 j2 j3 j4 y0 y1 y2 y3 y4 hys k0 k1 k2 k3 k4 hks
  generalize (w7.setCell ⟨w.heap.size + 1, 4, none⟩ (.slice B3 m d3)).setCell ⟨w.heap.size + 2, 4, none⟩ (.slice B4 (NK - m) d4) = w8 at hT8 hP1 hP2 hO3 hO4 hu8 hs8 ⊢
  simp only [List.setIfInBounds_toArray, List.set_cons_zero, List.set_cons_succ] at hT8
  have hx8 := hT8.p (Nat.le_refl _) hx1
  have hT8' : Tri w8 w.heap.size (sepX 2 (.slice B1 m d1) (.slice B3 m d3) (.slice none 0 0)) (sepX 2 (.slice B2 (NK - m) d2) (.slice B4 (NK - m) d4) (.slice none 0 0)) spZ w8 := ⟨Mod.refl _ _, by have := HL6.out; have := HS67.out; have := HL4.out; omega, hT8.b2, hT8.b3, hT8.b4⟩
  obtain ⟨PR, hPR⟩ : ∃ PR : World → Prop, PR = fun u => OwnI w4.heap.size u (.slice B1 m d1) (K.take m) ∧ OwnI w4.heap.size u (.slice B2 (NK - m) d2) (K.drop m) ∧ OwnI w6.heap.size u (.slice B3 m d3) (T.take m) ∧ OwnI w6.heap.size u (.slice B4 (NK - m) d4) (T.drop m) := ⟨_, rfl⟩
  have HPR := Lib.hid hPR
  have hPs : ∀ u u', PR u → Calm u u' → PR u' := fun u u' h hb => by rw [hPR] at h ⊢; exact ⟨rows_calm h.1 hb, rows_calm h.2.1 hb, rows_calm h.2.2.1 hb, rows_calm h.2.2.2 hb⟩
  have hP8 : PR w8 := by rw [hPR]; exact ⟨hP1, hP2, hO3, hO4⟩
  have HPS : Hid (∀ u gg j v, PR u → gg = w.heap.size + 1 ∨ gg = w.heap.size + 2 ∨ gg = w.heap.size + 3 → PR (u.setCell ⟨gg, j, none⟩ v)) := show ∀ _ _ _ _, _ → _ → _ from fun u gg j v h hg => by
    rw [hPR] at h ⊢
    have hgl : gg < w4.heap.size := by have := HL4.out; omega
    have hgm : gg < w6.heap.size := by have := HL6.out; omega
    exact ⟨rows_set h.1 hgl j v, rows_set h.2.1 hgl j v, rows_set h.2.2.1 hgm j v, rows_set h.2.2.2 hgm j v⟩
  have HR1 : Hid ((∀ k, (Value.slice B1 m d1).ownBlock = some k → k < w6.heap.size) ∧ (∀ k, (Value.slice B2 (NK - m) d2).ownBlock = some k → k < w6.heap.size) ∧ (∀ k, (Value.slice B3 m d3).ownBlock = some k → w6.heap.size ≤ k ∧ k < w8.heap.size) ∧ (∀ k, (Value.slice B4 (NK - m) d4).ownBlock = some k → w6.heap.size ≤ k ∧ k < w8.heap.size) ∧ w6.heap.size ≤ w8.heap.size) := show _ ∧ _ from
    ⟨fun k hk => (rows_lt HO1.out k hk).2, fun k hk => (rows_lt HO2.out k hk).2, fun k hk => rows_lt hO3 k hk, fun k hk => rows_lt hO4 k hk, by have := HS67.out; omega⟩
  clear hPR hP1 hP2 hO3 hO4 HO1 HO2
  have HPC := Lib.hid hPs
  have HPC2 := Lib.hid hPs
  have HX8 := Lib.hid hx8
  refine wp_region_stages [.val (.pointer (some ⟨w.heap.size, 3, none⟩)), .val (.slice (some ⟨b3, q3, none⟩) (NK - 1) c3), .val (.int .i64 (m : Int)), .val (.int .i64 (M1 : Int)), .val (.slice (some ⟨b3, q3, none⟩) M1 c3), .late, .val (.pointer (some ⟨w.heap.size, 3, none⟩)), .val (.slice (some ⟨b3, q3, none⟩) (NK - 1) c3), .val (.int .i64 (m : Int)), .val (.slice (some ⟨b3, q3 + m * 4, none⟩) (NK - 1 - m) (c3 - m)), .late, .val (.pointer (some ⟨w.heap.size + 1, 3, none⟩)), .late [5], .val (.pointer (some ⟨w.heap.size + 2, 3, none⟩)), .late [10]] [5, 10, 12, 14]
    (StK w8 w w.heap.size PR (S.take M1) (S.drop m) (.slice B1 m d1) (.slice B3 m d3) (.slice B2 (NK - m) d2) (.slice B4 (NK - m) d4)) (by kernel_rfl) (by kernel_rfl) (by kernel_rfl) (StK.stay hPs) (fun Y => StK.start (hPs _ _ hP8 (Calm.refl w8).drew) (hu8.call (Calm.refl w8).drew) (hT8'.stay (Calm.refl w8).drew)) (fun Y => ?_)
  iterate 5
    refine planS_val (by kernel_rfl) (fun L u hb hS => ?_) ?_
    · obtain ⟨x0, x1, x2, x3, x4, hxs⟩ := row5 (hS.get.2.p (Nat.le_refl _) hx8)
      clear hS hb
      go_simp
    simp only [Act.put, List.setIfInBounds_toArray, List.set_cons_zero, List.set_cons_succ, Nat.reduceAdd]
  refine planS_late (fun L u hi hb hS => ?_) ?_
  · obtain ⟨hP, hK⟩ := hS.do5 hi HPC.out
    have HP := Lib.hid hP
    have HK := Lib.hid hK
    clear hS hP hK hb
    go_wp2_with (go_at_call 123; (with_reducible refine (cS1 _ HP.out).mono ?_); rintro e w9 ⟨v9, rfl, ho9, hb9⟩)
    exact HK.out _ _ ho9 hb9
  simp only [Act.put, List.setIfInBounds_toArray, List.set_cons_zero, List.set_cons_succ, Nat.reduceAdd]
  iterate 4
    refine planS_val (by kernel_rfl) (fun L u hb hS => ?_) ?_
    · obtain ⟨x0, x1, x2, x3, x4, hxs⟩ := row5 (hS.get.2.p (Nat.le_refl _) hx8)
      clear hS hb
      go_simp
    simp only [Act.put, List.setIfInBounds_toArray, List.set_cons_zero, List.set_cons_succ, Nat.reduceAdd]
  refine planS_late (fun L u hi hb hS => ?_) ?_
  · obtain ⟨hP, hK⟩ := hS.do10 hi HPC.out
    have HP := Lib.hid hP
    have HK := Lib.hid hK
    clear hS hP hK hb
    go_wp2_with (go_at_call 123; (with_reducible refine (cS2 _ HP.out).mono ?_); rintro e w9 ⟨v9, rfl, ho9, hb9⟩)
    exact HK.out _ _ ho9 hb9
  simp only [Act.put, List.setIfInBounds_toArray, List.set_cons_zero, List.set_cons_succ, Nat.reduceAdd]
  refine planS_val (by kernel_rfl) (fun L u hb hS => ?_) ?_
  · clear hS hb
    go_simp
  simp only [Act.put, List.setIfInBounds_toArray, List.set_cons_zero, List.set_cons_succ, Nat.reduceAdd]
  refine planS_late (fun L u hi hb hS => ?_) ?_
  · obtain ⟨hy, ho, hK⟩ := hS.do12 hi (hb 5 (by simp)) (Nat.le_refl _) (HPS.out u _ 3 (Y 5) hS.get.1.pr (.inl rfl))
    obtain ⟨B5, d5, r5⟩ := ho.slice
    rw [HL1.out.2.2] at r5
    rw [r5] at hK ⊢
    have HK := Lib.hid hK
    unfold sepX at hy
    obtain ⟨y0, y1, y2, y3, y4, hys⟩ := row5 hy
    obtain ⟨f0, f1, f2, f3, f4⟩ := free5 hy
    clear hS hb hK hy ho r5
    go_wp2_with fail
    exact ⟨undef, HK.out undef⟩
  simp only [Act.put, List.setIfInBounds_toArray, List.set_cons_zero, List.set_cons_succ, Nat.reduceAdd]
  refine planS_val (by kernel_rfl) (fun L u hb hS => ?_) ?_
  · clear hS hb
    go_simp
  simp only [Act.put, List.setIfInBounds_toArray, List.set_cons_zero, List.set_cons_succ, Nat.reduceAdd]
  refine planS_late (fun L u hi hb hS => ?_) ?_
  · obtain ⟨hy, ho, hK⟩ := hS.do14 hi (hb 10 (by simp)) (Nat.le_refl _) (HPS.out u _ 3 (Y 10) hS.get.1.pr (.inr (.inl rfl)))
    obtain ⟨B5, d5, r5⟩ := ho.slice
    rw [HL2.out.2.2] at r5
    rw [r5] at hK ⊢
    have HK := Lib.hid hK
    unfold sepX at hy
    obtain ⟨y0, y1, y2, y3, y4, hys⟩ := row5 hy
    obtain ⟨f0, f1, f2, f3, f4⟩ := free5 hy
    clear hS hb hK hy ho r5
    go_wp2_with fail
    exact ⟨undef, HK.out undef⟩
  simp only [Act.put, List.setIfInBounds_toArray, List.set_cons_zero, List.set_cons_succ, Nat.reduceAdd]
  refine planS_end ?_
  intro w9 hS
  obtain ⟨hP9, hT9⟩ := hS.done
  have o5 := hP9.a rfl
  have o6 := hP9.b rfl
  have ha5 := hP9.ab rfl rfl
  obtain ⟨B5, d5, r5⟩ := o5.slice
  obtain ⟨B6, d6, r6⟩ := o6.slice
  rw [HL1.out.2.2] at r5
  rw [HL2.out.2.2] at r6
  rw [r5] at o5 ha5 hT9
  rw [r6] at o6 ha5 hT9
  rw [r5, r6]
  have hu9 := hP9.calm
  have hR9 := hP9.pr
  clear hS hP9 r5 r6 cS1 cS2 cT cK HPC hPs hP8 hT8' hu8 hx8 hT8
  have HA5 := Lib.hid ha5
  have HR9 := Lib.hid hR9
  unfold sepX at hT9
  obtain ⟨lc, hlc⟩ : ∃ lc : Array Value, lc = #[.int .i64 2, .slice none 0 0, .slice B1 m d1, .slice B5 M1 d5, .slice B3 m d3] := ⟨_, rfl⟩
  obtain ⟨rc, hrc⟩ : ∃ rc : Array Value, rc = #[.int .i64 2, .slice none 0 0, .slice B2 (NK - m) d2, .slice B6 (NK - 1 - m) d6, .slice B4 (NK - m) d4] := ⟨_, rfl⟩
  obtain ⟨sc, hsc⟩ : ∃ sc : Array Value, sc = #[.int .i64 sep.p, .int .i64 sep.o, .int .i64 sep.f, .int .i64 sep.m] := ⟨_, rfl⟩
  rw [← hlc, ← hrc] at hT9
  have HLC := Lib.hid hlc
  have HRC := Lib.hid hrc
  have HSC := Lib.hid hsc
  obtain ⟨PO, hPO⟩ : ∃ PO : List Bool → (Nat → Value) → World → Prop, PO = fun _ _ u => Calm w u ∧ PR u ∧ OwnS w8.heap.size u (.slice B5 M1 d5) (S.take M1) ∧ OwnS w8.heap.size u (.slice B6 (NK - 1 - m) d6) (S.drop m) := ⟨_, rfl⟩
  have HPO := Lib.hid hPO
  have hPs : ∀ bs Y u u', PO bs Y u → Calm u u' → PO bs Y u' := fun bs Y u u' h hb => by rw [hPO] at h ⊢; exact ⟨h.1.call hb, HPC2.out _ _ h.2.1 hb, rows_calm h.2.2.1 hb, rows_calm h.2.2.2 hb⟩
  have hP9 : ∀ Y, PO [false, false, false] Y w9 := fun Y => by rw [hPO]; exact ⟨hu9, hR9, o5, o6⟩
  have HPS9 : Hid (∀ bs Y bs' Y' u gg j v, PO bs Y u → gg = w.heap.size + 1 ∨ gg = w.heap.size + 2 ∨ gg = w.heap.size + 3 → PO bs' Y' (u.setCell ⟨gg, j, none⟩ v)) := show ∀ _ _ _ _ _ _ _ _, _ → _ → _ from fun bs Y bs' Y' u gg j v h hg => by
    rw [hPO] at h ⊢
    have hgl : gg < w8.heap.size := by have := HL4.out; have := HL6.out; have := HR1.out.2.2.2.2; omega
    exact ⟨h.1.setCell (p := ⟨gg, j, none⟩) (by show w.heap.size ≤ gg; omega) _, HPS.out u gg j v h.2.1 hg, rows_set h.2.2.1 hgl j v, rows_set h.2.2.2 hgl j v⟩
  have hel : ∀ L u Y, StX w8 w.heap.size (fun _ _ => lc) (fun _ _ => rc) (fun bs _ => if bs.getD 2 false then sc else spZ) PO (([8, 9, 10] : List Nat).map L) Y u → SpAt u b3 (q3 + M1 * 4) sep ∧ b3 < u.heap.size := fun L u Y hS => by
    have h := hS.2
    rw [hPO] at h
    exact ⟨HSAT.out u h.1, Nat.lt_of_lt_of_le hb3 h.1.size⟩
  have HEA := Lib.hid hel
  clear hlc hrc hsc hPO hel hu9 hR9 o5 o6 ha5
  obtain ⟨sp, so, sf, sm⟩ := sep
  simp only at HSC HEA HSEP
  go_upto_region 9 with fail
  refine wp_region_stages [.val (.agg lc), .val (.agg rc), .val (.pointer (some ⟨w.heap.size, 3, none⟩)), .val (.slice (some ⟨b3, q3, none⟩) (NK - 1) c3), .val (.int .i64 (m : Int)), .val (.int .i64 (M1 : Int)), .val (.pointer (some ⟨b3, q3 + M1 * 4, none⟩)), .val (.agg #[.int .i64 sp, .int .i64 so, .int .i64 sf, .int .i64 sm]), .late, .late [8], .late [9]] [8, 9, 10]
    (StX w8 w.heap.size (fun _ _ => lc) (fun _ _ => rc) (fun bs _ => if bs.getD 2 false then sc else spZ) PO) (by kernel_rfl) (by kernel_rfl) (by kernel_rfl) (StX.stay hPs) (fun Y => ⟨hT9.stay (Calm.refl w9).drew, hPs _ _ _ _ (hP9 Y) (Calm.refl w9).drew⟩) (fun Y => ?_)
  iterate 8
    refine planS_val (by kernel_rfl) (fun L u hb hS => ?_) ?_
    · have hb2 := hS.1.b2
      have hb3' := hS.1.b3
      obtain ⟨⟨a0, a1, a2, a3⟩, hg2⟩ := HEA.out _ _ _ hS
      obtain ⟨x0, x1, x2, x3, x4, hxs⟩ := row5 (hS.1.p (Nat.le_refl _) HX8.out)
      first | rw [HLC.out] at hb2 ⊢ | rw [HLC.out] at hb2
      first | rw [HRC.out] at hb3' ⊢ | rw [HRC.out] at hb3'
      obtain ⟨y0, y1, y2, y3, y4, hys⟩ := row5 hb2
      obtain ⟨k0, k1, k2, k3, k4, hks⟩ := row5 hb3'
      clear hS hb hb2 hb3'
      go_simp
    simp only [Act.put, List.setIfInBounds_toArray, List.set_cons_zero, List.set_cons_succ, Nat.reduceAdd]
  refine planS_late (fun L u hi hb hS => ?_) ?_
  · have hT := hS.1
    have hQP := hS.2
    have hy := hT.b2
    rw [HLC.out] at hy
    have hq := hT.five2 HLC.out (.int .i64 2) (.slice none 0 0) (.slice B1 m d1) (.slice B5 M1 d5) (.slice B3 m d3)
    rw [← HLC.out] at hq
    have HQ : Hid (∀ y, (StX w8 w.heap.size (fun _ _ => lc) (fun _ _ => rc) (fun bs _ => if bs.getD 2 false then sc else spZ) PO) ([8, 9, 10].map (updB L 8)) (updV Y 8 y) (World.five u (w.heap.size + 1) (.int .i64 2) (.slice none 0 0) (.slice B1 m d1) (.slice B5 M1 d5) (.slice B3 m d3))) := show ∀ _, _ from fun y => by
      have k := fun j v u bs Y' h => HPS9.out bs Y' ([8, 9, 10].map (updB L 8)) (updV Y 8 y) u (w.heap.size + 1) j v h (by omega)
      exact ⟨by simpa [updB] using hq, k 4 _ _ _ _ (k 3 _ _ _ _ (k 2 _ _ _ _ (k 1 _ _ _ _ (k 0 _ _ _ _ hQP))))⟩
    obtain ⟨y0, y1, y2, y3, y4, hys⟩ := row5 hy
    obtain ⟨f0, f1, f2, f3, f4⟩ := free5 hy
    rw [HLC.out] at HQ ⊢
    clear hS hb hT hQP hy hq
    go_wp2_with fail
    exact ⟨undef, HQ.out undef⟩
  simp only [Act.put, List.setIfInBounds_toArray, List.set_cons_zero, List.set_cons_succ, Nat.reduceAdd]
  refine planS_late (fun L u hi hb hS => ?_) ?_
  · have hT := hS.1
    have hQP := hS.2
    have hy := hT.b3
    rw [HRC.out] at hy
    have hq := hT.five3 HRC.out (.int .i64 2) (.slice none 0 0) (.slice B2 (NK - m) d2) (.slice B6 (NK - 1 - m) d6) (.slice B4 (NK - m) d4)
    rw [← HRC.out] at hq
    have HQ : Hid (∀ y, (StX w8 w.heap.size (fun _ _ => lc) (fun _ _ => rc) (fun bs _ => if bs.getD 2 false then sc else spZ) PO) ([8, 9, 10].map (updB L 9)) (updV Y 9 y) (World.five u (w.heap.size + 2) (.int .i64 2) (.slice none 0 0) (.slice B2 (NK - m) d2) (.slice B6 (NK - 1 - m) d6) (.slice B4 (NK - m) d4))) := show ∀ _, _ from fun y => by
      have k := fun j v u bs Y' h => HPS9.out bs Y' ([8, 9, 10].map (updB L 9)) (updV Y 9 y) u (w.heap.size + 2) j v h (by omega)
      exact ⟨by simpa [updB] using hq, k 4 _ _ _ _ (k 3 _ _ _ _ (k 2 _ _ _ _ (k 1 _ _ _ _ (k 0 _ _ _ _ hQP))))⟩
    obtain ⟨y0, y1, y2, y3, y4, hys⟩ := row5 hy
    obtain ⟨f0, f1, f2, f3, f4⟩ := free5 hy
    rw [HRC.out] at HQ ⊢
    clear hS hb hT hQP hy hq
    go_wp2_with fail
    exact ⟨undef, HQ.out undef⟩
  simp only [Act.put, List.setIfInBounds_toArray, List.set_cons_zero, List.set_cons_succ, Nat.reduceAdd]
  refine planS_late (fun L u hi hb hS => ?_) ?_
  · have hT := hS.1
    have hQP := hS.2
    have hy := hT.b4
    simp only [List.map_cons, List.map_nil, List.getD_cons_zero, List.getD_cons_succ, hi, Bool.false_eq_true, if_false] at hy
    have hq := hT.four4 (.int .i64 sp) (.int .i64 so) (.int .i64 sf) (.int .i64 sm) (by simp only [List.map_cons, List.map_nil, List.getD_cons_zero, List.getD_cons_succ, hi, Bool.false_eq_true, if_false]; rfl)
    rw [← HSC.out] at hq
    have HQ : Hid (∀ y, (StX w8 w.heap.size (fun _ _ => lc) (fun _ _ => rc) (fun bs _ => if bs.getD 2 false then sc else spZ) PO) ([8, 9, 10].map (updB L 10)) (updV Y 10 y) (World.four u (w.heap.size + 3) 0 (.int .i64 sp) (.int .i64 so) (.int .i64 sf) (.int .i64 sm))) := show ∀ _, _ from fun y => by
      have k := fun j v u bs Y' h => HPS9.out bs Y' ([8, 9, 10].map (updB L 10)) (updV Y 10 y) u (w.heap.size + 3) j v h (by omega)
      exact ⟨by simpa [updB] using hq, k 3 _ _ _ _ (k 2 _ _ _ _ (k 1 _ _ _ _ (k 0 _ _ _ _ hQP)))⟩
    unfold spZ at hy
    obtain ⟨y0, y1, y2, y3, hys⟩ := row4 hy
    obtain ⟨f0, f1, f2, f3, f4⟩ := free5 hy
    clear hS hb hT hQP hy hq
    go_wp2_with fail
    exact ⟨undef, HQ.out undef⟩
  simp only [Act.put, List.setIfInBounds_toArray, List.set_cons_zero, List.set_cons_succ, Nat.reduceAdd]
  refine planS_end ?_
  intro w7 hS
  have hT7 : Tri w8 w.heap.size lc rc sc w7 := by have := hS.1; simpa using this
  have hP7 := hS.2
  rw [HPO.out] at hP7
  rw [HLC.out, HRC.out, HSC.out] at hT7
  have HE : Hid (HalvesEnd w 2 [] K S T m (.returned (.tuple #[.agg #[.int .i64 2, .slice none 0 0, .slice B1 m d1, .slice B5 M1 d5, .slice B3 m d3], .agg #[.int .i64 2, .slice none 0 0, .slice B2 (NK - m) d2, .slice B6 (NK - 1 - m) d6, .slice B4 (NK - m) d4], .agg #[.int .i64 sp, .int .i64 so, .int .i64 sf, .int .i64 sm]])) w7) := by
    obtain ⟨hc7, hr7, p5, p6⟩ := hP7
    rw [HPR.out] at hr7
    obtain ⟨p1, p2, p3, p4⟩ := hr7
    obtain ⟨t1, t2, t3, t4, t5⟩ := HR1.out
    have hw4 : w.heap.size ≤ w4.heap.size := by have := HL4.out; omega
    have hw6 : w.heap.size ≤ w6.heap.size := by have := HL6.out; omega
    have hw8 : w.heap.size ≤ w8.heap.size := by omega
    have hm16 := HM9.out
    have hM1 := HMM.out
    have q1 : OwnI w4.heap.size w7 (.slice B1 (K.take m).length d1) (K.take m) := by rw [HL1.out.1]; exact p1
    have q2 : OwnI w4.heap.size w7 (.slice B2 (K.drop m).length d2) (K.drop m) := by rw [HL2.out.1]; exact p2
    have q3 : OwnI w6.heap.size w7 (.slice B3 (T.take m).length d3) (T.take m) := by rw [HL1.out.2.1]; exact p3
    have q4 : OwnI w6.heap.size w7 (.slice B4 (T.drop m).length d4) (T.drop m) := by rw [HL2.out.2.1]; exact p4
    have q5 : OwnS w8.heap.size w7 (.slice B5 (S.take M1).length d5) (S.take M1) := by rw [HL1.out.2.2]; exact p5
    have q6 : OwnS w8.heap.size w7 (.slice B6 (S.drop m).length d6) (S.drop m) := by rw [HL2.out.2.2]; exact p6
    have z1 : ∀ k, (Value.slice B1 (K.take m).length d1).ownBlock = some k → k < w6.heap.size := by rw [HL1.out.1]; exact t1
    have z2 : ∀ k, (Value.slice B2 (K.drop m).length d2).ownBlock = some k → k < w6.heap.size := by rw [HL2.out.1]; exact t2
    have z3 : ∀ k, (Value.slice B3 (T.take m).length d3).ownBlock = some k → w6.heap.size ≤ k ∧ k < w8.heap.size := by rw [HL1.out.2.1]; exact t3
    have z4 : ∀ k, (Value.slice B4 (T.drop m).length d4).ownBlock = some k → w6.heap.size ≤ k ∧ k < w8.heap.size := by rw [HL2.out.2.1]; exact t4
    have aw1 : Away (.slice B1 (K.take m).length d1) (.slice B2 (K.drop m).length d2) := by rw [HL1.out.1, HL2.out.1]; exact HA.out
    have aw3 : Away (.slice B3 (T.take m).length d3) (.slice B4 (T.drop m).length d4) := by rw [HL1.out.2.1, HL2.out.2.1]; exact HA3.out
    have aw2 : Away (.slice B5 (S.take M1).length d5) (.slice B6 (S.drop m).length d6) := by rw [HL1.out.2.2, HL2.out.2.2]; exact HA5.out
    obtain ⟨ap1, ap2, ap3⟩ := halves_apart (l := ⟨2, none, B1, B5, B3, 0, d1, d5, d3, [], K.take m, S.take M1, T.take m⟩) (r := ⟨2, none, B2, B6, B4, 0, d2, d6, d4, [], K.drop m, S.drop m, T.drop m⟩) rfl rfl z1 z2 z3 z4 (fun k hk => (rows_lt q5 k hk).1) (fun k hk => (rows_lt q6 k hk).1) t5 aw1 aw2 aw3
    refine show HalvesEnd _ _ _ _ _ _ _ _ _ from ⟨⟨2, none, B1, B5, B3, 0, d1, d5, d3, [], K.take m, S.take M1, T.take m⟩, ⟨2, none, B2, B6, B4, 0, d2, d6, d4, [], K.drop m, S.drop m, T.drop m⟩, ⟨sp, so, sf, sm⟩, ?_, rfl, by simp, rfl, by rw [hM1], rfl, rfl, by simp, rfl, rfl, rfl, ⟨fun h => by omega, fun _ => by rw [← hM1]; exact HSEP.out⟩, ?_, ?_, ap1, ap2, ap3, hc7⟩
    · unfold Nd.cells spV; rw [HL1.out.1, HL1.out.2.1, HL1.out.2.2, HL2.out.1, HL2.out.2.1, HL2.out.2.2]; rfl
    · exact ⟨OwnR.nil _ _, rows_weaken q1 hw4, rows_weaken q5 hw8, rows_weaken q3 hw6, by simp, fun s hs => HWF.out s (List.mem_of_mem_take hs), by simp, by rw [HL1.out.1]; omega, by rw [HL1.out.2.2]; omega, by rw [HL1.out.2.1]; omega⟩
    · exact ⟨OwnR.nil _ _, rows_weaken q2 hw4, rows_weaken q6 hw8, rows_weaken q4 hw6, by simp, fun s hs => HWF.out s (List.mem_of_mem_drop hs), by simp, by rw [HL2.out.1]; omega, by rw [HL2.out.2.2]; omega, by rw [HL2.out.2.1]; omega⟩
  have HT7 := Lib.hid hT7
  clear hS hT7 hP7 hT9 hP9
  go_wp2_with fail
  exact HRET.out _ _ (end_nns rfl rfl _ _ (w.heap.size + 1) (w.heap.size + 2) (w.heap.size + 3) _ _ _ rfl rfl rfl rfl HT7.out.b2 HT7.out.b3 HT7.out.b4 rfl rfl rfl HE.out)
end Go.Proofs.Ytbkafjffofaonaa
