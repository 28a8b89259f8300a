/- TreeSays: the walk. -/
import Derived.Test.YtpdfgjofonlafaaQRefT
import Derived.Test.YtpdfgjofonlafaaMF
namespace Go.Proofs.Ytpdfgjofonlafaa
open Go.RowKit

set_option maxRecDepth 100000 in
theorem leaf_cap : ∀ n ∈ [ndLeaf], n.E.length ≤ n.c1 := fun n hn => by rw [List.mem_singleton.1 hn]; exact Nat.le_refl _
set_option maxRecDepth 100000 in
theorem leaf_sized : ∀ n ∈ [ndLeaf], NdSized n := fun n hn => by
  rw [List.mem_singleton.1 hn]
  unfold NdSized ndLeaf
  simp
set_option maxRecDepth 100000 in
set_option maxHeartbeats 8000000 in
theorem treeSays_walk (root : Int) (A : Option Addr) (c : Nat) (l : List Nd) (w : World) (h : TrAt w A l) (hcap : ∀ n ∈ l, n.E.length ≤ n.c1) (hszd : ∀ n ∈ l, NdSized n) :
    Calls Try.prog 3 #[.agg #[.int .i64 root, .slice A l.length c]] w fun e w' => e = .returned (.bool true) ∧ Calm w w' := by
  have hx := heap_new w (.cells #[.int .i64 root, .slice A l.length c] 24)
  have hu := (Calm.refl w).alloc (.cells #[.int .i64 root, .slice A l.length c] 24)
  have HW : Hid (∀ e ∈ (if treeErr l root = 0 then allOf l root else []), e.wf) := show ∀ e ∈ _, _ from fun e he => by
    by_cases hz : treeErr l root = 0
    · rw [if_pos hz] at he; exact recs_wf h _ _ e he
    · rw [if_neg hz] at he; exact absurd he List.not_mem_nil
  have cA := fun u (hu : Calm w u) => treeAll_any root A c l u (h.calm hu)
  have cD := fun u (hu : Calm w u) => treeDepth_any root A c l u (h.calm hu)
  have cC := fun u (hu : Calm w u) => treeCheck_any root A c l u (h.calm hu)
  have cR := fun u (hu : Calm w u) => refTree_any root A c l u (h.calm hu) hcap hszd
  have cN := fun u => treeNew_any u
  have cL := fun g u (hg : u.heap[g]? = some (.cells #[.int .i64 1, .slice none 0 0, .slice none 0 0, .slice none 0 0, .slice none 0 0] 37 (0, 0))) => refTree_any 0 (some ⟨g, 0, none⟩) 1 [ndLeaf] u (leaf_at hg) leaf_cap leaf_sized
  unfold RefEnd at cR cL
  rw [leaf_tree.1] at cL
  simp only [if_true, List.length_cons, List.length_nil, Nat.zero_add] at cL
  generalize (depthOf [ndLeaf] 0 : Int) = D1 at cL
  generalize allOf [ndLeaf] 0 = L1 at cL
  generalize (if treeErr l root = 0 then allOf l root else []) = L at cA cR HW
  generalize (if treeErr l root = 0 then (depthOf l root : Int) else 0) = D at cD cR
  generalize treeErr l root = R at cA cD cC cR
  clear h hcap hszd
  obtain ⟨x0, x1, hxs⟩ := rowT hx
  go_enter Try.func3, Try.ntmps3
  go_wp2_with first
    | (go_at_call 6; (with_reducible refine (cA _ hu).mono ?_); rintro e w1 ⟨v, rfl, ho, hb1⟩; obtain ⟨A1, c1, hv1, hn1, hn2, hl1⟩ := ho.lies HW.out; subst hv1; have HL := Lib.hid hl1; replace hx := (hb1.block (rowT hx).2.2).trans hx; replace hu := hu.call hb1; clear hb1 ho hl1 x0 x1 hxs; obtain ⟨x0, x1, hxs⟩ := rowT hx)
    | (go_at_call 7; (with_reducible refine (cD _ hu).mono ?_); rintro e w2 ⟨rfl, hb1⟩; replace hx := (hb1.block (rowT hx).2.2).trans hx; replace hu := hu.call hb1; have HL2 := Lib.hid (HL.out.calm hb1); clear hb1 x0 x1 hxs; obtain ⟨x0, x1, hxs⟩ := rowT hx)
    | (go_at_call 8; (with_reducible refine (cR _ hu).mono ?_); rintro e w3 ⟨v, rfl, ho, hb1⟩; obtain ⟨A2, c2, hv2, hn3, hn4, hl2⟩ := ho.lies HW.out; subst hv2; have HM := Lib.hid hl2; replace hx := (hb1.block (rowT hx).2.2).trans hx; replace hu := hu.call hb1; have HL3 := Lib.hid (HL2.out.calm hb1); clear hb1 ho hl2 x0 x1 hxs; obtain ⟨x0, x1, hxs⟩ := rowT hx)
    | (go_at_call 9; (with_reducible refine (cN _).mono ?_); rintro e w4 ⟨g, rfl, hg0, hg, hb1⟩; replace hx := (hb1.block (rowT hx).2.2).trans hx; have hc4 := hb1.alloc (.cells #[.int .i64 0, .slice (some ⟨g, 0, none⟩) 1 1] 24); have hy := heap_new w4 (.cells #[.int .i64 0, .slice (some ⟨g, 0, none⟩) 1 1] 24); have hg4 := (((Calm.refl w4).alloc (.cells #[.int .i64 0, .slice (some ⟨g, 0, none⟩) 1 1] 24)).block (Array.getElem?_eq_some_iff.1 hg).1).trans hg; have HL4 := Lib.hid (HL3.out.calm hc4); have HM4 := Lib.hid (HM.out.calm hc4); replace hx := (((Calm.refl w4).alloc (.cells #[.int .i64 0, .slice (some ⟨g, 0, none⟩) 1 1] 24)).block (rowT hx).2.2).trans hx; replace hu := hu.call hc4; have cL4 := cL g _ hg4; clear hb1 hc4 x0 x1 hxs; obtain ⟨x0, x1, hxs⟩ := rowT hx; obtain ⟨y0, y1, hys⟩ := rowT hy)
    | (go_at_call 8; (with_reducible refine cL4.mono ?_); rintro e w5 ⟨v5, rfl, ho5, hb5⟩; replace hx := (hb5.block (rowT hx).2.2).trans hx; replace hy := (hb5.block (rowT hy).2.2).trans hy; have hg5 := (hb5.block (Array.getElem?_eq_some_iff.1 hg4).1).trans hg4; replace hu := hu.call hb5; have HL5 := Lib.hid (HL4.out.calm hb5); have HM5 := Lib.hid (HM4.out.calm hb5); clear hb5 hg hg4 ho5 cL4 x0 x1 hxs y0 y1 hys; obtain ⟨x0, x1, hxs⟩ := rowT hx; obtain ⟨y0, y1, hys⟩ := rowT hy; obtain ⟨m0, m1, m2, m3, m4, hms⟩ := row5 hg5)
    | (go_at_call 10; (with_reducible refine (cC _ hu).mono ?_); rintro e w6 ⟨rfl, hb6⟩; replace hx := (hb6.block (rowT hx).2.2).trans hx; replace hu := hu.call hb6; have HL6 := Lib.hid (HL5.out.calm hb6); have HM6 := Lib.hid (HM5.out.calm hb6); clear hb6)
    | (go_at_call 11; (with_reducible refine (equal_self _ _ _ _ L _ (by omega) HL6.out HM6.out).mono ?_); rintro e w7 ⟨rfl, hb7⟩; replace hu := hu.call hb7)
  go_ret
  exact ⟨rfl, hu⟩
end Go.Proofs.Ytpdfgjofonlafaa
