/- past.Check, past.At, past.Range: the walks. -/
import Derived.Test.YtgebilpdinbfgaaQAt
import Derived.Test.YtgebilpdinbfgaaQRange
import Derived.Test.YtgebilpdinbfgaaMJ
import Derived.Test.YtgebilpdinbfgaaMC
namespace Go.Proofs.Ytgebilpdinbfgaa
open Go.RowKit

noncomputable def pastE (l : List Nd) (root : Int) : Int := if treeErr l root = 0 then runErr (allOf l root) else treeErr l root
noncomputable def pastAE (l : List Nd) (root : Int) (k : Int × Int × Int) (t : Int) : Int := if treeErr l root = 0 then atErr (allOf l root) k t else treeErr l root
noncomputable def pastAV (l : List Nd) (root : Int) (k : Int × Int × Int) (t : Int) : El := if treeErr l root = 0 then atVal (allOf l root) k t else zeroEl
noncomputable def pastRE (l : List Nd) (root : Int) (lo hi : Int × Int × Int) : Int := if treeErr l root = 0 then rgErr (allOf l root) lo hi else treeErr l root
noncomputable def pastRL (l : List Nd) (root : Int) (lo hi : Int × Int × Int) (t : Int) : List El := if treeErr l root = 0 then (if rgErr (allOf l root) lo hi = 0 then rangeR (allOf l root) lo hi t else []) else []
set_option maxRecDepth 100000 in
set_option maxHeartbeats 4000000 in
theorem pastCheck_any (root : Int) (A : Option Addr) (c : Nat) (l : List Nd) (w : World) (h : TrAt w A l) :
    Calls Try.prog 9 #[.agg #[.int .i64 root, .slice A l.length c]] w fun e w' => e = .returned (.int .i64 (pastE l root)) ∧ Calm w w' := by
  have hx := heap_new w (.cells #[.int .i64 root, .slice A l.length c] 24)
  have hu := (Calm.refl w).alloc (.cells #[.int .i64 root, .slice A l.length c] 24)
  have cA := fun u (hu : Calm w u) => treeAll_any root A c l u (h.calm hu)
  have hwf := recs_wf h (depthOf l root) root
  obtain ⟨x0, x1, hxs⟩ := rowT hx
  by_cases hz : treeErr l root = 0
  · have e1 : pastE l root = runErr (allOf l root) := if_pos hz
    rw [e1]
    simp only [hz, if_true] at cA
    have HW : Hid (∀ e ∈ allOf l root, e.wf) := hwf
    generalize allOf l root = L at cA HW ⊢
    have cC := fun (A1 : Option Addr) (c1 : Nat) (u : World) (h1 : L.length ≤ 9223372036854775807) (h2 : Lies u A1 L) => runCheck_any A1 c1 L u h1 h2
    generalize runErr L = R at cC ⊢
    clear h hz e1 hwf
    go_enter Try.func9, Try.ntmps9
    go_wp2_with first
      | (go_at_call 16; (with_reducible refine (cA _ hu).mono ?_); rintro e w1 ⟨v, rfl, ho, hb1⟩; obtain ⟨A1, c1, rfl, hn1, hn2, hl1⟩ := ho.lies HW.out; have HL := Lib.hid hl1; replace hu := hu.call hb1; clear hb1 ho hl1 x0 x1 hxs)
      | (go_at_call 31; (with_reducible refine (cC _ _ _ (by omega) HL.out).mono ?_); rintro e w2 ⟨rfl, hb2⟩)
    go_ret
    exact ⟨rfl, hu.call hb2⟩
  · have e1 : pastE l root = treeErr l root := if_neg hz
    rw [e1]
    simp only [hz, if_false] at cA
    generalize treeErr l root = R at cA hz ⊢
    have b1 : (R != 0) = true := by simpa using hz
    clear h e1 hwf hz
    go_enter Try.func9, Try.ntmps9
    go_wp2_with (go_at_call 16; (with_reducible refine (cA _ hu).mono ?_); rintro e w1 ⟨v, rfl, ho, hb1⟩; obtain ⟨A1, c1, rfl⟩ := ho.slice; replace hu := hu.call hb1; clear hb1 ho x0 x1 hxs)
    go_ret
    exact ⟨rfl, hu⟩
set_option maxRecDepth 100000 in
set_option maxHeartbeats 4000000 in
theorem pastAt_any (root : Int) (A : Option Addr) (c : Nat) (l : List Nd) (p' o' f' t : Int) (w : World) (h : TrAt w A l) :
    Calls Try.prog 7 #[.agg #[.int .i64 root, .slice A l.length c], .agg #[.int .i64 p', .int .i64 o', .int .i64 f'], .int .i64 t] w (AtEnd (pastAV l root (p', o', f') t) (pastAE l root (p', o', f') t) w) := by
  have hx := heap_past (.cells #[.int .i64 0, .int .i64 0, .int .i64 0, .int .i64 0, .int .i64 0, .string { data := #[] }] 33) (heap_past (.cells #[.int .i64 p', .int .i64 o', .int .i64 f'] 26) (heap_new w (.cells #[.int .i64 root, .slice A l.length c] 24)))
  have hy := heap_past (.cells #[.int .i64 0, .int .i64 0, .int .i64 0, .int .i64 0, .int .i64 0, .string { data := #[] }] 33) (heap_new (w.alloc (.cells #[.int .i64 root, .slice A l.length c] 24)) (.cells #[.int .i64 p', .int .i64 o', .int .i64 f'] 26))
  have hr := heap_new ((w.alloc (.cells #[.int .i64 root, .slice A l.length c] 24)).alloc (.cells #[.int .i64 p', .int .i64 o', .int .i64 f'] 26)) (.cells #[.int .i64 0, .int .i64 0, .int .i64 0, .int .i64 0, .int .i64 0, .string { data := #[] }] 33)
  rw [World.size_alloc] at hy hr
  rw [World.size_alloc] at hr
  have hu := (((Calm.refl w).alloc (.cells #[.int .i64 root, .slice A l.length c] 24)).alloc (.cells #[.int .i64 p', .int .i64 o', .int .i64 f'] 26)).alloc (.cells #[.int .i64 0, .int .i64 0, .int .i64 0, .int .i64 0, .int .i64 0, .string { data := #[] }] 33)
  have cA := fun u (hu : Calm w u) => treeAll_any root A c l u (h.calm hu)
  have hwf := recs_wf h (depthOf l root) root
  obtain ⟨x0, x1, hxs⟩ := rowT hx
  by_cases hz : treeErr l root = 0
  · have e1 : pastAE l root (p', o', f') t = atErr (allOf l root) (p', o', f') t := if_pos hz
    have e2 : pastAV l root (p', o', f') t = atVal (allOf l root) (p', o', f') t := if_pos hz
    rw [e1, e2]
    simp only [hz, if_true] at cA
    have HW : Hid (∀ e ∈ allOf l root, e.wf) := hwf
    generalize allOf l root = L at cA HW ⊢
    have cC := fun (A1 : Option Addr) (c1 : Nat) (u : World) (h1 : L.length ≤ 9223372036854775807) (h2 : Lies u A1 L) => runAt_any A1 c1 L p' o' f' t u h1 h2
    obtain ⟨V, hV⟩ : ∃ V, atVal L (p', o', f') t = V := ⟨_, rfl⟩
    rw [hV] at cC ⊢
    generalize atErr L (p', o', f') t = E at cC ⊢
    obtain ⟨vp, vo, vf, vm, vg, vs⟩ := V
    have cT : ∀ (A1 : Option Addr) (c1 : Nat) (u : World), L.length ≤ 9223372036854775807 → Lies u A1 L → Calls Try.prog 29 #[.slice A1 L.length c1, .agg #[.int .i64 p', .int .i64 o', .int .i64 f'], .int .i64 t] u fun e w' => e = .returned (.tuple #[.agg #[.int .i64 vp, .int .i64 vo, .int .i64 vf, .int .i64 vm, .int .i64 vg, .string vs], .int .i64 E]) ∧ Calm u w' := cC
    clear h hz e1 e2 hwf hV cC
    go_enter Try.func7, Try.ntmps7
    generalize hQ0 : bodyPost Try.prog Try.f7 (AtEnd ⟨vp, vo, vf, vm, vg, vs⟩ E w) = Q0
    have HRET : Hid (∀ a w', bodyPost Try.prog Try.f7 (AtEnd ⟨vp, vo, vf, vm, vg, vs⟩ E w) .ret a w' → Q0 .ret a w') := show ∀ _ _, _ → _ from fun a w' h => by rw [← hQ0]; exact h
    clear hQ0
    go_wp2_with first
      | (go_at_call 16; (with_reducible refine (cA _ hu).mono ?_); rintro e w1 ⟨v, rfl, ho, hb1⟩; obtain ⟨A1, c1, rfl, hn1, hn2, hl1⟩ := ho.lies HW.out; have HL := Lib.hid hl1; replace hy := (hb1.block (row3 hy).2.2.2).trans hy; replace hr := (hb1.block (row6 hr).2.2.2.2.2.2).trans hr; replace hu := hu.call hb1; clear hb1 ho hl1 x0 x1 hxs; obtain ⟨y0, y1, y2, hys⟩ := row3 hy)
      | (go_at_call 29; (with_reducible refine (cT _ _ _ (by omega) HL.out).mono ?_); rintro e w2 ⟨rfl, hb2⟩; replace hr := (hb2.block (row6 hr).2.2.2.2.2.2).trans hr; replace hu := hu.call hb2; clear hb2; obtain ⟨r0, r1, r2, r3, r4, r5, hrs⟩ := row6 hr; obtain ⟨f0, f1, f2, f3, f4, f5⟩ := free6 hr)
    have hS := set6 hr (.int .i64 vp) (.int .i64 vo) (.int .i64 vf) (.int .i64 vm) (.int .i64 vg) (.string vs)
    have hC := hu.six (g := w.heap.size + 1 + 1) (by omega) (.int .i64 vp) (.int .i64 vo) (.int .i64 vf) (.int .i64 vm) (.int .i64 vg) (.string vs)
    exact HRET.out _ _ (end_two rfl rfl _ _ (w.heap.size + 1 + 1) _ _ _ (0, 0) rfl rfl rfl hS rfl ⟨rfl, hC⟩)
  · have e1 : pastAE l root (p', o', f') t = treeErr l root := if_neg hz
    have e2 : pastAV l root (p', o', f') t = zeroEl := if_neg hz
    rw [e1, e2]
    simp only [hz, if_false] at cA
    generalize treeErr l root = E at cA hz ⊢
    have b1 : (E != 0) = true := by simpa using hz
    clear h e1 e2 hwf hz
    go_enter Try.func7, Try.ntmps7
    generalize hQ0 : bodyPost Try.prog Try.f7 (AtEnd zeroEl E w) = Q0
    have HRET : Hid (∀ a w', bodyPost Try.prog Try.f7 (AtEnd zeroEl E w) .ret a w' → Q0 .ret a w') := show ∀ _ _, _ → _ from fun a w' h => by rw [← hQ0]; exact h
    clear hQ0
    go_wp2_with (go_at_call 16; (with_reducible refine (cA _ hu).mono ?_); rintro e w1 ⟨v, rfl, ho, hb1⟩; obtain ⟨A1, c1, rfl⟩ := ho.slice; replace hr := (hb1.block (row6 hr).2.2.2.2.2.2).trans hr; replace hu := hu.call hb1; clear hb1 ho x0 x1 hxs; obtain ⟨r0, r1, r2, r3, r4, r5, hrs⟩ := row6 hr; obtain ⟨f0, f1, f2, f3, f4, f5⟩ := free6 hr)
    have hS := set6 hr (.int .i64 0) (.int .i64 0) (.int .i64 0) (.int .i64 0) (.int .i64 0) (.string { data := #[] })
    have hC := hu.six (g := w.heap.size + 1 + 1) (by omega) (.int .i64 0) (.int .i64 0) (.int .i64 0) (.int .i64 0) (.int .i64 0) (.string { data := #[] })
    exact HRET.out _ _ (end_two rfl rfl _ _ (w.heap.size + 1 + 1) _ _ _ (0, 0) rfl rfl rfl hS rfl ⟨rfl, hC⟩)
set_option maxRecDepth 100000 in
set_option maxHeartbeats 4000000 in
theorem pastRange_any (root : Int) (A : Option Addr) (c : Nat) (l : List Nd) (p' o' f' p2 o2 f2 t : Int) (w : World) (h : TrAt w A l) :
    Calls Try.prog 8 #[.agg #[.int .i64 root, .slice A l.length c], .agg #[.int .i64 p', .int .i64 o', .int .i64 f'], .agg #[.int .i64 p2, .int .i64 o2, .int .i64 f2], .int .i64 t] w (SlEnd (pastRL l root (p', o', f') (p2, o2, f2) t) (pastRE l root (p', o', f') (p2, o2, f2)) w) := by
  have hx := heap_past (.cells #[.int .i64 p2, .int .i64 o2, .int .i64 f2] 26) (heap_past (.cells #[.int .i64 p', .int .i64 o', .int .i64 f'] 26) (heap_new w (.cells #[.int .i64 root, .slice A l.length c] 24)))
  have hy := heap_past (.cells #[.int .i64 p2, .int .i64 o2, .int .i64 f2] 26) (heap_new (w.alloc (.cells #[.int .i64 root, .slice A l.length c] 24)) (.cells #[.int .i64 p', .int .i64 o', .int .i64 f'] 26))
  have hr := heap_new ((w.alloc (.cells #[.int .i64 root, .slice A l.length c] 24)).alloc (.cells #[.int .i64 p', .int .i64 o', .int .i64 f'] 26)) (.cells #[.int .i64 p2, .int .i64 o2, .int .i64 f2] 26)
  rw [World.size_alloc] at hy hr
  rw [World.size_alloc] at hr
  have hu := (((Calm.refl w).alloc (.cells #[.int .i64 root, .slice A l.length c] 24)).alloc (.cells #[.int .i64 p', .int .i64 o', .int .i64 f'] 26)).alloc (.cells #[.int .i64 p2, .int .i64 o2, .int .i64 f2] 26)
  have cA := fun u (hu : Calm w u) => treeAll_any root A c l u (h.calm hu)
  have hwf := recs_wf h (depthOf l root) root
  obtain ⟨x0, x1, hxs⟩ := rowT hx
  by_cases hz : treeErr l root = 0
  · have e1 : pastRE l root (p', o', f') (p2, o2, f2) = rgErr (allOf l root) (p', o', f') (p2, o2, f2) := if_pos hz
    have e2 : pastRL l root (p', o', f') (p2, o2, f2) t = (if rgErr (allOf l root) (p', o', f') (p2, o2, f2) = 0 then rangeR (allOf l root) (p', o', f') (p2, o2, f2) t else []) := if_pos hz
    rw [e1, e2]
    simp only [hz, if_true] at cA
    have HW : Hid (∀ e ∈ allOf l root, e.wf) := hwf
    generalize allOf l root = L at cA HW ⊢
    have cC := fun (A1 : Option Addr) (c1 : Nat) (u : World) (h1 : L.length ≤ 9223372036854775807) (h2 : Lies u A1 L) => runRange_any A1 c1 L p' o' f' p2 o2 f2 t u h1 h2
    generalize (if rgErr L (p', o', f') (p2, o2, f2) = 0 then rangeR L (p', o', f') (p2, o2, f2) t else []) = V at cC ⊢
    generalize rgErr L (p', o', f') (p2, o2, f2) = E at cC ⊢
    have cT : ∀ (A1 : Option Addr) (c1 : Nat) (u : World), L.length ≤ 9223372036854775807 → Lies u A1 L → Calls Try.prog 30 #[.slice A1 L.length c1, .agg #[.int .i64 p', .int .i64 o', .int .i64 f'], .agg #[.int .i64 p2, .int .i64 o2, .int .i64 f2], .int .i64 t] u fun e w' => ∃ v, e = .returned (.tuple #[v, .int .i64 E]) ∧ Sl w' v V ∧ Calm u w' := cC
    clear h hz e1 e2 hwf cC
    go_enter Try.func8, Try.ntmps8
    go_wp2_with first
      | (go_at_call 16; (with_reducible refine (cA _ hu).mono ?_); rintro e w1 ⟨v, rfl, ho, hb1⟩; obtain ⟨A1, c1, rfl, hn1, hn2, hl1⟩ := ho.lies HW.out; have HL := Lib.hid hl1; replace hy := (hb1.block (row3 hy).2.2.2).trans hy; replace hr := (hb1.block (row3 hr).2.2.2).trans hr; replace hu := hu.call hb1; clear hb1 ho hl1 x0 x1 hxs; obtain ⟨y0, y1, y2, hys⟩ := row3 hy; obtain ⟨r0, r1, r2, hrs⟩ := row3 hr)
      | (go_at_call 30; (with_reducible refine (cT _ _ _ (by omega) HL.out).mono ?_); rintro e w2 ⟨v2, rfl, hs2, hb2⟩; obtain ⟨A2, c2, rfl, hl2, hs2⟩ := hs2; have HS2 := Lib.hid hs2; replace hu := hu.call hb2; clear hb2 hs2)
    go_ret2
    exact ⟨_, rfl, ⟨_, _, rfl, hl2, HS2.out⟩, hu⟩
  · have e1 : pastRE l root (p', o', f') (p2, o2, f2) = treeErr l root := if_neg hz
    have e2 : pastRL l root (p', o', f') (p2, o2, f2) t = [] := if_neg hz
    rw [e1, e2]
    simp only [hz, if_false] at cA
    generalize treeErr l root = E at cA hz ⊢
    have b1 : (E != 0) = true := by simpa using hz
    clear h e1 e2 hwf hz
    go_enter Try.func8, Try.ntmps8
    go_wp2_with (go_at_call 16; (with_reducible refine (cA _ hu).mono ?_); rintro e w1 ⟨v, rfl, ho, hb1⟩; obtain ⟨A1, c1, rfl⟩ := ho.slice; replace hu := hu.call hb1; clear hb1 ho x0 x1 hxs)
    go_ret2
    exact ⟨_, rfl, Sl.nil _ _ _, hu⟩
end Go.Proofs.Ytgebilpdinbfgaa
