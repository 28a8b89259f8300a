/- Texts of one kind in one file. -/
import Derived.Lib.Hide
import Derived.Test.YtccfcloekjogkaaPkPastEach4
set_option maxRecDepth 100000
namespace Go.Proofs.Ytccfcloekjogkaa
open Go.RowKit
def El.val (e : El) : Value := .agg #[.int .i64 e.p, .int .i64 e.o, .int .i64 e.f, .int .i64 e.m, .int .i64 e.g, .string e.s]
def AtEnd (x : El) (n : Int) (w : World) (e : Ending) (w' : World) : Prop := e = .returned (.tuple #[x.val, .int .i64 n]) ∧ Calm w w'
set_option maxHeartbeats 4000000 in
theorem runAt_any (A : Option Addr) (d : Nat) (l : List El) (p' o' f' t : Int) (w : World) (hn : l.length ≤ 9223372036854775807) (hL : Lies w A l) :
    Calls Try.prog 33 #[.slice A l.length d, .agg #[.int .i64 p', .int .i64 o', .int .i64 f'], .int .i64 t] w (AtEnd (atVal l (p', o', f') t) (atErr l (p', o', f') t) w) := by
  have cC : ∀ u, Calm w u → Calls Try.prog 32 #[.slice A l.length d] u fun e w' => e = .returned (.int .i64 (runErr l)) ∧ Calm u w' := fun u hu => runCheck_any A d l u hn (hL.calm hu)
  have hz : ((w.alloc (.cells #[.int .i64 p', .int .i64 o', .int .i64 f'] 31)).alloc (.cells #[.int .i64 0, .int .i64 0, .int .i64 0, .int .i64 0, .int .i64 0, .string { data := #[] }] 33)).heap[w.heap.size + 1]? = some (.cells #[.int .i64 0, .int .i64 0, .int .i64 0, .int .i64 0, .int .i64 0, .string { data := #[] }] 33 (0, 0)) := by simpa using heap_new (w.alloc (.cells #[.int .i64 p', .int .i64 o', .int .i64 f'] 31)) (.cells #[.int .i64 0, .int .i64 0, .int .i64 0, .int .i64 0, .int .i64 0, .string { data := #[] }] 33)
  have hy : ((w.alloc (.cells #[.int .i64 p', .int .i64 o', .int .i64 f'] 31)).alloc (.cells #[.int .i64 0, .int .i64 0, .int .i64 0, .int .i64 0, .int .i64 0, .string { data := #[] }] 33)).heap[w.heap.size]? = some (.cells #[.int .i64 p', .int .i64 o', .int .i64 f'] 31 (0, 0)) := heap_past _ (heap_new _ _)
  have hu := ((Calm.refl w).alloc (.cells #[.int .i64 p', .int .i64 o', .int .i64 f'] 31)).alloc (.cells #[.int .i64 0, .int .i64 0, .int .i64 0, .int .i64 0, .int .i64 0, .string { data := #[] }] 33)
  by_cases he : runErr l = 0
  rotate_left
  · have e1 : atErr l (p', o', f') t = runErr l := by simp [atErr, askErr1, he]
    have e2 : atVal l (p', o', f') t = zeroEl := by simp [atVal, askErr1, he]
    rw [e1, e2]
    have b1 : (runErr l != 0) = true := by simpa using he
    clear he e1 e2 hL
    go_enter Try.func33, Try.ntmps33
    go_wp2_with (go_at_call 32; refine (cC _ hu).mono ?_; rintro e w1 ⟨rfl, hb1⟩; replace hz := (hb1.block (row6 hz).2.2.2.2.2.2).trans hz; replace hy := (hb1.block (row3 hy).2.2.2).trans hy; replace hu := hu.call hb1; clear hb1; obtain ⟨y0, y1, y2, hys⟩ := row3 hy; obtain ⟨z0, z1, z2, z3, z4, z5, hzs⟩ := row6 hz; obtain ⟨f0, f1, f2, f3, f4, f5⟩ := free6 hz)
    have hr := set6 hz (.int .i64 0) (.int .i64 0) (.int .i64 0) (.int .i64 0) (.int .i64 0) (.string { data := #[] })
    have hu2 := hu.six (g := w.heap.size + 1) (by omega) (.int .i64 0) (.int .i64 0) (.int .i64 0) (.int .i64 0) (.int .i64 0) (.string { data := #[] })
    unfold World.six at hr hu2
    exact end_two rfl rfl _ _ _ _ _ _ _ rfl rfl rfl hr rfl ⟨rfl, hu2⟩
  have hG := runErr_zero.1 he
  rw [he] at cC
  by_cases hk : keyErr p' o' f' = 0
  rotate_left
  · have e1 : atErr l (p', o', f') t = keyErr p' o' f' := by simp [atErr, askErr1, he, kErr, hk]
    have e2 : atVal l (p', o', f') t = zeroEl := by simp [atVal, askErr1, he, kErr, hk]
    rw [e1, e2]
    have b1 : (keyErr p' o' f' != 0) = true := by simpa using hk
    clear he hk e1 e2 hL hG
    go_enter Try.func33, Try.ntmps33
    go_wp2_with (first
      | (go_at_call 32; refine (cC _ hu).mono ?_; rintro e w1 ⟨rfl, hb1⟩; replace hz := (hb1.block (row6 hz).2.2.2.2.2.2).trans hz; replace hy := (hb1.block (row3 hy).2.2.2).trans hy; replace hu := hu.call hb1; clear hb1; obtain ⟨y0, y1, y2, hys⟩ := row3 hy; obtain ⟨z0, z1, z2, z3, z4, z5, hzs⟩ := row6 hz; obtain ⟨f0, f1, f2, f3, f4, f5⟩ := free6 hz)
      | (go_at_call 65; refine (keyCheck_any _ _ _ _).mono ?_; rintro e w1 ⟨rfl, hb1⟩; replace hz := (hb1.block (row6 hz).2.2.2.2.2.2).trans hz; replace hy := (hb1.block (row3 hy).2.2.2).trans hy; replace hu := hu.call hb1; clear hb1; obtain ⟨y0, y1, y2, hys⟩ := row3 hy; obtain ⟨z0, z1, z2, z3, z4, z5, hzs⟩ := row6 hz; obtain ⟨f0, f1, f2, f3, f4, f5⟩ := free6 hz))
    have hr := set6 hz (.int .i64 0) (.int .i64 0) (.int .i64 0) (.int .i64 0) (.int .i64 0) (.string { data := #[] })
    have hu2 := hu.six (g := w.heap.size + 1) (by omega) (.int .i64 0) (.int .i64 0) (.int .i64 0) (.int .i64 0) (.int .i64 0) (.string { data := #[] })
    unfold World.six at hr hu2
    exact end_two rfl rfl _ _ _ _ _ _ _ rfl rfl rfl hr rfl ⟨rfl, hu2⟩
  have cK : ∀ u, Calls Try.prog 65 #[.agg #[.int .i64 p', .int .i64 o', .int .i64 f']] u fun e w' => e = .returned (.int .i64 0) ∧ Calm u w' := fun u => by rw [← hk]; exact keyCheck_any _ _ _ _
  have cV : ∀ u, Calm w u → Calls Try.prog 66 #[.slice A l.length d, .agg #[.int .i64 p', .int .i64 o', .int .i64 f'], .int .i64 t] u fun e w' => e = .returned (.tuple #[.int .i64 (if hitB l (pos l (p', o', f') t) (p', o', f') t then (pos l (p', o', f') t : Int) - 1 else 0), .bool (hitB l (pos l (p', o', f') t) (p', o', f') t)]) ∧ Calm u w' :=
    fun u hu => liveRun_any A d l p' o' f' t u hG.1 (hL.calm hu) hG.2.2
  rcases hitB_pos hG.2.2 (p', o', f') t with ⟨h1, hi, h2, h3, h4⟩ | ⟨h1, h2, h3⟩
  · have e1 : atErr l (p', o', f') t = 0 := by simp [atErr, askErr1, he, kErr, hk, h4]
    have e2 : atVal l (p', o', f') t = l[pos l (p', o', f') t - 1] := by simp [atVal, askErr1, he, kErr, hk, h4]
    rw [e1, e2]
    simp only [h1, if_true] at cV
    rw [show (pos l (p', o', f') t : Int) - 1 = ((pos l (p', o', f') t - 1 : Nat) : Int) by omega] at cV
    clear e1 e2 h1 h2 h3 h4
    generalize pos l (p', o', f') t - 1 = j at cV hi ⊢
    obtain ⟨b, q, p, o, f, m, g, s, rfl, hb, HE, hm, c0, c1, c2, c3, c4, c5⟩ := hL.get hi
    have e3 : Hid (l[j] = ⟨p, o, f, m, g, s⟩) := (List.getElem?_eq_some_iff.1 HE.out).2
    have hC : ∀ u, Calm w u → u.cell? ⟨b, q + j * 6, none⟩ = some (.int .i64 p) ∧ u.cell? ⟨b, q + j * 6 + 1, none⟩ = some (.int .i64 o) ∧ u.cell? ⟨b, q + j * 6 + 2, none⟩ = some (.int .i64 f) ∧ u.cell? ⟨b, q + j * 6 + 3, none⟩ = some (.int .i64 m) ∧ u.cell? ⟨b, q + j * 6 + 4, none⟩ = some (.int .i64 g) ∧ u.cell? ⟨b, q + j * 6 + 5, none⟩ = some (.string s) := fun u hu =>
      have hc := hu.facts.1
      ⟨(hc _ _ hb).trans c0, (hc _ _ hb).trans c1, (hc _ _ hb).trans c2, (hc _ _ hb).trans c3, (hc _ _ hb).trans c4, (hc _ _ hb).trans c5⟩
    have hn4 := hG.1
    have hiz : (j : Int) < (l.length : Int) := by omega
    clear he hk hL hG HE c0 c1 c2 c3 c4 c5
    go_enter Try.func33, Try.ntmps33
    go_wp2_with (first
      | (go_at_call 32; refine (cC _ hu).mono ?_; rintro e w1 ⟨rfl, hb1⟩; replace hz := (hb1.block (row6 hz).2.2.2.2.2.2).trans hz; replace hy := (hb1.block (row3 hy).2.2.2).trans hy; replace hu := hu.call hb1; clear hb1; obtain ⟨y0, y1, y2, hys⟩ := row3 hy; obtain ⟨z0, z1, z2, z3, z4, z5, hzs⟩ := row6 hz; obtain ⟨f0, f1, f2, f3, f4, f5⟩ := free6 hz)
      | (go_at_call 65; refine (cK _).mono ?_; rintro e w1 ⟨rfl, hb1⟩; replace hz := (hb1.block (row6 hz).2.2.2.2.2.2).trans hz; replace hy := (hb1.block (row3 hy).2.2.2).trans hy; replace hu := hu.call hb1; clear hb1; obtain ⟨y0, y1, y2, hys⟩ := row3 hy; obtain ⟨z0, z1, z2, z3, z4, z5, hzs⟩ := row6 hz; obtain ⟨f0, f1, f2, f3, f4, f5⟩ := free6 hz)
      | (go_at_call 66; refine (cV _ hu).mono ?_; rintro e w1 ⟨rfl, hb1⟩; replace hz := (hb1.block (row6 hz).2.2.2.2.2.2).trans hz; replace hy := (hb1.block (row3 hy).2.2.2).trans hy; replace hu := hu.call hb1; clear hb1; obtain ⟨y0, y1, y2, hys⟩ := row3 hy; obtain ⟨z0, z1, z2, z3, z4, z5, hzs⟩ := row6 hz; obtain ⟨f0, f1, f2, f3, f4, f5⟩ := free6 hz; obtain ⟨c0, c1, c2, c3, c4, c5⟩ := hC _ hu))
    have hr := set6 hz (.int .i64 p) (.int .i64 o) (.int .i64 f) (.int .i64 m) (.int .i64 g) (.string s)
    have hu2 := hu.six (g := w.heap.size + 1) (by omega) (.int .i64 p) (.int .i64 o) (.int .i64 f) (.int .i64 m) (.int .i64 g) (.string s)
    unfold World.six at hr hu2
    exact end_two rfl rfl _ _ _ _ _ _ _ rfl rfl rfl hr rfl ⟨by rw [e3.out]; rfl, hu2⟩
  · have e1 : atErr l (p', o', f') t = 4 := by simp [atErr, askErr1, he, kErr, hk, h2]
    have e2 : atVal l (p', o', f') t = zeroEl := by simp [atVal, askErr1, he, kErr, hk, h2]
    rw [e1, e2]
    simp only [h1] at cV
    clear e1 e2 h1 h2 h3 he hk hL hG
    go_enter Try.func33, Try.ntmps33
    go_wp2_with (first
      | (go_at_call 32; refine (cC _ hu).mono ?_; rintro e w1 ⟨rfl, hb1⟩; replace hz := (hb1.block (row6 hz).2.2.2.2.2.2).trans hz; replace hy := (hb1.block (row3 hy).2.2.2).trans hy; replace hu := hu.call hb1; clear hb1; obtain ⟨y0, y1, y2, hys⟩ := row3 hy; obtain ⟨z0, z1, z2, z3, z4, z5, hzs⟩ := row6 hz; obtain ⟨f0, f1, f2, f3, f4, f5⟩ := free6 hz)
      | (go_at_call 65; refine (cK _).mono ?_; rintro e w1 ⟨rfl, hb1⟩; replace hz := (hb1.block (row6 hz).2.2.2.2.2.2).trans hz; replace hy := (hb1.block (row3 hy).2.2.2).trans hy; replace hu := hu.call hb1; clear hb1; obtain ⟨y0, y1, y2, hys⟩ := row3 hy; obtain ⟨z0, z1, z2, z3, z4, z5, hzs⟩ := row6 hz; obtain ⟨f0, f1, f2, f3, f4, f5⟩ := free6 hz)
      | (go_at_call 66; refine (cV _ hu).mono ?_; rintro e w1 ⟨rfl, hb1⟩; replace hz := (hb1.block (row6 hz).2.2.2.2.2.2).trans hz; replace hy := (hb1.block (row3 hy).2.2.2).trans hy; replace hu := hu.call hb1; clear hb1; obtain ⟨y0, y1, y2, hys⟩ := row3 hy; obtain ⟨z0, z1, z2, z3, z4, z5, hzs⟩ := row6 hz; obtain ⟨f0, f1, f2, f3, f4, f5⟩ := free6 hz))
    have hr := set6 hz (.int .i64 0) (.int .i64 0) (.int .i64 0) (.int .i64 0) (.int .i64 0) (.string { data := #[] })
    have hu2 := hu.six (g := w.heap.size + 1) (by omega) (.int .i64 0) (.int .i64 0) (.int .i64 0) (.int .i64 0) (.int .i64 0) (.string { data := #[] })
    unfold World.six at hr hu2
    exact end_two rfl rfl _ _ _ _ _ _ _ rfl rfl rfl hr rfl ⟨rfl, hu2⟩
open Go.RowKit
noncomputable def pastE (l : List Nd) (root : Int) : Int := if treeErr l root = 0 then runErr (allOf l root) else treeErr l root
noncomputable def pastAE (l : List Nd) (root : Int) (k : Int × Int × Int) (t : Int) : Int := if treeErr l root = 0 then atErr (allOf l root) k t else treeErr l root
noncomputable def pastAV (l : List Nd) (root : Int) (k : Int × Int × Int) (t : Int) : El := if treeErr l root = 0 then atVal (allOf l root) k t else zeroEl
set_option maxHeartbeats 4000000 in
theorem pastCheck_any (root : Int) (A : Option Addr) (c : Nat) (l : List Nd) (w : World) (h : TrAt w A l) :
    Calls Try.prog 42 #[.agg #[.int .i64 root, .slice A l.length c]] w fun e w' => e = .returned (.int .i64 (pastE l root)) ∧ Calm w w' := by
  have hx := heap_new w (.cells #[.int .i64 root, .slice A l.length c] 25)
  have hu := (Calm.refl w).alloc (.cells #[.int .i64 root, .slice A l.length c] 25)
  have cA := fun u (hu : Calm w u) => treeAll_any root A c l u (h.calm hu)
  have hwf := recs_wf h (depthOf l root) root
  obtain ⟨x0, x1, hxs⟩ := rowT hx
  by_cases hz : treeErr l root = 0
  · have e1 : pastE l root = runErr (allOf l root) := if_pos hz
    rw [e1]
    simp only [hz, if_true] at cA
    have HW : Hid (∀ e ∈ allOf l root, e.wf) := hwf
    generalize allOf l root = L at cA HW ⊢
    have cC := fun (A1 : Option Addr) (c1 : Nat) (u : World) (h1 : L.length ≤ 9223372036854775807) (h2 : Lies u A1 L) => runCheck_any A1 c1 L u h1 h2
    generalize runErr L = R at cC ⊢
    clear h hz e1 hwf
    go_enter Try.func42, Try.ntmps42
    go_wp2_with first
      | (go_at_call 24; (with_reducible refine (cA _ hu).mono ?_); rintro e w1 ⟨v, rfl, ho, hb1⟩; obtain ⟨A1, c1, rfl, hn1, hn2, hl1⟩ := ho.lies HW.out; have HL := Lib.hid hl1; replace hu := hu.call hb1; clear hb1 ho hl1 x0 x1 hxs)
      | (go_at_call 32; (with_reducible refine (cC _ _ _ (by omega) HL.out).mono ?_); rintro e w2 ⟨rfl, hb2⟩)
    go_ret
    exact ⟨rfl, hu.call hb2⟩
  · have e1 : pastE l root = treeErr l root := if_neg hz
    rw [e1]
    simp only [hz, if_false] at cA
    generalize treeErr l root = R at cA hz ⊢
    have b1 : (R != 0) = true := by simpa using hz
    clear h e1 hwf hz
    go_enter Try.func42, Try.ntmps42
    go_wp2_with (go_at_call 24; (with_reducible refine (cA _ hu).mono ?_); rintro e w1 ⟨v, rfl, ho, hb1⟩; obtain ⟨A1, c1, rfl⟩ := ho.slice; replace hu := hu.call hb1; clear hb1 ho x0 x1 hxs)
    go_ret
    exact ⟨rfl, hu⟩
set_option maxHeartbeats 4000000 in
theorem pastAt_any (root : Int) (A : Option Addr) (c : Nat) (l : List Nd) (p' o' f' t : Int) (w : World) (h : TrAt w A l) :
    Calls Try.prog 31 #[.agg #[.int .i64 root, .slice A l.length c], .agg #[.int .i64 p', .int .i64 o', .int .i64 f'], .int .i64 t] w (AtEnd (pastAV l root (p', o', f') t) (pastAE l root (p', o', f') t) w) := by
  have hx := heap_past (.cells #[.int .i64 0, .int .i64 0, .int .i64 0, .int .i64 0, .int .i64 0, .string { data := #[] }] 33) (heap_past (.cells #[.int .i64 p', .int .i64 o', .int .i64 f'] 31) (heap_new w (.cells #[.int .i64 root, .slice A l.length c] 25)))
  have hy := heap_past (.cells #[.int .i64 0, .int .i64 0, .int .i64 0, .int .i64 0, .int .i64 0, .string { data := #[] }] 33) (heap_new (w.alloc (.cells #[.int .i64 root, .slice A l.length c] 25)) (.cells #[.int .i64 p', .int .i64 o', .int .i64 f'] 31))
  have hr := heap_new ((w.alloc (.cells #[.int .i64 root, .slice A l.length c] 25)).alloc (.cells #[.int .i64 p', .int .i64 o', .int .i64 f'] 31)) (.cells #[.int .i64 0, .int .i64 0, .int .i64 0, .int .i64 0, .int .i64 0, .string { data := #[] }] 33)
  rw [World.size_alloc] at hy hr
  rw [World.size_alloc] at hr
  have hu := (((Calm.refl w).alloc (.cells #[.int .i64 root, .slice A l.length c] 25)).alloc (.cells #[.int .i64 p', .int .i64 o', .int .i64 f'] 31)).alloc (.cells #[.int .i64 0, .int .i64 0, .int .i64 0, .int .i64 0, .int .i64 0, .string { data := #[] }] 33)
  have cA := fun u (hu : Calm w u) => treeAll_any root A c l u (h.calm hu)
  have hwf := recs_wf h (depthOf l root) root
  obtain ⟨x0, x1, hxs⟩ := rowT hx
  by_cases hz : treeErr l root = 0
  · have e1 : pastAE l root (p', o', f') t = atErr (allOf l root) (p', o', f') t := if_pos hz
    have e2 : pastAV l root (p', o', f') t = atVal (allOf l root) (p', o', f') t := if_pos hz
    rw [e1, e2]
    simp only [hz, if_true] at cA
    have HW : Hid (∀ e ∈ allOf l root, e.wf) := hwf
    generalize allOf l root = L at cA HW ⊢
    have cC := fun (A1 : Option Addr) (c1 : Nat) (u : World) (h1 : L.length ≤ 9223372036854775807) (h2 : Lies u A1 L) => runAt_any A1 c1 L p' o' f' t u h1 h2
    obtain ⟨V, hV⟩ : ∃ V, atVal L (p', o', f') t = V := ⟨_, rfl⟩
    rw [hV] at cC ⊢
    generalize atErr L (p', o', f') t = E at cC ⊢
    obtain ⟨vp, vo, vf, vm, vg, vs⟩ := V
    have cT : ∀ (A1 : Option Addr) (c1 : Nat) (u : World), L.length ≤ 9223372036854775807 → Lies u A1 L → Calls Try.prog 33 #[.slice A1 L.length c1, .agg #[.int .i64 p', .int .i64 o', .int .i64 f'], .int .i64 t] u fun e w' => e = .returned (.tuple #[.agg #[.int .i64 vp, .int .i64 vo, .int .i64 vf, .int .i64 vm, .int .i64 vg, .string vs], .int .i64 E]) ∧ Calm u w' := cC
    clear h hz e1 e2 hwf hV cC
    go_enter Try.func31, Try.ntmps31
    generalize hQ0 : bodyPost Try.prog Try.f31 (AtEnd ⟨vp, vo, vf, vm, vg, vs⟩ E w) = Q0
    have HRET : Hid (∀ a w', bodyPost Try.prog Try.f31 (AtEnd ⟨vp, vo, vf, vm, vg, vs⟩ E w) .ret a w' → Q0 .ret a w') := show ∀ _ _, _ → _ from fun a w' h => by rw [← hQ0]; exact h
    clear hQ0
    go_wp2_with first
      | (go_at_call 24; (with_reducible refine (cA _ hu).mono ?_); rintro e w1 ⟨v, rfl, ho, hb1⟩; obtain ⟨A1, c1, rfl, hn1, hn2, hl1⟩ := ho.lies HW.out; have HL := Lib.hid hl1; replace hy := (hb1.block (row3 hy).2.2.2).trans hy; replace hr := (hb1.block (row6 hr).2.2.2.2.2.2).trans hr; replace hu := hu.call hb1; clear hb1 ho hl1 x0 x1 hxs; obtain ⟨y0, y1, y2, hys⟩ := row3 hy)
      | (go_at_call 33; (with_reducible refine (cT _ _ _ (by omega) HL.out).mono ?_); rintro e w2 ⟨rfl, hb2⟩; replace hr := (hb2.block (row6 hr).2.2.2.2.2.2).trans hr; replace hu := hu.call hb2; clear hb2; obtain ⟨r0, r1, r2, r3, r4, r5, hrs⟩ := row6 hr; obtain ⟨f0, f1, f2, f3, f4, f5⟩ := free6 hr)
    have hS := set6 hr (.int .i64 vp) (.int .i64 vo) (.int .i64 vf) (.int .i64 vm) (.int .i64 vg) (.string vs)
    have hC := hu.six (g := w.heap.size + 1 + 1) (by omega) (.int .i64 vp) (.int .i64 vo) (.int .i64 vf) (.int .i64 vm) (.int .i64 vg) (.string vs)
    exact HRET.out _ _ (end_two rfl rfl _ _ (w.heap.size + 1 + 1) _ _ _ (0, 0) rfl rfl rfl hS rfl ⟨rfl, hC⟩)
  · have e1 : pastAE l root (p', o', f') t = treeErr l root := if_neg hz
    have e2 : pastAV l root (p', o', f') t = zeroEl := if_neg hz
    rw [e1, e2]
    simp only [hz, if_false] at cA
    generalize treeErr l root = E at cA hz ⊢
    have b1 : (E != 0) = true := by simpa using hz
    clear h e1 e2 hwf hz
    go_enter Try.func31, Try.ntmps31
    generalize hQ0 : bodyPost Try.prog Try.f31 (AtEnd zeroEl E w) = Q0
    have HRET : Hid (∀ a w', bodyPost Try.prog Try.f31 (AtEnd zeroEl E w) .ret a w' → Q0 .ret a w') := show ∀ _ _, _ → _ from fun a w' h => by rw [← hQ0]; exact h
    clear hQ0
    go_wp2_with (go_at_call 24; (with_reducible refine (cA _ hu).mono ?_); rintro e w1 ⟨v, rfl, ho, hb1⟩; obtain ⟨A1, c1, rfl⟩ := ho.slice; replace hr := (hb1.block (row6 hr).2.2.2.2.2.2).trans hr; replace hu := hu.call hb1; clear hb1 ho x0 x1 hxs; obtain ⟨r0, r1, r2, r3, r4, r5, hrs⟩ := row6 hr; obtain ⟨f0, f1, f2, f3, f4, f5⟩ := free6 hr)
    have hS := set6 hr (.int .i64 0) (.int .i64 0) (.int .i64 0) (.int .i64 0) (.int .i64 0) (.string { data := #[] })
    have hC := hu.six (g := w.heap.size + 1 + 1) (by omega) (.int .i64 0) (.int .i64 0) (.int .i64 0) (.int .i64 0) (.int .i64 0) (.string { data := #[] })
    exact HRET.out _ _ (end_two rfl rfl _ _ (w.heap.size + 1 + 1) _ _ _ (0, 0) rfl rfl rfl hS rfl ⟨rfl, hC⟩)
theorem atR_iff {l : List El} (h : l.Pairwise Fol) {k : Int × Int × Int} {t : Int} {e : El} : atR l k t = some e ↔ e ∈ l ∧ isAt k t e = true := by
 constructor
 ·intro h1
  exact ⟨List.mem_of_find?_eq_some h1, List.find?_some h1⟩
 ·rintro ⟨h1, h2⟩
  obtain ⟨i, hi, rfl⟩ := List.getElem_of_mem h1
  exact find_of h hi h2
theorem atErr_good {l : List El} (h : Good l) (k : Int × Int × Int) (t : Int) : atErr l k t = if kErr k = 0 then (if (atR l k t).isSome then 0 else 4) else kErr k := by
 unfold atErr askErr1; rw [if_pos (runErr_zero.2 h)]
theorem atVal_good {l : List El} (h : Good l) (k : Int × Int × Int) (t : Int) : atVal l k t = if kErr k = 0 then (atR l k t).getD zeroEl else zeroEl := by
 unfold atVal askErr1; rw [if_pos (runErr_zero.2 h)]
open Go.RowKit
theorem key_ok {e : El} (he : e.err = 0) : kErr e.key = 0 := (elemErr_zero.1 (show elemErr e.p e.o e.f e.m e.g e.s.size = 0 from he)).1
theorem live_made {L : List El} (h : Good L) {e : El} (he : e ∈ L) : isAt e.key e.m e = true := by
 have := mem_bounds h he
 unfold isAt El.live liveP
 simp only [decide_eq_true_eq, true_and]
 omega
theorem each_at {L : List El} (h : Good L) {e : El} (he : e ∈ L) : atErr L e.key e.m = 0 ∧ atVal L e.key e.m = e := by
 have h1 : atR L e.key e.m = some e := (atR_iff h.2.2).2 ⟨he, live_made h he⟩
 have h2 := key_ok (h.2.1 e he)
 rw [atErr_good h, atVal_good h, if_pos h2, if_pos h2, h1]
 exact ⟨rfl, rfl⟩
theorem each_gone {L : List El} (h : Good L) {e : El} (he : e ∈ L) (hg : e.g ≠ 0) : atErr L e.key e.g ≠ 0 ∨ atErr L e.key e.g = 0 ∧ (atVal L e.key e.g).p = e.p ∧ (atVal L e.key e.g).o = e.o ∧ (atVal L e.key e.g).f = e.f ∧ (atVal L e.key e.g).m ≠ e.m := by
 have h2 := key_ok (h.2.1 e he)
 rw [atErr_good h, atVal_good h, if_pos h2, if_pos h2]
 cases h1 : atR L e.key e.g with
 |none => exact .inl (by simp)
 |some x =>
  obtain ⟨hx, hl⟩ := (atR_iff h.2.2).1 h1
  have hl2 := hl
  unfold isAt at hl
  simp only [decide_eq_true_eq] at hl
  obtain ⟨hk, hv⟩ := hl
  refine .inr ⟨by simp, ?_⟩
  have hk2 := hk
  unfold El.key at hk2
  simp only [Prod.mk.injEq] at hk2
  refine ⟨hk2.1, hk2.2.1, hk2.2.2, fun hm => ?_⟩
  have hm : x.m = e.m := hm
  have h3 := live_made h hx
  rw [hk, hm] at h3
  have h4 : atR L e.key e.m = some x := (atR_iff h.2.2).2 ⟨hx, h3⟩
  have h5 : atR L e.key e.m = some e := (atR_iff h.2.2).2 ⟨he, live_made h he⟩
  rw [h4] at h5
  injection h5 with h5
  subst h5
  unfold El.live liveP at hv
  omega
def eX : El := ⟨0, 0, 1, 1, 3, { data := #[] }⟩
theorem bErr_X : bErr [eX] = 0 := by decide +kernel
theorem at_X : atErr [eX] (0, 0, 1) 2 = 0 ∧ atVal [eX] (0, 0, 1) 2 = eX := by decide +kernel
theorem lies_X {w : World} {g : Nat} (h : w.heap[g]? = some (.cells #[.int .i64 0, .int .i64 0, .int .i64 1, .int .i64 1, .int .i64 3, .string { data := #[] }] 33 (0, 0))) : Lies w (some ⟨g, 0, none⟩) [eX] := by
 have c := fun j => cell_of_row _ g j _ _ _ h
 refine ⟨fun e he => ?_, fun _ => ⟨g, 0, rfl, (Array.getElem?_eq_some_iff.1 h).1, fun k e he => ?_⟩⟩
 ·rw [List.mem_singleton.1 he]; unfold El.wf eX; simp only; omega
 ·match k, he with
  | 0, he => simp at he; subst he; exact ⟨c 0, c 1, c 2, c 3, c 4, c 5⟩
  |k + 1, he => simp at he
theorem of_X (u : World) (gB : Nat) (h : u.heap[gB]? = some (.cells #[.int .i64 0, .int .i64 0, .int .i64 1, .int .i64 1, .int .i64 3, .string { data := #[] }] 33 (0, 0))) : Calls Try.prog 21 #[.slice (some ⟨gB, 0, none⟩) 1 1] u (OfOk [eX] u) :=
 keepOf_any (some ⟨gB, 0, none⟩) 1 [eX] u (by simp) (lies_X h) (by simp) bErr_X
theorem past_X (r2 : Int) (A2 : Option Addr) (c2 : Nat) (us2 : List Nd) (u : World) (h1 : treeErr us2 r2 = 0) (h2 : allOf us2 r2 = [eX]) (h3 : TrAt u A2 us2) : Calls Try.prog 31 #[.agg #[.int .i64 r2, .slice A2 us2.length c2], .agg #[.int .i64 0, .int .i64 0, .int .i64 1], .int .i64 2] u fun e w' => e = .returned (.tuple #[.agg #[.int .i64 0, .int .i64 0, .int .i64 1, .int .i64 1, .int .i64 3, .string { data := #[] }], .int .i64 0]) ∧ Calm u w' := by
 have := pastAt_any r2 A2 c2 us2 0 0 1 2 u h3
 have e1 : pastAE us2 r2 (0, 0, 1) 2 = 0 := by unfold pastAE; rw [if_pos h1, h2]; exact at_X.1
 have e2 : pastAV us2 r2 (0, 0, 1) 2 = eX := by unfold pastAV; rw [if_pos h1, h2]; exact at_X.2
 rw [e1, e2] at this
 exact this
open Go.RowKit
structure PeS (w1 : World) (f : Nat → Bool) (Y : Nat → Value) (u : World) : Prop where
 calm : Calm w1 u
 ord : f 10 = true → f 1 = true ∧ f 2 = true ∧ f 5 = true ∧ f 9 = true
 s1 : f 1 = true → f 10 = false → (∃ gB, Y 1 = Value.slice (some ⟨gB, 0, none⟩) 1 1 ∧ u.heap[gB]? = some (.cells #[.int .i64 0, .int .i64 0, .int .i64 1, .int .i64 1, .int .i64 3, .string { data := #[] }] 33 (0, 0)))
 s2 : f 2 = true → f 10 = false → (∃ r A c us, Y 2 = Value.agg #[.int .i64 r, .slice A us.length c] ∧ treeErr us r = 0 ∧ allOf us r = [eX] ∧ TrAt u A us)
 s5 : f 5 = true → Y 5 = Value.tuple #[.agg #[.int .i64 0, .int .i64 0, .int .i64 1, .int .i64 1, .int .i64 3, .string { data := #[] }], .int .i64 0]
 s6 : f 6 = true → Y 6 = Value.tuple #[.agg #[.int .i64 0, .int .i64 0, .int .i64 1, .int .i64 1, .int .i64 3, .string { data := #[] }], .int .i64 0]
 s7 : f 7 = true → Y 7 = Value.agg #[.int .i64 0, .int .i64 0, .int .i64 1, .int .i64 1, .int .i64 3, .string { data := #[] }]
 s8 : f 8 = true → Y 8 = Value.int .i64 0
 s9 : f 9 = true → (∃ g, w1.heap.size ≤ g ∧ Y 9 = Value.pointer (some ⟨g, 0, none⟩) ∧ (f 10 = false → u.heap[g]? = some (.cells #[.int .i64 0, .int .i64 0, .int .i64 0, .int .i64 0, .int .i64 0, .string { data := #[] }] 33 (0, 0))) ∧ (f 10 = true → u.heap[g]? = some (.cells #[.int .i64 0, .int .i64 0, .int .i64 1, .int .i64 1, .int .i64 3, .string { data := #[] }] 33 (0, 0))))
 s11 : f 11 = true → Y 11 = Value.int .i64 0
theorem PeS.stay {w1 : World} {f : Nat → Bool} {Y : Nat → Value} {u u' : World} (h : PeS w1 f Y u) (hb : Calm u u') : PeS w1 f Y u' where
 calm := h.calm.call hb
 ord := h.ord
 s1 a b := by
  obtain ⟨gB, e, hg⟩ := h.s1 a b
  exact ⟨gB, e, (hb.block (row6 hg).2.2.2.2.2.2).trans hg⟩
 s2 a b := by
  obtain ⟨r, A, c, us, e, g1, g2, g3⟩ := h.s2 a b
  exact ⟨r, A, c, us, e, g1, g2, g3.calm hb⟩
 s5 := h.s5
 s6 := h.s6
 s7 := h.s7
 s8 := h.s8
 s9 a := by
  obtain ⟨g, g1, e, g2, g3⟩ := h.s9 a
  exact ⟨g, g1, e, fun b => (hb.block (row6 (g2 b)).2.2.2.2.2.2).trans (g2 b), fun b => (hb.block (row6 (g3 b)).2.2.2.2.2.2).trans (g3 b)⟩
 s11 := h.s11
theorem PeS.do1 {w1 : World} {f : Nat → Bool} {Y : Nat → Value} {u : World} (h : PeS w1 f Y u) (y : Value) (hn : (∃ gB, y = Value.slice (some ⟨gB, 0, none⟩) 1 1 ∧ u.heap[gB]? = some (.cells #[.int .i64 0, .int .i64 0, .int .i64 1, .int .i64 1, .int .i64 3, .string { data := #[] }] 33 (0, 0)))) : PeS w1 (updB f 1) (updV Y 1 y) u where
 calm := h.calm
 ord a := by
  have := h.ord (by simpa [updB] using a)
  simp [updB, this]
 s1 _ _ := by simpa [updV, updB] using hn
 s2 a b := by simpa [updV, updB] using h.s2 (by simpa [updB] using a) (by simpa [updB] using b)
 s5 a := by simpa [updV, updB] using h.s5 (by simpa [updB] using a)
 s6 a := by simpa [updV, updB] using h.s6 (by simpa [updB] using a)
 s7 a := by simpa [updV, updB] using h.s7 (by simpa [updB] using a)
 s8 a := by simpa [updV, updB] using h.s8 (by simpa [updB] using a)
 s9 a := by simpa [updV, updB] using h.s9 (by simpa [updB] using a)
 s11 a := by simpa [updV, updB] using h.s11 (by simpa [updB] using a)
theorem PeS.do2 {w1 : World} {f : Nat → Bool} {Y : Nat → Value} {u : World} (h : PeS w1 f Y u) (y : Value) (hn : (∃ r A c us, y = Value.agg #[.int .i64 r, .slice A us.length c] ∧ treeErr us r = 0 ∧ allOf us r = [eX] ∧ TrAt u A us)) : PeS w1 (updB f 2) (updV Y 2 y) u where
 calm := h.calm
 ord a := by
  have := h.ord (by simpa [updB] using a)
  simp [updB, this]
 s1 a b := by simpa [updV, updB] using h.s1 (by simpa [updB] using a) (by simpa [updB] using b)
 s2 _ _ := by simpa [updV, updB] using hn
 s5 a := by simpa [updV, updB] using h.s5 (by simpa [updB] using a)
 s6 a := by simpa [updV, updB] using h.s6 (by simpa [updB] using a)
 s7 a := by simpa [updV, updB] using h.s7 (by simpa [updB] using a)
 s8 a := by simpa [updV, updB] using h.s8 (by simpa [updB] using a)
 s9 a := by simpa [updV, updB] using h.s9 (by simpa [updB] using a)
 s11 a := by simpa [updV, updB] using h.s11 (by simpa [updB] using a)
theorem PeS.do5 {w1 : World} {f : Nat → Bool} {Y : Nat → Value} {u : World} (h : PeS w1 f Y u) (y : Value) (hn : y = Value.tuple #[.agg #[.int .i64 0, .int .i64 0, .int .i64 1, .int .i64 1, .int .i64 3, .string { data := #[] }], .int .i64 0]) : PeS w1 (updB f 5) (updV Y 5 y) u where
 calm := h.calm
 ord a := by
  have := h.ord (by simpa [updB] using a)
  simp [updB, this]
 s1 a b := by simpa [updV, updB] using h.s1 (by simpa [updB] using a) (by simpa [updB] using b)
 s2 a b := by simpa [updV, updB] using h.s2 (by simpa [updB] using a) (by simpa [updB] using b)
 s5 _ := by simpa [updV, updB] using hn
 s6 a := by simpa [updV, updB] using h.s6 (by simpa [updB] using a)
 s7 a := by simpa [updV, updB] using h.s7 (by simpa [updB] using a)
 s8 a := by simpa [updV, updB] using h.s8 (by simpa [updB] using a)
 s9 a := by simpa [updV, updB] using h.s9 (by simpa [updB] using a)
 s11 a := by simpa [updV, updB] using h.s11 (by simpa [updB] using a)
theorem PeS.do6 {w1 : World} {f : Nat → Bool} {Y : Nat → Value} {u : World} (h : PeS w1 f Y u) (y : Value) (hn : y = Value.tuple #[.agg #[.int .i64 0, .int .i64 0, .int .i64 1, .int .i64 1, .int .i64 3, .string { data := #[] }], .int .i64 0]) : PeS w1 (updB f 6) (updV Y 6 y) u where
 calm := h.calm
 ord a := by
  have := h.ord (by simpa [updB] using a)
  simp [updB, this]
 s1 a b := by simpa [updV, updB] using h.s1 (by simpa [updB] using a) (by simpa [updB] using b)
 s2 a b := by simpa [updV, updB] using h.s2 (by simpa [updB] using a) (by simpa [updB] using b)
 s5 a := by simpa [updV, updB] using h.s5 (by simpa [updB] using a)
 s6 _ := by simpa [updV, updB] using hn
 s7 a := by simpa [updV, updB] using h.s7 (by simpa [updB] using a)
 s8 a := by simpa [updV, updB] using h.s8 (by simpa [updB] using a)
 s9 a := by simpa [updV, updB] using h.s9 (by simpa [updB] using a)
 s11 a := by simpa [updV, updB] using h.s11 (by simpa [updB] using a)
theorem PeS.do7 {w1 : World} {f : Nat → Bool} {Y : Nat → Value} {u : World} (h : PeS w1 f Y u) (y : Value) (hn : y = Value.agg #[.int .i64 0, .int .i64 0, .int .i64 1, .int .i64 1, .int .i64 3, .string { data := #[] }]) : PeS w1 (updB f 7) (updV Y 7 y) u where
 calm := h.calm
 ord a := by
  have := h.ord (by simpa [updB] using a)
  simp [updB, this]
 s1 a b := by simpa [updV, updB] using h.s1 (by simpa [updB] using a) (by simpa [updB] using b)
 s2 a b := by simpa [updV, updB] using h.s2 (by simpa [updB] using a) (by simpa [updB] using b)
 s5 a := by simpa [updV, updB] using h.s5 (by simpa [updB] using a)
 s6 a := by simpa [updV, updB] using h.s6 (by simpa [updB] using a)
 s7 _ := by simpa [updV, updB] using hn
 s8 a := by simpa [updV, updB] using h.s8 (by simpa [updB] using a)
 s9 a := by simpa [updV, updB] using h.s9 (by simpa [updB] using a)
 s11 a := by simpa [updV, updB] using h.s11 (by simpa [updB] using a)
theorem PeS.do8 {w1 : World} {f : Nat → Bool} {Y : Nat → Value} {u : World} (h : PeS w1 f Y u) (y : Value) (hn : y = Value.int .i64 0) : PeS w1 (updB f 8) (updV Y 8 y) u where
 calm := h.calm
 ord a := by
  have := h.ord (by simpa [updB] using a)
  simp [updB, this]
 s1 a b := by simpa [updV, updB] using h.s1 (by simpa [updB] using a) (by simpa [updB] using b)
 s2 a b := by simpa [updV, updB] using h.s2 (by simpa [updB] using a) (by simpa [updB] using b)
 s5 a := by simpa [updV, updB] using h.s5 (by simpa [updB] using a)
 s6 a := by simpa [updV, updB] using h.s6 (by simpa [updB] using a)
 s7 a := by simpa [updV, updB] using h.s7 (by simpa [updB] using a)
 s8 _ := by simpa [updV, updB] using hn
 s9 a := by simpa [updV, updB] using h.s9 (by simpa [updB] using a)
 s11 a := by simpa [updV, updB] using h.s11 (by simpa [updB] using a)
theorem PeS.do9 {w1 : World} {f : Nat → Bool} {Y : Nat → Value} {u : World} (h : PeS w1 f Y u) (y : Value) (hn : (∃ g, w1.heap.size ≤ g ∧ y = Value.pointer (some ⟨g, 0, none⟩) ∧ (f 10 = false → u.heap[g]? = some (.cells #[.int .i64 0, .int .i64 0, .int .i64 0, .int .i64 0, .int .i64 0, .string { data := #[] }] 33 (0, 0))) ∧ (f 10 = true → u.heap[g]? = some (.cells #[.int .i64 0, .int .i64 0, .int .i64 1, .int .i64 1, .int .i64 3, .string { data := #[] }] 33 (0, 0))))) : PeS w1 (updB f 9) (updV Y 9 y) u where
 calm := h.calm
 ord a := by
  have := h.ord (by simpa [updB] using a)
  simp [updB, this]
 s1 a b := by simpa [updV, updB] using h.s1 (by simpa [updB] using a) (by simpa [updB] using b)
 s2 a b := by simpa [updV, updB] using h.s2 (by simpa [updB] using a) (by simpa [updB] using b)
 s5 a := by simpa [updV, updB] using h.s5 (by simpa [updB] using a)
 s6 a := by simpa [updV, updB] using h.s6 (by simpa [updB] using a)
 s7 a := by simpa [updV, updB] using h.s7 (by simpa [updB] using a)
 s8 a := by simpa [updV, updB] using h.s8 (by simpa [updB] using a)
 s9 _ := by simpa [updV, updB] using hn
 s11 a := by simpa [updV, updB] using h.s11 (by simpa [updB] using a)
theorem PeS.do11 {w1 : World} {f : Nat → Bool} {Y : Nat → Value} {u : World} (h : PeS w1 f Y u) (y : Value) (hn : y = Value.int .i64 0) : PeS w1 (updB f 11) (updV Y 11 y) u where
 calm := h.calm
 ord a := by
  have := h.ord (by simpa [updB] using a)
  simp [updB, this]
 s1 a b := by simpa [updV, updB] using h.s1 (by simpa [updB] using a) (by simpa [updB] using b)
 s2 a b := by simpa [updV, updB] using h.s2 (by simpa [updB] using a) (by simpa [updB] using b)
 s5 a := by simpa [updV, updB] using h.s5 (by simpa [updB] using a)
 s6 a := by simpa [updV, updB] using h.s6 (by simpa [updB] using a)
 s7 a := by simpa [updV, updB] using h.s7 (by simpa [updB] using a)
 s8 a := by simpa [updV, updB] using h.s8 (by simpa [updB] using a)
 s9 a := by simpa [updV, updB] using h.s9 (by simpa [updB] using a)
 s11 _ := by simpa [updV, updB] using hn
theorem PeS.do10 {w1 : World} {f : Nat → Bool} {Y : Nat → Value} {u : World} (h : PeS w1 f Y u) (y : Value) (h1 : f 1 = true) (h2 : f 2 = true) (h5 : f 5 = true) (h9 : f 9 = true) {g : Nat} (hg : Y 9 = .pointer (some ⟨g, 0, none⟩)) (hl : w1.heap.size ≤ g) {u' : World} (hc : Calm w1 u') (hr : u'.heap[g]? = some (.cells #[.int .i64 0, .int .i64 0, .int .i64 1, .int .i64 1, .int .i64 3, .string { data := #[] }] 33 (0, 0))) : PeS w1 (updB f 10) (updV Y 10 y) u' where
 calm := hc
 ord _ := by simp [updB, h1, h2, h5, h9]
 s1 _ b := by simp [updB] at b
 s2 _ b := by simp [updB] at b
 s5 a := by simpa [updV, updB] using h.s5 (by simpa [updB] using a)
 s6 a := by simpa [updV, updB] using h.s6 (by simpa [updB] using a)
 s7 a := by simpa [updV, updB] using h.s7 (by simpa [updB] using a)
 s8 a := by simpa [updV, updB] using h.s8 (by simpa [updB] using a)
 s9 _ := ⟨g, hl, by simpa [updV] using hg, fun b => by simp [updB] at b, fun _ => hr⟩
 s11 a := by simpa [updV, updB] using h.s11 (by simpa [updB] using a)
def PeSt (w1 : World) : Stages := fun bs Y u => ∃ f, bs = [1, 2, 5, 6, 7, 8, 9, 10, 11].map f ∧ PeS w1 f Y u
theorem PeSt.stay {w1 : World} : ∀ bs Y u u', PeSt w1 bs Y u → Calm u u' → PeSt w1 bs Y u' := fun _ _ _ _ ⟨f, h1, h2⟩ hb => ⟨f, h1, h2.stay hb⟩
theorem PeSt.start {w1 u : World} (Y : Nat → Value) (h : Calm w1 u) : PeSt w1 ([1, 2, 5, 6, 7, 8, 9, 10, 11].map fun _ => false) Y u := ⟨fun _ => false, rfl, h, nofun, nofun, nofun, nofun, nofun, nofun, nofun, nofun, nofun⟩
theorem PeSt.get {w1 u : World} {L : Nat → Bool} {Y : Nat → Value} (h : PeSt w1 ([1, 2, 5, 6, 7, 8, 9, 10, 11].map L) Y u) : PeS w1 L Y u := by
 obtain ⟨f, hf, h⟩ := h
 simp only [List.map_cons, List.map_nil, List.cons.injEq, and_true] at hf
 obtain ⟨e1, e2, e5, e6, e7, e8, e9, e10, e11⟩ := hf
 exact ⟨h.calm, by rw [e10, e1, e2, e5, e9]; exact h.ord, by rw [e10, e1]; exact h.s1, by rw [e10, e2]; exact h.s2, by rw [e5]; exact h.s5, by rw [e6]; exact h.s6, by rw [e7]; exact h.s7, by rw [e8]; exact h.s8, by rw [e9, e10]; exact h.s9, by rw [e11]; exact h.s11⟩
open Go.RowKit
set_option maxHeartbeats 16000000 in
theorem pastEach_walk (root : Int) (A : Option Addr) (c : Nat) (l : List Nd) (n : Int) (w : World) (h : TrAt w A l) :
    Calls Try.prog 9 #[.agg #[.int .i64 root, .slice A l.length c], .int .i64 n] w fun e w' => e = .returned (.bool true) ∧ Calm w w' := by
  have hx := heap_new w (.cells #[.int .i64 root, .slice A l.length c] 25)
  have hu := (Calm.refl w).alloc (.cells #[.int .i64 root, .slice A l.length c] 25)
  have cA := fun u (hu : Calm w u) => treeAll_any root A c l u (h.calm hu)
  have cC := fun u (hu : Calm w u) => pastCheck_any root A c l u (h.calm hu)
  have cP := fun p' o' f' t u (hu : Calm w u) => pastAt_any root A c l p' o' f' t u (h.calm hu)
  go_enter Try.func9, Try.ntmps9
  go_upto_region 1 with fail
  generalize w.alloc (.cells #[.int .i64 root, .slice A l.length c] 25) = w0 at hx hu ⊢
  go_upto_region 2 with fail
  have hy := heap_new w0 (.cells #[.int .i64 0, .int .i64 0, .int .i64 1, .int .i64 1, .int .i64 3, .string { data := #[] }] 33)
  have hv := hu.alloc (.cells #[.int .i64 0, .int .i64 0, .int .i64 1, .int .i64 1, .int .i64 3, .string { data := #[] }] 33)
  replace hx := heap_past (.cells #[.int .i64 0, .int .i64 0, .int .i64 1, .int .i64 1, .int .i64 3, .string { data := #[] }] 33) hx
  generalize w0.alloc (.cells #[.int .i64 0, .int .i64 0, .int .i64 1, .int .i64 1, .int .i64 3, .string { data := #[] }] 33) = w1 at hx hy hv ⊢
  have hyl := (row6 hy).2.2.2.2.2.2
  have HV := Lib.hid hv
  have HX := Lib.hid hx
  have HXL := Lib.hid (rowT hx).2.2
  have HCA := Lib.hid cA
  have HCC := Lib.hid cC
  have HCP := Lib.hid cP
  have HT := Lib.hid h
  clear hu hx cA cC cP h hv
  refine wp_region_stages [.val (.agg #[.int .i64 0, .int .i64 0, .int .i64 1, .int .i64 1, .int .i64 3, .string { data := #[] }]), .late, .late [1], .val (.pointer (some ⟨w0.heap.size, 0, none⟩)), .val (.agg #[.int .i64 0, .int .i64 0, .int .i64 1]), .late [2], .late [5], .late [6], .late [6], .late, .late [9, 7, 1, 2, 5], .late [8, 10]] [1, 2, 5, 6, 7, 8, 9, 10, 11]
    (PeSt w1) (by kernel_rfl) (by kernel_rfl) (by kernel_rfl) PeSt.stay (fun Y => PeSt.start Y (Calm.refl _).drew) (fun Y => ?_)
  refine planS_val (by kernel_rfl) (fun L u hb hS => ?_) ?_
  · obtain ⟨y0, y1, y2, y3, y4, y5, hys⟩ := row6 ((hS.get.calm.block hyl).trans hy)
    clear hS hb
    go_simp
  simp only [Act.put, List.setIfInBounds_toArray, List.set_cons_zero, List.set_cons_succ, Nat.reduceAdd]
  refine planS_late (fun L u hi hb hS => ?_) ?_
  · have H := Lib.hid hS.get
    clear hS hb
    go_wp2_with fail
    exact ⟨_, rfl, (H.out.stay ((Calm.refl u).alloc (.cells #[.int .i64 0, .int .i64 0, .int .i64 1, .int .i64 1, .int .i64 3, .string { data := #[] }] 33))).do1 _ ⟨u.heap.size, rfl, heap_new _ _⟩⟩
  simp only [Act.put, List.setIfInBounds_toArray, List.set_cons_zero, List.set_cons_succ, Nat.reduceAdd]
  refine planS_late (fun L u hi hb hS => ?_) ?_
  · have H := Lib.hid hS.get
    have h1 := hb 1 (by simp)
    have h10 : L 10 = false := by
      cases h9 : L 10 with
      | false => rfl
      | true => rw [(H.out.ord h9).2.1] at hi; cases hi
    obtain ⟨gB, e1, hg⟩ := H.out.s1 h1 h10
    rw [e1]
    clear hS hb hi h1 h10 e1
    go_wp2_with (go_at_call 21; (with_reducible refine (of_X _ _ hg).mono ?_); rintro e w2 ⟨r2, A2, c2, us2, rfl, hT, k1, k2, -, k3, hb1⟩; have hTr := hT.at_ (by rw [k3]; have := lvls_le (show [eX].length ≤ 400 by simp); omega); have HB := Lib.hid hb1; clear hb1 hT k3)
    exact ⟨_, rfl, (H.out.stay HB.out).do2 _ ⟨r2, A2, c2, us2, rfl, k1, k2, hTr⟩⟩
  simp only [Act.put, List.setIfInBounds_toArray, List.set_cons_zero, List.set_cons_succ, Nat.reduceAdd]
  refine planS_val (by kernel_rfl) (fun L u hb hS => ?_) ?_
  · clear hS hb
    go_simp
  simp only [Act.put, List.setIfInBounds_toArray, List.set_cons_zero, List.set_cons_succ, Nat.reduceAdd]
  refine planS_val (by kernel_rfl) (fun L u hb hS => ?_) ?_
  · obtain ⟨y0, y1, y2, y3, y4, y5, hys⟩ := row6 ((hS.get.calm.block hyl).trans hy)
    clear hS hb
    go_simp
  simp only [Act.put, List.setIfInBounds_toArray, List.set_cons_zero, List.set_cons_succ, Nat.reduceAdd]
  refine planS_late (fun L u hi hb hS => ?_) ?_
  · have H := Lib.hid hS.get
    have h1 := hb 2 (by simp)
    have h10 : L 10 = false := by
      cases h9 : L 10 with
      | false => rfl
      | true => rw [(H.out.ord h9).2.2.1] at hi; cases hi
    obtain ⟨r2, A2, c2, us2, e1, k1, k2, k3⟩ := H.out.s2 h1 h10
    rw [e1]
    clear hS hb hi h1 h10 e1
    go_wp2_with (go_at_call 31; (with_reducible refine (past_X _ _ _ _ _ k1 k2 k3).mono ?_); rintro e w2 ⟨rfl, hb1⟩; have HB := Lib.hid hb1; clear hb1)
    exact ⟨_, rfl, (H.out.stay HB.out).do5 _ rfl⟩
  simp only [Act.put, List.setIfInBounds_toArray, List.set_cons_zero, List.set_cons_succ, Nat.reduceAdd]
  refine planS_late (fun L u hi hb hS => ?_) ?_
  · have H := Lib.hid hS.get
    have e1 := H.out.s5 (hb 5 (by simp))
    rw [e1]
    clear hS hb hi e1
    go_wp2_with fail
    exact ⟨_, rfl, H.out.do6 _ rfl⟩
  simp only [Act.put, List.setIfInBounds_toArray, List.set_cons_zero, List.set_cons_succ, Nat.reduceAdd]
  refine planS_late (fun L u hi hb hS => ?_) ?_
  · have H := Lib.hid hS.get
    have e1 := H.out.s6 (hb 6 (by simp))
    rw [e1]
    clear hS hb hi e1
    go_wp2_with fail
    exact ⟨_, rfl, H.out.do7 _ rfl⟩
  simp only [Act.put, List.setIfInBounds_toArray, List.set_cons_zero, List.set_cons_succ, Nat.reduceAdd]
  refine planS_late (fun L u hi hb hS => ?_) ?_
  · have H := Lib.hid hS.get
    have e1 := H.out.s6 (hb 6 (by simp))
    rw [e1]
    clear hS hb hi e1
    go_wp2_with fail
    exact ⟨_, rfl, H.out.do8 _ rfl⟩
  simp only [Act.put, List.setIfInBounds_toArray, List.set_cons_zero, List.set_cons_succ, Nat.reduceAdd]
  refine planS_late (fun L u hi hb hS => ?_) ?_
  · have H := Lib.hid hS.get
    have h10 : L 10 = false := by
      cases h9 : L 10 with
      | false => rfl
      | true => rw [(H.out.ord h9).2.2.2] at hi; cases hi
    have H10 := Lib.hid h10
    clear hS hb hi h10
    go_wp2_with fail
    exact ⟨_, rfl, (H.out.stay ((Calm.refl u).alloc (.cells #[.int .i64 0, .int .i64 0, .int .i64 0, .int .i64 0, .int .i64 0, .string { data := #[] }] 33))).do9 _ ⟨u.heap.size, H.out.calm.size, rfl, fun _ => heap_new _ _, fun b => by rw [H10.out] at b; cases b⟩⟩
  simp only [Act.put, List.setIfInBounds_toArray, List.set_cons_zero, List.set_cons_succ, Nat.reduceAdd]
  refine planS_late (fun L u hi hb hS => ?_) ?_
  · have H := Lib.hid hS.get
    obtain ⟨g, hl, e9, hg, -⟩ := H.out.s9 (hb 9 (by simp))
    have hg := hg hi
    have e7 := H.out.s7 (hb 7 (by simp))
    have hc6 := H.out.calm.six hl (.int .i64 0) (.int .i64 0) (.int .i64 1) (.int .i64 1) (.int .i64 3) (.string { data := #[] })
    have HK := Lib.hid (fun y => H.out.do10 y (hb 1 (by simp)) (hb 2 (by simp)) (hb 5 (by simp)) (hb 9 (by simp)) e9 hl hc6 (set6 hg _ _ _ _ _ _))
    obtain ⟨z0, z1, z2, z3, z4, z5, hzs⟩ := row6 hg
    obtain ⟨f0, f1, f2, f3, f4, f5⟩ := free6 hg
    rw [e9, e7]
    clear hS hb hi e9 e7 hg hc6 hl
    go_wp2_with fail
    exact ⟨undef, _, rfl, HK.out undef⟩
  simp only [Act.put, List.set_cons_zero, List.set_cons_succ, Nat.reduceAdd]
  refine planS_late (fun L u hi hb hS => ?_) ?_
  · have H := Lib.hid hS.get
    have e1 := H.out.s8 (hb 8 (by simp))
    rw [e1]
    clear hS hb hi e1
    go_wp2_with fail
    exact ⟨_, rfl, H.out.do11 _ rfl⟩
  simp only [Act.put, Nat.reduceAdd]
  refine planS_end ?_
  intro w4 hS
  have hS := hS.get
  have hc4 := hS.calm
  have e5 := hS.s5 rfl
  have e6 := hS.s6 rfl
  have e7 := hS.s7 rfl
  have e8 := hS.s8 rfl
  have e11 := hS.s11 rfl
  obtain ⟨gz, -, e9, -, hq⟩ := hS.s9 rfl
  have hq := hq rfl
  rw [e5, e6, e7, e8, e9, e11]
  replace hy := (hc4.block hyl).trans hy
  have hx := (hc4.block HXL.out).trans HX.out
  have hv := HV.out.call hc4
  have h := HT.out
  have cA := HCA.out
  have cC := HCC.out
  have cP := HCP.out
  clear hS e5 e6 e7 e8 e9 e11 hc4 hyl HXL HX HV HT HCA HCC HCP
  obtain ⟨x0, x1, hxs⟩ := rowT hx
  obtain ⟨y0, y1, y2, y3, y4, y5, hys⟩ := row6 hy
  obtain ⟨q0, q1, q2, q3, q4, q5, hqs⟩ := row6 hq
  go_upto_region 5 with fail
  clear y0 y1 y2 y3 y4 y5 hys q0 q1 q2 q3 q4 q5 hqs hq hy
  by_cases hz0 : treeErr l root = 0
  rotate_left
  · rw [if_neg hz0] at cA
    have b1 : (treeErr l root != 0) = true := by rw [bne_iff_ne]; exact hz0
    generalize treeErr l root = R at cA b1
    clear h hz0 cP cC
    go_wp2_with (go_at_call 24; (with_reducible refine (cA _ hv).mono ?_); rintro e w5 ⟨v5, rfl, ho5, hb1⟩; obtain ⟨A5, c5, rfl, -, -, hL5⟩ := ho5.lies (by simp); have HL5 := Lib.hid hL5; replace hx := (hb1.block (rowT hx).2.2).trans hx; obtain ⟨x0, x1, hxs⟩ := rowT hx; replace hv := hv.call hb1; clear hb1 ho5 hL5 cA)
    go_ret
    exact ⟨rfl, hv⟩
  have hwfL : ∀ e ∈ allOf l root, e.wf := by unfold allOf; exact recs_wf h _ _
  have hlen : (allOf l root).length ≤ 3200 := by
    obtain ⟨-, -, d, -, -, -, hl⟩ := tree_good hz0
    exact hl
  have e1 : pastE l root = runErr (allOf l root) := if_pos hz0
  have e2 : ∀ k t, pastAE l root k t = atErr (allOf l root) k t := fun k t => if_pos hz0
  have e3 : ∀ k t, pastAV l root k t = atVal (allOf l root) k t := fun k t => if_pos hz0
  simp only [e1] at cC
  simp only [e2, e3] at cP
  rw [if_pos hz0, hz0] at cA
  clear h hz0 e1 e2 e3
  generalize allOf l root = L at cA cC cP hwfL hlen
  by_cases hr : runErr L = 0
  rotate_left
  · have b1 : (runErr L != 0) = true := by rw [bne_iff_ne]; exact hr
    generalize runErr L = R at cC b1
    clear cP hr
    go_wp2_with (first
      | (go_at_call 24; (with_reducible refine (cA _ hv).mono ?_); rintro e w5 ⟨v5, rfl, ho5, hb1⟩; obtain ⟨A5, c5, rfl, -, -, hL5⟩ := ho5.lies hwfL; have HL5 := Lib.hid hL5; replace hx := (hb1.block (rowT hx).2.2).trans hx; obtain ⟨x0, x1, hxs⟩ := rowT hx; replace hv := hv.call hb1; clear hb1 ho5 hL5 cA)
      | (go_at_call 42; (with_reducible refine (cC _ hv).mono ?_); rintro e w6 ⟨rfl, hb1⟩; replace HL5 := Lib.hid (HL5.out.calm hb1); replace hx := (hb1.block (rowT hx).2.2).trans hx; obtain ⟨x0, x1, hxs⟩ := rowT hx; replace hv := hv.call hb1; clear hb1 cC))
    go_ret
    exact ⟨rfl, hv⟩
  rw [hr] at cC
  by_cases hl0 : L.length = 0
  · clear cP hr
    obtain rfl : L = [] := List.eq_nil_of_length_eq_zero hl0
    go_wp2_with (first
      | (go_at_call 24; (with_reducible refine (cA _ hv).mono ?_); rintro e w5 ⟨v5, rfl, ho5, hb1⟩; obtain ⟨A5, c5, rfl, -, -, hL5⟩ := ho5.lies hwfL; have HL5 := Lib.hid hL5; replace hx := (hb1.block (rowT hx).2.2).trans hx; obtain ⟨x0, x1, hxs⟩ := rowT hx; replace hv := hv.call hb1; clear hb1 ho5 hL5 cA)
      | (go_at_call 42; (with_reducible refine (cC _ hv).mono ?_); rintro e w6 ⟨rfl, hb1⟩; replace HL5 := Lib.hid (HL5.out.calm hb1); replace hx := (hb1.block (rowT hx).2.2).trans hx; obtain ⟨x0, x1, hxs⟩ := rowT hx; replace hv := hv.call hb1; clear hb1 cC))
    go_ret
    exact ⟨rfl, hv⟩
  have hG := runErr_zero.1 hr
  obtain ⟨x, hxl, hWi⟩ := within_any n L.length (by omega) (by omega)
  clear hr
  go_upto_region 8 with (first
    | (go_at_call 24; (with_reducible refine (cA _ hv).mono ?_); rintro e w5 ⟨v5, rfl, ho5, hb1⟩; obtain ⟨A5, c5, rfl, -, -, hL5⟩ := ho5.lies hwfL; have HL5 := Lib.hid hL5; replace hx := (hb1.block (rowT hx).2.2).trans hx; obtain ⟨x0, x1, hxs⟩ := rowT hx; replace hv := hv.call hb1; clear hb1 ho5 hL5 cA)
    | (go_at_call 42; (with_reducible refine (cC _ hv).mono ?_); rintro e w6 ⟨rfl, hb1⟩; replace HL5 := Lib.hid (HL5.out.calm hb1); replace hx := (hb1.block (rowT hx).2.2).trans hx; obtain ⟨x0, x1, hxs⟩ := rowT hx; replace hv := hv.call hb1; clear hb1 cC))
  obtain ⟨b9, q9, p, o, f, m, g, s, rfl, hb9, HE, hm, e0, e1, e2, e3, e4, e5⟩ := HL5.out.get hxl
  have hmem := List.mem_of_getElem? HE.out
  have hA1 := each_at hG hmem
  have hA2 := each_gone hG hmem
  have cP1 := cP p o f m
  have cP2 := cP p o f g
  simp only [El.key] at hA1 hA2
  rw [hA1.1, hA1.2] at cP1
  have cP1 : ∀ u, Calm w u → Calls Try.prog 31 #[.agg #[.int .i64 root, .slice A l.length c], .agg #[.int .i64 p, .int .i64 o, .int .i64 f], .int .i64 m] u fun e w' => e = .returned (.tuple #[.agg #[.int .i64 p, .int .i64 o, .int .i64 f, .int .i64 m, .int .i64 g, .string s], .int .i64 0]) ∧ Calm u w' := cP1
  generalize atErr L (p, o, f) g = E2 at cP2 hA2
  generalize atVal L (p, o, f) g = V2 at cP2 hA2
  obtain ⟨p2, o2, f2, m2, g2, s2⟩ := V2
  have cP2 : ∀ u, Calm w u → Calls Try.prog 31 #[.agg #[.int .i64 root, .slice A l.length c], .agg #[.int .i64 p, .int .i64 o, .int .i64 f], .int .i64 g] u fun e w' => e = .returned (.tuple #[.agg #[.int .i64 p2, .int .i64 o2, .int .i64 f2, .int .i64 m2, .int .i64 g2, .string s2], .int .i64 E2]) ∧ Calm u w' := cP2
  clear hA1 hmem HE hG cP hm hl0
  go_upto_region 9 with (go_at_call 25; (with_reducible refine (hWi _).mono ?_); rintro e w9 ⟨rfl, rfl⟩)
  have hy := heap_new w6 (.cells #[.int .i64 p, .int .i64 o, .int .i64 f, .int .i64 m, .int .i64 g, .string s] 33)
  replace hx := heap_past (.cells #[.int .i64 p, .int .i64 o, .int .i64 f, .int .i64 m, .int .i64 g, .string s] 33) hx
  replace hv := hv.alloc (.cells #[.int .i64 p, .int .i64 o, .int .i64 f, .int .i64 m, .int .i64 g, .string s] 33)
  generalize w6.alloc (.cells #[.int .i64 p, .int .i64 o, .int .i64 f, .int .i64 m, .int .i64 g, .string s] 33) = w6b at hx hy hv ⊢
  clear HL5 e0 e1 e2 e3 e4 e5 hb9 hxl hWi x0 x1 hxs
  obtain ⟨x0, x1, hxs⟩ := rowT hx; obtain ⟨y0, y1, y2, y3, y4, y5, hys⟩ := row6 hy
  by_cases hg0 : g = 0
  · subst hg0
    clear hA2
    go_wp2_with (first
      | (go_at_call 31; (with_reducible refine (cP1 _ hv).mono ?_); rintro e w7 ⟨rfl, hb1⟩; have hz := heap_new w7 (.cells #[.int .i64 p, .int .i64 o, .int .i64 f, .int .i64 m, .int .i64 0, .string s] 33); replace hx := heap_past (.cells #[.int .i64 p, .int .i64 o, .int .i64 f, .int .i64 m, .int .i64 0, .string s] 33) ((hb1.block (rowT hx).2.2).trans hx); replace hy := heap_past (.cells #[.int .i64 p, .int .i64 o, .int .i64 f, .int .i64 m, .int .i64 0, .string s] 33) ((hb1.block (row6 hy).2.2.2.2.2.2).trans hy); replace hv := (hv.call hb1).alloc (.cells #[.int .i64 p, .int .i64 o, .int .i64 f, .int .i64 m, .int .i64 0, .string s] 33); clear hb1 cP1; obtain ⟨x0, x1, hxs⟩ := rowT hx; obtain ⟨y0, y1, y2, y3, y4, y5, hys⟩ := row6 hy)
      | (go_at_call 31; (with_reducible refine (cP2 _ hv).mono ?_); rintro e w8 ⟨rfl, hb1⟩; have hq := heap_new w8 (.cells #[.int .i64 p2, .int .i64 o2, .int .i64 f2, .int .i64 m2, .int .i64 g2, .string s2] 33); replace hx := heap_past (.cells #[.int .i64 p2, .int .i64 o2, .int .i64 f2, .int .i64 m2, .int .i64 g2, .string s2] 33) ((hb1.block (rowT hx).2.2).trans hx); replace hy := heap_past (.cells #[.int .i64 p2, .int .i64 o2, .int .i64 f2, .int .i64 m2, .int .i64 g2, .string s2] 33) ((hb1.block (row6 hy).2.2.2.2.2.2).trans hy); replace hz := heap_past (.cells #[.int .i64 p2, .int .i64 o2, .int .i64 f2, .int .i64 m2, .int .i64 g2, .string s2] 33) ((hb1.block (row6 hz).2.2.2.2.2.2).trans hz); replace hv := (hv.call hb1).alloc (.cells #[.int .i64 p2, .int .i64 o2, .int .i64 f2, .int .i64 m2, .int .i64 g2, .string s2] 33); clear hb1 cP2; obtain ⟨x0, x1, hxs⟩ := rowT hx; obtain ⟨y0, y1, y2, y3, y4, y5, hys⟩ := row6 hy; obtain ⟨z0, z1, z2, z3, z4, z5, hzs⟩ := row6 hz; obtain ⟨q0, q1, q2, q3, q4, q5, hqs⟩ := row6 hq))
    go_ret
    exact ⟨rfl, hv⟩
  have hA2 := hA2 hg0
  have b0 : (g == 0) = false := by simpa using hg0
  rcases hA2 with hE | ⟨rfl, h1, h2, h3, h4⟩
  · have b1 : (E2 != 0) = true := by simpa using hE
    go_wp2_with (first
      | (go_at_call 31; (with_reducible refine (cP1 _ hv).mono ?_); rintro e w7 ⟨rfl, hb1⟩; have hz := heap_new w7 (.cells #[.int .i64 p, .int .i64 o, .int .i64 f, .int .i64 m, .int .i64 g, .string s] 33); replace hx := heap_past (.cells #[.int .i64 p, .int .i64 o, .int .i64 f, .int .i64 m, .int .i64 g, .string s] 33) ((hb1.block (rowT hx).2.2).trans hx); replace hy := heap_past (.cells #[.int .i64 p, .int .i64 o, .int .i64 f, .int .i64 m, .int .i64 g, .string s] 33) ((hb1.block (row6 hy).2.2.2.2.2.2).trans hy); replace hv := (hv.call hb1).alloc (.cells #[.int .i64 p, .int .i64 o, .int .i64 f, .int .i64 m, .int .i64 g, .string s] 33); clear hb1 cP1; obtain ⟨x0, x1, hxs⟩ := rowT hx; obtain ⟨y0, y1, y2, y3, y4, y5, hys⟩ := row6 hy)
      | (go_at_call 31; (with_reducible refine (cP2 _ hv).mono ?_); rintro e w8 ⟨rfl, hb1⟩; have hq := heap_new w8 (.cells #[.int .i64 p2, .int .i64 o2, .int .i64 f2, .int .i64 m2, .int .i64 g2, .string s2] 33); replace hx := heap_past (.cells #[.int .i64 p2, .int .i64 o2, .int .i64 f2, .int .i64 m2, .int .i64 g2, .string s2] 33) ((hb1.block (rowT hx).2.2).trans hx); replace hy := heap_past (.cells #[.int .i64 p2, .int .i64 o2, .int .i64 f2, .int .i64 m2, .int .i64 g2, .string s2] 33) ((hb1.block (row6 hy).2.2.2.2.2.2).trans hy); replace hz := heap_past (.cells #[.int .i64 p2, .int .i64 o2, .int .i64 f2, .int .i64 m2, .int .i64 g2, .string s2] 33) ((hb1.block (row6 hz).2.2.2.2.2.2).trans hz); replace hv := (hv.call hb1).alloc (.cells #[.int .i64 p2, .int .i64 o2, .int .i64 f2, .int .i64 m2, .int .i64 g2, .string s2] 33); clear hb1 cP2; obtain ⟨x0, x1, hxs⟩ := rowT hx; obtain ⟨y0, y1, y2, y3, y4, y5, hys⟩ := row6 hy; obtain ⟨z0, z1, z2, z3, z4, z5, hzs⟩ := row6 hz; obtain ⟨q0, q1, q2, q3, q4, q5, hqs⟩ := row6 hq))
    go_ret
    exact ⟨rfl, hv⟩
  · have h4 : ¬ m2 = m := h4
    obtain rfl : p = p2 := h1.symm
    obtain rfl : o = o2 := h2.symm
    obtain rfl : f = f2 := h3.symm
    go_wp2_with (first
      | (go_at_call 31; (with_reducible refine (cP1 _ hv).mono ?_); rintro e w7 ⟨rfl, hb1⟩; have hz := heap_new w7 (.cells #[.int .i64 p, .int .i64 o, .int .i64 f, .int .i64 m, .int .i64 g, .string s] 33); replace hx := heap_past (.cells #[.int .i64 p, .int .i64 o, .int .i64 f, .int .i64 m, .int .i64 g, .string s] 33) ((hb1.block (rowT hx).2.2).trans hx); replace hy := heap_past (.cells #[.int .i64 p, .int .i64 o, .int .i64 f, .int .i64 m, .int .i64 g, .string s] 33) ((hb1.block (row6 hy).2.2.2.2.2.2).trans hy); replace hv := (hv.call hb1).alloc (.cells #[.int .i64 p, .int .i64 o, .int .i64 f, .int .i64 m, .int .i64 g, .string s] 33); clear hb1 cP1; obtain ⟨x0, x1, hxs⟩ := rowT hx; obtain ⟨y0, y1, y2, y3, y4, y5, hys⟩ := row6 hy)
      | (go_at_call 31; (with_reducible refine (cP2 _ hv).mono ?_); rintro e w8 ⟨rfl, hb1⟩; have hq := heap_new w8 (.cells #[.int .i64 p, .int .i64 o, .int .i64 f, .int .i64 m2, .int .i64 g2, .string s2] 33); replace hx := heap_past (.cells #[.int .i64 p, .int .i64 o, .int .i64 f, .int .i64 m2, .int .i64 g2, .string s2] 33) ((hb1.block (rowT hx).2.2).trans hx); replace hy := heap_past (.cells #[.int .i64 p, .int .i64 o, .int .i64 f, .int .i64 m2, .int .i64 g2, .string s2] 33) ((hb1.block (row6 hy).2.2.2.2.2.2).trans hy); replace hz := heap_past (.cells #[.int .i64 p, .int .i64 o, .int .i64 f, .int .i64 m2, .int .i64 g2, .string s2] 33) ((hb1.block (row6 hz).2.2.2.2.2.2).trans hz); replace hv := (hv.call hb1).alloc (.cells #[.int .i64 p, .int .i64 o, .int .i64 f, .int .i64 m2, .int .i64 g2, .string s2] 33); clear hb1 cP2; obtain ⟨x0, x1, hxs⟩ := rowT hx; obtain ⟨y0, y1, y2, y3, y4, y5, hys⟩ := row6 hy; obtain ⟨z0, z1, z2, z3, z4, z5, hzs⟩ := row6 hz; obtain ⟨q0, q1, q2, q3, q4, q5, hqs⟩ := row6 hq))
    go_ret
    exact ⟨rfl, hv⟩
end Go.Proofs.Ytccfcloekjogkaa
