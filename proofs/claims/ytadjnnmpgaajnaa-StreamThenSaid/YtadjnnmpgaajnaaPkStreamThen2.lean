/- Texts of one kind in one file. -/
import Derived.Test.YtadjnnmpgaajnaaPkStreamThen1
set_option maxRecDepth 100000
namespace Go.Proofs.Ytadjnnmpgaajnaa
open Go.RowKit
def El.val (e : El) : Value := .agg #[.int .i64 e.p, .int .i64 e.o, .int .i64 e.f, .int .i64 e.m, .int .i64 e.g, .string e.s]
def AtEnd (x : El) (n : Int) (w : World) (e : Ending) (w' : World) : Prop := e = .returned (.tuple #[x.val, .int .i64 n]) ∧ Calm w w'
set_option maxHeartbeats 4000000 in
theorem runAt_any (A : Option Addr) (d : Nat) (l : List El) (p' o' f' t : Int) (w : World) (hn : l.length ≤ 9223372036854775807) (hL : Lies w A l) :
    Calls Try.prog 23 #[.slice A l.length d, .agg #[.int .i64 p', .int .i64 o', .int .i64 f'], .int .i64 t] w (AtEnd (atVal l (p', o', f') t) (atErr l (p', o', f') t) w) := by
  have cC : ∀ u, Calm w u → Calls Try.prog 20 #[.slice A l.length d] u fun e w' => e = .returned (.int .i64 (runErr l)) ∧ Calm u w' := fun u hu => runCheck_any A d l u hn (hL.calm hu)
  have hz : ((w.alloc (.cells #[.int .i64 p', .int .i64 o', .int .i64 f'] 32)).alloc (.cells #[.int .i64 0, .int .i64 0, .int .i64 0, .int .i64 0, .int .i64 0, .string { data := #[] }] 34)).heap[w.heap.size + 1]? = some (.cells #[.int .i64 0, .int .i64 0, .int .i64 0, .int .i64 0, .int .i64 0, .string { data := #[] }] 34 (0, 0)) := by simpa using heap_new (w.alloc (.cells #[.int .i64 p', .int .i64 o', .int .i64 f'] 32)) (.cells #[.int .i64 0, .int .i64 0, .int .i64 0, .int .i64 0, .int .i64 0, .string { data := #[] }] 34)
  have hy : ((w.alloc (.cells #[.int .i64 p', .int .i64 o', .int .i64 f'] 32)).alloc (.cells #[.int .i64 0, .int .i64 0, .int .i64 0, .int .i64 0, .int .i64 0, .string { data := #[] }] 34)).heap[w.heap.size]? = some (.cells #[.int .i64 p', .int .i64 o', .int .i64 f'] 32 (0, 0)) := heap_past _ (heap_new _ _)
  have hu := ((Calm.refl w).alloc (.cells #[.int .i64 p', .int .i64 o', .int .i64 f'] 32)).alloc (.cells #[.int .i64 0, .int .i64 0, .int .i64 0, .int .i64 0, .int .i64 0, .string { data := #[] }] 34)
  by_cases he : runErr l = 0
  rotate_left
  · have e1 : atErr l (p', o', f') t = runErr l := by simp [atErr, askErr1, he]
    have e2 : atVal l (p', o', f') t = zeroEl := by simp [atVal, askErr1, he]
    rw [e1, e2]
    have b1 : (runErr l != 0) = true := by simpa using he
    clear he e1 e2 hL
    go_enter Try.func23, Try.ntmps23
    go_wp2_with (go_at_call 20; refine (cC _ hu).mono ?_; rintro e w1 ⟨rfl, hb1⟩; replace hz := (hb1.block (row6 hz).2.2.2.2.2.2).trans hz; replace hy := (hb1.block (row3 hy).2.2.2).trans hy; replace hu := hu.call hb1; clear hb1; obtain ⟨y0, y1, y2, hys⟩ := row3 hy; obtain ⟨z0, z1, z2, z3, z4, z5, hzs⟩ := row6 hz; obtain ⟨f0, f1, f2, f3, f4, f5⟩ := free6 hz)
    have hr := set6 hz (.int .i64 0) (.int .i64 0) (.int .i64 0) (.int .i64 0) (.int .i64 0) (.string { data := #[] })
    have hu2 := hu.six (g := w.heap.size + 1) (by omega) (.int .i64 0) (.int .i64 0) (.int .i64 0) (.int .i64 0) (.int .i64 0) (.string { data := #[] })
    unfold World.six at hr hu2
    exact end_two rfl rfl _ _ _ _ _ _ _ rfl rfl rfl hr rfl ⟨rfl, hu2⟩
  have hG := runErr_zero.1 he
  rw [he] at cC
  by_cases hk : keyErr p' o' f' = 0
  rotate_left
  · have e1 : atErr l (p', o', f') t = keyErr p' o' f' := by simp [atErr, askErr1, he, kErr, hk]
    have e2 : atVal l (p', o', f') t = zeroEl := by simp [atVal, askErr1, he, kErr, hk]
    rw [e1, e2]
    have b1 : (keyErr p' o' f' != 0) = true := by simpa using hk
    clear he hk e1 e2 hL hG
    go_enter Try.func23, Try.ntmps23
    go_wp2_with (first
      | (go_at_call 20; refine (cC _ hu).mono ?_; rintro e w1 ⟨rfl, hb1⟩; replace hz := (hb1.block (row6 hz).2.2.2.2.2.2).trans hz; replace hy := (hb1.block (row3 hy).2.2.2).trans hy; replace hu := hu.call hb1; clear hb1; obtain ⟨y0, y1, y2, hys⟩ := row3 hy; obtain ⟨z0, z1, z2, z3, z4, z5, hzs⟩ := row6 hz; obtain ⟨f0, f1, f2, f3, f4, f5⟩ := free6 hz)
      | (go_at_call 50; refine (keyCheck_any _ _ _ _).mono ?_; rintro e w1 ⟨rfl, hb1⟩; replace hz := (hb1.block (row6 hz).2.2.2.2.2.2).trans hz; replace hy := (hb1.block (row3 hy).2.2.2).trans hy; replace hu := hu.call hb1; clear hb1; obtain ⟨y0, y1, y2, hys⟩ := row3 hy; obtain ⟨z0, z1, z2, z3, z4, z5, hzs⟩ := row6 hz; obtain ⟨f0, f1, f2, f3, f4, f5⟩ := free6 hz))
    have hr := set6 hz (.int .i64 0) (.int .i64 0) (.int .i64 0) (.int .i64 0) (.int .i64 0) (.string { data := #[] })
    have hu2 := hu.six (g := w.heap.size + 1) (by omega) (.int .i64 0) (.int .i64 0) (.int .i64 0) (.int .i64 0) (.int .i64 0) (.string { data := #[] })
    unfold World.six at hr hu2
    exact end_two rfl rfl _ _ _ _ _ _ _ rfl rfl rfl hr rfl ⟨rfl, hu2⟩
  have cK : ∀ u, Calls Try.prog 50 #[.agg #[.int .i64 p', .int .i64 o', .int .i64 f']] u fun e w' => e = .returned (.int .i64 0) ∧ Calm u w' := fun u => by rw [← hk]; exact keyCheck_any _ _ _ _
  have cV : ∀ u, Calm w u → Calls Try.prog 51 #[.slice A l.length d, .agg #[.int .i64 p', .int .i64 o', .int .i64 f'], .int .i64 t] u fun e w' => e = .returned (.tuple #[.int .i64 (if hitB l (pos l (p', o', f') t) (p', o', f') t then (pos l (p', o', f') t : Int) - 1 else 0), .bool (hitB l (pos l (p', o', f') t) (p', o', f') t)]) ∧ Calm u w' :=
    fun u hu => liveRun_any A d l p' o' f' t u hG.1 (hL.calm hu) hG.2.2
  rcases hitB_pos hG.2.2 (p', o', f') t with ⟨h1, hi, h2, h3, h4⟩ | ⟨h1, h2, h3⟩
  · have e1 : atErr l (p', o', f') t = 0 := by simp [atErr, askErr1, he, kErr, hk, h4]
    have e2 : atVal l (p', o', f') t = l[pos l (p', o', f') t - 1] := by simp [atVal, askErr1, he, kErr, hk, h4]
    rw [e1, e2]
    simp only [h1, if_true] at cV
    rw [show (pos l (p', o', f') t : Int) - 1 = ((pos l (p', o', f') t - 1 : Nat) : Int) by omega] at cV
    clear e1 e2 h1 h2 h3 h4
    generalize pos l (p', o', f') t - 1 = j at cV hi ⊢
    obtain ⟨b, q, p, o, f, m, g, s, rfl, hb, HE, hm, c0, c1, c2, c3, c4, c5⟩ := hL.get hi
    have e3 : Hid (l[j] = ⟨p, o, f, m, g, s⟩) := (List.getElem?_eq_some_iff.1 HE.out).2
    have hC : ∀ u, Calm w u → u.cell? ⟨b, q + j * 6, none⟩ = some (.int .i64 p) ∧ u.cell? ⟨b, q + j * 6 + 1, none⟩ = some (.int .i64 o) ∧ u.cell? ⟨b, q + j * 6 + 2, none⟩ = some (.int .i64 f) ∧ u.cell? ⟨b, q + j * 6 + 3, none⟩ = some (.int .i64 m) ∧ u.cell? ⟨b, q + j * 6 + 4, none⟩ = some (.int .i64 g) ∧ u.cell? ⟨b, q + j * 6 + 5, none⟩ = some (.string s) := fun u hu =>
      have hc := hu.facts.1
      ⟨(hc _ _ hb).trans c0, (hc _ _ hb).trans c1, (hc _ _ hb).trans c2, (hc _ _ hb).trans c3, (hc _ _ hb).trans c4, (hc _ _ hb).trans c5⟩
    have hn4 := hG.1
    have hiz : (j : Int) < (l.length : Int) := by omega
    clear he hk hL hG HE c0 c1 c2 c3 c4 c5
    go_enter Try.func23, Try.ntmps23
    go_wp2_with (first
      | (go_at_call 20; refine (cC _ hu).mono ?_; rintro e w1 ⟨rfl, hb1⟩; replace hz := (hb1.block (row6 hz).2.2.2.2.2.2).trans hz; replace hy := (hb1.block (row3 hy).2.2.2).trans hy; replace hu := hu.call hb1; clear hb1; obtain ⟨y0, y1, y2, hys⟩ := row3 hy; obtain ⟨z0, z1, z2, z3, z4, z5, hzs⟩ := row6 hz; obtain ⟨f0, f1, f2, f3, f4, f5⟩ := free6 hz)
      | (go_at_call 50; refine (cK _).mono ?_; rintro e w1 ⟨rfl, hb1⟩; replace hz := (hb1.block (row6 hz).2.2.2.2.2.2).trans hz; replace hy := (hb1.block (row3 hy).2.2.2).trans hy; replace hu := hu.call hb1; clear hb1; obtain ⟨y0, y1, y2, hys⟩ := row3 hy; obtain ⟨z0, z1, z2, z3, z4, z5, hzs⟩ := row6 hz; obtain ⟨f0, f1, f2, f3, f4, f5⟩ := free6 hz)
      | (go_at_call 51; refine (cV _ hu).mono ?_; rintro e w1 ⟨rfl, hb1⟩; replace hz := (hb1.block (row6 hz).2.2.2.2.2.2).trans hz; replace hy := (hb1.block (row3 hy).2.2.2).trans hy; replace hu := hu.call hb1; clear hb1; obtain ⟨y0, y1, y2, hys⟩ := row3 hy; obtain ⟨z0, z1, z2, z3, z4, z5, hzs⟩ := row6 hz; obtain ⟨f0, f1, f2, f3, f4, f5⟩ := free6 hz; obtain ⟨c0, c1, c2, c3, c4, c5⟩ := hC _ hu))
    have hr := set6 hz (.int .i64 p) (.int .i64 o) (.int .i64 f) (.int .i64 m) (.int .i64 g) (.string s)
    have hu2 := hu.six (g := w.heap.size + 1) (by omega) (.int .i64 p) (.int .i64 o) (.int .i64 f) (.int .i64 m) (.int .i64 g) (.string s)
    unfold World.six at hr hu2
    exact end_two rfl rfl _ _ _ _ _ _ _ rfl rfl rfl hr rfl ⟨by rw [e3.out]; rfl, hu2⟩
  · have e1 : atErr l (p', o', f') t = 4 := by simp [atErr, askErr1, he, kErr, hk, h2]
    have e2 : atVal l (p', o', f') t = zeroEl := by simp [atVal, askErr1, he, kErr, hk, h2]
    rw [e1, e2]
    simp only [h1] at cV
    clear e1 e2 h1 h2 h3 he hk hL hG
    go_enter Try.func23, Try.ntmps23
    go_wp2_with (first
      | (go_at_call 20; refine (cC _ hu).mono ?_; rintro e w1 ⟨rfl, hb1⟩; replace hz := (hb1.block (row6 hz).2.2.2.2.2.2).trans hz; replace hy := (hb1.block (row3 hy).2.2.2).trans hy; replace hu := hu.call hb1; clear hb1; obtain ⟨y0, y1, y2, hys⟩ := row3 hy; obtain ⟨z0, z1, z2, z3, z4, z5, hzs⟩ := row6 hz; obtain ⟨f0, f1, f2, f3, f4, f5⟩ := free6 hz)
      | (go_at_call 50; refine (cK _).mono ?_; rintro e w1 ⟨rfl, hb1⟩; replace hz := (hb1.block (row6 hz).2.2.2.2.2.2).trans hz; replace hy := (hb1.block (row3 hy).2.2.2).trans hy; replace hu := hu.call hb1; clear hb1; obtain ⟨y0, y1, y2, hys⟩ := row3 hy; obtain ⟨z0, z1, z2, z3, z4, z5, hzs⟩ := row6 hz; obtain ⟨f0, f1, f2, f3, f4, f5⟩ := free6 hz)
      | (go_at_call 51; refine (cV _ hu).mono ?_; rintro e w1 ⟨rfl, hb1⟩; replace hz := (hb1.block (row6 hz).2.2.2.2.2.2).trans hz; replace hy := (hb1.block (row3 hy).2.2.2).trans hy; replace hu := hu.call hb1; clear hb1; obtain ⟨y0, y1, y2, hys⟩ := row3 hy; obtain ⟨z0, z1, z2, z3, z4, z5, hzs⟩ := row6 hz; obtain ⟨f0, f1, f2, f3, f4, f5⟩ := free6 hz))
    have hr := set6 hz (.int .i64 0) (.int .i64 0) (.int .i64 0) (.int .i64 0) (.int .i64 0) (.string { data := #[] })
    have hu2 := hu.six (g := w.heap.size + 1) (by omega) (.int .i64 0) (.int .i64 0) (.int .i64 0) (.int .i64 0) (.int .i64 0) (.string { data := #[] })
    unfold World.six at hr hu2
    exact end_two rfl rfl _ _ _ _ _ _ _ rfl rfl rfl hr rfl ⟨rfl, hu2⟩
open Go.RowKit
theorem lit1 {w : World} {g : Nat} {p o f m gg : Int} {s : ByteArray} (h : w.heap[g]? = some (.cells #[.int .i64 p, .int .i64 o, .int .i64 f, .int .i64 m, .int .i64 gg, .string s] 34 (0, 0))) (hm : 0 ≤ m) : Lies w (some ⟨g, 0, none⟩) [⟨p, o, f, m, gg, s⟩] := by
 obtain ⟨x0, x1, x2, x3, x4, x5, hxs⟩ := row6 h
 refine ⟨fun e he => ?_, fun _ => ⟨g, 0, rfl, hxs, fun k e he => ?_⟩⟩
 ·simp at he; subst he; unfold El.wf; simp only; omega
 ·match k, he with
  | 0, he => simp at he; subst he; exact ⟨x0, x1, x2, x3, x4, x5⟩
  |k + 1, he => simp at he
open Go.ChangeShapes Go.WideShapes Go.ChangeAt Go.RowKit
/-- What is read of a run and of what was known of it. -/
theorem at_both {l : List El} (hG : Good l) {p o f t u : Int} (hut : u ≤ t) : atErr (uptoL l p t) (p, o, f) u = atErr l (p, o, f) u ∧ (atVal (uptoL l p t) (p, o, f) u).s = (atVal l (p, o, f) u).s ∧ (atVal (uptoL l p t) (p, o, f) u).m = (atVal l (p, o, f) u).m := by
 have h1 := runErr_zero.2 hG
 have h2 := runErr_zero.2 (upto_good hG p t)
 obtain ⟨e1, e2⟩ := upto_at hG (p := p) (o := o) (f := f) hut
 unfold atErr atVal askErr1
 rw [h1, h2, if_pos rfl]
 by_cases hk : kErr (p, o, f) = 0
 ·simp only [if_pos hk]
  rw [e1]
  refine ⟨rfl, ?_⟩
  cases ha : atR l (p, o, f) u with
  |none =>
   cases hb : atR (uptoL l p t) (p, o, f) u with
   |none => exact ⟨rfl, rfl⟩
   |some b => rw [ha, hb] at e1; cases e1
  |some a =>
   cases hb : atR (uptoL l p t) (p, o, f) u with
   |none => rw [ha, hb] at e1; cases e1
   |some b =>
    obtain ⟨q1, q2⟩ := e2 a b ha hb
    exact ⟨q1.symm, q2.symm⟩
 ·simp only [if_neg hk]
  exact ⟨trivial, trivial, trivial⟩
def eL3 : El := ⟨0, 0, 0, 1, 3, { data := #[] }⟩
def eL2 : El := ⟨0, 0, 0, 1, 0, { data := #[] }⟩
theorem good_L3 : Good [eL3] := runErr_zero.1 (by decide +kernel)
theorem upto_L3 : uptoL [eL3] 0 2 = [eL2] := by decide +kernel
theorem lies_L3 {w : World} {g : Nat} (h : w.heap[g]? = some (.cells #[.int .i64 0, .int .i64 0, .int .i64 0, .int .i64 1, .int .i64 3, .string { data := #[] }] 34 (0, 0))) : Lies w (some ⟨g, 0, none⟩) [eL3] := lit1 h (by omega)
theorem lies_L2 {w : World} {g : Nat} (h : w.heap[g]? = some (.cells #[.int .i64 0, .int .i64 0, .int .i64 0, .int .i64 1, .int .i64 0, .string { data := #[] }] 34 (0, 0))) : Lies w (some ⟨g, 0, none⟩) [eL2] := lit1 h (by omega)
theorem uptoL3_any (w : World) (g : Nat) (h : w.heap[g]? = some (.cells #[.int .i64 0, .int .i64 0, .int .i64 0, .int .i64 1, .int .i64 3, .string { data := #[] }] 34 (0, 0))) :
    Calls Try.prog 10 #[.slice (some ⟨g, 0, none⟩) 1 1, .int .i64 0, .int .i64 2] w fun e w' => ∃ A c, e = .returned (.tuple #[.slice A 1 c, .int .i64 0]) ∧ Lies w' A [eL2] ∧ Calm w w' := by
  refine (upto_sp (some ⟨g, 0, none⟩) 1 (l := [eL3]) 0 2 w good_L3 (lies_L3 h) (by decide)).mono ?_
  rintro e w' ⟨A, c, rfl, -, hL, hc⟩
  rw [upto_L3] at hL ⊢
  exact ⟨A, c, rfl, hL, hc⟩
theorem eqL2_any (w : World) (A : Option Addr) (c g : Nat) (hA : Lies w A [eL2]) (h : w.heap[g]? = some (.cells #[.int .i64 0, .int .i64 0, .int .i64 0, .int .i64 1, .int .i64 0, .string { data := #[] }] 34 (0, 0))) :
    Calls Try.prog 14 #[.slice A 1 c, .slice (some ⟨g, 0, none⟩) 1 1] w fun e w' => e = .returned (.bool true) ∧ Calm w w' := equal_self A (some ⟨g, 0, none⟩) c 1 [eL2] w (by decide) hA (lies_L2 h)
set_option maxHeartbeats 8000000 in
theorem streamThen_walk (A : Option Addr) (d : Nat) (l : List El) (p t v : Int) (kp ko kf : Int) (w : World) (hn : l.length ≤ 9223372036854775807) (hL : Lies w A l) :
    Calls Try.prog 7 #[.slice A l.length d, .int .i64 p, .int .i64 t, .int .i64 v, .agg #[.int .i64 kp, .int .i64 ko, .int .i64 kf]] w fun e w' => e = .returned (.bool true) ∧ Calm w w' := by
  have cU := fun u (hu : Calm w u) => strUpto_any A d l p t u hn (hL.calm hu)
  have hx := heap_new w (.cells #[.int .i64 kp, .int .i64 ko, .int .i64 kf] 32)
  have hu := (Calm.refl w).alloc (.cells #[.int .i64 kp, .int .i64 ko, .int .i64 kf] 32)
  by_cases hr : uptoErr l p t = 0
  rotate_left
  · rw [uptoV, if_neg hr] at cU
    have b1 := ne_true hr
    generalize uptoErr l p t = E at cU b1
    clear hr hL
    go_enter Try.func7, Try.ntmps7
    go_wp2_with (first
      | (go_at_call 10; (with_reducible refine (uptoL3_any _ _ (heap_new3 _ _ _ _)).mono ?_); rintro e w1 ⟨A1, c1, rfl, hl1, hb1⟩; have HL1 := Lib.hid hl1; replace hu := ((hu.alloc _).alloc _).call hb1; clear hb1 hl1)
      | (go_at_call 14; (with_reducible refine (eqL2_any _ _ _ _ (HL1.out.calm ((Calm.refl _).alloc _)) (heap_new _ _)).mono ?_); rintro e w2 ⟨rfl, hb1⟩; replace hu := (hu.alloc _).call hb1; clear hb1)
      | (go_at_call 10; (with_reducible refine (cU _ hu).mono ?_); rintro e w1 ⟨v1, rfl, ho, hb1⟩; obtain ⟨A3, n3, c3, rfl⟩ := slice_of ho; obtain ⟨rfl, -⟩ := ho.reads (by simp); replace hu := hu.call hb1; clear hb1 ho))
    go_ret
    exact ⟨rfl, hu⟩
  obtain ⟨hG, hS⟩ := uptoErr_zero.1 hr
  have hGu := upto_good hG p t
  rw [uptoV, if_pos hr, hr] at cU
  obtain ⟨V, hmn, hV⟩ : ∃ V : Int, min v t = V ∧ V ≤ t := ⟨_, rfl, Int.min_le_right _ _⟩
  have cA := fun u (hu : Calm w u) => runAt_any A d l p ko kf V u hn (hL.calm hu)
  have hU4 : (uptoL l p t).length ≤ 9223372036854775807 := by have := hGu.1; omega
  have cB := fun (B : Option Addr) c u (h : Lies u B (uptoL l p t)) => runAt_any B c (uptoL l p t) p ko kf V u hU4 h
  have cC := fun (B : Option Addr) c u (h : Lies u B (uptoL l p t)) => runCheck_any B c (uptoL l p t) u hU4 h
  obtain ⟨q1, q2, q3⟩ := at_both hG (p := p) (o := ko) (f := kf) hV
  rw [runErr_zero.2 hGu] at cC
  unfold AtEnd at cA cB
  rw [q1] at cB
  generalize atErr l (p, ko, kf) V = E at cA cB
  generalize atVal l (p, ko, kf) V = X at cA q2 q3
  generalize atVal (uptoL l p t) (p, ko, kf) V = Y at cB q2 q3
  have W := Lib.hid (Good.wf hGu)
  generalize uptoL l p t = U at cU cB cC W hU4
  obtain ⟨xp, xo, xf, xm, xg, xs⟩ := X
  obtain ⟨yp, yo, yf, ym, yg, ys⟩ := Y
  simp only at q2 q3
  subst q2; subst q3
  simp only [El.val] at cA cB
  clear hr hL hG hS hGu q1 hU4 hV
  go_enter Try.func7, Try.ntmps7
  go_upto_region 8 with (first
    | (go_at_call 10; (with_reducible refine (uptoL3_any _ _ (heap_new3 _ _ _ _)).mono ?_); rintro e w1 ⟨A1, c1, rfl, hl1, hb1⟩; have HL1 := Lib.hid hl1; replace hx := (hb1.block (by simp; omega)).trans (heap_past _ (heap_past _ hx)); replace hu := ((hu.alloc _).alloc _).call hb1; clear hb1 hl1)
    | (go_at_call 14; (with_reducible refine (eqL2_any _ _ _ _ (HL1.out.calm ((Calm.refl _).alloc _)) (heap_new _ _)).mono ?_); rintro e w2 ⟨rfl, hb1⟩; replace hx := (hb1.block (row3 (heap_past _ hx)).2.2.2).trans (heap_past _ hx); replace hu := (hu.alloc _).call hb1; clear hb1)
    | (go_at_call 10; (with_reducible refine (cU _ hu).mono ?_); rintro e w4 ⟨v1, rfl, ho, hb1⟩; have hb9 := (row3 hx).2.2.2; obtain ⟨A3, n3, c3, rfl⟩ := slice_of ho; obtain rfl := (ho.reads W.out).1; have HO3 := Lib.hid (own_apart ho hb9 (j := 0) (x := .int .i64 p)); replace hx := (hb1.block (row3 hx).2.2.2).trans hx; replace hu := hu.call hb1; clear hb1 ho hb9; obtain ⟨x0, x1, x2, hxs⟩ := row3 hx; have hfz := frozen_of_row w4 w.heap.size 0 _ _ hx))
  go_upto_region 9 with fail
  replace hx := heap_setCell_same _ w.heap.size 0 _ _ (.int .i64 p) hx
  replace hu := hu.setCell (p := ⟨w.heap.size, 0, none⟩) (Nat.le_refl _) (.int .i64 p)
  generalize w4.setCell ⟨w.heap.size, 0, none⟩ (.int .i64 p) = w5 at hx hu HO3 ⊢
  replace hx : w5.heap[w.heap.size]? = some (.cells #[.int .i64 p, .int .i64 ko, .int .i64 kf] 32 (0, 0)) := hx
  have HL3 := Lib.hid (HO3.out.reads W.out).2
  clear x0 x1 x2 hxs hfz HO3
  obtain ⟨x0, x1, x2, hxs⟩ := row3 hx
  go_wp2_with (first
    | (go_at_call 23; (with_reducible refine (cA _ hu).mono ?_); rintro e w6 ⟨rfl, hb1⟩; replace hx := heap_past (.cells #[.int .i64 xp, .int .i64 xo, .int .i64 xf, .int .i64 ym, .int .i64 xg, .string ys] 34) ((hb1.block (row3 hx).2.2.2).trans hx); have hy := heap_new w6 (.cells #[.int .i64 xp, .int .i64 xo, .int .i64 xf, .int .i64 ym, .int .i64 xg, .string ys] 34); replace HL3 := Lib.hid (HL3.out.calm (((Calm.refl _).call hb1).alloc (.cells #[.int .i64 xp, .int .i64 xo, .int .i64 xf, .int .i64 ym, .int .i64 xg, .string ys] 34))); replace hu := (hu.call hb1).alloc (.cells #[.int .i64 xp, .int .i64 xo, .int .i64 xf, .int .i64 ym, .int .i64 xg, .string ys] 34); clear hb1 x0 x1 x2 hxs; obtain ⟨x0, x1, x2, hxs⟩ := row3 hx; obtain ⟨y0, y1, y2, y3, y4, y5, hys⟩ := row6 hy)
    | (go_at_call 23; (with_reducible refine (cB _ _ _ HL3.out).mono ?_); rintro e w7 ⟨rfl, hb1⟩; replace hy := heap_past (.cells #[.int .i64 yp, .int .i64 yo, .int .i64 yf, .int .i64 ym, .int .i64 yg, .string ys] 34) ((hb1.block hys).trans hy); have hz := heap_new w7 (.cells #[.int .i64 yp, .int .i64 yo, .int .i64 yf, .int .i64 ym, .int .i64 yg, .string ys] 34); replace HL3 := Lib.hid (HL3.out.calm (((Calm.refl _).call hb1).alloc (.cells #[.int .i64 yp, .int .i64 yo, .int .i64 yf, .int .i64 ym, .int .i64 yg, .string ys] 34))); replace hu := (hu.call hb1).alloc (.cells #[.int .i64 yp, .int .i64 yo, .int .i64 yf, .int .i64 ym, .int .i64 yg, .string ys] 34); clear hb1 y0 y1 y2 y3 y4 y5 hys x0 x1 x2 hxs hx; obtain ⟨y0, y1, y2, y3, y4, y5, hys⟩ := row6 hy; obtain ⟨z0, z1, z2, z3, z4, z5, hzs⟩ := row6 hz)
    | (go_at_call 20; (with_reducible refine (cC _ _ _ HL3.out).mono ?_); rintro e w8 ⟨rfl, hb1⟩; replace hu := hu.call hb1; clear hb1))
  go_ret
  exact ⟨rfl, hu⟩
end Go.Proofs.Ytadjnnmpgaajnaa
