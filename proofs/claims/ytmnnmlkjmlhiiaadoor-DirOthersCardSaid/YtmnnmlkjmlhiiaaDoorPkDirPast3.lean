/- Texts of one kind in one file. -/
import Derived.Test.YtmnnmlkjmlhiiaaDoorRows
import Derived.Stop.LaidErr
import Derived.LaidMore
import Derived.LaidHandle
import Derived.LaidLaws
import Derived.Lib.LaidTab
import Derived.Handed
import Derived.JoinedOf
import Derived.Stop.Joined
import Derived.Test.YtmnnmlkjmlhiiaaDoorPkDirPast2
set_option maxRecDepth 100000
namespace Go.Proofs.YtmnnmlkjmlhiiaaDoor
open Go.RowKit
theorem cutErr_eq {l : List El} {k : Int × Int × Int} {t : Int} (h : wrErr l (fresh k { data := #[] } t) = 0) : cutErr l k t = if l.any (isOpen k) then 0 else 4 := by
 unfold cutErr; rw [if_pos h]
set_option maxHeartbeats 16000000 in
theorem runCut_any (A : Option Addr) (d : Nat) (l : List El) (p' o' f' : Int) (t : Int) (w : World) (hn : l.length ≤ 9223372036854775807) (hL : Lies w A l) :
    Calls Tryd.prog 13 #[.slice A l.length d, .agg #[.int .i64 p', .int .i64 o', .int .i64 f'], .int .i64 t] w (SlEnd (if cutErr l (p', o', f') t = 0 then cutR l (p', o', f') t else []) (cutErr l (p', o', f') t) w) := by
  have hy := heap_new w (.cells #[.int .i64 p', .int .i64 o', .int .i64 f'] 32)
  have hu := (Calm.refl w).alloc (.cells #[.int .i64 p', .int .i64 o', .int .i64 f'] 32)
  have cW : ∀ u, Calm w u → Calls Tryd.prog 18 #[.slice A l.length d, .agg #[.int .i64 p', .int .i64 o', .int .i64 f', .int .i64 t, .int .i64 0, .string { data := #[] }]] u fun e w' => e = .returned (.int .i64 (wrErr l (fresh (p', o', f') { data := #[] } t))) ∧ Calm u w' := fun u hu => checkWrite_any A d l p' o' f' t 0 { data := #[] } u hn (hL.calm hu)
  by_cases he : wrErr l (fresh (p', o', f') { data := #[] } t) = 0
  rotate_left
  · have e1 : cutErr l (p', o', f') t = wrErr l (fresh (p', o', f') { data := #[] } t) := by unfold cutErr; rw [if_neg he]
    rw [e1, if_neg he]
    have b1 : (wrErr l (fresh (p', o', f') { data := #[] } t) != 0) = true := by simpa using he
    generalize wrErr l (fresh (p', o', f') { data := #[] } t) = x at b1 cW
    clear he e1 hL
    go_enter Tryd.func13, Tryd.ntmps13
    go_wp2_with (go_at_call 18; refine (cW _ hu).mono ?_; rintro e w1 ⟨rfl, hb1⟩; replace hy := (hb1.block (row3 hy).2.2.2).trans hy; replace hu := hu.call hb1; clear hb1; obtain ⟨y0, y1, y2, hys⟩ := row3 hy)
    go_ret2
    exact ⟨_, rfl, Sl.nil _ _ _, hu⟩
  rw [he] at cW
  have hgood := cut_good he
  obtain ⟨hG, hx, hlt⟩ := wrErr_zero.1 he
  have hlt' : latest l ≤ t := hlt
  have hpe := cutErr_eq he
  have hn4 := hG.1
  have cV : ∀ u, Calm w u → Calls Tryd.prog 19 #[.slice A l.length d, .agg #[.int .i64 p', .int .i64 o', .int .i64 f'], .int .i64 t] u fun e w' => e = .returned (.tuple #[.int .i64 (if hitB l (pos l (p', o', f') t) (p', o', f') t then (pos l (p', o', f') t : Int) - 1 else 0), .bool (hitB l (pos l (p', o', f') t) (p', o', f') t)]) ∧ Calm u w' :=
    fun u hu => liveRun_any A d l p' o' f' t u hn4 (hL.calm hu) hG.2.2
  have cC : ∀ u, Calm w u → Calls Tryd.prog 20 #[.slice A l.length d] u fun e w' => ∃ v, e = .returned v ∧ OwnR u.heap.size w' v l ∧ Calm u w' := fun u hu => clone_any A d l u hn4 (hL.calm hu)
  rcases hit_open hG (p', o', f') hlt' with ⟨h1, h2, hi, h3, h4⟩ | ⟨h1, h2⟩
  rotate_left
  · rw [h1] at cV
    simp only [Bool.false_eq_true, if_false] at cV
    have e1 : cutErr l (p', o', f') t = 4 := by rw [hpe, open_no h2]; rfl
    rw [e1, if_neg (by decide)]
    clear hgood hpe e1 h1 h2 hlt hlt' hx he hG hL
    go_enter Tryd.func13, Tryd.ntmps13
    go_wp2_with (first
      | (go_at_call 18; refine (cW _ hu).mono ?_; rintro e w1 ⟨rfl, hb1⟩; replace hy := (hb1.block (row3 hy).2.2.2).trans hy; replace hu := hu.call hb1; clear hb1; obtain ⟨y0, y1, y2, hys⟩ := row3 hy; clear cW)
      | (go_at_call 19; refine (cV _ hu).mono ?_; rintro e w1 ⟨rfl, hb1⟩; replace hy := (hb1.block (row3 hy).2.2.2).trans hy; replace hu := hu.call hb1; clear hb1; obtain ⟨y0, y1, y2, hys⟩ := row3 hy; clear cV))
    go_ret2
    exact ⟨_, rfl, Sl.nil _ _ _, hu⟩
  rw [h1, if_pos rfl, show (pos l (p', o', f') t : Int) - 1 = ((pos l (p', o', f') t - 1 : Nat) : Int) by omega] at cV
  have e1 : cutErr l (p', o', f') t = 0 := by rw [hpe, open_any hi h3]; rfl
  have e2 := cut_at (t := t) hi h3 h4
  rw [e1, if_pos rfl]
  rw [e2] at hgood ⊢
  generalize pos l (p', o', f') t - 1 = j at hi e2 hgood cV ⊢
  clear e1 e2 h1 h2 h3 h4 hpe hlt' hlt hx he hG
  obtain ⟨p, o, f, m, g, s, e4⟩ : ∃ p o f m g s, l[j] = ⟨p, o, f, m, g, s⟩ := ⟨_, _, _, _, _, _, rfl⟩
  have hjz : (j : Int) < (l.length : Int) := by omega
  have hj1 : (j : Int) + 1 ≤ 401 := by omega
  by_cases hm : m = t
  · rw [if_pos (by rw [e4]; exact hm)] at hgood ⊢
    have hwf := Lib.hid hgood.wf
    have E4 := Lib.hid e4
    clear hgood hL e4
    subst hm
    go_enter Tryd.func13, Tryd.ntmps13
    go_wp2_with (first
      | (go_at_call 18; refine (cW _ hu).mono ?_; rintro e w1 ⟨rfl, hb1⟩; replace hy := (hb1.block (row3 hy).2.2.2).trans hy; replace hu := hu.call hb1; clear hb1; obtain ⟨y0, y1, y2, hys⟩ := row3 hy; clear cW)
      | (go_at_call 19; refine (cV _ hu).mono ?_; rintro e w1 ⟨rfl, hb1⟩; replace hy := (hb1.block (row3 hy).2.2.2).trans hy; replace hu := hu.call hb1; clear hb1; obtain ⟨y0, y1, y2, hys⟩ := row3 hy; clear cV)
      | (go_at_call 20; refine (cC _ hu).mono ?_; rintro e w2 ⟨v, rfl, ho, hb1⟩; obtain ⟨g', cap, rfl⟩ := ho.some (by omega); have HO := Lib.hid ho; obtain ⟨⟨d0, d1, d2, d3, d4, d5⟩, hfz, hbg, hgl, _, hcn⟩ := ho.cell hi; rw [E4.out] at d3; have hu2 := hu.call hb1; have hw1 := Lib.hid hu.size; clear cC ho hfz d0 d1 d2 d4 d5 hb1)
      | (go_at_call 25; refine (delete_any _ g' j l.length cap l _ rfl hi hn4 HO.out).mono ?_; rintro e w3 ⟨v, rfl, ho9, hk9⟩; have HO9 := Lib.hid ho9; have hu9 := hk9 w hw1.out hu2; clear ho9 hk9))
    go_ret2
    exact ⟨_, rfl, HO9.out.sl hwf.out, hu9⟩
  · rw [if_neg (by rw [e4]; exact hm)] at hgood ⊢
    have hwf := Lib.hid hgood.wf
    have E4 := Lib.hid e4
    clear hgood hL e4
    go_enter Tryd.func13, Tryd.ntmps13
    go_wp2_with (first
      | (go_at_call 18; refine (cW _ hu).mono ?_; rintro e w1 ⟨rfl, hb1⟩; replace hy := (hb1.block (row3 hy).2.2.2).trans hy; replace hu := hu.call hb1; clear hb1; obtain ⟨y0, y1, y2, hys⟩ := row3 hy; clear cW)
      | (go_at_call 19; refine (cV _ hu).mono ?_; rintro e w1 ⟨rfl, hb1⟩; replace hy := (hb1.block (row3 hy).2.2.2).trans hy; replace hu := hu.call hb1; clear hb1; obtain ⟨y0, y1, y2, hys⟩ := row3 hy; clear cV)
      | (go_at_call 20; refine (cC _ hu).mono ?_; rintro e w2 ⟨v, rfl, ho, hb1⟩; obtain ⟨g', cap, rfl⟩ := ho.some (by omega); have HO := Lib.hid ho; obtain ⟨⟨d0, d1, d2, d3, d4, d5⟩, hfz, hbg, hgl, _, hcn⟩ := ho.cell hi; rw [E4.out] at d3; have hfz4 := hfz (j * 6 + 4); have hu2 := hu.call hb1; have hbw := Nat.le_trans hu.size hbg; clear cC ho hfz d0 d1 d2 d5 hb1))
    go_ret2
    exact ⟨_, rfl, (HO.out.set (x := { l[j] with g := t }) hi (by omega) (by rw [E4.out]; rfl)).sl hwf.out, hu2.setCell hbw _⟩
open Go.RowKit
def El.val (e : El) : Value := .agg #[.int .i64 e.p, .int .i64 e.o, .int .i64 e.f, .int .i64 e.m, .int .i64 e.g, .string e.s]
def AtEnd (x : El) (n : Int) (w : World) (e : Ending) (w' : World) : Prop := e = .returned (.tuple #[x.val, .int .i64 n]) ∧ Calm w w'
set_option maxHeartbeats 4000000 in
theorem runAt_any (A : Option Addr) (d : Nat) (l : List El) (p' o' f' t : Int) (w : World) (hn : l.length ≤ 9223372036854775807) (hL : Lies w A l) :
    Calls Tryd.prog 17 #[.slice A l.length d, .agg #[.int .i64 p', .int .i64 o', .int .i64 f'], .int .i64 t] w (AtEnd (atVal l (p', o', f') t) (atErr l (p', o', f') t) w) := by
  have cC : ∀ u, Calm w u → Calls Tryd.prog 29 #[.slice A l.length d] u fun e w' => e = .returned (.int .i64 (runErr l)) ∧ Calm u w' := fun u hu => runCheck_any A d l u hn (hL.calm hu)
  have hz : ((w.alloc (.cells #[.int .i64 p', .int .i64 o', .int .i64 f'] 32)).alloc (.cells #[.int .i64 0, .int .i64 0, .int .i64 0, .int .i64 0, .int .i64 0, .string { data := #[] }] 49)).heap[w.heap.size + 1]? = some (.cells #[.int .i64 0, .int .i64 0, .int .i64 0, .int .i64 0, .int .i64 0, .string { data := #[] }] 49 (0, 0)) := by simpa using heap_new (w.alloc (.cells #[.int .i64 p', .int .i64 o', .int .i64 f'] 32)) (.cells #[.int .i64 0, .int .i64 0, .int .i64 0, .int .i64 0, .int .i64 0, .string { data := #[] }] 49)
  have hy : ((w.alloc (.cells #[.int .i64 p', .int .i64 o', .int .i64 f'] 32)).alloc (.cells #[.int .i64 0, .int .i64 0, .int .i64 0, .int .i64 0, .int .i64 0, .string { data := #[] }] 49)).heap[w.heap.size]? = some (.cells #[.int .i64 p', .int .i64 o', .int .i64 f'] 32 (0, 0)) := heap_past _ (heap_new _ _)
  have hu := ((Calm.refl w).alloc (.cells #[.int .i64 p', .int .i64 o', .int .i64 f'] 32)).alloc (.cells #[.int .i64 0, .int .i64 0, .int .i64 0, .int .i64 0, .int .i64 0, .string { data := #[] }] 49)
  by_cases he : runErr l = 0
  rotate_left
  · have e1 : atErr l (p', o', f') t = runErr l := by simp [atErr, askErr1, he]
    have e2 : atVal l (p', o', f') t = zeroEl := by simp [atVal, askErr1, he]
    rw [e1, e2]
    have b1 : (runErr l != 0) = true := by simpa using he
    clear he e1 e2 hL
    go_enter Tryd.func17, Tryd.ntmps17
    go_wp2_with (go_at_call 29; refine (cC _ hu).mono ?_; rintro e w1 ⟨rfl, hb1⟩; replace hz := (hb1.block (row6 hz).2.2.2.2.2.2).trans hz; replace hy := (hb1.block (row3 hy).2.2.2).trans hy; replace hu := hu.call hb1; clear hb1; obtain ⟨y0, y1, y2, hys⟩ := row3 hy; obtain ⟨z0, z1, z2, z3, z4, z5, hzs⟩ := row6 hz; obtain ⟨f0, f1, f2, f3, f4, f5⟩ := free6 hz)
    have hr := set6 hz (.int .i64 0) (.int .i64 0) (.int .i64 0) (.int .i64 0) (.int .i64 0) (.string { data := #[] })
    have hu2 := hu.six (g := w.heap.size + 1) (by omega) (.int .i64 0) (.int .i64 0) (.int .i64 0) (.int .i64 0) (.int .i64 0) (.string { data := #[] })
    unfold World.six at hr hu2
    exact end_two rfl rfl _ _ _ _ _ _ _ rfl rfl rfl hr rfl ⟨rfl, hu2⟩
  have hG := runErr_zero.1 he
  rw [he] at cC
  by_cases hk : keyErr p' o' f' = 0
  rotate_left
  · have e1 : atErr l (p', o', f') t = keyErr p' o' f' := by simp [atErr, askErr1, he, kErr, hk]
    have e2 : atVal l (p', o', f') t = zeroEl := by simp [atVal, askErr1, he, kErr, hk]
    rw [e1, e2]
    have b1 : (keyErr p' o' f' != 0) = true := by simpa using hk
    clear he hk e1 e2 hL hG
    go_enter Tryd.func17, Tryd.ntmps17
    go_wp2_with (first
      | (go_at_call 29; refine (cC _ hu).mono ?_; rintro e w1 ⟨rfl, hb1⟩; replace hz := (hb1.block (row6 hz).2.2.2.2.2.2).trans hz; replace hy := (hb1.block (row3 hy).2.2.2).trans hy; replace hu := hu.call hb1; clear hb1; obtain ⟨y0, y1, y2, hys⟩ := row3 hy; obtain ⟨z0, z1, z2, z3, z4, z5, hzs⟩ := row6 hz; obtain ⟨f0, f1, f2, f3, f4, f5⟩ := free6 hz)
      | (go_at_call 30; refine (keyCheck_any _ _ _ _).mono ?_; rintro e w1 ⟨rfl, hb1⟩; replace hz := (hb1.block (row6 hz).2.2.2.2.2.2).trans hz; replace hy := (hb1.block (row3 hy).2.2.2).trans hy; replace hu := hu.call hb1; clear hb1; obtain ⟨y0, y1, y2, hys⟩ := row3 hy; obtain ⟨z0, z1, z2, z3, z4, z5, hzs⟩ := row6 hz; obtain ⟨f0, f1, f2, f3, f4, f5⟩ := free6 hz))
    have hr := set6 hz (.int .i64 0) (.int .i64 0) (.int .i64 0) (.int .i64 0) (.int .i64 0) (.string { data := #[] })
    have hu2 := hu.six (g := w.heap.size + 1) (by omega) (.int .i64 0) (.int .i64 0) (.int .i64 0) (.int .i64 0) (.int .i64 0) (.string { data := #[] })
    unfold World.six at hr hu2
    exact end_two rfl rfl _ _ _ _ _ _ _ rfl rfl rfl hr rfl ⟨rfl, hu2⟩
  have cK : ∀ u, Calls Tryd.prog 30 #[.agg #[.int .i64 p', .int .i64 o', .int .i64 f']] u fun e w' => e = .returned (.int .i64 0) ∧ Calm u w' := fun u => by rw [← hk]; exact keyCheck_any _ _ _ _
  have cV : ∀ u, Calm w u → Calls Tryd.prog 19 #[.slice A l.length d, .agg #[.int .i64 p', .int .i64 o', .int .i64 f'], .int .i64 t] u fun e w' => e = .returned (.tuple #[.int .i64 (if hitB l (pos l (p', o', f') t) (p', o', f') t then (pos l (p', o', f') t : Int) - 1 else 0), .bool (hitB l (pos l (p', o', f') t) (p', o', f') t)]) ∧ Calm u w' :=
    fun u hu => liveRun_any A d l p' o' f' t u hG.1 (hL.calm hu) hG.2.2
  rcases hitB_pos hG.2.2 (p', o', f') t with ⟨h1, hi, h2, h3, h4⟩ | ⟨h1, h2, h3⟩
  · have e1 : atErr l (p', o', f') t = 0 := by simp [atErr, askErr1, he, kErr, hk, h4]
    have e2 : atVal l (p', o', f') t = l[pos l (p', o', f') t - 1] := by simp [atVal, askErr1, he, kErr, hk, h4]
    rw [e1, e2]
    simp only [h1, if_true] at cV
    rw [show (pos l (p', o', f') t : Int) - 1 = ((pos l (p', o', f') t - 1 : Nat) : Int) by omega] at cV
    clear e1 e2 h1 h2 h3 h4
    generalize pos l (p', o', f') t - 1 = j at cV hi ⊢
    obtain ⟨b, q, p, o, f, m, g, s, rfl, hb, HE, hm, c0, c1, c2, c3, c4, c5⟩ := hL.get hi
    have e3 : Hid (l[j] = ⟨p, o, f, m, g, s⟩) := (List.getElem?_eq_some_iff.1 HE.out).2
    have hC : ∀ u, Calm w u → u.cell? ⟨b, q + j * 6, none⟩ = some (.int .i64 p) ∧ u.cell? ⟨b, q + j * 6 + 1, none⟩ = some (.int .i64 o) ∧ u.cell? ⟨b, q + j * 6 + 2, none⟩ = some (.int .i64 f) ∧ u.cell? ⟨b, q + j * 6 + 3, none⟩ = some (.int .i64 m) ∧ u.cell? ⟨b, q + j * 6 + 4, none⟩ = some (.int .i64 g) ∧ u.cell? ⟨b, q + j * 6 + 5, none⟩ = some (.string s) := fun u hu =>
      have hc := hu.facts.1
      ⟨(hc _ _ hb).trans c0, (hc _ _ hb).trans c1, (hc _ _ hb).trans c2, (hc _ _ hb).trans c3, (hc _ _ hb).trans c4, (hc _ _ hb).trans c5⟩
    have hn4 := hG.1
    have hiz : (j : Int) < (l.length : Int) := by omega
    clear he hk hL hG HE c0 c1 c2 c3 c4 c5
    go_enter Tryd.func17, Tryd.ntmps17
    go_wp2_with (first
      | (go_at_call 29; refine (cC _ hu).mono ?_; rintro e w1 ⟨rfl, hb1⟩; replace hz := (hb1.block (row6 hz).2.2.2.2.2.2).trans hz; replace hy := (hb1.block (row3 hy).2.2.2).trans hy; replace hu := hu.call hb1; clear hb1; obtain ⟨y0, y1, y2, hys⟩ := row3 hy; obtain ⟨z0, z1, z2, z3, z4, z5, hzs⟩ := row6 hz; obtain ⟨f0, f1, f2, f3, f4, f5⟩ := free6 hz)
      | (go_at_call 30; refine (cK _).mono ?_; rintro e w1 ⟨rfl, hb1⟩; replace hz := (hb1.block (row6 hz).2.2.2.2.2.2).trans hz; replace hy := (hb1.block (row3 hy).2.2.2).trans hy; replace hu := hu.call hb1; clear hb1; obtain ⟨y0, y1, y2, hys⟩ := row3 hy; obtain ⟨z0, z1, z2, z3, z4, z5, hzs⟩ := row6 hz; obtain ⟨f0, f1, f2, f3, f4, f5⟩ := free6 hz)
      | (go_at_call 19; refine (cV _ hu).mono ?_; rintro e w1 ⟨rfl, hb1⟩; replace hz := (hb1.block (row6 hz).2.2.2.2.2.2).trans hz; replace hy := (hb1.block (row3 hy).2.2.2).trans hy; replace hu := hu.call hb1; clear hb1; obtain ⟨y0, y1, y2, hys⟩ := row3 hy; obtain ⟨z0, z1, z2, z3, z4, z5, hzs⟩ := row6 hz; obtain ⟨f0, f1, f2, f3, f4, f5⟩ := free6 hz; obtain ⟨c0, c1, c2, c3, c4, c5⟩ := hC _ hu))
    have hr := set6 hz (.int .i64 p) (.int .i64 o) (.int .i64 f) (.int .i64 m) (.int .i64 g) (.string s)
    have hu2 := hu.six (g := w.heap.size + 1) (by omega) (.int .i64 p) (.int .i64 o) (.int .i64 f) (.int .i64 m) (.int .i64 g) (.string s)
    unfold World.six at hr hu2
    exact end_two rfl rfl _ _ _ _ _ _ _ rfl rfl rfl hr rfl ⟨by rw [e3.out]; rfl, hu2⟩
  · have e1 : atErr l (p', o', f') t = 4 := by simp [atErr, askErr1, he, kErr, hk, h2]
    have e2 : atVal l (p', o', f') t = zeroEl := by simp [atVal, askErr1, he, kErr, hk, h2]
    rw [e1, e2]
    simp only [h1] at cV
    clear e1 e2 h1 h2 h3 he hk hL hG
    go_enter Tryd.func17, Tryd.ntmps17
    go_wp2_with (first
      | (go_at_call 29; refine (cC _ hu).mono ?_; rintro e w1 ⟨rfl, hb1⟩; replace hz := (hb1.block (row6 hz).2.2.2.2.2.2).trans hz; replace hy := (hb1.block (row3 hy).2.2.2).trans hy; replace hu := hu.call hb1; clear hb1; obtain ⟨y0, y1, y2, hys⟩ := row3 hy; obtain ⟨z0, z1, z2, z3, z4, z5, hzs⟩ := row6 hz; obtain ⟨f0, f1, f2, f3, f4, f5⟩ := free6 hz)
      | (go_at_call 30; refine (cK _).mono ?_; rintro e w1 ⟨rfl, hb1⟩; replace hz := (hb1.block (row6 hz).2.2.2.2.2.2).trans hz; replace hy := (hb1.block (row3 hy).2.2.2).trans hy; replace hu := hu.call hb1; clear hb1; obtain ⟨y0, y1, y2, hys⟩ := row3 hy; obtain ⟨z0, z1, z2, z3, z4, z5, hzs⟩ := row6 hz; obtain ⟨f0, f1, f2, f3, f4, f5⟩ := free6 hz)
      | (go_at_call 19; refine (cV _ hu).mono ?_; rintro e w1 ⟨rfl, hb1⟩; replace hz := (hb1.block (row6 hz).2.2.2.2.2.2).trans hz; replace hy := (hb1.block (row3 hy).2.2.2).trans hy; replace hu := hu.call hb1; clear hb1; obtain ⟨y0, y1, y2, hys⟩ := row3 hy; obtain ⟨z0, z1, z2, z3, z4, z5, hzs⟩ := row6 hz; obtain ⟨f0, f1, f2, f3, f4, f5⟩ := free6 hz))
    have hr := set6 hz (.int .i64 0) (.int .i64 0) (.int .i64 0) (.int .i64 0) (.int .i64 0) (.string { data := #[] })
    have hu2 := hu.six (g := w.heap.size + 1) (by omega) (.int .i64 0) (.int .i64 0) (.int .i64 0) (.int .i64 0) (.int .i64 0) (.string { data := #[] })
    unfold World.six at hr hu2
    exact end_two rfl rfl _ _ _ _ _ _ _ rfl rfl rfl hr rfl ⟨rfl, hu2⟩
open Go.ChangeShapes Go.WideShapes Go.ChangeAt Go.RowKit
def drErr (l : List El) (p o : Int) (nm : ByteArray) (t : Int) : Int := if fsErr l p o nm 2147483647 = 0 then cutErr l ((fsX l p o nm 2147483647).p, (fsX l p o nm 2147483647).o, (fsX l p o nm 2147483647).f) t else fsErr l p o nm 2147483647
def drL (l : List El) (p o : Int) (nm : ByteArray) (t : Int) : List El := if drErr l p o nm t = 0 then cutR l ((fsX l p o nm 2147483647).p, (fsX l p o nm 2147483647).o, (fsX l p o nm 2147483647).f) t else []
set_option maxHeartbeats 4000000 in
theorem dirDrop_any (A : Option Addr) (c : Nat) (l : List El) (p o : Int) (nm : ByteArray) (t : Int) (w : World) (hn : l.length ≤ 9223372036854775807) (hL : Lies w A l) (hD : DirW w) (hs : nm.size ≤ maxLen) :
    Calls Tryd.prog 6 #[.slice A l.length c, .int .i64 p, .int .i64 o, .string nm, .int .i64 t] w (SlEnd (drL l p o nm t) (drErr l p o nm t) w) := by
  have cF := dirFirst_any A c l p o nm 2147483647 w hn hL hD hs
  have cC := fun (x : Ent) u (hu : Calm w u) => runCut_any A c l x.p x.o x.f t u hn (hL.calm hu)
  unfold FsEnd entV at cF
  unfold drL drErr
  generalize fsX l p o nm 2147483647 = x at *
  generalize fsErr l p o nm 2147483647 = E at *
  by_cases hE : E = 0
  rotate_left
  · rw [if_neg hE, if_neg hE]
    have b1 := ne_rd hE
    go_enter Tryd.func6, Tryd.ntmps6
    go_wp2_with (go_at_call 8; (with_reducible refine cF.mono ?_); rintro e w1 ⟨rfl, hb⟩; have hu := hb.alloc (.cells #[.int .i64 x.p, .int .i64 x.o, .int .i64 x.f, .string x.nm, .int .i64 x.of] 34); clear hb)
    go_ret2
    exact ⟨_, rfl, Sl.nil _ _ _, hu⟩
  · subst hE
    rw [if_pos rfl]
    have cC2 := fun u hu => cC x u hu
    unfold SlEnd at cC2 ⊢
    generalize (if cutErr l (x.p, x.o, x.f) t = 0 then cutR l (x.p, x.o, x.f) t else []) = L at cC2 ⊢
    generalize cutErr l (x.p, x.o, x.f) t = E2 at cC2 ⊢
    clear cC
    go_enter Tryd.func6, Tryd.ntmps6
    go_wp2_with (first
      | (go_at_call 8; (with_reducible refine cF.mono ?_); rintro e w1 ⟨rfl, hb⟩; have hu := hb.alloc (.cells #[.int .i64 x.p, .int .i64 x.o, .int .i64 x.f, .string x.nm, .int .i64 x.of] 34); clear hb)
      | (go_at_call 13; (with_reducible refine (cC2 _ hu).mono ?_); rintro e w2 ⟨v, rfl, hs2, hb2⟩; have HS := Lib.hid hs2; replace hu := hu.call hb2; clear hb2 hs2 cC2))
    go_ret2
    exact ⟨_, rfl, HS.out, hu⟩
theorem results_kb {fn : Func} {p q : Tmp} (h : fn.results = #[.cell p 32, .tmp q]) (tmps : Array Value) (w : World) (g : Nat) (t : TypeId) (cs : Array Value) (v : Value) (fr : Nat × Nat)
    (hp : tmps.getD p undef = .pointer (some ⟨g, 0, none⟩)) (hq : tmps.getD q undef = v) (hg : w.heap[g]? = some (.cells cs t fr)) (hsz : cs.size = 3) :
    (results fn tmps).run Tryd.prog w = .ok (.tuple #[.agg cs, v]) w := by
  have hp' : tmps[p]?.getD undef = .pointer (some ⟨g, 0, none⟩) := by simpa using hp
  have hq' : tmps[q]?.getD undef = v := by simpa using hq
  have hi : (Tryd.prog.info? 32).map (·.size) = some cs.size := by rw [hsz]; kernel_rfl
  simp [results, h, hp', hq', asAddr, run_loadVar_row w g t 32 cs fr _ hg Tryd.underlying32 rfl hi]
theorem end_kb {P : Program} {fn : Func} {p q : Tmp} {Q : Ending → World → Prop} (hP : P = Tryd.prog) (h : fn.results = #[.cell p 32, .tmp q]) (a : Act) (w : World) (g : Nat) (t : TypeId) (cs : Array Value) (v : Value) (fr : Nat × Nat) (hd : a.defers = [])
    (hp : a.tmps.getD p undef = .pointer (some ⟨g, 0, none⟩)) (hq : a.tmps.getD q undef = v) (hg : w.heap[g]? = some (.cells cs t fr)) (hsz : cs.size = 3) (hQ : Q (.returned (.tuple #[.agg cs, v])) w) : bodyPost P fn Q .ret a w := by
  subst hP
  exact bodyPost_ret (v := .tuple #[.agg cs, v]) (results_kb h a.tmps w g t cs v fr hp hq hg hsz) hd hQ
theorem row3D {w : World} {g t : Nat} {a b c : Value} {fr : Nat × Nat} (h : w.heap[g]? = some (.cells #[a, b, c] t fr)) : w.cell? ⟨g, 0, none⟩ = some a ∧ w.cell? ⟨g, 1, none⟩ = some b ∧ w.cell? ⟨g, 2, none⟩ = some c ∧ g < w.heap.size :=
 ⟨cell_of_row _ _ 0 _ _ _ h, cell_of_row _ _ 1 _ _ _ h, cell_of_row _ _ 2 _ _ _ h, (Array.getElem?_eq_some_iff.1 h).1⟩
theorem free3D {w : World} {g t : Nat} {cs : Array Value} (h : w.heap[g]? = some (.cells cs t (0, 0))) : w.frozen? ⟨g, 0, none⟩ = false ∧ w.frozen? ⟨g, 1, none⟩ = false ∧ w.frozen? ⟨g, 2, none⟩ = false :=
 ⟨frozen_of_row _ _ _ _ _ h, frozen_of_row _ _ _ _ _ h, frozen_of_row _ _ _ _ _ h⟩
def World.threeD (w : World) (g : Nat) (b0 b1 b2 : Value) : World := ((w.setCell ⟨g, 0, none⟩ b0).setCell ⟨g, 1, none⟩ b1).setCell ⟨g, 2, none⟩ b2
theorem set3D {w : World} {g t : Nat} {a0 a1 a2 : Value} (h : w.heap[g]? = some (.cells #[a0, a1, a2] t (0, 0))) (b0 b1 b2 : Value) : (World.threeD w g b0 b1 b2).heap[g]? = some (.cells #[b0, b1, b2] t (0, 0)) := by
 have h1 := heap_setCell_same w g 0 _ t b0 h
 have h2 := heap_setCell_same _ g 1 _ t b1 h1
 exact heap_setCell_same _ g 2 _ t b2 h2
theorem Calm.threeD {a w : World} (h : Calm a w) {g : Nat} (hg : a.heap.size ≤ g) (b0 b1 b2 : Value) : Calm a (World.threeD w g b0 b1 b2) :=
 ((h.setCell (p := ⟨g, 0, none⟩) hg b0).setCell (p := ⟨g, 1, none⟩) hg b1).setCell (p := ⟨g, 2, none⟩) hg b2
def freeI (l : List El) (p o : Int) (nm : ByteArray) (i : Nat) : Bool := decide (atErr l (p, o, slotN nm + i) 2147483647 = 4)
def roomI (l : List El) (p o : Int) (nm : ByteArray) : Option Nat := (List.range 8).find? (freeI l p o nm)
theorem room_some {l : List El} {p o : Int} {nm : ByteArray} {k : Nat} (hk : k < 8) (h : ∀ j, j < k → freeI l p o nm j = false) (hq : freeI l p o nm k = true) : roomI l p o nm = some k := by
 unfold roomI
 have e : List.range 8 = List.range k ++ k :: (List.range (7 - k)).map (k + 1 + ·) := by
  have h1 : (8 : Nat) = k + (8 - k) := by omega
  rw [h1, List.range_add]
  congr 1
  rw [show 8 - k = (7 - k) + 1 by omega, List.range_succ_eq_map, List.map_cons, List.map_map, Nat.add_zero]
  congr 1
  refine List.map_congr_left fun a _ => ?_
  simp only [Function.comp]; omega
 rw [e, List.find?_append, List.find?_eq_none.2 (fun y hy => by rw [h y (List.mem_range.1 hy)]; decide), Option.none_or, List.find?_cons_of_pos hq]
theorem room_none {l : List El} {p o : Int} {nm : ByteArray} (h : ∀ j, j < 8 → freeI l p o nm j = false) : roomI l p o nm = none :=
 List.find?_eq_none.2 fun y hy => by rw [h y (List.mem_range.1 hy)]; decide
def RmE (l : List El) (p o : Int) (nm : ByteArray) (w : World) (e : Ending) (w' : World) : Prop := e = .returned (match roomI l p o nm with
 |some i => .tuple #[.agg #[.int .i64 p, .int .i64 o, .int .i64 (slotN nm + i)], .bool true]
 |none => .tuple #[.agg #[.int .i64 0, .int .i64 0, .int .i64 0], .bool false]) ∧ Calm w w'
set_option maxHeartbeats 8000000 in
theorem dirRoom_any (A : Option Addr) (c : Nat) (l : List El) (p o : Int) (nm : ByteArray) (w : World) (hn : l.length ≤ 9223372036854775807) (hL : Lies w A l) (hs : nm.size ≤ maxLen) :
    Calls Tryd.prog 10 #[.slice A l.length c, .int .i64 p, .int .i64 o, .string nm] w (RmE l p o nm w) := by
  have cS := fun u => slot_any nm u hs
  have cA := fun (k : Nat) u (hu : Calm w u) => runAt_any A c l p o (slotN nm + k) 2147483647 u hn (hL.calm hu)
  unfold AtEnd El.val at cA
  have hsb := slotN_bounds nm
  have hz := heap_new w (.cells #[.int .i64 0, .int .i64 0, .int .i64 0] 32)
  have hu := (Calm.refl w).alloc (.cells #[.int .i64 0, .int .i64 0, .int .i64 0] 32)
  obtain ⟨Post, hPost⟩ : ∃ P, P = RmE l p o nm w := ⟨_, rfl⟩
  rw [← hPost]
  have HPS : Hid (∀ k : Nat, k < 8 → (∀ j, j < k → freeI l p o nm j = false) → freeI l p o nm k = true → ∀ e w', e = .returned (.tuple #[.agg #[.int .i64 p, .int .i64 o, .int .i64 (slotN nm + k)], .bool true]) → Calm w w' → Post e w') := show ∀ _, _ from fun k h1 h2 h3 e w' h4 h5 => by
    rw [hPost]; unfold RmE; rw [room_some h1 h2 h3]; exact ⟨h4, h5⟩
  have HPN : Hid ((∀ j, j < 8 → freeI l p o nm j = false) → ∀ e w', e = .returned (.tuple #[.agg #[.int .i64 0, .int .i64 0, .int .i64 0], .bool false]) → Calm w w' → Post e w') := show _ → _ from fun h e w' h4 h5 => by
    rw [hPost]; unfold RmE; rw [room_none h]; exact ⟨h4, h5⟩
  have hfr : ∀ k, freeI l p o nm k = decide (atErr l (p, o, slotN nm + k) 2147483647 = 4) := fun _ => rfl
  have HFR := Lib.hid hfr
  clear hPost hfr hL
  generalize slotN nm = SL at *
  generalize freeI l p o nm = FI at *
  go_enter Tryd.func10, Tryd.ntmps10
  go_upto_region 1 with fail
  generalize (w.alloc (.cells #[.int .i64 0, .int .i64 0, .int .i64 0] 32)) = w2 at hz hu ⊢
  have HZ := Lib.hid hz
  clear hz
  go_wp2_with fail
  go_loopw [14] (fun i wr => ∃ k : Nat, k ≤ 8 ∧ i = .int .i64 k ∧ Calm w wr ∧ Hid (wr.heap[w.heap.size]? = some (.cells #[.int .i64 0, .int .i64 0, .int .i64 0] 32 (0, 0))) ∧ Hid (∀ j, j < k → FI j = false)) (fun i _ => 8 - (intOf i).toNat)
  case atStart => exact ⟨0, Nat.zero_le _, rfl, hu, HZ, show ∀ _, _ from fun j hj => absurd hj (Nat.not_lt_zero _)⟩
  case round =>
    obtain ⟨k, hk, rfl, hu, HZ, HK⟩ := hrel
    by_cases hlt : k < 8
    rotate_left
    · have hK := fun j (hj : j < 8) => HK.out j (by omega)
      obtain ⟨z0, z1, z2, zl⟩ := row3D HZ.out
      obtain ⟨q0, q1, q2⟩ := free3D HZ.out
      have HK8 : Hid (∀ j, j < 8 → FI j = false) := show ∀ _, _ from hK
      clear hK
      go_wp2_with fail
      (try simp only [Exit.inBlock, Exit.then])
      refine end_kb (p := 8) (q := 9) rfl rfl _ _ w.heap.size _ #[.int .i64 0, .int .i64 0, .int .i64 0] _ _ rfl rfl rfl (set3D HZ.out _ _ _) rfl ?_
      exact HPN.out HK8.out _ _ rfl (hu.threeD (Nat.le_refl _) _ _ _)
    have hzl : w.heap.size < wr.heap.size := (Array.getElem?_eq_some_iff.1 HZ.out).1
    have hF := HFR.out k
    have cA1 := fun u hu => cA k u hu
    generalize atErr l (p, o, SL + (k : Int)) 2147483647 = E at hF cA1
    generalize atVal l (p, o, SL + (k : Int)) 2147483647 = V at cA1
    have hu1 := hu.alloc (.cells #[.int .i64 p, .int .i64 o, .int .i64 (SL + k)] 32)
    replace HZ := Lib.hid ((((Calm.refl wr).alloc (.cells #[.int .i64 p, .int .i64 o, .int .i64 (SL + k)] 32)).block hzl).trans HZ.out)
    have hy := heap_new wr (.cells #[.int .i64 p, .int .i64 o, .int .i64 (SL + k)] 32)
    go_upto_region 5 with (go_at_call 16; (with_reducible refine (cS _).mono ?_); rintro e w5 ⟨rfl, rfl⟩)
    generalize hgg : wr.heap.size = gg at *
    generalize (wr.alloc (.cells #[.int .i64 p, .int .i64 o, .int .i64 (SL + k)] 32)) = w3 at hu1 HZ hy ⊢
    have hzl3 : w.heap.size < w3.heap.size := (Array.getElem?_eq_some_iff.1 HZ.out).1
    have hyl3 : gg < w3.heap.size := (Array.getElem?_eq_some_iff.1 hy).1
    obtain ⟨y0, y1, y2, _⟩ := row3D hy
    have HY := Lib.hid hy
    clear hy hu
    go_upto_region 6 with (go_at_call 17; (with_reducible refine (cA1 _ hu1).mono ?_); rintro e w4 ⟨rfl, hb⟩; replace hu1 := (hu1.call hb).alloc (.cells #[.int .i64 V.p, .int .i64 V.o, .int .i64 V.f, .int .i64 V.m, .int .i64 V.g, .string V.s] 49); replace HZ := Lib.hid ((((Calm.refl _).alloc (.cells #[.int .i64 V.p, .int .i64 V.o, .int .i64 V.f, .int .i64 V.m, .int .i64 V.g, .string V.s] 49)).block (Nat.lt_of_lt_of_le hzl3 hb.size)).trans ((hb.block hzl3).trans HZ.out)); replace HY := Lib.hid ((((Calm.refl _).alloc (.cells #[.int .i64 V.p, .int .i64 V.o, .int .i64 V.f, .int .i64 V.m, .int .i64 V.g, .string V.s] 49)).block (Nat.lt_of_lt_of_le hyl3 hb.size)).trans ((hb.block hyl3).trans HY.out)); clear hb cA1)
    clear y0 y1 y2
    generalize (w4.alloc (.cells #[.int .i64 V.p, .int .i64 V.o, .int .i64 V.f, .int .i64 V.m, .int .i64 V.g, .string V.s] 49)) = w7 at hu1 HZ HY ⊢
    by_cases hE : E = 4
    · have hQ : FI k = true := hF.trans (decide_eq_true hE)
      subst hE
      obtain ⟨y0, y1, y2, _⟩ := row3D HY.out
      obtain ⟨z0, z1, z2, zl⟩ := row3D HZ.out
      obtain ⟨q0, q1, q2⟩ := free3D HZ.out
      go_wp2_with fail
      (try simp only [Exit.inBlock, Exit.then])
      refine end_kb (p := 8) (q := 9) rfl rfl _ _ w.heap.size _ #[.int .i64 p, .int .i64 o, .int .i64 (SL + k)] _ _ rfl rfl rfl (set3D HZ.out _ _ _) rfl ?_
      exact HPS.out k hlt HK.out hQ _ _ rfl (hu1.threeD (Nat.le_refl _) _ _ _)
    · have hQ : FI k = false := hF.trans (decide_eq_false hE)
      have b1 : (E == 4) = false := by simpa using hE
      have HK2 : Hid (∀ j, j < k + 1 → FI j = false) := show ∀ _, _ from fun j h => by
        rcases Nat.lt_or_ge j k with h5 | h5
        · exact HK.out j h5
        · obtain rfl : j = k := by omega
          exact hQ
      clear hQ hF HK
      go_wp2_with fail
      go_roundw
      case rel => exact ⟨k + 1, by omega, by go_num, hu1, HZ, HK2⟩
      case measure => simp [intOf]; omega
open Go.RowKit
set_option maxHeartbeats 16000000 in
theorem runPut_any (A : Option Addr) (d : Nat) (l : List El) (p' o' f' : Int) (s' : ByteArray) (t : Int) (w : World) (hn : l.length ≤ 9223372036854775807) (hL : Lies w A l) :
    Calls Tryd.prog 11 #[.slice A l.length d, .agg #[.int .i64 p', .int .i64 o', .int .i64 f'], .string s', .int .i64 t] w (SlEnd (if putErr l (p', o', f') s' t = 0 then putR l (p', o', f') s' t else []) (putErr l (p', o', f') s' t) w) := by
  have hy : ((w.alloc (.cells #[.int .i64 p', .int .i64 o', .int .i64 f'] 32)).alloc (.cells #[.int .i64 p', .int .i64 o', .int .i64 f', .int .i64 t, .int .i64 0, .string s'] 49)).heap[w.heap.size]? = some (.cells #[.int .i64 p', .int .i64 o', .int .i64 f'] 32 (0, 0)) := heap_past _ (heap_new _ _)
  have hz : ((w.alloc (.cells #[.int .i64 p', .int .i64 o', .int .i64 f'] 32)).alloc (.cells #[.int .i64 p', .int .i64 o', .int .i64 f', .int .i64 t, .int .i64 0, .string s'] 49)).heap[w.heap.size + 1]? = some (.cells #[.int .i64 p', .int .i64 o', .int .i64 f', .int .i64 t, .int .i64 0, .string s'] 49 (0, 0)) := by simpa using heap_new (w.alloc (.cells #[.int .i64 p', .int .i64 o', .int .i64 f'] 32)) (.cells #[.int .i64 p', .int .i64 o', .int .i64 f', .int .i64 t, .int .i64 0, .string s'] 49)
  have hu := ((Calm.refl w).alloc (.cells #[.int .i64 p', .int .i64 o', .int .i64 f'] 32)).alloc (.cells #[.int .i64 p', .int .i64 o', .int .i64 f', .int .i64 t, .int .i64 0, .string s'] 49)
  have cW : ∀ u, Calm w u → Calls Tryd.prog 18 #[.slice A l.length d, .agg #[.int .i64 p', .int .i64 o', .int .i64 f', .int .i64 t, .int .i64 0, .string s']] u fun e w' => e = .returned (.int .i64 (wrErr l (fresh (p', o', f') s' t))) ∧ Calm u w' := fun u hu => checkWrite_any A d l p' o' f' t 0 s' u hn (hL.calm hu)
  by_cases he : wrErr l (fresh (p', o', f') s' t) = 0
  rotate_left
  · have e1 : putErr l (p', o', f') s' t = wrErr l (fresh (p', o', f') s' t) := by unfold putErr; rw [if_neg he]
    rw [e1, if_neg he]
    have b1 : (wrErr l (fresh (p', o', f') s' t) != 0) = true := by simpa using he
    generalize wrErr l (fresh (p', o', f') s' t) = x at b1 cW
    clear he e1 hL
    go_enter Tryd.func11, Tryd.ntmps11
    go_wp2_with (go_at_call 18; refine (cW _ hu).mono ?_; rintro e w1 ⟨rfl, hb1⟩; replace hy := (hb1.block (row3 hy).2.2.2).trans hy; replace hz := (hb1.block (row6 hz).2.2.2.2.2.2).trans hz; replace hu := hu.call hb1; clear hb1; obtain ⟨y0, y1, y2, hys⟩ := row3 hy; obtain ⟨z0, z1, z2, z3, z4, z5, hzs⟩ := row6 hz)
    go_ret2
    exact ⟨_, rfl, Sl.nil _ _ _, hu⟩
  rw [he] at cW
  have hgood := fun hp : putErr l (p', o', f') s' t = 0 => put_good he hp
  obtain ⟨hG, hx, hlt⟩ := wrErr_zero.1 he
  obtain ⟨q1, q2, q3⟩ := sizes he
  have hpe : putErr l (p', o', f') s' t = if l.any (isSame (p', o', f') t) then 0 else if 400 ≤ l.length then 8 else 0 := by unfold putErr; rw [if_pos he]
  have hlt' : latest l ≤ t := hlt
  have hn4 := hG.1
  have cV : ∀ u, Calm w u → Calls Tryd.prog 19 #[.slice A l.length d, .agg #[.int .i64 p', .int .i64 o', .int .i64 f'], .int .i64 t] u fun e w' => e = .returned (.tuple #[.int .i64 (if hitB l (pos l (p', o', f') t) (p', o', f') t then (pos l (p', o', f') t : Int) - 1 else 0), .bool (hitB l (pos l (p', o', f') t) (p', o', f') t)]) ∧ Calm u w' :=
    fun u hu => liveRun_any A d l p' o' f' t u hn4 (hL.calm hu) hG.2.2
  have cC : ∀ u, Calm w u → Calls Tryd.prog 20 #[.slice A l.length d] u fun e w' => ∃ v, e = .returned v ∧ OwnR u.heap.size w' v l ∧ Calm u w' := fun u hu => clone_any A d l u hn4 (hL.calm hu)
  rcases hit_open hG (p', o', f') hlt' with ⟨h1, h2, hi, h3, h4⟩ | ⟨h1, h2⟩
  · rw [h1, if_pos rfl, show (pos l (p', o', f') t : Int) - 1 = ((pos l (p', o', f') t - 1 : Nat) : Int) by omega] at cV
    have hpos : pos l (p', o', f') t = (pos l (p', o', f') t - 1) + 1 := by omega
    by_cases hm : l[pos l (p', o', f') t - 1].m = t
    · obtain ⟨e1, e2⟩ := put_same (s := s') hi h3 h4 hm
      have e3 : putErr l (p', o', f') s' t = 0 := by rw [hpe, e1]; rfl
      have hgd := hgood e3
      rw [e3, if_pos rfl]
      rw [e2] at hgd ⊢
      generalize pos l (p', o', f') t - 1 = j at hi hm hgd cV ⊢
      clear e1 e2 e3 h1 h2 h3 h4 hpe hgood hpos hlt' hlt hx he hG
      have hwf := hgd.wf
      obtain ⟨b, q, p, o, f, m, g, s, rfl, hb, HE, hm', c0, c1, c2, c3, c4, c5⟩ := hL.get hi
      have e4 : l[j] = ⟨p, o, f, m, g, s⟩ := (List.getElem?_eq_some_iff.1 HE.out).2
      rw [e4] at hm
      simp only at hm
      subst hm
      have hC3 : ∀ u, Calm w u → u.cell? ⟨b, q + j * 6 + 3, none⟩ = some (.int .i64 m) := fun u hu => (hu.facts.1 _ _ hb).trans c3
      have hjz : (j : Int) < (l.length : Int) := by omega
      have E4 := Lib.hid e4
      clear c0 c1 c2 c3 c4 c5 HE e4 hL
      go_enter Tryd.func11, Tryd.ntmps11
      go_wp2_with (first
        | (go_at_call 18; refine (cW _ hu).mono ?_; rintro e w1 ⟨rfl, hb1⟩; replace hy := (hb1.block (row3 hy).2.2.2).trans hy; replace hz := (hb1.block (row6 hz).2.2.2.2.2.2).trans hz; replace hu := hu.call hb1; clear hb1; obtain ⟨y0, y1, y2, hys⟩ := row3 hy; obtain ⟨z0, z1, z2, z3, z4, z5, hzs⟩ := row6 hz; clear cW)
        | (go_at_call 19; refine (cV _ hu).mono ?_; rintro e w1 ⟨rfl, hb1⟩; replace hy := (hb1.block (row3 hy).2.2.2).trans hy; replace hz := (hb1.block (row6 hz).2.2.2.2.2.2).trans hz; replace hu := hu.call hb1; clear hb1; obtain ⟨y0, y1, y2, hys⟩ := row3 hy; obtain ⟨z0, z1, z2, z3, z4, z5, hzs⟩ := row6 hz; have c3 := hC3 _ hu; clear cV hC3)
        | (go_at_call 20; refine (cC _ hu).mono ?_; rintro e w2 ⟨v, rfl, ho, hb1⟩; obtain ⟨g', cap, rfl⟩ := ho.some (by omega); have HO := Lib.hid ho; obtain ⟨⟨d0, d1, d2, d3, d4, d5⟩, hfz, hbg, hgl, _, hcn⟩ := ho.cell hi; have hfz5 := hfz (j * 6 + 5); have hu2 := hu.call hb1; have hbw := Nat.le_trans hu.size hbg; clear cC ho hfz))
      go_ret2
      exact ⟨_, rfl, (HO.out.set (x := { l[j] with s := s' }) hi (by omega) (by rw [E4.out]; rfl)).sl hwf, hu2.setCell hbw _⟩
    · obtain ⟨e1, e2, e3, e4⟩ := put_new (s := s') hG hi h3 h4 hm hlt' q2 q1
      have hpe2 : putErr l (p', o', f') s' t = if 400 ≤ l.length then 8 else 0 := by rw [hpe, e1]; rfl
      have hm2 : ¬ (l[pos l (p', o', f') t - 1].m = t) := hm
      obtain ⟨b, q, p, o, f, m, g, s, rfl, hb, HE, hm', c0, c1, c2, c3, c4, c5⟩ := hL.get hi
      have e5 : l[pos l (p', o', f') t - 1] = ⟨p, o, f, m, g, s⟩ := (List.getElem?_eq_some_iff.1 HE.out).2
      rw [e5] at hm2
      simp only at hm2
      have hC3 : ∀ u, Calm w u → u.cell? ⟨b, q + (pos l (p', o', f') t - 1) * 6 + 3, none⟩ = some (.int .i64 m) := fun u hu => (hu.facts.1 _ _ hb).trans c3
      have E5 := Lib.hid e5
      clear c0 c1 c2 c3 c4 c5 HE e5 hL
      by_cases hfull : 400 ≤ l.length
      · rw [if_pos hfull] at hpe2
        rw [hpe2, if_neg (by decide)]
        have hl4 : (l.length : Int) = 400 := by omega
        have hjz : ((pos l (p', o', f') t - 1 : Nat) : Int) < (l.length : Int) := by omega
        generalize pos l (p', o', f') t - 1 = j at *
        clear hgood hpe hpe2 e1 e2 e3 e4 h1 h2 h3 h4 hpos hlt hlt' hx he hG hm
        clear hfull hn4
        go_enter Tryd.func11, Tryd.ntmps11
        go_wp2_with (first
          | (go_at_call 18; refine (cW _ hu).mono ?_; rintro e w1 ⟨rfl, hb1⟩; replace hy := (hb1.block (row3 hy).2.2.2).trans hy; replace hz := (hb1.block (row6 hz).2.2.2.2.2.2).trans hz; replace hu := hu.call hb1; clear hb1; obtain ⟨y0, y1, y2, hys⟩ := row3 hy; obtain ⟨z0, z1, z2, z3, z4, z5, hzs⟩ := row6 hz; clear cW)
          | (go_at_call 19; refine (cV _ hu).mono ?_; rintro e w1 ⟨rfl, hb1⟩; replace hy := (hb1.block (row3 hy).2.2.2).trans hy; replace hz := (hb1.block (row6 hz).2.2.2.2.2.2).trans hz; replace hu := hu.call hb1; clear hb1; obtain ⟨y0, y1, y2, hys⟩ := row3 hy; obtain ⟨z0, z1, z2, z3, z4, z5, hzs⟩ := row6 hz; have c3 := hC3 _ hu; clear cV hC3))
        go_ret2
        exact ⟨_, rfl, Sl.nil _ _ _, hu⟩
      · rw [if_neg hfull] at hpe2
        have hgd := hgood hpe2
        rw [hpe2, if_pos rfl]
        rw [e4] at hgd ⊢
        have hl4 : ¬ ((l.length : Int) = 400) := by omega
        have hpl := pos_le l (p', o', f') t
        have HP := Lib.hid hpos
        clear hgood hpe hpe2 e1 e4 h1 h2 h3 h4 hpos hlt hlt' hx he hG hm
        generalize hpj : pos l (p', o', f') t - 1 = j at *
        have hjz : (j : Int) < (l.length : Int) := by omega
        have hq : (l.set j { l[j] with g := t }) = l.set j ⟨p, o, f, m, t, s⟩ := by rw [E5.out]
        rw [hq] at hgd e2 e3 ⊢
        clear hq hpj
        go_enter Tryd.func11, Tryd.ntmps11
        go_upto_region 15 with (first
          | (go_at_call 18; refine (cW _ hu).mono ?_; rintro e w1 ⟨rfl, hb1⟩; replace hy := (hb1.block (row3 hy).2.2.2).trans hy; replace hz := (hb1.block (row6 hz).2.2.2.2.2.2).trans hz; replace hu := hu.call hb1; clear hb1; obtain ⟨y0, y1, y2, hys⟩ := row3 hy; obtain ⟨z0, z1, z2, z3, z4, z5, hzs⟩ := row6 hz; clear cW)
          | (go_at_call 19; refine (cV _ hu).mono ?_; rintro e w1 ⟨rfl, hb1⟩; replace hy := (hb1.block (row3 hy).2.2.2).trans hy; replace hz := (hb1.block (row6 hz).2.2.2.2.2.2).trans hz; replace hu := hu.call hb1; clear hb1; obtain ⟨y0, y1, y2, hys⟩ := row3 hy; obtain ⟨z0, z1, z2, z3, z4, z5, hzs⟩ := row6 hz; have c3 := hC3 _ hu; clear cV hC3)
          | (go_at_call 20; refine (cC _ hu).mono ?_; rintro e w2 ⟨v, rfl, ho, hb1⟩; obtain ⟨g', cap, rfl⟩ := ho.some (by omega); have HO := Lib.hid ho; obtain ⟨⟨d0, d1, d2, d3, d4, d5⟩, hfz, hbg, hgl, _, hcn⟩ := ho.cell hi; have hfz4 := hfz (j * 6 + 4); have hz2 := (hb1.block (row6 hz).2.2.2.2.2.2).trans hz; have hu2 := hu.call hb1; have hbw := Nat.le_trans hu.size hbg; clear cC ho hfz))
        have HO2 := Lib.hid (HO.out.set (x := ⟨p, o, f, m, t, s⟩) hi (by omega : 4 < 6) (by rw [E5.out]; rfl : _ = l[j].cells.set 4 (.int .i64 t)))
        have hz3 := (Below.heap_setCell w2 ⟨g', j * 6 + 4, none⟩ (.int .i64 t) (w.heap.size + 1) (by show _ ≠ g'; omega)).trans hz2
        have hu3 := hu2.setCell (p := ⟨g', j * 6 + 4, none⟩) hbw (.int .i64 t)
        have hwl : w1.heap.size ≤ (w2.setCell ⟨g', j * 6 + 4, none⟩ (.int .i64 t)).heap.size := by simp; omega
        generalize w2.setCell ⟨g', j * 6 + 4, none⟩ (.int .i64 t) = w3 at HO2 hz3 hu3 hwl ⊢
        have hwf := e2.wf
        have hL1 := (HO2.out.reads hwf).2
        have cF : ∀ u, Calm w3 u → Calls Tryd.prog 22 #[.slice (some ⟨g', 0, none⟩) l.length cap, .agg #[.int .i64 p', .int .i64 o', .int .i64 f', .int .i64 t]] u fun e w' => e = .returned (.int .i64 (pos l (p', o', f') t)) ∧ Calm u w' := fun u hu => by
          have h := after_any (some ⟨g', 0, none⟩) cap (l.set j ⟨p, o, f, m, t, s⟩) p' o' f' t u (by rw [List.length_set]; exact hn4) (hL1.calm hu) e2.2.2
          rw [List.length_set, show pos (l.set j ⟨p, o, f, m, t, s⟩) (p', o', f') t = pos l (p', o', f') t from by rw [← E5.out] at *; exact e3] at h
          exact h
        have cI : ∀ u h, Calm w3 u → w3.drew.heap.size ≤ h → u.heap[h]? = some (.cells #[.int .i64 p', .int .i64 o', .int .i64 f', .int .i64 t, .int .i64 0, .string s'] 49 (0, 0)) → Calls Tryd.prog 21 #[.slice (some ⟨g', 0, none⟩) l.length cap, .int .i64 (pos l (p', o', f') t), .slice (some ⟨h, 0, none⟩) 1 1] u (OwnEnd w1.heap.size (insAt (l.set j ⟨p, o, f, m, t, s⟩) (pos l (p', o', f') t) (fresh (p', o', f') s' t)) u) := fun u h hv hgh0 hh =>
          have hgh : g' < h := Nat.lt_of_lt_of_le (HO2.out.lt g' rfl).2 hgh0
          insert_any w1.heap.size h (pos l (p', o', f') t) _ (l.set j ⟨p, o, f, m, t, s⟩) p' o' f' t 0 s' u (by rw [List.length_set]; exact hpl) (by rw [List.length_set]; exact hn4) (HO2.out.calm hv) (Nat.le_trans hwl hv.size) hh (fun e => Nat.ne_of_lt hgh (by simpa [Value.ownBlock] using e))
        have hwf2 := Lib.hid hgd.wf
        have hw1 := hu.size
        clear hgd e2 e3 HP hpl E5 HO HO2 hL1 hwf d0 d1 d2 d3 d4 d5 hfz4 hz2 hu2 hwl y0 y1 y2 hys z0 z1 z2 z3 z4 z5 hzs hy hz c3
        generalize pos l (p', o', f') t = P at *
        generalize insAt (l.set j ⟨p, o, f, m, t, s⟩) P (fresh (p', o', f') s' t) = R at *
        obtain ⟨z0, z1, z2, z3, z4, z5, hzs⟩ := row6 hz3
        have HW1 := Lib.hid hw1
        clear hw1 q1 q2 q3 hn hn4 hm2 hb hm' hfull hl4 hjz hi hb1 hbg hgl hcn hbw hz3
        refine wp_region_plan_tail 7 [.val (.slice (some ⟨g', 0, none⟩) l.length cap), .val (.slice (some ⟨g', 0, none⟩) l.length cap), .val (.agg #[.int .i64 p', .int .i64 o', .int .i64 f', .int .i64 t, .int .i64 0, .string s']), .val (.agg #[.int .i64 p', .int .i64 o', .int .i64 f', .int .i64 t]), .val (.int .i64 P), .val (.agg #[.int .i64 p', .int .i64 o', .int .i64 f', .int .i64 t, .int .i64 0, .string s']), .new #[.int .i64 p', .int .i64 o', .int .i64 f', .int .i64 t, .int .i64 0, .string s'] 49 (some 1)] (by kernel_rfl) (by kernel_rfl) (by kernel_rfl) (by kernel_rfl) ?_
        intro X
        simp only [List.take_succ_cons, List.take_zero, List.drop_succ_cons, List.drop_zero]
        iterate 6
          refine plan_val (by kernel_rfl) (fun u hu => ?_) ?_
          · obtain ⟨hc, hf, hz⟩ := hu.of_drew.facts
            go_simp
            all_goals first
              | (go_at_call 23; exact spot_any _ _ _ _ _ _ _)
              | (go_at_call 22; exact cF _ hu.of_drew)
          simp only [Act.put, List.setIfInBounds_toArray, List.set_cons_zero, List.set_cons_succ, Nat.reduceAdd]
        refine plan_lit (by kernel_rfl) (fun u => ?_) ?_
        · go_simp
        simp only [Act.put, List.setIfInBounds_toArray, List.set_cons_zero, List.set_cons_succ, Nat.reduceAdd]
        refine plan_end ?_
        intro w' hB
        have hr6 := hB.row 6 _ _ rfl
        have hk := hB.calm.of_drew
        clear hB
        have hI := cI w' (X 6) hk hr6.1 hr6.2
        clear hr6 cI cF
        go_wp2_with (go_at_call 21; refine hI.mono ?_; rintro e w9 ⟨v9, rfl, ho9, hk9⟩; have HO9 := Lib.hid ho9; have hu9 := hk9 w HW1.out (hu3.call hk); clear ho9 hk9)
        go_ret2
        exact ⟨_, rfl, HO9.out.sl hwf2.out, hu9⟩
  · rw [h1] at cV
    simp only [Bool.false_eq_true, if_false] at cV
    obtain ⟨e1, e2⟩ := put_none (s := s') (t := t) hG h2
    have hpe2 : putErr l (p', o', f') s' t = if 400 ≤ l.length then 8 else 0 := by rw [hpe, e1]; rfl
    by_cases hfull : 400 ≤ l.length
    · rw [if_pos hfull] at hpe2
      rw [hpe2, if_neg (by decide)]
      have hl4 : (l.length : Int) = 400 := by omega
      clear hgood hpe hpe2 e1 e2 h1 h2 hlt hlt' hx he hG hL hfull hn4
      go_enter Tryd.func11, Tryd.ntmps11
      go_wp2_with (first
        | (go_at_call 18; refine (cW _ hu).mono ?_; rintro e w1 ⟨rfl, hb1⟩; replace hy := (hb1.block (row3 hy).2.2.2).trans hy; replace hz := (hb1.block (row6 hz).2.2.2.2.2.2).trans hz; replace hu := hu.call hb1; clear hb1; obtain ⟨y0, y1, y2, hys⟩ := row3 hy; obtain ⟨z0, z1, z2, z3, z4, z5, hzs⟩ := row6 hz; clear cW)
        | (go_at_call 19; refine (cV _ hu).mono ?_; rintro e w1 ⟨rfl, hb1⟩; replace hy := (hb1.block (row3 hy).2.2.2).trans hy; replace hz := (hb1.block (row6 hz).2.2.2.2.2.2).trans hz; replace hu := hu.call hb1; clear hb1; obtain ⟨y0, y1, y2, hys⟩ := row3 hy; obtain ⟨z0, z1, z2, z3, z4, z5, hzs⟩ := row6 hz; clear cV))
      go_ret2
      exact ⟨_, rfl, Sl.nil _ _ _, hu⟩
    · rw [if_neg hfull] at hpe2
      have hgd := hgood hpe2
      rw [hpe2, if_pos rfl]
      rw [e2] at hgd ⊢
      have hl4 : ¬ ((l.length : Int) = 400) := by omega
      have hpl := pos_le l (p', o', f') t
      have HG := Lib.hid hG
      clear hgood hpe hpe2 e1 e2 h1 h2 hlt hlt' hx he hG hL
      go_enter Tryd.func11, Tryd.ntmps11
      go_upto_region 15 with (first
        | (go_at_call 18; refine (cW _ hu).mono ?_; rintro e w1 ⟨rfl, hb1⟩; replace hy := (hb1.block (row3 hy).2.2.2).trans hy; replace hz := (hb1.block (row6 hz).2.2.2.2.2.2).trans hz; replace hu := hu.call hb1; clear hb1; obtain ⟨y0, y1, y2, hys⟩ := row3 hy; obtain ⟨z0, z1, z2, z3, z4, z5, hzs⟩ := row6 hz; clear cW)
        | (go_at_call 19; refine (cV _ hu).mono ?_; rintro e w1 ⟨rfl, hb1⟩; replace hy := (hb1.block (row3 hy).2.2.2).trans hy; replace hz := (hb1.block (row6 hz).2.2.2.2.2.2).trans hz; replace hu := hu.call hb1; clear hb1; obtain ⟨y0, y1, y2, hys⟩ := row3 hy; obtain ⟨z0, z1, z2, z3, z4, z5, hzs⟩ := row6 hz; clear cV)
        | (go_at_call 20; refine (cC _ hu).mono ?_; rintro e w3 ⟨v, rfl, ho, hb1⟩; obtain ⟨A1, c1, rfl, _, _, hL1⟩ := ho.lies HG.out.wf; have HO2 := Lib.hid ho; have hz3 := (hb1.block (row6 hz).2.2.2.2.2.2).trans hz; have hu3 := hu.call hb1; have hwl := hb1.size; have hw1 := hu.size; clear cC ho))
      have cF : ∀ u, Calm w3 u → Calls Tryd.prog 22 #[.slice A1 l.length c1, .agg #[.int .i64 p', .int .i64 o', .int .i64 f', .int .i64 t]] u fun e w' => e = .returned (.int .i64 (pos l (p', o', f') t)) ∧ Calm u w' := fun u hu =>
        after_any A1 c1 l p' o' f' t u hn4 (hL1.calm hu) HG.out.2.2
      have cI : ∀ u h, Calm w3 u → w3.drew.heap.size ≤ h → u.heap[h]? = some (.cells #[.int .i64 p', .int .i64 o', .int .i64 f', .int .i64 t, .int .i64 0, .string s'] 49 (0, 0)) → Calls Tryd.prog 21 #[.slice A1 l.length c1, .int .i64 (pos l (p', o', f') t), .slice (some ⟨h, 0, none⟩) 1 1] u (OwnEnd w1.heap.size (insAt l (pos l (p', o', f') t) (fresh (p', o', f') s' t)) u) := fun u h hv hgh0 hh =>
        insert_any w1.heap.size h (pos l (p', o', f') t) _ l p' o' f' t 0 s' u hpl hn4 (HO2.out.calm hv) (Nat.le_trans hwl hv.size) hh (fun e => by have h9 := (HO2.out.lt h e).2; exact absurd hgh0 (Nat.not_le.2 h9))
      have hwf2 := Lib.hid hgd.wf
      clear hgd hpl HG HO2 hL1 hwl y0 y1 y2 hys z0 z1 z2 z3 z4 z5 hzs hy hz
      generalize pos l (p', o', f') t = P at *
      generalize insAt l P (fresh (p', o', f') s' t) = R at *
      obtain ⟨z0, z1, z2, z3, z4, z5, hzs⟩ := row6 hz3
      have HW1 := Lib.hid hw1
      clear hw1 q1 q2 q3 hn hn4 hfull hl4 hb1 hz3
      refine wp_region_plan_tail 7 [.val (.slice A1 l.length c1), .val (.slice A1 l.length c1), .val (.agg #[.int .i64 p', .int .i64 o', .int .i64 f', .int .i64 t, .int .i64 0, .string s']), .val (.agg #[.int .i64 p', .int .i64 o', .int .i64 f', .int .i64 t]), .val (.int .i64 P), .val (.agg #[.int .i64 p', .int .i64 o', .int .i64 f', .int .i64 t, .int .i64 0, .string s']), .new #[.int .i64 p', .int .i64 o', .int .i64 f', .int .i64 t, .int .i64 0, .string s'] 49 (some 1)] (by kernel_rfl) (by kernel_rfl) (by kernel_rfl) (by kernel_rfl) ?_
      intro X
      simp only [List.take_succ_cons, List.take_zero, List.drop_succ_cons, List.drop_zero]
      iterate 6
        refine plan_val (by kernel_rfl) (fun u hu => ?_) ?_
        · obtain ⟨hc, hf, hz⟩ := hu.of_drew.facts
          go_simp
          all_goals first
            | (go_at_call 23; exact spot_any _ _ _ _ _ _ _)
            | (go_at_call 22; exact cF _ hu.of_drew)
        simp only [Act.put, List.setIfInBounds_toArray, List.set_cons_zero, List.set_cons_succ, Nat.reduceAdd]
      refine plan_lit (by kernel_rfl) (fun u => ?_) ?_
      · go_simp
      simp only [Act.put, List.setIfInBounds_toArray, List.set_cons_zero, List.set_cons_succ, Nat.reduceAdd]
      refine plan_end ?_
      intro w' hB
      have hr6 := hB.row 6 _ _ rfl
      have hk := hB.calm.of_drew
      clear hB
      have hI := cI w' (X 6) hk hr6.1 hr6.2
      clear hr6 cI cF
      go_wp2_with (go_at_call 21; refine hI.mono ?_; rintro e w9 ⟨v9, rfl, ho9, hk9⟩; have HO9 := Lib.hid ho9; have hu9 := hk9 w HW1.out (hu3.call hk); clear ho9 hk9)
      go_ret2
      exact ⟨_, rfl, HO9.out.sl hwf2.out, hu9⟩
open Go.RowKit
def FreeS (late : List Nat) (F : Nat → Value → World → Prop) (w1 : World) : Stages := fun bs Y u => Calm w1 u ∧ ∃ L : Nat → Bool, bs = late.map L ∧ ∀ i ∈ late, L i = true → F i (Y i) u
section
variable {late : List Nat} {F : Nat → Value → World → Prop} {w1 u u' : World} {Y : Nat → Value} {L : Nat → Bool}
theorem FreeS.stay (hF : ∀ i y u u', F i y u → Calm u u' → F i y u') : ∀ bs Y u u', FreeS late F w1 bs Y u → Calm u u' → FreeS late F w1 bs Y u' := fun _ _ _ _ ⟨h, L, e, hL⟩ hb => ⟨h.call hb, L, e, fun i hi hl => hF i _ _ _ (hL i hi hl) hb⟩
theorem FreeS.start (h : Calm w1 u) : FreeS late F w1 (late.map fun _ => false) Y u := ⟨h, _, rfl, fun _ _ h => by cases h⟩
theorem FreeS.get (h : FreeS late F w1 (late.map L) Y u) {i : Nat} (hi : i ∈ late) (hl : L i = true) : F i (Y i) u := by
 obtain ⟨-, M, e, hM⟩ := h
 have : L i = M i := List.map_inj_left.1 e i hi
 exact hM i hi (this ▸ hl)
theorem FreeS.do (hF : ∀ i y u u', F i y u → Calm u u' → F i y u') (h : FreeS late F w1 (late.map L) Y u) (hb : Calm u u') {i : Nat} {y : Value} (hn : F i y u') : FreeS late F w1 (late.map (updB L i)) (updV Y i y) u' := by
 refine ⟨h.1.call hb, _, rfl, fun j hj hl => ?_⟩
 by_cases e : j = i
 ·subst e; rw [show updV Y j y j = y by simp [updV]]; exact hn
 ·rw [show updV Y i y j = Y j by simp [updV, e]]; exact hF _ _ _ _ (h.get hj (by simpa [updB, e] using hl)) hb
end
open Go.ChangeShapes Go.WideShapes Go.ChangeAt Go.RowKit
def adErr (l : List El) (p o : Int) (nm : ByteArray) (n t : Int) : Int :=
 if fsErr l p o nm 2147483647 ≠ 0 ∧ fsErr l p o nm 2147483647 ≠ 4 then fsErr l p o nm 2147483647
 else if ¬ (0 ≤ n ∧ n ≤ 1048576) then 1
 else if fsErr l p o nm 2147483647 = 0 then 5
 else match roomI l p o nm with
  |none => 8
  |some i => putErr l (p, o, slotN nm + (i : Nat)) (textB n nm) t
def adL (l : List El) (p o : Int) (nm : ByteArray) (n t : Int) : List El := if adErr l p o nm n t = 0 then (match roomI l p o nm with
    | none => []
    | some i => putR l (p, o, slotN nm + (i : Nat)) (textB n nm) t) else []
def AdF (L : List El) (E : Int) : Nat → Value → World → Prop
 | 6, y, u => ∃ A c, y = .tuple #[.slice A L.length c, .int .i64 E] ∧ Lies u A L
 | 7, y, u => ∃ A c, y = .slice A L.length c ∧ Lies u A L
 | 8, y, _ => y = .int .i64 E
 | 9, y, u => ∃ A c, y = .slice A L.length c ∧ Lies u A L
 | 10, y, _ => y = .int .i64 E
 |_, _, _ => False
theorem putErr_wrD {l : List El} {k : Int × Int × Int} {s : ByteArray} {t : Int} (h : putErr l k s t = 0) : wrErr l (fresh k s t) = 0 := by
 unfold putErr at h
 by_cases h1 : wrErr l (fresh k s t) = 0
 ·exact h1
 ·simp only [h1] at h
  first | exact h | (simp at h; exact h) | (split at h <;> simp_all)
theorem put_partD {M : List El} {k : Int × Int × Int} {s : ByteArray} {t : Int} : (if putErr M k s t = 0 then putR M k s t else []).length ≤ 400 := by
 by_cases h : putErr M k s t = 0
 ·rw [if_pos h]; exact (put_good (putErr_wrD h) h).1
 ·rw [if_neg h]; simp
theorem elErr_ne4 (e : El) : e.err ≠ 4 := by
 unfold El.err elemErr
 split
 ·split
  ·split <;> decide
  ·decide
 ·unfold keyErr; split <;> decide
theorem step_ne4 (l : List El) (i : Nat) : stepErr l i ≠ 4 := by
 unfold stepErr
 split
 ·decide
 ·split
  ·exact elErr_ne4 _
  ·split
   ·decide
   ·split <;> decide
theorem first_ne4 {f : Nat → Int} (h : ∀ i, f i ≠ 4) : ∀ n, firstErr f n ≠ 4
 | 0 => by unfold firstErr; decide
 |n + 1 => by
  unfold firstErr
  split
  ·exact h n
  ·exact first_ne4 h n
theorem runErr_ne4 (l : List El) : runErr l ≠ 4 := by
 unfold runErr
 split
 ·decide
 ·exact first_ne4 (step_ne4 l) _
theorem kErr_ne4 (k : Int × Int × Int) : kErr k ≠ 4 := by
 unfold kErr keyErr; split <;> decide
theorem entsErr_ne4 (l : List El) (p o : Int) : entsErr l p o ≠ 4 := by
 unfold entsErr rgErr
 split
 ·split
  ·exact kErr_ne4 _
  ·exact kErr_ne4 _
 ·exact runErr_ne4 l
theorem ne_rd4 {n : Int} (h : n ≠ 4) : (n != 4) = true := by simpa using h
theorem adF_stay {L : List El} {E : Int} : ∀ i y u u', AdF L E i y u → Calm u u' → AdF L E i y u'
 | 6, _, _, _, ⟨A, c, h1, h2⟩, hb => ⟨A, c, h1, h2.calm hb⟩
 | 7, _, _, _, ⟨A, c, h1, h2⟩, hb => ⟨A, c, h1, h2.calm hb⟩
 | 8, _, _, _, h, _ => h
 | 9, _, _, _, ⟨A, c, h1, h2⟩, hb => ⟨A, c, h1, h2.calm hb⟩
 | 10, _, _, _, h, _ => h
 | 0, _, _, _, h, _ => h.elim
 | 1, _, _, _, h, _ => h.elim
 | 2, _, _, _, h, _ => h.elim
 | 3, _, _, _, h, _ => h.elim
 | 4, _, _, _, h, _ => h.elim
 | 5, _, _, _, h, _ => h.elim
 |_ + 11, _, _, _, h, _ => h.elim
set_option maxHeartbeats 8000000 in
theorem dirAdd_any (A : Option Addr) (c : Nat) (l : List El) (p o : Int) (nm : ByteArray) (n t : Int) (w : World) (hn : l.length ≤ 9223372036854775807) (hL : Lies w A l) (hD : DirW w) (hs : nm.size ≤ maxLen) :
    Calls Tryd.prog 5 #[.slice A l.length c, .int .i64 p, .int .i64 o, .string nm, .int .i64 n, .int .i64 t] w (SlEnd (adL l p o nm n t) (adErr l p o nm n t) w) := by
  have cF := dirFirst_any A c l p o nm 2147483647 w hn hL hD hs
  have cO := fun u => isObj_any n u
  have cM := fun u (hu : Calm w u) => dirRoom_any A c l p o nm u hn (hL.calm hu) hs
  have hnm : fsErr l p o nm 2147483647 = 4 → nameOk nm = true ∧ nm.size ≤ 12 := fun h => by
    unfold fsErr at h
    by_cases h1 : entsErr l p o = 0
    · rw [if_pos h1] at h
      by_cases h2 : nameOk nm = true
      · refine ⟨h2, ?_⟩
        unfold nameOk at h2
        rw [Bool.and_eq_true] at h2
        exact (of_decide_eq_true h2.1).2.1
      · rw [if_neg h2] at h; exact absurd h (by decide)
    · rw [if_neg h1] at h
      exact absurd h (entsErr_ne4 l p o)
  unfold FsEnd entV at cF
  unfold RmE at cM
  unfold adL
  by_cases hA : fsErr l p o nm 2147483647 ≠ 0 ∧ fsErr l p o nm 2147483647 ≠ 4
  · have e1 : adErr l p o nm n t = fsErr l p o nm 2147483647 := by unfold adErr; exact if_pos hA
    rw [e1, if_neg hA.1]
    generalize fsX l p o nm 2147483647 = x at *
    generalize fsErr l p o nm 2147483647 = E at *
    have b1 := ne_rd hA.1
    have b2 := ne_rd4 hA.2
    clear hnm e1 hA
    go_enter Tryd.func5, Tryd.ntmps5
    go_wp2_with (go_at_call 8; (with_reducible refine cF.mono ?_); rintro e w1 ⟨rfl, hb⟩; have hu := hb.alloc (.cells #[.int .i64 x.p, .int .i64 x.o, .int .i64 x.f, .string x.nm, .int .i64 x.of] 34); clear hb)
    go_ret2
    exact ⟨_, rfl, Sl.nil _ _ _, hu⟩
  by_cases hO : 0 ≤ n ∧ n ≤ 1048576
  rotate_left
  · have e1 : adErr l p o nm n t = 1 := by unfold adErr; rw [if_neg hA, if_pos hO]
    rw [e1, if_neg (by decide)]
    rw [decide_eq_false hO] at cO
    have hE : fsErr l p o nm 2147483647 = 0 ∨ fsErr l p o nm 2147483647 = 4 := by omega
    generalize fsX l p o nm 2147483647 = x at *
    generalize fsErr l p o nm 2147483647 = E at *
    clear hnm e1 hA
    rcases hE with rfl | rfl
    all_goals
      go_enter Tryd.func5, Tryd.ntmps5
      go_wp2_with (first
        | (go_at_call 8; (with_reducible refine cF.mono ?_); rintro e w1 ⟨rfl, hb⟩; have hu := hb.alloc (.cells #[.int .i64 x.p, .int .i64 x.o, .int .i64 x.f, .string x.nm, .int .i64 x.of] 34); clear hb)
        | (go_at_call 9; (with_reducible refine (cO _).mono ?_); rintro e w2 ⟨rfl, rfl⟩))
      go_ret2
      exact ⟨_, rfl, Sl.nil _ _ _, hu⟩
  rw [decide_eq_true hO] at cO
  by_cases hE0 : fsErr l p o nm 2147483647 = 0
  · have e1 : adErr l p o nm n t = 5 := by unfold adErr; rw [if_neg hA, if_neg (fun h => h hO), if_pos hE0]
    rw [e1, if_neg (by decide)]
    rw [hE0] at cF
    generalize fsX l p o nm 2147483647 = x at *
    clear hnm e1 hA hE0
    go_enter Tryd.func5, Tryd.ntmps5
    go_wp2_with (first
      | (go_at_call 8; (with_reducible refine cF.mono ?_); rintro e w1 ⟨rfl, hb⟩; have hu := hb.alloc (.cells #[.int .i64 x.p, .int .i64 x.o, .int .i64 x.f, .string x.nm, .int .i64 x.of] 34); clear hb)
      | (go_at_call 9; (with_reducible refine (cO _).mono ?_); rintro e w2 ⟨rfl, rfl⟩))
    go_ret2
    exact ⟨_, rfl, Sl.nil _ _ _, hu⟩
  have hE4 : fsErr l p o nm 2147483647 = 4 := by omega
  have hn12 := (hnm hE4).2
  rw [hE4] at cF
  generalize fsX l p o nm 2147483647 = x at *
  cases hR : roomI l p o nm with
  | none =>
    have e1 : adErr l p o nm n t = 8 := by unfold adErr; rw [if_neg hA, if_neg (fun h => h hO), if_neg hE0, hR]
    rw [e1, if_neg (by decide)]
    rw [hR] at cM
    clear hnm e1 hA hE0 hE4 hR
    go_enter Tryd.func5, Tryd.ntmps5
    go_wp2_with (first
      | (go_at_call 8; (with_reducible refine cF.mono ?_); rintro e w1 ⟨rfl, hb⟩; have hu := hb.alloc (.cells #[.int .i64 x.p, .int .i64 x.o, .int .i64 x.f, .string x.nm, .int .i64 x.of] 34); clear hb)
      | (go_at_call 9; (with_reducible refine (cO _).mono ?_); rintro e w2 ⟨rfl, rfl⟩)
      | (go_at_call 10; (with_reducible refine (cM _ hu).mono ?_); rintro e w3 ⟨rfl, hb3⟩; replace hu := (hu.call hb3).alloc (.cells #[.int .i64 0, .int .i64 0, .int .i64 0] 32); clear hb3 cM))
    go_ret2
    exact ⟨_, rfl, Sl.nil _ _ _, hu⟩
  | some i =>
    have e1 : adErr l p o nm n t = putErr l (p, o, slotN nm + (i : Nat)) (textB n nm) t := by unfold adErr; rw [if_neg hA, if_neg (fun h => h hO), if_neg hE0, hR]
    rw [e1]
    rw [hR] at cM
    simp only at cM ⊢
    generalize slotN nm + (i : Int) = K at *
    have cT := fun u (hu : Calm w u) => text_any nm n u (by omega) hO.1 hO.2 (hD.calm hu).tab
    have cP := fun u (hu : Calm w u) => runPut_any A c l p o K (textB n nm) t u hn (hL.calm hu)
    unfold SlEnd at cP ⊢
    clear hnm e1 hA hE0 hE4 hR
    generalize textB n nm = TX at *
    have hLN := put_partD (M := l) (k := (p, o, K)) (s := TX) (t := t)
    generalize (if putErr l (p, o, K) TX t = 0 then putR l (p, o, K) TX t else []) = L at *
    have HLN := Lib.hid (show L.length ≤ 9223372036854775807 by omega)
    clear hLN
    generalize putErr l (p, o, K) TX t = E at *
    go_enter Tryd.func5, Tryd.ntmps5
    go_upto_region 11 with (first
      | (go_at_call 8; (with_reducible refine cF.mono ?_); rintro e w1 ⟨rfl, hb⟩; have hu := hb.alloc (.cells #[.int .i64 x.p, .int .i64 x.o, .int .i64 x.f, .string x.nm, .int .i64 x.of] 34); clear hb)
      | (go_at_call 9; (with_reducible refine (cO _).mono ?_); rintro e w2 ⟨rfl, rfl⟩)
      | (go_at_call 10; (with_reducible refine (cM _ hu).mono ?_); rintro e w3 ⟨rfl, hb3⟩; replace hu := (hu.call hb3).alloc (.cells #[.int .i64 p, .int .i64 o, .int .i64 K] 32); clear hb3 cM))
    have hy := heap_new w3 (.cells #[.int .i64 p, .int .i64 o, .int .i64 K] 32)
    generalize w3.heap.size = gg at *
    generalize (w3.alloc (.cells #[.int .i64 p, .int .i64 o, .int .i64 K] 32)) = w4 at hu hy ⊢
    have HY := Lib.hid hy
    clear hy
    have HU := Lib.hid hu
    refine wp_region_stages [.val (.slice A l.length c), .val (.agg #[.int .i64 p, .int .i64 o, .int .i64 K]), .val (.string nm), .val (.int .i64 n), .val (.string TX), .val (.int .i64 t), .late, .late [6], .late [6], .late [7], .late [8]] [6, 7, 8, 9, 10]
      (FreeS [6, 7, 8, 9, 10] (AdF L E) w4) (by kernel_rfl) (by kernel_rfl) (by kernel_rfl) (FreeS.stay adF_stay) (fun Y => FreeS.start (Calm.refl _).drew) (fun Y => ?_)
    refine planS_val (by kernel_rfl) (fun L9 u hb hS => ?_) ?_
    · clear hS hb
      go_simp
    simp only [Act.put, List.setIfInBounds_toArray, List.set_cons_zero, List.set_cons_succ, Nat.reduceAdd]
    refine planS_val (by kernel_rfl) (fun L9 u hb hS => ?_) ?_
    · have hc := hS.1
      obtain ⟨y0, y1, y2, _⟩ := row3D ((hc.block (Array.getElem?_eq_some_iff.1 HY.out).1).trans HY.out)
      clear hS hb
      go_simp
    simp only [Act.put, List.setIfInBounds_toArray, List.set_cons_zero, List.set_cons_succ, Nat.reduceAdd]
    iterate 2
      refine planS_val (by kernel_rfl) (fun L9 u hb hS => ?_) ?_
      · clear hS hb
        go_simp
      simp only [Act.put, List.setIfInBounds_toArray, List.set_cons_zero, List.set_cons_succ, Nat.reduceAdd]
    refine planS_val (by kernel_rfl) (fun L9 u hb hS => ?_) ?_
    · have hc := hS.1
      have cT2 := cT u (HU.out.call hc)
      clear hS hb
      go_simp
      try (go_at_call 12; (with_reducible exact cT2))
    simp only [Act.put, List.setIfInBounds_toArray, List.set_cons_zero, List.set_cons_succ, Nat.reduceAdd]
    refine planS_val (by kernel_rfl) (fun L9 u hb hS => ?_) ?_
    · clear hS hb
      go_simp
    simp only [Act.put, List.setIfInBounds_toArray, List.set_cons_zero, List.set_cons_succ, Nat.reduceAdd]
    refine planS_late (fun L9 u hi hb hS => ?_) ?_
    · have hc := hS.1
      have H := Lib.hid (fun (y : Value) (u' : World) (hb' : Calm u u') (hn : ∃ A c, y = .tuple #[.slice A L.length c, .int .i64 E] ∧ Lies u' A L) => (FreeS.do adF_stay hS hb' (i := 6) (show AdF L E 6 y u' from hn) : FreeS [6, 7, 8, 9, 10] (AdF L E) w4 ([6, 7, 8, 9, 10].map (updB L9 6)) (updV Y 6 y) u'))
      have cP2 := cP u (hu.call hc)
      clear hS hb hi hc
      go_wp2_with (go_at_call 11; (with_reducible refine cP2.mono ?_); rintro e w9 ⟨v, rfl, ⟨A1, c1, rfl, _, h1⟩, hk⟩; have H1 := Lib.hid h1; have HK := Lib.hid hk; clear h1 hk)
      exact H.out _ w9 HK.out ⟨A1, c1, rfl, H1.out⟩
    simp only [Act.put, List.setIfInBounds_toArray, List.set_cons_zero, List.set_cons_succ, Nat.reduceAdd]
    refine planS_late (fun L9 u hi hb hS => ?_) ?_
    · have hc := hS.1
      have H := Lib.hid (fun (y : Value) (u' : World) (hb' : Calm u u') (hn : ∃ A c, y = .slice A L.length c ∧ Lies u' A L) => (FreeS.do adF_stay hS hb' (i := 7) (show AdF L E 7 y u' from hn) : FreeS [6, 7, 8, 9, 10] (AdF L E) w4 ([6, 7, 8, 9, 10].map (updB L9 7)) (updV Y 7 y) u'))
      obtain ⟨A1, c1, e1, h1⟩ := (show ∃ A c, Y 6 = .tuple #[.slice A L.length c, .int .i64 E] ∧ Lies u A L from FreeS.get hS (i := 6) (by decide) (hb 6 (by simp)))
      rw [e1]
      clear e1
      have H1 := Lib.hid h1
      clear h1
      clear hS hb hi hc
      go_wp2_with fail
      exact H.out _ u (Calm.refl _) ⟨A1, c1, rfl, H1.out⟩
    simp only [Act.put, List.setIfInBounds_toArray, List.set_cons_zero, List.set_cons_succ, Nat.reduceAdd]
    refine planS_late (fun L9 u hi hb hS => ?_) ?_
    · have hc := hS.1
      have H := Lib.hid (fun (y : Value) (u' : World) (hb' : Calm u u') (hn : y = .int .i64 E) => (FreeS.do adF_stay hS hb' (i := 8) (show AdF L E 8 y u' from hn) : FreeS [6, 7, 8, 9, 10] (AdF L E) w4 ([6, 7, 8, 9, 10].map (updB L9 8)) (updV Y 8 y) u'))
      obtain ⟨A1, c1, e1, h1⟩ := (show ∃ A c, Y 6 = .tuple #[.slice A L.length c, .int .i64 E] ∧ Lies u A L from FreeS.get hS (i := 6) (by decide) (hb 6 (by simp)))
      rw [e1]
      clear e1
      clear h1
      clear hS hb hi hc
      go_wp2_with fail
      exact H.out _ u (Calm.refl _) rfl
    simp only [Act.put, List.setIfInBounds_toArray, List.set_cons_zero, List.set_cons_succ, Nat.reduceAdd]
    refine planS_late (fun L9 u hi hb hS => ?_) ?_
    · have hc := hS.1
      have H := Lib.hid (fun (y : Value) (u' : World) (hb' : Calm u u') (hn : ∃ A c, y = .slice A L.length c ∧ Lies u' A L) => (FreeS.do adF_stay hS hb' (i := 9) (show AdF L E 9 y u' from hn) : FreeS [6, 7, 8, 9, 10] (AdF L E) w4 ([6, 7, 8, 9, 10].map (updB L9 9)) (updV Y 9 y) u'))
      obtain ⟨A1, c1, e1, h1⟩ := (show ∃ A c, Y 7 = .slice A L.length c ∧ Lies u A L from FreeS.get hS (i := 7) (by decide) (hb 7 (by simp)))
      rw [e1]
      clear e1
      have H1 := Lib.hid h1
      clear h1
      clear hS hb hi hc
      go_wp2_with fail
      exact H.out _ u (Calm.refl _) ⟨A1, c1, rfl, H1.out⟩
    simp only [Act.put, List.setIfInBounds_toArray, List.set_cons_zero, List.set_cons_succ, Nat.reduceAdd]
    refine planS_late (fun L9 u hi hb hS => ?_) ?_
    · have hc := hS.1
      have H := Lib.hid (fun (y : Value) (u' : World) (hb' : Calm u u') (hn : y = .int .i64 E) => (FreeS.do adF_stay hS hb' (i := 10) (show AdF L E 10 y u' from hn) : FreeS [6, 7, 8, 9, 10] (AdF L E) w4 ([6, 7, 8, 9, 10].map (updB L9 10)) (updV Y 10 y) u'))
      have e1 := (show Y 8 = .int .i64 E from FreeS.get hS (i := 8) (by decide) (hb 8 (by simp)))
      rw [e1]
      clear e1
      clear hS hb hi hc
      go_wp2_with fail
      exact H.out _ u (Calm.refl _) rfl
    simp only [Act.put, List.setIfInBounds_toArray, List.set_cons_zero, List.set_cons_succ, Nat.reduceAdd]
    try simp only [Act.put, Nat.reduceAdd]
    refine planS_end ?_
    intro w7 hS
    have hc7 := hS.1
    obtain ⟨A9, c9, e9, h9⟩ := (show ∃ A c, Y 9 = .slice A L.length c ∧ Lies w7 A L from FreeS.get (L := fun _ => true) hS (i := 9) (by decide) rfl)
    have e8 := (show Y 10 = .int .i64 E from FreeS.get (L := fun _ => true) hS (i := 10) (by decide) rfl)
    have H9 := Lib.hid h9
    rw [e9, e8]
    clear hS e9 e8 h9
    go_wp2_with fail
    go_ret2
    exact ⟨_, rfl, ⟨A9, c9, rfl, HLN.out, H9.out⟩, HU.out.call hc7⟩
theorem ent_g (e : El) (g : Int) : entOf { e with g := g } = entOf e := rfl
theorem inR_g {lo hi : Int × Int × Int} {u t : Int} {e : El} (hg : e.g = 0) (hu : u < t) : inR lo hi u { e with g := t } = inR lo hi u e := by
 have h1 : (El.live { e with g := t } u) ↔ (El.live e u) := by
  unfold El.live liveP
  constructor
  ·rintro ⟨a, _⟩; exact ⟨a, .inl hg⟩
  ·rintro ⟨a, _⟩; exact ⟨a, .inr hu⟩
 unfold inR
 simp only [El.key]
 congr 1
 exact propext (by simp only [h1])
theorem inR_new {lo hi : Int × Int × Int} {u : Int} {e : El} (hu : u < e.m) : inR lo hi u e = false := by
 unfold inR
 rw [decide_eq_false_iff_not]
 intro h
 have : El.live e u := by first | exact h.2.2 | exact h.2 | exact h.2.2.2
 unfold El.live liveP at this
 omega
theorem past_ents {k lo hi : Int × Int × Int} {t u : Int} (hu : u < t) : ∀ l : List El, ((l.filterMap (cutStep k t)).filter (inR lo hi u)).filterMap entOf = (l.filter (inR lo hi u)).filterMap entOf
 | [] => rfl
 |e :: l => by
  have ih := past_ents (k := k) (lo := lo) (hi := hi) hu l
  by_cases h1 : e.key = k ∧ e.g = 0
  ·by_cases h2 : e.m = t
   ·have hc : cutStep k t e = none := by unfold cutStep; rw [if_pos h1, if_pos h2]
    rw [List.filterMap_cons_none hc, ih, List.filter_cons_of_neg (by rw [inR_new (by omega)]; decide)]
   ·have hc : cutStep k t e = some { e with g := t } := by unfold cutStep; rw [if_pos h1, if_neg h2]
    rw [List.filterMap_cons_some hc]
    by_cases h3 : inR lo hi u e = true
    ·rw [List.filter_cons_of_pos (by rw [inR_g h1.2 hu]; exact h3), List.filter_cons_of_pos h3, List.filterMap_cons, List.filterMap_cons, ent_g, ih]
    ·rw [List.filter_cons_of_neg (by rw [inR_g h1.2 hu]; exact h3), List.filter_cons_of_neg h3, ih]
  ·have hc : cutStep k t e = some e := by unfold cutStep; rw [if_neg h1]
   rw [List.filterMap_cons_some hc]
   by_cases h3 : inR lo hi u e = true
   ·rw [List.filter_cons_of_pos h3, List.filter_cons_of_pos h3, List.filterMap_cons, List.filterMap_cons, ih]
   ·rw [List.filter_cons_of_neg h3, List.filter_cons_of_neg h3, ih]
theorem past_cut {l : List El} {k : Int × Int × Int} {p o t u : Int} (hu : u < t) : entsL (cutR l k t) p o u = entsL l p o u := by
 unfold entsL rangeR cutR
 exact past_ents hu l
theorem entsErr_good {l m : List El} (hl : Good l) (hm : Good m) (p o : Int) : entsErr m p o = entsErr l p o := by
 unfold entsErr rgErr
 rw [runErr_zero.2 hl, runErr_zero.2 hm]
theorem cutErr_wrD {l : List El} {k : Int × Int × Int} {t : Int} (h : cutErr l k t = 0) : wrErr l (fresh k { data := #[] } t) = 0 := by
 unfold cutErr at h
 by_cases h1 : wrErr l (fresh k { data := #[] } t) = 0
 ·exact h1
 ·simp only [h1] at h
  first | exact h | (simp at h; exact h) | (split at h <;> simp_all)
/-- What is dropped is found still at the times ahead. -/
theorem past_drop {l : List El} {p o : Int} {nm : ByteArray} {t u : Int} (h : drErr l p o nm t = 0) (hu : u < t) : fsErr (drL l p o nm t) p o nm u = fsErr l p o nm u ∧ fsX (drL l p o nm t) p o nm u = fsX l p o nm u ∧ fsErr l p o nm 2147483647 = 0 ∧ 1 ≤ t ∧ Good l ∧ Good (drL l p o nm t) := by
 have hd : drL l p o nm t = cutR l ((fsX l p o nm 2147483647).p, (fsX l p o nm 2147483647).o, (fsX l p o nm 2147483647).f) t := by unfold drL; rw [if_pos h]
 have hf : fsErr l p o nm 2147483647 = 0 := by
  unfold drErr at h
  by_cases h1 : fsErr l p o nm 2147483647 = 0
  ·exact h1
  ·rw [if_neg h1] at h; exact absurd h h1
 unfold drErr at h
 rw [if_pos hf] at h
 have hw := cutErr_wrD h
 generalize ((fsX l p o nm 2147483647).p, (fsX l p o nm 2147483647).o, (fsX l p o nm 2147483647).f) = K at hd hw h
 have hG := (wrErr_zero.1 hw).1
 have hm := cut_good hw
 have ht := (sizes hw).2.2
 rw [hd]
 refine ⟨?_, ?_, hf, ht, hG, hm⟩
 ·unfold fsErr; rw [entsErr_good hG hm, past_cut hu]
 ·unfold fsX; rw [entsErr_good hG hm, past_cut hu]
open Go.ChangeShapes Go.WideShapes Go.ChangeAt Go.RowKit
def exE1 : El := ⟨0, 1, 1007608, 1, 0, { data := #[55, 58, 97, 98] }⟩
def exE2 : El := ⟨0, 1, 1007608, 1, 3, { data := #[55, 58, 97, 98] }⟩
theorem ex_add : adErr [] 0 1 { data := #[97, 98] } 7 1 = 0 ∧ adL [] 0 1 { data := #[97, 98] } 7 1 = [exE1] := by decide +kernel
theorem ex_drop : drErr [exE1] 0 1 { data := #[97, 98] } 3 = 0 ∧ drL [exE1] 0 1 { data := #[97, 98] } 3 = [exE2] := by decide +kernel
theorem ex_find : fsErr [exE2] 0 1 { data := #[97, 98] } 2 = 0 ∧ (fsX [exE2] 0 1 { data := #[97, 98] } 2).of = 7 := by decide +kernel
set_option maxHeartbeats 8000000 in
theorem dirPast_walk (A : Option Addr) (c : Nat) (l : List El) (p o : Int) (nm : ByteArray) (t u : Int) (w : World) (hn : l.length ≤ 9223372036854775807) (hL : Lies w A l) (hD : DirW w) (hs : nm.size ≤ maxLen) :
    Calls Tryd.prog 4 #[.slice A l.length c, .int .i64 p, .int .i64 o, .string nm, .int .i64 t, .int .i64 u] w fun e w' => e = .returned (.bool true) ∧ Calm w w' := by
  have hlit : ({ data := #[97, 98] } : ByteArray).size ≤ maxLen := by unfold maxLen; decide
  have cA1 := dirAdd_any none 0 [] 0 1 { data := #[97, 98] } 7 1 w (by simp) ⟨by simp, fun h => absurd h (by simp)⟩ hD hlit
  rw [ex_add.1, ex_add.2] at cA1
  have cA : Calls Tryd.prog 5 #[.slice none 0 0, .int .i64 0, .int .i64 1, .string { data := #[97, 98] }, .int .i64 7, .int .i64 1] w (SlEnd [exE1] 0 w) := cA1
  have cB : ∀ A1 c1 v, Calm w v → Lies v A1 [exE1] → Calls Tryd.prog 6 #[.slice A1 1 c1, .int .i64 0, .int .i64 1, .string { data := #[97, 98] }, .int .i64 3] v (SlEnd [exE2] 0 v) := fun A1 c1 v h1 h2 => by
    have := dirDrop_any A1 c1 [exE1] 0 1 { data := #[97, 98] } 3 v (by simp) h2 (hD.calm h1) hlit
    rw [ex_drop.1, ex_drop.2] at this
    exact this
  have cC : ∀ A1 c1 v, Calm w v → Lies v A1 [exE2] → Calls Tryd.prog 7 #[.slice A1 1 c1, .int .i64 0, .int .i64 1, .string { data := #[97, 98] }, .int .i64 2] v fun e w' => e = .returned (.tuple #[.int .i64 7, .int .i64 0]) ∧ Calm v w' := fun A1 c1 v h1 h2 => by
    have := dirFind_any A1 c1 [exE2] 0 1 { data := #[97, 98] } 2 v (by simp) h2 (hD.calm h1) hlit
    rw [ex_find.1, ex_find.2] at this
    exact this
  have cE := fun v (hv : Calm w v) => dirDrop_any A c l p o nm t v hn (hL.calm hv) (hD.calm hv) hs
  have cF := fun (x : Int) v (hv : Calm w v) => dirFind_any A c l p o nm x v hn (hL.calm hv) (hD.calm hv) hs
  have cG := fun (x : Int) A1 c1 v (hv : Calm w v) (h1 : Lies v A1 (drL l p o nm t)) (h2 : (drL l p o nm t).length ≤ 9223372036854775807) => dirFind_any A1 c1 (drL l p o nm t) p o nm x v h2 h1 (hD.calm hv) hs
  unfold SlEnd at cA cB cE
  have hu := Calm.refl w
  by_cases hE : drErr l p o nm t = 0
  rotate_left
  · have h0 : drL l p o nm t = [] := by unfold drL; rw [if_neg hE]
    rw [h0] at cE
    have b1 := ne_rd hE
    generalize drErr l p o nm t = E at *
    clear cF cG h0 hE cA1
    go_enter Tryd.func4, Tryd.ntmps4
    go_wp2_with (first
      | (go_at_call 5; (with_reducible refine cA.mono ?_); rintro e w1 ⟨v, rfl, ⟨A1, c1, rfl, _, h1⟩, hb⟩; have H1 := Lib.hid h1; replace hu := hu.call hb; clear hb h1 cA)
      | (go_at_call 6; (with_reducible refine (cB _ _ _ hu H1.out).mono ?_); rintro e w2 ⟨v, rfl, ⟨A2, c2, rfl, _, h2⟩, hb⟩; have H2 := Lib.hid h2; replace hu := hu.call hb; clear hb h2 H1)
      | (go_at_call 7; (with_reducible refine (cC _ _ _ hu H2.out).mono ?_); rintro e w3 ⟨rfl, hb⟩; replace hu := hu.call hb; clear hb H2)
      | (go_at_call 6; (with_reducible refine (cE _ hu).mono ?_); rintro e w4 ⟨v, rfl, ⟨A4, c4, rfl, _, h4⟩, hb⟩; replace hu := hu.call hb; clear hb h4))
    go_ret
    exact ⟨rfl, hu⟩
  obtain ⟨hf, ht, hG, hM⟩ := (past_drop (u := t - 1) hE (by omega)).2.2
  obtain ⟨x, hx⟩ : ∃ x, x = min u (t - 1) := ⟨_, rfl⟩
  obtain ⟨he, hX, _⟩ := past_drop (u := x) hE (by rw [hx]; omega)
  have hMl : (drL l p o nm t).length ≤ 9223372036854775807 := by have := hM.1; omega
  have htm : t ≤ 2147483647 := by
    unfold drErr at hE
    rw [if_pos hf] at hE
    exact (sizes (cutErr_wrD hE)).2.1
  have cF1 := fun v hv => cF x v hv
  have cF2 := fun v hv => cF 2147483647 v hv
  have cG1 := fun A1 c1 v hv h1 => cG x A1 c1 v hv h1 hMl
  rw [he, hX] at cG1
  rw [hE] at cE
  rw [hf] at cF2
  generalize drL l p o nm t = M at *
  generalize (fsX l p o nm x).of = N1 at *
  generalize fsErr l p o nm x = E1 at *
  generalize (fsX l p o nm 2147483647).of = N2 at *
  clear cF cG hE hf hG hM he hX cA1 hMl
  have HX := Lib.hid hx
  clear hx
  go_enter Tryd.func4, Tryd.ntmps4
  go_upto_region 7 with (first
      | (go_at_call 5; (with_reducible refine cA.mono ?_); rintro e w1 ⟨v, rfl, ⟨A1, c1, rfl, _, h1⟩, hb⟩; have H1 := Lib.hid h1; replace hu := hu.call hb; clear hb h1 cA)
      | (go_at_call 6; (with_reducible refine (cB _ _ _ hu H1.out).mono ?_); rintro e w2 ⟨v, rfl, ⟨A2, c2, rfl, _, h2⟩, hb⟩; have H2 := Lib.hid h2; replace hu := hu.call hb; clear hb h2 H1)
      | (go_at_call 7; (with_reducible refine (cC _ _ _ hu H2.out).mono ?_); rintro e w3 ⟨rfl, hb⟩; replace hu := hu.call hb; clear hb H2)
      | (go_at_call 6; (with_reducible refine (cE _ hu).mono ?_); rintro e w4 ⟨v, rfl, ⟨A4, c4, rfl, _, h4⟩, hb⟩; have H4 := Lib.hid h4; replace hu := hu.call hb; clear hb h4 cE))
  clear cB cC
  go_upto_region 10 with fail
  rw [← HX.out]
  go_wp2_with (first
    | (go_at_call 7; (with_reducible refine (cF1 _ hu).mono ?_); rintro e w5 ⟨rfl, hb⟩; have H5 := Lib.hid (H4.out.calm hb); replace hu := hu.call hb; clear hb H4 cF1)
    | (go_at_call 7; (with_reducible refine (cG1 _ _ _ hu H5.out).mono ?_); rintro e w6 ⟨rfl, hb⟩; replace hu := hu.call hb; clear hb H5 cG1)
    | (go_at_call 7; (with_reducible refine (cF2 _ hu).mono ?_); rintro e w7 ⟨rfl, hb⟩; replace hu := hu.call hb; clear hb))
  go_ret
  exact ⟨rfl, hu⟩
open Go.ChangeShapes Go.WideShapes Go.ChangeAt Go.RowKit
/-- Calls that are walked under what the variables hold and the world's shape, as a row says them. -/
theorem wrap_shaped {H : Type} {enc : TypeId × Value → H} {a : Assume} {C : Checked} {os : Os} {f : FuncId} {fn : Func} {s : ChangeSpec} {conds : List PathCond} {apart fresh handsOn again : Bool} {X : World → Array Value → Prop}
    (hX : ∀ (w w' : World) (args : Array Value), w.heap = w'.heap → X w args → X w' args)
    (own : ownKnob C.prog.godebug = none) (started : os.Started) (noInit : C.prog.inits.idxOf? f = none) (hfn : C.prog.funcs[f]? = some fn)
    (witness : ∃ (w : World) (tape : Tape) (i : Input), w.os = os ∧ (w.forCall tape i).Shaped C.prog ∧ i.vars = [] ∧ Input.okWide C.prog (w.forCall tape i) .any w.heap.size f i ∧
      ((s.pre enc C.prog fn conds apart (w.forCall tape i).memory i.args ∧ X (w.forCall tape i).memory i.args) ∧ sizedMet enc C.prog fn (OpenSpec.ofChange s) apart (w.forCall tape i).memory i.args) ∧ a.holds C.prog (lone (Frame.enter C.prog f i.args .normal) [] (w.forCall tape i)))
    (contract : ∀ (W : World) (base : Nat) (args : Array Value) (ds gs : List (DataW H)) (before : List MemPlace),
      (∀ (j : Nat) t v, fn.params[j]? = some t → args[j]? = some v → Value.okWide C.prog W .any base t v) →
      DataW.Whole enc C.prog fn.params.toList s.vars apart W args.toList ds gs before → X W args → W.ShapedOpen C.prog →
      Calls C.prog f args W fun e W' => ∃ v, e = .returned v ∧ s.post enc C.prog fn apart fresh handsOn again W args v W') :
    ReturnsInHanded a C os f .any (fun w args => (s.pre enc C.prog fn conds apart w args ∧ X w args) ∧ sizedMet enc C.prog fn (OpenSpec.ofChange s) apart w args) (s.post enc C.prog fn apart fresh handsOn again) := by
  refine returnsInHanded_of_calls own started noInit witness ?_
  intro w tape i _ hsh _ hok hpre _
  obtain ⟨_, _, _, fn', hfn', _, _, _, _, hval⟩ := hok
  obtain rfl : fn' = fn := Option.some.inj (hfn'.symm.trans hfn)
  obtain ⟨⟨⟨ds, gs, before, hw, _⟩, hx⟩, _⟩ := hpre
  refine (contract (w.forCall tape i) w.heap.size i.args ds gs before hval (DataW.Whole.of_heap (w' := w.forCall tape i) (by rfl) hw) (hX _ _ _ (by rfl) hx) hsh).mono fun e W' hh => ?_
  obtain ⟨v, rfl, hp⟩ := hh
  exact ChangeSpec.post_blind hp
theorem gTab : Tryd.prog.globalNamed "internal/strconv.uint64pow10" = some 0 := by kernel_rfl
theorem gTabT : (Tryd.prog.globals[0]?).map (·.type) = some 110 := by kernel_rfl
theorem gSyn : Tryd.prog.globalNamed "strconv.ErrSyntax" = some 2 := by kernel_rfl
theorem gSynT : (Tryd.prog.globals[2]?).map (·.type) = some 79 := by kernel_rfl
theorem gRng : Tryd.prog.globalNamed "strconv.ErrRange" = some 3 := by kernel_rfl
theorem gRngT : (Tryd.prog.globals[3]?).map (·.type) = some 79 := by kernel_rfl
theorem cellsEs : Tryd.prog.cellsOf 128 = 1 := by kernel_rfl
theorem cellsS : Tryd.prog.cellsOf 9 = 1 := by kernel_rfl
theorem cellsU : Tryd.prog.cellsOf 95 = 1 := by kernel_rfl
theorem cellsTab : Tryd.prog.cellsOf 110 = 20 := by kernel_rfl
theorem starE : "*" ++ "errors.errorString" = "*errors.errorString" := by decide
theorem rowEs (u : TypeId) (h : Tryd.prog.typeName? 3 u = some "*errors.errorString") : u = 126 :=
 typeName_ptr_named (nm := "errors.errorString") (by rw [starE]; kernel_rfl) (by kernel_rfl) (by decide) u (by rw [starE]; exact h)
theorem tabData_is : (Rows.laid_internal_strconv_uint64pow10 : DataW Unit) = Lib.tabData .u64 Lib.pow10Tab := by kernel_rfl
/-- What a walk of the directory's functions asks, out of a card's list. -/
theorem dirW_of {W : World} {x y : String × DataW Unit} (h : laidMet Tryd.prog [x, y, ("internal/strconv.uint64pow10", Rows.laid_internal_strconv_uint64pow10), ("strconv.ErrRange", Rows.laid_strconv_ErrRange), ("strconv.ErrSyntax", Rows.laid_strconv_ErrSyntax)] W) (hs : W.ShapedOpen Tryd.prog) : DirW W := by
 obtain ⟨m, hm⟩ := (Tryd.laysM145).s1_3 W hs
 have h3 := h.tail.tail
 rw [tabData_is] at h3
 have h4 := h.tail.tail.tail
 have h5 := h.tail.tail.tail.tail
 obtain ⟨a1, s1, hv1, -, -, -⟩ := laid_sentinel h4 gRng gRngT Tryd.underlying79 rowEs Tryd.underlying126 Tryd.underlying128 rfl rfl Tryd.underlying9 cellsEs cellsS
 obtain ⟨a2, s2, hv2, -, -, -⟩ := laid_sentinel h5 gSyn gSynT Tryd.underlying79 rowEs Tryd.underlying126 Tryd.underlying128 rfl rfl Tryd.underlying9 cellsEs cellsS
 refine ⟨Lib.tabIs_of_head gTab gTabT Tryd.underlying110 Tryd.underlying95 cellsU cellsTab h3, ⟨m, hm⟩, ⟨_, _, hv2⟩, ⟨_, _, hv1⟩, ?_⟩
 rcases Nat.lt_or_ge 1 W.heap.size with hlt | hge
 ·exact hlt
 ·exfalso
  have hm2 : W.cell? ⟨1, 0, none⟩ = some (.int .i64 m) := hm
  simp only [World.cell?] at hm2
  rw [Array.getElem?_eq_none hge] at hm2
  cases hm2
end Go.Proofs.YtmnnmlkjmlhiiaaDoor
