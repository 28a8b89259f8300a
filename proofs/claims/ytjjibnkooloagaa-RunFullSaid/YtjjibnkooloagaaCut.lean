/- run.Cut. -/
import Derived.Test.YtjjibnkooloagaaPut
import Derived.Test.YtjjibnkooloagaaDelete
namespace Go.Proofs.Ytjjibnkooloagaa
open Go.RowKit

theorem cutErr_eq {l : List El} {k : Int × Int × Int} {t : Int} (h : wrErr l (fresh k { data := #[] } t) = 0) : cutErr l k t = if l.any (isOpen k) then 0 else 4 := by
  unfold cutErr; rw [if_pos h]

set_option maxRecDepth 100000 in
set_option maxHeartbeats 16000000 in
theorem runCut_any (A : Option Addr) (d : Nat) (l : List El) (p' o' f' : Int) (t : Int) (w : World) (hn : l.length ≤ 9223372036854775807) (hL : Lies w A l) :
    Calls Try.prog 27 #[.slice A l.length d, .agg #[.int .i64 p', .int .i64 o', .int .i64 f'], .int .i64 t] w (SlEnd (if cutErr l (p', o', f') t = 0 then cutR l (p', o', f') t else []) (cutErr l (p', o', f') t) w) := by
  have hy := heap_new w (.cells #[.int .i64 p', .int .i64 o', .int .i64 f'] 30)
  have hu := (Calm.refl w).alloc (.cells #[.int .i64 p', .int .i64 o', .int .i64 f'] 30)
  have cW : ∀ u, Calm w u → Calls Try.prog 53 #[.slice A l.length d, .agg #[.int .i64 p', .int .i64 o', .int .i64 f', .int .i64 t, .int .i64 0, .string { data := #[] }]] u fun e w' => e = .returned (.int .i64 (wrErr l (fresh (p', o', f') { data := #[] } t))) ∧ Calm u w' := fun u hu => checkWrite_any A d l p' o' f' t 0 { data := #[] } u hn (hL.calm hu)
  by_cases he : wrErr l (fresh (p', o', f') { data := #[] } t) = 0
  rotate_left
  · have e1 : cutErr l (p', o', f') t = wrErr l (fresh (p', o', f') { data := #[] } t) := by unfold cutErr; rw [if_neg he]
    rw [e1, if_neg he]
    have b1 : (wrErr l (fresh (p', o', f') { data := #[] } t) != 0) = true := by simpa using he
    generalize wrErr l (fresh (p', o', f') { data := #[] } t) = x at b1 cW
    clear he e1 hL
    go_enter Try.func27, Try.ntmps27
    go_wp2_with (go_at_call 53; refine (cW _ hu).mono ?_; rintro e w1 ⟨rfl, hb1⟩; replace hy := (hb1.block (row3 hy).2.2.2).trans hy; replace hu := hu.call hb1; clear hb1; obtain ⟨y0, y1, y2, hys⟩ := row3 hy)
    go_ret2
    exact ⟨_, rfl, Sl.nil _ _ _, hu⟩
  rw [he] at cW
  have hgood := cut_good he
  obtain ⟨hG, hx, hlt⟩ := wrErr_zero.1 he
  have hlt' : latest l ≤ t := hlt
  have hpe := cutErr_eq he
  have hn4 := hG.1
  have cV : ∀ u, Calm w u → Calls Try.prog 46 #[.slice A l.length d, .agg #[.int .i64 p', .int .i64 o', .int .i64 f'], .int .i64 t] u fun e w' => e = .returned (.tuple #[.int .i64 (if hitB l (pos l (p', o', f') t) (p', o', f') t then (pos l (p', o', f') t : Int) - 1 else 0), .bool (hitB l (pos l (p', o', f') t) (p', o', f') t)]) ∧ Calm u w' :=
    fun u hu => liveRun_any A d l p' o' f' t u hn4 (hL.calm hu) hG.2.2
  have cC : ∀ u, Calm w u → Calls Try.prog 35 #[.slice A l.length d] u fun e w' => ∃ v, e = .returned v ∧ OwnR u.heap.size w' v l ∧ Calm u w' := fun u hu => clone_any A d l u hn4 (hL.calm hu)
  rcases hit_open hG (p', o', f') hlt' with ⟨h1, h2, hi, h3, h4⟩ | ⟨h1, h2⟩
  rotate_left
  · rw [h1] at cV
    simp only [Bool.false_eq_true, if_false] at cV
    have e1 : cutErr l (p', o', f') t = 4 := by rw [hpe, open_no h2]; rfl
    rw [e1, if_neg (by decide)]
    clear hgood hpe e1 h1 h2 hlt hlt' hx he hG hL
    go_enter Try.func27, Try.ntmps27
    go_wp2_with (first
      | (go_at_call 53; refine (cW _ hu).mono ?_; rintro e w1 ⟨rfl, hb1⟩; replace hy := (hb1.block (row3 hy).2.2.2).trans hy; replace hu := hu.call hb1; clear hb1; obtain ⟨y0, y1, y2, hys⟩ := row3 hy; clear cW)
      | (go_at_call 46; refine (cV _ hu).mono ?_; rintro e w1 ⟨rfl, hb1⟩; replace hy := (hb1.block (row3 hy).2.2.2).trans hy; replace hu := hu.call hb1; clear hb1; obtain ⟨y0, y1, y2, hys⟩ := row3 hy; clear cV))
    go_ret2
    exact ⟨_, rfl, Sl.nil _ _ _, hu⟩
  rw [h1, if_pos rfl, show (pos l (p', o', f') t : Int) - 1 = ((pos l (p', o', f') t - 1 : Nat) : Int) by omega] at cV
  have e1 : cutErr l (p', o', f') t = 0 := by rw [hpe, open_any hi h3]; rfl
  have e2 := cut_at (t := t) hi h3 h4
  rw [e1, if_pos rfl]
  rw [e2] at hgood ⊢
  generalize pos l (p', o', f') t - 1 = j at hi e2 hgood cV ⊢
  clear e1 e2 h1 h2 h3 h4 hpe hlt' hlt hx he hG
  obtain ⟨p, o, f, m, g, s, e4⟩ : ∃ p o f m g s, l[j] = ⟨p, o, f, m, g, s⟩ := ⟨_, _, _, _, _, _, rfl⟩
  have hjz : (j : Int) < (l.length : Int) := by omega
  have hj1 : (j : Int) + 1 ≤ 401 := by omega
  by_cases hm : m = t
  · rw [if_pos (by rw [e4]; exact hm)] at hgood ⊢
    have hwf := Lib.hid hgood.wf
    have E4 := Lib.hid e4
    clear hgood hL e4
    subst hm
    go_enter Try.func27, Try.ntmps27
    go_wp2_with (first
      | (go_at_call 53; refine (cW _ hu).mono ?_; rintro e w1 ⟨rfl, hb1⟩; replace hy := (hb1.block (row3 hy).2.2.2).trans hy; replace hu := hu.call hb1; clear hb1; obtain ⟨y0, y1, y2, hys⟩ := row3 hy; clear cW)
      | (go_at_call 46; refine (cV _ hu).mono ?_; rintro e w1 ⟨rfl, hb1⟩; replace hy := (hb1.block (row3 hy).2.2.2).trans hy; replace hu := hu.call hb1; clear hb1; obtain ⟨y0, y1, y2, hys⟩ := row3 hy; clear cV)
      | (go_at_call 35; refine (cC _ hu).mono ?_; rintro e w2 ⟨v, rfl, ho, hb1⟩; obtain ⟨g', cap, rfl⟩ := ho.some (by omega); have HO := Lib.hid ho; obtain ⟨⟨d0, d1, d2, d3, d4, d5⟩, hfz, hbg, hgl, _, hcn⟩ := ho.cell hi; rw [E4.out] at d3; have hu2 := hu.call hb1; have hw1 := Lib.hid hu.size; clear cC ho hfz d0 d1 d2 d4 d5 hb1)
      | (go_at_call 58; refine (delete_any _ g' j l.length cap l _ rfl hi hn4 HO.out).mono ?_; rintro e w3 ⟨v, rfl, ho9, hk9⟩; have HO9 := Lib.hid ho9; have hu9 := hk9 w hw1.out hu2; clear ho9 hk9))
    go_ret2
    exact ⟨_, rfl, HO9.out.sl hwf.out, hu9⟩
  · rw [if_neg (by rw [e4]; exact hm)] at hgood ⊢
    have hwf := Lib.hid hgood.wf
    have E4 := Lib.hid e4
    clear hgood hL e4
    go_enter Try.func27, Try.ntmps27
    go_wp2_with (first
      | (go_at_call 53; refine (cW _ hu).mono ?_; rintro e w1 ⟨rfl, hb1⟩; replace hy := (hb1.block (row3 hy).2.2.2).trans hy; replace hu := hu.call hb1; clear hb1; obtain ⟨y0, y1, y2, hys⟩ := row3 hy; clear cW)
      | (go_at_call 46; refine (cV _ hu).mono ?_; rintro e w1 ⟨rfl, hb1⟩; replace hy := (hb1.block (row3 hy).2.2.2).trans hy; replace hu := hu.call hb1; clear hb1; obtain ⟨y0, y1, y2, hys⟩ := row3 hy; clear cV)
      | (go_at_call 35; refine (cC _ hu).mono ?_; rintro e w2 ⟨v, rfl, ho, hb1⟩; obtain ⟨g', cap, rfl⟩ := ho.some (by omega); have HO := Lib.hid ho; obtain ⟨⟨d0, d1, d2, d3, d4, d5⟩, hfz, hbg, hgl, _, hcn⟩ := ho.cell hi; rw [E4.out] at d3; have hfz4 := hfz (j * 6 + 4); have hu2 := hu.call hb1; have hbw := Nat.le_trans hu.size hbg; clear cC ho hfz d0 d1 d2 d5 hb1))
    go_ret2
    exact ⟨_, rfl, (HO.out.set (x := { l[j] with g := t }) hi (by omega) (by rw [E4.out]; rfl)).sl hwf.out, hu2.setCell hbw _⟩
end Go.Proofs.Ytjjibnkooloagaa
