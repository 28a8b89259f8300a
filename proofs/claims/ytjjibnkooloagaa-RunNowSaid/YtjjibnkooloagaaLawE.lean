/- RunNow: the law's own walk. -/
import Derived.Test.YtjjibnkooloagaaLit
namespace Go.Proofs.Ytjjibnkooloagaa
open Go.ChangeShapes Go.WideShapes Go.ChangeAt Go.RowKit

theorem litCut1 : cutErr [⟨0, 0, 1, 1, 0, { data := #[97] }⟩] (0, 0, 1) 1 = 0 ∧ cutR [⟨0, 0, 1, 1, 0, { data := #[97] }⟩] (0, 0, 1) 1 = [] := ⟨by kernel_rfl, by kernel_rfl⟩
theorem litPut0 : putErr [] (0, 0, 1) { data := #[97] } 1 = 0 ∧ putR [] (0, 0, 1) { data := #[97] } 1 = [⟨0, 0, 1, 1, 0, { data := #[97] }⟩] := ⟨by kernel_rfl, by kernel_rfl⟩

set_option maxRecDepth 100000 in
set_option maxHeartbeats 16000000 in
theorem runNow_walk (A : Option Addr) (d : Nat) (l : List El) (p o f : Int) (s : ByteArray) (t u0 : Int) (w : World) (hn : l.length ≤ 9223372036854775807) (hL : Lies w A l) :
    Calls Try.prog 8 #[.slice A l.length d, .agg #[.int .i64 p, .int .i64 o, .int .i64 f], .string s, .int .i64 t, .int .i64 u0] w fun e w' => e = .returned (.bool true) ∧ Calm w w' := by
  have hx := heap_new w (.cells #[.int .i64 p, .int .i64 o, .int .i64 f] 30)
  have hu := (Calm.refl w).alloc (.cells #[.int .i64 p, .int .i64 o, .int .i64 f] 30)
  have cL : ∀ u g, u.heap[g]? = some (.cells #[.int .i64 0, .int .i64 0, .int .i64 1, .int .i64 1, .int .i64 0, .string { data := #[97] }] 32 (0, 0)) → Calls Try.prog 27 #[.slice (some ⟨g, 0, none⟩) 1 1, .agg #[.int .i64 0, .int .i64 0, .int .i64 1], .int .i64 1] u fun e w' => ∃ A9 c9, e = .returned (.tuple #[.slice A9 0 c9, .int .i64 0]) ∧ Calm u w' := fun u g hg => by
    have h := runCut_any (some ⟨g, 0, none⟩) 1 [⟨0, 0, 1, 1, 0, { data := #[97] }⟩] 0 0 1 1 u (by decide) (lit1 hg (by decide))
    rw [litCut1.1, if_pos rfl, litCut1.2] at h
    refine Calls.mono h ?_
    rintro e w' ⟨v, rfl, ⟨A9, c9, rfl, _, _⟩, hc⟩
    exact ⟨A9, c9, rfl, hc⟩
  have cN : ∀ u, Calls Try.prog 25 #[.slice none 0 0, .agg #[.int .i64 0, .int .i64 0, .int .i64 1], .string { data := #[97] }, .int .i64 1] u fun e w' => ∃ A9 c9, e = .returned (.tuple #[.slice A9 1 c9, .int .i64 0]) ∧ Lies w' A9 [⟨0, 0, 1, 1, 0, { data := #[97] }⟩] ∧ Calm u w' := fun u => by
    have h := runPut_any none 0 [] 0 0 1 { data := #[97] } 1 u (by decide) ⟨fun e he => (by cases he), fun h => absurd h (by decide)⟩
    rw [litPut0.1, if_pos rfl, litPut0.2] at h
    refine Calls.mono h ?_
    rintro e w' ⟨v, rfl, ⟨A9, c9, rfl, _, hL⟩, hc⟩
    exact ⟨A9, c9, rfl, hL, hc⟩
  obtain ⟨u, hut, hu2⟩ : ∃ u, t ≤ u ∧ ((t ≤ u0 ∧ u = u0) ∨ (u0 < t ∧ u = t)) := by
    by_cases h : t ≤ u0
    · exact ⟨u0, h, .inl ⟨h, rfl⟩⟩
    · exact ⟨t, by omega, .inr ⟨by omega, rfl⟩⟩
  have hP : ∃ (n : Int) (M : List El), (∀ w2, Calm w w2 → Calls Try.prog 25 #[.slice A l.length d, .agg #[.int .i64 p, .int .i64 o, .int .i64 f], .string s, .int .i64 t] w2 fun e w' => ∃ A8 c8, e = .returned (.tuple #[.slice A8 M.length c8, .int .i64 n]) ∧ Lies w' A8 M ∧ Calm w2 w') ∧ ((n = 0 ∧ ∃ (yp yo yf ym : Int), ∀ w2 A8 c8, Lies w2 A8 M → Calls Try.prog 19 #[.slice A8 M.length c8, .agg #[.int .i64 p, .int .i64 o, .int .i64 f], .int .i64 u] w2 fun e w' => e = .returned (.tuple #[.agg #[.int .i64 yp, .int .i64 yo, .int .i64 yf, .int .i64 ym, .int .i64 0, .string s], .int .i64 0]) ∧ Calm w2 w') ∨ (n == 0) = false) := by
    refine ⟨putErr l (p, o, f) s t, if putErr l (p, o, f) s t = 0 then putR l (p, o, f) s t else [], fun w2 hu => Calls.mono (runPut_any A d l p o f s t w2 hn (hL.calm hu)) ?_, ?_⟩
    · rintro e w' ⟨v, rfl, ⟨A8, c8, rfl, _, hL⟩, hc⟩
      exact ⟨A8, c8, rfl, hL, hc⟩
    by_cases he : putErr l (p, o, f) s t = 0
    · left
      refine ⟨he, ?_⟩
      rw [if_pos he]
      have hw : wrErr l (fresh (p, o, f) s t) = 0 := by
        unfold putErr at he
        by_cases h : wrErr l (fresh (p, o, f) s t) = 0
        · exact h
        · rw [if_neg h] at he; exact absurd he h
      have hM := put_good hw he
      obtain ⟨⟨xp, xo, xf, xm, xg, xs⟩, h1, h2, h3⟩ := now_at (u := u) hw hM hut
      simp only at h2 h3
      subst h2 h3
      have hk : kErr (p, o, f) = 0 := by
        have h2 := (wrErr_zero.1 hw).2.1
        unfold El.err at h2
        rw [elemErr_zero] at h2
        exact h2.1
      refine ⟨xp, xo, xf, xm, fun w2 A8 c8 h => ?_⟩
      have h4 := runAt_any A8 c8 (putR l (p, o, f) xs t) p o f u w2 (by have := hM.1; omega) h
      rw [atErr_good hM, atVal_good hM, if_pos hk, if_pos hk, h1] at h4
      exact h4
    · right; simpa using he
  have hC : ∃ (n : Int) (N : List El), (∀ w2, Calm w w2 → Calls Try.prog 27 #[.slice A l.length d, .agg #[.int .i64 p, .int .i64 o, .int .i64 f], .int .i64 t] w2 fun e w' => ∃ A7 c7, e = .returned (.tuple #[.slice A7 N.length c7, .int .i64 n]) ∧ Lies w' A7 N ∧ Calm w2 w') ∧ ((n = 0 ∧ (∃ (yp yo yf ym yg : Int) (ys : ByteArray), ∀ w2 A7 c7, Lies w2 A7 N → Calls Try.prog 19 #[.slice A7 N.length c7, .agg #[.int .i64 p, .int .i64 o, .int .i64 f], .int .i64 u] w2 fun e w' => e = .returned (.tuple #[.agg #[.int .i64 yp, .int .i64 yo, .int .i64 yf, .int .i64 ym, .int .i64 yg, .string ys], .int .i64 4]) ∧ Calm w2 w') ∧ ∀ w2 A7 c7, Lies w2 A7 N → Calls Try.prog 17 #[.slice A7 N.length c7] w2 fun e w' => e = .returned (.int .i64 0) ∧ Calm w2 w') ∨ ((n != 0) = true ∧ N = [])) := by
    refine ⟨cutErr l (p, o, f) t, if cutErr l (p, o, f) t = 0 then cutR l (p, o, f) t else [], fun w2 hu => Calls.mono (runCut_any A d l p o f t w2 hn (hL.calm hu)) ?_, ?_⟩
    · rintro e w' ⟨v, rfl, ⟨A8, c8, rfl, _, hL⟩, hc⟩
      exact ⟨A8, c8, rfl, hL, hc⟩
    by_cases he : cutErr l (p, o, f) t = 0
    · left
      refine ⟨he, ?_⟩
      rw [if_pos he]
      have hw : wrErr l (fresh (p, o, f) { data := #[] } t) = 0 := by
        unfold cutErr at he
        by_cases h : wrErr l (fresh (p, o, f) { data := #[] } t) = 0
        · exact h
        · rw [if_neg h] at he; exact absurd he h
      have hM := cut_good hw
      have h1 := gone_at (u := u) hw hut
      have hk : kErr (p, o, f) = 0 := by
        have h2 := (wrErr_zero.1 hw).2.1
        unfold El.err at h2
        rw [elemErr_zero] at h2
        exact h2.1
      refine ⟨⟨0, 0, 0, 0, 0, { data := #[] }, fun w2 A8 c8 h => ?_⟩, fun w2 A8 c8 h => ?_⟩
      · have h4 := runAt_any A8 c8 (cutR l (p, o, f) t) p o f u w2 (by have := hM.1; omega) h
        rw [atErr_good hM, atVal_good hM, if_pos hk, if_pos hk, h1] at h4
        exact h4
      · have h4 := runCheck_any A8 c8 (cutR l (p, o, f) t) w2 (by have := hM.1; omega) h
        rw [runErr_zero.2 hM] at h4
        exact h4
    · right; exact ⟨by simpa using he, if_neg he⟩
  clear hL hn
  obtain ⟨n, M, cP, hP⟩ := hP
  obtain ⟨n', N, cC, hC⟩ := hC
  rcases hP with ⟨rfl, yp, yo, yf, ym, cA⟩ | b1
  all_goals
    rcases hC with ⟨rfl, ⟨zp, zo, zf, zm, zg, zs, cB⟩, cK⟩ | ⟨b2, rfl⟩
    all_goals
      rcases hu2 with ⟨hu2, rfl⟩ | ⟨hu2, rfl⟩
      all_goals
        go_enter Try.func8, Try.ntmps8
        go_wp2_with (first
          | (go_at_call 29; refine (at1k_any _ _ _).mono ?_; rintro e w1 ⟨rfl, hb1⟩; have hv := (Calm.refl _).call hb1; replace hL9 := hL9.calm hv; replace hx := (hv.block (row3 hx).2.2.2).trans hx; replace hu := hu.call hv; clear hb1 hv; obtain ⟨hx0, hx1, hx2, hxs⟩ := row3 hx)
          | (go_at_call 29; refine (at1k_any _ _ _).mono ?_; rintro e w1 ⟨rfl, hb1⟩; have hv := (Calm.refl _).call hb1; replace hx := (hv.block (row3 hx).2.2.2).trans hx; replace hu := hu.call hv; clear hb1 hv; obtain ⟨hx0, hx1, hx2, hxs⟩ := row3 hx)
          | (go_at_call 27; (with_reducible refine (cL _ _ (heap_new _ _)).mono ?_); rintro e w1 ⟨A9, c9, rfl, hb1⟩; have hv := ((Calm.refl _).alloc _).call hb1; replace hx := (hv.block (row3 hx).2.2.2).trans hx; replace hu := hu.call hv; clear hb1 hv cL; obtain ⟨hx0, hx1, hx2, hxs⟩ := row3 hx)
          | (go_at_call 25; (with_reducible refine (cN _).mono ?_); rintro e w1 ⟨A9, c9, rfl, hL9, hb1⟩; have hv := (Calm.refl _).call hb1; replace hx := (hv.block (row3 hx).2.2.2).trans hx; replace hu := hu.call hv; clear hb1 hv cN; obtain ⟨hx0, hx1, hx2, hxs⟩ := row3 hx)
          | (go_at_call 23; refine (equal_self A9 _ c9 _ [⟨0, 0, 1, 1, 0, { data := #[97] }⟩] _ (by decide) (hL9.calm ((Calm.refl _).alloc _)) (lit1 (heap_new _ _) (by decide))).mono ?_; rintro e w1 ⟨rfl, hb1⟩; have hv := ((Calm.refl _).alloc _).call hb1; replace hx := (hv.block (row3 hx).2.2.2).trans hx; replace hu := hu.call hv; clear hb1 hv hL9; obtain ⟨hx0, hx1, hx2, hxs⟩ := row3 hx)
          | (go_at_call 25; (with_reducible refine (cP _ hu).mono ?_); rintro e w1 ⟨A8, c8, rfl, hL8, hb1⟩; have hv := (Calm.refl _).call hb1; replace hx := (hv.block (row3 hx).2.2.2).trans hx; replace hu := hu.call hv; clear hb1 hv cP; obtain ⟨hx0, hx1, hx2, hxs⟩ := row3 hx)
          | (go_at_call 19; (with_reducible refine (cA _ _ _ hL8).mono ?_); rintro e w1 ⟨rfl, hb1⟩; have hv := (Calm.refl _).call hb1; replace hx := (hv.block (row3 hx).2.2.2).trans hx; replace hu := hu.call hv; clear hb1 hv cA hL8; obtain ⟨hx0, hx1, hx2, hxs⟩ := row3 hx)
          | (go_at_call 27; (with_reducible refine (cC _ hu).mono ?_); rintro e w1 ⟨A7, c7, rfl, hL7, hb1⟩; have hv := (Calm.refl _).call hb1; replace hx := (hv.block (row3 hx).2.2.2).trans hx; replace hu := hu.call hv; clear hb1 hv cC; obtain ⟨hx0, hx1, hx2, hxs⟩ := row3 hx)
          | (go_at_call 27; (with_reducible refine (cC _ (hu.alloc _)).mono ?_); rintro e w1 ⟨A7, c7, rfl, hL7, hb1⟩; have hv := ((Calm.refl _).alloc _).call hb1; replace hx := (hv.block (row3 hx).2.2.2).trans hx; replace hu := hu.call hv; clear hb1 hv cC; obtain ⟨hx0, hx1, hx2, hxs⟩ := row3 hx)
          | (go_at_call 19; (with_reducible refine (cB _ _ _ hL7).mono ?_); rintro e w1 ⟨rfl, hb1⟩; have hv := (Calm.refl _).call hb1; replace hL7 := hL7.calm hv; replace hu := hu.call hv; clear hb1 hv cB)
          | (go_at_call 17; refine (cK _ _ _ (hL7.calm ((Calm.refl _).alloc _))).mono ?_; rintro e w1 ⟨rfl, hb1⟩; have hv := ((Calm.refl _).alloc _).call hb1; replace hu := hu.call hv; clear hb1 hv cK hL7))
        go_ret
        exact ⟨rfl, hu⟩
end Go.Proofs.Ytjjibnkooloagaa
