/- RunPast: the law's own walk. -/
import Derived.Test.YtjjibnkooloagaaLit
namespace Go.Proofs.Ytjjibnkooloagaa
open Go.ChangeShapes Go.WideShapes Go.ChangeAt Go.RowKit

theorem litPut : putErr [⟨0, 0, 1, 1, 0, { data := #[97] }⟩] (0, 0, 1) { data := #[98] } 2 = 0 ∧ putR [⟨0, 0, 1, 1, 0, { data := #[97] }⟩] (0, 0, 1) { data := #[98] } 2 = [⟨0, 0, 1, 1, 2, { data := #[97] }⟩, ⟨0, 0, 1, 2, 0, { data := #[98] }⟩] := ⟨by kernel_rfl, by kernel_rfl⟩

def zag (p o f m g : Int) (s : ByteArray) : Value := .agg #[.int .i64 p, .int .i64 o, .int .i64 f, .int .i64 m, .int .i64 g, .string s]

set_option maxRecDepth 100000 in
set_option maxHeartbeats 16000000 in
theorem runPast_walk (A : Option Addr) (d : Nat) (l : List El) (p1 o1 f1 p2 o2 f2 : Int) (s : ByteArray) (t u0 : Int) (w : World) (hn : l.length ≤ 9223372036854775807) (hL : Lies w A l) :
    Calls Try.prog 7 #[.slice A l.length d, .agg #[.int .i64 p1, .int .i64 o1, .int .i64 f1], .agg #[.int .i64 p2, .int .i64 o2, .int .i64 f2], .string s, .int .i64 t, .int .i64 u0] w fun e w' => e = .returned (.bool true) ∧ Calm w w' := by
  have hx : ((w.alloc (.cells #[.int .i64 p1, .int .i64 o1, .int .i64 f1] 30)).alloc (.cells #[.int .i64 p2, .int .i64 o2, .int .i64 f2] 30)).heap[w.heap.size]? = some (.cells #[.int .i64 p1, .int .i64 o1, .int .i64 f1] 30 (0, 0)) := heap_past _ (heap_new _ _)
  have hy : ((w.alloc (.cells #[.int .i64 p1, .int .i64 o1, .int .i64 f1] 30)).alloc (.cells #[.int .i64 p2, .int .i64 o2, .int .i64 f2] 30)).heap[w.heap.size + 1]? = some (.cells #[.int .i64 p2, .int .i64 o2, .int .i64 f2] 30 (0, 0)) := by simpa using heap_new (w.alloc (.cells #[.int .i64 p1, .int .i64 o1, .int .i64 f1] 30)) (.cells #[.int .i64 p2, .int .i64 o2, .int .i64 f2] 30)
  have hu := ((Calm.refl w).alloc (.cells #[.int .i64 p1, .int .i64 o1, .int .i64 f1] 30)).alloc (.cells #[.int .i64 p2, .int .i64 o2, .int .i64 f2] 30)
  have cL : ∀ u g, u.heap[g]? = some (.cells #[.int .i64 0, .int .i64 0, .int .i64 1, .int .i64 1, .int .i64 0, .string { data := #[97] }] 32 (0, 0)) → Calls Try.prog 25 #[.slice (some ⟨g, 0, none⟩) 1 1, .agg #[.int .i64 0, .int .i64 0, .int .i64 1], .string { data := #[98] }, .int .i64 2] u fun e w' => ∃ v, e = .returned (.tuple #[v, .int .i64 0]) ∧ Sl w' v [⟨0, 0, 1, 1, 2, { data := #[97] }⟩, ⟨0, 0, 1, 2, 0, { data := #[98] }⟩] ∧ Calm u w' := fun u g hg => by
    have h := runPut_any (some ⟨g, 0, none⟩) 1 [⟨0, 0, 1, 1, 0, { data := #[97] }⟩] 0 0 1 { data := #[98] } 2 u (by decide) (lit1 hg (by decide))
    rw [litPut.1, if_pos rfl, litPut.2] at h
    exact h
  have cP0 := fun u (hu : Calm w u) => runPut_any A d l p1 o1 f1 s t u hn (hL.calm hu)
  by_cases he : putErr l (p1, o1, f1) s t = 0
  rotate_left
  · rw [if_neg he] at cP0
    generalize putErr l (p1, o1, f1) s t = n at he cP0
    have cP : ∀ u, Calm w u → Calls Try.prog 25 #[.slice A l.length d, .agg #[.int .i64 p1, .int .i64 o1, .int .i64 f1], .string s, .int .i64 t] u fun e w' => ∃ v, e = .returned (.tuple #[v, .int .i64 n]) ∧ Sl w' v [] ∧ Calm u w' := cP0
    have b1 : (n != 0) = true := by simpa using he
    clear cP0 he hL hn
    go_enter Try.func7, Try.ntmps7
    go_wp2_with (first
      | (go_at_call 29; refine (at1k_any _ _ _).mono ?_; rintro e w1 ⟨rfl, hb1⟩; have hv := (Calm.refl _).call hb1; replace hx := (hv.block (row3 hx).2.2.2).trans hx; replace hy := (hv.block (row3 hy).2.2.2).trans hy; replace hu := hu.call hv; clear hb1 hv; obtain ⟨hx0, hx1, hx2, hxs⟩ := row3 hx; obtain ⟨hy0, hy1, hy2, hys⟩ := row3 hy)
      | (go_at_call 25; (with_reducible refine (cL _ _ (heap_new _ _)).mono ?_); rintro e w1 ⟨v, rfl, ⟨A9, c9, rfl, hl9, hL9⟩, hb1⟩; have hv := ((Calm.refl _).alloc _).call hb1; replace hx := (hv.block (row3 hx).2.2.2).trans hx; replace hy := (hv.block (row3 hy).2.2.2).trans hy; replace hu := hu.call hv; clear hb1 hv cL; obtain ⟨hx0, hx1, hx2, hxs⟩ := row3 hx; obtain ⟨hy0, hy1, hy2, hys⟩ := row3 hy)
      | (go_at_call 23; refine (equal_self A9 _ c9 _ _ _ hl9 (hL9.calm ((Calm.refl _).alloc _)) (lit2 (heap_new _ _) (by decide) (by decide))).mono ?_; rintro e w1 ⟨rfl, hb1⟩; have hv := ((Calm.refl _).alloc _).call hb1; replace hx := (hv.block (row3 hx).2.2.2).trans hx; replace hy := (hv.block (row3 hy).2.2.2).trans hy; replace hu := hu.call hv; clear hb1 hv hL9; obtain ⟨hx0, hx1, hx2, hxs⟩ := row3 hx; obtain ⟨hy0, hy1, hy2, hys⟩ := row3 hy)
      | (go_at_call 25; (with_reducible refine (cP _ hu).mono ?_); rintro e w1 ⟨v, rfl, ⟨A8, c8, rfl, hl8, hL8⟩, hb1⟩; have hv := (Calm.refl _).call hb1; replace hx := (hv.block (row3 hx).2.2.2).trans hx; replace hy := (hv.block (row3 hy).2.2.2).trans hy; replace hu := hu.call hv; clear hb1 hv cP; obtain ⟨hx0, hx1, hx2, hxs⟩ := row3 hx; obtain ⟨hy0, hy1, hy2, hys⟩ := row3 hy))
    go_ret
    exact ⟨rfl, hu⟩
  rw [he, if_pos rfl] at cP0
  have cP : ∀ u, Calm w u → Calls Try.prog 25 #[.slice A l.length d, .agg #[.int .i64 p1, .int .i64 o1, .int .i64 f1], .string s, .int .i64 t] u fun e w' => ∃ v, e = .returned (.tuple #[v, .int .i64 0]) ∧ Sl w' v (putR l (p1, o1, f1) s t) ∧ Calm u w' := cP0
  have hw : wrErr l (fresh (p1, o1, f1) s t) = 0 := by
    unfold putErr at he
    by_cases h : wrErr l (fresh (p1, o1, f1) s t) = 0
    · exact h
    · rw [if_neg h] at he; exact absurd he h
  have hM := put_good hw he
  have hG := (wrErr_zero.1 hw).1
  have hRE := runErr_zero.2 hM
  have hts := sizes hw
  have ht1 : 1 ≤ t := hts.2.2
  have ht2 : t ≤ 2147483647 := hts.2.1
  obtain ⟨u, hu1, hu2⟩ : ∃ u, u < t ∧ ((u0 ≤ t - 1 ∧ u = u0) ∨ (t - 1 < u0 ∧ u = t - 1)) := by
    by_cases h : u0 ≤ t - 1
    · exact ⟨u0, by omega, .inl ⟨h, rfl⟩⟩
    · exact ⟨t - 1, by omega, .inr ⟨by omega, rfl⟩⟩
  obtain ⟨q1, q2, q3⟩ := past_at (u := u) hw hM hu1
  have e1 : atErr (putR l (p1, o1, f1) s t) (p1, o1, f1) u = atErr l (p1, o1, f1) u := by rw [atErr_good hM, atErr_good hG, q1]
  have e2 : (atVal (putR l (p1, o1, f1) s t) (p1, o1, f1) u).m = (atVal l (p1, o1, f1) u).m ∧ (atVal (putR l (p1, o1, f1) s t) (p1, o1, f1) u).s = (atVal l (p1, o1, f1) u).s := by
    rw [atVal_good hM, atVal_good hG]
    split
    · exact ⟨q2, q3⟩
    · exact ⟨rfl, rfl⟩
  have e3 : (p2, o2, f2) ≠ (p1, o1, f1) → atErr (putR l (p1, o1, f1) s t) (p2, o2, f2) t = atErr l (p2, o2, f2) t ∧ atVal (putR l (p1, o1, f1) s t) (p2, o2, f2) t = atVal l (p2, o2, f2) t := fun h => by
    rw [atErr_good hM, atErr_good hG, atVal_good hM, atVal_good hG, other_at hw hM h]; exact ⟨rfl, rfl⟩
  have a1 := fun w2 (hu : Calm w w2) => runAt_any A d l p1 o1 f1 u w2 hn (hL.calm hu)
  have a3 := fun w2 (hu : Calm w w2) => runAt_any A d l p2 o2 f2 t w2 hn (hL.calm hu)
  have a2 := fun A2 c2 w2 (h : (putR l (p1, o1, f1) s t).length ≤ 9223372036854775807) (hL : Lies w2 A2 (putR l (p1, o1, f1) s t)) => runAt_any A2 c2 (putR l (p1, o1, f1) s t) p1 o1 f1 u w2 h hL
  have a4 := fun A2 c2 w2 (h : (putR l (p1, o1, f1) s t).length ≤ 9223372036854775807) (hL : Lies w2 A2 (putR l (p1, o1, f1) s t)) => runAt_any A2 c2 (putR l (p1, o1, f1) s t) p2 o2 f2 t w2 h hL
  have a5 := fun A2 c2 w2 (h : (putR l (p1, o1, f1) s t).length ≤ 9223372036854775807) (hL : Lies w2 A2 (putR l (p1, o1, f1) s t)) => runCheck_any A2 c2 (putR l (p1, o1, f1) s t) w2 h hL
  have hMl : (putR l (p1, o1, f1) s t).length ≤ 9223372036854775807 := by have := hM.1; omega
  rw [hRE] at a5
  rw [e1] at a2
  obtain ⟨e4, e5⟩ := e2
  generalize atErr l (p1, o1, f1) u = n1 at a1 a2
  generalize atVal (putR l (p1, o1, f1) s t) (p1, o1, f1) u = y at a2 e4 e5
  generalize atVal l (p1, o1, f1) u = x at a1 e4 e5
  generalize atErr (putR l (p1, o1, f1) s t) (p2, o2, f2) t = n4 at a4 e3
  generalize atErr l (p2, o2, f2) t = n3 at a3 e3
  generalize atVal (putR l (p1, o1, f1) s t) (p2, o2, f2) t = z4 at a4 e3
  generalize atVal l (p2, o2, f2) t = z3 at a3 e3
  clear q1 q2 q3 e1 hRE hM hG hw he cP0 hts hL
  generalize putR l (p1, o1, f1) s t = M at *
  obtain ⟨xp, xo, xf, xm, xg, xs⟩ := x
  obtain ⟨yp, yo, yf, ym, yg, ys⟩ := y
  obtain ⟨cp, co, cf, cm, cg, cs⟩ := z3
  obtain ⟨dp, do', df, dm, dg, ds⟩ := z4
  simp only at e4 e5
  subst e4
  subst e5
  have cA1 : ∀ w2, Calm w w2 → Calls Try.prog 19 #[.slice A l.length d, .agg #[.int .i64 p1, .int .i64 o1, .int .i64 f1], .int .i64 u] w2 fun e w' => e = .returned (.tuple #[.agg #[.int .i64 xp, .int .i64 xo, .int .i64 xf, .int .i64 ym, .int .i64 xg, .string ys], .int .i64 n1]) ∧ Calm w2 w' := a1
  have cA3 : ∀ w2, Calm w w2 → Calls Try.prog 19 #[.slice A l.length d, .agg #[.int .i64 p2, .int .i64 o2, .int .i64 f2], .int .i64 t] w2 fun e w' => e = .returned (.tuple #[.agg #[.int .i64 cp, .int .i64 co, .int .i64 cf, .int .i64 cm, .int .i64 cg, .string cs], .int .i64 n3]) ∧ Calm w2 w' := a3
  have cA2 : ∀ w2, Calm w w2 → ∀ A2 c2, Lies w2 A2 M → Calls Try.prog 19 #[.slice A2 M.length c2, .agg #[.int .i64 p1, .int .i64 o1, .int .i64 f1], .int .i64 u] w2 fun e w' => e = .returned (.tuple #[.agg #[.int .i64 yp, .int .i64 yo, .int .i64 yf, .int .i64 ym, .int .i64 yg, .string ys], .int .i64 n1]) ∧ Calm w2 w' := fun w2 _ A2 c2 h => a2 A2 c2 w2 hMl h
  have cA4 : ∀ w2, Calm w w2 → ∀ A2 c2, Lies w2 A2 M → Calls Try.prog 19 #[.slice A2 M.length c2, .agg #[.int .i64 p2, .int .i64 o2, .int .i64 f2], .int .i64 t] w2 fun e w' => e = .returned (.tuple #[.agg #[.int .i64 dp, .int .i64 do', .int .i64 df, .int .i64 dm, .int .i64 dg, .string ds], .int .i64 n4]) ∧ Calm w2 w' := fun w2 _ A2 c2 h => a4 A2 c2 w2 hMl h
  have cC : ∀ w2 A2 c2, Lies w2 A2 M → Calls Try.prog 17 #[.slice A2 M.length c2] w2 fun e w' => e = .returned (.int .i64 0) ∧ Calm w2 w' := fun w2 A2 c2 h => a5 A2 c2 w2 hMl h
  have b5 : (n1 != n1) = false := by simp
  have b6 : (n3 == n3) = true := by simp
  clear a1 a2 a3 a4 a5 hMl hn hu1
  have hk : (p2 = p1 ∧ o2 = o1 ∧ f2 = f1) ∨ (¬ p2 = p1 ∧ n4 = n3 ∧ dp = cp ∧ do' = co ∧ df = cf ∧ dm = cm ∧ dg = cg ∧ ds = cs) ∨ (p2 = p1 ∧ ¬ o2 = o1 ∧ n4 = n3 ∧ dp = cp ∧ do' = co ∧ df = cf ∧ dm = cm ∧ dg = cg ∧ ds = cs) ∨ (p2 = p1 ∧ o2 = o1 ∧ ¬ f2 = f1 ∧ n4 = n3 ∧ dp = cp ∧ do' = co ∧ df = cf ∧ dm = cm ∧ dg = cg ∧ ds = cs) := by
    by_cases h1 : p2 = p1
    · by_cases h2 : o2 = o1
      · by_cases h3 : f2 = f1
        · exact .inl ⟨h1, h2, h3⟩
        · obtain ⟨r1, r2⟩ := e3 (by simp [h3])
          injection r2 with r2 r3 r4 r5 r6 r7
          exact .inr (.inr (.inr ⟨h1, h2, h3, r1, r2, r3, r4, r5, r6, r7⟩))
      · obtain ⟨r1, r2⟩ := e3 (by simp [h2])
        injection r2 with r2 r3 r4 r5 r6 r7
        exact .inr (.inr (.inl ⟨h1, h2, r1, r2, r3, r4, r5, r6, r7⟩))
    · obtain ⟨r1, r2⟩ := e3 (by simp [h1])
      injection r2 with r2 r3 r4 r5 r6 r7
      exact .inr (.inl ⟨h1, r1, r2, r3, r4, r5, r6, r7⟩)
  clear e3
  rcases hu2 with ⟨hu2, rfl⟩ | ⟨hu2, rfl⟩
  all_goals
    rcases hk with ⟨rfl, rfl, rfl⟩ | ⟨hk1, rfl, rfl, rfl, rfl, rfl, rfl, rfl⟩ | ⟨rfl, hk1, rfl, rfl, rfl, rfl, rfl, rfl, rfl⟩ | ⟨rfl, rfl, hk1, rfl, rfl, rfl, rfl, rfl, rfl, rfl⟩
    all_goals
      go_enter Try.func7, Try.ntmps7
      go_wp2_with (first
        | (go_at_call 29; refine (at1k_any _ _ _).mono ?_; rintro e w1 ⟨rfl, hb1⟩; have hv := (Calm.refl _).call hb1; replace hx := (hv.block (row3 hx).2.2.2).trans hx; replace hy := (hv.block (row3 hy).2.2.2).trans hy; replace hu := hu.call hv; clear hb1 hv; obtain ⟨hx0, hx1, hx2, hxs⟩ := row3 hx; obtain ⟨hy0, hy1, hy2, hys⟩ := row3 hy)
        | (go_at_call 25; (with_reducible refine (cL _ _ (heap_new _ _)).mono ?_); rintro e w1 ⟨v, rfl, ⟨A9, c9, rfl, hl9, hL9⟩, hb1⟩; have hv := ((Calm.refl _).alloc _).call hb1; replace hx := (hv.block (row3 hx).2.2.2).trans hx; replace hy := (hv.block (row3 hy).2.2.2).trans hy; replace hu := hu.call hv; clear hb1 hv cL; obtain ⟨hx0, hx1, hx2, hxs⟩ := row3 hx; obtain ⟨hy0, hy1, hy2, hys⟩ := row3 hy)
        | (go_at_call 23; refine (equal_self A9 _ c9 _ _ _ hl9 (hL9.calm ((Calm.refl _).alloc _)) (lit2 (heap_new _ _) (by decide) (by decide))).mono ?_; rintro e w1 ⟨rfl, hb1⟩; have hv := ((Calm.refl _).alloc _).call hb1; replace hx := (hv.block (row3 hx).2.2.2).trans hx; replace hy := (hv.block (row3 hy).2.2.2).trans hy; replace hu := hu.call hv; clear hb1 hv hL9; obtain ⟨hx0, hx1, hx2, hxs⟩ := row3 hx; obtain ⟨hy0, hy1, hy2, hys⟩ := row3 hy)
        | (go_at_call 25; (with_reducible refine (cP _ hu).mono ?_); rintro e w1 ⟨v, rfl, ⟨A8, c8, rfl, hl8, hL8⟩, hb1⟩; have hv := (Calm.refl _).call hb1; replace hx := (hv.block (row3 hx).2.2.2).trans hx; replace hy := (hv.block (row3 hy).2.2.2).trans hy; replace hu := hu.call hv; clear hb1 hv cP; obtain ⟨hx0, hx1, hx2, hxs⟩ := row3 hx; obtain ⟨hy0, hy1, hy2, hys⟩ := row3 hy)
        | (go_at_call 19; (with_reducible refine (cA1 _ hu).mono ?_); rintro e w1 ⟨rfl, hb1⟩; have hv := (Calm.refl _).call hb1; replace hx := (hv.block (row3 hx).2.2.2).trans hx; replace hy := (hv.block (row3 hy).2.2.2).trans hy; replace hL8 := hL8.calm hv; replace hu := hu.call hv; clear hb1 hv cA1; obtain ⟨hx0, hx1, hx2, hxs⟩ := row3 hx; obtain ⟨hy0, hy1, hy2, hys⟩ := row3 hy)
        | (go_at_call 19; (with_reducible refine (cA2 _ (hu.alloc _) _ _ (hL8.calm ((Calm.refl _).alloc _))).mono ?_); rintro e w1 ⟨rfl, hb1⟩; have hv := ((Calm.refl _).alloc _).call hb1; have ha := (hb1.block (by simp)).trans (heap_new _ _); replace hx := (hv.block (row3 hx).2.2.2).trans hx; replace hy := (hv.block (row3 hy).2.2.2).trans hy; replace hL8 := hL8.calm hv; replace hu := hu.call hv; clear hb1 hv cA2; obtain ⟨hx0, hx1, hx2, hxs⟩ := row3 hx; obtain ⟨hy0, hy1, hy2, hys⟩ := row3 hy; obtain ⟨ha0, ha1, ha2, ha3, ha4, ha5, has⟩ := row6 ha)
        | (go_at_call 19; (with_reducible refine (cA3 _ (hu.alloc _)).mono ?_); rintro e w1 ⟨rfl, hb1⟩; have hv := ((Calm.refl _).alloc _).call hb1; have hb := (hb1.block (by simp)).trans (heap_new _ _); replace hx := (hv.block (row3 hx).2.2.2).trans hx; replace hy := (hv.block (row3 hy).2.2.2).trans hy; replace ha := (hv.block (row6 ha).2.2.2.2.2.2).trans ha; replace hL8 := hL8.calm hv; replace hu := hu.call hv; clear hb1 hv cA3; obtain ⟨hx0, hx1, hx2, hxs⟩ := row3 hx; obtain ⟨hy0, hy1, hy2, hys⟩ := row3 hy; obtain ⟨ha0, ha1, ha2, ha3, ha4, ha5, has⟩ := row6 ha; obtain ⟨hb0, hb1, hb2, hb3, hb4, hb5, hbs⟩ := row6 hb)
        | (go_at_call 19; (with_reducible refine (cA4 _ (hu.alloc _) _ _ (hL8.calm ((Calm.refl _).alloc _))).mono ?_); rintro e w1 ⟨rfl, hb1⟩; have hv := ((Calm.refl _).alloc _).call hb1; have hc := (hb1.block (by simp)).trans (heap_new _ _); replace hx := (hv.block (row3 hx).2.2.2).trans hx; replace hy := (hv.block (row3 hy).2.2.2).trans hy; replace ha := (hv.block (row6 ha).2.2.2.2.2.2).trans ha; replace hb := (hv.block (row6 hb).2.2.2.2.2.2).trans hb; replace hL8 := hL8.calm hv; replace hu := hu.call hv; clear hb1 hv cA4; obtain ⟨hx0, hx1, hx2, hxs⟩ := row3 hx; obtain ⟨hy0, hy1, hy2, hys⟩ := row3 hy; obtain ⟨ha0, ha1, ha2, ha3, ha4, ha5, has⟩ := row6 ha; obtain ⟨hb0, hb1, hb2, hb3, hb4, hb5, hbs⟩ := row6 hb; obtain ⟨hc0, hc1, hc2, hc3, hc4, hc5, hcs⟩ := row6 hc)
        | (go_at_call 17; refine (cC _ _ _ (hL8.calm ((Calm.refl _).alloc _))).mono ?_; rintro e w1 ⟨rfl, hb1⟩; have hv := ((Calm.refl _).alloc _).call hb1; have hd := (hb1.block (by simp)).trans (heap_new _ _); replace hx := (hv.block (row3 hx).2.2.2).trans hx; replace hy := (hv.block (row3 hy).2.2.2).trans hy; replace ha := (hv.block (row6 ha).2.2.2.2.2.2).trans ha; replace hb := (hv.block (row6 hb).2.2.2.2.2.2).trans hb; replace hc := (hv.block (row6 hc).2.2.2.2.2.2).trans hc; replace hu := hu.call hv; clear hb1 hv cC hL8; obtain ⟨hx0, hx1, hx2, hxs⟩ := row3 hx; obtain ⟨hy0, hy1, hy2, hys⟩ := row3 hy; obtain ⟨ha0, ha1, ha2, ha3, ha4, ha5, has⟩ := row6 ha; obtain ⟨hb0, hb1, hb2, hb3, hb4, hb5, hbs⟩ := row6 hb; obtain ⟨hc0, hc1, hc2, hc3, hc4, hc5, hcs⟩ := row6 hc; obtain ⟨hd0, hd1, hd2, hd3, hd4, hd5, hds⟩ := row6 hd))
      go_ret
      exact ⟨rfl, hu⟩
end Go.Proofs.Ytjjibnkooloagaa
