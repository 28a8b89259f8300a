/- RunReads: the law's own walk. -/
import Derived.Test.YtjjibnkooloagaaRefAt
import Derived.Test.YtjjibnkooloagaaRefRange
import Derived.Test.YtjjibnkooloagaaEqual
import Derived.Test.YtjjibnkooloagaaAsked
import Derived.Test.YtjjibnkooloagaaRead
namespace Go.Proofs.Ytjjibnkooloagaa
open Go.ChangeShapes Go.WideShapes Go.ChangeAt Go.RowKit

set_option maxRecDepth 100000 in
set_option maxHeartbeats 16000000 in
theorem runReads_walk (A : Option Addr) (d : Nat) (l : List El) (p1 o1 f1 p2 o2 f2 p3 o3 f3 t : Int) (w : World) (hn : l.length ≤ 9223372036854775807) (hL : Lies w A l) :
    Calls Try.prog 4 #[.slice A l.length d, .agg #[.int .i64 p1, .int .i64 o1, .int .i64 f1], .agg #[.int .i64 p2, .int .i64 o2, .int .i64 f2], .agg #[.int .i64 p3, .int .i64 o3, .int .i64 f3], .int .i64 t] w fun e w' => e = .returned (.bool true) ∧ Calm w w' := by
  have hx : (((w.alloc (.cells #[.int .i64 p1, .int .i64 o1, .int .i64 f1] 30)).alloc (.cells #[.int .i64 p2, .int .i64 o2, .int .i64 f2] 30)).alloc (.cells #[.int .i64 p3, .int .i64 o3, .int .i64 f3] 30)).heap[w.heap.size]? = some (.cells #[.int .i64 p1, .int .i64 o1, .int .i64 f1] 30 (0, 0)) := heap_past _ (heap_past _ (heap_new _ _))
  have hy : (((w.alloc (.cells #[.int .i64 p1, .int .i64 o1, .int .i64 f1] 30)).alloc (.cells #[.int .i64 p2, .int .i64 o2, .int .i64 f2] 30)).alloc (.cells #[.int .i64 p3, .int .i64 o3, .int .i64 f3] 30)).heap[w.heap.size + 1]? = some (.cells #[.int .i64 p2, .int .i64 o2, .int .i64 f2] 30 (0, 0)) := heap_past _ (by simpa using heap_new (w.alloc (.cells #[.int .i64 p1, .int .i64 o1, .int .i64 f1] 30)) (.cells #[.int .i64 p2, .int .i64 o2, .int .i64 f2] 30))
  have hz : (((w.alloc (.cells #[.int .i64 p1, .int .i64 o1, .int .i64 f1] 30)).alloc (.cells #[.int .i64 p2, .int .i64 o2, .int .i64 f2] 30)).alloc (.cells #[.int .i64 p3, .int .i64 o3, .int .i64 f3] 30)).heap[w.heap.size + 1 + 1]? = some (.cells #[.int .i64 p3, .int .i64 o3, .int .i64 f3] 30 (0, 0)) := by simpa using heap_new ((w.alloc (.cells #[.int .i64 p1, .int .i64 o1, .int .i64 f1] 30)).alloc (.cells #[.int .i64 p2, .int .i64 o2, .int .i64 f2] 30)) (.cells #[.int .i64 p3, .int .i64 o3, .int .i64 f3] 30)
  have hu := (((Calm.refl w).alloc (.cells #[.int .i64 p1, .int .i64 o1, .int .i64 f1] 30)).alloc (.cells #[.int .i64 p2, .int .i64 o2, .int .i64 f2] 30)).alloc (.cells #[.int .i64 p3, .int .i64 o3, .int .i64 f3] 30)
  have cAt := fun u (hu : Calm w u) => runAt_any A d l p1 o1 f1 t u hn (hL.calm hu)
  have cRat := fun u (hu : Calm w u) => refAt_any A d l p1 o1 f1 t u hn (hL.calm hu)
  have cRg := fun u (hu : Calm w u) => runRange_any A d l p2 o2 f2 p3 o3 f3 t u hn (hL.calm hu)
  have cA : ∀ u g, Calm w u → u.heap[g]? = some (.cells #[.int .i64 p1, .int .i64 o1, .int .i64 f1] 30 (0, 0)) → Calls Try.prog 20 #[.slice A l.length d, .slice (some ⟨g, 0, none⟩) 1 1] u fun e w' => e = .returned (.int .i64 (askErr1 l (p1, o1, f1))) ∧ Calm u w' := fun u g hu hg => asked1_any A d g l p1 o1 f1 u hn (hL.calm hu) hg
  have cA2 : ∀ u g, Calm w u → u.heap[g]? = some (.cells #[.int .i64 p2, .int .i64 o2, .int .i64 f2, .int .i64 p3, .int .i64 o3, .int .i64 f3] 30 (0, 0)) → Calls Try.prog 20 #[.slice A l.length d, .slice (some ⟨g, 0, none⟩) 2 2] u fun e w' => e = .returned (.int .i64 (rgErr l (p2, o2, f2) (p3, o3, f3))) ∧ Calm u w' := fun u g hu hg => asked2_any A d g l p2 o2 f2 p3 o3 f3 u hn (hL.calm hu) hg
  have hcs : askErr1 l (p1, o1, f1) ≠ 0 ∨ (askErr1 l (p1, o1, f1) = 0 ∧ ∃ p o f m g s, atR l (p1, o1, f1) t = some ⟨p, o, f, m, g, s⟩) ∨ (askErr1 l (p1, o1, f1) = 0 ∧ atR l (p1, o1, f1) t = none) := by
    by_cases he : askErr1 l (p1, o1, f1) = 0
    · rcases h : atR l (p1, o1, f1) t with _ | ⟨p, o, f, m, g, s⟩
      · exact .inr (.inr ⟨he, rfl⟩)
      · exact .inr (.inl ⟨he, p, o, f, m, g, s, rfl⟩)
    · exact .inl he
  by_cases hr : rgErr l (p2, o2, f2) (p3, o3, f3) = 0
  · have hG : l.length ≤ 400 := by
      unfold rgErr at hr
      split at hr
      · rename_i h; exact (runErr_zero.1 h).1
      · contradiction
    rw [hr] at cRg cA2
    rw [if_pos rfl] at cRg
    have cQ0 := fun u (hu : Calm w u) => refRange_any A d l p2 o2 f2 p3 o3 f3 t u hG (hL.calm hu)
    generalize rangeR l (p2, o2, f2) (p3, o3, f3) t = rl at cRg cQ0
    have cR : ∀ u, Calm w u → Calls Try.prog 22 #[.slice A l.length d, .agg #[.int .i64 p2, .int .i64 o2, .int .i64 f2], .agg #[.int .i64 p3, .int .i64 o3, .int .i64 f3], .int .i64 t] u fun e w' => ∃ v, e = .returned (.tuple #[v, .int .i64 0]) ∧ Sl w' v rl ∧ Calm u w' := cRg
    have cQ : ∀ u, Calm w u → Calls Try.prog 24 #[.slice A l.length d, .agg #[.int .i64 p2, .int .i64 o2, .int .i64 f2], .agg #[.int .i64 p3, .int .i64 o3, .int .i64 f3], .int .i64 t] u fun e w' => ∃ v, e = .returned v ∧ Sl w' v rl ∧ Calm u w' := cQ0
    clear cRg cQ0 hr hG hL hn
    rcases hcs with he | ⟨he, p, o, f, m, g, s, hs⟩ | ⟨he, hs⟩
    · have e1 : atErr l (p1, o1, f1) t = askErr1 l (p1, o1, f1) := by simp [atErr, he]
      have e2 : atVal l (p1, o1, f1) t = zeroEl := by simp [atVal, he]
      rw [e1, e2] at cAt
      clear e1 e2 cRat
      generalize askErr1 l (p1, o1, f1) = x at cA cAt he
      have cT : ∀ u, Calm w u → Calls Try.prog 19 #[.slice A l.length d, .agg #[.int .i64 p1, .int .i64 o1, .int .i64 f1], .int .i64 t] u fun e w' => e = .returned (.tuple #[.agg #[.int .i64 0, .int .i64 0, .int .i64 0, .int .i64 0, .int .i64 0, .string { data := #[] }], .int .i64 x]) ∧ Calm u w' := cAt
      have b1 : (x == 0) = false := by simpa using he
      have b2 : (x != 0) = true := by simpa using he
      have b3 : (x != x) = false := by simp
      clear cAt he
      go_enter Try.func4, Try.ntmps4
      go_wp2_with (first
        | (go_at_call 19; refine (cT _ hu).mono ?_; rintro e w1 ⟨rfl, hb1⟩; replace hx := (hb1.block (row3 hx).2.2.2).trans hx; replace hy := (hb1.block (row3 hy).2.2.2).trans hy; replace hz := (hb1.block (row3 hz).2.2.2).trans hz; replace hu := hu.call hb1; clear hb1; obtain ⟨x0, x1, x2, hxs⟩ := row3 hx; obtain ⟨y0, y1, y2, hys⟩ := row3 hy; obtain ⟨z0, z1, z2, hzs⟩ := row3 hz; clear cT)
        | (go_at_call 20; (with_reducible refine (cA _ _ (((hu.alloc _).alloc _)) (heap_alloc2_new _ _ _)).mono ?_); rintro e w1 ⟨rfl, hb1⟩; replace hx := (hb1.block (row3 (heap_past _ (heap_past _ (hx)))).2.2.2).trans (heap_past _ (heap_past _ (hx))); replace hy := (hb1.block (row3 (heap_past _ (heap_past _ (hy)))).2.2.2).trans (heap_past _ (heap_past _ (hy))); replace hz := (hb1.block (row3 (heap_past _ (heap_past _ (hz)))).2.2.2).trans (heap_past _ (heap_past _ (hz))); replace hu := ((hu.alloc _).alloc _).call hb1; have hq := (hb1.block (by simp; omega)).trans (heap_alloc2_old _ _ _); obtain ⟨q0, q1, q2, q3, q4, q5, hqs⟩ := row6 hq; clear hb1; obtain ⟨x0, x1, x2, hxs⟩ := row3 hx; obtain ⟨y0, y1, y2, hys⟩ := row3 hy; obtain ⟨z0, z1, z2, hzs⟩ := row3 hz; clear cA)
        | (go_at_call 22; refine (cR _ hu).mono ?_; rintro e w1 ⟨v, rfl, ⟨A2, c2, rfl, hl2, hL2⟩, hb1⟩; replace hx := (hb1.block (row3 (hx)).2.2.2).trans (hx); replace hy := (hb1.block (row3 (hy)).2.2.2).trans (hy); replace hz := (hb1.block (row3 (hz)).2.2.2).trans (hz); replace hu := hu.call hb1; clear hb1 cR; obtain ⟨x0, x1, x2, hxs⟩ := row3 hx; obtain ⟨y0, y1, y2, hys⟩ := row3 hy; obtain ⟨z0, z1, z2, hzs⟩ := row3 hz)
        | (go_at_call 20; (with_reducible refine (cA2 _ _ (hu.alloc _) (heap_new _ _)).mono ?_); rintro e w1 ⟨rfl, hb1⟩; replace hx := (hb1.block (row3 (heap_past _ (hx))).2.2.2).trans (heap_past _ (hx)); replace hy := (hb1.block (row3 (heap_past _ (hy))).2.2.2).trans (heap_past _ (hy)); replace hz := (hb1.block (row3 (heap_past _ (hz))).2.2.2).trans (heap_past _ (hz)); replace hu := (hu.alloc _).call hb1; replace hL2 := hL2.calm (((Calm.refl _).alloc _).call hb1); clear hb1; obtain ⟨x0, x1, x2, hxs⟩ := row3 hx; obtain ⟨y0, y1, y2, hys⟩ := row3 hy; obtain ⟨z0, z1, z2, hzs⟩ := row3 hz; clear cA2)
        | (go_at_call 24; refine (cQ _ hu).mono ?_; rintro e w1 ⟨v, rfl, ⟨A3, c3, rfl, hl3, hL3⟩, hb1⟩; replace hL2 := hL2.calm hb1; replace hx := (hb1.block (row3 hx).2.2.2).trans hx; replace hy := (hb1.block (row3 hy).2.2.2).trans hy; replace hz := (hb1.block (row3 hz).2.2.2).trans hz; replace hu := hu.call hb1; clear hb1 cQ)
        | (go_at_call 23; refine (equal_self A2 A3 c2 c3 _ _ hl2 hL2 hL3).mono ?_; rintro e w1 ⟨rfl, hb1⟩; replace hu := hu.call hb1; clear hb1))
      go_ret
      exact ⟨rfl, hu⟩
    · have e1 : atErr l (p1, o1, f1) t = 0 := by simp [atErr, he, hs]
      have e2 : atVal l (p1, o1, f1) t = ⟨p, o, f, m, g, s⟩ := by simp [atVal, he, hs]
      rw [e1, e2] at cAt
      rw [hs] at cRat
      rw [he] at cA
      have cT : ∀ u, Calm w u → Calls Try.prog 19 #[.slice A l.length d, .agg #[.int .i64 p1, .int .i64 o1, .int .i64 f1], .int .i64 t] u fun e w' => e = .returned (.tuple #[.agg #[.int .i64 p, .int .i64 o, .int .i64 f, .int .i64 m, .int .i64 g, .string s], .int .i64 0]) ∧ Calm u w' := cAt
      have cS : ∀ u, Calm w u → Calls Try.prog 21 #[.slice A l.length d, .agg #[.int .i64 p1, .int .i64 o1, .int .i64 f1], .int .i64 t] u fun e w' => e = .returned (.tuple #[.agg #[.int .i64 p, .int .i64 o, .int .i64 f, .int .i64 m, .int .i64 g, .string s], .bool true]) ∧ Calm u w' := cRat
      clear e1 e2 cAt cRat he hs
      go_enter Try.func4, Try.ntmps4
      go_wp2_with (first
        | (go_at_call 19; refine (cT _ hu).mono ?_; rintro e w1 ⟨rfl, hb1⟩; replace hx := (hb1.block (row3 hx).2.2.2).trans hx; replace hy := (hb1.block (row3 hy).2.2.2).trans hy; replace hz := (hb1.block (row3 hz).2.2.2).trans hz; replace hu := hu.call hb1; clear hb1; obtain ⟨x0, x1, x2, hxs⟩ := row3 hx; obtain ⟨y0, y1, y2, hys⟩ := row3 hy; obtain ⟨z0, z1, z2, hzs⟩ := row3 hz; clear cT)
        | (go_at_call 20; (with_reducible refine (cA _ _ (((hu.alloc _).alloc _)) (heap_alloc2_new _ _ _)).mono ?_); rintro e w1 ⟨rfl, hb1⟩; replace hx := (hb1.block (row3 (heap_past _ (heap_past _ (hx)))).2.2.2).trans (heap_past _ (heap_past _ (hx))); replace hy := (hb1.block (row3 (heap_past _ (heap_past _ (hy)))).2.2.2).trans (heap_past _ (heap_past _ (hy))); replace hz := (hb1.block (row3 (heap_past _ (heap_past _ (hz)))).2.2.2).trans (heap_past _ (heap_past _ (hz))); replace hu := ((hu.alloc _).alloc _).call hb1; have hq := (hb1.block (by simp; omega)).trans (heap_alloc2_old _ _ _); obtain ⟨q0, q1, q2, q3, q4, q5, hqs⟩ := row6 hq; clear hb1; obtain ⟨x0, x1, x2, hxs⟩ := row3 hx; obtain ⟨y0, y1, y2, hys⟩ := row3 hy; obtain ⟨z0, z1, z2, hzs⟩ := row3 hz; clear cA)
        | (go_at_call 21; refine (cS _ hu).mono ?_; rintro e w1 ⟨rfl, hb1⟩; replace hx := (hb1.block (row3 hx).2.2.2).trans hx; replace hy := (hb1.block (row3 hy).2.2.2).trans hy; replace hz := (hb1.block (row3 hz).2.2.2).trans hz; replace hu := hu.call hb1; replace hq := (hb1.block (row6 hq).2.2.2.2.2.2).trans hq; obtain ⟨q0, q1, q2, q3, q4, q5, hqs⟩ := row6 hq; clear hb1; obtain ⟨x0, x1, x2, hxs⟩ := row3 hx; obtain ⟨y0, y1, y2, hys⟩ := row3 hy; obtain ⟨z0, z1, z2, hzs⟩ := row3 hz; clear cS)
        | (go_at_call 22; refine (cR _ (hu.alloc _)).mono ?_; rintro e w1 ⟨v, rfl, ⟨A2, c2, rfl, hl2, hL2⟩, hb1⟩; replace hx := (hb1.block (row3 (heap_past _ (hx))).2.2.2).trans (heap_past _ (hx)); replace hy := (hb1.block (row3 (heap_past _ (hy))).2.2.2).trans (heap_past _ (hy)); replace hz := (hb1.block (row3 (heap_past _ (hz))).2.2.2).trans (heap_past _ (hz)); replace hu := (hu.alloc _).call hb1; clear hb1 cR; obtain ⟨x0, x1, x2, hxs⟩ := row3 hx; obtain ⟨y0, y1, y2, hys⟩ := row3 hy; obtain ⟨z0, z1, z2, hzs⟩ := row3 hz)
        | (go_at_call 20; (with_reducible refine (cA2 _ _ (hu.alloc _) (heap_new _ _)).mono ?_); rintro e w1 ⟨rfl, hb1⟩; replace hx := (hb1.block (row3 (heap_past _ (hx))).2.2.2).trans (heap_past _ (hx)); replace hy := (hb1.block (row3 (heap_past _ (hy))).2.2.2).trans (heap_past _ (hy)); replace hz := (hb1.block (row3 (heap_past _ (hz))).2.2.2).trans (heap_past _ (hz)); replace hu := (hu.alloc _).call hb1; replace hL2 := hL2.calm (((Calm.refl _).alloc _).call hb1); clear hb1; obtain ⟨x0, x1, x2, hxs⟩ := row3 hx; obtain ⟨y0, y1, y2, hys⟩ := row3 hy; obtain ⟨z0, z1, z2, hzs⟩ := row3 hz; clear cA2)
        | (go_at_call 24; refine (cQ _ hu).mono ?_; rintro e w1 ⟨v, rfl, ⟨A3, c3, rfl, hl3, hL3⟩, hb1⟩; replace hL2 := hL2.calm hb1; replace hx := (hb1.block (row3 hx).2.2.2).trans hx; replace hy := (hb1.block (row3 hy).2.2.2).trans hy; replace hz := (hb1.block (row3 hz).2.2.2).trans hz; replace hu := hu.call hb1; clear hb1 cQ)
        | (go_at_call 23; refine (equal_self A2 A3 c2 c3 _ _ hl2 hL2 hL3).mono ?_; rintro e w1 ⟨rfl, hb1⟩; replace hu := hu.call hb1; clear hb1))
      go_ret
      exact ⟨rfl, hu⟩
    · have e1 : atErr l (p1, o1, f1) t = 4 := by simp [atErr, he, hs]
      have e2 : atVal l (p1, o1, f1) t = zeroEl := by simp [atVal, he, hs]
      rw [e1, e2] at cAt
      rw [hs] at cRat
      rw [he] at cA
      have cT : ∀ u, Calm w u → Calls Try.prog 19 #[.slice A l.length d, .agg #[.int .i64 p1, .int .i64 o1, .int .i64 f1], .int .i64 t] u fun e w' => e = .returned (.tuple #[.agg #[.int .i64 0, .int .i64 0, .int .i64 0, .int .i64 0, .int .i64 0, .string { data := #[] }], .int .i64 4]) ∧ Calm u w' := cAt
      have cS : ∀ u, Calm w u → Calls Try.prog 21 #[.slice A l.length d, .agg #[.int .i64 p1, .int .i64 o1, .int .i64 f1], .int .i64 t] u fun e w' => e = .returned (.tuple #[.agg #[.int .i64 0, .int .i64 0, .int .i64 0, .int .i64 0, .int .i64 0, .string { data := #[] }], .bool false]) ∧ Calm u w' := cRat
      clear e1 e2 cAt cRat he hs
      go_enter Try.func4, Try.ntmps4
      go_wp2_with (first
        | (go_at_call 19; refine (cT _ hu).mono ?_; rintro e w1 ⟨rfl, hb1⟩; replace hx := (hb1.block (row3 hx).2.2.2).trans hx; replace hy := (hb1.block (row3 hy).2.2.2).trans hy; replace hz := (hb1.block (row3 hz).2.2.2).trans hz; replace hu := hu.call hb1; clear hb1; obtain ⟨x0, x1, x2, hxs⟩ := row3 hx; obtain ⟨y0, y1, y2, hys⟩ := row3 hy; obtain ⟨z0, z1, z2, hzs⟩ := row3 hz; clear cT)
        | (go_at_call 20; (with_reducible refine (cA _ _ (((hu.alloc _).alloc _)) (heap_alloc2_new _ _ _)).mono ?_); rintro e w1 ⟨rfl, hb1⟩; replace hx := (hb1.block (row3 (heap_past _ (heap_past _ (hx)))).2.2.2).trans (heap_past _ (heap_past _ (hx))); replace hy := (hb1.block (row3 (heap_past _ (heap_past _ (hy)))).2.2.2).trans (heap_past _ (heap_past _ (hy))); replace hz := (hb1.block (row3 (heap_past _ (heap_past _ (hz)))).2.2.2).trans (heap_past _ (heap_past _ (hz))); replace hu := ((hu.alloc _).alloc _).call hb1; have hq := (hb1.block (by simp; omega)).trans (heap_alloc2_old _ _ _); obtain ⟨q0, q1, q2, q3, q4, q5, hqs⟩ := row6 hq; clear hb1; obtain ⟨x0, x1, x2, hxs⟩ := row3 hx; obtain ⟨y0, y1, y2, hys⟩ := row3 hy; obtain ⟨z0, z1, z2, hzs⟩ := row3 hz; clear cA)
        | (go_at_call 21; refine (cS _ hu).mono ?_; rintro e w1 ⟨rfl, hb1⟩; replace hx := (hb1.block (row3 hx).2.2.2).trans hx; replace hy := (hb1.block (row3 hy).2.2.2).trans hy; replace hz := (hb1.block (row3 hz).2.2.2).trans hz; replace hu := hu.call hb1; replace hq := (hb1.block (row6 hq).2.2.2.2.2.2).trans hq; obtain ⟨q0, q1, q2, q3, q4, q5, hqs⟩ := row6 hq; clear hb1; obtain ⟨x0, x1, x2, hxs⟩ := row3 hx; obtain ⟨y0, y1, y2, hys⟩ := row3 hy; obtain ⟨z0, z1, z2, hzs⟩ := row3 hz; clear cS)
        | (go_at_call 22; refine (cR _ (hu.alloc _)).mono ?_; rintro e w1 ⟨v, rfl, ⟨A2, c2, rfl, hl2, hL2⟩, hb1⟩; replace hx := (hb1.block (row3 (heap_past _ (hx))).2.2.2).trans (heap_past _ (hx)); replace hy := (hb1.block (row3 (heap_past _ (hy))).2.2.2).trans (heap_past _ (hy)); replace hz := (hb1.block (row3 (heap_past _ (hz))).2.2.2).trans (heap_past _ (hz)); replace hu := (hu.alloc _).call hb1; clear hb1 cR; obtain ⟨x0, x1, x2, hxs⟩ := row3 hx; obtain ⟨y0, y1, y2, hys⟩ := row3 hy; obtain ⟨z0, z1, z2, hzs⟩ := row3 hz)
        | (go_at_call 20; (with_reducible refine (cA2 _ _ (hu.alloc _) (heap_new _ _)).mono ?_); rintro e w1 ⟨rfl, hb1⟩; replace hx := (hb1.block (row3 (heap_past _ (hx))).2.2.2).trans (heap_past _ (hx)); replace hy := (hb1.block (row3 (heap_past _ (hy))).2.2.2).trans (heap_past _ (hy)); replace hz := (hb1.block (row3 (heap_past _ (hz))).2.2.2).trans (heap_past _ (hz)); replace hu := (hu.alloc _).call hb1; replace hL2 := hL2.calm (((Calm.refl _).alloc _).call hb1); clear hb1; obtain ⟨x0, x1, x2, hxs⟩ := row3 hx; obtain ⟨y0, y1, y2, hys⟩ := row3 hy; obtain ⟨z0, z1, z2, hzs⟩ := row3 hz; clear cA2)
        | (go_at_call 24; refine (cQ _ hu).mono ?_; rintro e w1 ⟨v, rfl, ⟨A3, c3, rfl, hl3, hL3⟩, hb1⟩; replace hL2 := hL2.calm hb1; replace hx := (hb1.block (row3 hx).2.2.2).trans hx; replace hy := (hb1.block (row3 hy).2.2.2).trans hy; replace hz := (hb1.block (row3 hz).2.2.2).trans hz; replace hu := hu.call hb1; clear hb1 cQ)
        | (go_at_call 23; refine (equal_self A2 A3 c2 c3 _ _ hl2 hL2 hL3).mono ?_; rintro e w1 ⟨rfl, hb1⟩; replace hu := hu.call hb1; clear hb1))
      go_ret
      exact ⟨rfl, hu⟩
  · rw [if_neg hr] at cRg
    generalize rgErr l (p2, o2, f2) (p3, o3, f3) = y at cRg cA2 hr
    have cR : ∀ u, Calm w u → Calls Try.prog 22 #[.slice A l.length d, .agg #[.int .i64 p2, .int .i64 o2, .int .i64 f2], .agg #[.int .i64 p3, .int .i64 o3, .int .i64 f3], .int .i64 t] u fun e w' => ∃ v, e = .returned (.tuple #[v, .int .i64 y]) ∧ Sl w' v [] ∧ Calm u w' := cRg
    have d1 : (y != 0) = true := by simpa using hr
    have d2 : (y == y) = true := by simp
    clear cRg hr hL hn
    rcases hcs with he | ⟨he, p, o, f, m, g, s, hs⟩ | ⟨he, hs⟩
    · have e1 : atErr l (p1, o1, f1) t = askErr1 l (p1, o1, f1) := by simp [atErr, he]
      have e2 : atVal l (p1, o1, f1) t = zeroEl := by simp [atVal, he]
      rw [e1, e2] at cAt
      clear e1 e2 cRat
      generalize askErr1 l (p1, o1, f1) = x at cA cAt he
      have cT : ∀ u, Calm w u → Calls Try.prog 19 #[.slice A l.length d, .agg #[.int .i64 p1, .int .i64 o1, .int .i64 f1], .int .i64 t] u fun e w' => e = .returned (.tuple #[.agg #[.int .i64 0, .int .i64 0, .int .i64 0, .int .i64 0, .int .i64 0, .string { data := #[] }], .int .i64 x]) ∧ Calm u w' := cAt
      have b1 : (x == 0) = false := by simpa using he
      have b2 : (x != 0) = true := by simpa using he
      have b3 : (x != x) = false := by simp
      clear cAt he
      go_enter Try.func4, Try.ntmps4
      go_wp2_with (first
        | (go_at_call 19; refine (cT _ hu).mono ?_; rintro e w1 ⟨rfl, hb1⟩; replace hx := (hb1.block (row3 hx).2.2.2).trans hx; replace hy := (hb1.block (row3 hy).2.2.2).trans hy; replace hz := (hb1.block (row3 hz).2.2.2).trans hz; replace hu := hu.call hb1; clear hb1; obtain ⟨x0, x1, x2, hxs⟩ := row3 hx; obtain ⟨y0, y1, y2, hys⟩ := row3 hy; obtain ⟨z0, z1, z2, hzs⟩ := row3 hz; clear cT)
        | (go_at_call 20; (with_reducible refine (cA _ _ (((hu.alloc _).alloc _)) (heap_alloc2_new _ _ _)).mono ?_); rintro e w1 ⟨rfl, hb1⟩; replace hx := (hb1.block (row3 (heap_past _ (heap_past _ (hx)))).2.2.2).trans (heap_past _ (heap_past _ (hx))); replace hy := (hb1.block (row3 (heap_past _ (heap_past _ (hy)))).2.2.2).trans (heap_past _ (heap_past _ (hy))); replace hz := (hb1.block (row3 (heap_past _ (heap_past _ (hz)))).2.2.2).trans (heap_past _ (heap_past _ (hz))); replace hu := ((hu.alloc _).alloc _).call hb1; have hq := (hb1.block (by simp; omega)).trans (heap_alloc2_old _ _ _); obtain ⟨q0, q1, q2, q3, q4, q5, hqs⟩ := row6 hq; clear hb1; obtain ⟨x0, x1, x2, hxs⟩ := row3 hx; obtain ⟨y0, y1, y2, hys⟩ := row3 hy; obtain ⟨z0, z1, z2, hzs⟩ := row3 hz; clear cA)
        | (go_at_call 22; refine (cR _ hu).mono ?_; rintro e w1 ⟨v, rfl, ⟨A2, c2, rfl, hl2, hL2⟩, hb1⟩; replace hx := (hb1.block (row3 (hx)).2.2.2).trans (hx); replace hy := (hb1.block (row3 (hy)).2.2.2).trans (hy); replace hz := (hb1.block (row3 (hz)).2.2.2).trans (hz); replace hu := hu.call hb1; clear hb1 hL2 cR; obtain ⟨x0, x1, x2, hxs⟩ := row3 hx; obtain ⟨y0, y1, y2, hys⟩ := row3 hy; obtain ⟨z0, z1, z2, hzs⟩ := row3 hz)
        | (go_at_call 20; (with_reducible refine (cA2 _ _ (hu.alloc _) (heap_new _ _)).mono ?_); rintro e w1 ⟨rfl, hb1⟩; replace hx := (hb1.block (row3 (heap_past _ (hx))).2.2.2).trans (heap_past _ (hx)); replace hy := (hb1.block (row3 (heap_past _ (hy))).2.2.2).trans (heap_past _ (hy)); replace hz := (hb1.block (row3 (heap_past _ (hz))).2.2.2).trans (heap_past _ (hz)); replace hu := (hu.alloc _).call hb1; clear hb1; obtain ⟨x0, x1, x2, hxs⟩ := row3 hx; obtain ⟨y0, y1, y2, hys⟩ := row3 hy; obtain ⟨z0, z1, z2, hzs⟩ := row3 hz; clear cA2))
      go_ret
      exact ⟨rfl, hu⟩
    · have e1 : atErr l (p1, o1, f1) t = 0 := by simp [atErr, he, hs]
      have e2 : atVal l (p1, o1, f1) t = ⟨p, o, f, m, g, s⟩ := by simp [atVal, he, hs]
      rw [e1, e2] at cAt
      rw [hs] at cRat
      rw [he] at cA
      have cT : ∀ u, Calm w u → Calls Try.prog 19 #[.slice A l.length d, .agg #[.int .i64 p1, .int .i64 o1, .int .i64 f1], .int .i64 t] u fun e w' => e = .returned (.tuple #[.agg #[.int .i64 p, .int .i64 o, .int .i64 f, .int .i64 m, .int .i64 g, .string s], .int .i64 0]) ∧ Calm u w' := cAt
      have cS : ∀ u, Calm w u → Calls Try.prog 21 #[.slice A l.length d, .agg #[.int .i64 p1, .int .i64 o1, .int .i64 f1], .int .i64 t] u fun e w' => e = .returned (.tuple #[.agg #[.int .i64 p, .int .i64 o, .int .i64 f, .int .i64 m, .int .i64 g, .string s], .bool true]) ∧ Calm u w' := cRat
      clear e1 e2 cAt cRat he hs
      go_enter Try.func4, Try.ntmps4
      go_wp2_with (first
        | (go_at_call 19; refine (cT _ hu).mono ?_; rintro e w1 ⟨rfl, hb1⟩; replace hx := (hb1.block (row3 hx).2.2.2).trans hx; replace hy := (hb1.block (row3 hy).2.2.2).trans hy; replace hz := (hb1.block (row3 hz).2.2.2).trans hz; replace hu := hu.call hb1; clear hb1; obtain ⟨x0, x1, x2, hxs⟩ := row3 hx; obtain ⟨y0, y1, y2, hys⟩ := row3 hy; obtain ⟨z0, z1, z2, hzs⟩ := row3 hz; clear cT)
        | (go_at_call 20; (with_reducible refine (cA _ _ (((hu.alloc _).alloc _)) (heap_alloc2_new _ _ _)).mono ?_); rintro e w1 ⟨rfl, hb1⟩; replace hx := (hb1.block (row3 (heap_past _ (heap_past _ (hx)))).2.2.2).trans (heap_past _ (heap_past _ (hx))); replace hy := (hb1.block (row3 (heap_past _ (heap_past _ (hy)))).2.2.2).trans (heap_past _ (heap_past _ (hy))); replace hz := (hb1.block (row3 (heap_past _ (heap_past _ (hz)))).2.2.2).trans (heap_past _ (heap_past _ (hz))); replace hu := ((hu.alloc _).alloc _).call hb1; have hq := (hb1.block (by simp; omega)).trans (heap_alloc2_old _ _ _); obtain ⟨q0, q1, q2, q3, q4, q5, hqs⟩ := row6 hq; clear hb1; obtain ⟨x0, x1, x2, hxs⟩ := row3 hx; obtain ⟨y0, y1, y2, hys⟩ := row3 hy; obtain ⟨z0, z1, z2, hzs⟩ := row3 hz; clear cA)
        | (go_at_call 21; refine (cS _ hu).mono ?_; rintro e w1 ⟨rfl, hb1⟩; replace hx := (hb1.block (row3 hx).2.2.2).trans hx; replace hy := (hb1.block (row3 hy).2.2.2).trans hy; replace hz := (hb1.block (row3 hz).2.2.2).trans hz; replace hu := hu.call hb1; replace hq := (hb1.block (row6 hq).2.2.2.2.2.2).trans hq; obtain ⟨q0, q1, q2, q3, q4, q5, hqs⟩ := row6 hq; clear hb1; obtain ⟨x0, x1, x2, hxs⟩ := row3 hx; obtain ⟨y0, y1, y2, hys⟩ := row3 hy; obtain ⟨z0, z1, z2, hzs⟩ := row3 hz; clear cS)
        | (go_at_call 22; refine (cR _ (hu.alloc _)).mono ?_; rintro e w1 ⟨v, rfl, ⟨A2, c2, rfl, hl2, hL2⟩, hb1⟩; replace hx := (hb1.block (row3 (heap_past _ (hx))).2.2.2).trans (heap_past _ (hx)); replace hy := (hb1.block (row3 (heap_past _ (hy))).2.2.2).trans (heap_past _ (hy)); replace hz := (hb1.block (row3 (heap_past _ (hz))).2.2.2).trans (heap_past _ (hz)); replace hu := (hu.alloc _).call hb1; clear hb1 hL2 cR; obtain ⟨x0, x1, x2, hxs⟩ := row3 hx; obtain ⟨y0, y1, y2, hys⟩ := row3 hy; obtain ⟨z0, z1, z2, hzs⟩ := row3 hz)
        | (go_at_call 20; (with_reducible refine (cA2 _ _ (hu.alloc _) (heap_new _ _)).mono ?_); rintro e w1 ⟨rfl, hb1⟩; replace hx := (hb1.block (row3 (heap_past _ (hx))).2.2.2).trans (heap_past _ (hx)); replace hy := (hb1.block (row3 (heap_past _ (hy))).2.2.2).trans (heap_past _ (hy)); replace hz := (hb1.block (row3 (heap_past _ (hz))).2.2.2).trans (heap_past _ (hz)); replace hu := (hu.alloc _).call hb1; clear hb1; obtain ⟨x0, x1, x2, hxs⟩ := row3 hx; obtain ⟨y0, y1, y2, hys⟩ := row3 hy; obtain ⟨z0, z1, z2, hzs⟩ := row3 hz; clear cA2))
      go_ret
      exact ⟨rfl, hu⟩
    · have e1 : atErr l (p1, o1, f1) t = 4 := by simp [atErr, he, hs]
      have e2 : atVal l (p1, o1, f1) t = zeroEl := by simp [atVal, he, hs]
      rw [e1, e2] at cAt
      rw [hs] at cRat
      rw [he] at cA
      have cT : ∀ u, Calm w u → Calls Try.prog 19 #[.slice A l.length d, .agg #[.int .i64 p1, .int .i64 o1, .int .i64 f1], .int .i64 t] u fun e w' => e = .returned (.tuple #[.agg #[.int .i64 0, .int .i64 0, .int .i64 0, .int .i64 0, .int .i64 0, .string { data := #[] }], .int .i64 4]) ∧ Calm u w' := cAt
      have cS : ∀ u, Calm w u → Calls Try.prog 21 #[.slice A l.length d, .agg #[.int .i64 p1, .int .i64 o1, .int .i64 f1], .int .i64 t] u fun e w' => e = .returned (.tuple #[.agg #[.int .i64 0, .int .i64 0, .int .i64 0, .int .i64 0, .int .i64 0, .string { data := #[] }], .bool false]) ∧ Calm u w' := cRat
      clear e1 e2 cAt cRat he hs
      go_enter Try.func4, Try.ntmps4
      go_wp2_with (first
        | (go_at_call 19; refine (cT _ hu).mono ?_; rintro e w1 ⟨rfl, hb1⟩; replace hx := (hb1.block (row3 hx).2.2.2).trans hx; replace hy := (hb1.block (row3 hy).2.2.2).trans hy; replace hz := (hb1.block (row3 hz).2.2.2).trans hz; replace hu := hu.call hb1; clear hb1; obtain ⟨x0, x1, x2, hxs⟩ := row3 hx; obtain ⟨y0, y1, y2, hys⟩ := row3 hy; obtain ⟨z0, z1, z2, hzs⟩ := row3 hz; clear cT)
        | (go_at_call 20; (with_reducible refine (cA _ _ (((hu.alloc _).alloc _)) (heap_alloc2_new _ _ _)).mono ?_); rintro e w1 ⟨rfl, hb1⟩; replace hx := (hb1.block (row3 (heap_past _ (heap_past _ (hx)))).2.2.2).trans (heap_past _ (heap_past _ (hx))); replace hy := (hb1.block (row3 (heap_past _ (heap_past _ (hy)))).2.2.2).trans (heap_past _ (heap_past _ (hy))); replace hz := (hb1.block (row3 (heap_past _ (heap_past _ (hz)))).2.2.2).trans (heap_past _ (heap_past _ (hz))); replace hu := ((hu.alloc _).alloc _).call hb1; have hq := (hb1.block (by simp; omega)).trans (heap_alloc2_old _ _ _); obtain ⟨q0, q1, q2, q3, q4, q5, hqs⟩ := row6 hq; clear hb1; obtain ⟨x0, x1, x2, hxs⟩ := row3 hx; obtain ⟨y0, y1, y2, hys⟩ := row3 hy; obtain ⟨z0, z1, z2, hzs⟩ := row3 hz; clear cA)
        | (go_at_call 21; refine (cS _ hu).mono ?_; rintro e w1 ⟨rfl, hb1⟩; replace hx := (hb1.block (row3 hx).2.2.2).trans hx; replace hy := (hb1.block (row3 hy).2.2.2).trans hy; replace hz := (hb1.block (row3 hz).2.2.2).trans hz; replace hu := hu.call hb1; replace hq := (hb1.block (row6 hq).2.2.2.2.2.2).trans hq; obtain ⟨q0, q1, q2, q3, q4, q5, hqs⟩ := row6 hq; clear hb1; obtain ⟨x0, x1, x2, hxs⟩ := row3 hx; obtain ⟨y0, y1, y2, hys⟩ := row3 hy; obtain ⟨z0, z1, z2, hzs⟩ := row3 hz; clear cS)
        | (go_at_call 22; refine (cR _ (hu.alloc _)).mono ?_; rintro e w1 ⟨v, rfl, ⟨A2, c2, rfl, hl2, hL2⟩, hb1⟩; replace hx := (hb1.block (row3 (heap_past _ (hx))).2.2.2).trans (heap_past _ (hx)); replace hy := (hb1.block (row3 (heap_past _ (hy))).2.2.2).trans (heap_past _ (hy)); replace hz := (hb1.block (row3 (heap_past _ (hz))).2.2.2).trans (heap_past _ (hz)); replace hu := (hu.alloc _).call hb1; clear hb1 hL2 cR; obtain ⟨x0, x1, x2, hxs⟩ := row3 hx; obtain ⟨y0, y1, y2, hys⟩ := row3 hy; obtain ⟨z0, z1, z2, hzs⟩ := row3 hz)
        | (go_at_call 20; (with_reducible refine (cA2 _ _ (hu.alloc _) (heap_new _ _)).mono ?_); rintro e w1 ⟨rfl, hb1⟩; replace hx := (hb1.block (row3 (heap_past _ (hx))).2.2.2).trans (heap_past _ (hx)); replace hy := (hb1.block (row3 (heap_past _ (hy))).2.2.2).trans (heap_past _ (hy)); replace hz := (hb1.block (row3 (heap_past _ (hz))).2.2.2).trans (heap_past _ (hz)); replace hu := (hu.alloc _).call hb1; clear hb1; obtain ⟨x0, x1, x2, hxs⟩ := row3 hx; obtain ⟨y0, y1, y2, hys⟩ := row3 hy; obtain ⟨z0, z1, z2, hzs⟩ := row3 hz; clear cA2))
      go_ret
      exact ⟨rfl, hu⟩
end Go.Proofs.Ytjjibnkooloagaa
