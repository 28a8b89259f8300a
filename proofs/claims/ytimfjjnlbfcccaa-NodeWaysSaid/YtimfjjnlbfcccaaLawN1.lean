/- NodeSays: the law's own walk. -/
import Derived.Test.YtimfjjnlbfcccaaOwnI
import Derived.Test.YtimfjjnlbfcccaaReadN
namespace Go.Proofs.Ytimfjjnlbfcccaa
open Go.ChangeShapes Go.WideShapes Go.ChangeAt Go.RowKit

theorem nd_small {kd : Int} {E : List El} {K : List Int} {S : List Sp} {T : List Int} (h : ndErr kd E K S T = 0) : E.length ≤ 8 ∧ T.length ≤ 8 ∧ S.length ≤ 8 := by
  rcases nd_kinds h with rfl | rfl | rfl
  · have := free_good h; omega
  · have := leaf_good h; omega
  · have := inner_good h; omega

set_option maxRecDepth 100000 in
set_option maxHeartbeats 4000000 in
theorem nodeSays_walk (kd : Int) (A1 A2 A3 A4 : Option Addr) (c1 c2 c3 c4 : Nat) (E : List El) (K : List Int) (S : List Sp) (T : List Int) (p o f m : Int) (w : World) (h : NdAt w A1 A2 A3 A4 E K S T) (hcap : E.length ≤ c1)
    (hz : E.length ≤ 140737488351232 ∧ K.length ≤ 140737488351232 ∧ S.length ≤ 140737488351232 ∧ T.length ≤ 140737488351232) :
    Calls Try.prog 4 #[.agg #[.int .i64 kd, .slice A1 E.length c1, .slice A2 K.length c2, .slice A3 S.length c3, .slice A4 T.length c4], .agg #[.int .i64 p, .int .i64 o, .int .i64 f, .int .i64 m]] w fun e w' => e = .returned (.bool true) ∧ Calm w w' := by
  have hx := heap_past (.cells #[.int .i64 p, .int .i64 o, .int .i64 f, .int .i64 m] 38) (heap_new w (.cells #[.int .i64 kd, .slice A1 E.length c1, .slice A2 K.length c2, .slice A3 S.length c3, .slice A4 T.length c4] 34))
  have hy := (show (((w.alloc (.cells #[.int .i64 kd, .slice A1 E.length c1, .slice A2 K.length c2, .slice A3 S.length c3, .slice A4 T.length c4] 34)).alloc (.cells #[.int .i64 p, .int .i64 o, .int .i64 f, .int .i64 m] 38)).heap[w.heap.size + 1]? = some (.cells #[.int .i64 p, .int .i64 o, .int .i64 f, .int .i64 m] 38 (0, 0))) from by simpa using heap_new (w.alloc (.cells #[.int .i64 kd, .slice A1 E.length c1, .slice A2 K.length c2, .slice A3 S.length c3, .slice A4 T.length c4] 34)) (.cells #[.int .i64 p, .int .i64 o, .int .i64 f, .int .i64 m] 38))
  have hu := ((Calm.refl w).alloc (.cells #[.int .i64 kd, .slice A1 E.length c1, .slice A2 K.length c2, .slice A3 S.length c3, .slice A4 T.length c4] 34)).alloc (.cells #[.int .i64 p, .int .i64 o, .int .i64 f, .int .i64 m] 38)
  have cN := fun u (hu : Calm w u) => refNode_any kd A1 A2 A3 A4 c1 c2 c3 c4 E K S T u (h.calm hu) hcap (by omega) (by omega) (by omega) (by omega)
  have cC := fun u (hu : Calm w u) => nodeCheck_any kd A1 A2 A3 A4 c1 c2 c3 c4 E K S T u (h.calm hu)
  have cT := fun u (hu : Calm w u) => nodeTid_any kd A1 A2 A3 A4 c1 c2 c3 c4 E K S T u (h.calm hu)
  have cK := fun u (hu : Calm w u) => nodeKid_any kd A1 A2 A3 A4 c1 c2 c3 c4 E K S T p o f m u (h.calm hu)
  by_cases he : ndErr kd E K S T = 0
  rotate_left
  · have b1 : (ndErr kd E K S T != 0) = true := by simpa using he
    have k1 : kidErr kd E K S T = ndErr kd E K S T := if_neg he
    have k2 : kidVal kd E K S T p o f m = 0 := by unfold kidVal; rw [k1, if_neg he]
    rw [k1, k2] at cK
    rw [if_neg he] at cT
    generalize ndErr kd E K S T = R at cN cC cT cK b1
    clear he k1 k2 h hz
    go_enter Try.func4, Try.ntmps4
    go_wp2_with (first
      | (go_at_call 15; (with_reducible refine (cN _ hu).mono ?_); rintro e w1 ⟨rfl, hb1⟩; replace hx := (hb1.block (row5 hx).2.2.2.2.2).trans hx; replace hy := (hb1.block (row4 hy).2.2.2.2).trans hy; replace hu := hu.call hb1; clear hb1; obtain ⟨x0, x1, x2, x3, x4, hxs⟩ := row5 hx; obtain ⟨y0, y1, y2, y3, hys⟩ := row4 hy)
      | (go_at_call 16; (with_reducible refine (cT _ hu).mono ?_); rintro e w1 ⟨rfl, hb1⟩; replace hx := (hb1.block (row5 hx).2.2.2.2.2).trans hx; replace hy := (hb1.block (row4 hy).2.2.2.2).trans hy; replace hu := hu.call hb1; clear hb1; obtain ⟨x0, x1, x2, x3, x4, hxs⟩ := row5 hx; obtain ⟨y0, y1, y2, y3, hys⟩ := row4 hy)
      | (go_at_call 17; (with_reducible refine (cK _ hu).mono ?_); rintro e w1 ⟨rfl, hb1⟩; replace hx := (hb1.block (row5 hx).2.2.2.2.2).trans hx; replace hy := (hb1.block (row4 hy).2.2.2.2).trans hy; replace hu := hu.call hb1; clear hb1; obtain ⟨x0, x1, x2, x3, x4, hxs⟩ := row5 hx; obtain ⟨y0, y1, y2, y3, hys⟩ := row4 hy)
      | (go_at_call 18; (with_reducible refine (cC _ hu).mono ?_); rintro e w1 ⟨rfl, hb1⟩; replace hx := (hb1.block (row5 hx).2.2.2.2.2).trans hx; replace hy := (hb1.block (row4 hy).2.2.2.2).trans hy; replace hu := hu.call hb1; clear hb1; obtain ⟨x0, x1, x2, x3, x4, hxs⟩ := row5 hx; obtain ⟨y0, y1, y2, y3, hys⟩ := row4 hy))
    go_ret
    exact ⟨rfl, hu⟩
  obtain ⟨s1, s2, s3⟩ := nd_small he
  have cRT := fun u (hu : Calm w u) => refTid_any kd A1 A2 A3 A4 c1 c2 c3 c4 E K S T u s1 s2 (h.calm hu).e (h.calm hu).t
  rw [if_pos he] at cT
  by_cases h2 : kd = 2
  rotate_left
  · have k1 : kidErr kd E K S T = 3 := by unfold kidErr; rw [if_pos he, if_neg h2]
    have k2 : kidVal kd E K S T p o f m = 0 := by unfold kidVal; rw [k1, if_neg (by decide)]
    rw [k1, k2] at cK
    rw [he] at cN cC cT
    have b1 : (kd != 2) = true := by rw [bne_iff_ne]; exact h2
    generalize ndTid E T = t at cT cRT
    clear he k1 k2 h hz h2 s1 s2 s3
    go_enter Try.func4, Try.ntmps4
    go_wp2_with (first
      | (go_at_call 15; (with_reducible refine (cN _ hu).mono ?_); rintro e w1 ⟨rfl, hb1⟩; replace hx := (hb1.block (row5 hx).2.2.2.2.2).trans hx; replace hy := (hb1.block (row4 hy).2.2.2.2).trans hy; replace hu := hu.call hb1; clear hb1; obtain ⟨x0, x1, x2, x3, x4, hxs⟩ := row5 hx; obtain ⟨y0, y1, y2, y3, hys⟩ := row4 hy)
      | (go_at_call 16; (with_reducible refine (cT _ hu).mono ?_); rintro e w1 ⟨rfl, hb1⟩; replace hx := (hb1.block (row5 hx).2.2.2.2.2).trans hx; replace hy := (hb1.block (row4 hy).2.2.2.2).trans hy; replace hu := hu.call hb1; clear hb1; obtain ⟨x0, x1, x2, x3, x4, hxs⟩ := row5 hx; obtain ⟨y0, y1, y2, y3, hys⟩ := row4 hy)
      | (go_at_call 17; (with_reducible refine (cK _ hu).mono ?_); rintro e w1 ⟨rfl, hb1⟩; replace hx := (hb1.block (row5 hx).2.2.2.2.2).trans hx; replace hy := (hb1.block (row4 hy).2.2.2.2).trans hy; replace hu := hu.call hb1; clear hb1; obtain ⟨x0, x1, x2, x3, x4, hxs⟩ := row5 hx; obtain ⟨y0, y1, y2, y3, hys⟩ := row4 hy)
      | (go_at_call 18; (with_reducible refine (cC _ hu).mono ?_); rintro e w1 ⟨rfl, hb1⟩; replace hx := (hb1.block (row5 hx).2.2.2.2.2).trans hx; replace hy := (hb1.block (row4 hy).2.2.2.2).trans hy; replace hu := hu.call hb1; clear hb1; obtain ⟨x0, x1, x2, x3, x4, hxs⟩ := row5 hx; obtain ⟨y0, y1, y2, y3, hys⟩ := row4 hy)
      | (go_at_call 19; (with_reducible refine (cRT _ hu).mono ?_); rintro e w1 ⟨rfl, hb1⟩; replace hx := (hb1.block (row5 hx).2.2.2.2.2).trans hx; replace hy := (hb1.block (row4 hy).2.2.2.2).trans hy; replace hu := hu.call hb1; clear hb1; obtain ⟨x0, x1, x2, x3, x4, hxs⟩ := row5 hx; obtain ⟨y0, y1, y2, y3, hys⟩ := row4 hy))
    go_ret
    exact ⟨rfl, hu⟩
  subst h2
  have k1 : kidErr 2 E K S T = 0 := by unfold kidErr; rw [if_pos he, if_pos rfl]
  have k2 : kidVal 2 E K S T p o f m = (ndKid S p o f m : Int) := by unfold kidVal; rw [if_pos k1]
  have cRK := fun u (hu : Calm w u) => refKid_any 2 A1 A2 A3 A4 c1 c2 c3 c4 E K S T p o f m u (by omega) (h.calm hu).s
  rw [k1, k2] at cK
  rw [he] at cN cC cT
  generalize ndTid E T = t at cT cRT
  generalize ndKid S p o f m = kn at cK cRK
  clear he k1 k2 h hz s1 s2 s3
  go_enter Try.func4, Try.ntmps4
  go_wp2_with (first
    | (go_at_call 15; (with_reducible refine (cN _ hu).mono ?_); rintro e w1 ⟨rfl, hb1⟩; replace hx := (hb1.block (row5 hx).2.2.2.2.2).trans hx; replace hy := (hb1.block (row4 hy).2.2.2.2).trans hy; replace hu := hu.call hb1; clear hb1; obtain ⟨x0, x1, x2, x3, x4, hxs⟩ := row5 hx; obtain ⟨y0, y1, y2, y3, hys⟩ := row4 hy)
    | (go_at_call 16; (with_reducible refine (cT _ hu).mono ?_); rintro e w1 ⟨rfl, hb1⟩; replace hx := (hb1.block (row5 hx).2.2.2.2.2).trans hx; replace hy := (hb1.block (row4 hy).2.2.2.2).trans hy; replace hu := hu.call hb1; clear hb1; obtain ⟨x0, x1, x2, x3, x4, hxs⟩ := row5 hx; obtain ⟨y0, y1, y2, y3, hys⟩ := row4 hy)
    | (go_at_call 17; (with_reducible refine (cK _ hu).mono ?_); rintro e w1 ⟨rfl, hb1⟩; replace hx := (hb1.block (row5 hx).2.2.2.2.2).trans hx; replace hy := (hb1.block (row4 hy).2.2.2.2).trans hy; replace hu := hu.call hb1; clear hb1; obtain ⟨x0, x1, x2, x3, x4, hxs⟩ := row5 hx; obtain ⟨y0, y1, y2, y3, hys⟩ := row4 hy)
    | (go_at_call 18; (with_reducible refine (cC _ hu).mono ?_); rintro e w1 ⟨rfl, hb1⟩; replace hx := (hb1.block (row5 hx).2.2.2.2.2).trans hx; replace hy := (hb1.block (row4 hy).2.2.2.2).trans hy; replace hu := hu.call hb1; clear hb1; obtain ⟨x0, x1, x2, x3, x4, hxs⟩ := row5 hx; obtain ⟨y0, y1, y2, y3, hys⟩ := row4 hy)
    | (go_at_call 19; (with_reducible refine (cRT _ hu).mono ?_); rintro e w1 ⟨rfl, hb1⟩; replace hx := (hb1.block (row5 hx).2.2.2.2.2).trans hx; replace hy := (hb1.block (row4 hy).2.2.2.2).trans hy; replace hu := hu.call hb1; clear hb1; obtain ⟨x0, x1, x2, x3, x4, hxs⟩ := row5 hx; obtain ⟨y0, y1, y2, y3, hys⟩ := row4 hy)
    | (go_at_call 20; (with_reducible refine (cRK _ hu).mono ?_); rintro e w1 ⟨rfl, hb1⟩; replace hx := (hb1.block (row5 hx).2.2.2.2.2).trans hx; replace hy := (hb1.block (row4 hy).2.2.2.2).trans hy; replace hu := hu.call hb1; clear hb1; obtain ⟨x0, x1, x2, x3, x4, hxs⟩ := row5 hx; obtain ⟨y0, y1, y2, y3, hys⟩ := row4 hy))
  go_ret
  exact ⟨rfl, hu⟩
end Go.Proofs.Ytimfjjnlbfcccaa
