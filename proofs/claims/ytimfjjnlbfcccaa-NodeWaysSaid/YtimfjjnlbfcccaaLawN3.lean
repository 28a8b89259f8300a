/- NodeWays: the law's own walk. -/
import Derived.Test.YtimfjjnlbfcccaaLawN1
import Derived.Test.YtimfjjnlbfcccaaPureN2
namespace Go.Proofs.Ytimfjjnlbfcccaa
open Go.ChangeShapes Go.WideShapes Go.ChangeAt Go.RowKit

theorem rowN {w : World} {g t : Nat} {a b : Value} {fr : Nat × Nat} (h : w.heap[g]? = some (.cells #[a, b] t fr)) : w.cell? ⟨g, 0, none⟩ = some a ∧ w.cell? ⟨g, 1, none⟩ = some b ∧ g < w.heap.size :=
  ⟨cell_of_row _ _ 0 _ _ _ h, cell_of_row _ _ 1 _ _ _ h, (Array.getElem?_eq_some_iff.1 h).1⟩
def sp5 : Sp := ⟨0, 0, 0, 5⟩
theorem ways_at {u : World} {g1 g2 g3 t1 t2 t3 : Nat} {f1 f2 f3 : Nat × Nat} (h1 : u.heap[g1]? = some (.cells #[.int .i64 1, .int .i64 2] t1 f1)) (h2 : u.heap[g2]? = some (.cells #[.int .i64 0, .int .i64 0, .int .i64 0, .int .i64 5] t2 f2)) (h3 : u.heap[g3]? = some (.cells #[.int .i64 3, .int .i64 4] t3 f3)) :
    NdAt u none (some ⟨g1, 0, none⟩) (some ⟨g2, 0, none⟩) (some ⟨g3, 0, none⟩) [] [1, 2] [sp5] [3, 4] := by
  refine ⟨⟨by simp, fun h => absurd h (by simp)⟩, fun _ => ⟨g1, 0, rfl, (rowN h1).2.2, fun k x hx => ?_⟩, ⟨fun s hs => ?_, fun _ => ⟨g2, 0, rfl, (row4 h2).2.2.2.2, fun k s hs => ?_⟩⟩, fun _ => ⟨g3, 0, rfl, (rowN h3).2.2, fun k x hx => ?_⟩, by simp, by simp, by simp, by simp⟩
  · match k, hx with
    | 0, hx => obtain rfl : 1 = x := by simpa using hx
               exact (rowN h1).1
    | 1, hx => obtain rfl : 2 = x := by simpa using hx
               exact (rowN h1).2.1
  · rw [List.mem_singleton.1 hs]; show (-9223372036854775808 : Int) ≤ 5; omega
  · match k, hs with
    | 0, hs =>
      obtain rfl : sp5 = s := by simpa using hs
      obtain ⟨a, b, c, d, _⟩ := row4 h2
      exact ⟨a, b, c, d⟩
  · match k, hx with
    | 0, hx => obtain rfl : 3 = x := by simpa using hx
               exact (rowN h3).1
    | 1, hx => obtain rfl : 4 = x := by simpa using hx
               exact (rowN h3).2.1
theorem ways_kid {u : World} {g1 g2 g3 : Nat} (h : NdAt u none (some ⟨g1, 0, none⟩) (some ⟨g2, 0, none⟩) (some ⟨g3, 0, none⟩) [] [1, 2] [sp5] [3, 4]) :
    Calls Try.prog 17 #[.agg #[.int .i64 2, .slice none 0 0, .slice (some ⟨g1, 0, none⟩) 2 2, .slice (some ⟨g2, 0, none⟩) 1 1, .slice (some ⟨g3, 0, none⟩) 2 2], .agg #[.int .i64 0, .int .i64 0, .int .i64 0, .int .i64 5]] u fun e w' => e = .returned (.tuple #[.int .i64 1, .int .i64 0]) ∧ Calm u w' := by
  have h1 := nodeKid_any 2 none (some ⟨g1, 0, none⟩) (some ⟨g2, 0, none⟩) (some ⟨g3, 0, none⟩) 0 2 1 2 [] [1, 2] [sp5] [3, 4] 0 0 0 5 u h
  have e1 : kidErr 2 [] [1, 2] [sp5] [3, 4] = 0 := by decide +kernel
  have e2 : kidVal 2 [] [1, 2] [sp5] [3, 4] 0 0 0 5 = 1 := by decide +kernel
  rw [e1, e2] at h1
  exact h1
theorem ways_tid {u : World} {g1 g2 g3 : Nat} (h : NdAt u none (some ⟨g1, 0, none⟩) (some ⟨g2, 0, none⟩) (some ⟨g3, 0, none⟩) [] [1, 2] [sp5] [3, 4]) :
    Calls Try.prog 16 #[.agg #[.int .i64 2, .slice none 0 0, .slice (some ⟨g1, 0, none⟩) 2 2, .slice (some ⟨g2, 0, none⟩) 1 1, .slice (some ⟨g3, 0, none⟩) 2 2]] u fun e w' => e = .returned (.tuple #[.int .i64 4, .int .i64 0]) ∧ Calm u w' := by
  have h1 := nodeTid_any 2 none (some ⟨g1, 0, none⟩) (some ⟨g2, 0, none⟩) (some ⟨g3, 0, none⟩) 0 2 1 2 [] [1, 2] [sp5] [3, 4] u h
  have e1 : ndErr 2 [] [1, 2] [sp5] [3, 4] = 0 := by decide +kernel
  have e2 : ndTid [] [3, 4] = 4 := by decide +kernel
  rw [e1, if_pos rfl, e2] at h1
  exact h1

set_option maxRecDepth 100000 in
set_option maxHeartbeats 4000000 in
theorem nodeWays_walk (kd : Int) (A1 A2 A3 A4 : Option Addr) (c1 c2 c3 c4 : Nat) (E : List El) (K : List Int) (S : List Sp) (T : List Int) (p o f m p' o' f' m' : Int) (w : World) (h : NdAt w A1 A2 A3 A4 E K S T) :
    Calls Try.prog 7 #[.agg #[.int .i64 kd, .slice A1 E.length c1, .slice A2 K.length c2, .slice A3 S.length c3, .slice A4 T.length c4], .agg #[.int .i64 p, .int .i64 o, .int .i64 f, .int .i64 m], .agg #[.int .i64 p', .int .i64 o', .int .i64 f', .int .i64 m']] w fun e w' => e = .returned (.bool true) ∧ Calm w w' := by
  have hn := (heap_past (.cells #[.int .i64 2, .slice none 0 0, .slice (some ⟨w.heap.size + 1 + 1 + 1 + 1, 0, none⟩) 2 2, .slice (some ⟨w.heap.size + 1 + 1 + 1 + 1 + 1, 0, none⟩) 1 1, .slice (some ⟨w.heap.size + 1 + 1 + 1 + 1 + 1 + 1, 0, none⟩) 2 2] 34) (heap_past (.cells #[.int .i64 3, .int .i64 4] 3) (heap_past (.cells #[.int .i64 0, .int .i64 0, .int .i64 0, .int .i64 5] 38) (heap_past (.cells #[.int .i64 1, .int .i64 2] 3) (heap_past (.cells #[.int .i64 0, .int .i64 0, .int .i64 0, .int .i64 5] 38) (heap_past (.cells #[.int .i64 p', .int .i64 o', .int .i64 f', .int .i64 m'] 38) (heap_past (.cells #[.int .i64 p, .int .i64 o, .int .i64 f, .int .i64 m] 38) (heap_new w (.cells #[.int .i64 kd, .slice A1 E.length c1, .slice A2 K.length c2, .slice A3 S.length c3, .slice A4 T.length c4] 34)))))))))
  (try simp only [World.size_alloc] at hn)
  have ha := (heap_past (.cells #[.int .i64 2, .slice none 0 0, .slice (some ⟨w.heap.size + 1 + 1 + 1 + 1, 0, none⟩) 2 2, .slice (some ⟨w.heap.size + 1 + 1 + 1 + 1 + 1, 0, none⟩) 1 1, .slice (some ⟨w.heap.size + 1 + 1 + 1 + 1 + 1 + 1, 0, none⟩) 2 2] 34) (heap_past (.cells #[.int .i64 3, .int .i64 4] 3) (heap_past (.cells #[.int .i64 0, .int .i64 0, .int .i64 0, .int .i64 5] 38) (heap_past (.cells #[.int .i64 1, .int .i64 2] 3) (heap_past (.cells #[.int .i64 0, .int .i64 0, .int .i64 0, .int .i64 5] 38) (heap_past (.cells #[.int .i64 p', .int .i64 o', .int .i64 f', .int .i64 m'] 38) (heap_new (w.alloc (.cells #[.int .i64 kd, .slice A1 E.length c1, .slice A2 K.length c2, .slice A3 S.length c3, .slice A4 T.length c4] 34)) (.cells #[.int .i64 p, .int .i64 o, .int .i64 f, .int .i64 m] 38))))))))
  (try simp only [World.size_alloc] at ha)
  have hb := (heap_past (.cells #[.int .i64 2, .slice none 0 0, .slice (some ⟨w.heap.size + 1 + 1 + 1 + 1, 0, none⟩) 2 2, .slice (some ⟨w.heap.size + 1 + 1 + 1 + 1 + 1, 0, none⟩) 1 1, .slice (some ⟨w.heap.size + 1 + 1 + 1 + 1 + 1 + 1, 0, none⟩) 2 2] 34) (heap_past (.cells #[.int .i64 3, .int .i64 4] 3) (heap_past (.cells #[.int .i64 0, .int .i64 0, .int .i64 0, .int .i64 5] 38) (heap_past (.cells #[.int .i64 1, .int .i64 2] 3) (heap_past (.cells #[.int .i64 0, .int .i64 0, .int .i64 0, .int .i64 5] 38) (heap_new (World.alloc (w.alloc (.cells #[.int .i64 kd, .slice A1 E.length c1, .slice A2 K.length c2, .slice A3 S.length c3, .slice A4 T.length c4] 34)) (.cells #[.int .i64 p, .int .i64 o, .int .i64 f, .int .i64 m] 38)) (.cells #[.int .i64 p', .int .i64 o', .int .i64 f', .int .i64 m'] 38)))))))
  (try simp only [World.size_alloc] at hb)
  have hs := (heap_past (.cells #[.int .i64 2, .slice none 0 0, .slice (some ⟨w.heap.size + 1 + 1 + 1 + 1, 0, none⟩) 2 2, .slice (some ⟨w.heap.size + 1 + 1 + 1 + 1 + 1, 0, none⟩) 1 1, .slice (some ⟨w.heap.size + 1 + 1 + 1 + 1 + 1 + 1, 0, none⟩) 2 2] 34) (heap_past (.cells #[.int .i64 3, .int .i64 4] 3) (heap_past (.cells #[.int .i64 0, .int .i64 0, .int .i64 0, .int .i64 5] 38) (heap_past (.cells #[.int .i64 1, .int .i64 2] 3) (heap_new (World.alloc (World.alloc (w.alloc (.cells #[.int .i64 kd, .slice A1 E.length c1, .slice A2 K.length c2, .slice A3 S.length c3, .slice A4 T.length c4] 34)) (.cells #[.int .i64 p, .int .i64 o, .int .i64 f, .int .i64 m] 38)) (.cells #[.int .i64 p', .int .i64 o', .int .i64 f', .int .i64 m'] 38)) (.cells #[.int .i64 0, .int .i64 0, .int .i64 0, .int .i64 5] 38))))))
  (try simp only [World.size_alloc] at hs)
  have h5 := (heap_past (.cells #[.int .i64 2, .slice none 0 0, .slice (some ⟨w.heap.size + 1 + 1 + 1 + 1, 0, none⟩) 2 2, .slice (some ⟨w.heap.size + 1 + 1 + 1 + 1 + 1, 0, none⟩) 1 1, .slice (some ⟨w.heap.size + 1 + 1 + 1 + 1 + 1 + 1, 0, none⟩) 2 2] 34) (heap_past (.cells #[.int .i64 3, .int .i64 4] 3) (heap_past (.cells #[.int .i64 0, .int .i64 0, .int .i64 0, .int .i64 5] 38) (heap_new (World.alloc (World.alloc (World.alloc (w.alloc (.cells #[.int .i64 kd, .slice A1 E.length c1, .slice A2 K.length c2, .slice A3 S.length c3, .slice A4 T.length c4] 34)) (.cells #[.int .i64 p, .int .i64 o, .int .i64 f, .int .i64 m] 38)) (.cells #[.int .i64 p', .int .i64 o', .int .i64 f', .int .i64 m'] 38)) (.cells #[.int .i64 0, .int .i64 0, .int .i64 0, .int .i64 5] 38)) (.cells #[.int .i64 1, .int .i64 2] 3)))))
  (try simp only [World.size_alloc] at h5)
  have h6 := (heap_past (.cells #[.int .i64 2, .slice none 0 0, .slice (some ⟨w.heap.size + 1 + 1 + 1 + 1, 0, none⟩) 2 2, .slice (some ⟨w.heap.size + 1 + 1 + 1 + 1 + 1, 0, none⟩) 1 1, .slice (some ⟨w.heap.size + 1 + 1 + 1 + 1 + 1 + 1, 0, none⟩) 2 2] 34) (heap_past (.cells #[.int .i64 3, .int .i64 4] 3) (heap_new (World.alloc (World.alloc (World.alloc (World.alloc (w.alloc (.cells #[.int .i64 kd, .slice A1 E.length c1, .slice A2 K.length c2, .slice A3 S.length c3, .slice A4 T.length c4] 34)) (.cells #[.int .i64 p, .int .i64 o, .int .i64 f, .int .i64 m] 38)) (.cells #[.int .i64 p', .int .i64 o', .int .i64 f', .int .i64 m'] 38)) (.cells #[.int .i64 0, .int .i64 0, .int .i64 0, .int .i64 5] 38)) (.cells #[.int .i64 1, .int .i64 2] 3)) (.cells #[.int .i64 0, .int .i64 0, .int .i64 0, .int .i64 5] 38))))
  (try simp only [World.size_alloc] at h6)
  have h7 := (heap_past (.cells #[.int .i64 2, .slice none 0 0, .slice (some ⟨w.heap.size + 1 + 1 + 1 + 1, 0, none⟩) 2 2, .slice (some ⟨w.heap.size + 1 + 1 + 1 + 1 + 1, 0, none⟩) 1 1, .slice (some ⟨w.heap.size + 1 + 1 + 1 + 1 + 1 + 1, 0, none⟩) 2 2] 34) (heap_new (World.alloc (World.alloc (World.alloc (World.alloc (World.alloc (w.alloc (.cells #[.int .i64 kd, .slice A1 E.length c1, .slice A2 K.length c2, .slice A3 S.length c3, .slice A4 T.length c4] 34)) (.cells #[.int .i64 p, .int .i64 o, .int .i64 f, .int .i64 m] 38)) (.cells #[.int .i64 p', .int .i64 o', .int .i64 f', .int .i64 m'] 38)) (.cells #[.int .i64 0, .int .i64 0, .int .i64 0, .int .i64 5] 38)) (.cells #[.int .i64 1, .int .i64 2] 3)) (.cells #[.int .i64 0, .int .i64 0, .int .i64 0, .int .i64 5] 38)) (.cells #[.int .i64 3, .int .i64 4] 3)))
  (try simp only [World.size_alloc] at h7)
  have h8 := (heap_new (World.alloc (World.alloc (World.alloc (World.alloc (World.alloc (World.alloc (w.alloc (.cells #[.int .i64 kd, .slice A1 E.length c1, .slice A2 K.length c2, .slice A3 S.length c3, .slice A4 T.length c4] 34)) (.cells #[.int .i64 p, .int .i64 o, .int .i64 f, .int .i64 m] 38)) (.cells #[.int .i64 p', .int .i64 o', .int .i64 f', .int .i64 m'] 38)) (.cells #[.int .i64 0, .int .i64 0, .int .i64 0, .int .i64 5] 38)) (.cells #[.int .i64 1, .int .i64 2] 3)) (.cells #[.int .i64 0, .int .i64 0, .int .i64 0, .int .i64 5] 38)) (.cells #[.int .i64 3, .int .i64 4] 3)) (.cells #[.int .i64 2, .slice none 0 0, .slice (some ⟨w.heap.size + 1 + 1 + 1 + 1, 0, none⟩) 2 2, .slice (some ⟨w.heap.size + 1 + 1 + 1 + 1 + 1, 0, none⟩) 1 1, .slice (some ⟨w.heap.size + 1 + 1 + 1 + 1 + 1 + 1, 0, none⟩) 2 2] 34))
  (try simp only [World.size_alloc] at h8)
  have hu := (((((((((Calm.refl w).alloc (.cells #[.int .i64 kd, .slice A1 E.length c1, .slice A2 K.length c2, .slice A3 S.length c3, .slice A4 T.length c4] 34)).alloc (.cells #[.int .i64 p, .int .i64 o, .int .i64 f, .int .i64 m] 38)).alloc (.cells #[.int .i64 p', .int .i64 o', .int .i64 f', .int .i64 m'] 38)).alloc (.cells #[.int .i64 0, .int .i64 0, .int .i64 0, .int .i64 5] 38)).alloc (.cells #[.int .i64 1, .int .i64 2] 3)).alloc (.cells #[.int .i64 0, .int .i64 0, .int .i64 0, .int .i64 5] 38)).alloc (.cells #[.int .i64 3, .int .i64 4] 3)).alloc (.cells #[.int .i64 2, .slice none 0 0, .slice (some ⟨w.heap.size + 1 + 1 + 1 + 1, 0, none⟩) 2 2, .slice (some ⟨w.heap.size + 1 + 1 + 1 + 1 + 1, 0, none⟩) 1 1, .slice (some ⟨w.heap.size + 1 + 1 + 1 + 1 + 1 + 1, 0, none⟩) 2 2] 34))
  have hN := Lib.hid (ways_at h5 h6 h7)
  clear h5 h6 h7
  have cA := fun u (hu : Calm w u) => nodeKid_any kd A1 A2 A3 A4 c1 c2 c3 c4 E K S T p o f m u (h.calm hu)
  have cB := fun u (hu : Calm w u) => nodeKid_any kd A1 A2 A3 A4 c1 c2 c3 c4 E K S T p' o' f' m' u (h.calm hu)
  by_cases he : kidErr kd E K S T = 0
  rotate_left
  · have b1 : (kidErr kd E K S T != 0) = true := by simpa using he
    have k1 : kidVal kd E K S T p o f m = 0 := if_neg he
    have k2 : kidVal kd E K S T p' o' f' m' = 0 := if_neg he
    rw [k1] at cA
    rw [k2] at cB
    generalize kidErr kd E K S T = R at cA cB b1
    clear he k1 k2 h
    go_enter Try.func7, Try.ntmps7
    go_wp2_with (first
      | (go_at_call 17; (with_reducible refine (ways_kid hN.out).mono ?_); rintro e w1 ⟨rfl, hb1⟩; have hN1 := hN.out.calm hb1; replace hN := Lib.hid hN1; clear hN1; replace hs := (hb1.block (row4 hs).2.2.2.2).trans hs; replace h8 := (hb1.block (row5 h8).2.2.2.2.2).trans h8; obtain ⟨s0, s1, s2, s3, hss⟩ := row4 hs; obtain ⟨y0, y1, y2, y3, y4, hys⟩ := row5 h8; replace hn := (hb1.block (row5 hn).2.2.2.2.2).trans hn; replace ha := (hb1.block (row4 ha).2.2.2.2).trans ha; replace hb := (hb1.block (row4 hb).2.2.2.2).trans hb; replace hu := hu.call hb1; clear hb1; obtain ⟨n0, n1, n2, n3, n4, hns⟩ := row5 hn; obtain ⟨a0, a1, a2, a3, has⟩ := row4 ha; obtain ⟨b0, b1', b2', b3', hbs⟩ := row4 hb)
      | (go_at_call 16; (with_reducible refine (ways_tid hN.out).mono ?_); rintro e w1 ⟨rfl, hb1⟩; replace hn := (hb1.block (row5 hn).2.2.2.2.2).trans hn; replace ha := (hb1.block (row4 ha).2.2.2.2).trans ha; replace hb := (hb1.block (row4 hb).2.2.2.2).trans hb; replace hu := hu.call hb1; clear hb1; obtain ⟨n0, n1, n2, n3, n4, hns⟩ := row5 hn; obtain ⟨a0, a1, a2, a3, has⟩ := row4 ha; obtain ⟨b0, b1', b2', b3', hbs⟩ := row4 hb)
      | (go_at_call 17; (with_reducible refine (cA _ hu).mono ?_); rintro e w1 ⟨rfl, hb1⟩; replace hn := (hb1.block (row5 hn).2.2.2.2.2).trans hn; replace ha := (hb1.block (row4 ha).2.2.2.2).trans ha; replace hb := (hb1.block (row4 hb).2.2.2.2).trans hb; replace hu := hu.call hb1; clear hb1; obtain ⟨n0, n1, n2, n3, n4, hns⟩ := row5 hn; obtain ⟨a0, a1, a2, a3, has⟩ := row4 ha; obtain ⟨b0, b1', b2', b3', hbs⟩ := row4 hb)
      | (go_at_call 17; (with_reducible refine (cB _ hu).mono ?_); rintro e w1 ⟨rfl, hb1⟩; replace hn := (hb1.block (row5 hn).2.2.2.2.2).trans hn; replace ha := (hb1.block (row4 ha).2.2.2.2).trans ha; replace hb := (hb1.block (row4 hb).2.2.2.2).trans hb; replace hu := hu.call hb1; clear hb1; obtain ⟨n0, n1, n2, n3, n4, hns⟩ := row5 hn; obtain ⟨a0, a1, a2, a3, has⟩ := row4 ha; obtain ⟨b0, b1', b2', b3', hbs⟩ := row4 hb))
    go_ret
    exact ⟨rfl, hu⟩
  obtain ⟨hnd, hk2⟩ : ndErr kd E K S T = 0 ∧ kd = 2 := by
    unfold kidErr at he
    split at he
    · rename_i h1
      split at he
      · exact ⟨h1, by assumption⟩
      · cases he
    · rename_i h1; exact absurd he h1
  subst hk2
  obtain ⟨g1, g2, g3, g4, g5, _, _, g8⟩ := inner_good hnd
  have k1 : kidVal 2 E K S T p o f m = (ndKid S p o f m : Int) := if_pos he
  have k2 : kidVal 2 E K S T p' o' f' m' = (ndKid S p' o' f' m' : Int) := if_pos he
  have hI := pos_le (S.map Sp.el) (p, o, f) m
  have hlen : (S.map Sp.el).length = S.length := by simp
  rw [hlen] at hI
  rw [k1, he] at cA
  rw [k2, he] at cB
  have hmono : scmp p o f m p' o' f' m' ≤ 0 → ndKid S p o f m ≤ ndKid S p' o' f' m' := fun h1 => pos_mono (scmp_le.1 h1)
  have hP := fun i (hi : i < (S.map Sp.el).length) => pos_iff (k := (p, o, f)) (t := m) g8 i hi
  have cS := fun u (hu : Calm w u) (j : Nat) (q1 q2 q3 q4 : Int) (hj : S[j]? = some ⟨q1, q2, q3, q4⟩) => (show Calls Try.prog 17 #[.agg #[.int .i64 2, .slice A1 E.length c1, .slice A2 K.length c2, .slice A3 S.length c3, .slice A4 T.length c4], .agg #[.int .i64 q1, .int .i64 q2, .int .i64 q3, .int .i64 q4]] u fun e w' => e = .returned (.tuple #[.int .i64 ((j : Int) + 1), .int .i64 0]) ∧ Calm u w' from by
    have h1 := nodeKid_any 2 A1 A2 A3 A4 c1 c2 c3 c4 E K S T q1 q2 q3 q4 u (h.calm hu)
    have hjl : j < (S.map Sp.el).length := by rw [hlen]; exact (List.getElem?_eq_some_iff.1 hj).1
    have h2 := pos_self g8 hjl
    rw [map_el_at hj hjl] at h2
    rw [show kidVal 2 E K S T q1 q2 q3 q4 = (ndKid S q1 q2 q3 q4 : Int) from if_pos he, he, show ndKid S q1 q2 q3 q4 = j + 1 from h2, show ((j + 1 : Nat) : Int) = (j : Int) + 1 from by omega] at h1
    exact h1)
  have hLS := Lib.hid h.s
  have cM := fun u => cmpSpot_any p o f m p' o' f' m' u
  unfold ndKid at hmono cA cB
  generalize pos (S.map Sp.el) (p, o, f) m = I at hI hmono hP cA
  generalize pos (S.map Sp.el) (p', o', f') m' = J at hmono cB
  have hIK : I < K.length := by omega
  have hI9 : (I : Int) ≤ 8 := by omega
  have hS9 : S.length ≤ 8 := by omega
  have hS1 : 1 ≤ S.length := by omega
  have hk8 : (K.length : Int) ≤ 8 := by omega
  have hgap : scmp p o f m p' o' f' m' ≤ 0 ∧ I ≤ J ∨ 0 < scmp p o f m p' o' f' m' := by
    by_cases h1 : scmp p o f m p' o' f' m' ≤ 0
    · have := hmono h1; left; exact ⟨h1, by omega⟩
    · right; omega
  generalize scmp p o f m p' o' f' m' = C at hgap cM
  clear hmono he hnd k1 k2 h g1 g2 g3 g4 g5
  have hPI := Lib.hid hP
  clear hP
  rcases hgap with ⟨hg1, hg2⟩ | hg1
  · skip
    go_enter Try.func7, Try.ntmps7
    go_wp2_with (first
      | (go_at_call 17; (with_reducible refine (ways_kid hN.out).mono ?_); rintro e w1 ⟨rfl, hb1⟩; have hN1 := hN.out.calm hb1; replace hN := Lib.hid hN1; clear hN1; replace hs := (hb1.block (row4 hs).2.2.2.2).trans hs; replace h8 := (hb1.block (row5 h8).2.2.2.2.2).trans h8; obtain ⟨s0, s1, s2, s3, hss⟩ := row4 hs; obtain ⟨y0, y1, y2, y3, y4, hys⟩ := row5 h8; replace hn := (hb1.block (row5 hn).2.2.2.2.2).trans hn; replace ha := (hb1.block (row4 ha).2.2.2.2).trans ha; replace hb := (hb1.block (row4 hb).2.2.2.2).trans hb; replace hu := hu.call hb1; clear hb1; obtain ⟨n0, n1, n2, n3, n4, hns⟩ := row5 hn; obtain ⟨a0, a1, a2, a3, has⟩ := row4 ha; obtain ⟨b0, b1', b2', b3', hbs⟩ := row4 hb)
      | (go_at_call 16; (with_reducible refine (ways_tid hN.out).mono ?_); rintro e w1 ⟨rfl, hb1⟩; replace hn := (hb1.block (row5 hn).2.2.2.2.2).trans hn; replace ha := (hb1.block (row4 ha).2.2.2.2).trans ha; replace hb := (hb1.block (row4 hb).2.2.2.2).trans hb; replace hu := hu.call hb1; clear hb1; obtain ⟨n0, n1, n2, n3, n4, hns⟩ := row5 hn; obtain ⟨a0, a1, a2, a3, has⟩ := row4 ha; obtain ⟨b0, b1', b2', b3', hbs⟩ := row4 hb)
      | (go_at_call 17; (with_reducible refine (cA _ hu).mono ?_); rintro e w1 ⟨rfl, hb1⟩; replace hn := (hb1.block (row5 hn).2.2.2.2.2).trans hn; replace ha := (hb1.block (row4 ha).2.2.2.2).trans ha; replace hb := (hb1.block (row4 hb).2.2.2.2).trans hb; replace hu := hu.call hb1; clear hb1; obtain ⟨n0, n1, n2, n3, n4, hns⟩ := row5 hn; obtain ⟨a0, a1, a2, a3, has⟩ := row4 ha; obtain ⟨b0, b1', b2', b3', hbs⟩ := row4 hb)
      | (go_at_call 17; (with_reducible refine (cB _ hu).mono ?_); rintro e w1 ⟨rfl, hb1⟩; replace hn := (hb1.block (row5 hn).2.2.2.2.2).trans hn; replace ha := (hb1.block (row4 ha).2.2.2.2).trans ha; replace hb := (hb1.block (row4 hb).2.2.2.2).trans hb; replace hu := hu.call hb1; clear hb1; obtain ⟨n0, n1, n2, n3, n4, hns⟩ := row5 hn; obtain ⟨a0, a1, a2, a3, has⟩ := row4 ha; obtain ⟨b0, b1', b2', b3', hbs⟩ := row4 hb)
      | (go_at_call 22; (with_reducible refine (cM _).mono ?_); rintro e w1 ⟨rfl, hb1⟩; replace hn := (hb1.block (row5 hn).2.2.2.2.2).trans hn; replace ha := (hb1.block (row4 ha).2.2.2.2).trans ha; replace hb := (hb1.block (row4 hb).2.2.2.2).trans hb; replace hu := hu.call hb1; clear hb1; obtain ⟨n0, n1, n2, n3, n4, hns⟩ := row5 hn; obtain ⟨a0, a1, a2, a3, has⟩ := row4 ha; obtain ⟨b0, b1', b2', b3', hbs⟩ := row4 hb))
    have q1 : decide (K.length ≤ I) = false := decide_eq_false (by omega)
    have q2 : decide (J < I) = false := decide_eq_false (by omega)
    simp only [q1, q2, Bool.or_false]
    clear q1 q2
    clear cA cB cM hs h8 hN hg1 hg2
    go_loopw [98] (fun i wr => ∃ k : Nat, k ≤ S.length ∧ i = .int .i64 k ∧ Calm w wr ∧ wr.heap[w.heap.size]? = some (.cells #[.int .i64 2, .slice A1 E.length c1, .slice A2 K.length c2, .slice A3 S.length c3, .slice A4 T.length c4] 34 (0, 0)) ∧ wr.heap[w.heap.size + 1]? = some (.cells #[.int .i64 p, .int .i64 o, .int .i64 f, .int .i64 m] 38 (0, 0))) (fun i _ => S.length - (intOf i).toNat)
    case atStart => exact ⟨0, Nat.zero_le _, rfl, hu, hn, ha⟩
    case round =>
      obtain ⟨k, hk, rfl, hv, hn9, ha9⟩ := hrel
      clear n0 n1 n2 n3 n4 hns a0 a1 a2 a3 has b0 b1' b2' b3' hbs hu hn ha hb
      by_cases hlt : k < S.length
      · obtain ⟨b, q, q1, q2, q3, q4, rfl, hbb, HE, hm, e0, e1, e2, e3⟩ := (hLS.out.calm hv).get hlt
        have cK := fun u (hu : Calm w u) => cS u hu k q1 q2 q3 q4 HE.out
        have hvb := hv.alloc (.cells #[.int .i64 q1, .int .i64 q2, .int .i64 q3, .int .i64 q4] 38)
        have hsz := (row5 hn9).2.2.2.2.2
        have hsz2 := (row4 ha9).2.2.2.2
        obtain ⟨n0, n1, n2, n3, n4, hns⟩ := row5 hn9
        clear cS
        go_wp2_with (go_at_call 17; (with_reducible refine (cK _ hvb).mono ?_); rintro e w1 ⟨rfl, hb1⟩)
        go_roundw
        case rel => exact ⟨k + 1, by omega, by go_num, hvb.call hb1, (hb1.block (by simp; omega)).trans (heap_past _ hn9), (hb1.block (by simp; omega)).trans (heap_past _ ha9)⟩
        case measure => simp [intOf]; omega
      · obtain rfl : k = S.length := by omega
        obtain ⟨n0, n1, n2, n3, n4, hns⟩ := row5 hn9
        obtain ⟨a0, a1, a2, a3, has⟩ := row4 ha9
        clear cS hk hlt
        rcases (show I = 0 ∨ 0 < I ∧ I < S.length ∨ 0 < I ∧ I = S.length from by omega) with h3 | ⟨h3, h4⟩ | ⟨h3, h4⟩
        · subst h3
          obtain ⟨b, q, r1, r2, r3, r4, rfl, hbb, HE', hm', d0, d1, d2, d3⟩ := (hLS.out.calm hv).get (k := 0) (by omega)
          have hP2 := hPI.out 0 (by rw [hlen]; omega)
          rw [map_el_at HE'.out (by rw [hlen]; omega)] at hP2
          have hG : scmp p o f m r1 r2 r3 r4 < 0 := scmp_neg.2 (by
            rcases Classical.em (sLt (p, o, f) m (r1, r2, r3) r4) with h1 | h1
            · exact h1
            · exact absurd (hP2.2 h1) (Nat.lt_irrefl _))
          have cR := fun u => cmpSpot_any p o f m r1 r2 r3 r4 u
          generalize scmp p o f m r1 r2 r3 r4 = G at hG cR
          clear hP2 HE'
          simp only [Nat.zero_mul, Nat.add_zero] at d0 d1 d2 d3
          have y1 : ((0 : Int) == (S.length : Int)) = false := by rw [beq_eq_false_iff_ne]; omega
          have y2 : (0 : Int) < (S.length : Int) := by omega
          have y3 : 0 < S.length := by omega
          clear hPI hlen
          go_wp2_with fail
          refine wp_region_plan [.val (.int .i64 (0)), .val (.bool true), .val (.bool true), .idle, .idle, .idle, .idle, .idle, .idle, .idle, .idle, .idle, .val (.bool true), .val (.bool true), .val (.int .i64 (0)), .val (.pointer (some ⟨w.heap.size, 3, none⟩)), .val (.slice (some ⟨b, q, none⟩) S.length c3), .val (.int .i64 ((S.length : Int))), .val (.bool false), .val (.bool false), .val (.agg #[.int .i64 p, .int .i64 o, .int .i64 f, .int .i64 m]), .val (.pointer (some ⟨w.heap.size, 3, none⟩)), .val (.slice (some ⟨b, q, none⟩) S.length c3), .val (.int .i64 (0)), .val (.pointer (some ⟨b, q, none⟩)), .val (.agg #[.int .i64 r1, .int .i64 r2, .int .i64 r3, .int .i64 r4]), .val (.int .i64 (G)), .val (.bool true), .val (.bool true), .val (.bool true), .val (.bool true)] (by kernel_rfl) (by kernel_rfl) (by kernel_rfl) ?_
          intro X
          iterate 3
            refine plan_val (by kernel_rfl) (fun u hu => ?_) ?_
            · obtain ⟨hc, hf, hz⟩ := hu.of_drew.facts
              go_simp
              all_goals first
                | ((go_at_call 22; exact cR _))
            simp only [Act.put, List.setIfInBounds_toArray, List.set_cons_zero, List.set_cons_succ, Nat.reduceAdd]
          iterate 9
            refine plan_idle (by kernel_rfl) ?_
            simp only [Act.put, List.setIfInBounds_toArray, List.set_cons_zero, List.set_cons_succ, Nat.reduceAdd]
          iterate 19
            refine plan_val (by kernel_rfl) (fun u hu => ?_) ?_
            · obtain ⟨hc, hf, hz⟩ := hu.of_drew.facts
              go_simp
              all_goals first
                | ((go_at_call 22; exact cR _))
            simp only [Act.put, List.setIfInBounds_toArray, List.set_cons_zero, List.set_cons_succ, Nat.reduceAdd]
          refine plan_end ?_
          intro w' hB
          have hk := hB.calm.of_drew
          clear hB
          go_wp2_with fail
          go_ret
          exact ⟨rfl, hv.call hk⟩
        · skip
          obtain ⟨b, q, q1, q2, q3, q4, rfl, hbb, HE, hm, e0, e1, e2, e3⟩ := (hLS.out.calm hv).get (k := I - 1) (by omega)
          have hP1 := hPI.out (I - 1) (by rw [hlen]; omega)
          rw [map_el_at HE.out (by rw [hlen]; omega)] at hP1
          have hD : scmp q1 q2 q3 q4 p o f m ≤ 0 := scmp_le.2 (hP1.1 (by omega))
          have cQ := fun u => cmpSpot_any q1 q2 q3 q4 p o f m u
          generalize scmp q1 q2 q3 q4 p o f m = D at hD cQ
          clear hP1 HE
          obtain ⟨r1, r2, r3, r4, HE', hm', d0, d1, d2, d3⟩ := (hLS.out.calm hv).get2 (k := I) (by omega)
          have hP2 := hPI.out I (by rw [hlen]; omega)
          rw [map_el_at HE'.out (by rw [hlen]; omega)] at hP2
          have hG : scmp p o f m r1 r2 r3 r4 < 0 := scmp_neg.2 (by
            rcases Classical.em (sLt (p, o, f) m (r1, r2, r3) r4) with h1 | h1
            · exact h1
            · exact absurd (hP2.2 h1) (Nat.lt_irrefl _))
          have cR := fun u => cmpSpot_any p o f m r1 r2 r3 r4 u
          generalize scmp p o f m r1 r2 r3 r4 = G at hG cR
          clear hP2 HE'
          have z1 : IntKind.i64.wrap ((I : Int) - 1) = (I : Int) - 1 := IntWalk.i64_in _ (by omega)
          have z2 : ((I : Int) - 1).toNat = I - 1 := by omega
          have z3 : 0 ≤ (I : Int) - 1 := by omega
          have z4 : (I : Int) - 1 < S.length := by omega
          have z5 : 1 ≤ (I : Int) := by omega
          have z6 : ((I : Int) == 0) = false := by rw [beq_eq_false_iff_ne]; omega
          have y1 : ((I : Int) == (S.length : Int)) = false := by rw [beq_eq_false_iff_ne]; omega
          have y2 : (I : Int) < (S.length : Int) := by omega
          have y3 : I < S.length := by omega
          clear hPI hlen
          go_wp2_with fail
          refine wp_region_plan [.val (.int .i64 (I)), .val (.bool false), .val (.bool false), .val (.pointer (some ⟨w.heap.size, 3, none⟩)), .val (.slice (some ⟨b, q, none⟩) S.length c3), .val (.int .i64 (I)), .val (.int .i64 ((I : Int) - 1)), .val (.pointer (some ⟨b, q + (I - 1) * 4, none⟩)), .val (.agg #[.int .i64 q1, .int .i64 q2, .int .i64 q3, .int .i64 q4]), .val (.agg #[.int .i64 p, .int .i64 o, .int .i64 f, .int .i64 m]), .val (.int .i64 (D)), .val (.bool true), .val (.bool true), .val (.bool true), .val (.int .i64 (I)), .val (.pointer (some ⟨w.heap.size, 3, none⟩)), .val (.slice (some ⟨b, q, none⟩) S.length c3), .val (.int .i64 ((S.length : Int))), .val (.bool false), .val (.bool false), .val (.agg #[.int .i64 p, .int .i64 o, .int .i64 f, .int .i64 m]), .val (.pointer (some ⟨w.heap.size, 3, none⟩)), .val (.slice (some ⟨b, q, none⟩) S.length c3), .val (.int .i64 (I)), .val (.pointer (some ⟨b, q + I * 4, none⟩)), .val (.agg #[.int .i64 r1, .int .i64 r2, .int .i64 r3, .int .i64 r4]), .val (.int .i64 (G)), .val (.bool true), .val (.bool true), .val (.bool true), .val (.bool true)] (by kernel_rfl) (by kernel_rfl) (by kernel_rfl) ?_
          intro X
          iterate 31
            refine plan_val (by kernel_rfl) (fun u hu => ?_) ?_
            · obtain ⟨hc, hf, hz⟩ := hu.of_drew.facts
              go_simp
              all_goals first
                | ((go_at_call 22; first | (with_reducible exact cQ _) | (with_reducible exact cR _)))
            simp only [Act.put, List.setIfInBounds_toArray, List.set_cons_zero, List.set_cons_succ, Nat.reduceAdd]
          refine plan_end ?_
          intro w' hB
          have hk := hB.calm.of_drew
          clear hB
          clear z1 z2 z3 z4 z5 z6
          go_wp2_with fail
          go_ret
          exact ⟨rfl, hv.call hk⟩
        · skip
          obtain ⟨b, q, q1, q2, q3, q4, rfl, hbb, HE, hm, e0, e1, e2, e3⟩ := (hLS.out.calm hv).get (k := I - 1) (by omega)
          have hP1 := hPI.out (I - 1) (by rw [hlen]; omega)
          rw [map_el_at HE.out (by rw [hlen]; omega)] at hP1
          have hD : scmp q1 q2 q3 q4 p o f m ≤ 0 := scmp_le.2 (hP1.1 (by omega))
          have cQ := fun u => cmpSpot_any q1 q2 q3 q4 p o f m u
          generalize scmp q1 q2 q3 q4 p o f m = D at hD cQ
          clear hP1 HE
          have z1 : IntKind.i64.wrap ((I : Int) - 1) = (I : Int) - 1 := IntWalk.i64_in _ (by omega)
          have z2 : ((I : Int) - 1).toNat = I - 1 := by omega
          have z3 : 0 ≤ (I : Int) - 1 := by omega
          have z4 : (I : Int) - 1 < S.length := by omega
          have z5 : 1 ≤ (I : Int) := by omega
          have z6 : ((I : Int) == 0) = false := by rw [beq_eq_false_iff_ne]; omega
          have y1 : ((I : Int) == (S.length : Int)) = true := by rw [beq_iff_eq]; omega
          clear hPI hlen h4
          go_wp2_with fail
          refine wp_region_plan [.val (.int .i64 (I)), .val (.bool false), .val (.bool false), .val (.pointer (some ⟨w.heap.size, 3, none⟩)), .val (.slice (some ⟨b, q, none⟩) S.length c3), .val (.int .i64 (I)), .val (.int .i64 ((I : Int) - 1)), .val (.pointer (some ⟨b, q + (I - 1) * 4, none⟩)), .val (.agg #[.int .i64 q1, .int .i64 q2, .int .i64 q3, .int .i64 q4]), .val (.agg #[.int .i64 p, .int .i64 o, .int .i64 f, .int .i64 m]), .val (.int .i64 (D)), .val (.bool true), .val (.bool true), .val (.bool true), .val (.int .i64 (I)), .val (.pointer (some ⟨w.heap.size, 3, none⟩)), .val (.slice (some ⟨b, q, none⟩) S.length c3), .val (.int .i64 ((S.length : Int))), .val (.bool true), .val (.bool true), .idle, .idle, .idle, .idle, .idle, .idle, .idle, .idle, .val (.bool true), .val (.bool true), .val (.bool true)] (by kernel_rfl) (by kernel_rfl) (by kernel_rfl) ?_
          intro X
          iterate 20
            refine plan_val (by kernel_rfl) (fun u hu => ?_) ?_
            · obtain ⟨hc, hf, hz⟩ := hu.of_drew.facts
              go_simp
              all_goals first
                | ((go_at_call 22; exact cQ _))
            simp only [Act.put, List.setIfInBounds_toArray, List.set_cons_zero, List.set_cons_succ, Nat.reduceAdd]
          iterate 8
            refine plan_idle (by kernel_rfl) ?_
            simp only [Act.put, List.setIfInBounds_toArray, List.set_cons_zero, List.set_cons_succ, Nat.reduceAdd]
          iterate 3
            refine plan_val (by kernel_rfl) (fun u hu => ?_) ?_
            · obtain ⟨hc, hf, hz⟩ := hu.of_drew.facts
              go_simp
              all_goals first
                | ((go_at_call 22; exact cQ _))
            simp only [Act.put, List.setIfInBounds_toArray, List.set_cons_zero, List.set_cons_succ, Nat.reduceAdd]
          refine plan_end ?_
          intro w' hB
          have hk := hB.calm.of_drew
          clear hB
          clear z1 z2 z3 z4 z5 z6
          go_wp2_with fail
          go_ret
          exact ⟨rfl, hv.call hk⟩
  · skip
    go_enter Try.func7, Try.ntmps7
    go_wp2_with (first
      | (go_at_call 17; (with_reducible refine (ways_kid hN.out).mono ?_); rintro e w1 ⟨rfl, hb1⟩; have hN1 := hN.out.calm hb1; replace hN := Lib.hid hN1; clear hN1; replace hs := (hb1.block (row4 hs).2.2.2.2).trans hs; replace h8 := (hb1.block (row5 h8).2.2.2.2.2).trans h8; obtain ⟨s0, s1, s2, s3, hss⟩ := row4 hs; obtain ⟨y0, y1, y2, y3, y4, hys⟩ := row5 h8; replace hn := (hb1.block (row5 hn).2.2.2.2.2).trans hn; replace ha := (hb1.block (row4 ha).2.2.2.2).trans ha; replace hb := (hb1.block (row4 hb).2.2.2.2).trans hb; replace hu := hu.call hb1; clear hb1; obtain ⟨n0, n1, n2, n3, n4, hns⟩ := row5 hn; obtain ⟨a0, a1, a2, a3, has⟩ := row4 ha; obtain ⟨b0, b1', b2', b3', hbs⟩ := row4 hb)
      | (go_at_call 16; (with_reducible refine (ways_tid hN.out).mono ?_); rintro e w1 ⟨rfl, hb1⟩; replace hn := (hb1.block (row5 hn).2.2.2.2.2).trans hn; replace ha := (hb1.block (row4 ha).2.2.2.2).trans ha; replace hb := (hb1.block (row4 hb).2.2.2.2).trans hb; replace hu := hu.call hb1; clear hb1; obtain ⟨n0, n1, n2, n3, n4, hns⟩ := row5 hn; obtain ⟨a0, a1, a2, a3, has⟩ := row4 ha; obtain ⟨b0, b1', b2', b3', hbs⟩ := row4 hb)
      | (go_at_call 17; (with_reducible refine (cA _ hu).mono ?_); rintro e w1 ⟨rfl, hb1⟩; replace hn := (hb1.block (row5 hn).2.2.2.2.2).trans hn; replace ha := (hb1.block (row4 ha).2.2.2.2).trans ha; replace hb := (hb1.block (row4 hb).2.2.2.2).trans hb; replace hu := hu.call hb1; clear hb1; obtain ⟨n0, n1, n2, n3, n4, hns⟩ := row5 hn; obtain ⟨a0, a1, a2, a3, has⟩ := row4 ha; obtain ⟨b0, b1', b2', b3', hbs⟩ := row4 hb)
      | (go_at_call 17; (with_reducible refine (cB _ hu).mono ?_); rintro e w1 ⟨rfl, hb1⟩; replace hn := (hb1.block (row5 hn).2.2.2.2.2).trans hn; replace ha := (hb1.block (row4 ha).2.2.2.2).trans ha; replace hb := (hb1.block (row4 hb).2.2.2.2).trans hb; replace hu := hu.call hb1; clear hb1; obtain ⟨n0, n1, n2, n3, n4, hns⟩ := row5 hn; obtain ⟨a0, a1, a2, a3, has⟩ := row4 ha; obtain ⟨b0, b1', b2', b3', hbs⟩ := row4 hb)
      | (go_at_call 22; (with_reducible refine (cM _).mono ?_); rintro e w1 ⟨rfl, hb1⟩; replace hn := (hb1.block (row5 hn).2.2.2.2.2).trans hn; replace ha := (hb1.block (row4 ha).2.2.2.2).trans ha; replace hb := (hb1.block (row4 hb).2.2.2.2).trans hb; replace hu := hu.call hb1; clear hb1; obtain ⟨n0, n1, n2, n3, n4, hns⟩ := row5 hn; obtain ⟨a0, a1, a2, a3, has⟩ := row4 ha; obtain ⟨b0, b1', b2', b3', hbs⟩ := row4 hb))
    clear cA cB cM hs h8 hN hg1
    go_loopw [98] (fun i wr => ∃ k : Nat, k ≤ S.length ∧ i = .int .i64 k ∧ Calm w wr ∧ wr.heap[w.heap.size]? = some (.cells #[.int .i64 2, .slice A1 E.length c1, .slice A2 K.length c2, .slice A3 S.length c3, .slice A4 T.length c4] 34 (0, 0)) ∧ wr.heap[w.heap.size + 1]? = some (.cells #[.int .i64 p, .int .i64 o, .int .i64 f, .int .i64 m] 38 (0, 0))) (fun i _ => S.length - (intOf i).toNat)
    case atStart => exact ⟨0, Nat.zero_le _, rfl, hu, hn, ha⟩
    case round =>
      obtain ⟨k, hk, rfl, hv, hn9, ha9⟩ := hrel
      clear n0 n1 n2 n3 n4 hns a0 a1 a2 a3 has b0 b1' b2' b3' hbs hu hn ha hb
      by_cases hlt : k < S.length
      · obtain ⟨b, q, q1, q2, q3, q4, rfl, hbb, HE, hm, e0, e1, e2, e3⟩ := (hLS.out.calm hv).get hlt
        have cK := fun u (hu : Calm w u) => cS u hu k q1 q2 q3 q4 HE.out
        have hvb := hv.alloc (.cells #[.int .i64 q1, .int .i64 q2, .int .i64 q3, .int .i64 q4] 38)
        have hsz := (row5 hn9).2.2.2.2.2
        have hsz2 := (row4 ha9).2.2.2.2
        obtain ⟨n0, n1, n2, n3, n4, hns⟩ := row5 hn9
        clear cS
        go_wp2_with (go_at_call 17; (with_reducible refine (cK _ hvb).mono ?_); rintro e w1 ⟨rfl, hb1⟩)
        go_roundw
        case rel => exact ⟨k + 1, by omega, by go_num, hvb.call hb1, (hb1.block (by simp; omega)).trans (heap_past _ hn9), (hb1.block (by simp; omega)).trans (heap_past _ ha9)⟩
        case measure => simp [intOf]; omega
      · obtain rfl : k = S.length := by omega
        obtain ⟨n0, n1, n2, n3, n4, hns⟩ := row5 hn9
        obtain ⟨a0, a1, a2, a3, has⟩ := row4 ha9
        clear cS hk hlt
        rcases (show I = 0 ∨ 0 < I ∧ I < S.length ∨ 0 < I ∧ I = S.length from by omega) with h3 | ⟨h3, h4⟩ | ⟨h3, h4⟩
        · subst h3
          obtain ⟨b, q, r1, r2, r3, r4, rfl, hbb, HE', hm', d0, d1, d2, d3⟩ := (hLS.out.calm hv).get (k := 0) (by omega)
          have hP2 := hPI.out 0 (by rw [hlen]; omega)
          rw [map_el_at HE'.out (by rw [hlen]; omega)] at hP2
          have hG : scmp p o f m r1 r2 r3 r4 < 0 := scmp_neg.2 (by
            rcases Classical.em (sLt (p, o, f) m (r1, r2, r3) r4) with h1 | h1
            · exact h1
            · exact absurd (hP2.2 h1) (Nat.lt_irrefl _))
          have cR := fun u => cmpSpot_any p o f m r1 r2 r3 r4 u
          generalize scmp p o f m r1 r2 r3 r4 = G at hG cR
          clear hP2 HE'
          simp only [Nat.zero_mul, Nat.add_zero] at d0 d1 d2 d3
          have y1 : ((0 : Int) == (S.length : Int)) = false := by rw [beq_eq_false_iff_ne]; omega
          have y2 : (0 : Int) < (S.length : Int) := by omega
          have y3 : 0 < S.length := by omega
          clear hPI hlen
          go_wp2_with fail
          refine wp_region_plan [.val (.int .i64 (0)), .val (.bool true), .val (.bool true), .idle, .idle, .idle, .idle, .idle, .idle, .idle, .idle, .idle, .val (.bool true), .val (.bool true), .val (.int .i64 (0)), .val (.pointer (some ⟨w.heap.size, 3, none⟩)), .val (.slice (some ⟨b, q, none⟩) S.length c3), .val (.int .i64 ((S.length : Int))), .val (.bool false), .val (.bool false), .val (.agg #[.int .i64 p, .int .i64 o, .int .i64 f, .int .i64 m]), .val (.pointer (some ⟨w.heap.size, 3, none⟩)), .val (.slice (some ⟨b, q, none⟩) S.length c3), .val (.int .i64 (0)), .val (.pointer (some ⟨b, q, none⟩)), .val (.agg #[.int .i64 r1, .int .i64 r2, .int .i64 r3, .int .i64 r4]), .val (.int .i64 (G)), .val (.bool true), .val (.bool true), .val (.bool true), .val (.bool true)] (by kernel_rfl) (by kernel_rfl) (by kernel_rfl) ?_
          intro X
          iterate 3
            refine plan_val (by kernel_rfl) (fun u hu => ?_) ?_
            · obtain ⟨hc, hf, hz⟩ := hu.of_drew.facts
              go_simp
              all_goals first
                | ((go_at_call 22; exact cR _))
            simp only [Act.put, List.setIfInBounds_toArray, List.set_cons_zero, List.set_cons_succ, Nat.reduceAdd]
          iterate 9
            refine plan_idle (by kernel_rfl) ?_
            simp only [Act.put, List.setIfInBounds_toArray, List.set_cons_zero, List.set_cons_succ, Nat.reduceAdd]
          iterate 19
            refine plan_val (by kernel_rfl) (fun u hu => ?_) ?_
            · obtain ⟨hc, hf, hz⟩ := hu.of_drew.facts
              go_simp
              all_goals first
                | ((go_at_call 22; exact cR _))
            simp only [Act.put, List.setIfInBounds_toArray, List.set_cons_zero, List.set_cons_succ, Nat.reduceAdd]
          refine plan_end ?_
          intro w' hB
          have hk := hB.calm.of_drew
          clear hB
          go_wp2_with fail
          go_ret
          exact ⟨rfl, hv.call hk⟩
        · skip
          obtain ⟨b, q, q1, q2, q3, q4, rfl, hbb, HE, hm, e0, e1, e2, e3⟩ := (hLS.out.calm hv).get (k := I - 1) (by omega)
          have hP1 := hPI.out (I - 1) (by rw [hlen]; omega)
          rw [map_el_at HE.out (by rw [hlen]; omega)] at hP1
          have hD : scmp q1 q2 q3 q4 p o f m ≤ 0 := scmp_le.2 (hP1.1 (by omega))
          have cQ := fun u => cmpSpot_any q1 q2 q3 q4 p o f m u
          generalize scmp q1 q2 q3 q4 p o f m = D at hD cQ
          clear hP1 HE
          obtain ⟨r1, r2, r3, r4, HE', hm', d0, d1, d2, d3⟩ := (hLS.out.calm hv).get2 (k := I) (by omega)
          have hP2 := hPI.out I (by rw [hlen]; omega)
          rw [map_el_at HE'.out (by rw [hlen]; omega)] at hP2
          have hG : scmp p o f m r1 r2 r3 r4 < 0 := scmp_neg.2 (by
            rcases Classical.em (sLt (p, o, f) m (r1, r2, r3) r4) with h1 | h1
            · exact h1
            · exact absurd (hP2.2 h1) (Nat.lt_irrefl _))
          have cR := fun u => cmpSpot_any p o f m r1 r2 r3 r4 u
          generalize scmp p o f m r1 r2 r3 r4 = G at hG cR
          clear hP2 HE'
          have z1 : IntKind.i64.wrap ((I : Int) - 1) = (I : Int) - 1 := IntWalk.i64_in _ (by omega)
          have z2 : ((I : Int) - 1).toNat = I - 1 := by omega
          have z3 : 0 ≤ (I : Int) - 1 := by omega
          have z4 : (I : Int) - 1 < S.length := by omega
          have z5 : 1 ≤ (I : Int) := by omega
          have z6 : ((I : Int) == 0) = false := by rw [beq_eq_false_iff_ne]; omega
          have y1 : ((I : Int) == (S.length : Int)) = false := by rw [beq_eq_false_iff_ne]; omega
          have y2 : (I : Int) < (S.length : Int) := by omega
          have y3 : I < S.length := by omega
          clear hPI hlen
          go_wp2_with fail
          refine wp_region_plan [.val (.int .i64 (I)), .val (.bool false), .val (.bool false), .val (.pointer (some ⟨w.heap.size, 3, none⟩)), .val (.slice (some ⟨b, q, none⟩) S.length c3), .val (.int .i64 (I)), .val (.int .i64 ((I : Int) - 1)), .val (.pointer (some ⟨b, q + (I - 1) * 4, none⟩)), .val (.agg #[.int .i64 q1, .int .i64 q2, .int .i64 q3, .int .i64 q4]), .val (.agg #[.int .i64 p, .int .i64 o, .int .i64 f, .int .i64 m]), .val (.int .i64 (D)), .val (.bool true), .val (.bool true), .val (.bool true), .val (.int .i64 (I)), .val (.pointer (some ⟨w.heap.size, 3, none⟩)), .val (.slice (some ⟨b, q, none⟩) S.length c3), .val (.int .i64 ((S.length : Int))), .val (.bool false), .val (.bool false), .val (.agg #[.int .i64 p, .int .i64 o, .int .i64 f, .int .i64 m]), .val (.pointer (some ⟨w.heap.size, 3, none⟩)), .val (.slice (some ⟨b, q, none⟩) S.length c3), .val (.int .i64 (I)), .val (.pointer (some ⟨b, q + I * 4, none⟩)), .val (.agg #[.int .i64 r1, .int .i64 r2, .int .i64 r3, .int .i64 r4]), .val (.int .i64 (G)), .val (.bool true), .val (.bool true), .val (.bool true), .val (.bool true)] (by kernel_rfl) (by kernel_rfl) (by kernel_rfl) ?_
          intro X
          iterate 31
            refine plan_val (by kernel_rfl) (fun u hu => ?_) ?_
            · obtain ⟨hc, hf, hz⟩ := hu.of_drew.facts
              go_simp
              all_goals first
                | ((go_at_call 22; first | (with_reducible exact cQ _) | (with_reducible exact cR _)))
            simp only [Act.put, List.setIfInBounds_toArray, List.set_cons_zero, List.set_cons_succ, Nat.reduceAdd]
          refine plan_end ?_
          intro w' hB
          have hk := hB.calm.of_drew
          clear hB
          clear z1 z2 z3 z4 z5 z6
          go_wp2_with fail
          go_ret
          exact ⟨rfl, hv.call hk⟩
        · skip
          obtain ⟨b, q, q1, q2, q3, q4, rfl, hbb, HE, hm, e0, e1, e2, e3⟩ := (hLS.out.calm hv).get (k := I - 1) (by omega)
          have hP1 := hPI.out (I - 1) (by rw [hlen]; omega)
          rw [map_el_at HE.out (by rw [hlen]; omega)] at hP1
          have hD : scmp q1 q2 q3 q4 p o f m ≤ 0 := scmp_le.2 (hP1.1 (by omega))
          have cQ := fun u => cmpSpot_any q1 q2 q3 q4 p o f m u
          generalize scmp q1 q2 q3 q4 p o f m = D at hD cQ
          clear hP1 HE
          have z1 : IntKind.i64.wrap ((I : Int) - 1) = (I : Int) - 1 := IntWalk.i64_in _ (by omega)
          have z2 : ((I : Int) - 1).toNat = I - 1 := by omega
          have z3 : 0 ≤ (I : Int) - 1 := by omega
          have z4 : (I : Int) - 1 < S.length := by omega
          have z5 : 1 ≤ (I : Int) := by omega
          have z6 : ((I : Int) == 0) = false := by rw [beq_eq_false_iff_ne]; omega
          have y1 : ((I : Int) == (S.length : Int)) = true := by rw [beq_iff_eq]; omega
          clear hPI hlen h4
          go_wp2_with fail
          refine wp_region_plan [.val (.int .i64 (I)), .val (.bool false), .val (.bool false), .val (.pointer (some ⟨w.heap.size, 3, none⟩)), .val (.slice (some ⟨b, q, none⟩) S.length c3), .val (.int .i64 (I)), .val (.int .i64 ((I : Int) - 1)), .val (.pointer (some ⟨b, q + (I - 1) * 4, none⟩)), .val (.agg #[.int .i64 q1, .int .i64 q2, .int .i64 q3, .int .i64 q4]), .val (.agg #[.int .i64 p, .int .i64 o, .int .i64 f, .int .i64 m]), .val (.int .i64 (D)), .val (.bool true), .val (.bool true), .val (.bool true), .val (.int .i64 (I)), .val (.pointer (some ⟨w.heap.size, 3, none⟩)), .val (.slice (some ⟨b, q, none⟩) S.length c3), .val (.int .i64 ((S.length : Int))), .val (.bool true), .val (.bool true), .idle, .idle, .idle, .idle, .idle, .idle, .idle, .idle, .val (.bool true), .val (.bool true), .val (.bool true)] (by kernel_rfl) (by kernel_rfl) (by kernel_rfl) ?_
          intro X
          iterate 20
            refine plan_val (by kernel_rfl) (fun u hu => ?_) ?_
            · obtain ⟨hc, hf, hz⟩ := hu.of_drew.facts
              go_simp
              all_goals first
                | ((go_at_call 22; exact cQ _))
            simp only [Act.put, List.setIfInBounds_toArray, List.set_cons_zero, List.set_cons_succ, Nat.reduceAdd]
          iterate 8
            refine plan_idle (by kernel_rfl) ?_
            simp only [Act.put, List.setIfInBounds_toArray, List.set_cons_zero, List.set_cons_succ, Nat.reduceAdd]
          iterate 3
            refine plan_val (by kernel_rfl) (fun u hu => ?_) ?_
            · obtain ⟨hc, hf, hz⟩ := hu.of_drew.facts
              go_simp
              all_goals first
                | ((go_at_call 22; exact cQ _))
            simp only [Act.put, List.setIfInBounds_toArray, List.set_cons_zero, List.set_cons_succ, Nat.reduceAdd]
          refine plan_end ?_
          intro w' hB
          have hk := hB.calm.of_drew
          clear hB
          clear z1 z2 z3 z4 z5 z6
          go_wp2_with fail
          go_ret
          exact ⟨rfl, hv.call hk⟩
end Go.Proofs.Ytimfjjnlbfcccaa
