/- RunSame: the law's own walk. -/
import Derived.Test.YtjjibnkooloagaaLit
import Derived.Test.YtjjibnkooloagaaPure6
namespace Go.Proofs.Ytjjibnkooloagaa
open Go.ChangeShapes Go.WideShapes Go.ChangeAt Go.RowKit

theorem litCut5 : cutErr [⟨0, 0, 1, 1, 0, { data := #[97] }⟩] (0, 0, 1) 5 = 0 ∧ cutR [⟨0, 0, 1, 1, 0, { data := #[97] }⟩] (0, 0, 1) 5 = [⟨0, 0, 1, 1, 5, { data := #[97] }⟩] := ⟨by kernel_rfl, by kernel_rfl⟩

theorem put_ans (A : Option Addr) (d : Nat) (l : List El) (p o f : Int) (s : ByteArray) (t : Int) (w2 : World) (n : Int) (M : List El) (hn : l.length ≤ 9223372036854775807) (hL : Lies w2 A l) (h1 : putErr l (p, o, f) s t = n) (h2 : (if n = 0 then putR l (p, o, f) s t else []) = M) :
    Calls Try.prog 25 #[.slice A l.length d, .agg #[.int .i64 p, .int .i64 o, .int .i64 f], .string s, .int .i64 t] w2 fun e w' => ∃ A8 c8, e = .returned (.tuple #[.slice A8 M.length c8, .int .i64 n]) ∧ (M.length ≤ 9223372036854775807 ∧ Lies w' A8 M) ∧ Calm w2 w' := by
  have h := runPut_any A d l p o f s t w2 hn hL
  rw [h1, h2] at h
  refine Calls.mono h ?_
  rintro e w' ⟨v, rfl, ⟨A8, c8, rfl, hl, hL⟩, hc⟩
  exact ⟨A8, c8, rfl, ⟨hl, hL⟩, hc⟩
theorem cut_ans (A : Option Addr) (d : Nat) (l : List El) (p o f : Int) (t : Int) (w2 : World) (n : Int) (M : List El) (hn : l.length ≤ 9223372036854775807) (hL : Lies w2 A l) (h1 : cutErr l (p, o, f) t = n) (h2 : (if n = 0 then cutR l (p, o, f) t else []) = M) :
    Calls Try.prog 27 #[.slice A l.length d, .agg #[.int .i64 p, .int .i64 o, .int .i64 f], .int .i64 t] w2 fun e w' => ∃ A8 c8, e = .returned (.tuple #[.slice A8 M.length c8, .int .i64 n]) ∧ (M.length ≤ 9223372036854775807 ∧ Lies w' A8 M) ∧ Calm w2 w' := by
  have h := runCut_any A d l p o f t w2 hn hL
  rw [h1, h2] at h
  refine Calls.mono h ?_
  rintro e w' ⟨v, rfl, ⟨A8, c8, rfl, hl, hL⟩, hc⟩
  exact ⟨A8, c8, rfl, ⟨hl, hL⟩, hc⟩
theorem wr_of_put {l : List El} {k : Int × Int × Int} {s : ByteArray} {t : Int} (he : putErr l k s t = 0) : wrErr l (fresh k s t) = 0 := by
  unfold putErr at he
  by_cases h : wrErr l (fresh k s t) = 0
  · exact h
  · rw [if_neg h] at he; exact absurd he h

set_option maxRecDepth 100000 in
set_option maxHeartbeats 32000000 in
theorem runSame_walk (A : Option Addr) (d : Nat) (l : List El) (p1 o1 f1 p2 o2 f2 : Int) (s1 s2 : ByteArray) (t : Int) (w : World) (hn : l.length ≤ 9223372036854775807) (hL : Lies w A l) :
    Calls Try.prog 10 #[.slice A l.length d, .agg #[.int .i64 p1, .int .i64 o1, .int .i64 f1], .agg #[.int .i64 p2, .int .i64 o2, .int .i64 f2], .string s1, .string s2, .int .i64 t] w fun e w' => e = .returned (.bool true) ∧ Calm w w' := by
  have hx : ((w.alloc (.cells #[.int .i64 p1, .int .i64 o1, .int .i64 f1] 30)).alloc (.cells #[.int .i64 p2, .int .i64 o2, .int .i64 f2] 30)).heap[w.heap.size]? = some (.cells #[.int .i64 p1, .int .i64 o1, .int .i64 f1] 30 (0, 0)) := heap_past _ (heap_new _ _)
  have hy : ((w.alloc (.cells #[.int .i64 p1, .int .i64 o1, .int .i64 f1] 30)).alloc (.cells #[.int .i64 p2, .int .i64 o2, .int .i64 f2] 30)).heap[w.heap.size + 1]? = some (.cells #[.int .i64 p2, .int .i64 o2, .int .i64 f2] 30 (0, 0)) := by simpa using heap_new (w.alloc (.cells #[.int .i64 p1, .int .i64 o1, .int .i64 f1] 30)) (.cells #[.int .i64 p2, .int .i64 o2, .int .i64 f2] 30)
  have hu := ((Calm.refl w).alloc (.cells #[.int .i64 p1, .int .i64 o1, .int .i64 f1] 30)).alloc (.cells #[.int .i64 p2, .int .i64 o2, .int .i64 f2] 30)
  have cL : ∀ u g, u.heap[g]? = some (.cells #[.int .i64 0, .int .i64 0, .int .i64 1, .int .i64 1, .int .i64 0, .string { data := #[97] }] 32 (0, 0)) → Calls Try.prog 27 #[.slice (some ⟨g, 0, none⟩) 1 1, .agg #[.int .i64 0, .int .i64 0, .int .i64 1], .int .i64 5] u fun e w' => ∃ b q c9, e = .returned (.tuple #[.slice (some ⟨b, q, none⟩) 1 c9, .int .i64 0]) ∧ (w'.cell? ⟨b, q + 4, none⟩ = some (.int .i64 5) ∧ w'.cell? ⟨b, q + 0 * 6 + 4, none⟩ = some (.int .i64 5) ∧ w'.cell? ⟨b, q + 0 + 4, none⟩ = some (.int .i64 5) ∧ b < w'.heap.size) ∧ Calm u w' := fun u g hg => by
    have h := runCut_any (some ⟨g, 0, none⟩) 1 [⟨0, 0, 1, 1, 0, { data := #[97] }⟩] 0 0 1 5 u (by decide) (lit1 hg (by decide))
    rw [litCut5.1, if_pos rfl, litCut5.2] at h
    refine Calls.mono h ?_
    rintro e w' ⟨v, rfl, ⟨A9, c9, rfl, _, hL⟩, hc⟩
    obtain ⟨b, q, rfl, hlt, hk⟩ := hL.2 (by decide)
    obtain ⟨_, _, _, _, h5, _⟩ := hk 0 _ rfl
    have h6 : w'.cell? ⟨b, q + 4, none⟩ = some (.int .i64 5) := by simpa using h5
    exact ⟨b, q, c9, rfl, ⟨h6, h5, h6, hlt⟩, hc⟩
  by_cases ha : putErr l (p1, o1, f1) s1 t = 0
  rotate_left
  · obtain ⟨n, hn1⟩ : ∃ n, putErr l (p1, o1, f1) s1 t = n := ⟨_, rfl⟩
    obtain ⟨n2, hn2⟩ : ∃ n, putErr l (p2, o2, f2) s2 t = n := ⟨_, rfl⟩
    obtain ⟨Y, hY⟩ : ∃ Y, (if n2 = 0 then putR l (p2, o2, f2) s2 t else []) = Y := ⟨_, rfl⟩
    rw [hn1] at ha
    have cX : ∀ w2, Calm w w2 → Calls Try.prog 25 #[.slice A l.length d, .agg #[.int .i64 p1, .int .i64 o1, .int .i64 f1], .string s1, .int .i64 t] w2 fun e w' => ∃ A8 c8, e = .returned (.tuple #[.slice A8 ([] : List El).length c8, .int .i64 n]) ∧ (([] : List El).length ≤ 9223372036854775807 ∧ Lies w' A8 ([] : List El)) ∧ Calm w2 w' := fun w2 hu => put_ans A d l p1 o1 f1 s1 t w2 n [] hn (hL.calm hu) hn1 (if_neg ha)
    have cY : ∀ w2, Calm w w2 → Calls Try.prog 25 #[.slice A l.length d, .agg #[.int .i64 p2, .int .i64 o2, .int .i64 f2], .string s2, .int .i64 t] w2 fun e w' => ∃ A8 c8, e = .returned (.tuple #[.slice A8 Y.length c8, .int .i64 n2]) ∧ (Y.length ≤ 9223372036854775807 ∧ Lies w' A8 Y) ∧ Calm w2 w' := fun w2 hu => put_ans A d l p2 o2 f2 s2 t w2 n2 Y hn (hL.calm hu) hn2 hY
    have b1 : (n != 0) = true := by simpa using ha
    have b2 : (n == 0) = false := by simpa using ha
    clear hn1 hn2 hY ha hn hL
    go_enter Try.func10, Try.ntmps10
    go_wp2_with (first
      | (go_at_call 29; refine (at1k_any _ _ _).mono ?_; rintro e w1 ⟨rfl, hb1⟩; have hv := (Calm.refl _).call hb1; replace hx := (hv.block (row3 hx).2.2.2).trans hx; replace hy := (hv.block (row3 hy).2.2.2).trans hy; replace hu := hu.call hv; clear hb1 hv ; obtain ⟨hx0, hx1, hx2, hxs⟩ := row3 hx; obtain ⟨hy0, hy1, hy2, hys⟩ := row3 hy)
      | (go_at_call 27; (with_reducible refine (cL _ _ (heap_new _ _)).mono ?_); rintro e w1 ⟨b9, q9, c9, rfl, ⟨h91, h92, h93, h94⟩, hb1⟩; have hv := ((Calm.refl _).alloc _).call hb1; replace hx := (hv.block (row3 hx).2.2.2).trans hx; replace hy := (hv.block (row3 hy).2.2.2).trans hy; replace hu := hu.call hv; clear hb1 hv cL; obtain ⟨hx0, hx1, hx2, hxs⟩ := row3 hx; obtain ⟨hy0, hy1, hy2, hys⟩ := row3 hy)
      | (go_at_call 25; (with_reducible refine (cX _ hu).mono ?_); rintro e w1 ⟨A8, c8, rfl, ⟨hl8, hL8⟩, hb1⟩; have hv := (Calm.refl _).call hb1; replace hx := (hv.block (row3 hx).2.2.2).trans hx; replace hy := (hv.block (row3 hy).2.2.2).trans hy; replace hu := hu.call hv; clear hb1 hv cX; obtain ⟨hx0, hx1, hx2, hxs⟩ := row3 hx; obtain ⟨hy0, hy1, hy2, hys⟩ := row3 hy)
      | (go_at_call 25; (with_reducible refine (cY _ hu).mono ?_); rintro e w1 ⟨A7, c7, rfl, ⟨hl7, hL7⟩, hb1⟩; have hv := (Calm.refl _).call hb1; replace hx := (hv.block (row3 hx).2.2.2).trans hx; replace hy := (hv.block (row3 hy).2.2.2).trans hy; replace hL8 := hL8.calm hv; replace hu := hu.call hv; clear hb1 hv cY; obtain ⟨hx0, hx1, hx2, hxs⟩ := row3 hx; obtain ⟨hy0, hy1, hy2, hys⟩ := row3 hy))
    go_ret
    exact ⟨rfl, hu⟩
  by_cases hb : putErr l (p2, o2, f2) s2 t = 0
  rotate_left
  · obtain ⟨n2, hn2⟩ : ∃ n, putErr l (p2, o2, f2) s2 t = n := ⟨_, rfl⟩
    obtain ⟨X, hX⟩ : ∃ Y, putR l (p1, o1, f1) s1 t = Y := ⟨_, rfl⟩
    rw [hn2] at hb
    have cX : ∀ w2, Calm w w2 → Calls Try.prog 25 #[.slice A l.length d, .agg #[.int .i64 p1, .int .i64 o1, .int .i64 f1], .string s1, .int .i64 t] w2 fun e w' => ∃ A8 c8, e = .returned (.tuple #[.slice A8 X.length c8, .int .i64 0]) ∧ (X.length ≤ 9223372036854775807 ∧ Lies w' A8 X) ∧ Calm w2 w' := fun w2 hu => put_ans A d l p1 o1 f1 s1 t w2 0 X hn (hL.calm hu) ha ((if_pos rfl).trans hX)
    have cY : ∀ w2, Calm w w2 → Calls Try.prog 25 #[.slice A l.length d, .agg #[.int .i64 p2, .int .i64 o2, .int .i64 f2], .string s2, .int .i64 t] w2 fun e w' => ∃ A8 c8, e = .returned (.tuple #[.slice A8 ([] : List El).length c8, .int .i64 n2]) ∧ (([] : List El).length ≤ 9223372036854775807 ∧ Lies w' A8 ([] : List El)) ∧ Calm w2 w' := fun w2 hu => put_ans A d l p2 o2 f2 s2 t w2 n2 [] hn (hL.calm hu) hn2 (if_neg hb)
    have b1 : (n2 != 0) = true := by simpa using hb
    clear hn2 hX ha hb hn hL
    go_enter Try.func10, Try.ntmps10
    go_wp2_with (first
      | (go_at_call 29; refine (at1k_any _ _ _).mono ?_; rintro e w1 ⟨rfl, hb1⟩; have hv := (Calm.refl _).call hb1; replace hx := (hv.block (row3 hx).2.2.2).trans hx; replace hy := (hv.block (row3 hy).2.2.2).trans hy; replace hu := hu.call hv; clear hb1 hv ; obtain ⟨hx0, hx1, hx2, hxs⟩ := row3 hx; obtain ⟨hy0, hy1, hy2, hys⟩ := row3 hy)
      | (go_at_call 27; (with_reducible refine (cL _ _ (heap_new _ _)).mono ?_); rintro e w1 ⟨b9, q9, c9, rfl, ⟨h91, h92, h93, h94⟩, hb1⟩; have hv := ((Calm.refl _).alloc _).call hb1; replace hx := (hv.block (row3 hx).2.2.2).trans hx; replace hy := (hv.block (row3 hy).2.2.2).trans hy; replace hu := hu.call hv; clear hb1 hv cL; obtain ⟨hx0, hx1, hx2, hxs⟩ := row3 hx; obtain ⟨hy0, hy1, hy2, hys⟩ := row3 hy)
      | (go_at_call 25; (with_reducible refine (cX _ hu).mono ?_); rintro e w1 ⟨A8, c8, rfl, ⟨hl8, hL8⟩, hb1⟩; have hv := (Calm.refl _).call hb1; replace hx := (hv.block (row3 hx).2.2.2).trans hx; replace hy := (hv.block (row3 hy).2.2.2).trans hy; replace hu := hu.call hv; clear hb1 hv cX; obtain ⟨hx0, hx1, hx2, hxs⟩ := row3 hx; obtain ⟨hy0, hy1, hy2, hys⟩ := row3 hy)
      | (go_at_call 25; (with_reducible refine (cY _ hu).mono ?_); rintro e w1 ⟨A7, c7, rfl, ⟨hl7, hL7⟩, hb1⟩; have hv := (Calm.refl _).call hb1; replace hx := (hv.block (row3 hx).2.2.2).trans hx; replace hy := (hv.block (row3 hy).2.2.2).trans hy; replace hL8 := hL8.calm hv; replace hu := hu.call hv; clear hb1 hv cY; obtain ⟨hx0, hx1, hx2, hxs⟩ := row3 hx; obtain ⟨hy0, hy1, hy2, hys⟩ := row3 hy))
    go_ret
    exact ⟨rfl, hu⟩
  have wA := wr_of_put ha
  have wB := wr_of_put hb
  have pt := put_twice wA ha
  obtain ⟨pc1, pc2, pc3⟩ := put_cut wA ha
  have hPQ : (p1, o1, f1) ≠ (p2, o2, f2) → putErr (putR l (p1, o1, f1) s1 t) (p2, o2, f2) s2 t = 0 → putErr (putR l (p2, o2, f2) s2 t) (p1, o1, f1) s1 t = 0 ∧ putR (putR l (p2, o2, f2) s2 t) (p1, o1, f1) s1 t = putR (putR l (p1, o1, f1) s1 t) (p2, o2, f2) s2 t := fun h pp => put_comm h wA ha wB hb pp
  clear wA wB
  obtain ⟨X, hX⟩ : ∃ Y, putR l (p1, o1, f1) s1 t = Y := ⟨_, rfl⟩
  obtain ⟨Y, hY⟩ : ∃ Y, putR l (p2, o2, f2) s2 t = Y := ⟨_, rfl⟩
  rw [hX, hY] at hPQ
  rw [hX] at pt pc1 pc2
  have cX : ∀ w2, Calm w w2 → Calls Try.prog 25 #[.slice A l.length d, .agg #[.int .i64 p1, .int .i64 o1, .int .i64 f1], .string s1, .int .i64 t] w2 fun e w' => ∃ A8 c8, e = .returned (.tuple #[.slice A8 X.length c8, .int .i64 0]) ∧ (X.length ≤ 9223372036854775807 ∧ Lies w' A8 X) ∧ Calm w2 w' := fun w2 hu => put_ans A d l p1 o1 f1 s1 t w2 0 X hn (hL.calm hu) ha ((if_pos rfl).trans hX)
  have cY : ∀ w2, Calm w w2 → Calls Try.prog 25 #[.slice A l.length d, .agg #[.int .i64 p2, .int .i64 o2, .int .i64 f2], .string s2, .int .i64 t] w2 fun e w' => ∃ A8 c8, e = .returned (.tuple #[.slice A8 Y.length c8, .int .i64 0]) ∧ (Y.length ≤ 9223372036854775807 ∧ Lies w' A8 Y) ∧ Calm w2 w' := fun w2 hu => put_ans A d l p2 o2 f2 s2 t w2 0 Y hn (hL.calm hu) hb ((if_pos rfl).trans hY)
  have cZ : ∀ w2 A8 c8, X.length ≤ 9223372036854775807 → Lies w2 A8 X → Calls Try.prog 25 #[.slice A8 X.length c8, .agg #[.int .i64 p1, .int .i64 o1, .int .i64 f1], .string s1, .int .i64 t] w2 fun e w' => ∃ B8 e8, e = .returned (.tuple #[.slice B8 X.length e8, .int .i64 0]) ∧ (X.length ≤ 9223372036854775807 ∧ Lies w' B8 X) ∧ Calm w2 w' := fun w2 A8 c8 hl h => put_ans A8 c8 X p1 o1 f1 s1 t w2 0 X hl h pt.1 ((if_pos rfl).trans pt.2)
  obtain ⟨n3, hn3⟩ : ∃ n, putErr X (p2, o2, f2) s2 t = n := ⟨_, rfl⟩
  obtain ⟨n4, hn4⟩ : ∃ n, putErr Y (p1, o1, f1) s1 t = n := ⟨_, rfl⟩
  obtain ⟨P, hP⟩ : ∃ Y, (if n3 = 0 then putR X (p2, o2, f2) s2 t else []) = Y := ⟨_, rfl⟩
  obtain ⟨Q, hQ⟩ : ∃ Z, (if n4 = 0 then putR Y (p1, o1, f1) s1 t else []) = Z := ⟨_, rfl⟩
  have cP : ∀ w2 A8 c8, X.length ≤ 9223372036854775807 → Lies w2 A8 X → Calls Try.prog 25 #[.slice A8 X.length c8, .agg #[.int .i64 p2, .int .i64 o2, .int .i64 f2], .string s2, .int .i64 t] w2 fun e w' => ∃ B8 e8, e = .returned (.tuple #[.slice B8 P.length e8, .int .i64 n3]) ∧ (P.length ≤ 9223372036854775807 ∧ Lies w' B8 P) ∧ Calm w2 w' := fun w2 A8 c8 hl h => put_ans A8 c8 X p2 o2 f2 s2 t w2 n3 P hl h hn3 hP
  have cQ : ∀ w2 A8 c8, Y.length ≤ 9223372036854775807 → Lies w2 A8 Y → Calls Try.prog 25 #[.slice A8 Y.length c8, .agg #[.int .i64 p1, .int .i64 o1, .int .i64 f1], .string s1, .int .i64 t] w2 fun e w' => ∃ B8 e8, e = .returned (.tuple #[.slice B8 Q.length e8, .int .i64 n4]) ∧ (Q.length ≤ 9223372036854775807 ∧ Lies w' B8 Q) ∧ Calm w2 w' := fun w2 A8 c8 hl h => put_ans A8 c8 Y p1 o1 f1 s1 t w2 n4 Q hl h hn4 hQ
  obtain ⟨n5, hn5⟩ : ∃ n, cutErr l (p1, o1, f1) t = n := ⟨_, rfl⟩
  obtain ⟨C, hC⟩ : ∃ Y, cutR l (p1, o1, f1) t = Y := ⟨_, rfl⟩
  obtain ⟨D, hD⟩ : ∃ Y, (if n5 = 0 then C else []) = Y := ⟨_, rfl⟩
  have cC : ∀ w2 A8 c8, X.length ≤ 9223372036854775807 → Lies w2 A8 X → Calls Try.prog 27 #[.slice A8 X.length c8, .agg #[.int .i64 p1, .int .i64 o1, .int .i64 f1], .int .i64 t] w2 fun e w' => ∃ B8 e8, e = .returned (.tuple #[.slice B8 C.length e8, .int .i64 0]) ∧ (C.length ≤ 9223372036854775807 ∧ Lies w' B8 C) ∧ Calm w2 w' := fun w2 A8 c8 hl h => cut_ans A8 c8 X p1 o1 f1 t w2 0 C hl h pc1 (((if_pos rfl).trans pc2).trans hC)
  have cD : ∀ w2, Calm w w2 → Calls Try.prog 27 #[.slice A l.length d, .agg #[.int .i64 p1, .int .i64 o1, .int .i64 f1], .int .i64 t] w2 fun e w' => ∃ A8 c8, e = .returned (.tuple #[.slice A8 D.length c8, .int .i64 n5]) ∧ (D.length ≤ 9223372036854775807 ∧ Lies w' A8 D) ∧ Calm w2 w' := fun w2 hu => cut_ans A d l p1 o1 f1 t w2 n5 D hn (hL.calm hu) hn5 (by rw [hC]; exact hD)
  have hCD : (n5 = 0 ∧ D = C) ∨ (n5 = 4 ∧ C = l) := by
    rw [hn5, hC] at pc3
    rcases pc3 with h | h
    · exact .inl ⟨h, by rw [← hD, if_pos h]⟩
    · exact .inr h
  have hPQ' : (p1, o1, f1) ≠ (p2, o2, f2) → (n3 = 0 ∧ n4 = 0 ∧ Q = P) ∨ (n3 == 0) = false := fun h => by
    by_cases h3 : n3 = 0
    · obtain ⟨h4, h5⟩ := hPQ h (hn3.trans h3)
      have h6 : n4 = 0 := hn4.symm.trans h4
      exact .inl ⟨h3, h6, by rw [← hQ, ← hP, if_pos h6, if_pos h3, h5]⟩
    · exact .inr (by simpa using h3)
  clear hPQ hn3 hn4 hP hQ hn5 hC hD pc1 pc2 pc3 pt hX hY ha hb
  have hk : (p1 = p2 ∧ o1 = o2 ∧ f1 = f2) ∨ ((¬ p1 = p2 ∨ (p1 = p2 ∧ ¬ o1 = o2) ∨ (p1 = p2 ∧ o1 = o2 ∧ ¬ f1 = f2)) ∧ ((n3 = 0 ∧ n4 = 0 ∧ Q = P) ∨ (n3 == 0) = false)) := by
    by_cases h : (p1, o1, f1) = (p2, o2, f2)
    · left; injection h with h1 h2; injection h2 with h2 h3; exact ⟨h1, h2, h3⟩
    · refine .inr ⟨?_, hPQ' h⟩
      by_cases h1 : p1 = p2
      · by_cases h2 : o1 = o2
        · exact .inr (.inr ⟨h1, h2, fun h3 => h (by rw [h1, h2, h3])⟩)
        · exact .inr (.inl ⟨h1, h2⟩)
      · exact .inl h1
  clear hPQ'
  rcases hCD with ⟨rfl, rfl⟩ | ⟨rfl, rfl⟩
  all_goals
    rcases hk with ⟨rfl, rfl, rfl⟩ | ⟨hk1 | ⟨rfl, hk1⟩ | ⟨rfl, rfl, hk1⟩, ⟨rfl, rfl, rfl⟩ | b3⟩
    all_goals
      go_enter Try.func10, Try.ntmps10
      go_wp2_with (first
        | (go_at_call 29; refine (at1k_any _ _ _).mono ?_; rintro e w1 ⟨rfl, hb1⟩; have hv := (Calm.refl _).call hb1; replace hx := (hv.block (row3 hx).2.2.2).trans hx; replace hy := (hv.block (row3 hy).2.2.2).trans hy; replace hu := hu.call hv; clear hb1 hv ; obtain ⟨hx0, hx1, hx2, hxs⟩ := row3 hx; obtain ⟨hy0, hy1, hy2, hys⟩ := row3 hy)
        | (go_at_call 27; (with_reducible refine (cL _ _ (heap_new _ _)).mono ?_); rintro e w1 ⟨b9, q9, c9, rfl, ⟨h91, h92, h93, h94⟩, hb1⟩; have hv := ((Calm.refl _).alloc _).call hb1; replace hx := (hv.block (row3 hx).2.2.2).trans hx; replace hy := (hv.block (row3 hy).2.2.2).trans hy; replace hu := hu.call hv; clear hb1 hv cL; obtain ⟨hx0, hx1, hx2, hxs⟩ := row3 hx; obtain ⟨hy0, hy1, hy2, hys⟩ := row3 hy)
        | (go_at_call 25; (with_reducible refine (cX _ hu).mono ?_); rintro e w1 ⟨A8, c8, rfl, ⟨hl8, hL8⟩, hb1⟩; have hv := (Calm.refl _).call hb1; replace hx := (hv.block (row3 hx).2.2.2).trans hx; replace hy := (hv.block (row3 hy).2.2.2).trans hy; replace hu := hu.call hv; clear hb1 hv cX; obtain ⟨hx0, hx1, hx2, hxs⟩ := row3 hx; obtain ⟨hy0, hy1, hy2, hys⟩ := row3 hy)
        | (go_at_call 25; (with_reducible refine (cY _ hu).mono ?_); rintro e w1 ⟨A7, c7, rfl, ⟨hl7, hL7⟩, hb1⟩; have hv := (Calm.refl _).call hb1; replace hx := (hv.block (row3 hx).2.2.2).trans hx; replace hy := (hv.block (row3 hy).2.2.2).trans hy; replace hL8 := hL8.calm hv; replace hu := hu.call hv; clear hb1 hv cY; obtain ⟨hx0, hx1, hx2, hxs⟩ := row3 hx; obtain ⟨hy0, hy1, hy2, hys⟩ := row3 hy)
        | (go_at_call 25; (with_reducible refine (cP _ _ _ hl8 hL8).mono ?_); rintro e w1 ⟨A6, c6, rfl, ⟨hl6, hL6⟩, hb1⟩; have hv := (Calm.refl _).call hb1; replace hx := (hv.block (row3 hx).2.2.2).trans hx; replace hy := (hv.block (row3 hy).2.2.2).trans hy; replace hL8 := hL8.calm hv; replace hL7 := hL7.calm hv; replace hu := hu.call hv; clear hb1 hv cP; obtain ⟨hx0, hx1, hx2, hxs⟩ := row3 hx; obtain ⟨hy0, hy1, hy2, hys⟩ := row3 hy)
        | (go_at_call 25; (with_reducible refine (cQ _ _ _ hl7 hL7).mono ?_); rintro e w1 ⟨A5, c5, rfl, ⟨hl5, hL5⟩, hb1⟩; have hv := (Calm.refl _).call hb1; replace hx := (hv.block (row3 hx).2.2.2).trans hx; replace hy := (hv.block (row3 hy).2.2.2).trans hy; replace hL8 := hL8.calm hv; replace hL6 := hL6.calm hv; replace hu := hu.call hv; clear hb1 hv cQ hL7; obtain ⟨hx0, hx1, hx2, hxs⟩ := row3 hx; obtain ⟨hy0, hy1, hy2, hys⟩ := row3 hy)
        | (go_at_call 23; (with_reducible refine (equal_self A6 A5 c6 c5 _ _ hl6 hL6 hL5).mono ?_); rintro e w1 ⟨rfl, hb1⟩; have hv := (Calm.refl _).call hb1; replace hx := (hv.block (row3 hx).2.2.2).trans hx; replace hy := (hv.block (row3 hy).2.2.2).trans hy; replace hL8 := hL8.calm hv; replace hu := hu.call hv; clear hb1 hv hL6 hL5; obtain ⟨hx0, hx1, hx2, hxs⟩ := row3 hx; obtain ⟨hy0, hy1, hy2, hys⟩ := row3 hy)
        | (go_at_call 25; (with_reducible refine (cZ _ _ _ hl8 hL8).mono ?_); rintro e w1 ⟨A4, c4, rfl, ⟨hl4, hL4⟩, hb1⟩; have hv := (Calm.refl _).call hb1; replace hx := (hv.block (row3 hx).2.2.2).trans hx; replace hy := (hv.block (row3 hy).2.2.2).trans hy; replace hL8 := hL8.calm hv; replace hu := hu.call hv; clear hb1 hv cZ; obtain ⟨hx0, hx1, hx2, hxs⟩ := row3 hx; obtain ⟨hy0, hy1, hy2, hys⟩ := row3 hy)
        | (go_at_call 23; (with_reducible refine (equal_self A4 A8 c4 c8 _ _ hl4 hL4 hL8).mono ?_); rintro e w1 ⟨rfl, hb1⟩; have hv := (Calm.refl _).call hb1; replace hx := (hv.block (row3 hx).2.2.2).trans hx; replace hy := (hv.block (row3 hy).2.2.2).trans hy; replace hL8 := hL8.calm hv; replace hu := hu.call hv; clear hb1 hv hL4; obtain ⟨hx0, hx1, hx2, hxs⟩ := row3 hx; obtain ⟨hy0, hy1, hy2, hys⟩ := row3 hy)
        | (go_at_call 27; (with_reducible refine (cC _ _ _ hl8 hL8).mono ?_); rintro e w1 ⟨A3, c3, rfl, ⟨hl3, hL3⟩, hb1⟩; have hv := (Calm.refl _).call hb1; replace hx := (hv.block (row3 hx).2.2.2).trans hx; replace hy := (hv.block (row3 hy).2.2.2).trans hy; replace hu := hu.call hv; clear hb1 hv cC hL8; obtain ⟨hx0, hx1, hx2, hxs⟩ := row3 hx; obtain ⟨hy0, hy1, hy2, hys⟩ := row3 hy)
        | (go_at_call 27; (with_reducible refine (cD _ hu).mono ?_); rintro e w1 ⟨A2, c2, rfl, ⟨hl2, hL2⟩, hb1⟩; have hv := (Calm.refl _).call hb1; replace hx := (hv.block (row3 hx).2.2.2).trans hx; replace hy := (hv.block (row3 hy).2.2.2).trans hy; replace hL3 := hL3.calm hv; replace hu := hu.call hv; clear hb1 hv cD; obtain ⟨hx0, hx1, hx2, hxs⟩ := row3 hx; obtain ⟨hy0, hy1, hy2, hys⟩ := row3 hy)
        | (go_at_call 23; (with_reducible refine (equal_self A3 A c3 d _ _ hn hL3 (hL.calm hu)).mono ?_); rintro e w1 ⟨rfl, hb1⟩; have hv := (Calm.refl _).call hb1; replace hx := (hv.block (row3 hx).2.2.2).trans hx; replace hy := (hv.block (row3 hy).2.2.2).trans hy; replace hu := hu.call hv; clear hb1 hv hL3; obtain ⟨hx0, hx1, hx2, hxs⟩ := row3 hx; obtain ⟨hy0, hy1, hy2, hys⟩ := row3 hy)
        | (go_at_call 23; (with_reducible refine (equal_self A3 A2 c3 c2 _ _ hl3 hL3 hL2).mono ?_); rintro e w1 ⟨rfl, hb1⟩; have hv := (Calm.refl _).call hb1; replace hx := (hv.block (row3 hx).2.2.2).trans hx; replace hy := (hv.block (row3 hy).2.2.2).trans hy; replace hu := hu.call hv; clear hb1 hv hL3 hL2; obtain ⟨hx0, hx1, hx2, hxs⟩ := row3 hx; obtain ⟨hy0, hy1, hy2, hys⟩ := row3 hy))
      go_ret
      exact ⟨rfl, hu⟩
end Go.Proofs.Ytjjibnkooloagaa
