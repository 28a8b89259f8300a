/- PageApart: the law's own walk. -/
import Derived.Test.YtpmibedgjhjjfaaMH
import Derived.Test.YtpmibedgjhjjfaaMC
namespace Go.Proofs.Ytpmibedgjhjjfaa
open Go.ChangeShapes Go.WideShapes Go.ChangeAt Go.RowKit

def pg0 : ByteArray := ⟨(pgEnc 0 [] [] [] []).toArray⟩
set_option maxRecDepth 100000 in
theorem pg0_size : pg0.size = 5 := by decide +kernel
set_option maxRecDepth 100000 in
theorem pg0_head : pg0.extract 0 3 = { data := #[1, 0, 0] } := by decide +kernel
set_option maxRecDepth 100000 in
theorem wr_zero (w : World) : Calls Try.prog 10 #[.agg #[.int .i64 0, .slice none 0 0, .slice none 0 0, .slice none 0 0, .slice none 0 0]] w fun e w' => e = .returned (.tuple #[.string pg0, .int .i64 0]) ∧ Calm w w' :=
  wr_good 0 none none none none 0 0 0 0 [] [] [] [] w (NdOwn.zero 0 w).at_ (by decide +kernel) pg0 (by simp [pg0])

set_option maxRecDepth 100000 in
set_option maxHeartbeats 8000000 in
theorem pageApart_walk (kd : Int) (A1 A2 A3 A4 : Option Addr) (c1 c2 c3 c4 : Nat) (E : List El) (K : List Int) (S : List Sp) (T : List Int) (kd' : Int) (A1' A2' A3' A4' : Option Addr) (c1' c2' c3' c4' : Nat) (E' : List El) (K' : List Int) (S' : List Sp) (T' : List Int) (w : World) (h : NdAt w A1 A2 A3 A4 E K S T) (h' : NdAt w A1' A2' A3' A4' E' K' S' T') :
    Calls Try.prog 8 #[.agg #[.int .i64 kd, .slice A1 E.length c1, .slice A2 K.length c2, .slice A3 S.length c3, .slice A4 T.length c4], .agg #[.int .i64 kd', .slice A1' E'.length c1', .slice A2' K'.length c2', .slice A3' S'.length c3', .slice A4' T'.length c4']] w fun e w' => e = .returned (.bool true) ∧ Calm w w' := by
  have hx := heap_past (.cells #[.int .i64 kd', .slice A1' E'.length c1', .slice A2' K'.length c2', .slice A3' S'.length c3', .slice A4' T'.length c4'] 26) (heap_new w (.cells #[.int .i64 kd, .slice A1 E.length c1, .slice A2 K.length c2, .slice A3 S.length c3, .slice A4 T.length c4] 26))
  have hy := heap_new2 w (.cells #[.int .i64 kd, .slice A1 E.length c1, .slice A2 K.length c2, .slice A3 S.length c3, .slice A4 T.length c4] 26) (.cells #[.int .i64 kd', .slice A1' E'.length c1', .slice A2' K'.length c2', .slice A3' S'.length c3', .slice A4' T'.length c4'] 26)
  have hu := ((Calm.refl w).alloc (.cells #[.int .i64 kd, .slice A1 E.length c1, .slice A2 K.length c2, .slice A3 S.length c3, .slice A4 T.length c4] 26)).alloc (.cells #[.int .i64 kd', .slice A1' E'.length c1', .slice A2' K'.length c2', .slice A3' S'.length c3', .slice A4' T'.length c4'] 26)
  have c0 := fun u => wr_zero u
  have z5 := pg0_size
  have z3 := pg0_head
  generalize pg0 = Z at c0 z5 z3
  obtain ⟨x0, x1, x2, x3, x4, hxs⟩ := row5 hx
  obtain ⟨y0, y1, y2, y3, y4, hys⟩ := row5 hy
  have z5i : (Z.size : Int) = 5 := by omega
  have cS := fun u (hu : Calm w u) => sameNode_any kd A1 A2 A3 A4 c1 c2 c3 c4 E K S T kd' A1' A2' A3' A4' c1' c2' c3' c4' E' K' S' T' u (h.calm hu) (h'.calm hu)
  by_cases ha : ndErr kd E K S T = 0
  rotate_left
  · have cA := fun u (hu : Calm w u) => wr_bad kd A1 A2 A3 A4 c1 c2 c3 c4 E K S T u (h.calm hu) _ rfl ha
    have b1 : (ndErr kd E K S T != 0) = true := by simpa using ha
    have b2 : (ndErr kd E K S T == 0) = false := by simpa using ha
    generalize ndErr kd E K S T = N at cA b1 b2
    obtain ⟨W', N', cB⟩ : ∃ (W' : ByteArray) (N' : Int), ∀ u (hu : Calm w u), Calls Try.prog 10 #[.agg #[.int .i64 kd', .slice A1' E'.length c1', .slice A2' K'.length c2', .slice A3' S'.length c3', .slice A4' T'.length c4']] u fun e w' => e = .returned (.tuple #[.string W', .int .i64 N']) ∧ Calm u w' := ⟨_, _, fun u hu => pageWrite_any kd' A1' A2' A3' A4' c1' c2' c3' c4' E' K' S' T' u (h'.calm hu)⟩
    clear ha h h' cS
    go_enter Try.func8, Try.ntmps8
    go_wp2_with (first
      | (go_at_call 10; (with_reducible refine (c0 _).mono ?_); rintro e w1 ⟨rfl, hb1⟩; replace hx := (hb1.block (row5 hx).2.2.2.2.2).trans hx; replace hy := (hb1.block (row5 hy).2.2.2.2.2).trans hy; replace hu := hu.call hb1; clear hb1; obtain ⟨x0, x1, x2, x3, x4, hxs⟩ := row5 hx; obtain ⟨y0, y1, y2, y3, y4, hys⟩ := row5 hy)
      | (go_at_call 10; (with_reducible refine (cA _ hu).mono ?_); rintro e w1 ⟨rfl, hb1⟩; replace hx := (hb1.block (row5 hx).2.2.2.2.2).trans hx; replace hy := (hb1.block (row5 hy).2.2.2.2.2).trans hy; replace hu := hu.call hb1; clear hb1; obtain ⟨x0, x1, x2, x3, x4, hxs⟩ := row5 hx; obtain ⟨y0, y1, y2, y3, y4, hys⟩ := row5 hy)
      | (go_at_call 10; (with_reducible refine (cB _ hu).mono ?_); rintro e w1 ⟨rfl, hb1⟩; replace hx := (hb1.block (row5 hx).2.2.2.2.2).trans hx; replace hy := (hb1.block (row5 hy).2.2.2.2.2).trans hy; replace hu := hu.call hb1; clear hb1; obtain ⟨x0, x1, x2, x3, x4, hxs⟩ := row5 hx; obtain ⟨y0, y1, y2, y3, y4, hys⟩ := row5 hy))
    go_ret
    exact ⟨rfl, hu⟩
  by_cases hb : ndErr kd' E' K' S' T' = 0
  rotate_left
  · have cA := fun u (hu : Calm w u) => wr_good kd A1 A2 A3 A4 c1 c2 c3 c4 E K S T u (h.calm hu) ha ⟨(pgEnc kd E K S T).toArray⟩ (by simp)
    have cB := fun u (hu : Calm w u) => wr_bad kd' A1' A2' A3' A4' c1' c2' c3' c4' E' K' S' T' u (h'.calm hu) _ rfl hb
    have b1 : (ndErr kd' E' K' S' T' != 0) = true := by simpa using hb
    generalize ndErr kd' E' K' S' T' = N at cB b1
    generalize (⟨(pgEnc kd E K S T).toArray⟩ : ByteArray) = W at cA
    clear ha hb h h' cS
    go_enter Try.func8, Try.ntmps8
    go_wp2_with (first
      | (go_at_call 10; (with_reducible refine (c0 _).mono ?_); rintro e w1 ⟨rfl, hb1⟩; replace hx := (hb1.block (row5 hx).2.2.2.2.2).trans hx; replace hy := (hb1.block (row5 hy).2.2.2.2.2).trans hy; replace hu := hu.call hb1; clear hb1; obtain ⟨x0, x1, x2, x3, x4, hxs⟩ := row5 hx; obtain ⟨y0, y1, y2, y3, y4, hys⟩ := row5 hy)
      | (go_at_call 10; (with_reducible refine (cA _ hu).mono ?_); rintro e w1 ⟨rfl, hb1⟩; replace hx := (hb1.block (row5 hx).2.2.2.2.2).trans hx; replace hy := (hb1.block (row5 hy).2.2.2.2.2).trans hy; replace hu := hu.call hb1; clear hb1; obtain ⟨x0, x1, x2, x3, x4, hxs⟩ := row5 hx; obtain ⟨y0, y1, y2, y3, y4, hys⟩ := row5 hy)
      | (go_at_call 10; (with_reducible refine (cB _ hu).mono ?_); rintro e w1 ⟨rfl, hb1⟩; replace hx := (hb1.block (row5 hx).2.2.2.2.2).trans hx; replace hy := (hb1.block (row5 hy).2.2.2.2.2).trans hy; replace hu := hu.call hb1; clear hb1; obtain ⟨x0, x1, x2, x3, x4, hxs⟩ := row5 hx; obtain ⟨y0, y1, y2, y3, y4, hys⟩ := row5 hy))
    go_ret
    exact ⟨rfl, hu⟩
  have cA := fun u (hu : Calm w u) => wr_good kd A1 A2 A3 A4 c1 c2 c3 c4 E K S T u (h.calm hu) ha ⟨(pgEnc kd E K S T).toArray⟩ (by simp)
  have cB := fun u (hu : Calm w u) => wr_good kd' A1' A2' A3' A4' c1' c2' c3' c4' E' K' S' T' u (h'.calm hu) hb ⟨(pgEnc kd' E' K' S' T').toArray⟩ (by simp)
  by_cases hs : kd = kd' ∧ E = E' ∧ K = K' ∧ S = S' ∧ T = T'
  · rw [decide_eq_true hs] at cS
    have hW : (⟨(pgEnc kd E K S T).toArray⟩ : ByteArray) = ⟨(pgEnc kd' E' K' S' T').toArray⟩ := by obtain ⟨rfl, rfl, rfl, rfl, rfl⟩ := hs; rfl
    rw [hW] at cA
    generalize (⟨(pgEnc kd' E' K' S' T').toArray⟩ : ByteArray) = W at cA cB
    clear ha hb h h' hs hW
    go_enter Try.func8, Try.ntmps8
    go_wp2_with (first
      | (go_at_call 10; (with_reducible refine (c0 _).mono ?_); rintro e w1 ⟨rfl, hb1⟩; replace hx := (hb1.block (row5 hx).2.2.2.2.2).trans hx; replace hy := (hb1.block (row5 hy).2.2.2.2.2).trans hy; replace hu := hu.call hb1; clear hb1; obtain ⟨x0, x1, x2, x3, x4, hxs⟩ := row5 hx; obtain ⟨y0, y1, y2, y3, y4, hys⟩ := row5 hy)
      | (go_at_call 10; (with_reducible refine (cA _ hu).mono ?_); rintro e w1 ⟨rfl, hb1⟩; replace hx := (hb1.block (row5 hx).2.2.2.2.2).trans hx; replace hy := (hb1.block (row5 hy).2.2.2.2.2).trans hy; replace hu := hu.call hb1; clear hb1; obtain ⟨x0, x1, x2, x3, x4, hxs⟩ := row5 hx; obtain ⟨y0, y1, y2, y3, y4, hys⟩ := row5 hy)
      | (go_at_call 10; (with_reducible refine (cB _ hu).mono ?_); rintro e w1 ⟨rfl, hb1⟩; replace hx := (hb1.block (row5 hx).2.2.2.2.2).trans hx; replace hy := (hb1.block (row5 hy).2.2.2.2.2).trans hy; replace hu := hu.call hb1; clear hb1; obtain ⟨x0, x1, x2, x3, x4, hxs⟩ := row5 hx; obtain ⟨y0, y1, y2, y3, y4, hys⟩ := row5 hy)
      | (go_at_call 15; (with_reducible refine (cS _ hu).mono ?_); rintro e w1 ⟨rfl, hb1⟩; replace hx := (hb1.block (row5 hx).2.2.2.2.2).trans hx; replace hy := (hb1.block (row5 hy).2.2.2.2.2).trans hy; replace hu := hu.call hb1; clear hb1; obtain ⟨x0, x1, x2, x3, x4, hxs⟩ := row5 hx; obtain ⟨y0, y1, y2, y3, y4, hys⟩ := row5 hy))
    go_ret
    exact ⟨rfl, hu⟩
  · rw [decide_eq_false hs] at cS
    have hW : ¬ (⟨(pgEnc kd E K S T).toArray⟩ : ByteArray) = ⟨(pgEnc kd' E' K' S' T').toArray⟩ := fun e => by
      have e2 := congrArg (fun b : ByteArray => b.data.toList) e
      simp only at e2
      exact hs (IsPg.one (l := pgEnc kd E K S T) ⟨ha, rfl⟩ ⟨hb, e2.symm⟩)
    generalize (⟨(pgEnc kd' E' K' S' T').toArray⟩ : ByteArray) = W' at hW cB
    generalize (⟨(pgEnc kd E K S T).toArray⟩ : ByteArray) = W at hW cA
    have hs1 : (W.toList == W'.toList) = false := str_ne hW
    clear ha hb h h' hs hW
    go_enter Try.func8, Try.ntmps8
    go_wp2_with (first
      | (go_at_call 10; (with_reducible refine (c0 _).mono ?_); rintro e w1 ⟨rfl, hb1⟩; replace hx := (hb1.block (row5 hx).2.2.2.2.2).trans hx; replace hy := (hb1.block (row5 hy).2.2.2.2.2).trans hy; replace hu := hu.call hb1; clear hb1; obtain ⟨x0, x1, x2, x3, x4, hxs⟩ := row5 hx; obtain ⟨y0, y1, y2, y3, y4, hys⟩ := row5 hy)
      | (go_at_call 10; (with_reducible refine (cA _ hu).mono ?_); rintro e w1 ⟨rfl, hb1⟩; replace hx := (hb1.block (row5 hx).2.2.2.2.2).trans hx; replace hy := (hb1.block (row5 hy).2.2.2.2.2).trans hy; replace hu := hu.call hb1; clear hb1; obtain ⟨x0, x1, x2, x3, x4, hxs⟩ := row5 hx; obtain ⟨y0, y1, y2, y3, y4, hys⟩ := row5 hy)
      | (go_at_call 10; (with_reducible refine (cB _ hu).mono ?_); rintro e w1 ⟨rfl, hb1⟩; replace hx := (hb1.block (row5 hx).2.2.2.2.2).trans hx; replace hy := (hb1.block (row5 hy).2.2.2.2.2).trans hy; replace hu := hu.call hb1; clear hb1; obtain ⟨x0, x1, x2, x3, x4, hxs⟩ := row5 hx; obtain ⟨y0, y1, y2, y3, y4, hys⟩ := row5 hy)
      | (go_at_call 15; (with_reducible refine (cS _ hu).mono ?_); rintro e w1 ⟨rfl, hb1⟩; replace hx := (hb1.block (row5 hx).2.2.2.2.2).trans hx; replace hy := (hb1.block (row5 hy).2.2.2.2.2).trans hy; replace hu := hu.call hb1; clear hb1; obtain ⟨x0, x1, x2, x3, x4, hxs⟩ := row5 hx; obtain ⟨y0, y1, y2, y3, y4, hys⟩ := row5 hy))
    go_ret
    exact ⟨rfl, hu⟩
end Go.Proofs.Ytpmibedgjhjjfaa
