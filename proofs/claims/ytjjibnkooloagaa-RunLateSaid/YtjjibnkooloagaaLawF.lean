/- RunLate: the law's own walk. -/
import Derived.Test.YtjjibnkooloagaaLit
import Derived.Test.YtjjibnkooloagaaPure5
namespace Go.Proofs.Ytjjibnkooloagaa
open Go.ChangeShapes Go.WideShapes Go.ChangeAt Go.RowKit

def twoL : List El := [⟨0, 0, 0, 1, 3, { data := #[97] }⟩, ⟨0, 0, 0, 3, 0, { data := #[98] }⟩]
theorem twoPut2 : putErr twoL (0, 0, 0) { data := #[99] } 2 = 9 := by kernel_rfl
theorem twoPut3 : putErr twoL (0, 0, 0) { data := #[99] } 3 = 0 ∧ putR twoL (0, 0, 0) { data := #[99] } 3 = [⟨0, 0, 0, 1, 3, { data := #[97] }⟩, ⟨0, 0, 0, 3, 0, { data := #[99] }⟩] := ⟨by kernel_rfl, by kernel_rfl⟩

set_option maxHeartbeats 2000000 in
theorem two_any (w : World) : Calls Try.prog 38 #[] w fun e w' => ∃ A c, e = .returned (.slice A 2 c) ∧ Lies w' A twoL ∧ Calm w w' := by
  go_enter Try.func38, Try.ntmps38
  go_wp2_with fail
  go_returns
  exact ⟨_, _, rfl, lit2 (heap_new _ _) (by decide) (by decide), by repeat (first | (with_reducible exact Calm.refl _) | (with_reducible refine Calm.alloc ?_ _) | (with_reducible refine Calm.drew ?_) | (with_reducible refine Calm.drewN ?_ _) | (refine Calm.call ?_ (by with_reducible assumption)))⟩

set_option maxRecDepth 100000 in
set_option maxHeartbeats 16000000 in
theorem runLate_walk (A : Option Addr) (d : Nat) (l : List El) (p o f : Int) (s : ByteArray) (t : Int) (w : World) (hn : l.length ≤ 9223372036854775807) (hL : Lies w A l) :
    Calls Try.prog 14 #[.slice A l.length d, .agg #[.int .i64 p, .int .i64 o, .int .i64 f], .string s, .int .i64 t] w fun e w' => e = .returned (.bool true) ∧ Calm w w' := by
  have hx := heap_new w (.cells #[.int .i64 p, .int .i64 o, .int .i64 f] 30)
  have hu := (Calm.refl w).alloc (.cells #[.int .i64 p, .int .i64 o, .int .i64 f] 30)
  have cT := two_any
  have cE : ∀ u A c, Lies u A twoL → Calls Try.prog 25 #[.slice A 2 c, .agg #[.int .i64 0, .int .i64 0, .int .i64 0], .string { data := #[99] }, .int .i64 2] u fun e w' => ∃ v, e = .returned (.tuple #[v, .int .i64 9]) ∧ Calm u w' := fun u A c hg => by
    have h := runPut_any A c twoL 0 0 0 { data := #[99] } 2 u (by decide) hg
    rw [twoPut2] at h
    refine Calls.mono h ?_
    rintro e w' ⟨v, rfl, _, hc⟩
    exact ⟨v, rfl, hc⟩
  have cF : ∀ u A c, Lies u A twoL → Calls Try.prog 25 #[.slice A 2 c, .agg #[.int .i64 0, .int .i64 0, .int .i64 0], .string { data := #[99] }, .int .i64 3] u fun e w' => ∃ b q c9, e = .returned (.tuple #[.slice (some ⟨b, q, none⟩) 2 c9, .int .i64 0]) ∧ (w'.cell? ⟨b, q + 6 + 5, none⟩ = some (.string { data := #[99] }) ∧ w'.cell? ⟨b, q + 11, none⟩ = some (.string { data := #[99] }) ∧ w'.cell? ⟨b, q + 1 * 6 + 5, none⟩ = some (.string { data := #[99] }) ∧ b < w'.heap.size) ∧ Calm u w' := fun u A c hg => by
    have h := runPut_any A c twoL 0 0 0 { data := #[99] } 3 u (by decide) hg
    rw [twoPut3.1, if_pos rfl, twoPut3.2] at h
    refine Calls.mono h ?_
    rintro e w' ⟨v, rfl, ⟨A9, c9, rfl, _, hL⟩, hc⟩
    obtain ⟨b, q, rfl, hlt, hk⟩ := hL.2 (by decide)
    obtain ⟨_, _, _, _, _, h5⟩ := hk 1 _ rfl
    exact ⟨b, q, c9, rfl, ⟨h5, h5, h5, hlt⟩, hc⟩
  have cA : ∀ w2, Calm w w2 → _ := fun w2 hu => runLast_any A d l w2 hn (hL.calm hu)
  by_cases hr : runErr l = 0
  rotate_left
  · rw [if_neg hr] at cA
    generalize runErr l = n at hr cA
    have cB : ∀ w2, Calm w w2 → Calls Try.prog 16 #[.slice A l.length d] w2 fun e w' => e = .returned (.tuple #[.int .i64 0, .int .i64 n]) ∧ Calm w2 w' := cA
    have b1 : (n != 0) = true := by simpa using hr
    clear cA hr hn hL
    go_enter Try.func14, Try.ntmps14
    go_wp2_with (first
      | (go_at_call 38; refine (cT _).mono ?_; rintro e w1 ⟨A9, c9, rfl, hL9, hb1⟩; have hv := (Calm.refl _).call hb1; replace hx := (hv.block (row3 hx).2.2.2).trans hx; replace hu := hu.call hv; clear hb1 hv; obtain ⟨hx0, hx1, hx2, hxs⟩ := row3 hx)
      | (go_at_call 25; (with_reducible refine (cE _ _ _ hL9).mono ?_); rintro e w1 ⟨v, rfl, hb1⟩; have hv := (Calm.refl _).call hb1; replace hx := (hv.block (row3 hx).2.2.2).trans hx; replace hu := hu.call hv; clear hb1 hv hL9 cE; obtain ⟨hx0, hx1, hx2, hxs⟩ := row3 hx)
      | (go_at_call 25; (with_reducible refine (cF _ _ _ hL9).mono ?_); rintro e w1 ⟨b9, q9, c9, rfl, ⟨h91, h92, h93, h94⟩, hb1⟩; have hv := (Calm.refl _).call hb1; replace hx := (hv.block (row3 hx).2.2.2).trans hx; replace hu := hu.call hv; clear hb1 hv hL9 cF; obtain ⟨hx0, hx1, hx2, hxs⟩ := row3 hx)
      | (go_at_call 16; (with_reducible refine (cB _ hu).mono ?_); rintro e w1 ⟨rfl, hb1⟩; have hv := (Calm.refl _).call hb1; replace hu := hu.call hv; clear hb1 hv cB))
    go_ret
    exact ⟨rfl, hu⟩
  rw [if_pos hr, hr] at cA
  have cB : ∀ w2, Calm w w2 → Calls Try.prog 16 #[.slice A l.length d] w2 fun e w' => e = .returned (.tuple #[.int .i64 (latest l), .int .i64 0]) ∧ Calm w2 w' := cA
  have hP : ∃ (n : Int) (M : List El), (∀ w2, Calm w w2 → Calls Try.prog 25 #[.slice A l.length d, .agg #[.int .i64 p, .int .i64 o, .int .i64 f], .string s, .int .i64 t] w2 fun e w' => ∃ A8 c8, e = .returned (.tuple #[.slice A8 M.length c8, .int .i64 n]) ∧ Lies w' A8 M ∧ Calm w2 w') ∧ ((n = 0 ∧ (latest l ≤ t ∧ 1 ≤ t ∧ t ≤ 2147483647) ∧ (∀ w2 A8 c8, Lies w2 A8 M → Calls Try.prog 16 #[.slice A8 M.length c8] w2 fun e w' => e = .returned (.tuple #[.int .i64 t, .int .i64 0]) ∧ Calm w2 w') ∧ ∀ w2 A8 c8, Lies w2 A8 M → Calls Try.prog 25 #[.slice A8 M.length c8, .agg #[.int .i64 p, .int .i64 o, .int .i64 f], .string s, .int .i64 (t - 1)] w2 fun e w' => ∃ v, e = .returned (.tuple #[v, .int .i64 9]) ∧ Calm w2 w') ∨ (n == 0) = false) := by
    refine ⟨putErr l (p, o, f) s t, if putErr l (p, o, f) s t = 0 then putR l (p, o, f) s t else [], fun w2 hu => Calls.mono (runPut_any A d l p o f s t w2 hn (hL.calm hu)) ?_, ?_⟩
    · rintro e w' ⟨v, rfl, ⟨A8, c8, rfl, _, hL⟩, hc⟩
      exact ⟨A8, c8, rfl, hL, hc⟩
    by_cases he : putErr l (p, o, f) s t = 0
    · left
      refine ⟨he, ?_⟩
      rw [if_pos he]
      have hw : wrErr l (fresh (p, o, f) s t) = 0 := by
        unfold putErr at he
        by_cases h : wrErr l (fresh (p, o, f) s t) = 0
        · exact h
        · rw [if_neg h] at he; exact absurd he h
      have hM := put_good hw he
      refine ⟨⟨(wrErr_zero.1 hw).2.2, (wr_parts hw).2.2⟩, fun w2 A8 c8 h => ?_, fun w2 A8 c8 h => ?_⟩
      · have h4 := runLast_any A8 c8 (putR l (p, o, f) s t) w2 (by have := hM.1; omega) h
        rw [if_pos (runErr_zero.2 hM), runErr_zero.2 hM, latest_put hw] at h4
        exact h4
      · have h4 := runPut_any A8 c8 (putR l (p, o, f) s t) p o f s (t - 1) w2 (by have := hM.1; omega) h
        rw [put_again hw hM] at h4
        refine Calls.mono h4 ?_
        rintro e w' ⟨v, rfl, _, hc⟩
        exact ⟨v, rfl, hc⟩
    · right; simpa using he
  have hC : ∃ (n : Int) (N : List El), (∀ w2, Calm w w2 → Calls Try.prog 27 #[.slice A l.length d, .agg #[.int .i64 p, .int .i64 o, .int .i64 f], .int .i64 t] w2 fun e w' => ∃ A7 c7, e = .returned (.tuple #[.slice A7 N.length c7, .int .i64 n]) ∧ Lies w' A7 N ∧ Calm w2 w') ∧ ((n = 0 ∧ (∃ z, z ≤ t ∧ ∀ w2 A7 c7, Lies w2 A7 N → Calls Try.prog 16 #[.slice A7 N.length c7] w2 fun e w' => e = .returned (.tuple #[.int .i64 z, .int .i64 0]) ∧ Calm w2 w') ∧ ∀ w2 A7 c7, Lies w2 A7 N → Calls Try.prog 27 #[.slice A7 N.length c7, .agg #[.int .i64 p, .int .i64 o, .int .i64 f], .int .i64 t] w2 fun e w' => ∃ v, e = .returned (.tuple #[v, .int .i64 4]) ∧ Calm w2 w') ∨ ((n != 0) = true ∧ N = [])) := by
    refine ⟨cutErr l (p, o, f) t, if cutErr l (p, o, f) t = 0 then cutR l (p, o, f) t else [], fun w2 hu => Calls.mono (runCut_any A d l p o f t w2 hn (hL.calm hu)) ?_, ?_⟩
    · rintro e w' ⟨v, rfl, ⟨A8, c8, rfl, _, hL⟩, hc⟩
      exact ⟨A8, c8, rfl, hL, hc⟩
    by_cases he : cutErr l (p, o, f) t = 0
    · left
      refine ⟨he, ?_⟩
      rw [if_pos he]
      have hw : wrErr l (fresh (p, o, f) { data := #[] } t) = 0 := by
        unfold cutErr at he
        by_cases h : wrErr l (fresh (p, o, f) { data := #[] } t) = 0
        · exact h
        · rw [if_neg h] at he; exact absurd he h
      have hM := cut_good hw
      refine ⟨⟨latest (cutR l (p, o, f) t), latest_cut hw, fun w2 A8 c8 h => ?_⟩, fun w2 A8 c8 h => ?_⟩
      · have h4 := runLast_any A8 c8 (cutR l (p, o, f) t) w2 (by have := hM.1; omega) h
        rw [if_pos (runErr_zero.2 hM), runErr_zero.2 hM] at h4
        exact h4
      · have h4 := runCut_any A8 c8 (cutR l (p, o, f) t) p o f t w2 (by have := hM.1; omega) h
        rw [cut_again hw] at h4
        refine Calls.mono h4 ?_
        rintro e w' ⟨v, rfl, _, hc⟩
        exact ⟨v, rfl, hc⟩
    · right; exact ⟨by simpa using he, if_neg he⟩
  clear hL hn cA hr
  generalize latest l = was at cB hP
  obtain ⟨n, M, cP, hP⟩ := hP
  obtain ⟨n', N, cC, hC⟩ := hC
  rcases hP with ⟨rfl, ⟨ht0, ht1, ht2⟩, cG, cH⟩ | b1
  all_goals
    rcases hC with ⟨rfl, ⟨z, hz, cI⟩, cK⟩ | ⟨b2, rfl⟩
    all_goals
      go_enter Try.func14, Try.ntmps14
      go_wp2_with (first
        | (go_at_call 38; refine (cT _).mono ?_; rintro e w1 ⟨A9, c9, rfl, hL9, hb1⟩; have hv := (Calm.refl _).call hb1; replace hx := (hv.block (row3 hx).2.2.2).trans hx; replace hu := hu.call hv; clear hb1 hv; obtain ⟨hx0, hx1, hx2, hxs⟩ := row3 hx)
        | (go_at_call 25; (with_reducible refine (cE _ _ _ hL9).mono ?_); rintro e w1 ⟨v, rfl, hb1⟩; have hv := (Calm.refl _).call hb1; replace hx := (hv.block (row3 hx).2.2.2).trans hx; replace hu := hu.call hv; clear hb1 hv hL9 cE; obtain ⟨hx0, hx1, hx2, hxs⟩ := row3 hx)
        | (go_at_call 25; (with_reducible refine (cF _ _ _ hL9).mono ?_); rintro e w1 ⟨b9, q9, c9, rfl, ⟨h91, h92, h93, h94⟩, hb1⟩; have hv := (Calm.refl _).call hb1; replace hx := (hv.block (row3 hx).2.2.2).trans hx; replace hu := hu.call hv; clear hb1 hv hL9 cF; obtain ⟨hx0, hx1, hx2, hxs⟩ := row3 hx)
        | (go_at_call 16; (with_reducible refine (cB _ hu).mono ?_); rintro e w1 ⟨rfl, hb1⟩; have hv := (Calm.refl _).call hb1; replace hx := (hv.block (row3 hx).2.2.2).trans hx; replace hu := hu.call hv; clear hb1 hv cB; obtain ⟨hx0, hx1, hx2, hxs⟩ := row3 hx)
        | (go_at_call 25; (with_reducible refine (cP _ hu).mono ?_); rintro e w1 ⟨A8, c8, rfl, hL8, hb1⟩; have hv := (Calm.refl _).call hb1; replace hx := (hv.block (row3 hx).2.2.2).trans hx; replace hu := hu.call hv; clear hb1 hv cP; obtain ⟨hx0, hx1, hx2, hxs⟩ := row3 hx)
        | (go_at_call 16; (with_reducible refine (cG _ _ _ hL8).mono ?_); rintro e w1 ⟨rfl, hb1⟩; have hv := (Calm.refl _).call hb1; replace hL8 := hL8.calm hv; replace hx := (hv.block (row3 hx).2.2.2).trans hx; replace hu := hu.call hv; clear hb1 hv cG; obtain ⟨hx0, hx1, hx2, hxs⟩ := row3 hx)
        | (go_at_call 25; (with_reducible refine (cH _ _ _ hL8).mono ?_); rintro e w1 ⟨v, rfl, hb1⟩; have hv := (Calm.refl _).call hb1; replace hx := (hv.block (row3 hx).2.2.2).trans hx; replace hu := hu.call hv; clear hb1 hv cH hL8; obtain ⟨hx0, hx1, hx2, hxs⟩ := row3 hx)
        | (go_at_call 27; (with_reducible refine (cC _ hu).mono ?_); rintro e w1 ⟨A7, c7, rfl, hL7, hb1⟩; have hv := (Calm.refl _).call hb1; replace hx := (hv.block (row3 hx).2.2.2).trans hx; replace hu := hu.call hv; clear hb1 hv cC; obtain ⟨hx0, hx1, hx2, hxs⟩ := row3 hx)
        | (go_at_call 16; (with_reducible refine (cI _ _ _ hL7).mono ?_); rintro e w1 ⟨rfl, hb1⟩; have hv := (Calm.refl _).call hb1; replace hL7 := hL7.calm hv; replace hx := (hv.block (row3 hx).2.2.2).trans hx; replace hu := hu.call hv; clear hb1 hv cI; obtain ⟨hx0, hx1, hx2, hxs⟩ := row3 hx)
        | (go_at_call 27; (with_reducible refine (cK _ _ _ hL7).mono ?_); rintro e w1 ⟨v, rfl, hb1⟩; have hv := (Calm.refl _).call hb1; replace hu := hu.call hv; clear hb1 hv cK hL7))
      go_ret
      exact ⟨rfl, hu⟩
end Go.Proofs.Ytjjibnkooloagaa
