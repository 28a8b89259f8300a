/- RunFull: the law's own walk. -/
import Derived.Test.YtjjibnkooloagaaFull
namespace Go.Proofs.Ytjjibnkooloagaa
open Go.ChangeShapes Go.WideShapes Go.ChangeAt Go.RowKit

set_option maxRecDepth 100000 in
set_option maxHeartbeats 16000000 in
theorem runFull_walk (k : Int) (s : ByteArray) (t : Int) (w : World) :
    Calls Try.prog 13 #[.int .i64 k, .string s, .int .i64 t] w fun e w' => e = .returned (.bool true) ∧ Calm w w' := by
  obtain ⟨i, hi, cI⟩ := (within_any k).1
  obtain ⟨x, hx0, hx9, cJ⟩ := (within_any t).2
  have hu := Calm.refl w
  have hp1 := full_put_new (t := 1 + x) (by omega) (by omega)
  have hp2 := full_put_at hi s
  have hp3 := full_putR hi s
  have hp4 := full_cut hi (t := 1 + x) (by omega) (by omega)
  have hp5 := full_cut_put (N := 400) rfl hi (t := 1 + x) (by omega) (by omega)
  have hm := full_mk
  obtain ⟨F, hF⟩ : ∃ F, fullN 400 = F := ⟨_, rfl⟩
  have hl : F.length = 400 := by rw [← hF, fullN_length]
  rw [hF] at hp1 hp2 hp3 hp4 hp5
  have cF : ∀ u, Calls Try.prog 37 #[] u fun e w' => ∃ A c, e = .returned (.slice A 400 c) ∧ Lies w' A F ∧ Calm u w' := fun u => by
    have h := hm u
    rw [hF] at h
    refine Calls.mono h ?_
    rintro e w' ⟨v, rfl, ⟨A8, c8, rfl, _, hL⟩, hc⟩
    exact ⟨A8, c8, by rw [hl], hL, hc⟩
  have c1 : ∀ u A c, Lies u A F → Calls Try.prog 25 #[.slice A 400 c, .agg #[.int .i64 0, .int .i64 0, .int .i64 1000], .string { data := #[] }, .int .i64 (1 + x)] u fun e w' => ∃ v, e = .returned (.tuple #[v, .int .i64 8]) ∧ Calm u w' := fun u A c h => by
    have h4 := runPut_any A c F 0 0 1000 { data := #[] } (1 + x) u (by omega) h
    rw [hp1, hl] at h4
    refine Calls.mono h4 ?_
    rintro e w' ⟨v, rfl, _, hc⟩
    exact ⟨v, rfl, hc⟩
  obtain ⟨N, hN⟩ : ∃ N, cutR F (0, 0, (i : Int)) (1 + x) = N := ⟨_, rfl⟩
  have hNl : N.length ≤ 400 := by rw [← hN, ← hl]; exact List.length_filterMap_le _ _
  have c3 : ∀ u A c, Lies u A F → Calls Try.prog 27 #[.slice A 400 c, .agg #[.int .i64 0, .int .i64 0, .int .i64 (i : Int)], .int .i64 (1 + x)] u fun e w' => ∃ A7 c7, e = .returned (.tuple #[.slice A7 N.length c7, .int .i64 0]) ∧ Lies w' A7 N ∧ Calm u w' := fun u A c h => by
    have h4 := runCut_any A c F 0 0 (i : Int) (1 + x) u (by omega) h
    rw [hp4, if_pos rfl, hl, hN] at h4
    refine Calls.mono h4 ?_
    rintro e w' ⟨v, rfl, ⟨A8, c8, rfl, _, hL⟩, hc⟩
    exact ⟨A8, c8, rfl, hL, hc⟩
  rw [hN] at hp5
  obtain ⟨n4, hn4⟩ : ∃ n : Int, (if 1 + x = 1 then 0 else 8) = n := ⟨_, rfl⟩
  have c4 : ∀ u A c, Lies u A N → Calls Try.prog 25 #[.slice A N.length c, .agg #[.int .i64 0, .int .i64 0, .int .i64 1000], .string { data := #[] }, .int .i64 (1 + x)] u fun e w' => ∃ v, e = .returned (.tuple #[v, .int .i64 n4]) ∧ Calm u w' := fun u A c h => by
    have h4 := runPut_any A c N 0 0 1000 { data := #[] } (1 + x) u (by omega) h
    rw [hp5, hn4] at h4
    refine Calls.mono h4 ?_
    rintro e w' ⟨v, rfl, _, hc⟩
    exact ⟨v, rfl, hc⟩
  have hn : (x = 0 ∧ n4 = 0) ∨ (0 < x ∧ n4 = 8) := by
    by_cases h : x = 0
    · left; exact ⟨h, by rw [← hn4, if_pos (by omega)]⟩
    · right; exact ⟨by omega, by rw [← hn4, if_neg (by omega)]⟩
  have c2 : (s.size : Int) ≤ 40 → ∀ u A c, Lies u A F → Calls Try.prog 25 #[.slice A 400 c, .agg #[.int .i64 0, .int .i64 0, .int .i64 (i : Int)], .string s, .int .i64 1] u fun e w' => ∃ b q c8, e = .returned (.tuple #[.slice (some ⟨b, q, none⟩) 400 c8, .int .i64 0]) ∧ b < w'.heap.size ∧ ElAt w' b (q + i * 6) ⟨0, 0, i, 1, 0, s⟩ ∧ Calm u w' := fun hs u A c h => by
    have h4 := runPut_any A c F 0 0 (i : Int) s 1 u (by omega) h
    rw [hp2, if_pos hs, if_pos rfl, hl] at h4
    refine Calls.mono h4 ?_
    rintro e w' ⟨v, rfl, ⟨A8, c8, rfl, _, hL⟩, hc⟩
    rw [hp3.1]
    obtain ⟨b, q, rfl, hlt, hk⟩ := hL.2 (by omega)
    exact ⟨b, q, c8, rfl, hlt, hk i _ hp3.2, hc⟩
  have d2 : ¬ (s.size : Int) ≤ 40 → ∀ u A c, Lies u A F → Calls Try.prog 25 #[.slice A 400 c, .agg #[.int .i64 0, .int .i64 0, .int .i64 (i : Int)], .string s, .int .i64 1] u fun e w' => ∃ v, e = .returned (.tuple #[v, .int .i64 2]) ∧ Calm u w' := fun hs u A c h => by
    have h4 := runPut_any A c F 0 0 (i : Int) s 1 u (by omega) h
    rw [hp2, if_neg hs, hl] at h4
    refine Calls.mono h4 ?_
    rintro e w' ⟨v, rfl, _, hc⟩
    exact ⟨v, rfl, hc⟩
  clear hp1 hp2 hp3 hp4 hp5 hm hF hl hN hNl hn4
  have hi1 : ((i : Int)) < 400 := by omega
  have hi0 : 0 ≤ (i : Int) := by omega
  have hx1 : IntKind.i64.wrap (1 + x) = 1 + x := IntWalk.i64_in _ (by omega)
  by_cases hs : (s.size : Int) ≤ 40
  · replace c2 := c2 hs
    clear d2
    have hs1 : ¬ 40 < (s.size : Int) := by omega
    rcases hn with ⟨rfl, rfl⟩ | ⟨hx3, rfl⟩
    rotate_left
    have b5 : (1 + x == 1) = false := by rw [beq_eq_false_iff_ne]; omega
    all_goals
      go_enter Try.func13, Try.ntmps13
      go_wp2_with (first
        | (go_at_call 33; refine (cI _).mono ?_; rintro e w1 ⟨rfl, rfl⟩; clear cI)
        | (go_at_call 33; refine (cJ _).mono ?_; rintro e w1 ⟨rfl, rfl⟩; clear cJ)
        | (go_at_call 37; refine (cF _).mono ?_; rintro e w1 ⟨A9, c9, rfl, hL9, hb1⟩; have hv := (Calm.refl _).call hb1; replace hE := hE.calm hv hlt; replace hlt := Nat.lt_of_lt_of_le hlt hv.size; have c5 := hE.2.2.2.2.2; replace hu := hu.call hv; clear hb1 hv)
        | (go_at_call 37; refine (cF _).mono ?_; rintro e w1 ⟨A9, c9, rfl, hL9, hb1⟩; have hv := (Calm.refl _).call hb1; replace hu := hu.call hv; clear hb1 hv )
        | (go_at_call 25; refine (c1 _ _ _ hL9).mono ?_; rintro e w1 ⟨v, rfl, hb1⟩; have hv := (Calm.refl _).call hb1; replace hu := hu.call hv; clear hb1 hv c1 hL9)
        | (go_at_call 25; refine (c2 _ _ _ hL9).mono ?_; rintro e w1 ⟨b, q, c8, rfl, hlt, hE, hb1⟩; have hv := (Calm.refl _).call hb1; replace hu := hu.call hv; clear hb1 hv c2 hL9)
        | (go_at_call 25; refine (d2 _ _ _ hL9).mono ?_; rintro e w1 ⟨v, rfl, hb1⟩; have hv := (Calm.refl _).call hb1; replace hu := hu.call hv; clear hb1 hv d2 hL9)
        | (go_at_call 27; refine (c3 _ _ _ hL9).mono ?_; rintro e w1 ⟨A7, c7, rfl, hL7, hb1⟩; have hv := (Calm.refl _).call hb1; replace hE := hE.calm hv hlt; replace hlt := Nat.lt_of_lt_of_le hlt hv.size; have c5 := hE.2.2.2.2.2; replace hu := hu.call hv; clear hb1 hv c3 hL9)
        | (go_at_call 27; refine (c3 _ _ _ hL9).mono ?_; rintro e w1 ⟨A7, c7, rfl, hL7, hb1⟩; have hv := (Calm.refl _).call hb1; replace hu := hu.call hv; clear hb1 hv c3 hL9)
        | (go_at_call 25; refine (c4 _ _ _ hL7).mono ?_; rintro e w1 ⟨v, rfl, hb1⟩; have hv := (Calm.refl _).call hb1; replace hE := hE.calm hv hlt; replace hlt := Nat.lt_of_lt_of_le hlt hv.size; have c5 := hE.2.2.2.2.2; replace hu := hu.call hv; clear hb1 hv c4 hL7))
      go_ret
      exact ⟨rfl, hu⟩
  · replace d2 := d2 hs
    clear c2
    have hs1 : 40 < (s.size : Int) := by omega
    rcases hn with ⟨rfl, rfl⟩ | ⟨hx3, rfl⟩
    all_goals
      go_enter Try.func13, Try.ntmps13
      go_wp2_with (first
        | (go_at_call 33; refine (cI _).mono ?_; rintro e w1 ⟨rfl, rfl⟩; clear cI)
        | (go_at_call 33; refine (cJ _).mono ?_; rintro e w1 ⟨rfl, rfl⟩; clear cJ)
        | (go_at_call 37; refine (cF _).mono ?_; rintro e w1 ⟨A9, c9, rfl, hL9, hb1⟩; have hv := (Calm.refl _).call hb1; replace hE := hE.calm hv hlt; replace hlt := Nat.lt_of_lt_of_le hlt hv.size; have c5 := hE.2.2.2.2.2; replace hu := hu.call hv; clear hb1 hv)
        | (go_at_call 37; refine (cF _).mono ?_; rintro e w1 ⟨A9, c9, rfl, hL9, hb1⟩; have hv := (Calm.refl _).call hb1; replace hu := hu.call hv; clear hb1 hv )
        | (go_at_call 25; refine (c1 _ _ _ hL9).mono ?_; rintro e w1 ⟨v, rfl, hb1⟩; have hv := (Calm.refl _).call hb1; replace hu := hu.call hv; clear hb1 hv c1 hL9)
        | (go_at_call 25; refine (c2 _ _ _ hL9).mono ?_; rintro e w1 ⟨b, q, c8, rfl, hlt, hE, hb1⟩; have hv := (Calm.refl _).call hb1; replace hu := hu.call hv; clear hb1 hv c2 hL9)
        | (go_at_call 25; refine (d2 _ _ _ hL9).mono ?_; rintro e w1 ⟨v, rfl, hb1⟩; have hv := (Calm.refl _).call hb1; replace hu := hu.call hv; clear hb1 hv d2 hL9)
        | (go_at_call 27; refine (c3 _ _ _ hL9).mono ?_; rintro e w1 ⟨A7, c7, rfl, hL7, hb1⟩; have hv := (Calm.refl _).call hb1; replace hE := hE.calm hv hlt; replace hlt := Nat.lt_of_lt_of_le hlt hv.size; have c5 := hE.2.2.2.2.2; replace hu := hu.call hv; clear hb1 hv c3 hL9)
        | (go_at_call 27; refine (c3 _ _ _ hL9).mono ?_; rintro e w1 ⟨A7, c7, rfl, hL7, hb1⟩; have hv := (Calm.refl _).call hb1; replace hu := hu.call hv; clear hb1 hv c3 hL9)
        | (go_at_call 25; refine (c4 _ _ _ hL7).mono ?_; rintro e w1 ⟨v, rfl, hb1⟩; have hv := (Calm.refl _).call hb1; replace hE := hE.calm hv hlt; replace hlt := Nat.lt_of_lt_of_le hlt hv.size; have c5 := hE.2.2.2.2.2; replace hu := hu.call hv; clear hb1 hv c4 hL7))
      go_ret
      exact ⟨rfl, hu⟩
end Go.Proofs.Ytjjibnkooloagaa
