/- RunBetween: the law's own walk. -/
import Derived.Test.YtmianlnpaiebhaaRange
import Derived.Test.YtmianlnpaiebhaaEqual
import Derived.Test.YtmianlnpaiebhaaRead
import Derived.Test.YtmianlnpaiebhaaPure9
namespace Go.Proofs.Ytmianlnpaiebhaa
open Go.ChangeShapes Go.WideShapes Go.ChangeAt Go.RowKit

theorem one_lies {w : World} {g : Nat} {p o f m gg : Int} {s : ByteArray} (h : w.heap[g]? = some (.cells #[.int .i64 p, .int .i64 o, .int .i64 f, .int .i64 m, .int .i64 gg, .string s] 25 (0, 0))) (hm : 0 ≤ m) : Lies w (some ⟨g, 0, none⟩) [⟨p, o, f, m, gg, s⟩] := by
  obtain ⟨x0, x1, x2, x3, x4, x5, hxs⟩ := row6 h
  refine ⟨fun e he => ?_, fun _ => ⟨g, 0, rfl, hxs, fun k e he => ?_⟩⟩
  · simp at he; subst he; unfold El.wf; simp only; omega
  · match k, he with
    | 0, he => simp at he; subst he; exact ⟨x0, x1, x2, x3, x4, x5⟩
    | k + 1, he => simp at he
theorem last_lit (u : World) (g : Nat) (h : u.heap[g]? = some (.cells #[.int .i64 0, .int .i64 0, .int .i64 0, .int .i64 2, .int .i64 5, .string { data := #[] }] 25 (0, 0))) : Calls Try.prog 33 #[.slice (some ⟨g, 0, none⟩) 1 1] u fun e w' => e = .returned (.tuple #[.int .i64 5, .int .i64 0]) ∧ Calm u w' :=
  (runLast_any (some ⟨g, 0, none⟩) 1 [⟨0, 0, 0, 2, 5, { data := #[] }⟩] u (by simp) (one_lies h (by omega))).mono fun e w' ⟨h1, h2⟩ => ⟨by
    have e1 : runErr [⟨0, 0, 0, 2, 5, { data := #[] }⟩] = 0 := by decide +kernel
    have e2 : latest [⟨0, 0, 0, 2, 5, { data := #[] }⟩] = 5 := by decide +kernel
    rw [h1, e1, e2]; rfl, h2⟩
theorem range_lit (u : World) (g : Nat) (h : u.heap[g]? = some (.cells #[.int .i64 0, .int .i64 0, .int .i64 0, .int .i64 2, .int .i64 5, .string { data := #[] }] 25 (0, 0))) : Calls Try.prog 25 #[.slice (some ⟨g, 0, none⟩) 1 1, .agg #[.int .i64 0, .int .i64 0, .int .i64 0], .agg #[.int .i64 0, .int .i64 0, .int .i64 0], .int .i64 4] u (SlEnd [⟨0, 0, 0, 2, 5, { data := #[] }⟩] 0 u) := by
  have := runRange_any (some ⟨g, 0, none⟩) 1 [⟨0, 0, 0, 2, 5, { data := #[] }⟩] 0 0 0 0 0 0 4 u (by simp) (one_lies h (by omega))
  have e1 : rgErr [⟨0, 0, 0, 2, 5, { data := #[] }⟩] (0, 0, 0) (0, 0, 0) = 0 := by decide +kernel
  have e2 : rangeR [⟨0, 0, 0, 2, 5, { data := #[] }⟩] (0, 0, 0) (0, 0, 0) 4 = [⟨0, 0, 0, 2, 5, { data := #[] }⟩] := by
    unfold rangeR inR El.key El.live liveP kLt; simp
  rw [e1, e2] at this
  exact this
theorem beyond_step {l : List El} {k : Nat} {e : El} {t N N' : Int} (h : l[k]? = some e) (hB : ∀ x ∈ l.take k, Beyond t N x) (hN : N' ≤ N) (he : Beyond t N' e) : ∀ x ∈ l.take (k + 1), Beyond t N' x := by
  obtain ⟨hk, hke⟩ := List.getElem?_eq_some_iff.1 h
  intro x hx
  rw [List.take_succ_eq_append_getElem hk, hke] at hx
  rcases List.mem_append.1 hx with hx | hx
  · obtain ⟨h1, h2⟩ := hB x hx
    exact ⟨fun a => Int.le_trans hN (h1 a), fun a => Int.le_trans hN (h2 a)⟩
  · simp at hx; subst hx; exact he
theorem index2 (x y : Value) (w : World) : (Instr.index 56 (.agg #[x, y]) (.int .i64 0)).run Try.prog w = .ok x w ∧ (Instr.index 56 (.agg #[x, y]) (.int .i64 1)).run Try.prog w = .ok y w :=
  ⟨by kernel_rfl, by kernel_rfl⟩

set_option maxRecDepth 100000 in
set_option maxHeartbeats 16000000 in
theorem runBetween_walk (A : Option Addr) (d : Nat) (l : List El) (p' o' f' p2 o2 f2 t : Int) (w : World) (hn : l.length ≤ 9223372036854775807) (hL : Lies w A l) :
    Calls Try.prog 10 #[.slice A l.length d, .agg #[.int .i64 p', .int .i64 o', .int .i64 f'], .agg #[.int .i64 p2, .int .i64 o2, .int .i64 f2], .int .i64 t] w fun e w' => e = .returned (.bool true) ∧ Calm w w' := by
  have hx := heap_past (.cells #[.int .i64 p2, .int .i64 o2, .int .i64 f2] 23) (heap_new w (.cells #[.int .i64 p', .int .i64 o', .int .i64 f'] 23))
  have hy := heap_new (w.alloc (.cells #[.int .i64 p', .int .i64 o', .int .i64 f'] 23)) (.cells #[.int .i64 p2, .int .i64 o2, .int .i64 f2] 23)
  simp only [World.size_alloc] at hy
  have hu := ((Calm.refl w).alloc (.cells #[.int .i64 p', .int .i64 o', .int .i64 f'] 23)).alloc (.cells #[.int .i64 p2, .int .i64 o2, .int .i64 f2] 23)
  have hz := heap_new ((w.alloc (.cells #[.int .i64 p', .int .i64 o', .int .i64 f'] 23)).alloc (.cells #[.int .i64 p2, .int .i64 o2, .int .i64 f2] 23)) (.cells #[.int .i64 0, .int .i64 0, .int .i64 0, .int .i64 2, .int .i64 5, .string { data := #[] }] 25)
  simp only [World.size_alloc] at hz
  replace hx := heap_past (.cells #[.int .i64 0, .int .i64 0, .int .i64 0, .int .i64 2, .int .i64 5, .string { data := #[] }] 25) hx
  replace hy := heap_past (.cells #[.int .i64 0, .int .i64 0, .int .i64 0, .int .i64 2, .int .i64 5, .string { data := #[] }] 25) hy
  replace hu := hu.alloc (.cells #[.int .i64 0, .int .i64 0, .int .i64 0, .int .i64 2, .int .i64 5, .string { data := #[] }] 25)
  have cR : ∀ T u, Calm w u → Calls Try.prog 25 #[.slice A l.length d, .agg #[.int .i64 p', .int .i64 o', .int .i64 f'], .agg #[.int .i64 p2, .int .i64 o2, .int .i64 f2], .int .i64 T] u (SlEnd (if rgErr l (p', o', f') (p2, o2, f2) = 0 then rangeR l (p', o', f') (p2, o2, f2) T else []) (rgErr l (p', o', f') (p2, o2, f2)) u) := fun T u hu => runRange_any A d l p' o' f' p2 o2 f2 T u hn (hL.calm hu)
  by_cases he : rgErr l (p', o', f') (p2, o2, f2) = 0
  rotate_left
  · have c1 := cR t
    rw [if_neg he] at c1
    have b1 : (rgErr l (p', o', f') (p2, o2, f2) != 0) = true := by simpa using he
    generalize rgErr l (p', o', f') (p2, o2, f2) = E at c1 b1
    clear cR he hL
    go_enter Try.func10, Try.ntmps10
    go_wp2_with (first
      | (go_at_call 33; (with_reducible refine (last_lit _ _ hz).mono ?_); rintro e w1 ⟨rfl, hb1⟩; replace hz := (hb1.block (row6 hz).2.2.2.2.2.2).trans hz; replace hx := (hb1.block (row3 hx).2.2.2).trans hx; replace hy := (hb1.block (row3 hy).2.2.2).trans hy; replace hu := hu.call hb1; clear hb1; obtain ⟨x0, x1, x2, hxs⟩ := row3 hx; obtain ⟨y0, y1, y2, hys⟩ := row3 hy)
      | (go_at_call 25; (with_reducible refine (range_lit _ _ hz).mono ?_); rintro e w1 ⟨v0, rfl, ⟨A0, c0, rfl, hn0, hS0⟩, hb1⟩; clear hn0 hS0; clear hz; replace hx := (hb1.block (row3 hx).2.2.2).trans hx; replace hy := (hb1.block (row3 hy).2.2.2).trans hy; replace hu := hu.call hb1; clear hb1; obtain ⟨x0, x1, x2, hxs⟩ := row3 hx; obtain ⟨y0, y1, y2, hys⟩ := row3 hy)
      | (go_at_call 25; (with_reducible refine (c1 _ hu).mono ?_); rintro e w1 ⟨v1, rfl, ⟨A1, d1, rfl, hn1, hS1⟩, hb1⟩; clear hn1 hS1; replace hx := (hb1.block (row3 hx).2.2.2).trans hx; replace hy := (hb1.block (row3 hy).2.2.2).trans hy; replace hu := hu.call hb1; clear hb1; obtain ⟨x0, x1, x2, hxs⟩ := row3 hx; obtain ⟨y0, y1, y2, hys⟩ := row3 hy))
    go_ret
    exact ⟨rfl, hu⟩
  have hG : Good l := by
    unfold rgErr at he
    split at he
    · exact runErr_zero.1 (by assumption)
    · exact absurd he (by assumption)
  rw [he] at cR
  simp only [if_true] at cR
  have hl4 := hG.1
  have cLa : ∀ u, Calm w u → Calls Try.prog 33 #[.slice A l.length d] u fun e w' => e = .returned (.tuple #[.int .i64 (latest l), .int .i64 0]) ∧ Calm u w' := fun u hu => by
    have := runLast_any A d l u hn (hL.calm hu)
    rw [runErr_zero.2 hG, if_pos rfl] at this
    exact this
  have c3 := cR (latest l)
  have c4 := cR 2147483647
  have e34 : rangeR l (p', o', f') (p2, o2, f2) (latest l) = rangeR l (p', o', f') (p2, o2, f2) 2147483647 := range_same fun e he => last_live hG he
  rw [← e34] at c4
  have hL1n := Nat.le_trans (rangeR_le l (p', o', f') (p2, o2, f2) t) hn
  have hL3n := Nat.le_trans (rangeR_le l (p', o', f') (p2, o2, f2) (latest l)) hn
  have c1 := cR t
  have cN : ∀ N, (∀ e ∈ l, Beyond t N e) → t < N - 1 → ∀ u, Calm w u → Calls Try.prog 25 #[.slice A l.length d, .agg #[.int .i64 p', .int .i64 o', .int .i64 f'], .agg #[.int .i64 p2, .int .i64 o2, .int .i64 f2], .int .i64 (N - 1)] u (SlEnd (rangeR l (p', o', f') (p2, o2, f2) t) 0 u) := fun N hN hlt => by
    rw [range_same fun e he => between_live (hN e he) hlt]
    exact cR (N - 1)
  generalize rangeR l (p', o', f') (p2, o2, f2) t = L1 at c1 cN hL1n
  generalize rangeR l (p', o', f') (p2, o2, f2) (latest l) = L3 at c3 c4 hL3n
  generalize latest l = la at c3 cLa
  have hT : ∀ e ∈ l, 0 ≤ e.m ∧ e.m ≤ 2147483647 ∧ 0 ≤ e.g ∧ e.g ≤ 2147483647 := fun e he => by
    have := err_time (hG.2.1 e he)
    unfold timeOk at this
    omega
  have HT := Lib.hid hT
  have HN := Lib.hid cN
  have j0 := fun x y w => (index2 x y w).1
  have j1 := fun x y w => (index2 x y w).2
  clear cR he hG e34 hT cN
  have hl5 : (l.length : Int) ≤ 400 := by omega
  go_enter Try.func10, Try.ntmps10
  go_wp2_with (first
    | (go_at_call 33; (with_reducible refine (last_lit _ _ hz).mono ?_); rintro e w1 ⟨rfl, hb1⟩; replace hz := (hb1.block (row6 hz).2.2.2.2.2.2).trans hz; replace hx := (hb1.block (row3 hx).2.2.2).trans hx; replace hy := (hb1.block (row3 hy).2.2.2).trans hy; replace hu := hu.call hb1; clear hb1; obtain ⟨x0, x1, x2, hxs⟩ := row3 hx; obtain ⟨y0, y1, y2, hys⟩ := row3 hy)
    | (go_at_call 25; (with_reducible refine (range_lit _ _ hz).mono ?_); rintro e w1 ⟨v0, rfl, ⟨A0, c0, rfl, hn0, hS0⟩, hb1⟩; clear hn0 hS0; clear hz; replace hx := (hb1.block (row3 hx).2.2.2).trans hx; replace hy := (hb1.block (row3 hy).2.2.2).trans hy; replace hu := hu.call hb1; clear hb1; obtain ⟨x0, x1, x2, hxs⟩ := row3 hx; obtain ⟨y0, y1, y2, hys⟩ := row3 hy)
    | (go_at_call 25; (with_reducible refine (c1 _ hu).mono ?_); rintro e w1 ⟨v1, rfl, ⟨A1, d1, rfl, hn1, hS1⟩, hb1⟩; clear hn1; replace hx := (hb1.block (row3 hx).2.2.2).trans hx; replace hy := (hb1.block (row3 hy).2.2.2).trans hy; replace hu := hu.call hb1; clear hb1; obtain ⟨x0, x1, x2, hxs⟩ := row3 hx; obtain ⟨y0, y1, y2, hys⟩ := row3 hy))
  have HS1 := Lib.hid hS1
  clear hS1 x0 x1 x2 y0 y1 y2 hxs hys
  have HX := Lib.hid hx
  have HY := Lib.hid hy
  clear hx hy
  obtain ⟨w3, hw3⟩ : ∃ w3 : World, w3 = w1 := ⟨_, rfl⟩
  subst hw3
  go_loopw [16, 70] (fun n i wr => ∃ (k : Nat) (N : Int), k ≤ l.length ∧ i = .int .i64 k ∧ n = .int .i64 N ∧ 0 ≤ N ∧ N ≤ 2147483647 ∧ Calm w3 wr ∧ Hid (∀ e ∈ l.take k, Beyond t N e)) (fun _ i _ => l.length - (intOf i).toNat)
  case atStart => exact ⟨0, 2147483647, Nat.zero_le _, rfl, rfl, by omega, by omega, Calm.refl _, Lib.hid (by simp)⟩
  case round =>
    obtain ⟨k, N, hk, rfl, rfl, hN0, hN1, hur, hB⟩ := hrel
    by_cases hlt : k < l.length
    rotate_left
    · have hBl : ∀ e ∈ l, Beyond t N e := by
        have := hB.out
        rw [List.take_of_length_le (by omega)] at this
        exact this
      have hx := (hur.block (row3 HX.out).2.2.2).trans HX.out
      have hy := (hur.block (row3 HY.out).2.2.2).trans HY.out
      have hS1 := HS1.out.calm hur
      replace hu := hu.call hur
      obtain ⟨x0, x1, x2, hxs⟩ := row3 hx
      obtain ⟨y0, y1, y2, hys⟩ := row3 hy
      clear HX HY HS1 HT hur hB
      by_cases hc : t < N - 1
      · have cT := HN.out N hBl hc
        clear HN hBl
        go_wp2_with (first
          | (go_at_call 25; (with_reducible refine (cT _ hu).mono ?_); rintro e w1 ⟨v2, rfl, ⟨A2, d2, rfl, hn2, hS2⟩, hb1⟩; clear hn2; replace hx := (hb1.block (row3 hx).2.2.2).trans hx; replace hy := (hb1.block (row3 hy).2.2.2).trans hy; replace hu := hu.call hb1; replace hS1 := hS1.calm hb1; clear hb1; obtain ⟨x0, x1, x2, hxs⟩ := row3 hx; obtain ⟨y0, y1, y2, hys⟩ := row3 hy)
          | (go_at_call 33; (with_reducible refine (cLa _ hu).mono ?_); rintro e w1 ⟨rfl, hb1⟩; replace hx := (hb1.block (row3 hx).2.2.2).trans hx; replace hy := (hb1.block (row3 hy).2.2.2).trans hy; replace hu := hu.call hb1; replace hS1 := hS1.calm hb1; replace hS2 := hS2.calm hb1; clear hb1; obtain ⟨x0, x1, x2, hxs⟩ := row3 hx; obtain ⟨y0, y1, y2, hys⟩ := row3 hy)
          | (go_at_call 25; (with_reducible refine (c3 _ hu).mono ?_); rintro e w1 ⟨v3, rfl, ⟨A3, d3, rfl, hn3, hS3⟩, hb1⟩; clear hn3; replace hx := (hb1.block (row3 hx).2.2.2).trans hx; replace hy := (hb1.block (row3 hy).2.2.2).trans hy; replace hu := hu.call hb1; replace hS1 := hS1.calm hb1; replace hS2 := hS2.calm hb1; clear c3; clear hb1; obtain ⟨x0, x1, x2, hxs⟩ := row3 hx; obtain ⟨y0, y1, y2, hys⟩ := row3 hy)
          | (go_at_call 25; (with_reducible refine (c4 _ hu).mono ?_); rintro e w1 ⟨v4, rfl, ⟨A4, d4, rfl, hn4, hS4⟩, hb1⟩; clear hn4; replace hx := (hb1.block (row3 hx).2.2.2).trans hx; replace hy := (hb1.block (row3 hy).2.2.2).trans hy; replace hu := hu.call hb1; replace hS1 := hS1.calm hb1; replace hS2 := hS2.calm hb1; replace hS3 := hS3.calm hb1; clear hb1; obtain ⟨x0, x1, x2, hxs⟩ := row3 hx; obtain ⟨y0, y1, y2, hys⟩ := row3 hy)
          | (go_at_call 22; (with_reducible refine (equal_self _ _ _ _ L1 _ hL1n hS1 hS2).mono ?_); rintro e w1 ⟨rfl, hb1⟩; replace hu := hu.call hb1; replace hS3 := hS3.calm hb1; replace hS4 := hS4.calm hb1; clear hb1 hS1 hS2)
          | (go_at_call 22; (with_reducible refine (equal_self _ _ _ _ L3 _ hL3n hS3 hS4).mono ?_); rintro e w1 ⟨rfl, hb1⟩; replace hu := hu.call hb1; clear hb1))
        go_ret
        exact ⟨rfl, hu⟩
      · have cT := c1
        have hc' : N - 1 ≤ t := by omega
        clear HN hBl c1 hc
        go_wp2_with (first
          | (go_at_call 25; (with_reducible refine (cT _ hu).mono ?_); rintro e w1 ⟨v2, rfl, ⟨A2, d2, rfl, hn2, hS2⟩, hb1⟩; clear hn2; replace hx := (hb1.block (row3 hx).2.2.2).trans hx; replace hy := (hb1.block (row3 hy).2.2.2).trans hy; replace hu := hu.call hb1; replace hS1 := hS1.calm hb1; clear hb1; obtain ⟨x0, x1, x2, hxs⟩ := row3 hx; obtain ⟨y0, y1, y2, hys⟩ := row3 hy)
          | (go_at_call 33; (with_reducible refine (cLa _ hu).mono ?_); rintro e w1 ⟨rfl, hb1⟩; replace hx := (hb1.block (row3 hx).2.2.2).trans hx; replace hy := (hb1.block (row3 hy).2.2.2).trans hy; replace hu := hu.call hb1; replace hS1 := hS1.calm hb1; replace hS2 := hS2.calm hb1; clear hb1; obtain ⟨x0, x1, x2, hxs⟩ := row3 hx; obtain ⟨y0, y1, y2, hys⟩ := row3 hy)
          | (go_at_call 25; (with_reducible refine (c3 _ hu).mono ?_); rintro e w1 ⟨v3, rfl, ⟨A3, d3, rfl, hn3, hS3⟩, hb1⟩; clear hn3; replace hx := (hb1.block (row3 hx).2.2.2).trans hx; replace hy := (hb1.block (row3 hy).2.2.2).trans hy; replace hu := hu.call hb1; replace hS1 := hS1.calm hb1; replace hS2 := hS2.calm hb1; clear c3; clear hb1; obtain ⟨x0, x1, x2, hxs⟩ := row3 hx; obtain ⟨y0, y1, y2, hys⟩ := row3 hy)
          | (go_at_call 25; (with_reducible refine (c4 _ hu).mono ?_); rintro e w1 ⟨v4, rfl, ⟨A4, d4, rfl, hn4, hS4⟩, hb1⟩; clear hn4; replace hx := (hb1.block (row3 hx).2.2.2).trans hx; replace hy := (hb1.block (row3 hy).2.2.2).trans hy; replace hu := hu.call hb1; replace hS1 := hS1.calm hb1; replace hS2 := hS2.calm hb1; replace hS3 := hS3.calm hb1; clear hb1; obtain ⟨x0, x1, x2, hxs⟩ := row3 hx; obtain ⟨y0, y1, y2, hys⟩ := row3 hy)
          | (go_at_call 22; (with_reducible refine (equal_self _ _ _ _ L1 _ hL1n hS1 hS2).mono ?_); rintro e w1 ⟨rfl, hb1⟩; replace hu := hu.call hb1; replace hS3 := hS3.calm hb1; replace hS4 := hS4.calm hb1; clear hb1 hS1 hS2)
          | (go_at_call 22; (with_reducible refine (equal_self _ _ _ _ L3 _ hL3n hS3 hS4).mono ?_); rintro e w1 ⟨rfl, hb1⟩; replace hu := hu.call hb1; clear hb1))
        go_ret
        exact ⟨rfl, hu⟩
    obtain ⟨b, q, p, o, f, m, g, s, rfl, hb, HE, hm, c0', c1', c2', c3', c4', c5'⟩ := ((hL.calm hu).calm hur).get hlt
    obtain ⟨t0, t1, t2, t3⟩ := HT.out _ (List.mem_of_getElem? HE.out)
    simp only at t0 t1 t2 t3
    have hb2 := fun N' h1 h2 => beyond_step (N' := N') HE.out hB.out h1 h2
    clear HT HN HS1 HX HY HE hB c1 c3 c4 cLa
    rcases (show m ≤ t ∨ (t < m ∧ N ≤ m) ∨ (t < m ∧ m < N) from by omega) with h1 | ⟨h1, h1'⟩ | ⟨h1, h1'⟩
    · rcases (show g ≤ t ∨ (t < g ∧ N ≤ g) ∨ (t < g ∧ g < N) from by omega) with h2 | ⟨h2, h2'⟩ | ⟨h2, h2'⟩
      · have HB := Lib.hid (hb2 N (by omega) (by unfold Beyond; simp only; omega))
        clear hb2
        go_wp2_with fail
        refine wp_loop_rounds 3 ?_
        rw [rounds_succ]
        go_wp2_with fail
        rw [rounds_succ]
        go_wp2_with fail
        rw [rounds_succ]
        go_wp2_with fail
        go_roundw
        case rel => exact ⟨k + 1, _, by omega, by go_num, rfl, by omega, by omega, hur.alloc _, HB⟩
        case measure => simp [intOf]; omega
      · have HB := Lib.hid (hb2 N (by omega) (by unfold Beyond; simp only; omega))
        clear hb2
        go_wp2_with fail
        refine wp_loop_rounds 3 ?_
        rw [rounds_succ]
        go_wp2_with fail
        rw [rounds_succ]
        go_wp2_with fail
        rw [rounds_succ]
        go_wp2_with fail
        go_roundw
        case rel => exact ⟨k + 1, _, by omega, by go_num, rfl, by omega, by omega, hur.alloc _, HB⟩
        case measure => simp [intOf]; omega
      · have HB := Lib.hid (hb2 g (by omega) (by unfold Beyond; simp only; omega))
        clear hb2
        go_wp2_with fail
        refine wp_loop_rounds 3 ?_
        rw [rounds_succ]
        go_wp2_with fail
        rw [rounds_succ]
        go_wp2_with fail
        rw [rounds_succ]
        go_wp2_with fail
        go_roundw
        case rel => exact ⟨k + 1, _, by omega, by go_num, rfl, by omega, by omega, hur.alloc _, HB⟩
        case measure => simp [intOf]; omega
    · rcases (show g ≤ t ∨ (t < g ∧ N ≤ g) ∨ (t < g ∧ g < N) from by omega) with h2 | ⟨h2, h2'⟩ | ⟨h2, h2'⟩
      · have HB := Lib.hid (hb2 N (by omega) (by unfold Beyond; simp only; omega))
        clear hb2
        go_wp2_with fail
        refine wp_loop_rounds 3 ?_
        rw [rounds_succ]
        go_wp2_with fail
        rw [rounds_succ]
        go_wp2_with fail
        rw [rounds_succ]
        go_wp2_with fail
        go_roundw
        case rel => exact ⟨k + 1, _, by omega, by go_num, rfl, by omega, by omega, hur.alloc _, HB⟩
        case measure => simp [intOf]; omega
      · have HB := Lib.hid (hb2 N (by omega) (by unfold Beyond; simp only; omega))
        clear hb2
        go_wp2_with fail
        refine wp_loop_rounds 3 ?_
        rw [rounds_succ]
        go_wp2_with fail
        rw [rounds_succ]
        go_wp2_with fail
        rw [rounds_succ]
        go_wp2_with fail
        go_roundw
        case rel => exact ⟨k + 1, _, by omega, by go_num, rfl, by omega, by omega, hur.alloc _, HB⟩
        case measure => simp [intOf]; omega
      · have HB := Lib.hid (hb2 g (by omega) (by unfold Beyond; simp only; omega))
        clear hb2
        go_wp2_with fail
        refine wp_loop_rounds 3 ?_
        rw [rounds_succ]
        go_wp2_with fail
        rw [rounds_succ]
        go_wp2_with fail
        rw [rounds_succ]
        go_wp2_with fail
        go_roundw
        case rel => exact ⟨k + 1, _, by omega, by go_num, rfl, by omega, by omega, hur.alloc _, HB⟩
        case measure => simp [intOf]; omega
    · rcases (show g ≤ t ∨ (t < g ∧ m ≤ g) ∨ (t < g ∧ g < m) from by omega) with h2 | ⟨h2, h2'⟩ | ⟨h2, h2'⟩
      · have HB := Lib.hid (hb2 m (by omega) (by unfold Beyond; simp only; omega))
        clear hb2
        go_wp2_with fail
        refine wp_loop_rounds 3 ?_
        rw [rounds_succ]
        go_wp2_with fail
        rw [rounds_succ]
        go_wp2_with fail
        rw [rounds_succ]
        go_wp2_with fail
        go_roundw
        case rel => exact ⟨k + 1, _, by omega, by go_num, rfl, by omega, by omega, hur.alloc _, HB⟩
        case measure => simp [intOf]; omega
      · have HB := Lib.hid (hb2 m (by omega) (by unfold Beyond; simp only; omega))
        clear hb2
        go_wp2_with fail
        refine wp_loop_rounds 3 ?_
        rw [rounds_succ]
        go_wp2_with fail
        rw [rounds_succ]
        go_wp2_with fail
        rw [rounds_succ]
        go_wp2_with fail
        go_roundw
        case rel => exact ⟨k + 1, _, by omega, by go_num, rfl, by omega, by omega, hur.alloc _, HB⟩
        case measure => simp [intOf]; omega
      · have HB := Lib.hid (hb2 g (by omega) (by unfold Beyond; simp only; omega))
        clear hb2
        go_wp2_with fail
        refine wp_loop_rounds 3 ?_
        rw [rounds_succ]
        go_wp2_with fail
        rw [rounds_succ]
        go_wp2_with fail
        rw [rounds_succ]
        go_wp2_with fail
        go_roundw
        case rel => exact ⟨k + 1, _, by omega, by go_num, rfl, by omega, by omega, hur.alloc _, HB⟩
        case measure => simp [intOf]; omega
end Go.Proofs.Ytmianlnpaiebhaa
