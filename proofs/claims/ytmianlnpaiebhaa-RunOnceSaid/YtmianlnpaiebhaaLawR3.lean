/- RunOnce: the law's own walk. -/
import Derived.Test.YtmianlnpaiebhaaRange2
import Derived.Test.YtmianlnpaiebhaaConcat
import Derived.Test.YtmianlnpaiebhaaEqual
import Derived.Test.YtmianlnpaiebhaaAt
import Derived.Test.YtmianlnpaiebhaaRead
import Derived.Test.YtmianlnpaiebhaaPure7
namespace Go.Proofs.Ytmianlnpaiebhaa
open Go.ChangeShapes Go.WideShapes Go.ChangeAt Go.RowKit

set_option maxHeartbeats 2000000 in
theorem at1o_any (n : Int) (s : ByteArray) (w : World) : Calls Try.prog 26 #[.int .i64 n, .string s] w fun e w' => e = .returned (.agg #[.int .i64 0, .int .i64 0, .int .i64 n, .int .i64 1, .int .i64 0, .string s]) ∧ Calm w w' := by
  go_enter Try.func26, Try.ntmps26
  go_wp2_with fail
  go_returns
  exact ⟨rfl, by repeat (first | (with_reducible exact Calm.refl _) | (with_reducible refine Calm.alloc ?_ _) | (with_reducible refine Calm.drew ?_) | (with_reducible refine Calm.drewN ?_ _) | (refine Calm.call ?_ (by with_reducible assumption)))⟩
theorem three_lies {w : World} {g : Nat} (h : w.heap[g]? = some (.cells #[.int .i64 0, .int .i64 0, .int .i64 1, .int .i64 1, .int .i64 0, .string { data := #[97] }, .int .i64 0, .int .i64 0, .int .i64 2, .int .i64 1, .int .i64 0, .string { data := #[98] }, .int .i64 0, .int .i64 0, .int .i64 3, .int .i64 1, .int .i64 0, .string { data := #[99] }] 25 (0, 0))) : Lies w (some ⟨g, 0, none⟩) [⟨0, 0, 1, 1, 0, { data := #[97] }⟩, ⟨0, 0, 2, 1, 0, { data := #[98] }⟩, ⟨0, 0, 3, 1, 0, { data := #[99] }⟩] := by
  have c := fun j => cell_of_row _ g j _ _ _ h
  refine ⟨fun e he => ?_, fun _ => ⟨g, 0, rfl, (Array.getElem?_eq_some_iff.1 h).1, fun k e he => ?_⟩⟩
  · simp at he; rcases he with rfl | rfl | rfl <;> unfold El.wf <;> simp only <;> omega
  · match k, he with
    | 0, he => simp at he; subst he; exact ⟨c 0, c 1, c 2, c 3, c 4, c 5⟩
    | 1, he => simp at he; subst he; exact ⟨c 6, c 7, c 8, c 9, c 10, c 11⟩
    | 2, he => simp at he; subst he; exact ⟨c 12, c 13, c 14, c 15, c 16, c 17⟩
    | k + 3, he => simp at he
theorem range_lit3 (u : World) (g : Nat) (h : u.heap[g]? = some (.cells #[.int .i64 0, .int .i64 0, .int .i64 1, .int .i64 1, .int .i64 0, .string { data := #[97] }, .int .i64 0, .int .i64 0, .int .i64 2, .int .i64 1, .int .i64 0, .string { data := #[98] }, .int .i64 0, .int .i64 0, .int .i64 3, .int .i64 1, .int .i64 0, .string { data := #[99] }] 25 (0, 0))) : Calls Try.prog 25 #[.slice (some ⟨g, 0, none⟩) 3 3, .agg #[.int .i64 0, .int .i64 0, .int .i64 2], .agg #[.int .i64 0, .int .i64 0, .int .i64 3], .int .i64 1] u (SlEnd [⟨0, 0, 2, 1, 0, { data := #[98] }⟩, ⟨0, 0, 3, 1, 0, { data := #[99] }⟩] 0 u) := by
  have := runRange_any (some ⟨g, 0, none⟩) 3 [⟨0, 0, 1, 1, 0, { data := #[97] }⟩, ⟨0, 0, 2, 1, 0, { data := #[98] }⟩, ⟨0, 0, 3, 1, 0, { data := #[99] }⟩] 0 0 2 0 0 3 1 u (by simp) (three_lies h)
  have e1 : rgErr [⟨0, 0, 1, 1, 0, { data := #[97] }⟩, ⟨0, 0, 2, 1, 0, { data := #[98] }⟩, ⟨0, 0, 3, 1, 0, { data := #[99] }⟩] (0, 0, 2) (0, 0, 3) = 0 := by decide +kernel
  have e2 : rangeR [⟨0, 0, 1, 1, 0, { data := #[97] }⟩, ⟨0, 0, 2, 1, 0, { data := #[98] }⟩, ⟨0, 0, 3, 1, 0, { data := #[99] }⟩] (0, 0, 2) (0, 0, 3) 1 = [⟨0, 0, 2, 1, 0, { data := #[98] }⟩, ⟨0, 0, 3, 1, 0, { data := #[99] }⟩] := by
    unfold rangeR inR El.key El.live liveP kLt; simp
  rw [e1, e2] at this
  exact this

theorem concat_part (H : Nat) (A1 A2 : Option Addr) (c1 c2 : Nat) (l1 l2 l : List El) (n : Nat) (hn : l2.length = n) (hl : l = l1 ++ l2) (hwf : ∀ e ∈ l, e.wf) (w : World) (h1 : l1.length ≤ 400) (h2 : l2.length ≤ 400) (hL1 : Lies w A1 l1) (hL2 : Lies w A2 l2) (t : Nat)
    (hx : w.heap[H]? = some (.cells #[.slice A1 l1.length c1, .slice A2 n c2] t (0, 0))) :
    Calls Try.prog 30 #[.slice (some ⟨H, 0, none⟩) 2 2] w fun e w' => ∃ A9 c9, e = .returned (.slice A9 l.length c9) ∧ Lies w' A9 l ∧ Calm w w' := by
  subst hn
  subst hl
  refine (concat_any H A1 A2 c1 c2 l1 l2 w h1 h2 hL1 hL2 t hx).mono fun e w' ⟨v, q1, q2, q3⟩ => ?_
  obtain ⟨A9, c9, r1, _, _, r4⟩ := q2.lies hwf
  exact ⟨A9, c9, by rw [q1, r1], r4, q3⟩
theorem lies_tail {w : World} {A : Option Addr} {l : List El} (h : Lies w A l) (n : Nat) : Lies w (Option.map (fun a => a.add (n * 6)) A) (l.drop n) := by
  refine ⟨fun e he => h.1 e (List.drop_subset _ _ he), fun hpos => ?_⟩
  rw [List.length_drop] at hpos
  obtain ⟨b, q, rfl, hlt, hk⟩ := h.2 (by omega)
  refine ⟨b, q + n * 6, ?_, hlt, fun k e he => ?_⟩
  · show some ((⟨b, q, none⟩ : Addr).add (n * 6)) = _
    congr 1
    unfold Addr.add
    split <;> simp_all
  · rw [List.getElem?_drop] at he
    have := hk (n + k) e he
    rwa [show q + n * 6 + k * 6 = q + (n + k) * 6 from by omega]

set_option maxRecDepth 100000 in
set_option maxHeartbeats 16000000 in
theorem runOnce_walk (A : Option Addr) (d : Nat) (l : List El) (p' o' f' p2 o2 f2 p3 o3 f3 t : Int) (w : World) (hn : l.length ≤ 9223372036854775807) (hL : Lies w A l) :
    Calls Try.prog 5 #[.slice A l.length d, .agg #[.int .i64 p', .int .i64 o', .int .i64 f'], .agg #[.int .i64 p2, .int .i64 o2, .int .i64 f2], .agg #[.int .i64 p3, .int .i64 o3, .int .i64 f3], .int .i64 t] w fun e w' => e = .returned (.bool true) ∧ Calm w w' := by
  have hx := heap_past (.cells #[.int .i64 p3, .int .i64 o3, .int .i64 f3] 23) (heap_past (.cells #[.int .i64 p2, .int .i64 o2, .int .i64 f2] 23) (heap_new w (.cells #[.int .i64 p', .int .i64 o', .int .i64 f'] 23)))
  have hy := heap_past (.cells #[.int .i64 p3, .int .i64 o3, .int .i64 f3] 23) (heap_new (w.alloc (.cells #[.int .i64 p', .int .i64 o', .int .i64 f'] 23)) (.cells #[.int .i64 p2, .int .i64 o2, .int .i64 f2] 23))
  have hz := heap_new ((w.alloc (.cells #[.int .i64 p', .int .i64 o', .int .i64 f'] 23)).alloc (.cells #[.int .i64 p2, .int .i64 o2, .int .i64 f2] 23)) (.cells #[.int .i64 p3, .int .i64 o3, .int .i64 f3] 23)
  simp only [World.size_alloc] at hy hz
  have hu := (((Calm.refl w).alloc (.cells #[.int .i64 p', .int .i64 o', .int .i64 f'] 23)).alloc (.cells #[.int .i64 p2, .int .i64 o2, .int .i64 f2] 23)).alloc (.cells #[.int .i64 p3, .int .i64 o3, .int .i64 f3] 23)
  have cR : ∀ p1 o1 f1 p9 o9 f9 u, Calm w u → Calls Try.prog 25 #[.slice A l.length d, .agg #[.int .i64 p1, .int .i64 o1, .int .i64 f1], .agg #[.int .i64 p9, .int .i64 o9, .int .i64 f9], .int .i64 t] u (SlCEnd (if rgErr l (p1, o1, f1) (p9, o9, f9) = 0 then rangeR l (p1, o1, f1) (p9, o9, f9) t else []) (rgErr l (p1, o1, f1) (p9, o9, f9)) u) := fun p1 o1 f1 p9 o9 f9 u hu => runRange_cap A d l p1 o1 f1 p9 o9 f9 t u hn (hL.calm hu)
  by_cases he : rgErr l (p', o', f') (p3, o3, f3) = 0
  rotate_left
  · have c1 := cR p' o' f' p3 o3 f3
    rw [if_neg he] at c1
    have b1 : (rgErr l (p', o', f') (p3, o3, f3) != 0) = true := by simpa using he
    generalize rgErr l (p', o', f') (p3, o3, f3) = E at c1 b1
    clear cR he hL
    go_enter Try.func5, Try.ntmps5
    go_wp2_with (first
      | (go_at_call 26; (with_reducible refine (at1o_any _ _ _).mono ?_); rintro e w1 ⟨rfl, hb1⟩; replace hx := (hb1.block (row3 hx).2.2.2).trans hx; replace hy := (hb1.block (row3 hy).2.2.2).trans hy; replace hz := (hb1.block (row3 hz).2.2.2).trans hz; replace hu := hu.call hb1; clear hb1; obtain ⟨x0, x1, x2, hxs⟩ := row3 hx; obtain ⟨y0, y1, y2, hys⟩ := row3 hy; obtain ⟨z0, z1, z2, hzs⟩ := row3 hz)
      | (go_at_call 25; (with_reducible refine (range_lit3 _ _ (heap_new _ _)).mono ?_); rintro e w1 ⟨v0, rfl, ⟨A0, c0, rfl, hn0, hS0⟩, hb1⟩; clear hn0 hS0; replace hx := (hb1.block (row3 (heap_past _ hx)).2.2.2).trans (heap_past _ hx); replace hy := (hb1.block (row3 (heap_past _ hy)).2.2.2).trans (heap_past _ hy); replace hz := (hb1.block (row3 (heap_past _ hz)).2.2.2).trans (heap_past _ hz); replace hu := (hu.alloc _).call hb1; clear hb1; obtain ⟨x0, x1, x2, hxs⟩ := row3 hx; obtain ⟨y0, y1, y2, hys⟩ := row3 hy; obtain ⟨z0, z1, z2, hzs⟩ := row3 hz)
      | (go_at_call 25; (with_reducible refine (c1 _ hu).mono ?_); rintro e w1 ⟨v1, rfl, ⟨A1, d1, rfl, hn1, hm1, hS1⟩, hb1⟩; clear hn1 hm1 hS1; replace hx := (hb1.block (row3 hx).2.2.2).trans hx; replace hy := (hb1.block (row3 hy).2.2.2).trans hy; replace hz := (hb1.block (row3 hz).2.2.2).trans hz; replace hu := hu.call hb1; clear hb1; obtain ⟨x0, x1, x2, hxs⟩ := row3 hx; obtain ⟨y0, y1, y2, hys⟩ := row3 hy; obtain ⟨z0, z1, z2, hzs⟩ := row3 hz))
    go_ret
    exact ⟨rfl, hu⟩
  have hG : Good l := by
    unfold rgErr at he
    split at he
    · exact runErr_zero.1 (by assumption)
    · exact absurd he (by assumption)
  have hk13 : kErr (p', o', f') = 0 ∧ kErr (p3, o3, f3) = 0 := by
    unfold rgErr at he
    rw [if_pos (runErr_zero.2 hG)] at he
    split at he
    · exact ⟨by assumption, he⟩
    · exact absurd he (by assumption)
  have hrg : ∀ a b, kErr a = 0 → kErr b = 0 → rgErr l a b = 0 := fun a b ha hb => by unfold rgErr; rw [if_pos (runErr_zero.2 hG), if_pos ha, hb]
  have c1 := cR p' o' f' p3 o3 f3
  rw [he, if_pos rfl] at c1
  have hl4 := hG.1
  have hL1 : (rangeR l (p', o', f') (p3, o3, f3) t).length ≤ 400 := Nat.le_trans (rangeR_le _ _ _ _) hl4
  have cA : ∀ e ∈ rangeR l (p', o', f') (p3, o3, f3) t, ∀ u, Calm w u → Calls Try.prog 27 #[.slice A l.length d, .agg #[.int .i64 e.p, .int .i64 e.o, .int .i64 e.f], .int .i64 t] u fun x w' => x = .returned (.tuple #[.agg #[.int .i64 e.p, .int .i64 e.o, .int .i64 e.f, .int .i64 e.m, .int .i64 e.g, .string e.s], .int .i64 0]) ∧ Calm u w' := fun e hm u hu => by
    have := runAt_any A d l e.p e.o e.f t u hn (hL.calm hu)
    obtain ⟨q1, q2⟩ := at_range_err hG hm
    unfold El.key at q1 q2
    rw [q1, q2] at this
    exact this
  have cP : ∀ i e e', (rangeR l (p', o', f') (p3, o3, f3) t)[i]? = some e → (rangeR l (p', o', f') (p3, o3, f3) t)[i + 1]? = some e' → kcmp e.p e.o e.f e'.p e'.o e'.f = -1 := fun i e e' h1 h2 => by
    obtain ⟨i1, q1⟩ := List.getElem?_eq_some_iff.1 h1
    obtain ⟨i2, q2⟩ := List.getElem?_eq_some_iff.1 h2
    have := List.pairwise_iff_getElem.1 (range_rise hG (p', o', f') (p3, o3, f3) t) i (i + 1) i1 i2 (by omega)
    rw [q1, q2] at this
    exact kcmp_kLt.2 this
  have hr2 := fun mid h1 h2 => range_two hG (lo := (p', o', f')) (mid := mid) (hi := (p3, o3, f3)) (t := t) h1 h2
  generalize rangeR l (p', o', f') (p3, o3, f3) t = L1 at c1 cA cP hL1 hr2
  have HA := Lib.hid cA
  have HP := Lib.hid cP
  have HR := Lib.hid hr2
  have HG := Lib.hid hrg
  have HC := Lib.hid cR
  have hlt4 : (L1.length : Int) ≤ 400 := by omega
  clear cA cP hr2 hrg cR hG he
  go_enter Try.func5, Try.ntmps5
  go_wp2_with (first
    | (go_at_call 26; (with_reducible refine (at1o_any _ _ _).mono ?_); rintro e w1 ⟨rfl, hb1⟩; replace hx := (hb1.block (row3 hx).2.2.2).trans hx; replace hy := (hb1.block (row3 hy).2.2.2).trans hy; replace hz := (hb1.block (row3 hz).2.2.2).trans hz; replace hu := hu.call hb1; clear hb1; obtain ⟨x0, x1, x2, hxs⟩ := row3 hx; obtain ⟨y0, y1, y2, hys⟩ := row3 hy; obtain ⟨z0, z1, z2, hzs⟩ := row3 hz)
    | (go_at_call 25; (with_reducible refine (range_lit3 _ _ (heap_new _ _)).mono ?_); rintro e w1 ⟨v0, rfl, ⟨A0, c0, rfl, hn0, hS0⟩, hb1⟩; clear hn0 hS0; replace hx := (hb1.block (row3 (heap_past _ hx)).2.2.2).trans (heap_past _ hx); replace hy := (hb1.block (row3 (heap_past _ hy)).2.2.2).trans (heap_past _ hy); replace hz := (hb1.block (row3 (heap_past _ hz)).2.2.2).trans (heap_past _ hz); replace hu := (hu.alloc _).call hb1; clear hb1; obtain ⟨x0, x1, x2, hxs⟩ := row3 hx; obtain ⟨y0, y1, y2, hys⟩ := row3 hy; obtain ⟨z0, z1, z2, hzs⟩ := row3 hz)
    | (go_at_call 25; (with_reducible refine (c1 _ hu).mono ?_); rintro e w1 ⟨v1, rfl, ⟨A1, d1, rfl, hn1, hm1, hS1⟩, hb1⟩; clear hn1 hm1; replace hx := (hb1.block (row3 hx).2.2.2).trans hx; replace hy := (hb1.block (row3 hy).2.2.2).trans hy; replace hz := (hb1.block (row3 hz).2.2.2).trans hz; replace hu := hu.call hb1; clear hb1; obtain ⟨x0, x1, x2, hxs⟩ := row3 hx; obtain ⟨y0, y1, y2, hys⟩ := row3 hy; obtain ⟨z0, z1, z2, hzs⟩ := row3 hz))
  have HS1 := Lib.hid hS1
  have HX := Lib.hid hx
  have HY := Lib.hid hy
  have HZ := Lib.hid hz
  clear hS1 hx hy hz x0 x1 x2 y0 y1 y2 z0 z1 z2 hxs hys hzs c1
  obtain ⟨w3, hw3⟩ : ∃ w3 : World, w3 = w1 := ⟨_, rfl⟩
  subst hw3
  go_loopw [56] (fun i wr => ∃ k : Nat, k ≤ L1.length ∧ i = .int .i64 k ∧ Calm w3 wr) (fun i _ => L1.length - (intOf i).toNat)
  case atStart => exact ⟨0, Nat.zero_le _, rfl, Calm.refl _⟩
  case round =>
    obtain ⟨k, hk, rfl, hur⟩ := hrel
    by_cases hlt : k < L1.length
    rotate_left
    · clear HA HP
      have hx := (hur.block (row3 HX.out).2.2.2).trans HX.out
      have hy := (hur.block (row3 HY.out).2.2.2).trans HY.out
      have hz := (hur.block (row3 HZ.out).2.2.2).trans HZ.out
      have hS1 := HS1.out.calm hur
      replace hu := hu.call hur
      obtain ⟨x0, x1, x2, hxs⟩ := row3 hx
      obtain ⟨y0, y1, y2, hys⟩ := row3 hy
      obtain ⟨z0, z1, z2, hzs⟩ := row3 hz
      have cK := fun u => keyCheck_any p2 o2 f2 u
      have c12 := fun u => cmp_any p' o' f' p2 o2 f2 u
      have c23 := fun u => cmp_any p2 o2 f2 p3 o3 f3 u
      clear HX HY HZ HS1 hur
      by_cases hkm : keyErr p2 o2 f2 = 0
      rotate_left
      · have b1 : (keyErr p2 o2 f2 != 0) = true := by simpa using hkm
        generalize keyErr p2 o2 f2 = E at cK b1
        clear hkm HR HG HC
        go_wp2_with (first
          | (go_at_call 29; (with_reducible refine (cK _).mono ?_); rintro e w1 ⟨rfl, hb1⟩; replace hx := (hb1.block (row3 hx).2.2.2).trans hx; replace hy := (hb1.block (row3 hy).2.2.2).trans hy; replace hz := (hb1.block (row3 hz).2.2.2).trans hz; replace hu := hu.call hb1; clear hb1; obtain ⟨x0, x1, x2, hxs⟩ := row3 hx; obtain ⟨y0, y1, y2, hys⟩ := row3 hy; obtain ⟨z0, z1, z2, hzs⟩ := row3 hz)
          | (go_at_call 28; (with_reducible refine (c12 _).mono ?_); rintro e w1 ⟨rfl, hb1⟩; replace hx := (hb1.block (row3 hx).2.2.2).trans hx; replace hy := (hb1.block (row3 hy).2.2.2).trans hy; replace hz := (hb1.block (row3 hz).2.2.2).trans hz; replace hu := hu.call hb1; clear hb1; obtain ⟨x0, x1, x2, hxs⟩ := row3 hx; obtain ⟨y0, y1, y2, hys⟩ := row3 hy; obtain ⟨z0, z1, z2, hzs⟩ := row3 hz)
          | (go_at_call 28; (with_reducible refine (c23 _).mono ?_); rintro e w1 ⟨rfl, hb1⟩; replace hx := (hb1.block (row3 hx).2.2.2).trans hx; replace hy := (hb1.block (row3 hy).2.2.2).trans hy; replace hz := (hb1.block (row3 hz).2.2.2).trans hz; replace hu := hu.call hb1; clear hb1; obtain ⟨x0, x1, x2, hxs⟩ := row3 hx; obtain ⟨y0, y1, y2, hys⟩ := row3 hy; obtain ⟨z0, z1, z2, hzs⟩ := row3 hz))
        go_ret
        exact ⟨rfl, hu⟩
      by_cases h12 : kcmp p' o' f' p2 o2 f2 = 1
      · rw [hkm] at cK
        rw [h12] at c12
        clear h12 hkm HR HG HC
        go_wp2_with (first
          | (go_at_call 29; (with_reducible refine (cK _).mono ?_); rintro e w1 ⟨rfl, hb1⟩; replace hx := (hb1.block (row3 hx).2.2.2).trans hx; replace hy := (hb1.block (row3 hy).2.2.2).trans hy; replace hz := (hb1.block (row3 hz).2.2.2).trans hz; replace hu := hu.call hb1; clear hb1; obtain ⟨x0, x1, x2, hxs⟩ := row3 hx; obtain ⟨y0, y1, y2, hys⟩ := row3 hy; obtain ⟨z0, z1, z2, hzs⟩ := row3 hz)
          | (go_at_call 28; (with_reducible refine (c12 _).mono ?_); rintro e w1 ⟨rfl, hb1⟩; replace hx := (hb1.block (row3 hx).2.2.2).trans hx; replace hy := (hb1.block (row3 hy).2.2.2).trans hy; replace hz := (hb1.block (row3 hz).2.2.2).trans hz; replace hu := hu.call hb1; clear hb1; obtain ⟨x0, x1, x2, hxs⟩ := row3 hx; obtain ⟨y0, y1, y2, hys⟩ := row3 hy; obtain ⟨z0, z1, z2, hzs⟩ := row3 hz)
          | (go_at_call 28; (with_reducible refine (c23 _).mono ?_); rintro e w1 ⟨rfl, hb1⟩; replace hx := (hb1.block (row3 hx).2.2.2).trans hx; replace hy := (hb1.block (row3 hy).2.2.2).trans hy; replace hz := (hb1.block (row3 hz).2.2.2).trans hz; replace hu := hu.call hb1; clear hb1; obtain ⟨x0, x1, x2, hxs⟩ := row3 hx; obtain ⟨y0, y1, y2, hys⟩ := row3 hy; obtain ⟨z0, z1, z2, hzs⟩ := row3 hz))
        go_ret
        exact ⟨rfl, hu⟩
      by_cases h23 : kcmp p2 o2 f2 p3 o3 f3 = 1
      · rw [hkm] at cK
        rw [h23] at c23
        have h12' : kcmp p' o' f' p2 o2 f2 ≤ 0 := by rcases kcmp_or p' o' f' p2 o2 f2 with h | h | h <;> omega
        generalize kcmp p' o' f' p2 o2 f2 = k12 at c12 h12'
        clear h12 h23 hkm HR HG HC
        go_wp2_with (first
          | (go_at_call 29; (with_reducible refine (cK _).mono ?_); rintro e w1 ⟨rfl, hb1⟩; replace hx := (hb1.block (row3 hx).2.2.2).trans hx; replace hy := (hb1.block (row3 hy).2.2.2).trans hy; replace hz := (hb1.block (row3 hz).2.2.2).trans hz; replace hu := hu.call hb1; clear hb1; obtain ⟨x0, x1, x2, hxs⟩ := row3 hx; obtain ⟨y0, y1, y2, hys⟩ := row3 hy; obtain ⟨z0, z1, z2, hzs⟩ := row3 hz)
          | (go_at_call 28; (with_reducible refine (c12 _).mono ?_); rintro e w1 ⟨rfl, hb1⟩; replace hx := (hb1.block (row3 hx).2.2.2).trans hx; replace hy := (hb1.block (row3 hy).2.2.2).trans hy; replace hz := (hb1.block (row3 hz).2.2.2).trans hz; replace hu := hu.call hb1; clear hb1; obtain ⟨x0, x1, x2, hxs⟩ := row3 hx; obtain ⟨y0, y1, y2, hys⟩ := row3 hy; obtain ⟨z0, z1, z2, hzs⟩ := row3 hz)
          | (go_at_call 28; (with_reducible refine (c23 _).mono ?_); rintro e w1 ⟨rfl, hb1⟩; replace hx := (hb1.block (row3 hx).2.2.2).trans hx; replace hy := (hb1.block (row3 hy).2.2.2).trans hy; replace hz := (hb1.block (row3 hz).2.2.2).trans hz; replace hu := hu.call hb1; clear hb1; obtain ⟨x0, x1, x2, hxs⟩ := row3 hx; obtain ⟨y0, y1, y2, hys⟩ := row3 hy; obtain ⟨z0, z1, z2, hzs⟩ := row3 hz))
        go_ret
        exact ⟨rfl, hu⟩
      have hcut := HR.out (p2, o2, f2) (fun h => h12 (kcmp_kGt.2 h)) (fun h => h23 (kcmp_kGt.2 h))
      have c2 := HC.out p' o' f' p2 o2 f2
      have c3 := HC.out p2 o2 f2 p3 o3 f3
      have c4 := HC.out p2 o2 f2 p2 o2 f2
      rw [HG.out (p', o', f') (p2, o2, f2) hk13.1 hkm, if_pos rfl] at c2
      rw [HG.out (p2, o2, f2) (p3, o3, f3) hkm hk13.2, if_pos rfl] at c3
      rw [HG.out (p2, o2, f2) (p2, o2, f2) hkm hkm, if_pos rfl] at c4
      have hle : (rangeR l (p2, o2, f2) (p2, o2, f2) t).length ≤ (rangeR l (p2, o2, f2) (p3, o3, f3) t).length := by
        unfold rangeR
        rw [← List.countP_eq_length_filter, ← List.countP_eq_length_filter]
        refine List.countP_mono_left fun e _ he => ?_
        unfold inR at he ⊢
        rw [decide_eq_true_eq] at he ⊢
        refine ⟨he.1, fun h => ?_, he.2.2⟩
        have hk : e.key = (p2, o2, f2) := by
          rcases kLt_tri e.key (p2, o2, f2) with h1 | h1 | h1
          · exact absurd h1 he.1
          · exact h1
          · exact absurd h1 he.2.1
        rw [hk] at h
        exact h23 (kcmp_kGt.2 h)
      rw [Nat.min_eq_left hle] at hcut
      have g2 := Nat.le_trans (rangeR_le l (p', o', f') (p2, o2, f2) t) hl4
      have g3 := Nat.le_trans (rangeR_le l (p2, o2, f2) (p3, o3, f3) t) hl4
      generalize rangeR l (p', o', f') (p2, o2, f2) t = L2 at c2 hcut g2
      generalize rangeR l (p2, o2, f2) (p3, o3, f3) t = L3 at c3 hcut g3 hle
      generalize rangeR l (p2, o2, f2) (p2, o2, f2) t = L4 at c4 hcut hle
      have h12' : kcmp p' o' f' p2 o2 f2 ≤ 0 := by rcases kcmp_or p' o' f' p2 o2 f2 with h | h | h <;> omega
      have h23' : kcmp p2 o2 f2 p3 o3 f3 ≤ 0 := by rcases kcmp_or p2 o2 f2 p3 o3 f3 with h | h | h <;> omega
      rw [hkm] at cK
      generalize kcmp p' o' f' p2 o2 f2 = k12 at c12 h12'
      generalize kcmp p2 o2 f2 p3 o3 f3 = k23 at c23 h23'
      have HCUT := Lib.hid hcut
      have hlei : (L4.length : Int) ≤ (L3.length : Int) := by omega
      have g3i : (L3.length : Int) ≤ 400 := by omega
      clear h12 h23 hkm HR HG HC hcut hL hk13
      go_wp2_with (first
        | (go_at_call 29; (with_reducible refine (cK _).mono ?_); rintro e w1 ⟨rfl, hb1⟩; replace hS1 := hS1.calm hb1; replace hx := (hb1.block (row3 hx).2.2.2).trans hx; replace hy := (hb1.block (row3 hy).2.2.2).trans hy; replace hz := (hb1.block (row3 hz).2.2.2).trans hz; replace hu := hu.call hb1; clear hb1; obtain ⟨x0, x1, x2, hxs⟩ := row3 hx; obtain ⟨y0, y1, y2, hys⟩ := row3 hy; obtain ⟨z0, z1, z2, hzs⟩ := row3 hz)
        | (go_at_call 28; (with_reducible refine (c12 _).mono ?_); rintro e w1 ⟨rfl, hb1⟩; replace hS1 := hS1.calm hb1; replace hx := (hb1.block (row3 hx).2.2.2).trans hx; replace hy := (hb1.block (row3 hy).2.2.2).trans hy; replace hz := (hb1.block (row3 hz).2.2.2).trans hz; replace hu := hu.call hb1; clear hb1; obtain ⟨x0, x1, x2, hxs⟩ := row3 hx; obtain ⟨y0, y1, y2, hys⟩ := row3 hy; obtain ⟨z0, z1, z2, hzs⟩ := row3 hz)
        | (go_at_call 28; (with_reducible refine (c23 _).mono ?_); rintro e w1 ⟨rfl, hb1⟩; replace hS1 := hS1.calm hb1; replace hx := (hb1.block (row3 hx).2.2.2).trans hx; replace hy := (hb1.block (row3 hy).2.2.2).trans hy; replace hz := (hb1.block (row3 hz).2.2.2).trans hz; replace hu := hu.call hb1; clear hb1; obtain ⟨x0, x1, x2, hxs⟩ := row3 hx; obtain ⟨y0, y1, y2, hys⟩ := row3 hy; obtain ⟨z0, z1, z2, hzs⟩ := row3 hz)
        | (go_at_call 25; (with_reducible refine (c2 _ hu).mono ?_); rintro e w1 ⟨v2, rfl, ⟨A2, d2, rfl, hn2, hm2, hS2⟩, hb1⟩; clear hn2 hm2; replace hS1 := hS1.calm hb1; replace hx := (hb1.block (row3 hx).2.2.2).trans hx; replace hy := (hb1.block (row3 hy).2.2.2).trans hy; replace hz := (hb1.block (row3 hz).2.2.2).trans hz; replace hu := hu.call hb1; clear hb1; obtain ⟨x0, x1, x2, hxs⟩ := row3 hx; obtain ⟨y0, y1, y2, hys⟩ := row3 hy; obtain ⟨z0, z1, z2, hzs⟩ := row3 hz)
        | (go_at_call 25; (with_reducible refine (c3 _ hu).mono ?_); rintro e w1 ⟨v3, rfl, ⟨A3, d3, rfl, hn3, hm3, hS3⟩, hb1⟩; clear hm3; replace hS1 := hS1.calm hb1; replace hS2 := hS2.calm hb1; replace hx := (hb1.block (row3 hx).2.2.2).trans hx; replace hy := (hb1.block (row3 hy).2.2.2).trans hy; replace hz := (hb1.block (row3 hz).2.2.2).trans hz; replace hu := hu.call hb1; clear hb1; obtain ⟨x0, x1, x2, hxs⟩ := row3 hx; obtain ⟨y0, y1, y2, hys⟩ := row3 hy; obtain ⟨z0, z1, z2, hzs⟩ := row3 hz)
  )
      have hwf1 := hS1.1
      by_cases hd3 : d3 = L4.length
      · subst hd3
        have hzero : L3.length - L4.length = 0 := by omega
        have hnil : L3.drop L4.length = [] := List.drop_eq_nil_of_le (by omega)
        have hcut2 := HCUT.out
        rw [hnil] at hcut2
        have HCUT2 := Lib.hid hcut2
        clear hcut2 hnil hn3 hle HCUT
        go_wp2_with (first
          | (go_at_call 25; (with_reducible refine (c4 _ hu).mono ?_); rintro e w1 ⟨v4, rfl, ⟨A4, d4, rfl, hn4, hm4, hS4⟩, hb1⟩; clear hn4 hm4; replace hS1 := hS1.calm hb1; replace hS2 := hS2.calm hb1; replace hS3 := hS3.calm hb1; replace hx := (hb1.block (row3 hx).2.2.2).trans hx; replace hy := (hb1.block (row3 hy).2.2.2).trans hy; replace hz := (hb1.block (row3 hz).2.2.2).trans hz; replace hu := hu.call hb1; clear hb1; obtain ⟨x0, x1, x2, hxs⟩ := row3 hx; obtain ⟨y0, y1, y2, hys⟩ := row3 hy; obtain ⟨z0, z1, z2, hzs⟩ := row3 hz)
          | (go_at_call 30; go_must (refine (concat_part _ A2 A3 d2 0 L2 [] L1 0 rfl HCUT2.out hwf1 _ g2 (by simp) (hS2.calm ((Calm.refl _).alloc _)) ⟨by simp, fun h => absurd h (by simp)⟩ _ (heap_new _ _)).mono ?_); rintro e w1 ⟨A9, c9, rfl, hS9, hb1⟩; replace hS1 := hS1.calm (((Calm.refl _).alloc _).call hb1); replace hu := (hu.alloc _).call hb1; clear hb1)
          | (go_at_call 22; go_must (refine (equal_self _ _ _ _ L1 _ (by omega) hS1 hS9).mono ?_); rintro e w1 ⟨rfl, hb1⟩; replace hu := hu.call hb1))
        go_ret
        exact ⟨rfl, hu⟩
      · have hlt3 : L4.length ≤ d3 := by omega
        clear hle
        go_wp2_with (first
          | (go_at_call 25; (with_reducible refine (c4 _ hu).mono ?_); rintro e w1 ⟨v4, rfl, ⟨A4, d4, rfl, hn4, hm4, hS4⟩, hb1⟩; clear hn4 hm4; replace hS1 := hS1.calm hb1; replace hS2 := hS2.calm hb1; replace hS3 := hS3.calm hb1; replace hx := (hb1.block (row3 hx).2.2.2).trans hx; replace hy := (hb1.block (row3 hy).2.2.2).trans hy; replace hz := (hb1.block (row3 hz).2.2.2).trans hz; replace hu := hu.call hb1; clear hb1; obtain ⟨x0, x1, x2, hxs⟩ := row3 hx; obtain ⟨y0, y1, y2, hys⟩ := row3 hy; obtain ⟨z0, z1, z2, hzs⟩ := row3 hz)
          | (go_at_call 30; go_must (refine (concat_part _ A2 _ d2 _ L2 (L3.drop L4.length) L1 _ List.length_drop HCUT.out hwf1 _ g2 (by rw [List.length_drop]; omega) (hS2.calm ((Calm.refl _).alloc _)) (lies_tail (hS3.calm ((Calm.refl _).alloc _)) _) _ (heap_new _ _)).mono ?_); rintro e w1 ⟨A9, c9, rfl, hS9, hb1⟩; replace hS1 := hS1.calm (((Calm.refl _).alloc _).call hb1); replace hu := (hu.alloc _).call hb1; clear hb1)
          | (go_at_call 22; go_must (refine (equal_self _ _ _ _ L1 _ (by omega) hS1 hS9).mono ?_); rintro e w1 ⟨rfl, hb1⟩; replace hu := hu.call hb1))
        go_ret
        exact ⟨rfl, hu⟩
    have hu9 := hu.call hur
    obtain ⟨b, q, p, o, f, m, g, s, rfl, hb, HE, hm, c0, c1, c2, c3, c4, c5⟩ := (HS1.out.calm hur).get hlt
    have hLk := (List.getElem?_eq_some_iff.1 HE.out).2
    have cAt := HA.out _ (List.mem_of_getElem? HE.out)
    simp only at cAt
    have hq := heap_new wr (.cells #[.int .i64 p, .int .i64 o, .int .i64 f, .int .i64 m, .int .i64 g, .string s] 25)
    rcases Nat.eq_zero_or_pos k with h0 | h0
    · have hkz : decide ((0 : Int) < (k : Int)) = false := by simp; omega
      have HK0 := Lib.hid h0
      clear h0
      clear HA HP HR HG HC HE HX HY HZ hLk
      go_wp2_with (go_at_call 27; go_must (refine (cAt _ (hu9.alloc _)).mono ?_); rintro e w2 ⟨rfl, hb2⟩; replace hq := (hb2.block (row6 hq).2.2.2.2.2.2).trans hq; have hu2 := ((Calm.refl wr).alloc _).call hb2; clear hb2; obtain ⟨g0, g1, g2, g3, g4, g5, hgs⟩ := row6 hq)
      have hq2 := heap_past (.cells #[.int .i64 p, .int .i64 o, .int .i64 f, .int .i64 m, .int .i64 g, .string s] 25) hq
      have hv := heap_new w2 (.cells #[.int .i64 p, .int .i64 o, .int .i64 f, .int .i64 m, .int .i64 g, .string s] 25)
      replace hu2 := hu2.alloc (.cells #[.int .i64 p, .int .i64 o, .int .i64 f, .int .i64 m, .int .i64 g, .string s] 25)
      generalize hN2 : w2.heap.size = N2 at hv ⊢
      generalize hN1 : wr.heap.size = N1 at hq hq2 ⊢
      clear hN1 hN2
      generalize w2.alloc (.cells #[.int .i64 p, .int .i64 o, .int .i64 f, .int .i64 m, .int .i64 g, .string s] 25) = w4 at hv hq2 hu2 ⊢
      clear hq g0 g1 g2 g3 g4 g5 hgs cAt
      obtain ⟨g0, g1, g2, g3, g4, g5, hgs⟩ := row6 hq2
      obtain ⟨k0, k1, k2, k3, k4, k5, hks⟩ := row6 hv
      refine wp_region_plan [.val (.int .i64 (0)), .val (.bool false), .val (.bool false), .val (.agg #[.int .i64 p, .int .i64 o, .int .i64 f, .int .i64 m, .int .i64 g, .string s]), .val (.agg #[.int .i64 p, .int .i64 o, .int .i64 f, .int .i64 m, .int .i64 g, .string s]), .val (.bool false), .val (.bool false), .val (.bool false), .val (.int .i64 (k)), .val (.bool false), .val (.bool false), .idle, .idle, .idle, .idle, .idle, .idle, .idle, .idle, .idle, .idle, .val (.bool false), .val (.bool false)] (by kernel_rfl) (by kernel_rfl) (by kernel_rfl) ?_
      intro X
      iterate 11
        refine plan_val (by kernel_rfl) (fun u hu => ?_) ?_
        · obtain ⟨hc, hf, hz⟩ := hu.of_drew.facts
          go_simp
          all_goals first
            | (exact HK0.out)
        simp only [Act.put, List.setIfInBounds_toArray, List.set_cons_zero, List.set_cons_succ, Nat.reduceAdd]
      iterate 10
        refine plan_idle (by kernel_rfl) ?_
        simp only [Act.put, List.setIfInBounds_toArray, List.set_cons_zero, List.set_cons_succ, Nat.reduceAdd]
      iterate 2
        refine plan_val (by kernel_rfl) (fun u hu => ?_) ?_
        · obtain ⟨hc, hf, hz⟩ := hu.of_drew.facts
          go_simp
          all_goals first
            | (exact HK0.out)
        simp only [Act.put, List.setIfInBounds_toArray, List.set_cons_zero, List.set_cons_succ, Nat.reduceAdd]
      refine plan_end ?_
      intro w' hB
      have hk := hB.calm.of_drew
      clear hB
      go_wp2
      go_roundw
      case rel => exact ⟨k + 1, by omega, by go_num, hur.call (hu2.call hk)⟩
      case measure => simp [intOf]; omega
    · obtain ⟨jj, hjj⟩ : ∃ jj, k = jj + 1 := ⟨k - 1, by omega⟩
      have hjl : jj < L1.length := by omega
      obtain ⟨pp, po, pf, pm, pg, ps, HE0, hm0, e0, e1, e2, e3, e4, e5⟩ := (HS1.out.calm hur).get2 hjl
      have hcmp := HP.out jj _ _ HE0.out (by rw [← hjj]; exact HE.out)
      simp only at hcmp
      have cC := fun u => cmp_any pp po pf p o f u
      rw [hcmp] at cC
      have hwr : IntKind.i64.wrap ((k : Int) - 1) = (jj : Int) := by rw [IntKind.wrap_i64]; omega
      have hkz : (0 : Int) < (k : Int) := by omega
      have hjli : (jj : Int) < (L1.length : Int) := by omega
      have hbk : b < wr.heap.size := hb
      have HKP := Lib.hid h0
      clear HE0 hm0 hjj hcmp h0
      clear HA HP HR HG HC HE HX HY HZ hLk
      go_wp2_with (go_at_call 27; go_must (refine (cAt _ (hu9.alloc _)).mono ?_); rintro e w2 ⟨rfl, hb2⟩; replace hq := (hb2.block (row6 hq).2.2.2.2.2.2).trans hq; have hu2 := ((Calm.refl wr).alloc _).call hb2; clear hb2; obtain ⟨g0, g1, g2, g3, g4, g5, hgs⟩ := row6 hq)
      have hq2 := heap_past (.cells #[.int .i64 p, .int .i64 o, .int .i64 f, .int .i64 m, .int .i64 g, .string s] 25) hq
      have hv := heap_new w2 (.cells #[.int .i64 p, .int .i64 o, .int .i64 f, .int .i64 m, .int .i64 g, .string s] 25)
      replace hu2 := hu2.alloc (.cells #[.int .i64 p, .int .i64 o, .int .i64 f, .int .i64 m, .int .i64 g, .string s] 25)
      have hc2 := hu2.facts.1
      replace e0 := (hc2 _ _ hbk).trans e0
      replace e1 := (hc2 _ _ hbk).trans e1
      replace e2 := (hc2 _ _ hbk).trans e2
      have hbk4 := Nat.lt_of_lt_of_le hbk hu2.size
      clear hc2
      generalize hN2 : w2.heap.size = N2 at hv ⊢
      generalize hN1 : wr.heap.size = N1 at hq hq2 ⊢
      clear hN1 hN2
      generalize w2.alloc (.cells #[.int .i64 p, .int .i64 o, .int .i64 f, .int .i64 m, .int .i64 g, .string s] 25) = w4 at hv hq2 hu2 e0 e1 e2 hbk4 ⊢
      clear hq g0 g1 g2 g3 g4 g5 hgs cAt
      obtain ⟨g0, g1, g2, g3, g4, g5, hgs⟩ := row6 hq2
      obtain ⟨k0, k1, k2, k3, k4, k5, hks⟩ := row6 hv
      refine wp_region_plan [.val (.int .i64 (0)), .val (.bool false), .val (.bool false), .val (.agg #[.int .i64 p, .int .i64 o, .int .i64 f, .int .i64 m, .int .i64 g, .string s]), .val (.agg #[.int .i64 p, .int .i64 o, .int .i64 f, .int .i64 m, .int .i64 g, .string s]), .val (.bool false), .val (.bool false), .val (.bool false), .val (.int .i64 (k)), .val (.bool true), .val (.bool true), .val (.slice (some ⟨b, q, none⟩) L1.length d1), .val (.int .i64 (k)), .val (.int .i64 (jj)), .val (.pointer (some ⟨b, q + jj * 6, none⟩)), .val (.pointer (some ⟨b, q + jj * 6, none⟩)), .val (.agg #[.int .i64 pp, .int .i64 po, .int .i64 pf]), .val (.pointer (some ⟨N1, 0, none⟩)), .val (.agg #[.int .i64 p, .int .i64 o, .int .i64 f]), .val (.int .i64 (-1)), .val (.bool false), .val (.bool false), .val (.bool false)] (by kernel_rfl) (by kernel_rfl) (by kernel_rfl) ?_
      intro X
      iterate 23
        refine plan_val (by kernel_rfl) (fun u hu => ?_) ?_
        · obtain ⟨hc, hf, hz⟩ := hu.of_drew.facts
          go_simp
          all_goals first
            | ((go_at_call 28; exact cC _))
            | (exact HKP.out)
        simp only [Act.put, List.setIfInBounds_toArray, List.set_cons_zero, List.set_cons_succ, Nat.reduceAdd]
      refine plan_end ?_
      intro w' hB
      have hk := hB.calm.of_drew
      clear hB
      go_wp2
      go_roundw
      case rel => exact ⟨k + 1, by omega, by go_num, hur.call (hu2.call hk)⟩
      case measure => simp [intOf]; omega
end Go.Proofs.Ytmianlnpaiebhaa
