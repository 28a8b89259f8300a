/- Texts of one kind in one file. -/
import Derived.SizedLaws
import Derived.Test.YtnhlcpneflllgaaPkFileSays3
set_option maxRecDepth 100000
namespace Go.Proofs.Ytnhlcpneflllgaa
open Go.RowKit
set_option maxHeartbeats 4000000 in
theorem refObject_any (A : Option Addr) (d : Nat) (l : List El) (P O : Int) (w : World) (hn : l.length ≤ 9223372036854775807) (hL : Lies w A l) :
    Calls Try.prog 12 #[.slice A l.length d, .int .i64 P, .int .i64 O] w fun e w' => e = .returned (.int .i64 (objErr l P O)) ∧ Calm w w' := by
  have cR := refRun_any A d l w hn hL
  have cK := fun u => refKey_any P O 0 u
  unfold objErr kErr
  simp only
  by_cases hE : runErr l = 0
  rotate_left
  · rw [if_neg hE]
    have b1 : (runErr l != 0) = true := by simpa using hE
    generalize runErr l = E at *
    go_enter Try.func12, Try.ntmps12
    go_wp2_with (go_at_call 31; refine cR.mono ?_; rintro e w1 ⟨rfl, hb1⟩)
    go_ret
    exact ⟨rfl, hb1⟩
  rw [if_pos hE]
  rw [hE] at cR
  generalize keyErr P O 0 = E at *
  go_enter Try.func12, Try.ntmps12
  go_wp2_with (first
    | (go_at_call 31; refine cR.mono ?_; rintro e w1 ⟨rfl, hb1⟩)
    | (go_at_call 32; refine (cK _).mono ?_; rintro e w2 ⟨rfl, hb2⟩))
  go_ret
  exact ⟨rfl, hb1.call hb2⟩
set_option maxHeartbeats 4000000 in
theorem refText_any (A : Option Addr) (d : Nat) (l : List El) (P O t : Int) (w : World) (hG : Good l) (hL : Lies w A l) :
    Calls Try.prog 13 #[.slice A l.length d, .int .i64 P, .int .i64 O, .int .i64 t] w fun e w' => e = .returned (.string ⟨(txtL l P O t).toArray⟩) ∧ Calm w w' := by
  have cR := refRange_any A d l P O 1 P O 20 t w hG.1 hL
  rw [← txt_range hG]
  have hel : ∀ e ∈ rangeR l (P, O, 1) (P, O, 20) t, e.s.size ≤ 40 := fun e he => by
    have := (elemErr_zero.1 (hG.2.1 e (List.mem_filter.1 he).1)).2.2
    omega
  have hl4 : (rangeR l (P, O, 1) (P, O, 20) t).length ≤ 400 := Nat.le_trans (rangeR_le _ _ _ _) hG.1
  generalize rangeR l (P, O, 1) (P, O, 20) t = L at *
  have HEL := Lib.hid hel
  clear hel hG hL
  go_enter Try.func13, Try.ntmps13
  go_wp2_with (go_at_call 33; refine cR.mono ?_; rintro e w1 ⟨v, rfl, ⟨A1, c1, rfl, _, hl1⟩, hb1⟩)
  clear cR
  go_loopw [9, 22] (fun sv iv wr => ∃ (k : Nat) (T : ByteArray), k ≤ L.length ∧ sv = .string T ∧ iv = .int .i64 k ∧ Hid (T.data.toList = (L.take k).flatMap fun e => e.s.data.toList) ∧ T.size ≤ 40 * k ∧ Calm w1 wr) (fun _ iv _ => L.length - (intOf iv).toNat)
  case atStart => exact ⟨0, { data := #[] }, Nat.zero_le _, rfl, rfl, show _ = _ from rfl, by decide, Calm.refl _⟩
  case round =>
    obtain ⟨k, T, hk, rfl, rfl, HT, hT4, hu⟩ := hrel
    by_cases hlt : k < L.length
    rotate_left
    · have HT2 : Hid (T = ⟨(L.flatMap fun e => e.s.data.toList).toArray⟩) := show _ = _ from by
        have := HT.out
        rw [List.take_of_length_le (by omega)] at this
        (rw [← this]) <;> simp
      go_wp2_with fail
      go_ret
      exact ⟨by rw [← HT2.out]; rfl, hb1.call hu⟩
    obtain ⟨b, q, p, o, f, m, g, s, rfl, hb, HE, hm, c0, c1', c2, c3, c4, c5⟩ := (hl1.calm hu).get hlt
    have hs : s.size ≤ 40 := HEL.out _ (List.mem_of_getElem? HE.out)
    have HT2 : Hid ((T ++ s).data.toList = (L.take (k + 1)).flatMap fun e => e.s.data.toList) := show _ = _ from by
      rw [app_list, HT.out, take_snoc3 HE.out, List.flatMap_append, List.flatMap_singleton]
    have HS2 : Hid ((T ++ s).size ≤ 40 * (k + 1)) := show _ ≤ _ from by rw [app_size]; omega
    have q1 : ¬ 9223372036854775807 < T.size + s.size := by omega
    clear HE
    go_wp2_with fail
    go_roundw
    case rel => exact ⟨k + 1, T ++ s, by omega, rfl, by go_num, HT2, HS2.out, hu.alloc _⟩
    case measure => simp [intOf]; omega
set_option maxHeartbeats 8000000 in
theorem refSetText_any (A : Option Addr) (d : Nat) (l : List El) (P O : Int) (S : ByteArray) (t : Int) (w : World) (hn : l.length ≤ 9223372036854775807) (hL : Lies w A l) :
    Calls Try.prog 15 #[.slice A l.length d, .int .i64 P, .int .i64 O, .string S, .int .i64 t] w (SlEnd (setR l P O S.data.toList t) (setE l P O S.data.toList t) w) := by
  have cO := refObject_any A d l P O w hn hL
  have hSl : S.data.toList.length = S.size := by simp
  by_cases hE : objErr l P O = 0
  rotate_left
  · have e1 : setE l P O S.data.toList t = objErr l P O := by unfold setE; rw [if_neg hE]
    have e2 : setR l P O S.data.toList t = [] := by unfold setR; rw [e1, if_neg hE]
    rw [e1, e2]
    have b1 : (objErr l P O != 0) = true := by simpa using hE
    generalize objErr l P O = E at *
    clear e1 e2
    go_enter Try.func15, Try.ntmps15
    go_wp2_with (go_at_call 12; refine cO.mono ?_; rintro e w1 ⟨rfl, hb1⟩)
    go_ret2
    exact ⟨_, rfl, Sl.nil _ _ _, hb1⟩
  rw [hE] at cO
  obtain ⟨hG, hk⟩ := objErr_zero hE
  by_cases h320 : 320 < S.size
  · have e1 : setE l P O S.data.toList t = 2 := by unfold setE; rw [if_pos hE, if_pos (by omega)]
    have e2 : setR l P O S.data.toList t = [] := by unfold setR; rw [e1, if_neg (by decide)]
    rw [e1, e2]
    have hz : (320 : Int) < (S.size : Int) := by omega
    clear e1 e2 hSl
    go_enter Try.func15, Try.ntmps15
    go_wp2_with (go_at_call 12; refine cO.mono ?_; rintro e w1 ⟨rfl, hb1⟩)
    go_ret2
    exact ⟨_, rfl, Sl.nil _ _ _, hb1⟩
  have hz : ¬ (320 : Int) < (S.size : Int) := by omega
  have cT := fun u (hu : Calm w u) => refLatest_any A d l u hn (hL.calm hu)
  by_cases ht : 1 ≤ t ∧ t ≤ 2147483647 ∧ latest l ≤ t
  rotate_left
  · have e1 : setE l P O S.data.toList t = 9 := by unfold setE; rw [if_pos hE, if_neg (by omega), if_neg ht]
    have e2 : setR l P O S.data.toList t = [] := by unfold setR; rw [e1, if_neg (by decide)]
    rw [e1, e2]
    have hcs : t < 1 ∨ (¬ t < 1 ∧ 2147483647 < t) ∨ (¬ t < 1 ∧ ¬ 2147483647 < t ∧ t < latest l) := by omega
    generalize latest l = LT at *
    clear e1 e2 hSl ht hE hk hG h320
    rcases hcs with h1 | ⟨h0, h1⟩ | ⟨h0, h1, h2⟩
    all_goals
      go_enter Try.func15, Try.ntmps15
      go_wp2_with (first
        | (go_at_call 12; refine cO.mono ?_; rintro e w1 ⟨rfl, hb1⟩)
        | (go_at_call 40; refine (cT _ hb1).mono ?_; rintro e w2 ⟨rfl, hb2⟩; replace hb1 := hb1.call hb2))
      go_ret2
      exact ⟨_, rfl, Sl.nil _ _ _, hb1⟩
  have hSt := stS_steps S.data.toList hG hk ht.1 ht.2.1 ht.2.2
  have e1 : setE l P O S.data.toList t = (stS l P O S.data.toList t 20).1 := by unfold setE; rw [if_pos hE, if_neg (by omega), if_pos ht]
  have e2 : setR l P O S.data.toList t = if (stS l P O S.data.toList t 20).1 = 0 then (stS l P O S.data.toList t 20).2 else [] := by unfold setR; rw [e1]
  rw [e1, e2]
  have hF0 : stS l P O S.data.toList t 0 = (0, l) := rfl
  obtain ⟨old, hold⟩ : ∃ old : Nat → Option ByteArray, old = fun j => sV l (bkK P O j) 2147483647 := ⟨_, rfl⟩
  rw [← hold] at hSt
  have hfr : ∀ j : Nat, (frV S.data.toList j = none ∧ S.extract (min S.size (16 * j)) (min S.size (16 * j + 16)) = { data := #[] }) ∨ (frV S.data.toList j = some (S.extract (min S.size (16 * j)) (min S.size (16 * j + 16))) ∧ S.extract (min S.size (16 * j)) (min S.size (16 * j + 16)) ≠ { data := #[] }) := fun j => by
    unfold frV
    rw [hSl]
    by_cases hj : 16 * j < S.size
    · right
      rw [if_pos hj]
      have hl : (S.extract (min S.size (16 * j)) (min S.size (16 * j + 16))).data.toList = (S.data.toList.drop (16 * j)).take 16 := by
        have ha : min S.size (16 * j) = 16 * j := by omega
        rw [part_extract, part, ha]
        by_cases h16 : 16 * j + 16 ≤ S.size
        · have hb : min S.size (16 * j + 16) = 16 * j + 16 := by omega
          rw [hb, Nat.add_sub_cancel_left]
        · have hb : min S.size (16 * j + 16) = S.size := by omega
          rw [hb, List.take_of_length_le (by rw [List.length_drop, hSl]; omega), List.take_of_length_le (by rw [List.length_drop, hSl]; omega)]
      refine ⟨?_, fun h => ?_⟩
      · rw [← hl]; first | done | simp
      · have := congrArg ByteArray.size h
        rw [ByteArray.size_extract] at this
        have h0 : (({ data := #[] } : ByteArray)).size = 0 := rfl
        omega
    · left
      rw [if_neg hj]
      refine ⟨rfl, str_eq ?_⟩
      rw [part_extract, part, List.drop_eq_nil_of_le (by rw [hSl]; omega)]
      simp
  have HST := Lib.hid hSt
  have HF0 := Lib.hid hF0
  have HFR := Lib.hid hfr
  have ht1 := ht.1
  have ht2 := ht.2.1
  have htl : ¬ t < latest l := by omega
  have htm : -9223372036854775808 ≤ t := by omega
  clear e1 e2 hSl hE hk ht hSt hF0 hfr hold hG
  generalize (if (stS l P O S.data.toList t 20).1 = 0 then (stS l P O S.data.toList t 20).2 else []) = RES at *
  generalize (stS l P O S.data.toList t 20).1 = E at *
  generalize stS l P O S.data.toList t = F at *
  generalize frV S.data.toList = fr at *
  generalize latest l = LT at *
  go_enter Try.func15, Try.ntmps15
  go_wp2_with (first
    | (go_at_call 12; refine cO.mono ?_; rintro e w1 ⟨rfl, hb1⟩)
    | (go_at_call 40; refine (cT _ hb1).mono ?_; rintro e w2 ⟨rfl, hb2⟩; replace hb1 := hb1.call hb2; have HL1 := Lib.hid (hL.calm hb1); clear hb2))
  clear cO cT
  have HTL := Lib.hid htl
  clear htl
  go_loopw [0, 13] (fun mv iv wr => ∃ (j : Nat) (A' : Option Addr) (c' : Nat) (M : List El) (y : Int), mv = .slice A' M.length c' ∧ iv = .int .i64 y ∧ Hid (y = (j : Int) + 1) ∧ 1 ≤ y ∧ y ≤ 21 ∧ j ≤ 20 ∧ Calm w2 wr ∧ Hid (F j = (0, M)) ∧ Hid (Lies wr A' M)) (fun _ iv _ => 21 - (intOf iv).toNat)
  case atStart => exact ⟨0, A, d, l, 1, rfl, rfl, show (1 : Int) = _ from rfl, by omega, by omega, by omega, Calm.refl _, HF0, HL1⟩
  case round =>
    obtain ⟨j, A', c', M, y, rfl, rfl, HY, hy1, hy2, hj, hur, HF, HL⟩ := hrel
    have hMg : M.length ≤ 400 := (HST.out.good j M hj HF.out).1
    by_cases hlt9 : y ≤ 20
    rotate_left
    · obtain rfl : j = 20 := by have := HY.out; omega
      obtain ⟨rfl, rfl⟩ := HST.out.fin M HF.out
      go_wp2_with fail
      go_ret2
      exact ⟨_, rfl, ⟨A', c', rfl, by omega, HL.out⟩, hb1.call hur⟩
    have hlt : j < 20 := by have := HY.out; omega
    have q0 := HST.out.was j M hlt HF.out
    have HS1 := Lib.hid (HST.out.same j M hlt HF.out)
    have HS2 := Lib.hid (fun s => HST.out.put j M s hlt HF.out)
    have HS3 := Lib.hid (fun s => HST.out.cut j M s hlt HF.out)
    have hfj := HFR.out j
    rw [← HY.out] at q0
    simp only [← HY.out] at HS2 HS3
    have z1 : IntKind.i64.wrap (16 * y) = 16 * y := IntWalk.i64_in _ (by omega)
    have z2 : IntKind.i64.wrap (16 * y - 16) = 16 * y - 16 := IntWalk.i64_in _ (by omega)
    obtain ⟨a, ha⟩ : ∃ a : Nat, a = min S.size (16 * j) := ⟨_, rfl⟩
    obtain ⟨b, hb⟩ : ∃ b : Nat, b = min S.size (16 * j + 16) := ⟨_, rfl⟩
    rw [← ha, ← hb] at hfj
    have z3 : min (S.size : Int) (16 * y - 16) = (a : Int) := by have := HY.out; omega
    have z4 : min (S.size : Int) (16 * y) = (b : Int) := by have := HY.out; omega
    have z5 : (0 : Int) ≤ (a : Int) := by omega
    have z6 : (a : Int) ≤ (b : Int) := by omega
    have z7 : (b : Int) ≤ (S.size : Int) := by omega
    clear ha hb
    obtain ⟨W, hW⟩ : ∃ W, S.extract a b = W := ⟨_, rfl⟩
    rw [hW] at hfj
    have cA0 := fun u (hl : Lies u A' M) => refAt_any A' c' M P O y 2147483647 u (by omega) hl
    have cP := fun s u (hl : Lies u A' M) => refPut_any A' c' M P O y s t u (by omega) htm hl
    have cC := fun u (hl : Lies u A' M) => refCut_any A' c' M P O y t u (by omega) hl
    obtain ⟨⟨p, o, f, m, g, sv⟩, hx⟩ : ∃ x, (atR M (P, O, y) 2147483647).getD zeroEl = x := ⟨_, rfl⟩
    have hz1 : (atR M (P, O, y) 2147483647).isSome = (old j).isSome := by rw [← q0]; unfold sV; cases atR M (P, O, y) 2147483647 <;> rfl
    have hsv : sv = (old j).getD { data := #[] } := by
      rw [← q0]
      unfold sV
      have := congrArg El.s hx
      simp only at this
      rw [← this]
      cases atR M (P, O, y) 2147483647 <;> rfl
    rw [hx, hz1] at cA0
    unfold RefAtEnd El.val at cA0
    simp only at cA0
    clear q0 hx hz1
    have HU0 := Lib.hid hur
    have HLk := Lib.hid (HL.out.calm ((Calm.refl wr).alloc (.cells #[.int .i64 P, .int .i64 O, .int .i64 y] 33)))
    clear hur
    rcases hfj with ⟨hf, rfl⟩ | ⟨hf, hne⟩
    · cases hO : old j with
      | none =>
        rw [hO] at cA0 hsv HS1
        replace hsv : sv = { data := #[] } := hsv
        subst hsv
        replace cA0 : ∀ u, Lies u A' M → Calls Try.prog 41 #[.slice A' M.length c', .agg #[.int .i64 P, .int .i64 O, .int .i64 y], .int .i64 2147483647] u fun e w' => e = .returned (.tuple #[.agg #[.int .i64 p, .int .i64 o, .int .i64 f, .int .i64 m, .int .i64 g, .string { data := #[] }], .bool false]) ∧ Calm u w' := cA0
        have HF1 := Lib.hid (HS1.out hf.symm)
        clear HS1 HS2 HS3 cP cC hO hf
        go_wp2_with (first
          | (go_at_call 41; (with_reducible refine (cA0 _ HLk.out).mono ?_); rintro e w5 ⟨rfl, hb5⟩; have hk5 := heap_past (.cells #[.int .i64 p, .int .i64 o, .int .i64 f, .int .i64 m, .int .i64 g, .string { data := #[] }] 35) ((hb5.block (k := wr.heap.size) (by simp)).trans (heap_new wr (.cells #[.int .i64 P, .int .i64 O, .int .i64 y] 33))); have HL5 := Lib.hid ((HLk.out.calm hb5).calm ((Calm.refl _).alloc (.cells #[.int .i64 p, .int .i64 o, .int .i64 f, .int .i64 m, .int .i64 g, .string { data := #[] }] 35))); have hu5 := ((HU0.out.alloc (.cells #[.int .i64 P, .int .i64 O, .int .i64 y] 33)).call hb5).alloc (.cells #[.int .i64 p, .int .i64 o, .int .i64 f, .int .i64 m, .int .i64 g, .string { data := #[] }] 35); clear hb5; obtain ⟨k0, k1, k2, hks⟩ := row3 hk5; obtain ⟨e0, e1, e2, e3, e4, e5, hes⟩ := row6 (heap_new w5 (.cells #[.int .i64 p, .int .i64 o, .int .i64 f, .int .i64 m, .int .i64 g, .string { data := #[] }] 35)); clear hk5 cA0))
        go_roundw
        case rel => exact ⟨j + 1, A', c', M, y + 1, rfl, by go_num, show y + 1 = _ from (by have := HY.out; omega), by omega, by omega, by omega, hu5, HF1, HL5⟩
        case measure => simp [intOf]; omega
      | some x =>
        rw [hO] at cA0 hsv
        replace hsv : sv = x := hsv
        subst hsv
        replace cA0 : ∀ u, Lies u A' M → Calls Try.prog 41 #[.slice A' M.length c', .agg #[.int .i64 P, .int .i64 O, .int .i64 y], .int .i64 2147483647] u fun e w' => e = .returned (.tuple #[.agg #[.int .i64 p, .int .i64 o, .int .i64 f, .int .i64 m, .int .i64 g, .string sv], .bool true]) ∧ Calm u w' := cA0
        obtain ⟨hp, hF⟩ := HS3.out sv hO hf
        rw [hp, if_pos rfl] at cC
        have HF1 := Lib.hid hF
        clear HS1 HS2 HS3 cP hO hf hp hF
        generalize cutR M (P, O, y) t = M2 at *
        go_wp2_with (first
          | (go_at_call 41; (with_reducible refine (cA0 _ HLk.out).mono ?_); rintro e w5 ⟨rfl, hb5⟩; have hk5 := heap_past (.cells #[.int .i64 p, .int .i64 o, .int .i64 f, .int .i64 m, .int .i64 g, .string sv] 35) ((hb5.block (k := wr.heap.size) (by simp)).trans (heap_new wr (.cells #[.int .i64 P, .int .i64 O, .int .i64 y] 33))); have HL5 := Lib.hid ((HLk.out.calm hb5).calm ((Calm.refl _).alloc (.cells #[.int .i64 p, .int .i64 o, .int .i64 f, .int .i64 m, .int .i64 g, .string sv] 35))); have hu5 := ((HU0.out.alloc (.cells #[.int .i64 P, .int .i64 O, .int .i64 y] 33)).call hb5).alloc (.cells #[.int .i64 p, .int .i64 o, .int .i64 f, .int .i64 m, .int .i64 g, .string sv] 35); clear hb5; obtain ⟨k0, k1, k2, hks⟩ := row3 hk5; obtain ⟨e0, e1, e2, e3, e4, e5, hes⟩ := row6 (heap_new w5 (.cells #[.int .i64 p, .int .i64 o, .int .i64 f, .int .i64 m, .int .i64 g, .string sv] 35)); clear hk5 cA0)
          | (go_at_call 42; (with_reducible refine (cC _ HL5.out).mono ?_); rintro e w6 ⟨v, rfl, ⟨A2, c2, rfl, _, hl2⟩, hb6⟩; have HL6 := Lib.hid hl2; have hu6 := hu5.call hb6; clear hl2 hb6 cC))
        go_roundw
        case rel => exact ⟨j + 1, A2, c2, M2, y + 1, rfl, by go_num, show y + 1 = _ from (by have := HY.out; omega), by omega, by omega, by omega, hu6, HF1, HL6⟩
        case measure => simp [intOf]; omega
    have hem := emp_ne hne
    have hnl : (W.toList == ([] : List UInt8)) = false := by
      cases hT : W.toList with
      | nil => rw [hT] at hem; exact absurd hem (by decide)
      | cons a l => rfl
    by_cases hO : old j = some W
    · rw [hO] at cA0 hsv HS1
      replace hsv : sv = W := hsv
      subst hsv
      replace cA0 : ∀ u, Lies u A' M → Calls Try.prog 41 #[.slice A' M.length c', .agg #[.int .i64 P, .int .i64 O, .int .i64 y], .int .i64 2147483647] u fun e w' => e = .returned (.tuple #[.agg #[.int .i64 p, .int .i64 o, .int .i64 f, .int .i64 m, .int .i64 g, .string sv], .bool true]) ∧ Calm u w' := cA0
      have HF1 := Lib.hid (HS1.out hf.symm)
      clear HS1 HS2 HS3 cP cC hO hf hne
      go_wp2_with (first
        | (go_at_call 41; (with_reducible refine (cA0 _ HLk.out).mono ?_); rintro e w5 ⟨rfl, hb5⟩; have hk5 := heap_past (.cells #[.int .i64 p, .int .i64 o, .int .i64 f, .int .i64 m, .int .i64 g, .string sv] 35) ((hb5.block (k := wr.heap.size) (by simp)).trans (heap_new wr (.cells #[.int .i64 P, .int .i64 O, .int .i64 y] 33))); have HL5 := Lib.hid ((HLk.out.calm hb5).calm ((Calm.refl _).alloc (.cells #[.int .i64 p, .int .i64 o, .int .i64 f, .int .i64 m, .int .i64 g, .string sv] 35))); have hu5 := ((HU0.out.alloc (.cells #[.int .i64 P, .int .i64 O, .int .i64 y] 33)).call hb5).alloc (.cells #[.int .i64 p, .int .i64 o, .int .i64 f, .int .i64 m, .int .i64 g, .string sv] 35); clear hb5; obtain ⟨k0, k1, k2, hks⟩ := row3 hk5; obtain ⟨e0, e1, e2, e3, e4, e5, hes⟩ := row6 (heap_new w5 (.cells #[.int .i64 p, .int .i64 o, .int .i64 f, .int .i64 m, .int .i64 g, .string sv] 35)); clear hk5 cA0))
      go_roundw
      case rel => exact ⟨j + 1, A', c', M, y + 1, rfl, by go_num, show y + 1 = _ from (by have := HY.out; omega), by omega, by omega, by omega, hu5, HF1, HL5⟩
      case measure => simp [intOf]; omega
    have hP := HS2.out W (by rw [hf]; exact hO) hf
    have hcs : (∃ z, z = false ∧ (old j).isSome = z) ∨ (∃ z, z = true ∧ (old j).isSome = z ∧ (sv.toList == W.toList) = false) := by
      cases hQ : old j with
      | none => exact .inl ⟨false, rfl, rfl⟩
      | some x =>
        rw [hQ] at hsv hO
        exact .inr ⟨true, rfl, rfl, str_ne fun e => hO (by rw [← e, hsv]; rfl)⟩
    replace cP := cP W
    rcases hP with ⟨hp, hF⟩ | ⟨hp, rfl, rfl⟩
    · rw [hp, if_pos rfl] at cP
      have HF1 := Lib.hid hF
      clear hp hF HS1 HS2 HS3 cC hO hf hne hsv
      generalize putR M (P, O, y) W t = M2 at *
      rcases hcs with ⟨z, rfl, hz⟩ | ⟨z, rfl, hz, bne⟩
      all_goals
        rw [hz] at cA0
        clear hz
        go_wp2_with (first
          | (go_at_call 41; (with_reducible refine (cA0 _ HLk.out).mono ?_); rintro e w5 ⟨rfl, hb5⟩; have hk5 := heap_past (.cells #[.int .i64 p, .int .i64 o, .int .i64 f, .int .i64 m, .int .i64 g, .string sv] 35) ((hb5.block (k := wr.heap.size) (by simp)).trans (heap_new wr (.cells #[.int .i64 P, .int .i64 O, .int .i64 y] 33))); have HL5 := Lib.hid ((HLk.out.calm hb5).calm ((Calm.refl _).alloc (.cells #[.int .i64 p, .int .i64 o, .int .i64 f, .int .i64 m, .int .i64 g, .string sv] 35))); have hu5 := ((HU0.out.alloc (.cells #[.int .i64 P, .int .i64 O, .int .i64 y] 33)).call hb5).alloc (.cells #[.int .i64 p, .int .i64 o, .int .i64 f, .int .i64 m, .int .i64 g, .string sv] 35); clear hb5; obtain ⟨k0, k1, k2, hks⟩ := row3 hk5; obtain ⟨e0, e1, e2, e3, e4, e5, hes⟩ := row6 (heap_new w5 (.cells #[.int .i64 p, .int .i64 o, .int .i64 f, .int .i64 m, .int .i64 g, .string sv] 35)); clear hk5 cA0)
          | (go_at_call 43; (with_reducible refine (cP _ HL5.out).mono ?_); rintro e w6 ⟨v, rfl, ⟨A2, c2, rfl, _, hl2⟩, hb6⟩; have HL6 := Lib.hid hl2; have hu6 := hu5.call hb6; clear hl2 hb6 cP))
        go_roundw
        case rel => exact ⟨j + 1, A2, c2, M2, y + 1, rfl, by go_num, show y + 1 = _ from (by have := HY.out; omega), by omega, by omega, by omega, hu6, HF1, HL6⟩
        case measure => simp [intOf]; omega
    · rw [hp, if_neg (by decide)] at cP
      clear hp HS1 HS2 HS3 cC hO hf hne hsv
      rcases hcs with ⟨z, rfl, hz⟩ | ⟨z, rfl, hz, bne⟩
      all_goals
        rw [hz] at cA0
        clear hz
        go_wp2_with (first
          | (go_at_call 41; (with_reducible refine (cA0 _ HLk.out).mono ?_); rintro e w5 ⟨rfl, hb5⟩; have hk5 := heap_past (.cells #[.int .i64 p, .int .i64 o, .int .i64 f, .int .i64 m, .int .i64 g, .string sv] 35) ((hb5.block (k := wr.heap.size) (by simp)).trans (heap_new wr (.cells #[.int .i64 P, .int .i64 O, .int .i64 y] 33))); have HL5 := Lib.hid ((HLk.out.calm hb5).calm ((Calm.refl _).alloc (.cells #[.int .i64 p, .int .i64 o, .int .i64 f, .int .i64 m, .int .i64 g, .string sv] 35))); have hu5 := ((HU0.out.alloc (.cells #[.int .i64 P, .int .i64 O, .int .i64 y] 33)).call hb5).alloc (.cells #[.int .i64 p, .int .i64 o, .int .i64 f, .int .i64 m, .int .i64 g, .string sv] 35); clear hb5; obtain ⟨k0, k1, k2, hks⟩ := row3 hk5; obtain ⟨e0, e1, e2, e3, e4, e5, hes⟩ := row6 (heap_new w5 (.cells #[.int .i64 p, .int .i64 o, .int .i64 f, .int .i64 m, .int .i64 g, .string sv] 35)); clear hk5 cA0)
          | (go_at_call 43; (with_reducible refine (cP _ HL5.out).mono ?_); rintro e w6 ⟨v, rfl, ⟨A2, c2, rfl, _, hl2⟩, hb6⟩; have hu6 := hu5.call hb6; clear hl2 hb6 cP))
        go_ret2
        exact ⟨_, rfl, Sl.nil _ _ _, hb1.call hu6⟩
open Go.RowKit
set_option maxHeartbeats 8000000 in
theorem refPatchText_any (A : Option Addr) (d : Nat) (l : List El) (P O at' : Int) (S : ByteArray) (t : Int) (w : World) (hn : l.length ≤ 9223372036854775807) (hL : Lies w A l) (hS : S.size ≤ 140737488351232) :
    Calls Try.prog 17 #[.slice A l.length d, .int .i64 P, .int .i64 O, .int .i64 at', .string S, .int .i64 t] w (SlEnd (patR l P O at' S.data.toList t) (patE l P O at' S.data.toList t) w) := by
  have cO := refObject_any A d l P O w hn hL
  by_cases hE : objErr l P O = 0
  rotate_left
  · have e1 : patE l P O at' S.data.toList t = objErr l P O := by unfold patE; rw [if_neg hE]
    have e2 : patR l P O at' S.data.toList t = [] := by unfold patR; rw [e1, if_neg hE]
    rw [e1, e2]
    have b1 : (objErr l P O != 0) = true := by simpa using hE
    generalize objErr l P O = E at *
    clear e1 e2
    go_enter Try.func17, Try.ntmps17
    go_wp2_with (go_at_call 12; refine cO.mono ?_; rintro e w1 ⟨rfl, hb1⟩)
    go_ret2
    exact ⟨_, rfl, Sl.nil _ _ _, hb1⟩
  rw [hE] at cO
  obtain ⟨hG, hk⟩ := objErr_zero hE
  have hTl := txtL_len hG P O 2147483647
  have cT := fun u (hu : Calm w u) => refText_any A d l P O 2147483647 u hG (hL.calm hu)
  obtain ⟨T, hT⟩ : ∃ T : ByteArray, T = ⟨(txtL l P O 2147483647).toArray⟩ := ⟨_, rfl⟩
  have hT1 : txtL l P O 2147483647 = T.data.toList := by rw [hT, bytes_list]
  have hTs : T.size ≤ 800 := by rw [hT, bytes_size]; exact hTl
  rw [← hT] at cT
  unfold patR patE
  rw [if_pos hE, hT1, bytes_len]
  clear hT hT1 hTl
  by_cases ha : 0 ≤ at' ∧ at' ≤ (T.size : Int)
  rotate_left
  · rw [if_neg ha, if_neg (by decide)]
    have hcs : at' < 0 ∨ (¬ at' < 0 ∧ (T.size : Int) < at') := by omega
    rcases hcs with h1 | ⟨h0, h1⟩
    all_goals
      clear ha
      go_enter Try.func17, Try.ntmps17
      go_wp2_with (first
        | (go_at_call 12; refine cO.mono ?_; rintro e w1 ⟨rfl, hb1⟩)
        | (go_at_call 13; refine (cT _ hb1).mono ?_; rintro e w2 ⟨rfl, hb2⟩))
      go_ret2
      exact ⟨_, rfl, Sl.nil _ _ _, hb1.call hb2⟩
  rw [if_pos ha]
  obtain ⟨k, rfl⟩ : ∃ k : Nat, at' = k := ⟨at'.toNat, by omega⟩
  rw [Int.toNat_natCast]
  have hk0 : (0 : Int) ≤ (k : Int) := by omega
  have hk1 : (k : Int) ≤ (T.size : Int) := ha.2
  have hw1 : IntKind.i64.wrap ((k : Int) + (S.size : Int)) = (k : Int) + (S.size : Int) := IntWalk.i64_in _ (by omega)
  have q1 : ¬ 9223372036854775807 < k + S.size := by omega
  rw [setR_if]
  have hz1 : (T.extract 0 k).size = k := by rw [ByteArray.size_extract]; omega
  by_cases hr : k + S.size < T.size
  · obtain ⟨e, he⟩ : ∃ e : Nat, e = k + S.size := ⟨_, rfl⟩
    have hN : (((T.extract 0 k ++ S) ++ T.extract e T.size).data.toList) = patS T.data.toList k S.data.toList := by
      rw [app_list, app_list, ext_take, ext_rest]
      unfold patS
      rw [bytes_len, he]
    have cS := fun u (hu : Calm w u) => refSetText_any A d l P O ((T.extract 0 k ++ S) ++ T.extract e T.size) t u hn (hL.calm hu)
    rw [hN] at cS
    have hw2 : (k : Int) + (S.size : Int) = (e : Int) := by omega
    rw [hw2] at hw1
    have hr2 : (e : Int) < (T.size : Int) := by omega
    have he0 : (0 : Int) ≤ (e : Int) := by omega
    have q2 : ¬ 9223372036854775807 < k + S.size + (T.size - e) := by omega
    have hHR := setR_len l P O t (patS T.data.toList k S.data.toList)
    have HR := Lib.hid hHR
    generalize setR l P O (patS T.data.toList k S.data.toList) t = R at *
    generalize setE l P O (patS T.data.toList k S.data.toList) t = E at *
    clear hN hTs he ha hG hk hE hr hHR
    go_enter Try.func17, Try.ntmps17
    go_wp2_with (first
      | (go_at_call 12; refine cO.mono ?_; rintro e w1 ⟨rfl, hb1⟩)
      | (go_at_call 13; refine (cT _ hb1).mono ?_; rintro e w2 ⟨rfl, hb2⟩; replace hb1 := hb1.call hb2; clear hb2)
      | (go_at_call 15; refine (cS _ hb1).mono ?_; rintro e w3 ⟨v, rfl, ⟨A1, c1, rfl, _, h1⟩, hb3⟩))
    go_ret2
    exact ⟨_, rfl, ⟨A1, c1, rfl, HR.out, h1⟩, hb1.call hb3⟩
  · have hN : (((T.extract 0 k ++ S) ++ ({ data := #[] } : ByteArray)).data.toList) = patS T.data.toList k S.data.toList := by
      rw [app_list, app_list, ext_take]
      unfold patS
      rw [bytes_len, List.drop_eq_nil_of_le (by rw [bytes_len]; omega)]
    have cS := fun u (hu : Calm w u) => refSetText_any A d l P O ((T.extract 0 k ++ S) ++ ({ data := #[] } : ByteArray)) t u hn (hL.calm hu)
    rw [hN] at cS
    have hr2 : ¬ (k : Int) + (S.size : Int) < (T.size : Int) := by omega
    have hHR := setR_len l P O t (patS T.data.toList k S.data.toList)
    have HR := Lib.hid hHR
    generalize setR l P O (patS T.data.toList k S.data.toList) t = R at *
    generalize setE l P O (patS T.data.toList k S.data.toList) t = E at *
    clear hN hTs ha hG hk hE hr hHR
    go_enter Try.func17, Try.ntmps17
    go_wp2_with (first
      | (go_at_call 12; refine cO.mono ?_; rintro e w1 ⟨rfl, hb1⟩)
      | (go_at_call 13; refine (cT _ hb1).mono ?_; rintro e w2 ⟨rfl, hb2⟩; replace hb1 := hb1.call hb2; clear hb2)
      | (go_at_call 15; refine (cS _ hb1).mono ?_; rintro e w3 ⟨v, rfl, ⟨A1, c1, rfl, _, h1⟩, hb3⟩))
    go_ret2
    exact ⟨_, rfl, ⟨A1, c1, rfl, HR.out, h1⟩, hb1.call hb3⟩
open Go.RowKit
theorem patR_len (l : List El) (P O k t : Int) (S : List UInt8) : (patR l P O k S t).length ≤ 9223372036854775807 := by
 unfold patR
 split
 ·exact setR_len _ _ _ _ _
 ·simp
set_option maxHeartbeats 8000000 in
theorem fileSays_walk (A : Option Addr) (d : Nat) (l : List El) (P O at' : Int) (S : ByteArray) (t : Int) (w : World) (hn : l.length ≤ 9223372036854775807) (hL : Lies w A l) (hS : S.size ≤ 140737488351232) :
    Calls Try.prog 3 #[.slice A l.length d, .int .i64 P, .int .i64 O, .int .i64 at', .string S, .int .i64 t] w fun e w' => e = .returned (.bool true) ∧ Calm w w' := by
  have hu := Calm.refl w
  have cG := fun u (hu : Calm w u) => fileGet_any A d l P O t u hn (hL.calm hu)
  have cO := fun u (hu : Calm w u) => refObject_any A d l P O u hn (hL.calm hu)
  have cS := fun u (hu : Calm w u) => fileSet_any A d l P O S t u hn (hL.calm hu)
  have cR := fun u (hu : Calm w u) => refSetText_any A d l P O S t u hn (hL.calm hu)
  have cP := fun u (hu : Calm w u) => filePatch_any A d l P O at' S t u hn (hL.calm hu) hS
  have cQ := fun u (hu : Calm w u) => refPatchText_any A d l P O at' S t u hn (hL.calm hu) hS
  have h1 := setR_len l P O t S.data.toList
  have h2 := patR_len l P O at' t S.data.toList
  have cE1 := fun A1 A2 c1 c2 u (g1 : Lies u A1 (setR l P O S.data.toList t)) (g2 : Lies u A2 (setR l P O S.data.toList t)) => equal_self A1 A2 c1 c2 _ u h1 g1 g2
  have cE2 := fun A1 A2 c1 c2 u (g1 : Lies u A1 (patR l P O at' S.data.toList t)) (g2 : Lies u A2 (patR l P O at' S.data.toList t)) => equal_self A1 A2 c1 c2 _ u h2 g1 g2
  have hcs : (objErr l P O ≠ 0 ∧ getTxt l P O t = { data := #[] }) ∨ (objErr l P O = 0 ∧ ∀ u, Calm w u → Calls Try.prog 13 #[.slice A l.length d, .int .i64 P, .int .i64 O, .int .i64 t] u fun e w' => e = .returned (.string (getTxt l P O t)) ∧ Calm u w') := by
    unfold getTxt
    by_cases hE : objErr l P O = 0
    · right
      refine ⟨hE, fun u hu => ?_⟩
      rw [if_pos hE]
      exact refText_any A d l P O t u (objErr_zero hE).1 (hL.calm hu)
    · left
      exact ⟨hE, if_neg hE⟩
  clear h1 h2
  generalize getTxt l P O t = V at *
  generalize setR l P O S.data.toList t = R1 at *
  generalize setE l P O S.data.toList t = E1 at *
  generalize patR l P O at' S.data.toList t = R2 at *
  generalize patE l P O at' S.data.toList t = E2 at *
  rcases hcs with ⟨hE, rfl⟩ | ⟨hE, cT⟩
  · have b1 : (objErr l P O != 0) = true := by simpa using hE
    have b2 : (objErr l P O == 0) = false := by simpa using hE
    generalize objErr l P O = E at *
    clear hE
    go_enter Try.func3, Try.ntmps3
    go_wp2_with (first
      | (go_at_call 11; (with_reducible refine (cG _ hu).mono ?_); rintro e w1 ⟨rfl, hb1⟩; replace hu := hu.call hb1; clear hb1 cG)
      | (go_at_call 12; (with_reducible refine (cO _ hu).mono ?_); rintro e w2 ⟨rfl, hb2⟩; replace hu := hu.call hb2; clear hb2 cO)
      | (go_at_call 14; (with_reducible refine (cS _ hu).mono ?_); rintro e w3 ⟨v3, rfl, ⟨A3, c3, rfl, _, h3⟩, hb3⟩; have H3 := Lib.hid h3; replace hu := hu.call hb3; clear hb3 h3 cS)
      | (go_at_call 15; (with_reducible refine (cR _ hu).mono ?_); rintro e w4 ⟨v4, rfl, ⟨A4, c4, rfl, _, h4⟩, hb4⟩; have H4 := Lib.hid h4; replace H3 := Lib.hid (H3.out.calm hb4); replace hu := hu.call hb4; clear hb4 h4 cR)
      | (go_at_call 16; (with_reducible refine (cP _ hu).mono ?_); rintro e w5 ⟨v5, rfl, ⟨A5, c5, rfl, _, h5⟩, hb5⟩; have H5 := Lib.hid h5; replace H3 := Lib.hid (H3.out.calm hb5); replace H4 := Lib.hid (H4.out.calm hb5); replace hu := hu.call hb5; clear hb5 h5 cP)
      | (go_at_call 17; (with_reducible refine (cQ _ hu).mono ?_); rintro e w6 ⟨v6, rfl, ⟨A6, c6, rfl, _, h6⟩, hb6⟩; have H6 := Lib.hid h6; replace H3 := Lib.hid (H3.out.calm hb6); replace H4 := Lib.hid (H4.out.calm hb6); replace H5 := Lib.hid (H5.out.calm hb6); replace hu := hu.call hb6; clear hb6 h6 cQ)
      | (go_at_call 18; (with_reducible refine (cE1 _ _ _ _ _ H3.out H4.out).mono ?_); rintro e w7 ⟨rfl, hb7⟩; replace H5 := Lib.hid (H5.out.calm hb7); replace H6 := Lib.hid (H6.out.calm hb7); replace hu := hu.call hb7; clear hb7 cE1)
      | (go_at_call 18; (with_reducible refine (cE2 _ _ _ _ _ H5.out H6.out).mono ?_); rintro e w8 ⟨rfl, hb8⟩; replace hu := hu.call hb8; clear hb8 cE2))
    go_ret
    exact ⟨rfl, hu⟩
  · rw [hE] at cG cO
    clear hE
    go_enter Try.func3, Try.ntmps3
    go_wp2_with (first
      | (go_at_call 13; (with_reducible refine (cT _ hu).mono ?_); rintro e w9 ⟨rfl, hb9⟩; replace hu := hu.call hb9; clear hb9 cT)
      | (go_at_call 11; (with_reducible refine (cG _ hu).mono ?_); rintro e w1 ⟨rfl, hb1⟩; replace hu := hu.call hb1; clear hb1 cG)
      | (go_at_call 12; (with_reducible refine (cO _ hu).mono ?_); rintro e w2 ⟨rfl, hb2⟩; replace hu := hu.call hb2; clear hb2 cO)
      | (go_at_call 14; (with_reducible refine (cS _ hu).mono ?_); rintro e w3 ⟨v3, rfl, ⟨A3, c3, rfl, _, h3⟩, hb3⟩; have H3 := Lib.hid h3; replace hu := hu.call hb3; clear hb3 h3 cS)
      | (go_at_call 15; (with_reducible refine (cR _ hu).mono ?_); rintro e w4 ⟨v4, rfl, ⟨A4, c4, rfl, _, h4⟩, hb4⟩; have H4 := Lib.hid h4; replace H3 := Lib.hid (H3.out.calm hb4); replace hu := hu.call hb4; clear hb4 h4 cR)
      | (go_at_call 16; (with_reducible refine (cP _ hu).mono ?_); rintro e w5 ⟨v5, rfl, ⟨A5, c5, rfl, _, h5⟩, hb5⟩; have H5 := Lib.hid h5; replace H3 := Lib.hid (H3.out.calm hb5); replace H4 := Lib.hid (H4.out.calm hb5); replace hu := hu.call hb5; clear hb5 h5 cP)
      | (go_at_call 17; (with_reducible refine (cQ _ hu).mono ?_); rintro e w6 ⟨v6, rfl, ⟨A6, c6, rfl, _, h6⟩, hb6⟩; have H6 := Lib.hid h6; replace H3 := Lib.hid (H3.out.calm hb6); replace H4 := Lib.hid (H4.out.calm hb6); replace H5 := Lib.hid (H5.out.calm hb6); replace hu := hu.call hb6; clear hb6 h6 cQ)
      | (go_at_call 18; (with_reducible refine (cE1 _ _ _ _ _ H3.out H4.out).mono ?_); rintro e w7 ⟨rfl, hb7⟩; replace H5 := Lib.hid (H5.out.calm hb7); replace H6 := Lib.hid (H6.out.calm hb7); replace hu := hu.call hb7; clear hb7 cE1)
      | (go_at_call 18; (with_reducible refine (cE2 _ _ _ _ _ H5.out H6.out).mono ?_); rintro e w8 ⟨rfl, hb8⟩; replace hu := hu.call hb8; clear hb8 cE2))
    go_ret
    exact ⟨rfl, hu⟩
open Go.ChangeShapes Go.WideShapes Go.ChangeAt Go.RowKit
theorem bytesElem : Try.prog.bytesOf 35 = 56 := by kernel_rfl
theorem sized_elems {H : Type} {enc : TypeId × Value → H} {w : World} {base : Nat} {spare : Nat → Bool} {held : Bool} {ts : List TypeId} {ds : List (DataW H)} {d : DataW H} {ps : List MemPlace} {A : Option Addr} {n c : Nat} {j : Nat}
    (hsz : (DataW.weightsEach Try.prog ts ds).all (· ≤ reachBytes) = true) (ht : ts[j]? = some 22) (hd : ds[j]? = some d) (h : DataW.Trod enc Try.prog w base spare held 22 (.slice A n c) d ps) : n * 56 ≤ 140737488351232 := by
  obtain ⟨fuel, hf⟩ := h
  rcases Go.Deep.open_slice Try.underlying22 hf with ⟨h0, _⟩ | ⟨a, len', cap', m, k, D, Pl, hcs, _, hl, hm, hmm, hx, hi⟩
  · have h0' : Value.slice A n c = .slice none 0 0 := by simpa [Value.cells] using h0
    injection h0' with h1 h2 h3
    omega
  · have h0' : Value.slice A n c = .slice (some a) len' cap' := by simpa [Value.cells] using hcs
    injection h0' with h1 h2 h3
    simp only [Prod.mk.injEq] at hx
    rw [hx.1] at hd
    have := sized_slice hsz ht hd Try.underlying22
    rw [bytesElem] at this
    simp only [List.length_map, List.length_range, reachBytes] at this
    omega
theorem elems_cap {H : Type} {enc : TypeId × Value → H} {w : World} {base : Nat} {spare : Nat → Bool} {held : Bool} {d : DataW H} {ps : List MemPlace} {A : Option Addr} {n c : Nat} (h : DataW.Trod enc Try.prog w base spare held 22 (.slice A n c) d ps) : n ≤ c := by
 obtain ⟨fuel, hf⟩ := h
 rcases Go.Deep.open_slice Try.underlying22 hf with ⟨h0, _⟩ | ⟨a, len', cap', m, k, D, Pl, hcs, _, hl, hm, hmm, hx, hi⟩
 ·have h0' : Value.slice A n c = .slice none 0 0 := by simpa [Value.cells] using h0
  injection h0' with h1 h2 h3
  omega
 ·have h0' : Value.slice A n c = .slice (some a) len' cap' := by simpa [Value.cells] using hcs
  injection h0' with h1 h2 h3
  omega
end Go.Proofs.Ytnhlcpneflllgaa
