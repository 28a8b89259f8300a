/- RunPieces: the law's own walk. -/
import Derived.Test.YtmianlnpaiebhaaDelFunc2
import Derived.Test.YtmianlnpaiebhaaBytes
import Derived.Test.YtmianlnpaiebhaaRead
namespace Go.Proofs.Ytmianlnpaiebhaa
open Go.ChangeShapes Go.WideShapes Go.ChangeAt Go.RowKit

theorem pieces_lies {w : World} {g : Nat} {p o f m gg p' o' f' m' gg' : Int} {s s' : ByteArray} (h : w.heap[g]? = some (.cells #[.int .i64 p, .int .i64 o, .int .i64 f, .int .i64 m, .int .i64 gg, .string s, .int .i64 p', .int .i64 o', .int .i64 f', .int .i64 m', .int .i64 gg', .string s'] 25 (0, 0))) (hm : 0 ≤ m) (hm' : 0 ≤ m') :
    Lies w (some ⟨g, 0, none⟩) [⟨p, o, f, m, gg, s⟩, ⟨p', o', f', m', gg', s'⟩] := by
  have c := fun j => cell_of_row _ g j _ _ _ h
  refine ⟨fun e he => ?_, fun _ => ⟨g, 0, rfl, (Array.getElem?_eq_some_iff.1 h).1, fun k e he => ?_⟩⟩
  · simp at he; rcases he with rfl | rfl <;> unfold El.wf <;> simp only <;> omega
  · match k, he with
    | 0, he => simp at he; subst he; exact ⟨c 0, c 1, c 2, c 3, c 4, c 5⟩
    | 1, he => simp at he; subst he; exact ⟨c 6, c 7, c 8, c 9, c 10, c 11⟩
    | k + 2, he => simp at he
set_option maxHeartbeats 2000000 in
theorem at1p_any (n : Int) (s : ByteArray) (w : World) : Calls Try.prog 26 #[.int .i64 n, .string s] w fun e w' => e = .returned (.agg #[.int .i64 0, .int .i64 0, .int .i64 n, .int .i64 1, .int .i64 0, .string s]) ∧ Calm w w' := by
  go_enter Try.func26, Try.ntmps26
  go_wp2_with fail
  go_returns
  exact ⟨rfl, by repeat (first | (with_reducible exact Calm.refl _) | (with_reducible refine Calm.alloc ?_ _) | (with_reducible refine Calm.drew ?_) | (with_reducible refine Calm.drewN ?_ _) | (refine Calm.call ?_ (by with_reducible assumption)))⟩
theorem check_lit2 (u : World) (g : Nat) (h : u.heap[g]? = some (.cells #[.int .i64 0, .int .i64 0, .int .i64 1, .int .i64 1, .int .i64 0, .string { data := #[97] }, .int .i64 0, .int .i64 0, .int .i64 1, .int .i64 1, .int .i64 0, .string { data := #[98] }] 25 (0, 0))) : Calls Try.prog 34 #[.slice (some ⟨g, 0, none⟩) 2 2] u fun e w' => e = .returned (.int .i64 3) ∧ Calm u w' :=
  (runCheck_any (some ⟨g, 0, none⟩) 2 [⟨0, 0, 1, 1, 0, { data := #[97] }⟩, ⟨0, 0, 1, 1, 0, { data := #[98] }⟩] u (by simp) (pieces_lies h (by omega) (by omega))).mono fun e w' ⟨h1, h2⟩ => ⟨h1.trans (ret_int (by decide +kernel)), h2⟩
theorem check_nil (u : World) : Calls Try.prog 34 #[.slice none 0 0] u fun e w' => e = .returned (.int .i64 0) ∧ Calm u w' :=
  (runCheck_any none 0 [] u (by simp) ⟨by simp, fun h => absurd h (by simp)⟩).mono fun e w' ⟨h1, h2⟩ => ⟨h1.trans (ret_int (by decide +kernel)), h2⟩
/-- A part of a slice. -/
theorem lies_part {w : World} {A : Option Addr} {l : List El} (h : Lies w A l) (x n : Nat) (hn : x + n ≤ l.length) {A' : Option Addr} (hA : n = 0 ∨ ∃ b q, A = some ⟨b, q, none⟩ ∧ A' = some ⟨b, q + x * 6, none⟩) : Lies w A' ((l.drop x).take n) := by
  have hlen : ((l.drop x).take n).length = n := by rw [List.length_take, List.length_drop]; omega
  refine ⟨fun e he => h.1 e (List.drop_subset _ _ (List.take_subset _ _ he)), fun hpos => ?_⟩
  rw [hlen] at hpos
  rcases hA with h0 | ⟨b, q, rfl, rfl⟩
  · omega
  · obtain ⟨b', q', hA, hlt, hk⟩ := h.2 (by omega)
    injection hA with hA
    injection hA with h1 h2
    subst h1; subst h2
    refine ⟨b, q + x * 6, rfl, hlt, fun k e he => ?_⟩
    have hkn : k < n := by have := (List.getElem?_eq_some_iff.1 he).1; omega
    rw [List.getElem?_take_of_lt hkn, List.getElem?_drop] at he
    have := hk (x + k) e he
    rwa [show q + x * 6 + k * 6 = q + (x + k) * 6 from by omega]

set_option maxRecDepth 100000 in
set_option maxHeartbeats 16000000 in
theorem runPieces_walk (A : Option Addr) (d : Nat) (l : List El) (i j : Int) (p' o' f' : Int) (w : World) (hn : l.length ≤ 9223372036854775807) (hd : l.length ≤ d) (hL : Lies w A l) :
    Calls Try.prog 11 #[.slice A l.length d, .int .i64 i, .int .i64 j, .agg #[.int .i64 p', .int .i64 o', .int .i64 f']] w fun e w' => e = .returned (.bool true) ∧ Calm w w' := by
  have hx := heap_new w (.cells #[.int .i64 p', .int .i64 o', .int .i64 f'] 23)
  have hu := (Calm.refl w).alloc (.cells #[.int .i64 p', .int .i64 o', .int .i64 f'] 23)
  have cC : ∀ u, Calm w u → Calls Try.prog 34 #[.slice A l.length d] u fun e w' => e = .returned (.int .i64 (runErr l)) ∧ Calm u w' := fun u hu => runCheck_any A d l u hn (hL.calm hu)
  by_cases he : runErr l = 0
  rotate_left
  · have b1 : (runErr l != 0) = true := by simpa using he
    generalize runErr l = E at cC b1
    clear he hL
    go_enter Try.func11, Try.ntmps11
    go_wp2_with (first
      | (go_at_call 26; (with_reducible refine (at1p_any _ _ _).mono ?_); rintro e w1 ⟨rfl, hb1⟩; replace hx := (hb1.block (row3 hx).2.2.2).trans hx; replace hu := hu.call hb1; clear hb1; obtain ⟨x0, x1, x2, hxs⟩ := row3 hx)
      | (go_at_call 34; (with_reducible refine (check_lit2 _ _ (heap_new _ _)).mono ?_); rintro e w1 ⟨rfl, hb1⟩; replace hx := (hb1.block (row3 (heap_past _ hx)).2.2.2).trans (heap_past _ hx); replace hu := (hu.alloc _).call hb1; clear hb1; obtain ⟨x0, x1, x2, hxs⟩ := row3 hx)
      | (go_at_call 34; (with_reducible refine (check_nil _).mono ?_); rintro e w1 ⟨rfl, hb1⟩; replace hx := (hb1.block (row3 hx).2.2.2).trans hx; replace hu := hu.call hb1; clear hb1; obtain ⟨x0, x1, x2, hxs⟩ := row3 hx)
      | (go_at_call 34; (with_reducible refine (cC _ hu).mono ?_); rintro e w1 ⟨rfl, hb1⟩; replace hx := (hb1.block (row3 hx).2.2.2).trans hx; replace hu := hu.call hb1; clear hb1; obtain ⟨x0, x1, x2, hxs⟩ := row3 hx))
    go_ret
    exact ⟨rfl, hu⟩
  have hG := runErr_zero.1 he
  have hl4 := hG.1
  have hwf := hG.wf
  have hGd := good_sub hG (delR_sub l (p', o', f'))
  have hwf2 := hGd.wf
  have cL : ∀ u, Calm w u → Calls Try.prog 33 #[.slice A l.length d] u fun e w' => e = .returned (.tuple #[.int .i64 (latest l), .int .i64 0]) ∧ Calm u w' := fun u hu => by
    have := runLast_any A d l u hn (hL.calm hu)
    rw [he, if_pos rfl] at this
    exact this
  have cCl : ∀ u, Calm w u → Calls Try.prog 36 #[.slice A l.length d] u fun e w' => ∃ v, e = .returned v ∧ OwnR u.heap.size w' v l ∧ Calm u w' := fun u hu => clone_any A d l u hl4 (hL.calm hu)
  have cD : ∀ A2 c2 u, Lies u A2 (delR l (p', o', f')) → Calls Try.prog 34 #[.slice A2 (delR l (p', o', f')).length c2] u fun e w' => e = .returned (.int .i64 0) ∧ Calm u w' := fun A2 c2 u h => by
    have := runCheck_any A2 c2 (delR l (p', o', f')) u (by have := delR_len l (p', o', f'); omega) h
    rw [runErr_zero.2 hGd] at this
    exact this
  obtain ⟨x, hxl, hWi⟩ := within_any i (l.length + 1) (by omega) (by omega)
  obtain ⟨y, hyl, hWj⟩ := within_any j (l.length + 1) (by omega) (by omega)
  rw [show ((l.length + 1 : Nat) : Int) = (l.length : Int) + 1 from by omega] at hWi hWj
  have cPart : ∀ lo n, lo + n ≤ l.length → ∃ T : Int, T ≤ latest l ∧ ∀ A' c' u, (n = 0 ∨ A' = Option.map (fun a => a.add (lo * 6)) A) → Calm w u → Calls Try.prog 33 #[.slice A' n c'] u fun e w' => e = .returned (.tuple #[.int .i64 T, .int .i64 0]) ∧ Calm u w' := fun lo n hn' => by
    have hs : ((l.drop lo).take n).Sublist l := (List.take_sublist _ _).trans (List.drop_sublist _ _)
    have hlen : ((l.drop lo).take n).length = n := by rw [List.length_take, List.length_drop]; omega
    refine ⟨_, latest_sub hs, fun A' c' u hA hu => ?_⟩
    have := runLast_any A' c' _ u (by rw [hlen]; omega) (lies_part (hL.calm hu) lo n hn' (by
      rcases hA with h | h
      · exact .inl h
      · rcases Nat.eq_zero_or_pos n with h0 | h0
        · exact .inl h0
        · obtain ⟨b, q, rfl, _⟩ := hL.2 (by omega)
          refine .inr ⟨b, q, rfl, ?_⟩
          rw [h]
          show some ((⟨b, q, none⟩ : Addr).add (lo * 6)) = _
          congr 1
          unfold Addr.add
          split <;> simp_all))
    rw [runErr_zero.2 (good_sub hG hs), if_pos rfl, hlen] at this
    exact this
  have cDF := fun base v w0 w1 ho h0 hC hB => deleteFunc_any base w.heap.size v l p' o' f' w0 w1 hl4 hwf ho h0 hC hB
  rw [he] at cC
  generalize delR l (p', o', f') = D at cD hwf2 cDF
  clear he hG hGd
  have hdi : (l.length : Int) ≤ (d : Int) := by omega
  rcases (show x < y ∨ y < x ∨ x = y from by omega) with hxy | hxy | hxy
  · obtain ⟨T, hT, cP⟩ := cPart x (y - x) (by omega)
    generalize latest l = la at hT cL
    have cP1 := fun u hu => cP _ (d - x) u (.inr rfl) hu
    have i1 : (x : Int) < (y : Int) := by omega
    have i2 : (y : Int) ≤ (d : Int) := by omega
    have i3 : ¬ d = x := by omega
    have i4 : x ≤ y := by omega
    clear cPart cP
    go_enter Try.func11, Try.ntmps11
    go_wp2_with (first
      | (go_at_call 26; (with_reducible refine (at1p_any _ _ _).mono ?_); rintro e w1 ⟨rfl, hb1⟩; replace hx := (hb1.block (row3 hx).2.2.2).trans hx; replace hu := hu.call hb1; clear hb1; obtain ⟨x0, x1, x2, hxs⟩ := row3 hx)
      | (go_at_call 34; (with_reducible refine (check_lit2 _ _ (heap_new _ _)).mono ?_); rintro e w1 ⟨rfl, hb1⟩; replace hx := (hb1.block (row3 (heap_past _ hx)).2.2.2).trans (heap_past _ hx); replace hu := (hu.alloc _).call hb1; clear hb1; obtain ⟨x0, x1, x2, hxs⟩ := row3 hx)
      | (go_at_call 34; (with_reducible refine (check_nil _).mono ?_); rintro e w1 ⟨rfl, hb1⟩; replace hx := (hb1.block (row3 hx).2.2.2).trans hx; replace hu := hu.call hb1; clear hb1; obtain ⟨x0, x1, x2, hxs⟩ := row3 hx)
      | (go_at_call 34; (with_reducible refine (cC _ hu).mono ?_); rintro e w1 ⟨rfl, hb1⟩; replace hx := (hb1.block (row3 hx).2.2.2).trans hx; replace hu := hu.call hb1; clear hb1; obtain ⟨x0, x1, x2, hxs⟩ := row3 hx)
      | (go_at_call 32; (with_reducible refine (hWi _).mono ?_); rintro e w1 ⟨rfl, rfl⟩)
      | (go_at_call 32; (with_reducible refine (hWj _).mono ?_); rintro e w1 ⟨rfl, rfl⟩)
      | (go_at_call 36; (with_reducible refine (cCl _ hu).mono ?_); rintro e w2 ⟨v, rfl, hov, hb0⟩; have HOV := Lib.hid hov; clear hov)
      | (go_at_call 35; go_must (refine (cDF _ _ _ _ HOV.out (Nat.le_refl _) hb0 hx).mono ?_); rintro e w3 ⟨v2, rfl, ho2, hb1⟩; obtain ⟨A2, c2, rfl, -, -, hL2⟩ := ho2.lies hwf2; clear ho2; replace hx := (hb1.block (row3 hx).2.2.2).trans hx; replace hu := hu.call hb1; clear hb1; obtain ⟨x0, x1, x2, hxs⟩ := row3 hx)
      | (go_at_call 33; (with_reducible refine (cL _ hu).mono ?_); rintro e w1 ⟨rfl, hb1⟩; replace hL2 := hL2.calm hb1; replace hx := (hb1.block (row3 hx).2.2.2).trans hx; replace hu := hu.call hb1; clear hb1; obtain ⟨x0, x1, x2, hxs⟩ := row3 hx)
      | (go_at_call 33; (with_reducible refine (cP1 _ hu).mono ?_); rintro e w1 ⟨rfl, hb1⟩; replace hL2 := hL2.calm hb1; replace hx := (hb1.block (row3 hx).2.2.2).trans hx; replace hu := hu.call hb1; clear hb1; obtain ⟨x0, x1, x2, hxs⟩ := row3 hx)
      | (go_at_call 34; (with_reducible refine (cD _ _ _ hL2).mono ?_); rintro e w1 ⟨rfl, hb1⟩; replace hx := (hb1.block (row3 hx).2.2.2).trans hx; replace hu := hu.call hb1; clear hb1; obtain ⟨x0, x1, x2, hxs⟩ := row3 hx))
    go_ret
    exact ⟨rfl, hu⟩
  · obtain ⟨T, hT, cP⟩ := cPart y (x - y) (by omega)
    generalize latest l = la at hT cL
    have cP1 := fun u hu => cP _ (d - y) u (.inr rfl) hu
    have i1 : (y : Int) < (x : Int) := by omega
    have i2 : (x : Int) ≤ (d : Int) := by omega
    have i3 : ¬ d = y := by omega
    have i4 : y ≤ x := by omega
    clear cPart cP
    go_enter Try.func11, Try.ntmps11
    go_wp2_with (first
      | (go_at_call 26; (with_reducible refine (at1p_any _ _ _).mono ?_); rintro e w1 ⟨rfl, hb1⟩; replace hx := (hb1.block (row3 hx).2.2.2).trans hx; replace hu := hu.call hb1; clear hb1; obtain ⟨x0, x1, x2, hxs⟩ := row3 hx)
      | (go_at_call 34; (with_reducible refine (check_lit2 _ _ (heap_new _ _)).mono ?_); rintro e w1 ⟨rfl, hb1⟩; replace hx := (hb1.block (row3 (heap_past _ hx)).2.2.2).trans (heap_past _ hx); replace hu := (hu.alloc _).call hb1; clear hb1; obtain ⟨x0, x1, x2, hxs⟩ := row3 hx)
      | (go_at_call 34; (with_reducible refine (check_nil _).mono ?_); rintro e w1 ⟨rfl, hb1⟩; replace hx := (hb1.block (row3 hx).2.2.2).trans hx; replace hu := hu.call hb1; clear hb1; obtain ⟨x0, x1, x2, hxs⟩ := row3 hx)
      | (go_at_call 34; (with_reducible refine (cC _ hu).mono ?_); rintro e w1 ⟨rfl, hb1⟩; replace hx := (hb1.block (row3 hx).2.2.2).trans hx; replace hu := hu.call hb1; clear hb1; obtain ⟨x0, x1, x2, hxs⟩ := row3 hx)
      | (go_at_call 32; (with_reducible refine (hWi _).mono ?_); rintro e w1 ⟨rfl, rfl⟩)
      | (go_at_call 32; (with_reducible refine (hWj _).mono ?_); rintro e w1 ⟨rfl, rfl⟩)
      | (go_at_call 36; (with_reducible refine (cCl _ hu).mono ?_); rintro e w2 ⟨v, rfl, hov, hb0⟩; have HOV := Lib.hid hov; clear hov)
      | (go_at_call 35; go_must (refine (cDF _ _ _ _ HOV.out (Nat.le_refl _) hb0 hx).mono ?_); rintro e w3 ⟨v2, rfl, ho2, hb1⟩; obtain ⟨A2, c2, rfl, -, -, hL2⟩ := ho2.lies hwf2; clear ho2; replace hx := (hb1.block (row3 hx).2.2.2).trans hx; replace hu := hu.call hb1; clear hb1; obtain ⟨x0, x1, x2, hxs⟩ := row3 hx)
      | (go_at_call 33; (with_reducible refine (cL _ hu).mono ?_); rintro e w1 ⟨rfl, hb1⟩; replace hL2 := hL2.calm hb1; replace hx := (hb1.block (row3 hx).2.2.2).trans hx; replace hu := hu.call hb1; clear hb1; obtain ⟨x0, x1, x2, hxs⟩ := row3 hx)
      | (go_at_call 33; (with_reducible refine (cP1 _ hu).mono ?_); rintro e w1 ⟨rfl, hb1⟩; replace hL2 := hL2.calm hb1; replace hx := (hb1.block (row3 hx).2.2.2).trans hx; replace hu := hu.call hb1; clear hb1; obtain ⟨x0, x1, x2, hxs⟩ := row3 hx)
      | (go_at_call 34; (with_reducible refine (cD _ _ _ hL2).mono ?_); rintro e w1 ⟨rfl, hb1⟩; replace hx := (hb1.block (row3 hx).2.2.2).trans hx; replace hu := hu.call hb1; clear hb1; obtain ⟨x0, x1, x2, hxs⟩ := row3 hx))
    go_ret
    exact ⟨rfl, hu⟩
  · subst hxy
    obtain ⟨T, hT, cP⟩ := cPart x 0 (by omega)
    generalize latest l = la at hT cL
    have cP1 := fun A' c' u hu => cP A' c' u (.inl rfl) hu
    have i2 : (x : Int) ≤ (d : Int) := by omega
    clear cPart cP
    by_cases i3 : d = x
    · subst i3
      go_enter Try.func11, Try.ntmps11
      go_wp2_with (first
        | (go_at_call 26; (with_reducible refine (at1p_any _ _ _).mono ?_); rintro e w1 ⟨rfl, hb1⟩; replace hx := (hb1.block (row3 hx).2.2.2).trans hx; replace hu := hu.call hb1; clear hb1; obtain ⟨x0, x1, x2, hxs⟩ := row3 hx)
        | (go_at_call 34; (with_reducible refine (check_lit2 _ _ (heap_new _ _)).mono ?_); rintro e w1 ⟨rfl, hb1⟩; replace hx := (hb1.block (row3 (heap_past _ hx)).2.2.2).trans (heap_past _ hx); replace hu := (hu.alloc _).call hb1; clear hb1; obtain ⟨x0, x1, x2, hxs⟩ := row3 hx)
        | (go_at_call 34; (with_reducible refine (check_nil _).mono ?_); rintro e w1 ⟨rfl, hb1⟩; replace hx := (hb1.block (row3 hx).2.2.2).trans hx; replace hu := hu.call hb1; clear hb1; obtain ⟨x0, x1, x2, hxs⟩ := row3 hx)
        | (go_at_call 34; (with_reducible refine (cC _ hu).mono ?_); rintro e w1 ⟨rfl, hb1⟩; replace hx := (hb1.block (row3 hx).2.2.2).trans hx; replace hu := hu.call hb1; clear hb1; obtain ⟨x0, x1, x2, hxs⟩ := row3 hx)
        | (go_at_call 32; (with_reducible refine (hWi _).mono ?_); rintro e w1 ⟨rfl, rfl⟩)
        | (go_at_call 32; (with_reducible refine (hWj _).mono ?_); rintro e w1 ⟨rfl, rfl⟩)
        | (go_at_call 36; (with_reducible refine (cCl _ hu).mono ?_); rintro e w2 ⟨v, rfl, hov, hb0⟩; have HOV := Lib.hid hov; clear hov)
        | (go_at_call 35; go_must (refine (cDF _ _ _ _ HOV.out (Nat.le_refl _) hb0 hx).mono ?_); rintro e w3 ⟨v2, rfl, ho2, hb1⟩; obtain ⟨A2, c2, rfl, -, -, hL2⟩ := ho2.lies hwf2; clear ho2; replace hx := (hb1.block (row3 hx).2.2.2).trans hx; replace hu := hu.call hb1; clear hb1; obtain ⟨x0, x1, x2, hxs⟩ := row3 hx)
        | (go_at_call 33; (with_reducible refine (cL _ hu).mono ?_); rintro e w1 ⟨rfl, hb1⟩; replace hL2 := hL2.calm hb1; replace hx := (hb1.block (row3 hx).2.2.2).trans hx; replace hu := hu.call hb1; clear hb1; obtain ⟨x0, x1, x2, hxs⟩ := row3 hx)
        | (go_at_call 33; (with_reducible refine (cP1 _ _ _ hu).mono ?_); rintro e w1 ⟨rfl, hb1⟩; replace hL2 := hL2.calm hb1; replace hx := (hb1.block (row3 hx).2.2.2).trans hx; replace hu := hu.call hb1; clear hb1; obtain ⟨x0, x1, x2, hxs⟩ := row3 hx)
        | (go_at_call 34; (with_reducible refine (cD _ _ _ hL2).mono ?_); rintro e w1 ⟨rfl, hb1⟩; replace hx := (hb1.block (row3 hx).2.2.2).trans hx; replace hu := hu.call hb1; clear hb1; obtain ⟨x0, x1, x2, hxs⟩ := row3 hx))
      go_ret
      exact ⟨rfl, hu⟩
    · go_enter Try.func11, Try.ntmps11
      go_wp2_with (first
        | (go_at_call 26; (with_reducible refine (at1p_any _ _ _).mono ?_); rintro e w1 ⟨rfl, hb1⟩; replace hx := (hb1.block (row3 hx).2.2.2).trans hx; replace hu := hu.call hb1; clear hb1; obtain ⟨x0, x1, x2, hxs⟩ := row3 hx)
        | (go_at_call 34; (with_reducible refine (check_lit2 _ _ (heap_new _ _)).mono ?_); rintro e w1 ⟨rfl, hb1⟩; replace hx := (hb1.block (row3 (heap_past _ hx)).2.2.2).trans (heap_past _ hx); replace hu := (hu.alloc _).call hb1; clear hb1; obtain ⟨x0, x1, x2, hxs⟩ := row3 hx)
        | (go_at_call 34; (with_reducible refine (check_nil _).mono ?_); rintro e w1 ⟨rfl, hb1⟩; replace hx := (hb1.block (row3 hx).2.2.2).trans hx; replace hu := hu.call hb1; clear hb1; obtain ⟨x0, x1, x2, hxs⟩ := row3 hx)
        | (go_at_call 34; (with_reducible refine (cC _ hu).mono ?_); rintro e w1 ⟨rfl, hb1⟩; replace hx := (hb1.block (row3 hx).2.2.2).trans hx; replace hu := hu.call hb1; clear hb1; obtain ⟨x0, x1, x2, hxs⟩ := row3 hx)
        | (go_at_call 32; (with_reducible refine (hWi _).mono ?_); rintro e w1 ⟨rfl, rfl⟩)
        | (go_at_call 32; (with_reducible refine (hWj _).mono ?_); rintro e w1 ⟨rfl, rfl⟩)
        | (go_at_call 36; (with_reducible refine (cCl _ hu).mono ?_); rintro e w2 ⟨v, rfl, hov, hb0⟩; have HOV := Lib.hid hov; clear hov)
        | (go_at_call 35; go_must (refine (cDF _ _ _ _ HOV.out (Nat.le_refl _) hb0 hx).mono ?_); rintro e w3 ⟨v2, rfl, ho2, hb1⟩; obtain ⟨A2, c2, rfl, -, -, hL2⟩ := ho2.lies hwf2; clear ho2; replace hx := (hb1.block (row3 hx).2.2.2).trans hx; replace hu := hu.call hb1; clear hb1; obtain ⟨x0, x1, x2, hxs⟩ := row3 hx)
        | (go_at_call 33; (with_reducible refine (cL _ hu).mono ?_); rintro e w1 ⟨rfl, hb1⟩; replace hL2 := hL2.calm hb1; replace hx := (hb1.block (row3 hx).2.2.2).trans hx; replace hu := hu.call hb1; clear hb1; obtain ⟨x0, x1, x2, hxs⟩ := row3 hx)
        | (go_at_call 33; (with_reducible refine (cP1 _ _ _ hu).mono ?_); rintro e w1 ⟨rfl, hb1⟩; replace hL2 := hL2.calm hb1; replace hx := (hb1.block (row3 hx).2.2.2).trans hx; replace hu := hu.call hb1; clear hb1; obtain ⟨x0, x1, x2, hxs⟩ := row3 hx)
        | (go_at_call 34; (with_reducible refine (cD _ _ _ hL2).mono ?_); rintro e w1 ⟨rfl, hb1⟩; replace hx := (hb1.block (row3 hx).2.2.2).trans hx; replace hu := hu.call hb1; clear hb1; obtain ⟨x0, x1, x2, hxs⟩ := row3 hx))
      go_ret
      exact ⟨rfl, hu⟩
end Go.Proofs.Ytmianlnpaiebhaa
