/- CodeBack: the law's own walk. -/
import Derived.Test.YtmianlnpaiebhaaLawK1
import Derived.Test.YtmianlnpaiebhaaCode6
import Derived.Test.YtmianlnpaiebhaaEqual
namespace Go.Proofs.Ytmianlnpaiebhaa
open Go.ChangeShapes Go.WideShapes Go.ChangeAt Go.RowKit

theorem pair_lies {w : World} {g : Nat} {p o f m gg p' o' f' m' gg' : Int} {s s' : ByteArray} (h : w.heap[g]? = some (.cells #[.int .i64 p, .int .i64 o, .int .i64 f, .int .i64 m, .int .i64 gg, .string s, .int .i64 p', .int .i64 o', .int .i64 f', .int .i64 m', .int .i64 gg', .string s'] 25 (0, 0))) (hm : 0 ≤ m) (hm' : 0 ≤ m') :
    Lies w (some ⟨g, 0, none⟩) [⟨p, o, f, m, gg, s⟩, ⟨p', o', f', m', gg', s'⟩] := by
  have c := fun j => cell_of_row _ g j _ _ _ h
  refine ⟨fun e he => ?_, fun _ => ⟨g, 0, rfl, (Array.getElem?_eq_some_iff.1 h).1, fun k e he => ?_⟩⟩
  · simp at he; rcases he with rfl | rfl <;> unfold El.wf <;> simp only <;> omega
  · match k, he with
    | 0, he => simp at he; subst he; exact ⟨c 0, c 1, c 2, c 3, c 4, c 5⟩
    | 1, he => simp at he; subst he; exact ⟨c 6, c 7, c 8, c 9, c 10, c 11⟩
    | k + 2, he => simp at he
set_option maxHeartbeats 2000000 in
theorem at1_any (n : Int) (s : ByteArray) (w : World) : Calls Try.prog 26 #[.int .i64 n, .string s] w fun e w' => e = .returned (.agg #[.int .i64 0, .int .i64 0, .int .i64 n, .int .i64 1, .int .i64 0, .string s]) ∧ Calm w w' := by
  go_enter Try.func26, Try.ntmps26
  go_wp2_with fail
  go_returns
  exact ⟨rfl, by repeat (first | (with_reducible exact Calm.refl _) | (with_reducible refine Calm.alloc ?_ _) | (with_reducible refine Calm.drew ?_) | (with_reducible refine Calm.drewN ?_ _) | (refine Calm.call ?_ (by with_reducible assumption)))⟩
theorem write_ab (w : World) : Calls Try.prog 15 #[.agg #[.int .i64 0, .int .i64 0, .int .i64 1, .int .i64 1, .int .i64 0, .string { data := #[97, 98] }]] w fun e w' => e = .returned (.tuple #[.string { data := #[0, 0, 0, 0, 0, 0, 0, 0, 1, 0, 0, 0, 1, 0, 0, 0, 0, 2, 97, 98] }, .int .i64 0]) ∧ Calm w w' :=
  write_good ⟨0, 0, 1, 1, 0, { data := #[97, 98] }⟩ (by decide +kernel) _ (by decide +kernel) w

theorem equal_two (A A' : Option Addr) (c c' : Nat) (x y : El) (w : World) (hL : Lies w A [x, y]) (hL' : Lies w A' [x, y]) : Calls Try.prog 22 #[.slice A 2 c, .slice A' 2 c'] w fun e w' => e = .returned (.bool true) ∧ Calm w w' :=
  equal_self A A' c c' [x, y] w (by simp) hL hL'
/-- What the calls of CodeBack answer once the first record is right. -/
theorem back_ans (a : El) (ha : a.err = 0) (more : ByteArray) (k : Int) : ∃ (W : ByteArray) (n x : Nat), W.size = n ∧ 18 ≤ n ∧ n ≤ 58 ∧ x < n ∧ enc a = W.data.toList ∧
    (∀ w, Calls Try.prog 32 #[.int .i64 k, .int .i64 (n : Int)] w fun e w' => e = .returned (.int .i64 (x : Int)) ∧ w = w') ∧
    (∀ w, Calls Try.prog 15 #[.agg #[.int .i64 a.p, .int .i64 a.o, .int .i64 a.f, .int .i64 a.m, .int .i64 a.g, .string a.s]] w fun e w' => e = .returned (.tuple #[.string W, .int .i64 0]) ∧ Calm w w') ∧
    (∀ w, Calls Try.prog 18 #[.string (W ++ more)] w fun e w' => e = .returned (.tuple #[.agg #[.int .i64 a.p, .int .i64 a.o, .int .i64 a.f, .int .i64 a.m, .int .i64 a.g, .string a.s], .int .i64 (n : Int), .int .i64 0]) ∧ Calm w w') ∧
    (∀ w, Calls Try.prog 18 #[.string (W.extract 0 x)] w fun e w' => e = .returned (.tuple #[.agg #[.int .i64 0, .int .i64 0, .int .i64 0, .int .i64 0, .int .i64 0, .string { data := #[] }], .int .i64 0, .int .i64 7]) ∧ Calm w w') := by
  have hl := enc_length a
  have h40 := (err_zero ha).2.2.2.2.2.2.2.2.2.2
  obtain ⟨x, hx, hW⟩ := within_any k (18 + a.s.size) (by omega) (by omega)
  obtain ⟨d1, d2, d3⟩ := dec_enc ha more.data.toList
  have hs : (⟨(enc a).toArray⟩ : ByteArray).size = 18 + a.s.size := by show (enc a).toArray.size = _; rw [List.size_toArray, hl]
  have ha' : ((⟨(enc a).toArray⟩ : ByteArray) ++ more).data.toList = enc a ++ more.data.toList := by rw [ByteArray.data_append, Array.toList_append]
  refine ⟨⟨(enc a).toArray⟩, 18 + a.s.size, x, hs, by omega, by omega, hx, rfl, hW, fun w => write_good a ha _ rfl w, fun w => get_good _ a _ (by rw [ha']; exact d1) (by rw [ha']; exact d2) (by rw [ha', d3, hl]) w, fun w => get_bad _ 7 ?_ (by decide) w⟩
  rw [part_extract]
  show decErr (part (enc a) 0 (x - 0)) = 7
  rw [part, List.drop_zero]
  exact dec_short ha (by omega)

theorem both_ans (a b : El) (ha : a.err = 0) (hb : b.err = 0) (W V : ByteArray) (hW : enc a = W.data.toList) (hV : enc b = V.data.toList) (w : World) : Calls Try.prog 20 #[.string (W ++ V)] w (AllEnd [a, b] 0 w) := by
  have hL : (W ++ V).data.toList = [a, b].flatMap enc := by rw [ByteArray.data_append, Array.toList_append, ← hW, ← hV]; simp
  obtain ⟨h1, h2⟩ := all_encs [a, b] (by intro e he; simp at he; rcases he with rfl | rfl <;> assumption)
  have := codeAll_any (W ++ V) w (by rw [hL, h2]; simp)
  rw [hL] at this
  unfold allVal at this
  rw [h1, h2] at this
  exact this

set_option maxRecDepth 100000 in
set_option maxHeartbeats 8000000 in
theorem codeBack_walk (p o f m g : Int) (s : ByteArray) (p' o' f' m' g' : Int) (s' more : ByteArray) (k : Int) (w : World) (hmore : more.size ≤ 140737488351232) : Calls Try.prog 6 #[.agg #[.int .i64 p, .int .i64 o, .int .i64 f, .int .i64 m, .int .i64 g, .string s], .agg #[.int .i64 p', .int .i64 o', .int .i64 f', .int .i64 m', .int .i64 g', .string s'], .string more, .int .i64 k] w fun e w' => e = .returned (.bool true) ∧ Calm w w' := by
  have hxa := heap_past (.cells #[.int .i64 p', .int .i64 o', .int .i64 f', .int .i64 m', .int .i64 g', .string s'] 25) (heap_new w (.cells #[.int .i64 p, .int .i64 o, .int .i64 f, .int .i64 m, .int .i64 g, .string s] 25))
  have hxb := heap_new (w.alloc (.cells #[.int .i64 p, .int .i64 o, .int .i64 f, .int .i64 m, .int .i64 g, .string s] 25)) (.cells #[.int .i64 p', .int .i64 o', .int .i64 f', .int .i64 m', .int .i64 g', .string s'] 25)
  simp only [World.size_alloc] at hxb
  have hu := ((Calm.refl w).alloc (.cells #[.int .i64 p, .int .i64 o, .int .i64 f, .int .i64 m, .int .i64 g, .string s] 25)).alloc (.cells #[.int .i64 p', .int .i64 o', .int .i64 f', .int .i64 m', .int .i64 g', .string s'] 25)
  by_cases ha : (⟨p, o, f, m, g, s⟩ : El).err = 0
  rotate_left
  · have cWa := fun u => write_bad ⟨p, o, f, m, g, s⟩ _ rfl ha u
    have cEa : ∀ u, Calls Try.prog 31 #[.agg #[.int .i64 p, .int .i64 o, .int .i64 f, .int .i64 m, .int .i64 g, .string s]] u fun e w' => e = .returned (.int .i64 (⟨p, o, f, m, g, s⟩ : El).err) ∧ Calm u w' := fun u => elemCheck_any p o f m g s u
    have b1 : ((⟨p, o, f, m, g, s⟩ : El).err != 0) = true := by simpa using ha
    generalize (⟨p, o, f, m, g, s⟩ : El).err = E at cWa cEa b1
    simp only at cWa
    clear ha
    go_enter Try.func6, Try.ntmps6
    go_wp2_with (first
      | (go_at_call 26; (with_reducible refine (at1_any _ _ _).mono ?_); rintro e w1 ⟨rfl, hb1⟩; replace hxa := (hb1.block (row6 hxa).2.2.2.2.2.2).trans hxa; replace hxb := (hb1.block (row6 hxb).2.2.2.2.2.2).trans hxb; replace hu := hu.call hb1; clear hb1; obtain ⟨a0, a1, a2, a3, a4, a5, has⟩ := row6 hxa; obtain ⟨b0, b1, b2, b3, b4, b5, hbs⟩ := row6 hxb)
      | (go_at_call 15; (with_reducible refine (write_ab _).mono ?_); rintro e w1 ⟨rfl, hb1⟩; replace hxa := (hb1.block (row6 hxa).2.2.2.2.2.2).trans hxa; replace hxb := (hb1.block (row6 hxb).2.2.2.2.2.2).trans hxb; replace hu := hu.call hb1; clear hb1; obtain ⟨a0, a1, a2, a3, a4, a5, has⟩ := row6 hxa; obtain ⟨b0, b1, b2, b3, b4, b5, hbs⟩ := row6 hxb)
      | (go_at_call 15; (with_reducible refine (cWa _).mono ?_); rintro e w1 ⟨rfl, hb1⟩; replace hxa := (hb1.block (row6 hxa).2.2.2.2.2.2).trans hxa; replace hxb := (hb1.block (row6 hxb).2.2.2.2.2.2).trans hxb; replace hu := hu.call hb1; clear hb1; obtain ⟨a0, a1, a2, a3, a4, a5, has⟩ := row6 hxa; obtain ⟨b0, b1, b2, b3, b4, b5, hbs⟩ := row6 hxb)
      | (go_at_call 31; (with_reducible refine (cEa _).mono ?_); rintro e w1 ⟨rfl, hb1⟩; replace hxa := (hb1.block (row6 hxa).2.2.2.2.2.2).trans hxa; replace hxb := (hb1.block (row6 hxb).2.2.2.2.2.2).trans hxb; replace hu := hu.call hb1; clear hb1; obtain ⟨a0, a1, a2, a3, a4, a5, has⟩ := row6 hxa; obtain ⟨b0, b1, b2, b3, b4, b5, hbs⟩ := row6 hxb))
    go_ret
    exact ⟨rfl, hu⟩
  obtain ⟨W, n, x, hWs, hn18, hn58, hxn, hWe, cK, cWa, cG, cS⟩ := back_ans _ ha more k
  have hma := (err_zero ha).2.2.2.2.2.2.1
  simp only at cWa cG hma
  have hxi : (x : Int) ≤ (n : Int) := by omega
  have hx0 : x ≤ n := by omega
  by_cases hb : (⟨p', o', f', m', g', s'⟩ : El).err = 0
  rotate_left
  · have cWb := fun u => write_bad ⟨p', o', f', m', g', s'⟩ _ rfl hb u
    have b1 : ((⟨p', o', f', m', g', s'⟩ : El).err != 0) = true := by simpa using hb
    generalize (⟨p', o', f', m', g', s'⟩ : El).err = E at cWb b1
    simp only at cWb
    clear ha hb hWe
    go_enter Try.func6, Try.ntmps6
    go_wp2_with (first
      | (go_at_call 26; (with_reducible refine (at1_any _ _ _).mono ?_); rintro e w1 ⟨rfl, hb1⟩; replace hxa := (hb1.block (row6 hxa).2.2.2.2.2.2).trans hxa; replace hxb := (hb1.block (row6 hxb).2.2.2.2.2.2).trans hxb; replace hu := hu.call hb1; clear hb1; obtain ⟨a0, a1, a2, a3, a4, a5, has⟩ := row6 hxa; obtain ⟨b0, b1, b2, b3, b4, b5, hbs⟩ := row6 hxb)
      | (go_at_call 15; (with_reducible refine (write_ab _).mono ?_); rintro e w1 ⟨rfl, hb1⟩; replace hxa := (hb1.block (row6 hxa).2.2.2.2.2.2).trans hxa; replace hxb := (hb1.block (row6 hxb).2.2.2.2.2.2).trans hxb; replace hu := hu.call hb1; clear hb1; obtain ⟨a0, a1, a2, a3, a4, a5, has⟩ := row6 hxa; obtain ⟨b0, b1, b2, b3, b4, b5, hbs⟩ := row6 hxb)
      | (go_at_call 15; (with_reducible refine (cWa _).mono ?_); rintro e w1 ⟨rfl, hb1⟩; replace hxa := (hb1.block (row6 hxa).2.2.2.2.2.2).trans hxa; replace hxb := (hb1.block (row6 hxb).2.2.2.2.2.2).trans hxb; replace hu := hu.call hb1; clear hb1; obtain ⟨a0, a1, a2, a3, a4, a5, has⟩ := row6 hxa; obtain ⟨b0, b1, b2, b3, b4, b5, hbs⟩ := row6 hxb)
      | (go_at_call 18; (with_reducible refine (cG _).mono ?_); rintro e w1 ⟨rfl, hb1⟩; replace hxa := (hb1.block (row6 hxa).2.2.2.2.2.2).trans hxa; replace hxb := (hb1.block (row6 hxb).2.2.2.2.2.2).trans hxb; replace hu := hu.call hb1; clear hb1; obtain ⟨a0, a1, a2, a3, a4, a5, has⟩ := row6 hxa; obtain ⟨b0, b1, b2, b3, b4, b5, hbs⟩ := row6 hxb)
      | (go_at_call 32; refine (cK _).mono ?_; rintro e w1 ⟨rfl, rfl⟩)
      | (go_at_call 18; (with_reducible refine (cS _).mono ?_); rintro e w1 ⟨rfl, hb1⟩; replace hxa := (hb1.block (row6 (heap_past _ hxa)).2.2.2.2.2.2).trans (heap_past _ hxa); replace hxb := (hb1.block (row6 (heap_past _ hxb)).2.2.2.2.2.2).trans (heap_past _ hxb); replace hu := (hu.alloc _).call hb1; have hxx := (hb1.block (row6 (heap_new _ _)).2.2.2.2.2.2).trans (heap_new _ _); obtain ⟨c0, c1, c2, c3, c4, c5, hcs⟩ := row6 hxx; clear hb1; obtain ⟨a0, a1, a2, a3, a4, a5, has⟩ := row6 hxa; obtain ⟨b0, b1, b2, b3, b4, b5, hbs⟩ := row6 hxb)
      | (go_at_call 15; (with_reducible refine (cWb _).mono ?_); rintro e w1 ⟨rfl, hb1⟩; replace hxa := (hb1.block (row6 (heap_past _ hxa)).2.2.2.2.2.2).trans (heap_past _ hxa); replace hxb := (hb1.block (row6 (heap_past _ hxb)).2.2.2.2.2.2).trans (heap_past _ hxb); replace hu := (hu.alloc _).call hb1; clear hb1; obtain ⟨a0, a1, a2, a3, a4, a5, has⟩ := row6 hxa; obtain ⟨b0, b1, b2, b3, b4, b5, hbs⟩ := row6 hxb))
    go_ret
    exact ⟨rfl, hu⟩
  obtain ⟨V, n', x', hVs, hn18', hn58', hxn', hVe, cK', cWb, cG', cS'⟩ := back_ans _ hb more k
  have hmb := (err_zero hb).2.2.2.2.2.2.1
  simp only at cWb hmb
  have cA := fun u => both_ans _ _ ha hb W V hWe hVe u
  clear ha hb hWe hVe cK' cG' cS' hxn'
  go_enter Try.func6, Try.ntmps6
  go_wp2_with (first
      | (go_at_call 26; (with_reducible refine (at1_any _ _ _).mono ?_); rintro e w1 ⟨rfl, hb1⟩; replace hxa := (hb1.block (row6 hxa).2.2.2.2.2.2).trans hxa; replace hxb := (hb1.block (row6 hxb).2.2.2.2.2.2).trans hxb; replace hu := hu.call hb1; clear hb1; obtain ⟨a0, a1, a2, a3, a4, a5, has⟩ := row6 hxa; obtain ⟨b0, b1, b2, b3, b4, b5, hbs⟩ := row6 hxb)
      | (go_at_call 15; (with_reducible refine (write_ab _).mono ?_); rintro e w1 ⟨rfl, hb1⟩; replace hxa := (hb1.block (row6 hxa).2.2.2.2.2.2).trans hxa; replace hxb := (hb1.block (row6 hxb).2.2.2.2.2.2).trans hxb; replace hu := hu.call hb1; clear hb1; obtain ⟨a0, a1, a2, a3, a4, a5, has⟩ := row6 hxa; obtain ⟨b0, b1, b2, b3, b4, b5, hbs⟩ := row6 hxb)
      | (go_at_call 15; (with_reducible refine (cWa _).mono ?_); rintro e w1 ⟨rfl, hb1⟩; replace hxa := (hb1.block (row6 hxa).2.2.2.2.2.2).trans hxa; replace hxb := (hb1.block (row6 hxb).2.2.2.2.2.2).trans hxb; replace hu := hu.call hb1; clear hb1; obtain ⟨a0, a1, a2, a3, a4, a5, has⟩ := row6 hxa; obtain ⟨b0, b1, b2, b3, b4, b5, hbs⟩ := row6 hxb)
      | (go_at_call 18; (with_reducible refine (cG _).mono ?_); rintro e w1 ⟨rfl, hb1⟩; replace hxa := (hb1.block (row6 hxa).2.2.2.2.2.2).trans hxa; replace hxb := (hb1.block (row6 hxb).2.2.2.2.2.2).trans hxb; replace hu := hu.call hb1; clear hb1; obtain ⟨a0, a1, a2, a3, a4, a5, has⟩ := row6 hxa; obtain ⟨b0, b1, b2, b3, b4, b5, hbs⟩ := row6 hxb)
      | (go_at_call 32; refine (cK _).mono ?_; rintro e w1 ⟨rfl, rfl⟩)
      | (go_at_call 18; (with_reducible refine (cS _).mono ?_); rintro e w1 ⟨rfl, hb1⟩; replace hxa := (hb1.block (row6 (heap_past _ hxa)).2.2.2.2.2.2).trans (heap_past _ hxa); replace hxb := (hb1.block (row6 (heap_past _ hxb)).2.2.2.2.2.2).trans (heap_past _ hxb); replace hu := (hu.alloc _).call hb1; have hxx := (hb1.block (row6 (heap_new _ _)).2.2.2.2.2.2).trans (heap_new _ _); obtain ⟨c0, c1, c2, c3, c4, c5, hcs⟩ := row6 hxx; clear hb1; obtain ⟨a0, a1, a2, a3, a4, a5, has⟩ := row6 hxa; obtain ⟨b0, b1, b2, b3, b4, b5, hbs⟩ := row6 hxb)
      | (go_at_call 15; (with_reducible refine (cWb _).mono ?_); rintro e w1 ⟨rfl, hb1⟩; replace hxa := (hb1.block (row6 (heap_past _ hxa)).2.2.2.2.2.2).trans (heap_past _ hxa); replace hxb := (hb1.block (row6 (heap_past _ hxb)).2.2.2.2.2.2).trans (heap_past _ hxb); replace hu := (hu.alloc _).call hb1; clear hb1; obtain ⟨a0, a1, a2, a3, a4, a5, has⟩ := row6 hxa; obtain ⟨b0, b1, b2, b3, b4, b5, hbs⟩ := row6 hxb)
      | (go_at_call 20; (with_reducible refine (cA _).mono ?_); rintro e w1 ⟨v, rfl, ⟨A, c, rfl, hvn, hLv⟩, hb1⟩; replace hxa := (hb1.block (row6 hxa).2.2.2.2.2.2).trans hxa; replace hxb := (hb1.block (row6 hxb).2.2.2.2.2.2).trans hxb; replace hu := hu.call hb1; clear hb1 hvn; obtain ⟨a0, a1, a2, a3, a4, a5, has⟩ := row6 hxa; obtain ⟨b0, b1, b2, b3, b4, b5, hbs⟩ := row6 hxb)
      | (go_at_call 22; refine (equal_two _ _ _ _ _ _ _ (hLv.calm ((Calm.refl _).alloc _)) (pair_lies (heap_new _ _) (by omega) (by omega))).mono ?_; rintro e w1 ⟨rfl, hb1⟩; replace hu := (hu.alloc _).call hb1))
  go_ret
  exact ⟨rfl, hu⟩

end Go.Proofs.Ytmianlnpaiebhaa
