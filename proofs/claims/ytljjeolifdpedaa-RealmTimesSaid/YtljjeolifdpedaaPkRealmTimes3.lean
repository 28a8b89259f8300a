/- Texts of one kind in one file. -/
import Derived.Test.YtljjeolifdpedaaPkRealmTimes2
set_option maxRecDepth 100000
namespace Go.Proofs.Ytljjeolifdpedaa
open Go.ChangeShapes Go.WideShapes Go.ChangeAt Go.RowKit
theorem fresh_err0 {p o f t : Int} {s : ByteArray} (h : keyErr p o f = 0) (h1 : 1 ≤ t) (h2 : t ≤ 2147483647) (h3 : (s.size : Int) ≤ 40) : (fresh (p, o, f) s t).err = 0 := elemErr_ok h ⟨h1, h2, .inl rfl⟩ h3
theorem putErr_nil {p o f t : Int} {s : ByteArray} (h : keyErr p o f = 0) (h1 : 1 ≤ t) (h2 : t ≤ 2147483647) : putErr [] (p, o, f) s t = if (s.size : Int) ≤ 40 then 0 else 2 := by
 have hr : runErr [] = 0 := runErr_zero.2 good_nil
 unfold putErr wrErr
 rw [hr, if_pos rfl]
 by_cases h3 : (s.size : Int) ≤ 40
 ·rw [fresh_err0 h h1 h2 h3, if_pos rfl, if_neg (show ¬ (fresh (p, o, f) s t).m < latest [] from by show ¬ t < 0; omega), if_pos rfl, if_pos h3]
  rfl
 ·have : (fresh (p, o, f) s t).err = 2 := by
   show elemErr p o f t 0 s.size = 2
   exact elemErr_long h ⟨h1, h2, .inl rfl⟩ (by omega)
  rw [this, if_neg (show ¬ (2 : Int) = 0 by decide), if_neg (show ¬ (2 : Int) = 0 by decide), if_neg h3]
theorem pL_nil {p o f t : Int} {s : ByteArray} (h : putErr [] (p, o, f) s t = 0) : pL [] (p, o, f) s t = [⟨p, o, f, t, 0, s⟩] := by
 unfold pL
 rw [if_pos h]
 rfl
theorem one_good {p o f t : Int} {s : ByteArray} (h : keyErr p o f = 0) (h1 : 1 ≤ t) (h2 : t ≤ 2147483647) (h3 : (s.size : Int) ≤ 40) : Good [⟨p, o, f, t, 0, s⟩] :=
 ⟨by simp, fun e he => by rw [List.mem_singleton.1 he]; exact fresh_err0 h h1 h2 h3, List.pairwise_singleton _ _⟩
theorem two_good {t u : Int} {s : ByteArray} (h1 : 1 ≤ t) (h2 : t ≤ 2147483647) (h3 : 1 ≤ u) (h4 : u ≤ 2147483647) (h5 : (s.size : Int) ≤ 40) : Good [⟨0, 0, 1, t, 0, { data := #[97] }⟩, ⟨1, 0, 0, u, 0, s⟩] :=
 ⟨by simp, fun e he => by
  rcases List.mem_cons.1 he with rfl | he
  ·exact fresh_err0 (by decide) h1 h2 (by decide)
  ·rw [List.mem_singleton.1 he]; exact fresh_err0 (by decide) h3 h4 h5, by
  refine List.pairwise_cons.2 ⟨fun e he => ?_, List.pairwise_singleton _ _⟩
  rw [List.mem_singleton.1 he]
  refine ⟨?_, fun h => ?_⟩
  ·left; left; show (0 : Int) < 1; decide
  ·exact absurd (congrArg (·.1) h) (show ¬ (0 : Int) = 1 by decide)⟩
def rM : List Int := [1, 1, 0, 0, 0, 0, 0, 0, 0, 0, 0, 0, 0, 0, 0, 0]
theorem rM_ok {l : List El} (hG : Good l) (h : ∀ e ∈ l, e.p = 0 ∨ e.p = 1) : bkErr l rM z16 = 0 := bkErr_ok hG ⟨fun k hk => by
 have : ∀ k : Fin 16, fedFit (gI rM k.1) (gI z16 k.1) = true := by decide
 exact this ⟨k, hk⟩, fun e he => by
 unfold elFit
 rcases h e he with h | h <;> rw [h] <;> rfl⟩
/-- What a write in realm 0 or 1 of two masters comes to. -/
theorem rM_put {l : List El} (hG : Good l) (h : ∀ e ∈ l, e.p = 0 ∨ e.p = 1) (k : Nat) (hk : k < 2) (E : Int) (L : List El) (hL : L.length + l.length ≤ 400) : rwErr l rM z16 k E L = E := by
 have h1 := mine_other_len l k
 rw [rw_cases E L (rM_ok hG h) (by omega) (by rcases Nat.lt_or_ge k 1 with h | h <;> (first | (rw [show k = 0 by omega]; rfl) | (rw [show k = 1 by omega]; rfl))), if_neg (show ¬ 400 < L.length + (otherL l k).length by omega)]
 split <;> simp_all
set_option maxHeartbeats 16000000 in
theorem realmTimes_walk (s : ByteArray) (t u : Int) (w : World) :
    Calls Try.prog 7 #[.string s, .int .i64 t, .int .i64 u] w fun e w' => e = .returned (.bool true) ∧ Calm w w' := by
  obtain ⟨x, hx, cX⟩ := within_any t 1000 (by omega) (by omega)
  obtain ⟨y, hy, cY⟩ := within_any u 1000 (by omega) (by omega)
  replace cX : ∀ w, Calls Try.prog 26 #[.int .i64 t, .int .i64 1000] w fun e w' => e = .returned (.int .i64 (x : Int)) ∧ w = w' := cX
  replace cY : ∀ w, Calls Try.prog 26 #[.int .i64 u, .int .i64 1000] w fun e w' => e = .returned (.int .i64 (y : Int)) ∧ w = w' := cY
  obtain ⟨t1, ht1⟩ : ∃ t1 : Int, t1 = 1 + (x : Int) := ⟨_, rfl⟩
  obtain ⟨u1, hu1⟩ : ∃ u1 : Int, u1 = 1 + (y : Int) := ⟨_, rfl⟩
  obtain ⟨R2, hR2'⟩ : ∃ R2, R2 = rM := ⟨_, rfl⟩
  have hbM : bR.set 1 1 = R2 := by rw [hR2']; rfl
  have hR2 : R2.length = 16 := by rw [hR2']; rfl
  have t11 : 1 ≤ t1 := by omega
  have t12 : t1 ≤ 1000 := by omega
  have u11 : 1 ≤ u1 := by omega
  have u12 : u1 ≤ 1000 := by omega
  have g1 : Good [(⟨0, 0, 1, t1, 0, { data := #[97] }⟩ : El)] := one_good (by decide) t11 (by omega) (by decide)
  have q1 : putErr (mineL [] 0) (0, 0, 1) { data := #[97] } t1 = 0 := by
    show putErr [] _ _ _ = 0
    rw [putErr_nil (by decide) t11 (by omega), if_pos (by decide)]
  have q2 : putErr (mineL [(⟨0, 0, 1, t1, 0, { data := #[97] }⟩ : El)] 1) (1, 0, 0) s u1 = if (s.size : Int) ≤ 40 then 0 else 2 := by
    show putErr [] _ _ _ = _
    exact putErr_nil (by decide) u11 (by omega)
  have cP1 : ∀ v, Calls Try.prog 10 #[.agg (bkC none 0 0 R2 z16).toArray, .agg #[.int .i64 0, .int .i64 0, .int .i64 1], .string { data := #[97] }, .int .i64 t1] v fun e w' => ∃ A1 c1, e = .returned (.tuple #[.agg (bkC A1 1 c1 R2 z16).toArray, .int .i64 0]) ∧ 1 ≤ c1 ∧ Lies w' A1 [(⟨0, 0, 1, t1, 0, { data := #[97] }⟩ : El)] ∧ (∀ b q, A1 = some ⟨b, q, none⟩ → v.heap.size ≤ b) ∧ Calm v w' := fun v => by
    have h := realmPut_any none 0 [] R2 z16 0 0 1 { data := #[97] } t1 v (by simp) (by simp) ⟨by simp, fun h => absurd h (by simp)⟩ hR2 rfl 0 [(⟨0, 0, 1, t1, 0, { data := #[97] }⟩ : El)] 0 q1 (pL_nil q1) (by rw [hR2']; exact rM_put good_nil (fun e he => absurd he (by simp)) 0 (by decide) 0 _ (by simp))
    rw [if_pos rfl, if_pos rfl, if_pos rfl] at h
    exact h.mono fun e w' h => bkEnd_good (l := [(⟨0, 0, 1, t1, 0, { data := #[97] }⟩ : El)]) g1.wf h
  have cP2 : ∀ A1 c1 v, 1 ≤ c1 → Lies v A1 [(⟨0, 0, 1, t1, 0, { data := #[97] }⟩ : El)] → (s.size : Int) ≤ 40 → Calls Try.prog 10 #[.agg (bkC A1 1 c1 R2 z16).toArray, .agg #[.int .i64 1, .int .i64 0, .int .i64 0], .string s, .int .i64 u1] v fun e w' => ∃ A3 c3, e = .returned (.tuple #[.agg (bkC A3 2 c3 R2 z16).toArray, .int .i64 0]) ∧ 2 ≤ c3 ∧ Lies w' A3 [(⟨0, 0, 1, t1, 0, { data := #[97] }⟩ : El), (⟨1, 0, 0, u1, 0, s⟩ : El)] ∧ (∀ b q, A3 = some ⟨b, q, none⟩ → v.heap.size ≤ b) ∧ Calm v w' := fun A1 c1 v h1 h2 h3 => by
    rw [if_pos h3] at q2
    have h := realmPut_any A1 c1 [(⟨0, 0, 1, t1, 0, { data := #[97] }⟩ : El)] R2 z16 1 0 0 s u1 v (by simp) h1 h2 hR2 rfl 0 [(⟨1, 0, 0, u1, 0, s⟩ : El)] 0 q2 (pL_nil q2) (by rw [hR2']; exact rM_put g1 (fun e he => by rw [List.mem_singleton.1 he]; exact .inl rfl) 1 (by decide) 0 _ (by simp))
    rw [if_pos rfl, if_pos rfl, if_pos rfl] at h
    exact h.mono fun e w' h => bkEnd_good (l := [(⟨0, 0, 1, t1, 0, { data := #[97] }⟩ : El), (⟨1, 0, 0, u1, 0, s⟩ : El)]) (two_good t11 (by omega) u11 (by omega) h3).wf h
  have cP2b : ∀ A1 c1 v, 1 ≤ c1 → Lies v A1 [(⟨0, 0, 1, t1, 0, { data := #[97] }⟩ : El)] → ¬ (s.size : Int) ≤ 40 → Calls Try.prog 10 #[.agg (bkC A1 1 c1 R2 z16).toArray, .agg #[.int .i64 1, .int .i64 0, .int .i64 0], .string s, .int .i64 u1] v fun e w' => ∃ A3 c3, e = .returned (.tuple #[.agg (bkC A3 0 c3 z16 z16).toArray, .int .i64 2]) ∧ Calm v w' := fun A1 c1 v h1 h2 h3 => by
    rw [if_neg h3] at q2
    have h := realmPut_any A1 c1 [(⟨0, 0, 1, t1, 0, { data := #[97] }⟩ : El)] R2 z16 1 0 0 s u1 v (by simp) h1 h2 hR2 rfl 2 _ 2 q2 rfl (by rw [hR2']; exact rM_put g1 (fun e he => by rw [List.mem_singleton.1 he]; exact .inl rfl) 1 (by decide) 2 _ (by unfold pL; rw [show putErr (mineL [(⟨0, 0, 1, t1, 0, { data := #[97] }⟩ : El)] 1) (1, 0, 0) s u1 = 2 from q2, if_neg (by decide)]; simp))
    rw [if_neg (by decide), if_neg (by decide), if_neg (by decide)] at h
    exact h.mono fun e w' h => h.nil0
  have q3 : putErr (mineL [(⟨0, 0, 1, t1, 0, { data := #[97] }⟩ : El), (⟨1, 0, 0, u1, 0, s⟩ : El)] 0) (0, 0, 2) { data := #[98] } (t1 - 1) = 9 := by
    show putErr [(⟨0, 0, 1, t1, 0, { data := #[97] }⟩ : El)] _ _ _ = 9
    have hr : runErr [(⟨0, 0, 1, t1, 0, { data := #[97] }⟩ : El)] = 0 := runErr_zero.2 g1
    have hw : wrErr [(⟨0, 0, 1, t1, 0, { data := #[97] }⟩ : El)] (fresh (0, 0, 2) { data := #[98] } (t1 - 1)) = 9 := by
      unfold wrErr
      rw [if_pos hr]
      by_cases h : 1 ≤ t1 - 1
      · rw [if_pos (fresh_err0 (by decide) h (by omega) (by decide)), if_pos]
        have := latest_ge (l := [(⟨0, 0, 1, t1, 0, { data := #[97] }⟩ : El)]) (List.mem_singleton.2 rfl)
        have h2 := (last_ge (⟨0, 0, 1, t1, 0, { data := #[97] }⟩ : El)).1
        show t1 - 1 < _
        have h3 : t1 ≤ latest [(⟨0, 0, 1, t1, 0, { data := #[97] }⟩ : El)] := Int.le_trans h2 this
        omega
      · have : (fresh (0, 0, 2) { data := #[98] } (t1 - 1)).err = 9 := by
          show elemErr 0 0 2 (t1 - 1) 0 _ = 9
          exact elemErr_time (by decide) (fun h2 => h h2.1)
        rw [this, if_neg (by decide)]
    unfold putErr
    rw [hw, if_neg (by decide)]
  have hpp : ∀ e ∈ [(⟨0, 0, 1, t1, 0, { data := #[97] }⟩ : El), (⟨1, 0, 0, u1, 0, s⟩ : El)], e.p = 0 ∨ e.p = 1 := fun e he => by
    rcases List.mem_cons.1 he with rfl | he
    · exact .inl rfl
    · rw [List.mem_singleton.1 he]; exact .inr rfl
  have hz3 : (pL (mineL [(⟨0, 0, 1, t1, 0, { data := #[97] }⟩ : El), (⟨1, 0, 0, u1, 0, s⟩ : El)] 0) (0, 0, 2) { data := #[98] } (t1 - 1)).length + [(⟨0, 0, 1, t1, 0, { data := #[97] }⟩ : El), (⟨1, 0, 0, u1, 0, s⟩ : El)].length ≤ 400 := by
    unfold pL; rw [q3, if_neg (by decide)]; simp
  have cP3 : ∀ A3 c3 v, 2 ≤ c3 → Lies v A3 [(⟨0, 0, 1, t1, 0, { data := #[97] }⟩ : El), (⟨1, 0, 0, u1, 0, s⟩ : El)] → (s.size : Int) ≤ 40 → Calls Try.prog 10 #[.agg (bkC A3 2 c3 R2 z16).toArray, .agg #[.int .i64 0, .int .i64 0, .int .i64 2], .string { data := #[98] }, .int .i64 (t1 - 1)] v fun e w' => ∃ A4 c4, e = .returned (.tuple #[.agg (bkC A4 0 c4 z16 z16).toArray, .int .i64 9]) ∧ Calm v w' := fun A3 c3 v h1 h2 h3 => by
    have hX : rwErr [(⟨0, 0, 1, t1, 0, { data := #[97] }⟩ : El), (⟨1, 0, 0, u1, 0, s⟩ : El)] R2 z16 0 9 (pL (mineL [(⟨0, 0, 1, t1, 0, { data := #[97] }⟩ : El), (⟨1, 0, 0, u1, 0, s⟩ : El)] 0) (0, 0, 2) { data := #[98] } (t1 - 1)) = 9 := by
      rw [hR2']
      exact rM_put (two_good t11 (by omega) u11 (by omega) h3) hpp 0 (by decide) 9 _ hz3
    have h := realmPut_any A3 c3 [(⟨0, 0, 1, t1, 0, { data := #[97] }⟩ : El), (⟨1, 0, 0, u1, 0, s⟩ : El)] R2 z16 0 0 2 { data := #[98] } (t1 - 1) v (by simp) h1 h2 hR2 rfl 9 _ 9 q3 rfl hX
    rw [if_neg (by decide), if_neg (by decide), if_neg (by decide)] at h
    exact h.mono fun e w' h => h.nil0
  clear hR2' q1 q2 q3 g1
  have hs0 := Nat.le_refl w.heap.size
  go_enter Try.func7, Try.ntmps7
  go_upto_region 2 with (first
    | (go_at_call 21; (with_reducible refine (book_any _).mono ?_); rintro e w1 ⟨rfl, hb1⟩; have hu := hb1; have hb1z := hb1.size; clear hb1)
    | (refine wpList_store_fresh rfl 25 (.tmp 7) (.tmp 12) rfl 25 _ _ rfl rfl (bkS (show bR.length = 16 from rfl) z16_len) (bkZ (show bR.length = 16 from rfl) z16_len) bk_one ?_))
  have H7 := Box.new w1 (bkC none 0 0 bR z16)
  replace hu := hu.alloc (.cells (bkC none 0 0 bR z16).toArray 25)
  have h7 : w.heap.size ≤ w1.heap.size := hb1z
  generalize w1.heap.size = g7 at *
  generalize (w1.alloc (.cells (bkC none 0 0 bR z16).toArray 25)) = v1 at H7 hu ⊢
  have d0 : v1.cell? ⟨g7, 2, none⟩ = _ := H7.role (k := 1) rfl (by decide)
  have f0 : v1.frozen? ⟨g7, 2, none⟩ = false := H7.free 2
  go_upto_region 3 with fail
  replace H7 : Box (v1.setCell ⟨g7, 2, none⟩ (.int .i64 1)) g7 (bkC none 0 0 (bR.set 1 1) z16) := Box.setRole (k := 1) H7 1 rfl (by decide)
  replace hu := hu.setCell (p := ⟨g7, 2, none⟩) h7 (.int .i64 1)
  rw [hbM] at H7
  clear d0 f0
  generalize (v1.setCell ⟨g7, 2, none⟩ (.int .i64 1)) = v2 at H7 hu ⊢
  go_upto_region 4 with (first
    | (go_at_call 26; (with_reducible refine (cX _).mono ?_); rintro e w2 ⟨rfl, rfl⟩)
    | (go_at_call 26; (with_reducible refine (cY _).mono ?_); rintro e w2 ⟨rfl, rfl⟩))
  simp only [← ht1, ← hu1]
  clear ht1 hu1 cX cY hx hy
  have h7l := H7.lt
  go_upto_region 5 with (first
    | (refine wpList_load_mid rfl 25 (.tmp 7) rfl g7 0 rfl (bkC none 0 0 R2 z16) _ (range_all H7) Try.underlying25 rfl (bkJ hR2 z16_len) ?_)
    | (go_at_call 10; (with_reducible refine (cP1 _).mono ?_); rintro e w3 ⟨A1, c1, rfl, hc1, hl1, hf1, hb3⟩; replace H7 := H7.calm hb3; have n1 : (∀ b q, A1 = some ⟨b, q, none⟩ → b ≠ g7) := (fun b q h => Nat.ne_of_gt (Nat.lt_of_lt_of_le h7l (hf1 b q h))); have HL1 := Lib.hid hl1; replace hu := hu.call hb3; clear hb3 hl1 hf1 cP1)
    | (refine wpList_store_rowB rfl 25 (.tmp 7) (.tmp 26) rfl g7 25 _ _ rfl rfl H7 (bkS hR2 z16_len) (bkSS hR2 z16_len hR2 z16_len) bk_one ?_))
  replace H7 := Box.put H7 (bkC A1 1 c1 R2 z16)
  replace HL1 := Lib.hid (HL1.out.row n1 ((bkC A1 1 c1 R2 z16).toArray))
  replace hu := hu.setRow h7 ((bkC A1 1 c1 R2 z16).toArray)
  clear n1
  generalize (w3.setRow g7 (bkC A1 1 c1 R2 z16).toArray) = v3 at H7 HL1 hu ⊢
  have r0 := H7.run
  go_upto_region 7 with fail
  clear r0
  by_cases h40 : (s.size : Int) ≤ 40
  rotate_left
  · go_wp2_with (first
        | (refine wpList_load_mid rfl 25 (.tmp 7) rfl g7 0 rfl (bkC A1 1 c1 R2 z16) _ (range_all H7) Try.underlying25 rfl (bkJ hR2 z16_len) ?_)
        | (go_at_call 10; (with_reducible refine (cP2b _ _ _ hc1 HL1.out h40).mono ?_); rintro e w4 ⟨A3, c3, rfl, hb4⟩; replace hu := hu.call hb4; clear hb4)
        | (refine wpList_store_fresh rfl 25 (.tmp 9) (.tmp 42) rfl 25 _ _ rfl rfl (bkS z16_len z16_len) (bkZ z16_len z16_len) bk_one ?_))
    go_ret
    exact ⟨rfl, hu.alloc _⟩
  go_upto_region 8 with (first
    | (refine wpList_load_mid rfl 25 (.tmp 7) rfl g7 0 rfl (bkC A1 1 c1 R2 z16) _ (range_all H7) Try.underlying25 rfl (bkJ hR2 z16_len) ?_)
    | (go_at_call 10; (with_reducible refine (cP2 _ _ _ hc1 HL1.out h40).mono ?_); rintro e w4 ⟨A3, c3, rfl, hc3, hl3, _, hb4⟩; have HL3 := Lib.hid hl3; replace hu := hu.call hb4; clear hb4 hl3)
    | (refine wpList_store_fresh rfl 25 (.tmp 9) (.tmp 42) rfl 25 _ _ rfl rfl (bkS hR2 z16_len) (bkZ hR2 z16_len) bk_one ?_))
  have H9 := Box.new w4 (bkC A3 2 c3 R2 z16)
  replace HL3 := Lib.hid (HL3.out.calm ((Calm.refl _).alloc (.cells (bkC A3 2 c3 R2 z16).toArray 25)))
  replace hu := hu.alloc (.cells (bkC A3 2 c3 R2 z16).toArray 25)
  generalize w4.heap.size = g9 at *
  clear H7 HL1 hc1 h7 h7l
  generalize (w4.alloc (.cells (bkC A3 2 c3 R2 z16).toArray 25)) = v4 at H9 HL3 hu ⊢
  go_upto_region 11 with (first
    | (refine wpList_load_mid rfl 25 (.tmp 9) rfl g9 0 rfl (bkC A3 2 c3 R2 z16) _ (range_all H9) Try.underlying25 rfl (bkJ hR2 z16_len) ?_)
    | (go_at_call 10; (with_reducible refine (cP3 _ _ _ hc3 HL3.out h40).mono ?_); rintro e w5 ⟨A5, c5, rfl, hb5⟩; replace hu := hu.call hb5; replace H9 := H9.calm hb5; replace HL3 := Lib.hid (HL3.out.calm hb5); clear hb5)
    | (refine wpList_store_fresh rfl 25 (.tmp 10) (.tmp 55) rfl 25 _ _ rfl rfl (bkS z16_len z16_len) (bkZ z16_len z16_len) bk_one ?_))
  replace HL3 := Lib.hid (HL3.out.calm ((Calm.refl _).alloc (.cells (bkC A5 0 c5 z16 z16).toArray 25)))
  replace H9 := H9.calm ((Calm.refl _).alloc (.cells (bkC A5 0 c5 z16 z16).toArray 25))
  replace hu := hu.alloc (.cells (bkC A5 0 c5 z16 z16).toArray 25)
  generalize (w5.alloc (.cells (bkC A5 0 c5 z16 z16).toArray 25)) = v5 at H9 HL3 hu ⊢
  obtain ⟨b, q, p9, o9, f9, m9, k9, s9, rfl, hb9, HE9, hm9, e0, e1, e2, e3, e4, e5⟩ := HL3.out.get (k := 1) (by simp)
  have hE9 := HE9.out
  injection hE9 with hE9
  injection hE9 with x1 x2 x3 x4 x5 x6
  subst x1 x2 x3 x4 x5 x6
  have r0 := H9.run
  clear HE9
  go_wp2_with fail
  go_ret
  exact ⟨rfl, hu⟩
end Go.Proofs.Ytljjeolifdpedaa
