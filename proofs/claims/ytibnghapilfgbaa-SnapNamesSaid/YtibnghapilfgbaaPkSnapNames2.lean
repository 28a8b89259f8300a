/- Texts of one kind in one file. -/
import Derived.Test.YtibnghapilfgbaaPkSnapNames1
set_option maxRecDepth 100000
namespace Go.Proofs.Ytibnghapilfgbaa
open Go.ChangeShapes Go.WideShapes Go.ChangeAt Go.RowKit
set_option maxHeartbeats 8000000 in
theorem equalN_self (A A' : Option Addr) (c c' : Nat) (l : List Sn) (w : World) (hn : l.length ≤ 9223372036854775807) (hL : LiesN w A l) (hL' : LiesN w A' l) :
    Calls Try.prog 16 #[.slice A l.length c, .slice A' l.length c'] w fun e w' => e = .returned (.bool true) ∧ Calm w w' := by
  go_enter Try.func16, Try.ntmps16
  go_wp2_with fail
  go_loopw [13] (fun i wr => ∃ k : Nat, k ≤ l.length ∧ i = .int .i64 k ∧ Calm w wr) (fun i _ => l.length - (intOf i).toNat)
  case atStart => exact ⟨0, Nat.zero_le _, rfl, Calm.refl _⟩
  case round =>
    obtain ⟨k, hk, rfl, hu⟩ := hrel
    by_cases hlt : k < l.length
    rotate_left
    · go_wp2_with fail
      go_ret
      exact ⟨rfl, hu⟩
    obtain ⟨b, q, nm, td, rfl, hb, HE, c0, c1⟩ := sn_get (hL.calm hu) hlt
    obtain ⟨b', q', nm', td', rfl, hb', HE', d0, d1⟩ := sn_get (hL'.calm hu) hlt
    have hq : (⟨nm, td⟩ : Sn) = ⟨nm', td'⟩ := by have := HE.out.symm.trans HE'.out; injection this
    injection hq with e0 e1
    subst e0; subst e1
    clear hL hL' HE HE'
    go_wp2_with fail
    refine wp_region_plan [.val (.slice (some ⟨b, q, none⟩) l.length c), .val (.int .i64 ((k : Int))), .val (.pointer (some ⟨b, q + k * 2, none⟩)), .val (.agg #[.string nm, .int .i64 td]), .val (.slice (some ⟨b', q', none⟩) l.length c'), .val (.int .i64 ((k : Int))), .val (.pointer (some ⟨b', q' + k * 2, none⟩)), .val (.agg #[.string nm, .int .i64 td]), .val (.bool false)] (by kernel_rfl) (by kernel_rfl) (by kernel_rfl) ?_
    intro X
    iterate 9
      refine plan_val (by kernel_rfl) (fun u hu => ?_) ?_
      · obtain ⟨hc, hf, hz⟩ := hu.of_drew.facts
        go_simp
      simp only [Act.put, List.setIfInBounds_toArray, List.set_cons_zero, List.set_cons_succ, Nat.reduceAdd]
    refine plan_end ?_
    intro w' hB
    have hk := hB.calm.of_drew
    clear hB
    go_wp2_with fail
    go_roundw
    case rel => exact ⟨k + 1, by omega, by go_num, hu.call hk⟩
    case measure => simp [intOf]; omega
theorem own_at {w : World} {v : Value} {base : Nat} {l : List Sn} {n : Nat} (h : OwnSn base w v l) (hn : l.length = n) : ∃ A c, v = .slice A n c ∧ Hid (LiesN w A l) := by
 obtain ⟨A, c, hv, h1, _, h2⟩ := OwnG.lies snV_len h
 subst hn
 exact ⟨A, c, hv, h2⟩
theorem sns_one {w : World} {g t : Nat} (x : Sn) (h : w.heap[g]? = some (.cells #[.string x.nm, .int .i64 x.td] t (0, 0))) : LiesN w (some ⟨g, 0, none⟩) [x] := fun _ => by
 refine ⟨g, 0, rfl, (Array.getElem?_eq_some_iff.1 h).1, fun k y hy j hj => ?_⟩
 have hk : k = 0 := by have := (List.getElem?_eq_some_iff.1 hy).1; simp at this; exact this
 subst hk
 simp at hy; subst hy
 rw [cell_of_row w g _ _ t _ h]
 simp [snV]
theorem one_add : adErr [] { data := #[97] } 5 = 0 ∧ adL [] { data := #[97] } 5 = [snA] := by
 have h : adErr [] { data := #[97] } 5 = 0 := by kernel_rfl
 exact ⟨h, by unfold adL; rw [if_pos h]; rfl⟩
theorem cAdd_is {A : Option Addr} {c : Nat} {l L : List Sn} {x : ByteArray} {t E : Int} {u : World} (hn : l.length ≤ 9223372036854775807) (hS : Szs l) (hx : x.size ≤ maxLen) (h : LiesN u A l) (hE : adErr l x t = E) (hL : adL l x t = L) : Calls Try.prog 6 #[.slice A l.length c, .string x, .int .i64 t] u (SnEnd L E u) := by
 have := snAdd_any A c l x t u hn hS hx h
 rw [hE, hL] at this
 exact this
theorem cDrop_is {A : Option Addr} {c : Nat} {l L : List Sn} {x : ByteArray} {u : World} (hn : l.length ≤ 9223372036854775807) (hS : Szs l) (h : LiesN u A l) (hE : fiErr l x = 0) (hL : drL l x = L) : Calls Try.prog 7 #[.slice A l.length c, .string x] u (SnEnd L 0 u) := by
 have := snDrop_any A c l x u hn hS h
 rw [hE, hL] at this
 exact this
theorem cFind_is {A : Option Addr} {c : Nat} {l : List Sn} {x : ByteArray} {u : World} {t E : Int} (hn : l.length ≤ 9223372036854775807) (hS : Szs l) (h : LiesN u A l) (hE : fiErr l x = E) (hT : fiT l x = t) : Calls Try.prog 8 #[.slice A l.length c, .string x] u fun e w' => e = .returned (.tuple #[.int .i64 t, .int .i64 E]) ∧ Calm u w' := by
 have := snFind_any A c l x u hn hS h
 rw [hE, hT] at this
 exact this
set_option maxHeartbeats 16000000 in
theorem snapNames_walk (A : Option Addr) (c : Nat) (l : List Sn) (a b : ByteArray) (t u0 : Int) (w : World) (hn : l.length ≤ 9223372036854775807) (hS : Szs l) (ha : a.size ≤ maxLen) (hb0 : b.size ≤ maxLen) (hL : LiesN w A l) :
    Calls Try.prog 4 #[.slice A l.length c, .string a, .string b, .int .i64 t, .int .i64 u0] w fun e w' => e = .returned (.bool true) ∧ Calm w w' := by
  have hu := Calm.refl w
  have HL := Lib.hid hL
  clear hL
  have c0 : ∀ u, Calls Try.prog 6 #[.slice none 0 0, .string { data := #[97] }, .int .i64 5] u (SnEnd [snA] 0 u) := fun u => cAdd_is (l := []) (by simp) (fun s h => by simp at h) (by decide) (fun h => absurd h (by simp)) one_add.1 one_add.2
  have cQ0 : ∀ A c A' c' u, LiesN u A [snA] → LiesN u A' [snA] → Calls Try.prog 16 #[.slice A 1 c, .slice A' 1 c'] u fun e w' => e = .returned (.bool true) ∧ Calm u w' := fun A c A' c' u h h' => equalN_self A A' c c' [snA] u (by simp) h h'
  obtain ⟨E, hE⟩ : ∃ E, adErr l a t = E := ⟨_, rfl⟩
  obtain ⟨X, hX⟩ : ∃ X, adL l a t = X := ⟨_, rfl⟩
  have cX := fun u (hu : Calm w u) => cAdd_is (c := c) hn hS ha (HL.out.calm hu) hE hX
  by_cases h1 : E = 0
  rotate_left
  · obtain rfl : X = [] := by rw [← hX]; unfold adL; rw [hE, if_neg h1]
    have b1 : (E != 0) = true := by simpa using h1
    clear hE hX h1 HL hS
    go_enter Try.func4, Try.ntmps4
    go_wp2_with (first
      | (go_at_call 6; (with_reducible refine (cX _ hu).mono ?_); rintro e wA3 ⟨v, rfl, ho, hb⟩; obtain ⟨A3, c3, rfl, H3⟩ := own_at ho (rfl : _ = 0); replace hu := hu.call hb; clear ho hb cX)
      | (go_at_call 6; (with_reducible refine (c0 _).mono ?_); rintro e wA2 ⟨v, rfl, ho, hb⟩; obtain ⟨A2, c2, rfl, H2⟩ := own_at ho rfl; replace hu := hu.call hb; clear ho hb c0)
      | (go_at_call 16; replace hu := hu.alloc (.cells #[.string { data := #[97] }, .int .i64 5] 35 (0, 0)); (refine (cQ0 _ _ _ _ _ (LiesG.calm H2.out ((Calm.refl _).alloc (.cells #[.string { data := #[97] }, .int .i64 5] 35 (0, 0)))) (sns_one snA (heap_new _ _))).mono ?_); rintro e wq ⟨rfl, hb⟩; replace hu := hu.call hb; clear hb H2 cQ0))
    go_ret
    exact ⟨rfl, hu⟩
  subst h1
  have gX : GoodS X := hX ▸ (ad_good hE).1
  have sX := szs_good gX
  have lX : X.length ≤ 9223372036854775807 := by have := gX.1; omega
  have fX := added_find hE
  have dX := added_drop hE
  have aX := absent_find hE
  rw [hX] at fX dX
  have cF1 := fun A c u (h : LiesN u A X) => cFind_is (c := c) lX sX h fX.1 fX.2
  have cD := fun A c u (h : LiesN u A X) => cDrop_is (c := c) lX sX h fX.1 dX
  have cF2 := fun A c u (h : LiesN u A l) => cFind_is (c := c) hn hS h aX.1 aX.2
  have cQ1 := fun A c A' c' u (h : LiesN u A l) (h' : LiesN u A' l) => equalN_self A A' c c' l u hn h h'
  have cCh := fun A c u (h : LiesN u A X) => snCheck_any A c X u lX sX h
  rw [snErr_zero.2 gX] at cCh
  obtain ⟨F, hF⟩ : ∃ F, adErr X b u0 = F := ⟨_, rfl⟩
  obtain ⟨P, hP⟩ : ∃ P, adL X b u0 = P := ⟨_, rfl⟩
  obtain ⟨G, hG⟩ : ∃ G, adErr l b u0 = G := ⟨_, rfl⟩
  obtain ⟨Q, hQ⟩ : ∃ Q, adL l b u0 = Q := ⟨_, rfl⟩
  have cP := fun A c u (h : LiesN u A X) => cAdd_is (c := c) lX sX hb0 h hF hP
  have cQ := fun u (hu : Calm w u) => cAdd_is (c := c) hn hS hb0 (HL.out.calm hu) hG hQ
  have b9 : (t != t) = false := by simp
  by_cases h2 : F = 0
  rotate_left
  · have b1 : (F != 0) = true := by simpa using h2
    clear hE hX fX dX aX hF hP hG hQ h2 gX
    go_enter Try.func4, Try.ntmps4
    go_wp2_with (first
      | (go_at_call 6; (with_reducible refine (cX _ hu).mono ?_); rintro e wA3 ⟨v, rfl, ho, hb⟩; obtain ⟨A3, c3, rfl, H3⟩ := own_at ho rfl; replace hu := hu.call hb; clear ho hb cX)
      | (go_at_call 8; (with_reducible refine (cF1 _ _ _ H3.out).mono ?_); rintro e wn ⟨rfl, hb⟩; replace hu := hu.call hb; replace H3 := Lib.hid (LiesG.calm H3.out hb); clear hb cF1)
      | (go_at_call 7; (with_reducible refine (cD _ _ _ H3.out).mono ?_); rintro e wA4 ⟨v, rfl, ho, hb⟩; obtain ⟨A4, c4, rfl, H4⟩ := own_at ho rfl; replace hu := hu.call hb; replace H3 := Lib.hid (LiesG.calm H3.out hb); clear ho hb cD)
      | (go_at_call 8; (with_reducible refine (cF2 _ _ _ H4.out).mono ?_); rintro e wn ⟨rfl, hb⟩; replace hu := hu.call hb; replace H3 := Lib.hid (LiesG.calm H3.out hb); replace H4 := Lib.hid (LiesG.calm H4.out hb); clear hb cF2)
      | (go_at_call 16; (with_reducible refine (cQ1 _ _ _ _ _ H4.out (HL.out.calm hu)).mono ?_); rintro e wq ⟨rfl, hb⟩; replace hu := hu.call hb; replace H3 := Lib.hid (LiesG.calm H3.out hb); clear hb cQ1)
      | (go_at_call 11; (with_reducible refine (cCh _ _ _ H3.out).mono ?_); rintro e wn ⟨rfl, hb⟩; replace hu := hu.call hb; replace H3 := Lib.hid (LiesG.calm H3.out hb); clear hb cCh)
      | (go_at_call 6; (with_reducible refine (cP _ _ _ H3.out).mono ?_); rintro e wA5 ⟨v, rfl, ho, hb⟩; obtain ⟨A5, c5, rfl, H5⟩ := own_at ho rfl; replace hu := hu.call hb; clear ho hb cP H3)
      | (go_at_call 6; (with_reducible refine (cQ _ hu).mono ?_); rintro e wA6 ⟨v, rfl, ho, hb⟩; obtain ⟨A6, c6, rfl, H6⟩ := own_at ho rfl; replace hu := hu.call hb; replace H5 := Lib.hid (LiesG.calm H5.out hb); clear ho hb cQ)
      | (go_at_call 6; (with_reducible refine (c0 _).mono ?_); rintro e wA2 ⟨v, rfl, ho, hb⟩; obtain ⟨A2, c2, rfl, H2⟩ := own_at ho rfl; replace hu := hu.call hb; clear ho hb c0)
      | (go_at_call 16; replace hu := hu.alloc (.cells #[.string { data := #[97] }, .int .i64 5] 35 (0, 0)); (refine (cQ0 _ _ _ _ _ (LiesG.calm H2.out ((Calm.refl _).alloc (.cells #[.string { data := #[97] }, .int .i64 5] 35 (0, 0)))) (sns_one snA (heap_new _ _))).mono ?_); rintro e wq ⟨rfl, hb⟩; replace hu := hu.call hb; clear hb H2 cQ0))
    go_ret
    exact ⟨rfl, hu⟩
  subst h2
  by_cases h3 : G = 0
  rotate_left
  · have b1 : (G != 0) = true := by simpa using h3
    clear hE hX fX dX aX hF hP hG hQ h3 gX
    go_enter Try.func4, Try.ntmps4
    go_wp2_with (first
      | (go_at_call 6; (with_reducible refine (cX _ hu).mono ?_); rintro e wA3 ⟨v, rfl, ho, hb⟩; obtain ⟨A3, c3, rfl, H3⟩ := own_at ho rfl; replace hu := hu.call hb; clear ho hb cX)
      | (go_at_call 8; (with_reducible refine (cF1 _ _ _ H3.out).mono ?_); rintro e wn ⟨rfl, hb⟩; replace hu := hu.call hb; replace H3 := Lib.hid (LiesG.calm H3.out hb); clear hb cF1)
      | (go_at_call 7; (with_reducible refine (cD _ _ _ H3.out).mono ?_); rintro e wA4 ⟨v, rfl, ho, hb⟩; obtain ⟨A4, c4, rfl, H4⟩ := own_at ho rfl; replace hu := hu.call hb; replace H3 := Lib.hid (LiesG.calm H3.out hb); clear ho hb cD)
      | (go_at_call 8; (with_reducible refine (cF2 _ _ _ H4.out).mono ?_); rintro e wn ⟨rfl, hb⟩; replace hu := hu.call hb; replace H3 := Lib.hid (LiesG.calm H3.out hb); replace H4 := Lib.hid (LiesG.calm H4.out hb); clear hb cF2)
      | (go_at_call 16; (with_reducible refine (cQ1 _ _ _ _ _ H4.out (HL.out.calm hu)).mono ?_); rintro e wq ⟨rfl, hb⟩; replace hu := hu.call hb; replace H3 := Lib.hid (LiesG.calm H3.out hb); clear hb cQ1)
      | (go_at_call 11; (with_reducible refine (cCh _ _ _ H3.out).mono ?_); rintro e wn ⟨rfl, hb⟩; replace hu := hu.call hb; replace H3 := Lib.hid (LiesG.calm H3.out hb); clear hb cCh)
      | (go_at_call 6; (with_reducible refine (cP _ _ _ H3.out).mono ?_); rintro e wA5 ⟨v, rfl, ho, hb⟩; obtain ⟨A5, c5, rfl, H5⟩ := own_at ho rfl; replace hu := hu.call hb; clear ho hb cP H3)
      | (go_at_call 6; (with_reducible refine (cQ _ hu).mono ?_); rintro e wA6 ⟨v, rfl, ho, hb⟩; obtain ⟨A6, c6, rfl, H6⟩ := own_at ho rfl; replace hu := hu.call hb; replace H5 := Lib.hid (LiesG.calm H5.out hb); clear ho hb cQ)
      | (go_at_call 6; (with_reducible refine (c0 _).mono ?_); rintro e wA2 ⟨v, rfl, ho, hb⟩; obtain ⟨A2, c2, rfl, H2⟩ := own_at ho rfl; replace hu := hu.call hb; clear ho hb c0)
      | (go_at_call 16; replace hu := hu.alloc (.cells #[.string { data := #[97] }, .int .i64 5] 35 (0, 0)); (refine (cQ0 _ _ _ _ _ (LiesG.calm H2.out ((Calm.refl _).alloc (.cells #[.string { data := #[97] }, .int .i64 5] 35 (0, 0)))) (sns_one snA (heap_new _ _))).mono ?_); rintro e wq ⟨rfl, hb⟩; replace hu := hu.call hb; clear hb H2 cQ0))
    go_ret
    exact ⟨rfl, hu⟩
  subst h3
  have gQ : GoodS Q := hQ ▸ (ad_good hG).1
  have gP : GoodS P := hP ▸ (ad_good hF).1
  have h4 := add_two hE (by rw [hX]; exact hF) hG
  rw [hX, hP, hQ] at h4
  have cR := fun A c u (h : LiesN u A Q) => cAdd_is (c := c) (by have := gQ.1; omega) (szs_good gQ) ha h h4.1 h4.2
  have cQ2 := fun A c A' c' u (h : LiesN u A P) (h' : LiesN u A' P) => equalN_self A A' c c' P u (by have := gP.1; omega) h h'
  clear hE hX fX dX aX hF hP hG hQ h4 gX gQ gP
  go_enter Try.func4, Try.ntmps4
  go_wp2_with (first
    | (go_at_call 6; (with_reducible refine (cX _ hu).mono ?_); rintro e wA3 ⟨v, rfl, ho, hb⟩; obtain ⟨A3, c3, rfl, H3⟩ := own_at ho rfl; replace hu := hu.call hb; clear ho hb cX)
    | (go_at_call 8; (with_reducible refine (cF1 _ _ _ H3.out).mono ?_); rintro e wn ⟨rfl, hb⟩; replace hu := hu.call hb; replace H3 := Lib.hid (LiesG.calm H3.out hb); clear hb cF1)
    | (go_at_call 7; (with_reducible refine (cD _ _ _ H3.out).mono ?_); rintro e wA4 ⟨v, rfl, ho, hb⟩; obtain ⟨A4, c4, rfl, H4⟩ := own_at ho rfl; replace hu := hu.call hb; replace H3 := Lib.hid (LiesG.calm H3.out hb); clear ho hb cD)
    | (go_at_call 8; (with_reducible refine (cF2 _ _ _ H4.out).mono ?_); rintro e wn ⟨rfl, hb⟩; replace hu := hu.call hb; replace H3 := Lib.hid (LiesG.calm H3.out hb); replace H4 := Lib.hid (LiesG.calm H4.out hb); clear hb cF2)
    | (go_at_call 16; (with_reducible refine (cQ1 _ _ _ _ _ H4.out (HL.out.calm hu)).mono ?_); rintro e wq ⟨rfl, hb⟩; replace hu := hu.call hb; replace H3 := Lib.hid (LiesG.calm H3.out hb); clear hb cQ1)
    | (go_at_call 11; (with_reducible refine (cCh _ _ _ H3.out).mono ?_); rintro e wn ⟨rfl, hb⟩; replace hu := hu.call hb; replace H3 := Lib.hid (LiesG.calm H3.out hb); clear hb cCh)
    | (go_at_call 6; (with_reducible refine (cP _ _ _ H3.out).mono ?_); rintro e wA5 ⟨v, rfl, ho, hb⟩; obtain ⟨A5, c5, rfl, H5⟩ := own_at ho rfl; replace hu := hu.call hb; clear ho hb cP H3)
    | (go_at_call 6; (with_reducible refine (cQ _ hu).mono ?_); rintro e wA6 ⟨v, rfl, ho, hb⟩; obtain ⟨A6, c6, rfl, H6⟩ := own_at ho rfl; replace hu := hu.call hb; replace H5 := Lib.hid (LiesG.calm H5.out hb); clear ho hb cQ)
    | (go_at_call 6; (with_reducible refine (cR _ _ _ H6.out).mono ?_); rintro e wA7 ⟨v, rfl, ho, hb⟩; obtain ⟨A7, c7, rfl, H7⟩ := own_at ho rfl; replace hu := hu.call hb; replace H5 := Lib.hid (LiesG.calm H5.out hb); clear ho hb cR)
    | (go_at_call 16; (with_reducible refine (cQ2 _ _ _ _ _ H5.out H7.out).mono ?_); rintro e wq ⟨rfl, hb⟩; replace hu := hu.call hb; clear hb cQ2)
    | (go_at_call 6; (with_reducible refine (c0 _).mono ?_); rintro e wA2 ⟨v, rfl, ho, hb⟩; obtain ⟨A2, c2, rfl, H2⟩ := own_at ho rfl; replace hu := hu.call hb; clear ho hb c0)
    | (go_at_call 16; replace hu := hu.alloc (.cells #[.string { data := #[97] }, .int .i64 5] 35 (0, 0)); (refine (cQ0 _ _ _ _ _ (LiesG.calm H2.out ((Calm.refl _).alloc (.cells #[.string { data := #[97] }, .int .i64 5] 35 (0, 0)))) (sns_one snA (heap_new _ _))).mono ?_); rintro e wq ⟨rfl, hb⟩; replace hu := hu.call hb; clear hb H2 cQ0))
  go_ret
  exact ⟨rfl, hu⟩
end Go.Proofs.Ytibnghapilfgbaa
