/- Texts of one kind in one file. -/
import Derived.Test.YtoklknjjkchgmaaPkPageOne2
set_option maxRecDepth 100000
namespace Go.Proofs.Ytoklknjjkchgmaa
open Go.RowKit
instance : DecidableEq Sp := fun a b => decidable_of_iff (a.p = b.p ∧ a.o = b.o ∧ a.f = b.f ∧ a.m = b.m) (by cases a; cases b; simp)
set_option maxHeartbeats 8000000 in
theorem equalI_any (A A' : Option Addr) (c c' : Nat) (l l' : List Int) (w : World) (hn : l.length ≤ 9223372036854775807) (hL : LiesI w A l) (hL' : LiesI w A' l') :
    Calls Try.prog 60 #[.slice A l.length c, .slice A' l'.length c'] w fun e w' => e = .returned (.bool (decide (l = l'))) ∧ Calm w w' := by
  by_cases hll : l.length = l'.length
  rotate_left
  · have hd : decide (l = l') = false := decide_eq_false fun h => hll (by rw [h])
    have hz : ¬ (l.length : Int) = (l'.length : Int) := by omega
    rw [hd]
    clear hd hll hL hL'
    go_enter Try.func60, Try.ntmps60
    go_wp2_with fail
    go_ret
    exact ⟨rfl, Calm.refl _⟩
  generalize hr : decide (l = l') = r
  have HR : Hid (decide (l = l') = r) := hr
  clear hr
  obtain ⟨n, hn1⟩ : ∃ n, n = l.length := ⟨_, rfl⟩
  have hn2 : n = l'.length := hn1.trans hll
  rw [← hn1, ← hn2]
  rw [← hn1] at hn
  have HN1 : Hid (n = l.length) := hn1
  have HN2 : Hid (n = l'.length) := hn2
  clear hn1 hn2 hll
  go_enter Try.func60, Try.ntmps60
  go_wp2_with fail
  go_loopw [13] (fun i wr => ∃ k : Nat, k ≤ n ∧ i = .int .i64 k ∧ Calm w wr ∧ Hid (∀ j, j < k → l[j]? = l'[j]?)) (fun i _ => n - (intOf i).toNat)
  case atStart => exact ⟨0, Nat.zero_le _, rfl, Calm.refl _, show ∀ _, _ from fun j h => absurd h (Nat.not_lt_zero _)⟩
  case round =>
    obtain ⟨k, hk, rfl, hu, hN⟩ := hrel
    by_cases hlt : k < n
    rotate_left
    · have K : Hid (r = true) := by
        rw [← HR.out]
        refine decide_eq_true (List.ext_getElem? fun j => ?_)
        rcases Nat.lt_or_ge j k with h | h
        · exact hN.out j h
        · rw [List.getElem?_eq_none (by rw [← HN1.out]; omega), List.getElem?_eq_none (by rw [← HN2.out]; omega)]
      clear HR
      go_wp2_with fail
      go_ret
      exact ⟨by rw [K.out]; rfl, hu⟩
    obtain ⟨b, q, x, rfl, hb, HE, c0⟩ := (hL.calm hu).get (by rw [← HN1.out]; exact hlt)
    obtain ⟨b', q', x', rfl, hb', HE', d0⟩ := (hL'.calm hu).get (by rw [← HN2.out]; exact hlt)
    have hiz : (k : Int) < (n : Int) := by omega
    have hDF : (x : Int) ≠ x' → l ≠ l' := fun h h2 => by
      have h3 := HE.out; rw [h2, HE'.out] at h3; injection h3 with h3; exact h h3.symm
    have hN1 : (x : Int) = x' → Hid (∀ j, j < k + 1 → l[j]? = l'[j]?) := fun h => show ∀ _, _ from fun j hj => by
      rcases Nat.lt_or_ge j k with h2 | h2
      · exact hN.out j h2
      · rw [show j = k by omega, HE.out, HE'.out, h]
    have HR2 := HR.out
    clear hL hL' HE HE'
    have hcs : (¬ x = x') ∨ (x = x') := by
      by_cases e0 : x = x' <;> simp [*]
    rcases hcs with h0 | h0
    · skip
      go_wp2_with fail
      refine wp_region_plan [.val (.slice (some ⟨b, q, none⟩) n c), .val (.int .i64 ((k : Int))), .val (.pointer (some ⟨b, q + k, none⟩)), .val (.int .i64 x), .val (.slice (some ⟨b', q', none⟩) n c'), .val (.int .i64 ((k : Int))), .val (.pointer (some ⟨b', q' + k, none⟩)), .val (.int .i64 x'), .val (.bool true)] (by kernel_rfl) (by kernel_rfl) (by kernel_rfl) ?_
      intro X
      iterate 9
        refine plan_val (by kernel_rfl) (fun u hu => ?_) ?_
        · obtain ⟨hc, hf, hz⟩ := hu.of_drew.facts
          go_simp
        simp only [Act.put, List.setIfInBounds_toArray, List.set_cons_zero, List.set_cons_succ, Nat.reduceAdd]
      refine plan_end ?_
      intro w' hB
      have hk := hB.calm.of_drew
      clear hB
      go_wp2_with fail
      go_ret
      exact ⟨ret_bool ((decide_eq_false (hDF (by simp [*]))).symm.trans HR2), hu.call hk⟩
    · skip
      subst h0
      have hN2 := hN1 rfl
      clear hN1 hDF
      go_wp2_with fail
      refine wp_region_plan [.val (.slice (some ⟨b, q, none⟩) n c), .val (.int .i64 ((k : Int))), .val (.pointer (some ⟨b, q + k, none⟩)), .val (.int .i64 x), .val (.slice (some ⟨b', q', none⟩) n c'), .val (.int .i64 ((k : Int))), .val (.pointer (some ⟨b', q' + k, none⟩)), .val (.int .i64 x), .val (.bool false)] (by kernel_rfl) (by kernel_rfl) (by kernel_rfl) ?_
      intro X
      iterate 9
        refine plan_val (by kernel_rfl) (fun u hu => ?_) ?_
        · obtain ⟨hc, hf, hz⟩ := hu.of_drew.facts
          go_simp
        simp only [Act.put, List.setIfInBounds_toArray, List.set_cons_zero, List.set_cons_succ, Nat.reduceAdd]
      refine plan_end ?_
      intro w' hB
      have hk := hB.calm.of_drew
      clear hB
      go_wp2_with fail
      go_roundw
      case rel => exact ⟨k + 1, by omega, by go_num, hu.call hk, hN2⟩
      case measure => simp [intOf]; omega
set_option maxHeartbeats 8000000 in
theorem equalS_any (A A' : Option Addr) (c c' : Nat) (l l' : List Sp) (w : World) (hn : l.length ≤ 9223372036854775807) (hL : LiesS w A l) (hL' : LiesS w A' l') :
    Calls Try.prog 61 #[.slice A l.length c, .slice A' l'.length c'] w fun e w' => e = .returned (.bool (decide (l = l'))) ∧ Calm w w' := by
  by_cases hll : l.length = l'.length
  rotate_left
  · have hd : decide (l = l') = false := decide_eq_false fun h => hll (by rw [h])
    have hz : ¬ (l.length : Int) = (l'.length : Int) := by omega
    rw [hd]
    clear hd hll hL hL'
    go_enter Try.func61, Try.ntmps61
    go_wp2_with fail
    go_ret
    exact ⟨rfl, Calm.refl _⟩
  generalize hr : decide (l = l') = r
  have HR : Hid (decide (l = l') = r) := hr
  clear hr
  obtain ⟨n, hn1⟩ : ∃ n, n = l.length := ⟨_, rfl⟩
  have hn2 : n = l'.length := hn1.trans hll
  rw [← hn1, ← hn2]
  rw [← hn1] at hn
  have HN1 : Hid (n = l.length) := hn1
  have HN2 : Hid (n = l'.length) := hn2
  clear hn1 hn2 hll
  go_enter Try.func61, Try.ntmps61
  go_wp2_with fail
  go_loopw [13] (fun i wr => ∃ k : Nat, k ≤ n ∧ i = .int .i64 k ∧ Calm w wr ∧ Hid (∀ j, j < k → l[j]? = l'[j]?)) (fun i _ => n - (intOf i).toNat)
  case atStart => exact ⟨0, Nat.zero_le _, rfl, Calm.refl _, show ∀ _, _ from fun j h => absurd h (Nat.not_lt_zero _)⟩
  case round =>
    obtain ⟨k, hk, rfl, hu, hN⟩ := hrel
    by_cases hlt : k < n
    rotate_left
    · have K : Hid (r = true) := by
        rw [← HR.out]
        refine decide_eq_true (List.ext_getElem? fun j => ?_)
        rcases Nat.lt_or_ge j k with h | h
        · exact hN.out j h
        · rw [List.getElem?_eq_none (by rw [← HN1.out]; omega), List.getElem?_eq_none (by rw [← HN2.out]; omega)]
      clear HR
      go_wp2_with fail
      go_ret
      exact ⟨by rw [K.out]; rfl, hu⟩
    obtain ⟨b, q, p, o, f, m, rfl, hb, HE, -, c0, c1, c2, c3⟩ := (hL.calm hu).get (by rw [← HN1.out]; exact hlt)
    obtain ⟨b', q', p', o', f', m', rfl, hb', HE', -, d0, d1, d2, d3⟩ := (hL'.calm hu).get (by rw [← HN2.out]; exact hlt)
    have hiz : (k : Int) < (n : Int) := by omega
    have hDF : (⟨p, o, f, m⟩ : Sp) ≠ ⟨p', o', f', m'⟩ → l ≠ l' := fun h h2 => by
      have h3 := HE.out; rw [h2, HE'.out] at h3; injection h3 with h3; exact h h3.symm
    have hN1 : (⟨p, o, f, m⟩ : Sp) = ⟨p', o', f', m'⟩ → Hid (∀ j, j < k + 1 → l[j]? = l'[j]?) := fun h => show ∀ _, _ from fun j hj => by
      rcases Nat.lt_or_ge j k with h2 | h2
      · exact hN.out j h2
      · rw [show j = k by omega, HE.out, HE'.out, h]
    have HR2 := HR.out
    clear hL hL' HE HE'
    have hcs : (¬ p = p') ∨ (p = p' ∧ ¬ o = o') ∨ (p = p' ∧ o = o' ∧ ¬ f = f') ∨ (p = p' ∧ o = o' ∧ f = f' ∧ ¬ m = m') ∨ (p = p' ∧ o = o' ∧ f = f' ∧ m = m') := by
      by_cases e0 : p = p' <;> by_cases e1 : o = o' <;> by_cases e2 : f = f' <;> by_cases e3 : m = m' <;> simp [*]
    rcases hcs with ⟨h0⟩ | ⟨h0, h1⟩ | ⟨h0, h1, h2⟩ | ⟨h0, h1, h2, h3⟩ | ⟨h0, h1, h2, h3⟩
    · skip
      go_wp2_with fail
      refine wp_region_plan [.val (.slice (some ⟨b, q, none⟩) n c), .val (.int .i64 ((k : Int))), .val (.pointer (some ⟨b, q + k * 4, none⟩)), .val (.agg #[.int .i64 p, .int .i64 o, .int .i64 f, .int .i64 m]), .val (.slice (some ⟨b', q', none⟩) n c'), .val (.int .i64 ((k : Int))), .val (.pointer (some ⟨b', q' + k * 4, none⟩)), .val (.agg #[.int .i64 p', .int .i64 o', .int .i64 f', .int .i64 m']), .val (.bool true)] (by kernel_rfl) (by kernel_rfl) (by kernel_rfl) ?_
      intro X
      iterate 9
        refine plan_val (by kernel_rfl) (fun u hu => ?_) ?_
        · obtain ⟨hc, hf, hz⟩ := hu.of_drew.facts
          go_simp
        simp only [Act.put, List.setIfInBounds_toArray, List.set_cons_zero, List.set_cons_succ, Nat.reduceAdd]
      refine plan_end ?_
      intro w' hB
      have hk := hB.calm.of_drew
      clear hB
      go_wp2_with fail
      go_ret
      exact ⟨ret_bool ((decide_eq_false (hDF (by simp [*]))).symm.trans HR2), hu.call hk⟩
    · skip
      subst h0
      go_wp2_with fail
      refine wp_region_plan [.val (.slice (some ⟨b, q, none⟩) n c), .val (.int .i64 ((k : Int))), .val (.pointer (some ⟨b, q + k * 4, none⟩)), .val (.agg #[.int .i64 p, .int .i64 o, .int .i64 f, .int .i64 m]), .val (.slice (some ⟨b', q', none⟩) n c'), .val (.int .i64 ((k : Int))), .val (.pointer (some ⟨b', q' + k * 4, none⟩)), .val (.agg #[.int .i64 p, .int .i64 o', .int .i64 f', .int .i64 m']), .val (.bool true)] (by kernel_rfl) (by kernel_rfl) (by kernel_rfl) ?_
      intro X
      iterate 9
        refine plan_val (by kernel_rfl) (fun u hu => ?_) ?_
        · obtain ⟨hc, hf, hz⟩ := hu.of_drew.facts
          go_simp
        simp only [Act.put, List.setIfInBounds_toArray, List.set_cons_zero, List.set_cons_succ, Nat.reduceAdd]
      refine plan_end ?_
      intro w' hB
      have hk := hB.calm.of_drew
      clear hB
      go_wp2_with fail
      go_ret
      exact ⟨ret_bool ((decide_eq_false (hDF (by simp [*]))).symm.trans HR2), hu.call hk⟩
    · skip
      subst h0
      subst h1
      go_wp2_with fail
      refine wp_region_plan [.val (.slice (some ⟨b, q, none⟩) n c), .val (.int .i64 ((k : Int))), .val (.pointer (some ⟨b, q + k * 4, none⟩)), .val (.agg #[.int .i64 p, .int .i64 o, .int .i64 f, .int .i64 m]), .val (.slice (some ⟨b', q', none⟩) n c'), .val (.int .i64 ((k : Int))), .val (.pointer (some ⟨b', q' + k * 4, none⟩)), .val (.agg #[.int .i64 p, .int .i64 o, .int .i64 f', .int .i64 m']), .val (.bool true)] (by kernel_rfl) (by kernel_rfl) (by kernel_rfl) ?_
      intro X
      iterate 9
        refine plan_val (by kernel_rfl) (fun u hu => ?_) ?_
        · obtain ⟨hc, hf, hz⟩ := hu.of_drew.facts
          go_simp
        simp only [Act.put, List.setIfInBounds_toArray, List.set_cons_zero, List.set_cons_succ, Nat.reduceAdd]
      refine plan_end ?_
      intro w' hB
      have hk := hB.calm.of_drew
      clear hB
      go_wp2_with fail
      go_ret
      exact ⟨ret_bool ((decide_eq_false (hDF (by simp [*]))).symm.trans HR2), hu.call hk⟩
    · skip
      subst h0
      subst h1
      subst h2
      go_wp2_with fail
      refine wp_region_plan [.val (.slice (some ⟨b, q, none⟩) n c), .val (.int .i64 ((k : Int))), .val (.pointer (some ⟨b, q + k * 4, none⟩)), .val (.agg #[.int .i64 p, .int .i64 o, .int .i64 f, .int .i64 m]), .val (.slice (some ⟨b', q', none⟩) n c'), .val (.int .i64 ((k : Int))), .val (.pointer (some ⟨b', q' + k * 4, none⟩)), .val (.agg #[.int .i64 p, .int .i64 o, .int .i64 f, .int .i64 m']), .val (.bool true)] (by kernel_rfl) (by kernel_rfl) (by kernel_rfl) ?_
      intro X
      iterate 9
        refine plan_val (by kernel_rfl) (fun u hu => ?_) ?_
        · obtain ⟨hc, hf, hz⟩ := hu.of_drew.facts
          go_simp
        simp only [Act.put, List.setIfInBounds_toArray, List.set_cons_zero, List.set_cons_succ, Nat.reduceAdd]
      refine plan_end ?_
      intro w' hB
      have hk := hB.calm.of_drew
      clear hB
      go_wp2_with fail
      go_ret
      exact ⟨ret_bool ((decide_eq_false (hDF (by simp [*]))).symm.trans HR2), hu.call hk⟩
    · skip
      subst h0
      subst h1
      subst h2
      subst h3
      have hN2 := hN1 rfl
      clear hN1 hDF
      go_wp2_with fail
      refine wp_region_plan [.val (.slice (some ⟨b, q, none⟩) n c), .val (.int .i64 ((k : Int))), .val (.pointer (some ⟨b, q + k * 4, none⟩)), .val (.agg #[.int .i64 p, .int .i64 o, .int .i64 f, .int .i64 m]), .val (.slice (some ⟨b', q', none⟩) n c'), .val (.int .i64 ((k : Int))), .val (.pointer (some ⟨b', q' + k * 4, none⟩)), .val (.agg #[.int .i64 p, .int .i64 o, .int .i64 f, .int .i64 m]), .val (.bool false)] (by kernel_rfl) (by kernel_rfl) (by kernel_rfl) ?_
      intro X
      iterate 9
        refine plan_val (by kernel_rfl) (fun u hu => ?_) ?_
        · obtain ⟨hc, hf, hz⟩ := hu.of_drew.facts
          go_simp
        simp only [Act.put, List.setIfInBounds_toArray, List.set_cons_zero, List.set_cons_succ, Nat.reduceAdd]
      refine plan_end ?_
      intro w' hB
      have hk := hB.calm.of_drew
      clear hB
      go_wp2_with fail
      go_roundw
      case rel => exact ⟨k + 1, by omega, by go_num, hu.call hk, hN2⟩
      case measure => simp [intOf]; omega
set_option maxHeartbeats 8000000 in
theorem sameNode_any (kd : Int) (A1 A2 A3 A4 : Option Addr) (c1 c2 c3 c4 : Nat) (E : List El) (K : List Int) (S : List Sp) (T : List Int) (kd' : Int) (A1' A2' A3' A4' : Option Addr) (c1' c2' c3' c4' : Nat) (E' : List El) (K' : List Int) (S' : List Sp) (T' : List Int) (w : World) (h : NdAt w A1 A2 A3 A4 E K S T) (h' : NdAt w A1' A2' A3' A4' E' K' S' T') :
    Calls Try.prog 40 #[.agg #[.int .i64 kd, .slice A1 E.length c1, .slice A2 K.length c2, .slice A3 S.length c3, .slice A4 T.length c4], .agg #[.int .i64 kd', .slice A1' E'.length c1', .slice A2' K'.length c2', .slice A3' S'.length c3', .slice A4' T'.length c4']] w fun e w' => e = .returned (.bool (decide (kd = kd' ∧ E = E' ∧ K = K' ∧ S = S' ∧ T = T'))) ∧ Calm w w' := by
  have hx := heap_past (.cells #[.int .i64 kd', .slice A1' E'.length c1', .slice A2' K'.length c2', .slice A3' S'.length c3', .slice A4' T'.length c4'] 63) (heap_new w (.cells #[.int .i64 kd, .slice A1 E.length c1, .slice A2 K.length c2, .slice A3 S.length c3, .slice A4 T.length c4] 63))
  have hy := heap_new2 w (.cells #[.int .i64 kd, .slice A1 E.length c1, .slice A2 K.length c2, .slice A3 S.length c3, .slice A4 T.length c4] 63) (.cells #[.int .i64 kd', .slice A1' E'.length c1', .slice A2' K'.length c2', .slice A3' S'.length c3', .slice A4' T'.length c4'] 63)
  have hu := ((Calm.refl w).alloc (.cells #[.int .i64 kd, .slice A1 E.length c1, .slice A2 K.length c2, .slice A3 S.length c3, .slice A4 T.length c4] 63)).alloc (.cells #[.int .i64 kd', .slice A1' E'.length c1', .slice A2' K'.length c2', .slice A3' S'.length c3', .slice A4' T'.length c4'] 63)
  have cE := fun u (hu : Calm w u) => equal_any A1 A1' c1 c1' E E' u h.ne h'.ne (h.e.calm hu) (h'.e.calm hu)
  have cK := fun u (hu : Calm w u) => equalI_any A2 A2' c2 c2' K K' u h.nk (h.k.calm hu) (h'.k.calm hu)
  have cS := fun u (hu : Calm w u) => equalS_any A3 A3' c3 c3' S S' u h.ns (h.s.calm hu) (h'.s.calm hu)
  have cT := fun u (hu : Calm w u) => equalI_any A4 A4' c4 c4' T T' u h.nt (h.t.calm hu) (h'.t.calm hu)
  have hG : Hid (decide (kd = kd' ∧ E = E' ∧ K = K' ∧ S = S' ∧ T = T') = (decide (kd = kd') && decide (E = E') && decide (K = K') && decide (S = S') && decide (T = T'))) := by show _ = _; simp [Bool.decide_and, Bool.and_assoc]
  generalize decide (kd = kd' ∧ E = E' ∧ K = K' ∧ S = S' ∧ T = T') = r at hG ⊢
  generalize decide (E = E') = bE at cE hG
  generalize decide (K = K') = bK at cK hG
  generalize decide (S = S') = bS at cS hG
  generalize decide (T = T') = bT at cT hG
  have hk : (kd == kd') = decide (kd = kd') := by by_cases e : kd = kd' <;> simp [e]
  clear h h'
  obtain ⟨x0, x1, x2, x3, x4, hxs⟩ := row5 hx
  obtain ⟨y0, y1, y2, y3, y4, hys⟩ := row5 hy
  by_cases hkd : kd = kd'
  rotate_left
  · rw [decide_eq_false hkd] at hG hk
    clear hkd
    go_enter Try.func40, Try.ntmps40
    go_wp2_with fail
    go_ret
    exact ⟨ret_bool (by rw [hG.out]; simp), hu⟩
  subst hkd
  rw [decide_eq_true rfl] at hG hk
  clear hk
  cases bE
  · go_enter Try.func40, Try.ntmps40
    go_wp2_with (first
                    | (go_at_call 24; (with_reducible refine (cE _ hu).mono ?_); rintro e w1 ⟨rfl, hb1⟩; replace hu := hu.call hb1; replace hx := (hb1.block (row5 hx).2.2.2.2.2).trans hx; replace hy := (hb1.block (row5 hy).2.2.2.2.2).trans hy; clear hb1; obtain ⟨x0, x1, x2, x3, x4, hxs⟩ := row5 hx; obtain ⟨y0, y1, y2, y3, y4, hys⟩ := row5 hy)
                    | (go_at_call 60; (first | (with_reducible refine (cK _ hu).mono ?_) | (with_reducible refine (cT _ hu).mono ?_)); rintro e w1 ⟨rfl, hb1⟩; replace hu := hu.call hb1; replace hx := (hb1.block (row5 hx).2.2.2.2.2).trans hx; replace hy := (hb1.block (row5 hy).2.2.2.2.2).trans hy; clear hb1; obtain ⟨x0, x1, x2, x3, x4, hxs⟩ := row5 hx; obtain ⟨y0, y1, y2, y3, y4, hys⟩ := row5 hy)
                    | (go_at_call 61; (with_reducible refine (cS _ hu).mono ?_); rintro e w1 ⟨rfl, hb1⟩; replace hu := hu.call hb1; replace hx := (hb1.block (row5 hx).2.2.2.2.2).trans hx; replace hy := (hb1.block (row5 hy).2.2.2.2.2).trans hy; clear hb1; obtain ⟨x0, x1, x2, x3, x4, hxs⟩ := row5 hx; obtain ⟨y0, y1, y2, y3, y4, hys⟩ := row5 hy))
    go_ret
    exact ⟨ret_bool (by rw [hG.out]; simp), hu⟩
  · cases bK
    · go_enter Try.func40, Try.ntmps40
      go_wp2_with (first
                    | (go_at_call 24; (with_reducible refine (cE _ hu).mono ?_); rintro e w1 ⟨rfl, hb1⟩; replace hu := hu.call hb1; replace hx := (hb1.block (row5 hx).2.2.2.2.2).trans hx; replace hy := (hb1.block (row5 hy).2.2.2.2.2).trans hy; clear hb1; obtain ⟨x0, x1, x2, x3, x4, hxs⟩ := row5 hx; obtain ⟨y0, y1, y2, y3, y4, hys⟩ := row5 hy)
                    | (go_at_call 60; (first | (with_reducible refine (cK _ hu).mono ?_) | (with_reducible refine (cT _ hu).mono ?_)); rintro e w1 ⟨rfl, hb1⟩; replace hu := hu.call hb1; replace hx := (hb1.block (row5 hx).2.2.2.2.2).trans hx; replace hy := (hb1.block (row5 hy).2.2.2.2.2).trans hy; clear hb1; obtain ⟨x0, x1, x2, x3, x4, hxs⟩ := row5 hx; obtain ⟨y0, y1, y2, y3, y4, hys⟩ := row5 hy)
                    | (go_at_call 61; (with_reducible refine (cS _ hu).mono ?_); rintro e w1 ⟨rfl, hb1⟩; replace hu := hu.call hb1; replace hx := (hb1.block (row5 hx).2.2.2.2.2).trans hx; replace hy := (hb1.block (row5 hy).2.2.2.2.2).trans hy; clear hb1; obtain ⟨x0, x1, x2, x3, x4, hxs⟩ := row5 hx; obtain ⟨y0, y1, y2, y3, y4, hys⟩ := row5 hy))
      go_ret
      exact ⟨ret_bool (by rw [hG.out]; simp), hu⟩
    · cases bS
      · go_enter Try.func40, Try.ntmps40
        go_wp2_with (first
                    | (go_at_call 24; (with_reducible refine (cE _ hu).mono ?_); rintro e w1 ⟨rfl, hb1⟩; replace hu := hu.call hb1; replace hx := (hb1.block (row5 hx).2.2.2.2.2).trans hx; replace hy := (hb1.block (row5 hy).2.2.2.2.2).trans hy; clear hb1; obtain ⟨x0, x1, x2, x3, x4, hxs⟩ := row5 hx; obtain ⟨y0, y1, y2, y3, y4, hys⟩ := row5 hy)
                    | (go_at_call 60; (first | (with_reducible refine (cK _ hu).mono ?_) | (with_reducible refine (cT _ hu).mono ?_)); rintro e w1 ⟨rfl, hb1⟩; replace hu := hu.call hb1; replace hx := (hb1.block (row5 hx).2.2.2.2.2).trans hx; replace hy := (hb1.block (row5 hy).2.2.2.2.2).trans hy; clear hb1; obtain ⟨x0, x1, x2, x3, x4, hxs⟩ := row5 hx; obtain ⟨y0, y1, y2, y3, y4, hys⟩ := row5 hy)
                    | (go_at_call 61; (with_reducible refine (cS _ hu).mono ?_); rintro e w1 ⟨rfl, hb1⟩; replace hu := hu.call hb1; replace hx := (hb1.block (row5 hx).2.2.2.2.2).trans hx; replace hy := (hb1.block (row5 hy).2.2.2.2.2).trans hy; clear hb1; obtain ⟨x0, x1, x2, x3, x4, hxs⟩ := row5 hx; obtain ⟨y0, y1, y2, y3, y4, hys⟩ := row5 hy))
        go_ret
        exact ⟨ret_bool (by rw [hG.out]; simp), hu⟩
      · cases bT
        · go_enter Try.func40, Try.ntmps40
          go_wp2_with (first
                    | (go_at_call 24; (with_reducible refine (cE _ hu).mono ?_); rintro e w1 ⟨rfl, hb1⟩; replace hu := hu.call hb1; replace hx := (hb1.block (row5 hx).2.2.2.2.2).trans hx; replace hy := (hb1.block (row5 hy).2.2.2.2.2).trans hy; clear hb1; obtain ⟨x0, x1, x2, x3, x4, hxs⟩ := row5 hx; obtain ⟨y0, y1, y2, y3, y4, hys⟩ := row5 hy)
                    | (go_at_call 60; (first | (with_reducible refine (cK _ hu).mono ?_) | (with_reducible refine (cT _ hu).mono ?_)); rintro e w1 ⟨rfl, hb1⟩; replace hu := hu.call hb1; replace hx := (hb1.block (row5 hx).2.2.2.2.2).trans hx; replace hy := (hb1.block (row5 hy).2.2.2.2.2).trans hy; clear hb1; obtain ⟨x0, x1, x2, x3, x4, hxs⟩ := row5 hx; obtain ⟨y0, y1, y2, y3, y4, hys⟩ := row5 hy)
                    | (go_at_call 61; (with_reducible refine (cS _ hu).mono ?_); rintro e w1 ⟨rfl, hb1⟩; replace hu := hu.call hb1; replace hx := (hb1.block (row5 hx).2.2.2.2.2).trans hx; replace hy := (hb1.block (row5 hy).2.2.2.2.2).trans hy; clear hb1; obtain ⟨x0, x1, x2, x3, x4, hxs⟩ := row5 hx; obtain ⟨y0, y1, y2, y3, y4, hys⟩ := row5 hy))
          go_ret
          exact ⟨ret_bool (by rw [hG.out]; simp), hu⟩
        · go_enter Try.func40, Try.ntmps40
          go_wp2_with (first
                    | (go_at_call 24; (with_reducible refine (cE _ hu).mono ?_); rintro e w1 ⟨rfl, hb1⟩; replace hu := hu.call hb1; replace hx := (hb1.block (row5 hx).2.2.2.2.2).trans hx; replace hy := (hb1.block (row5 hy).2.2.2.2.2).trans hy; clear hb1; obtain ⟨x0, x1, x2, x3, x4, hxs⟩ := row5 hx; obtain ⟨y0, y1, y2, y3, y4, hys⟩ := row5 hy)
                    | (go_at_call 60; (first | (with_reducible refine (cK _ hu).mono ?_) | (with_reducible refine (cT _ hu).mono ?_)); rintro e w1 ⟨rfl, hb1⟩; replace hu := hu.call hb1; replace hx := (hb1.block (row5 hx).2.2.2.2.2).trans hx; replace hy := (hb1.block (row5 hy).2.2.2.2.2).trans hy; clear hb1; obtain ⟨x0, x1, x2, x3, x4, hxs⟩ := row5 hx; obtain ⟨y0, y1, y2, y3, y4, hys⟩ := row5 hy)
                    | (go_at_call 61; (with_reducible refine (cS _ hu).mono ?_); rintro e w1 ⟨rfl, hb1⟩; replace hu := hu.call hb1; replace hx := (hb1.block (row5 hx).2.2.2.2.2).trans hx; replace hy := (hb1.block (row5 hy).2.2.2.2.2).trans hy; clear hb1; obtain ⟨x0, x1, x2, x3, x4, hxs⟩ := row5 hx; obtain ⟨y0, y1, y2, y3, y4, hys⟩ := row5 hy))
          go_ret
          exact ⟨ret_bool (by rw [hG.out]; simp), hu⟩
open Go.ChangeShapes Go.WideShapes Go.ChangeAt Go.RowKit
theorem rd_bad (s : ByteArray) (n : Int) (hE : rdErr s.data.toList = n) (hN : ∀ kd E K S T, ¬ IsPg s.data.toList kd E K S T) (w : World) : Calls Try.prog 38 #[.string s] w fun e w' => e = .returned (.tuple #[.agg #[.int .i64 0, .slice none 0 0, .slice none 0 0, .slice none 0 0, .slice none 0 0], .int .i64 n]) ∧ Calm w w' :=
 (pageRead_any s w).mono fun e w' ⟨hc, h⟩ => by
  rcases h with ⟨rfl, _⟩ | ⟨kd, _, _, _, _, _, _, _, _, E, K, S, T, _, _, hP⟩
  ·exact ⟨by rw [hE], hc⟩
  ·exact absurd hP (hN kd E K S T)
theorem rd_good (s : ByteArray) {kd : Int} {E : List El} {K : List Int} {S : List Sp} {T : List Int} (h : IsPg s.data.toList kd E K S T) (w : World) : Calls Try.prog 38 #[.string s] w fun e w' =>
  ∃ (A1 A2 A3 A4 : Option Addr) (c1 c2 c3 c4 : Nat), e = .returned (.tuple #[.agg #[.int .i64 kd, .slice A1 E.length c1, .slice A2 K.length c2, .slice A3 S.length c3, .slice A4 T.length c4], .int .i64 0]) ∧ NdOwn w.heap.size w' A1 A2 A3 A4 c1 c2 c3 c4 E K S T ∧ Calm w w' :=
 (pageRead_any s w).mono fun e w' ⟨hc, h2⟩ => by
  rcases h2 with ⟨rfl, hN⟩ | ⟨kd', A1, A2, A3, A4, c1, c2, c3, c4, E', K', S', T', rfl, hO, hP⟩
  ·exact absurd h (hN kd E K S T)
  ·obtain ⟨rfl, rfl, rfl, rfl, rfl⟩ := h.one hP
   exact ⟨A1, A2, A3, A4, c1, c2, c3, c4, rfl, hO, hc⟩
theorem wr_good (kd : Int) (A1 A2 A3 A4 : Option Addr) (c1 c2 c3 c4 : Nat) (E : List El) (K : List Int) (S : List Sp) (T : List Int) (w : World) (h : NdAt w A1 A2 A3 A4 E K S T) (he : ndErr kd E K S T = 0) (W : ByteArray) (hW : pgEnc kd E K S T = W.data.toList) :
    Calls Try.prog 35 #[.agg #[.int .i64 kd, .slice A1 E.length c1, .slice A2 K.length c2, .slice A3 S.length c3, .slice A4 T.length c4]] w fun e w' => e = .returned (.tuple #[.string W, .int .i64 0]) ∧ Calm w w' :=
  (pageWrite_any kd A1 A2 A3 A4 c1 c2 c3 c4 E K S T w h).mono fun e w' ⟨h1, h2⟩ => ⟨by rw [h1, pgS, if_pos he, he, hW], h2⟩
theorem rd_x (w : World) : Calls Try.prog 38 #[.string { data := #[1, 0, 0, 0, 0] }] w fun e w' => e = .returned (.tuple #[.agg #[.int .i64 0, .slice none 0 0, .slice none 0 0, .slice none 0 0, .slice none 0 0], .int .i64 6]) ∧ Calm w w' :=
 rd_bad _ 6 (by decide +kernel) (IsPg.not (by decide +kernel)) w
theorem same_zero (w : World) : Calls Try.prog 40 #[.agg #[.int .i64 0, .slice none 0 0, .slice none 0 0, .slice none 0 0, .slice none 0 0], .agg #[.int .i64 0, .slice none 0 0, .slice none 0 0, .slice none 0 0, .slice none 0 0]] w fun e w' => e = .returned (.bool true) ∧ Calm w w' :=
 sameNode_any 0 none none none none 0 0 0 0 [] [] [] [] 0 none none none none 0 0 0 0 [] [] [] [] w (NdOwn.zero 0 w).at_ (NdOwn.zero 0 w).at_
theorem rdErr_ne (l : List UInt8) : rdErr l ≠ 0 := by
 unfold rdErr; split
 ·decide
 ·assumption
set_option maxHeartbeats 4000000 in
theorem pageOne_walk (s : ByteArray) (w : World) : Calls Try.prog 15 #[.string s] w fun e w' => e = .returned (.bool true) ∧ Calm w w' := by
 have hu := Calm.refl w
 by_cases hP : ∃ kd E K S T, IsPg s.data.toList kd E K S T
 rotate_left
 ·have cG := fun u => rd_bad s _ rfl (fun kd E K S T h => hP ⟨kd, E, K, S, T, h⟩) u
  have b1 : (rdErr s.data.toList != 0) = true := by simpa using rdErr_ne s.data.toList
  generalize rdErr s.data.toList = N at cG b1
  clear hP
  go_enter Try.func15, Try.ntmps15
  go_wp2_with (first
   |(go_at_call 38; (with_reducible refine (rd_x _).mono ?_); rintro e w1 ⟨rfl, hb1⟩; replace hu := (hu.call hb1).alloc (.cells #[.int .i64 0, .slice none 0 0, .slice none 0 0, .slice none 0 0, .slice none 0 0] 63); clear hb1)
   |(go_at_call 38; (with_reducible refine (cG _).mono ?_); rintro e w2 ⟨rfl, hb1⟩; replace hu := (hu.call hb1).alloc (.cells #[.int .i64 0, .slice none 0 0, .slice none 0 0, .slice none 0 0, .slice none 0 0] 63); clear hb1)
   |(go_at_call 40; (with_reducible refine (same_zero _).mono ?_); rintro e w3 ⟨rfl, hb1⟩; replace hu := hu.call hb1; clear hb1))
  go_ret
  exact ⟨rfl, hu⟩
 obtain ⟨kd, E, K, S, T, hP⟩ := hP
 have cG := fun u => rd_good s hP u
 have hE := Lib.hid hP
 clear hP
 go_enter Try.func15, Try.ntmps15
 go_wp2_with (first
  |(go_at_call 38; (with_reducible refine (rd_x _).mono ?_); rintro e w1 ⟨rfl, hb1⟩; replace hu := (hu.call hb1).alloc (.cells #[.int .i64 0, .slice none 0 0, .slice none 0 0, .slice none 0 0, .slice none 0 0] 63); clear hb1)
  |(go_at_call 38; (with_reducible refine (cG _).mono ?_); rintro e w2 ⟨A1, A2, A3, A4, c1, c2, c3, c4, rfl, hO, hb1⟩; replace hu := (hu.call hb1).alloc (.cells #[.int .i64 kd, .slice A1 E.length c1, .slice A2 K.length c2, .slice A3 S.length c3, .slice A4 T.length c4] 63); have cW := fun v (hv : Calm (w2.alloc (.cells #[.int .i64 kd, .slice A1 E.length c1, .slice A2 K.length c2, .slice A3 S.length c3, .slice A4 T.length c4] 63)) v) => wr_good kd A1 A2 A3 A4 c1 c2 c3 c4 E K S T v ((hO.at_.calm ((Calm.refl _).alloc _)).calm hv) hE.out.1 s hE.out.2; clear hb1 hO)
  |(go_at_call 35; (with_reducible refine (cW _ (Calm.refl _)).mono ?_); rintro e w3 ⟨rfl, hb1⟩; replace hu := hu.call hb1; clear hb1))
 go_ret
 exact ⟨rfl, hu⟩
end Go.Proofs.Ytoklknjjkchgmaa
