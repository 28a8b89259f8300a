/- Texts of one kind in one file. -/
import Derived.Test.YthfjanmihfbjoaaPkChangeDoes2
set_option maxRecDepth 100000
namespace Go.Proofs.Ythfjanmihfbjoaa
open Go.ChangeShapes Go.WideShapes Go.ChangeAt Go.RowKit
theorem go_step {l : List El} {c : List Chg} {t : Int} {k : Nat} {x : Chg} (h : c[k]? = some x) : goL l (c.drop k) t = if pfErr l x t = 0 then goL (pfL l x t) (c.drop (k + 1)) t else ([], pfErr l x t) := by
 obtain ⟨hk, rfl⟩ := List.getElem?_eq_some_iff.1 h
 rw [List.drop_eq_getElem_cons hk, goL]
theorem any_off {l : List El} {c : List Chg} (h : ∀ j, j < c.length → (c[j]?).map (offB l) = some false) : c.any (offB l) = false := by
 rw [List.any_eq_false]
 intro x hx
 obtain ⟨i, hi, rfl⟩ := List.getElem_of_mem hx
 have := h i hi
 rw [List.getElem?_eq_getElem hi] at this
 simpa using this
set_option maxHeartbeats 16000000 in
theorem chDo_any (A B : Option Addr) (cA cB : Nat) (l : List El) (c : List Chg) (t : Int) (w : World) (hn : l.length ≤ 9223372036854775807) (hL : Lies w A l) (hm : c.length ≤ 9223372036854775807) (hC : LiesC w B c) :
    Calls Try.prog 21 #[.slice A l.length cA, .slice B c.length cB, .int .i64 t] w (SlEnd (doL l c t) (doErr l c t) w) := by
  have kL := fun u (hu : Calm w u) => runLast_any A cA l u hn (hL.calm hu)
  have kC := fun u (hu : Calm w u) => chCheck_any B cB c u hm (hC.calm hu)
  have hu := Calm.refl w
  unfold doL
  by_cases h1 : runErr l = 0
  rotate_left
  · have e1 : doErr l c t = runErr l := by unfold doErr; rw [if_neg h1]
    rw [e1, if_neg h1]
    simp only [if_neg h1] at kL
    have b1 : (runErr l != 0) = true := by simpa using h1
    generalize runErr l = E at *
    clear e1 h1 hL hC kC
    go_enter Try.func21, Try.ntmps21
    go_wp2_with (go_at_call 27; (with_reducible refine (kL _ hu).mono ?_); rintro e w1 ⟨rfl, hb⟩; replace hu := hu.call hb; clear hb kL)
    go_ret2
    exact ⟨_, rfl, Sl.nil _ _ _, hu⟩
  simp only [h1, if_pos] at kL
  by_cases h2 : chErr c = 0
  rotate_left
  · have e1 : doErr l c t = chErr c := by unfold doErr; rw [if_pos h1, if_neg h2]
    rw [e1, if_neg h2]
    have b1 : (chErr c != 0) = true := by simpa using h2
    generalize chErr c = E at *
    generalize latest l = L at kL
    clear e1 h1 h2 hL hC
    go_enter Try.func21, Try.ntmps21
    go_wp2_with (first
      | (go_at_call 27; (with_reducible refine (kL _ hu).mono ?_); rintro e w1 ⟨rfl, hb⟩; replace hu := hu.call hb; clear hb kL)
      | (go_at_call 17; (with_reducible refine (kC _ hu).mono ?_); rintro e w1 ⟨rfl, hb⟩; replace hu := hu.call hb; clear hb kC))
    go_ret2
    exact ⟨_, rfl, Sl.nil _ _ _, hu⟩
  rw [h2] at kC
  have hG := runErr_zero.1 h1
  have hGC := chErr_zero.1 h2
  by_cases h3 : t < 1 ∨ t < latest l ∨ 2147483647 < t
  · have e1 : doErr l c t = 9 := by unfold doErr; rw [if_pos h1, if_pos h2, if_pos h3]
    rw [e1, if_neg (by decide)]
    have hl0 := latest_nonneg l
    generalize latest l = L at *
    clear e1 h1 h2 hL hC hG hGC
    by_cases hm1 : 1 < L
    · by_cases ht : t < L
      · clear h3
        go_enter Try.func21, Try.ntmps21
        go_wp2_with (first
          | (go_at_call 27; (with_reducible refine (kL _ hu).mono ?_); rintro e w1 ⟨rfl, hb⟩; replace hu := hu.call hb; clear hb kL)
          | (go_at_call 17; (with_reducible refine (kC _ hu).mono ?_); rintro e w1 ⟨rfl, hb⟩; replace hu := hu.call hb; clear hb kC))
        go_ret2
        exact ⟨_, rfl, Sl.nil _ _ _, hu⟩
      · have ht2 : 2147483647 < t := by omega
        clear h3
        go_enter Try.func21, Try.ntmps21
        go_wp2_with (first
          | (go_at_call 27; (with_reducible refine (kL _ hu).mono ?_); rintro e w1 ⟨rfl, hb⟩; replace hu := hu.call hb; clear hb kL)
          | (go_at_call 17; (with_reducible refine (kC _ hu).mono ?_); rintro e w1 ⟨rfl, hb⟩; replace hu := hu.call hb; clear hb kC))
        go_ret2
        exact ⟨_, rfl, Sl.nil _ _ _, hu⟩
    · by_cases ht : t < 1
      · clear h3
        go_enter Try.func21, Try.ntmps21
        go_wp2_with (first
          | (go_at_call 27; (with_reducible refine (kL _ hu).mono ?_); rintro e w1 ⟨rfl, hb⟩; replace hu := hu.call hb; clear hb kL)
          | (go_at_call 17; (with_reducible refine (kC _ hu).mono ?_); rintro e w1 ⟨rfl, hb⟩; replace hu := hu.call hb; clear hb kC))
        go_ret2
        exact ⟨_, rfl, Sl.nil _ _ _, hu⟩
      · have ht2 : 2147483647 < t := by omega
        clear h3
        go_enter Try.func21, Try.ntmps21
        go_wp2_with (first
          | (go_at_call 27; (with_reducible refine (kL _ hu).mono ?_); rintro e w1 ⟨rfl, hb⟩; replace hu := hu.call hb; clear hb kL)
          | (go_at_call 17; (with_reducible refine (kC _ hu).mono ?_); rintro e w1 ⟨rfl, hb⟩; replace hu := hu.call hb; clear hb kC))
        go_ret2
        exact ⟨_, rfl, Sl.nil _ _ _, hu⟩
  have hd : doErr l c t = if c.any (offB l) then 1 else (goL l c t).2 := by unfold doErr; rw [if_pos h1, if_pos h2, if_neg h3]
  generalize hE : doErr l c t = E at *
  have HE := Lib.hid hd
  have HG := Lib.hid hG
  have hwf := Lib.hid hL.1
  have HGC := Lib.hid hGC
  have kCl := fun u (hu : Calm w u) => clone_any A cA l u hG.1 (hL.calm hu)
  have kU := fun p o f u (hu : Calm w u) (hk : kErr (p, o, f) = 0) => chCurrent_any A cA l p o f u hn (hL.calm hu) hG hk
  have t1 : 1 ≤ t := by omega
  have t2 : latest l ≤ t := by omega
  have t3 : t ≤ 2147483647 := by omega
  have hl0 := latest_nonneg l
  generalize latest l = L at *
  clear hd hE h1 h2 h3 hG hGC hL
  generalize hLL : (if E = 0 then (goL l c t).1 else []) = LL
  have HLL := Lib.hid hLL
  clear hLL
  have H : ∀ (hx : 1 < L ∨ L ≤ 1), Calls Try.prog 21 #[.slice A l.length cA, .slice B c.length cB, .int .i64 t] w (SlEnd LL E w) := by
    intro hx
    go_enter Try.func21, Try.ntmps21
    rcases hx with hx | hx
    all_goals
      go_upto_region 9 with (first
        | (go_at_call 27; (with_reducible refine (kL _ hu).mono ?_); rintro e w1 ⟨rfl, hb⟩; replace hu := hu.call hb; clear hb kL)
        | (go_at_call 17; (with_reducible refine (kC _ hu).mono ?_); rintro e w1 ⟨rfl, hb⟩; replace hu := hu.call hb; clear hb kC))
      clear hx t1 t2 t3 hl0
      go_wp2_with fail
      go_loopw [39] (fun i wr => ∃ k : Nat, k ≤ c.length ∧ i = .int .i64 k ∧ Calm w wr ∧ Hid (∀ j, j < k → (c[j]?).map (offB l) = some false)) (fun i _ => c.length - (intOf i).toNat)
      case atStart => exact ⟨0, Nat.zero_le _, rfl, hu, show ∀ _, _ from fun j h => absurd h (Nat.not_lt_zero _)⟩
      case round =>
        obtain ⟨k, hk, rfl, hv, HN⟩ := hrel
        clear hu
        by_cases hlt : k < c.length
        rotate_left
        · have hkl : k = c.length := by omega
          have hany : c.any (offB l) = false := any_off (by rw [← hkl]; exact HN.out)
          have HE2 : Hid ((goL l c t).2 = E) := by show _ = _; have := HE.out; rw [hany] at this; simpa using this.symm
          clear HN hany hkl kU HG HGC HE
          go_upto_region 16 with (go_at_call 49; (with_reducible refine (kCl _ hv).mono ?_); rintro e w5 ⟨v5, rfl, ho5, hb5⟩; have HS5 := Lib.hid (OwnR.sl ho5 hwf.out); have hv5 := hv.call hb5; clear ho5 hb5 kCl)
          clear hk hlt hv
          go_wp2_with fail
          go_loopw [13, 9, 55] (fun v er i wr => ∃ (k : Nat) (M : List El), k ≤ c.length ∧ i = .int .i64 k ∧ er = .int .i64 0 ∧ Calm w wr ∧ Hid (Sl wr v M) ∧ Hid (goL l c t = goL M (c.drop k) t)) (fun _ _ i _ => c.length - (intOf i).toNat)
          case atStart => exact ⟨0, l, Nat.zero_le _, rfl, rfl, hv5, HS5, show _ = _ from rfl⟩
          case round =>
            obtain ⟨k, M, hk, rfl, rfl, hv, HS, HK⟩ := hrel
            clear hv5 HS5
            by_cases hlt : k < c.length
            rotate_left
            · have e1 : Hid (goL l c t = (M, 0)) := by show _ = _; rw [HK.out, List.drop_of_length_le (by omega), goL]
              have e2 : Hid (E = 0) := by show _ = _; rw [← HE2.out, e1.out]
              clear HK HE2
              go_wp2_with fail
              go_ret2
              rw [← HLL.out, e2.out, if_pos rfl, e1.out]
              exact ⟨_, rfl, HS.out, hv⟩
            obtain ⟨b, q, p, o, f, hd, hs, ws, vs, rfl, hb, HX, c0, c1, c2, c3, c4, c5, c6⟩ := chg_get (hC.calm hv) hlt
            obtain ⟨AM, cM, rfl, hMl, hML⟩ := HS.out
            have kP := fun u (hu : Calm wr u) => perform_any AM cM M p o f hd hs ws vs t u hMl (hML.calm hu)
            unfold SlEnd at kP
            have hst := HK.out
            rw [go_step HX.out] at hst
            have hv1 := (Calm.refl wr).alloc (.cells #[.int .i64 p, .int .i64 o, .int .i64 f, .bool hd, .bool hs, .string ws, .string vs] 33 (0, 0))
            clear HK HX HS hML hMl
            by_cases he : pfErr M ⟨p, o, f, hd, hs, ws, vs⟩ t = 0
            · rw [if_pos he] at hst
              simp only [he, if_pos] at kP
              generalize pfL M ⟨p, o, f, hd, hs, ws, vs⟩ t = M2 at kP hst
              have HST := Lib.hid hst
              clear hst he
              go_wp2_with (go_at_call 50; (with_reducible refine (kP _ hv1).mono ?_); rintro e w7 ⟨v7, rfl, hs7, hb7⟩; have HS7 := Lib.hid hs7; have hv7 := hv.call (hv1.call hb7); clear hs7 hb7 kP)
              go_roundw
              case rel => exact ⟨k + 1, M2, by omega, by go_num, rfl, hv7, HS7, HST⟩
              case measure => simp [intOf]; omega
            · rw [if_neg he] at hst
              simp only [if_neg he] at kP
              have b1 : (pfErr M ⟨p, o, f, hd, hs, ws, vs⟩ t != 0) = true := by simpa using he
              have e2 : Hid (E = pfErr M ⟨p, o, f, hd, hs, ws, vs⟩ t) := by show _ = _; rw [← HE2.out, hst]
              have e3 : Hid (¬ E = 0) := show ¬ _ from by rw [e2.out]; exact he
              generalize pfErr M ⟨p, o, f, hd, hs, ws, vs⟩ t = F at kP b1 e2
              clear hst he HE2
              go_wp2_with (go_at_call 50; (with_reducible refine (kP _ hv1).mono ?_); rintro e w7 ⟨v7, rfl, hs7, hb7⟩; have hv7 := hv.call (hv1.call hb7); clear hs7 hb7 kP)
              go_ret2
              rw [← HLL.out, if_neg e3.out, e2.out]
              exact ⟨_, rfl, Sl.nil _ _ _, hv7⟩
        obtain ⟨b, q, p, o, f, hd, hs, ws, vs, rfl, hb, HX, c0, c1, c2, c3, c4, c5, c6⟩ := chg_get (hC.calm hv) hlt
        have cU := fun u (hu : Calm w u) => kU p o f u hu (Chg.err_zero.1 (HGC.out.2.1 _ (List.mem_of_getElem? HX.out))).1
        have cBf := fun u => chBefore_any p o f hd hs ws vs u
        have hoff : offB l ⟨p, o, f, hd, hs, ws, vs⟩ = decide (stA l (p, o, f) 2147483647 ≠ ⟨hd, ws⟩) := rfl
        generalize stA l (p, o, f) 2147483647 = S at cU hoff
        obtain ⟨sb, sv⟩ := S
        simp only at cU
        have hv1 := hv.alloc (.cells #[.int .i64 p, .int .i64 o, .int .i64 f, .bool hd, .bool hs, .string ws, .string vs] 33 (0, 0))
        have hx := heap_new wr (.cells #[.int .i64 p, .int .i64 o, .int .i64 f, .bool hd, .bool hs, .string ws, .string vs] 33 (0, 0))
        by_cases e1 : St.mk sb sv = St.mk hd ws
        · rw [decide_eq_false (fun h => h e1)] at hoff
          have HN2 : Hid (∀ j, j < k + 1 → (c[j]?).map (offB l) = some false) := show ∀ _, _ from fun j hj => by
            rcases Nat.lt_or_ge j k with h | h
            · exact HN.out j h
            · rw [show j = k by omega, HX.out]; exact congrArg some hoff
          obtain ⟨rfl, rfl⟩ := St.ext_iff'.1 e1
          clear e1 hoff HN HX
          simp only at cU cBf hx hv1
          go_upto_region 12 with fail
          generalize hW : wr.alloc (.cells #[.int .i64 p, .int .i64 o, .int .i64 f, .bool sb, .bool hs, .string sv, .string vs] 33 (0, 0)) = w2 at hv1 hx ⊢
          clear hW
          obtain ⟨x0, x1, x2, x3, x4, x5, x6, hxs⟩ := row7 hx
          clear hx c0 c1 c2 c3 c4 c5 c6 hb
          refine wp_region_plan [.val (.slice A l.length cA), .val (.pointer (some ⟨wr.heap.size, 0, none⟩)), .val (.agg #[.int .i64 p, .int .i64 o, .int .i64 f]), .val (.agg #[.bool sb, .string sv]), .val (.agg #[.int .i64 p, .int .i64 o, .int .i64 f, .bool sb, .bool hs, .string sv, .string vs]), .val (.agg #[.bool sb, .string sv]), .val (.bool false)] (by kernel_rfl) (by kernel_rfl) (by kernel_rfl) ?_
          intro X
          iterate 7
            refine plan_val (by kernel_rfl) (fun u hu => ?_) ?_
            · obtain ⟨hc, hf, hz⟩ := hu.of_drew.facts
              go_simp
              all_goals first
                | (go_at_call 47; exact cU _ (hv1.call hu.of_drew))
                | (go_at_call 48; exact cBf _)
            simp only [Act.put, List.setIfInBounds_toArray, List.set_cons_zero, List.set_cons_succ, Nat.reduceAdd]
          refine plan_end ?_
          intro w' hB
          have hk := hB.calm.of_drew
          clear hB
          go_wp2_with fail
          go_roundw
          case rel => exact ⟨k + 1, by omega, by go_num, hv1.call hk, HN2⟩
          case measure => simp [intOf]; omega
        · rw [decide_eq_true (show St.mk sb sv ≠ St.mk hd ws from e1)] at hoff
          have HE2 : Hid (E = 1) := by
            have := HE.out
            rw [if_pos (List.any_eq_true.2 ⟨_, List.mem_of_getElem? HX.out, hoff⟩)] at this
            exact this
          have e2 : (sb == hd) = false ∨ sb = hd ∧ (sv.toList == ws.toList) = false := by
            by_cases q : sb = hd
            · exact .inr ⟨q, str_ne fun h => e1 (St.ext_iff'.2 ⟨q, h⟩)⟩
            · exact .inl (by simpa using q)
          clear e1 hoff HN HX HE
          rcases e2 with e2 | ⟨rfl, e2⟩
          · go_upto_region 12 with fail
            generalize hW : wr.alloc (.cells #[.int .i64 p, .int .i64 o, .int .i64 f, .bool hd, .bool hs, .string ws, .string vs] 33 (0, 0)) = w2 at hv1 hx ⊢
            clear hW
            obtain ⟨x0, x1, x2, x3, x4, x5, x6, hxs⟩ := row7 hx
            clear hx c0 c1 c2 c3 c4 c5 c6 hb
            refine wp_region_plan [.val (.slice A l.length cA), .val (.pointer (some ⟨wr.heap.size, 0, none⟩)), .val (.agg #[.int .i64 p, .int .i64 o, .int .i64 f]), .val (.agg #[.bool sb, .string sv]), .val (.agg #[.int .i64 p, .int .i64 o, .int .i64 f, .bool hd, .bool hs, .string ws, .string vs]), .val (.agg #[.bool hd, .string ws]), .val (.bool true)] (by kernel_rfl) (by kernel_rfl) (by kernel_rfl) ?_
            intro X
            iterate 7
              refine plan_val (by kernel_rfl) (fun u hu => ?_) ?_
              · obtain ⟨hc, hf, hz⟩ := hu.of_drew.facts
                go_simp
                all_goals first
                  | (go_at_call 47; exact cU _ (hv1.call hu.of_drew))
                  | (go_at_call 48; exact cBf _)
              simp only [Act.put, List.setIfInBounds_toArray, List.set_cons_zero, List.set_cons_succ, Nat.reduceAdd]
            refine plan_end ?_
            intro w' hB
            have hk := hB.calm.of_drew
            clear hB
            go_wp2_with fail
            go_ret2
            rw [← HLL.out, HE2.out, if_neg (by decide)]
            exact ⟨_, rfl, Sl.nil _ _ _, hv1.call hk⟩
          · go_upto_region 12 with fail
            generalize hW : wr.alloc (.cells #[.int .i64 p, .int .i64 o, .int .i64 f, .bool sb, .bool hs, .string ws, .string vs] 33 (0, 0)) = w2 at hv1 hx ⊢
            clear hW
            obtain ⟨x0, x1, x2, x3, x4, x5, x6, hxs⟩ := row7 hx
            clear hx c0 c1 c2 c3 c4 c5 c6 hb
            refine wp_region_plan [.val (.slice A l.length cA), .val (.pointer (some ⟨wr.heap.size, 0, none⟩)), .val (.agg #[.int .i64 p, .int .i64 o, .int .i64 f]), .val (.agg #[.bool sb, .string sv]), .val (.agg #[.int .i64 p, .int .i64 o, .int .i64 f, .bool sb, .bool hs, .string ws, .string vs]), .val (.agg #[.bool sb, .string ws]), .val (.bool true)] (by kernel_rfl) (by kernel_rfl) (by kernel_rfl) ?_
            intro X
            iterate 7
              refine plan_val (by kernel_rfl) (fun u hu => ?_) ?_
              · obtain ⟨hc, hf, hz⟩ := hu.of_drew.facts
                go_simp
                all_goals first
                  | (go_at_call 47; exact cU _ (hv1.call hu.of_drew))
                  | (go_at_call 48; exact cBf _)
              simp only [Act.put, List.setIfInBounds_toArray, List.set_cons_zero, List.set_cons_succ, Nat.reduceAdd]
            refine plan_end ?_
            intro w' hB
            have hk := hB.calm.of_drew
            clear hB
            go_wp2_with fail
            go_ret2
            rw [← HLL.out, HE2.out, if_neg (by decide)]
            exact ⟨_, rfl, Sl.nil _ _ _, hv1.call hk⟩
  exact H (by omega)
open Go.ChangeShapes Go.WideShapes Go.ChangeAt Go.RowKit
section
variable {H : Type} {enc : TypeId × Value → H} {w : World} {base : Nat} {spare : Nat → Bool} {held : Bool}
theorem cellsChg : Try.prog.cellsOf 33 = 7 := by kernel_rfl
theorem cellsBool : Try.prog.cellsOf 4 = 1 := by kernel_rfl
theorem chg_cells {fuel : Nat} {cs : List Value} {x : DataW H × List MemPlace} (h : DataW.trod enc Try.prog w base spare held fuel 33 cs = some x) : ∃ c : Chg, cs = chgV c ∧ True := by
 obtain ⟨y0, y1, y2, y3, y4, n, hd, hl, h0, h1, h2, h3, h4⟩ := trod_struct5 Try.underlying33 h
 obtain ⟨p, o, f, e0, _, _, _⟩ := key_cells h0
 obtain ⟨a, e1, _⟩ := DataW.trod_bool Try.underlying4 h1
 obtain ⟨b, e2, _⟩ := DataW.trod_bool Try.underlying4 h2
 obtain ⟨s, e3, _, _⟩ := DataW.trod_string Try.underlying9 h3
 obtain ⟨v, e4, _, _⟩ := DataW.trod_string Try.underlying9 h4
 simp only [cellsBool, cellsKey, cellsStr, cellsChg] at e0 e1 e2 e3 e4 hl
 match cs, hl with
 | [c0, c1, c2, c3, c4, c5, c6], _ =>
  simp at e0 e1 e2 e3 e4
  obtain ⟨a0, a1, a2⟩ := e0
  exact ⟨⟨p, o, f, a, b, s, v⟩, by rw [a0, a1, a2, e1, e2, e3, e4]; rfl, trivial⟩
variable {r : Reach} {b0 : Nat} {v : Value} {d : DataW H} {ps : List MemPlace}
theorem open_chgs (hv : Value.okWide Try.prog w r b0 23 v) (h : DataW.Trod enc Try.prog w base spare held 23 v d ps) :
    ∃ (A : Option Addr) (c : Nat) (l : List Chg), v = .slice A l.length c ∧ l.length ≤ 9223372036854775807 ∧ l.length ≤ c ∧ LiesC w A l := by
  obtain ⟨A0, len, cap, rfl⟩ := okWide_slice Try.underlying23 hv
  obtain ⟨fuel, hf⟩ := h
  obtain ⟨A, c, l, e1, le1, lc1, -, at1, -⟩ := rows_open (α := Chg) chgV (fun _ => True) 7 Try.underlying23 cellsChg (by omega) (fun fuel cs x hx => chg_cells hx) hf
  have e2 : Value.slice A0 len cap = .slice A l.length c := by simpa [Value.cells] using e1
  rw [e2]
  exact ⟨A, c, l, rfl, le1, lc1, at1⟩
end
open Go.ChangeShapes Go.WideShapes Go.ChangeAt Go.RowKit
theorem ch_err2 {c : Chg} (h : keyErr c.p c.o c.f = 0) (h2 : ¬ (c.ws.size ≤ 40 ∧ c.vs.size ≤ 40)) : c.err = 2 := by unfold Chg.err; rw [if_pos h, if_neg h2]
theorem ch_err3 {c : Chg} (h : keyErr c.p c.o c.f = 0) (h2 : c.ws.size ≤ 40 ∧ c.vs.size ≤ 40) (h3 : ¬ (fitS c.bef ∧ fitS c.aft ∧ c.bef ≠ c.aft)) : c.err = 3 := by unfold Chg.err; rw [if_pos h, if_pos h2, if_neg h3]
set_option maxHeartbeats 64000000 in
theorem refChanges_any (A : Option Addr) (c : Nat) (l : List Chg) (w : World) (hn : l.length ≤ 9223372036854775807) (hL : LiesC w A l) :
    Calls Try.prog 16 #[.slice A l.length c] w fun e w' => e = .returned (.int .i64 (chErr l)) ∧ Calm w w' := by
  by_cases hbig : 400 < l.length
  · have K : Hid (2 = chErr l) := by show _ = _; unfold chErr; rw [if_pos hbig]
    go_enter Try.func16, Try.ntmps16
    go_wp2_with fail
    go_ret
    exact ⟨ret_int K.out, Calm.refl _⟩
  go_enter Try.func16, Try.ntmps16
  go_wp2_with fail
  go_loopw [12] (fun i wr => ∃ k : Nat, k ≤ l.length ∧ i = .int .i64 k ∧ Calm w wr ∧ NoErrC l k) (fun i _ => l.length - (intOf i).toNat)
  case atStart => exact ⟨0, Nat.zero_le _, rfl, Calm.refl _, fun j hj => absurd hj (Nat.not_lt_zero _)⟩
  case round =>
    obtain ⟨k, hk, rfl, hu, hN⟩ := hrel
    by_cases hlt : k < l.length
    rotate_left
    · have hkl : k = l.length := by omega
      have K : Hid (0 = chErr l) := chErr_good hbig (by rw [← hkl]; exact hN)
      clear hkl
      go_wp2_with fail
      go_ret
      exact ⟨ret_int K.out, hu⟩
    obtain ⟨b, q, p, o, f, hd, hs, ws, vs, rfl, hb, HE, c0, c1, c2, c3, c4, c5, c6⟩ := chg_get (hL.calm hu) hlt
    have cK := fun u => refKey_any p o f u
    have KE : ∀ n, Chg.err ⟨p, o, f, hd, hs, ws, vs⟩ = n → n ≠ 0 → Hid (n = chErr l) := fun n h1 h2 => by
      have h3 := stepC_err HE.out (by rw [h1]; exact h2)
      show _ = _
      rw [← chErr_at hbig hN (by rw [h3, h1]; exact h2) hlt, h3, h1]
    by_cases hk0 : keyErr p o f = 0
    rotate_left
    · have K := KE (keyErr p o f) (by unfold Chg.err; rw [if_neg hk0]) hk0
      have b1 : (keyErr p o f != 0) = true := by simpa using hk0
      generalize keyErr p o f = E at cK b1 K
      clear hk0 KE hN
      go_wp2_with (go_at_call 35; refine (cK _).mono ?_; rintro e w1 ⟨rfl, hb1⟩; have hx := (hb1.block (k := wr.heap.size) (by simp)).trans (heap_new wr (.cells #[.int .i64 p, .int .i64 o, .int .i64 f, .bool hd, .bool hs, .string ws, .string vs] 33 (0, 0))); obtain ⟨x0, x1, x2, x3, x4, x5, x6, hxs⟩ := row7 hx; have hv := ((Calm.refl wr).alloc (.cells #[.int .i64 p, .int .i64 o, .int .i64 f, .bool hd, .bool hs, .string ws, .string vs] 33 (0, 0))).call hb1; clear hb1 hx)
      go_ret
      exact ⟨ret_int K.out, hu.call hv⟩
    rw [hk0] at cK
    by_cases hz : ws.size ≤ 40 ∧ vs.size ≤ 40
    rotate_left
    · have K := KE 2 (ch_err2 hk0 hz) (by decide)
      clear hk0 KE hN
      by_cases h1 : ws.size < vs.size
      · have h2 : 40 < vs.size := by omega
        clear hz
        go_wp2_with (go_at_call 35; refine (cK _).mono ?_; rintro e w1 ⟨rfl, hb1⟩; have hx := (hb1.block (k := wr.heap.size) (by simp)).trans (heap_new wr (.cells #[.int .i64 p, .int .i64 o, .int .i64 f, .bool hd, .bool hs, .string ws, .string vs] 33 (0, 0))); obtain ⟨x0, x1, x2, x3, x4, x5, x6, hxs⟩ := row7 hx; have hv := ((Calm.refl wr).alloc (.cells #[.int .i64 p, .int .i64 o, .int .i64 f, .bool hd, .bool hs, .string ws, .string vs] 33 (0, 0))).call hb1; clear hb1 hx)
        go_ret
        exact ⟨ret_int K.out, hu.call hv⟩
      · have h2 : 40 < ws.size := by omega
        have h3 : vs.size ≤ ws.size := by omega
        clear hz h1
        go_wp2_with (go_at_call 35; refine (cK _).mono ?_; rintro e w1 ⟨rfl, hb1⟩; have hx := (hb1.block (k := wr.heap.size) (by simp)).trans (heap_new wr (.cells #[.int .i64 p, .int .i64 o, .int .i64 f, .bool hd, .bool hs, .string ws, .string vs] 33 (0, 0))); obtain ⟨x0, x1, x2, x3, x4, x5, x6, hxs⟩ := row7 hx; have hv := ((Calm.refl wr).alloc (.cells #[.int .i64 p, .int .i64 o, .int .i64 f, .bool hd, .bool hs, .string ws, .string vs] 33 (0, 0))).call hb1; clear hb1 hx)
        go_ret
        exact ⟨ret_int K.out, hu.call hv⟩
    have hz1 := hz.1
    have hz2 := hz.2
    by_cases hsame : hd = hs ∧ ws = vs
    · obtain ⟨rfl, rfl⟩ := hsame
      have K := KE 3 (ch_err3 hk0 hz fun h => h.2.2 rfl) (by decide)
      clear KE hN
      go_upto_region 12 with (go_at_call 35; refine (cK _).mono ?_; rintro e w1 ⟨rfl, hb1⟩; have hx := (hb1.block (k := wr.heap.size) (by simp)).trans (heap_new wr (.cells #[.int .i64 p, .int .i64 o, .int .i64 f, .bool hd, .bool hd, .string ws, .string ws] 33 (0, 0))); obtain ⟨x0, x1, x2, x3, x4, x5, x6, hxs⟩ := row7 hx; have hv := ((Calm.refl wr).alloc (.cells #[.int .i64 p, .int .i64 o, .int .i64 f, .bool hd, .bool hd, .string ws, .string ws] 33 (0, 0))).call hb1; clear hb1 hx)
      refine wp_region_plan [.val (.bool true), .val (.bool true), .idle, .idle, .idle, .idle, .idle, .idle, .idle, .idle, .idle, .val (.bool true), .val (.bool true), .idle, .idle, .idle, .idle, .idle, .idle, .idle, .idle, .idle, .val (.bool true), .val (.bool true), .idle, .idle, .idle, .idle, .idle, .idle, .idle, .idle, .idle, .idle, .idle, .idle, .idle, .idle, .val (.bool true)] (by kernel_rfl) (by kernel_rfl) (by kernel_rfl) ?_
      intro X
      iterate 2
        refine plan_val (by kernel_rfl) (fun u hu => ?_) ?_
        · obtain ⟨hc, hf, hz⟩ := hu.of_drew.facts
          go_simp
        simp only [Act.put, List.setIfInBounds_toArray, List.set_cons_zero, List.set_cons_succ, Nat.reduceAdd]
      iterate 9
        refine plan_idle (by kernel_rfl) ?_
        simp only [Act.put, List.setIfInBounds_toArray, List.set_cons_zero, List.set_cons_succ, Nat.reduceAdd]
      iterate 2
        refine plan_val (by kernel_rfl) (fun u hu => ?_) ?_
        · obtain ⟨hc, hf, hz⟩ := hu.of_drew.facts
          go_simp
        simp only [Act.put, List.setIfInBounds_toArray, List.set_cons_zero, List.set_cons_succ, Nat.reduceAdd]
      iterate 9
        refine plan_idle (by kernel_rfl) ?_
        simp only [Act.put, List.setIfInBounds_toArray, List.set_cons_zero, List.set_cons_succ, Nat.reduceAdd]
      iterate 2
        refine plan_val (by kernel_rfl) (fun u hu => ?_) ?_
        · obtain ⟨hc, hf, hz⟩ := hu.of_drew.facts
          go_simp
        simp only [Act.put, List.setIfInBounds_toArray, List.set_cons_zero, List.set_cons_succ, Nat.reduceAdd]
      iterate 14
        refine plan_idle (by kernel_rfl) ?_
        simp only [Act.put, List.setIfInBounds_toArray, List.set_cons_zero, List.set_cons_succ, Nat.reduceAdd]
      iterate 1
        refine plan_val (by kernel_rfl) (fun u hu => ?_) ?_
        · obtain ⟨hc, hf, hz⟩ := hu.of_drew.facts
          go_simp
        simp only [Act.put, List.setIfInBounds_toArray, List.set_cons_zero, List.set_cons_succ, Nat.reduceAdd]
      refine plan_end ?_
      intro w' hB
      have hk := hB.calm.of_drew
      clear hB
      go_wp2_with fail
      all_goals
        go_ret
        exact ⟨ret_int K.out, (hu.call hv).call hk⟩
    cases hd <;> cases hs
    · skip
      have e1 : (ws.toList == vs.toList) = false := str_ne fun h => hsame ⟨rfl, h⟩
      by_cases hw0 : 0 < ws.size
      · skip
        have K := KE 3 (ch_err3 hk0 hz fun h => by rcases h.1 with h | h; cases h; exact absurd h (by show ¬ ws.size = 0; omega)) (by decide)
        clear KE hN
        go_upto_region 12 with (go_at_call 35; refine (cK _).mono ?_; rintro e w1 ⟨rfl, hb1⟩; have hx := (hb1.block (k := wr.heap.size) (by simp)).trans (heap_new wr (.cells #[.int .i64 p, .int .i64 o, .int .i64 f, .bool false, .bool false, .string ws, .string vs] 33 (0, 0))); obtain ⟨x0, x1, x2, x3, x4, x5, x6, hxs⟩ := row7 hx; have hv := ((Calm.refl wr).alloc (.cells #[.int .i64 p, .int .i64 o, .int .i64 f, .bool false, .bool false, .string ws, .string vs] 33 (0, 0))).call hb1; clear hb1 hx)
        refine wp_region_plan [.val (.bool false), .val (.bool false), .val (.pointer (some ⟨wr.heap.size, 5, none⟩)), .val (.string ws), .val (.int .i64 ((ws.size : Int))), .val (.bool true), .val (.bool true), .val (.pointer (some ⟨wr.heap.size, 3, none⟩)), .val (.bool false), .val (.bool true), .val (.bool true), .val (.bool true), .val (.bool true), .idle, .idle, .idle, .idle, .idle, .idle, .idle, .idle, .idle, .val (.bool true), .val (.bool true), .idle, .idle, .idle, .idle, .idle, .idle, .idle, .idle, .idle, .idle, .idle, .idle, .idle, .idle, .val (.bool true)] (by kernel_rfl) (by kernel_rfl) (by kernel_rfl) ?_
        intro X
        iterate 13
          refine plan_val (by kernel_rfl) (fun u hu => ?_) ?_
          · obtain ⟨hc, hf, hz⟩ := hu.of_drew.facts
            go_simp
          simp only [Act.put, List.setIfInBounds_toArray, List.set_cons_zero, List.set_cons_succ, Nat.reduceAdd]
        iterate 9
          refine plan_idle (by kernel_rfl) ?_
          simp only [Act.put, List.setIfInBounds_toArray, List.set_cons_zero, List.set_cons_succ, Nat.reduceAdd]
        iterate 2
          refine plan_val (by kernel_rfl) (fun u hu => ?_) ?_
          · obtain ⟨hc, hf, hz⟩ := hu.of_drew.facts
            go_simp
          simp only [Act.put, List.setIfInBounds_toArray, List.set_cons_zero, List.set_cons_succ, Nat.reduceAdd]
        iterate 14
          refine plan_idle (by kernel_rfl) ?_
          simp only [Act.put, List.setIfInBounds_toArray, List.set_cons_zero, List.set_cons_succ, Nat.reduceAdd]
        iterate 1
          refine plan_val (by kernel_rfl) (fun u hu => ?_) ?_
          · obtain ⟨hc, hf, hz⟩ := hu.of_drew.facts
            go_simp
          simp only [Act.put, List.setIfInBounds_toArray, List.set_cons_zero, List.set_cons_succ, Nat.reduceAdd]
        refine plan_end ?_
        intro w' hB
        have hk := hB.calm.of_drew
        clear hB
        go_wp2_with fail
        all_goals
          go_ret
          exact ⟨ret_int K.out, (hu.call hv).call hk⟩
      have hw1 : ws.size = 0 := by omega
      by_cases hv0 : 0 < vs.size
      · skip
        have K := KE 3 (ch_err3 hk0 hz fun h => by rcases h.2.1 with h | h; cases h; exact absurd h (by show ¬ vs.size = 0; omega)) (by decide)
        clear KE hN
        go_upto_region 12 with (go_at_call 35; refine (cK _).mono ?_; rintro e w1 ⟨rfl, hb1⟩; have hx := (hb1.block (k := wr.heap.size) (by simp)).trans (heap_new wr (.cells #[.int .i64 p, .int .i64 o, .int .i64 f, .bool false, .bool false, .string ws, .string vs] 33 (0, 0))); obtain ⟨x0, x1, x2, x3, x4, x5, x6, hxs⟩ := row7 hx; have hv := ((Calm.refl wr).alloc (.cells #[.int .i64 p, .int .i64 o, .int .i64 f, .bool false, .bool false, .string ws, .string vs] 33 (0, 0))).call hb1; clear hb1 hx)
        refine wp_region_plan [.val (.bool false), .val (.bool false), .val (.pointer (some ⟨wr.heap.size, 5, none⟩)), .val (.string ws), .val (.int .i64 ((ws.size : Int))), .val (.bool false), .val (.bool false), .idle, .idle, .idle, .val (.bool false), .val (.bool false), .val (.bool false), .val (.pointer (some ⟨wr.heap.size, 6, none⟩)), .val (.string vs), .val (.int .i64 ((vs.size : Int))), .val (.bool true), .val (.bool true), .val (.pointer (some ⟨wr.heap.size, 4, none⟩)), .val (.bool false), .val (.bool true), .val (.bool true), .val (.bool true), .val (.bool true), .idle, .idle, .idle, .idle, .idle, .idle, .idle, .idle, .idle, .idle, .idle, .idle, .idle, .idle, .val (.bool true)] (by kernel_rfl) (by kernel_rfl) (by kernel_rfl) ?_
        intro X
        iterate 7
          refine plan_val (by kernel_rfl) (fun u hu => ?_) ?_
          · obtain ⟨hc, hf, hz⟩ := hu.of_drew.facts
            go_simp
          simp only [Act.put, List.setIfInBounds_toArray, List.set_cons_zero, List.set_cons_succ, Nat.reduceAdd]
        iterate 3
          refine plan_idle (by kernel_rfl) ?_
          simp only [Act.put, List.setIfInBounds_toArray, List.set_cons_zero, List.set_cons_succ, Nat.reduceAdd]
        iterate 14
          refine plan_val (by kernel_rfl) (fun u hu => ?_) ?_
          · obtain ⟨hc, hf, hz⟩ := hu.of_drew.facts
            go_simp
          simp only [Act.put, List.setIfInBounds_toArray, List.set_cons_zero, List.set_cons_succ, Nat.reduceAdd]
        iterate 14
          refine plan_idle (by kernel_rfl) ?_
          simp only [Act.put, List.setIfInBounds_toArray, List.set_cons_zero, List.set_cons_succ, Nat.reduceAdd]
        iterate 1
          refine plan_val (by kernel_rfl) (fun u hu => ?_) ?_
          · obtain ⟨hc, hf, hz⟩ := hu.of_drew.facts
            go_simp
          simp only [Act.put, List.setIfInBounds_toArray, List.set_cons_zero, List.set_cons_succ, Nat.reduceAdd]
        refine plan_end ?_
        intro w' hB
        have hk := hB.calm.of_drew
        clear hB
        go_wp2_with fail
        all_goals
          go_ret
          exact ⟨ret_int K.out, (hu.call hv).call hk⟩
      exact absurd ⟨rfl, by rw [size_zero hw1, size_zero (by omega : vs.size = 0)]⟩ hsame
    · skip
      by_cases hw0 : 0 < ws.size
      · skip
        have K := KE 3 (ch_err3 hk0 hz fun h => by rcases h.1 with h | h; cases h; exact absurd h (by show ¬ ws.size = 0; omega)) (by decide)
        clear KE hN
        go_upto_region 12 with (go_at_call 35; refine (cK _).mono ?_; rintro e w1 ⟨rfl, hb1⟩; have hx := (hb1.block (k := wr.heap.size) (by simp)).trans (heap_new wr (.cells #[.int .i64 p, .int .i64 o, .int .i64 f, .bool false, .bool true, .string ws, .string vs] 33 (0, 0))); obtain ⟨x0, x1, x2, x3, x4, x5, x6, hxs⟩ := row7 hx; have hv := ((Calm.refl wr).alloc (.cells #[.int .i64 p, .int .i64 o, .int .i64 f, .bool false, .bool true, .string ws, .string vs] 33 (0, 0))).call hb1; clear hb1 hx)
        refine wp_region_plan [.val (.bool false), .val (.bool false), .val (.pointer (some ⟨wr.heap.size, 5, none⟩)), .val (.string ws), .val (.int .i64 ((ws.size : Int))), .val (.bool true), .val (.bool true), .val (.pointer (some ⟨wr.heap.size, 3, none⟩)), .val (.bool false), .val (.bool true), .val (.bool true), .val (.bool true), .val (.bool true), .idle, .idle, .idle, .idle, .idle, .idle, .idle, .idle, .idle, .val (.bool true), .val (.bool true), .idle, .idle, .idle, .idle, .idle, .idle, .idle, .idle, .idle, .idle, .idle, .idle, .idle, .idle, .val (.bool true)] (by kernel_rfl) (by kernel_rfl) (by kernel_rfl) ?_
        intro X
        iterate 13
          refine plan_val (by kernel_rfl) (fun u hu => ?_) ?_
          · obtain ⟨hc, hf, hz⟩ := hu.of_drew.facts
            go_simp
          simp only [Act.put, List.setIfInBounds_toArray, List.set_cons_zero, List.set_cons_succ, Nat.reduceAdd]
        iterate 9
          refine plan_idle (by kernel_rfl) ?_
          simp only [Act.put, List.setIfInBounds_toArray, List.set_cons_zero, List.set_cons_succ, Nat.reduceAdd]
        iterate 2
          refine plan_val (by kernel_rfl) (fun u hu => ?_) ?_
          · obtain ⟨hc, hf, hz⟩ := hu.of_drew.facts
            go_simp
          simp only [Act.put, List.setIfInBounds_toArray, List.set_cons_zero, List.set_cons_succ, Nat.reduceAdd]
        iterate 14
          refine plan_idle (by kernel_rfl) ?_
          simp only [Act.put, List.setIfInBounds_toArray, List.set_cons_zero, List.set_cons_succ, Nat.reduceAdd]
        iterate 1
          refine plan_val (by kernel_rfl) (fun u hu => ?_) ?_
          · obtain ⟨hc, hf, hz⟩ := hu.of_drew.facts
            go_simp
          simp only [Act.put, List.setIfInBounds_toArray, List.set_cons_zero, List.set_cons_succ, Nat.reduceAdd]
        refine plan_end ?_
        intro w' hB
        have hk := hB.calm.of_drew
        clear hB
        go_wp2_with fail
        all_goals
          go_ret
          exact ⟨ret_int K.out, (hu.call hv).call hk⟩
      have hw1 : ws.size = 0 := by omega
      by_cases hv0 : 0 < vs.size
      · skip
        have HE0 : Hid (Chg.err ⟨p, o, f, false, true, ws, vs⟩ = 0) := show _ = _ from Chg.err_zero.2 ⟨hk0, hz1, hz2, .inr hw1, .inl rfl, fun e => hsame ⟨(St.ext_iff'.1 e).1, (St.ext_iff'.1 e).2⟩⟩
        clear KE
        by_cases hk1 : k = 0
        · subst hk1
          have hN1 : NoErrC l 1 := fun j hj => by
            have : j = 0 := by omega
            subst this
            exact stepC_first HE.out HE0.out
          simp only [Nat.zero_mul, Nat.add_zero] at c0 c1 c2 c3 c4 c5 c6
          go_upto_region 12 with (go_at_call 35; refine (cK _).mono ?_; rintro e w1 ⟨rfl, hb1⟩; have hx := (hb1.block (k := wr.heap.size) (by simp)).trans (heap_new wr (.cells #[.int .i64 p, .int .i64 o, .int .i64 f, .bool false, .bool true, .string ws, .string vs] 33 (0, 0))); obtain ⟨x0, x1, x2, x3, x4, x5, x6, hxs⟩ := row7 hx; have hv := ((Calm.refl wr).alloc (.cells #[.int .i64 p, .int .i64 o, .int .i64 f, .bool false, .bool true, .string ws, .string vs] 33 (0, 0))).call hb1; clear hb1 hx)
          refine wp_region_plan [.val (.bool false), .val (.bool false), .val (.pointer (some ⟨wr.heap.size, 5, none⟩)), .val (.string ws), .val (.int .i64 ((ws.size : Int))), .val (.bool false), .val (.bool false), .idle, .idle, .idle, .val (.bool false), .val (.bool false), .val (.bool false), .val (.pointer (some ⟨wr.heap.size, 6, none⟩)), .val (.string vs), .val (.int .i64 ((vs.size : Int))), .val (.bool true), .val (.bool true), .val (.pointer (some ⟨wr.heap.size, 4, none⟩)), .val (.bool true), .val (.bool false), .val (.bool false), .val (.bool false), .val (.bool false), .val (.int .i64 (0)), .val (.bool false), .val (.bool false), .idle, .idle, .idle, .idle, .idle, .idle, .idle, .idle, .idle, .idle, .val (.bool false), .val (.bool false)] (by kernel_rfl) (by kernel_rfl) (by kernel_rfl) ?_
          intro X
          iterate 7
            refine plan_val (by kernel_rfl) (fun u hu => ?_) ?_
            · obtain ⟨hc, hf, hz⟩ := hu.of_drew.facts
              go_simp
            simp only [Act.put, List.setIfInBounds_toArray, List.set_cons_zero, List.set_cons_succ, Nat.reduceAdd]
          iterate 3
            refine plan_idle (by kernel_rfl) ?_
            simp only [Act.put, List.setIfInBounds_toArray, List.set_cons_zero, List.set_cons_succ, Nat.reduceAdd]
          iterate 17
            refine plan_val (by kernel_rfl) (fun u hu => ?_) ?_
            · obtain ⟨hc, hf, hz⟩ := hu.of_drew.facts
              go_simp
            simp only [Act.put, List.setIfInBounds_toArray, List.set_cons_zero, List.set_cons_succ, Nat.reduceAdd]
          iterate 10
            refine plan_idle (by kernel_rfl) ?_
            simp only [Act.put, List.setIfInBounds_toArray, List.set_cons_zero, List.set_cons_succ, Nat.reduceAdd]
          iterate 2
            refine plan_val (by kernel_rfl) (fun u hu => ?_) ?_
            · obtain ⟨hc, hf, hz⟩ := hu.of_drew.facts
              go_simp
            simp only [Act.put, List.setIfInBounds_toArray, List.set_cons_zero, List.set_cons_succ, Nat.reduceAdd]
          refine plan_end ?_
          intro w' hB
          have hk := hB.calm.of_drew
          clear hB
          go_wp2_with fail
          all_goals exact ⟨⟨1, by omega, rfl, (hu.call hv).call hk, hN1⟩, by simp [intOf]; omega⟩
        obtain ⟨p', o', f', hd', hs', ws', vs', HE', d0, d1, d2, d3, d4, d5, d6⟩ := chg_get2 (hL.calm hu) (k := k - 1) (by omega)
        have hS := stepC_form HE.out HE0.out (by omega) HE'.out
        have hk2 : 1 ≤ k := by omega
        clear hk1
        have cM := fun u => ahead_any p' o' f' p o f u
        have z1 : IntKind.i64.wrap ((k : Int) - 1) = (k : Int) - 1 := IntWalk.i64_in _ (by omega)
        have z2 : ((k : Int) - 1).toNat = k - 1 := by omega
        have z3 : 0 ≤ (k : Int) - 1 := by omega
        have z4 : (k : Int) - 1 < l.length := by omega
        have z5 : 1 ≤ (k : Int) := by omega
        have z0 : 0 < k := hk2
        by_cases hF : kLt (p', o', f') (p, o, f)
        · rw [if_pos (show kLt (Chg.key ⟨p', o', f', hd', hs', ws', vs'⟩) (Chg.key ⟨p, o, f, false, true, ws, vs⟩) from hF)] at hS
          rw [show aheadB p' o' f' p o f = true from by unfold aheadB; rw [decide_eq_true_eq]; exact kcmp_kLt.2 hF] at cM
          have hN1 : NoErrC l (k + 1) := fun j hj => by
            rcases Nat.lt_or_ge j k with h | h
            · exact hN j h
            · rw [show j = k by omega]; exact hS
          clear hS hF HE0 HE HE' hL
          go_upto_region 12 with (go_at_call 35; refine (cK _).mono ?_; rintro e w1 ⟨rfl, hb1⟩; have hx := (hb1.block (k := wr.heap.size) (by simp)).trans (heap_new wr (.cells #[.int .i64 p, .int .i64 o, .int .i64 f, .bool false, .bool true, .string ws, .string vs] 33 (0, 0))); obtain ⟨x0, x1, x2, x3, x4, x5, x6, hxs⟩ := row7 hx; have hv := ((Calm.refl wr).alloc (.cells #[.int .i64 p, .int .i64 o, .int .i64 f, .bool false, .bool true, .string ws, .string vs] 33 (0, 0))).call hb1; have hb2 : b < w1.heap.size := Nat.lt_of_lt_of_le hb hv.size; have hvc := hv.facts.1; replace d0 := (hvc _ _ hb).trans d0; replace d1 := (hvc _ _ hb).trans d1; replace d2 := (hvc _ _ hb).trans d2; clear hvc hb1 hx c0 c1 c2 c3 c4 c5 c6 d3 d4 d5 d6)
          refine wp_region_plan [.val (.bool false), .val (.bool false), .val (.pointer (some ⟨wr.heap.size, 5, none⟩)), .val (.string ws), .val (.int .i64 ((ws.size : Int))), .val (.bool false), .val (.bool false), .idle, .idle, .idle, .val (.bool false), .val (.bool false), .val (.bool false), .val (.pointer (some ⟨wr.heap.size, 6, none⟩)), .val (.string vs), .val (.int .i64 ((vs.size : Int))), .val (.bool true), .val (.bool true), .val (.pointer (some ⟨wr.heap.size, 4, none⟩)), .val (.bool true), .val (.bool false), .val (.bool false), .val (.bool false), .val (.bool false), .val (.int .i64 ((k : Int))), .val (.bool true), .val (.bool true), .val (.slice (some ⟨b, q, none⟩) l.length c), .val (.int .i64 ((k : Int))), .val (.int .i64 ((k : Int) - 1)), .val (.pointer (some ⟨b, q + (k - 1) * 7, none⟩)), .val (.pointer (some ⟨b, q + (k - 1) * 7, none⟩)), .val (.agg #[.int .i64 p', .int .i64 o', .int .i64 f']), .val (.pointer (some ⟨wr.heap.size, 0, none⟩)), .val (.agg #[.int .i64 p, .int .i64 o, .int .i64 f]), .val (.bool true), .val (.bool false), .val (.bool false), .val (.bool false)] (by kernel_rfl) (by kernel_rfl) (by kernel_rfl) ?_
          intro X
          iterate 7
            refine plan_val (by kernel_rfl) (fun u hu => ?_) ?_
            · obtain ⟨hc, hf, hz⟩ := hu.of_drew.facts
              go_simp
              all_goals first
                | (go_at_call 36; exact cM _)
            simp only [Act.put, List.setIfInBounds_toArray, List.set_cons_zero, List.set_cons_succ, Nat.reduceAdd]
          iterate 3
            refine plan_idle (by kernel_rfl) ?_
            simp only [Act.put, List.setIfInBounds_toArray, List.set_cons_zero, List.set_cons_succ, Nat.reduceAdd]
          iterate 29
            refine plan_val (by kernel_rfl) (fun u hu => ?_) ?_
            · obtain ⟨hc, hf, hz⟩ := hu.of_drew.facts
              go_simp
              all_goals first
                | (go_at_call 36; exact cM _)
            simp only [Act.put, List.setIfInBounds_toArray, List.set_cons_zero, List.set_cons_succ, Nat.reduceAdd]
          refine plan_end ?_
          intro w' hB
          have hk := hB.calm.of_drew
          clear hB
          clear z0 z1 z2 z3 z4 z5
          go_wp2_with fail
          all_goals
            go_roundw
            case rel => exact ⟨k + 1, by omega, by go_num, (hu.call hv).call hk, hN1⟩
          case measure => simp [intOf]; omega
        · rw [if_neg (show ¬ kLt (Chg.key ⟨p', o', f', hd', hs', ws', vs'⟩) (Chg.key ⟨p, o, f, false, true, ws, vs⟩) from hF)] at hS
          rw [show aheadB p' o' f' p o f = false from by unfold aheadB; rw [decide_eq_false_iff_not]; exact fun h => hF (kcmp_kLt.1 h)] at cM
          have K : Hid (3 = chErr l) := hS.symm.trans (chErr_at hbig hN (by rw [hS]; decide) hlt)
          clear hS hF HE0 HE HE' hL
          go_upto_region 12 with (go_at_call 35; refine (cK _).mono ?_; rintro e w1 ⟨rfl, hb1⟩; have hx := (hb1.block (k := wr.heap.size) (by simp)).trans (heap_new wr (.cells #[.int .i64 p, .int .i64 o, .int .i64 f, .bool false, .bool true, .string ws, .string vs] 33 (0, 0))); obtain ⟨x0, x1, x2, x3, x4, x5, x6, hxs⟩ := row7 hx; have hv := ((Calm.refl wr).alloc (.cells #[.int .i64 p, .int .i64 o, .int .i64 f, .bool false, .bool true, .string ws, .string vs] 33 (0, 0))).call hb1; have hb2 : b < w1.heap.size := Nat.lt_of_lt_of_le hb hv.size; have hvc := hv.facts.1; replace d0 := (hvc _ _ hb).trans d0; replace d1 := (hvc _ _ hb).trans d1; replace d2 := (hvc _ _ hb).trans d2; clear hvc hb1 hx c0 c1 c2 c3 c4 c5 c6 d3 d4 d5 d6)
          refine wp_region_plan [.val (.bool false), .val (.bool false), .val (.pointer (some ⟨wr.heap.size, 5, none⟩)), .val (.string ws), .val (.int .i64 ((ws.size : Int))), .val (.bool false), .val (.bool false), .idle, .idle, .idle, .val (.bool false), .val (.bool false), .val (.bool false), .val (.pointer (some ⟨wr.heap.size, 6, none⟩)), .val (.string vs), .val (.int .i64 ((vs.size : Int))), .val (.bool true), .val (.bool true), .val (.pointer (some ⟨wr.heap.size, 4, none⟩)), .val (.bool true), .val (.bool false), .val (.bool false), .val (.bool false), .val (.bool false), .val (.int .i64 ((k : Int))), .val (.bool true), .val (.bool true), .val (.slice (some ⟨b, q, none⟩) l.length c), .val (.int .i64 ((k : Int))), .val (.int .i64 ((k : Int) - 1)), .val (.pointer (some ⟨b, q + (k - 1) * 7, none⟩)), .val (.pointer (some ⟨b, q + (k - 1) * 7, none⟩)), .val (.agg #[.int .i64 p', .int .i64 o', .int .i64 f']), .val (.pointer (some ⟨wr.heap.size, 0, none⟩)), .val (.agg #[.int .i64 p, .int .i64 o, .int .i64 f]), .val (.bool false), .val (.bool true), .val (.bool true), .val (.bool true)] (by kernel_rfl) (by kernel_rfl) (by kernel_rfl) ?_
          intro X
          iterate 7
            refine plan_val (by kernel_rfl) (fun u hu => ?_) ?_
            · obtain ⟨hc, hf, hz⟩ := hu.of_drew.facts
              go_simp
              all_goals first
                | (go_at_call 36; exact cM _)
            simp only [Act.put, List.setIfInBounds_toArray, List.set_cons_zero, List.set_cons_succ, Nat.reduceAdd]
          iterate 3
            refine plan_idle (by kernel_rfl) ?_
            simp only [Act.put, List.setIfInBounds_toArray, List.set_cons_zero, List.set_cons_succ, Nat.reduceAdd]
          iterate 29
            refine plan_val (by kernel_rfl) (fun u hu => ?_) ?_
            · obtain ⟨hc, hf, hz⟩ := hu.of_drew.facts
              go_simp
              all_goals first
                | (go_at_call 36; exact cM _)
            simp only [Act.put, List.setIfInBounds_toArray, List.set_cons_zero, List.set_cons_succ, Nat.reduceAdd]
          refine plan_end ?_
          intro w' hB
          have hk := hB.calm.of_drew
          clear hB
          clear z0 z1 z2 z3 z4 z5
          go_wp2_with fail
          all_goals
            go_ret
            exact ⟨ret_int K.out, (hu.call hv).call hk⟩
      have hv1 : vs.size = 0 := by omega
      have HE0 : Hid (Chg.err ⟨p, o, f, false, true, ws, vs⟩ = 0) := show _ = _ from Chg.err_zero.2 ⟨hk0, hz1, hz2, .inr hw1, .inl rfl, fun e => hsame ⟨(St.ext_iff'.1 e).1, (St.ext_iff'.1 e).2⟩⟩
      clear KE
      by_cases hk1 : k = 0
      · subst hk1
        have hN1 : NoErrC l 1 := fun j hj => by
          have : j = 0 := by omega
          subst this
          exact stepC_first HE.out HE0.out
        simp only [Nat.zero_mul, Nat.add_zero] at c0 c1 c2 c3 c4 c5 c6
        go_upto_region 12 with (go_at_call 35; refine (cK _).mono ?_; rintro e w1 ⟨rfl, hb1⟩; have hx := (hb1.block (k := wr.heap.size) (by simp)).trans (heap_new wr (.cells #[.int .i64 p, .int .i64 o, .int .i64 f, .bool false, .bool true, .string ws, .string vs] 33 (0, 0))); obtain ⟨x0, x1, x2, x3, x4, x5, x6, hxs⟩ := row7 hx; have hv := ((Calm.refl wr).alloc (.cells #[.int .i64 p, .int .i64 o, .int .i64 f, .bool false, .bool true, .string ws, .string vs] 33 (0, 0))).call hb1; clear hb1 hx)
        refine wp_region_plan [.val (.bool false), .val (.bool false), .val (.pointer (some ⟨wr.heap.size, 5, none⟩)), .val (.string ws), .val (.int .i64 ((ws.size : Int))), .val (.bool false), .val (.bool false), .idle, .idle, .idle, .val (.bool false), .val (.bool false), .val (.bool false), .val (.pointer (some ⟨wr.heap.size, 6, none⟩)), .val (.string vs), .val (.int .i64 ((vs.size : Int))), .val (.bool false), .val (.bool false), .idle, .idle, .idle, .val (.bool false), .val (.bool false), .val (.bool false), .val (.int .i64 (0)), .val (.bool false), .val (.bool false), .idle, .idle, .idle, .idle, .idle, .idle, .idle, .idle, .idle, .idle, .val (.bool false), .val (.bool false)] (by kernel_rfl) (by kernel_rfl) (by kernel_rfl) ?_
        intro X
        iterate 7
          refine plan_val (by kernel_rfl) (fun u hu => ?_) ?_
          · obtain ⟨hc, hf, hz⟩ := hu.of_drew.facts
            go_simp
          simp only [Act.put, List.setIfInBounds_toArray, List.set_cons_zero, List.set_cons_succ, Nat.reduceAdd]
        iterate 3
          refine plan_idle (by kernel_rfl) ?_
          simp only [Act.put, List.setIfInBounds_toArray, List.set_cons_zero, List.set_cons_succ, Nat.reduceAdd]
        iterate 8
          refine plan_val (by kernel_rfl) (fun u hu => ?_) ?_
          · obtain ⟨hc, hf, hz⟩ := hu.of_drew.facts
            go_simp
          simp only [Act.put, List.setIfInBounds_toArray, List.set_cons_zero, List.set_cons_succ, Nat.reduceAdd]
        iterate 3
          refine plan_idle (by kernel_rfl) ?_
          simp only [Act.put, List.setIfInBounds_toArray, List.set_cons_zero, List.set_cons_succ, Nat.reduceAdd]
        iterate 6
          refine plan_val (by kernel_rfl) (fun u hu => ?_) ?_
          · obtain ⟨hc, hf, hz⟩ := hu.of_drew.facts
            go_simp
          simp only [Act.put, List.setIfInBounds_toArray, List.set_cons_zero, List.set_cons_succ, Nat.reduceAdd]
        iterate 10
          refine plan_idle (by kernel_rfl) ?_
          simp only [Act.put, List.setIfInBounds_toArray, List.set_cons_zero, List.set_cons_succ, Nat.reduceAdd]
        iterate 2
          refine plan_val (by kernel_rfl) (fun u hu => ?_) ?_
          · obtain ⟨hc, hf, hz⟩ := hu.of_drew.facts
            go_simp
          simp only [Act.put, List.setIfInBounds_toArray, List.set_cons_zero, List.set_cons_succ, Nat.reduceAdd]
        refine plan_end ?_
        intro w' hB
        have hk := hB.calm.of_drew
        clear hB
        go_wp2_with fail
        all_goals exact ⟨⟨1, by omega, rfl, (hu.call hv).call hk, hN1⟩, by simp [intOf]; omega⟩
      obtain ⟨p', o', f', hd', hs', ws', vs', HE', d0, d1, d2, d3, d4, d5, d6⟩ := chg_get2 (hL.calm hu) (k := k - 1) (by omega)
      have hS := stepC_form HE.out HE0.out (by omega) HE'.out
      have hk2 : 1 ≤ k := by omega
      clear hk1
      have cM := fun u => ahead_any p' o' f' p o f u
      have z1 : IntKind.i64.wrap ((k : Int) - 1) = (k : Int) - 1 := IntWalk.i64_in _ (by omega)
      have z2 : ((k : Int) - 1).toNat = k - 1 := by omega
      have z3 : 0 ≤ (k : Int) - 1 := by omega
      have z4 : (k : Int) - 1 < l.length := by omega
      have z5 : 1 ≤ (k : Int) := by omega
      have z0 : 0 < k := hk2
      by_cases hF : kLt (p', o', f') (p, o, f)
      · rw [if_pos (show kLt (Chg.key ⟨p', o', f', hd', hs', ws', vs'⟩) (Chg.key ⟨p, o, f, false, true, ws, vs⟩) from hF)] at hS
        rw [show aheadB p' o' f' p o f = true from by unfold aheadB; rw [decide_eq_true_eq]; exact kcmp_kLt.2 hF] at cM
        have hN1 : NoErrC l (k + 1) := fun j hj => by
          rcases Nat.lt_or_ge j k with h | h
          · exact hN j h
          · rw [show j = k by omega]; exact hS
        clear hS hF HE0 HE HE' hL
        go_upto_region 12 with (go_at_call 35; refine (cK _).mono ?_; rintro e w1 ⟨rfl, hb1⟩; have hx := (hb1.block (k := wr.heap.size) (by simp)).trans (heap_new wr (.cells #[.int .i64 p, .int .i64 o, .int .i64 f, .bool false, .bool true, .string ws, .string vs] 33 (0, 0))); obtain ⟨x0, x1, x2, x3, x4, x5, x6, hxs⟩ := row7 hx; have hv := ((Calm.refl wr).alloc (.cells #[.int .i64 p, .int .i64 o, .int .i64 f, .bool false, .bool true, .string ws, .string vs] 33 (0, 0))).call hb1; have hb2 : b < w1.heap.size := Nat.lt_of_lt_of_le hb hv.size; have hvc := hv.facts.1; replace d0 := (hvc _ _ hb).trans d0; replace d1 := (hvc _ _ hb).trans d1; replace d2 := (hvc _ _ hb).trans d2; clear hvc hb1 hx c0 c1 c2 c3 c4 c5 c6 d3 d4 d5 d6)
        refine wp_region_plan [.val (.bool false), .val (.bool false), .val (.pointer (some ⟨wr.heap.size, 5, none⟩)), .val (.string ws), .val (.int .i64 ((ws.size : Int))), .val (.bool false), .val (.bool false), .idle, .idle, .idle, .val (.bool false), .val (.bool false), .val (.bool false), .val (.pointer (some ⟨wr.heap.size, 6, none⟩)), .val (.string vs), .val (.int .i64 ((vs.size : Int))), .val (.bool false), .val (.bool false), .idle, .idle, .idle, .val (.bool false), .val (.bool false), .val (.bool false), .val (.int .i64 ((k : Int))), .val (.bool true), .val (.bool true), .val (.slice (some ⟨b, q, none⟩) l.length c), .val (.int .i64 ((k : Int))), .val (.int .i64 ((k : Int) - 1)), .val (.pointer (some ⟨b, q + (k - 1) * 7, none⟩)), .val (.pointer (some ⟨b, q + (k - 1) * 7, none⟩)), .val (.agg #[.int .i64 p', .int .i64 o', .int .i64 f']), .val (.pointer (some ⟨wr.heap.size, 0, none⟩)), .val (.agg #[.int .i64 p, .int .i64 o, .int .i64 f]), .val (.bool true), .val (.bool false), .val (.bool false), .val (.bool false)] (by kernel_rfl) (by kernel_rfl) (by kernel_rfl) ?_
        intro X
        iterate 7
          refine plan_val (by kernel_rfl) (fun u hu => ?_) ?_
          · obtain ⟨hc, hf, hz⟩ := hu.of_drew.facts
            go_simp
            all_goals first
              | (go_at_call 36; exact cM _)
          simp only [Act.put, List.setIfInBounds_toArray, List.set_cons_zero, List.set_cons_succ, Nat.reduceAdd]
        iterate 3
          refine plan_idle (by kernel_rfl) ?_
          simp only [Act.put, List.setIfInBounds_toArray, List.set_cons_zero, List.set_cons_succ, Nat.reduceAdd]
        iterate 8
          refine plan_val (by kernel_rfl) (fun u hu => ?_) ?_
          · obtain ⟨hc, hf, hz⟩ := hu.of_drew.facts
            go_simp
            all_goals first
              | (go_at_call 36; exact cM _)
          simp only [Act.put, List.setIfInBounds_toArray, List.set_cons_zero, List.set_cons_succ, Nat.reduceAdd]
        iterate 3
          refine plan_idle (by kernel_rfl) ?_
          simp only [Act.put, List.setIfInBounds_toArray, List.set_cons_zero, List.set_cons_succ, Nat.reduceAdd]
        iterate 18
          refine plan_val (by kernel_rfl) (fun u hu => ?_) ?_
          · obtain ⟨hc, hf, hz⟩ := hu.of_drew.facts
            go_simp
            all_goals first
              | (go_at_call 36; exact cM _)
          simp only [Act.put, List.setIfInBounds_toArray, List.set_cons_zero, List.set_cons_succ, Nat.reduceAdd]
        refine plan_end ?_
        intro w' hB
        have hk := hB.calm.of_drew
        clear hB
        clear z0 z1 z2 z3 z4 z5
        go_wp2_with fail
        all_goals
          go_roundw
          case rel => exact ⟨k + 1, by omega, by go_num, (hu.call hv).call hk, hN1⟩
        case measure => simp [intOf]; omega
      · rw [if_neg (show ¬ kLt (Chg.key ⟨p', o', f', hd', hs', ws', vs'⟩) (Chg.key ⟨p, o, f, false, true, ws, vs⟩) from hF)] at hS
        rw [show aheadB p' o' f' p o f = false from by unfold aheadB; rw [decide_eq_false_iff_not]; exact fun h => hF (kcmp_kLt.1 h)] at cM
        have K : Hid (3 = chErr l) := hS.symm.trans (chErr_at hbig hN (by rw [hS]; decide) hlt)
        clear hS hF HE0 HE HE' hL
        go_upto_region 12 with (go_at_call 35; refine (cK _).mono ?_; rintro e w1 ⟨rfl, hb1⟩; have hx := (hb1.block (k := wr.heap.size) (by simp)).trans (heap_new wr (.cells #[.int .i64 p, .int .i64 o, .int .i64 f, .bool false, .bool true, .string ws, .string vs] 33 (0, 0))); obtain ⟨x0, x1, x2, x3, x4, x5, x6, hxs⟩ := row7 hx; have hv := ((Calm.refl wr).alloc (.cells #[.int .i64 p, .int .i64 o, .int .i64 f, .bool false, .bool true, .string ws, .string vs] 33 (0, 0))).call hb1; have hb2 : b < w1.heap.size := Nat.lt_of_lt_of_le hb hv.size; have hvc := hv.facts.1; replace d0 := (hvc _ _ hb).trans d0; replace d1 := (hvc _ _ hb).trans d1; replace d2 := (hvc _ _ hb).trans d2; clear hvc hb1 hx c0 c1 c2 c3 c4 c5 c6 d3 d4 d5 d6)
        refine wp_region_plan [.val (.bool false), .val (.bool false), .val (.pointer (some ⟨wr.heap.size, 5, none⟩)), .val (.string ws), .val (.int .i64 ((ws.size : Int))), .val (.bool false), .val (.bool false), .idle, .idle, .idle, .val (.bool false), .val (.bool false), .val (.bool false), .val (.pointer (some ⟨wr.heap.size, 6, none⟩)), .val (.string vs), .val (.int .i64 ((vs.size : Int))), .val (.bool false), .val (.bool false), .idle, .idle, .idle, .val (.bool false), .val (.bool false), .val (.bool false), .val (.int .i64 ((k : Int))), .val (.bool true), .val (.bool true), .val (.slice (some ⟨b, q, none⟩) l.length c), .val (.int .i64 ((k : Int))), .val (.int .i64 ((k : Int) - 1)), .val (.pointer (some ⟨b, q + (k - 1) * 7, none⟩)), .val (.pointer (some ⟨b, q + (k - 1) * 7, none⟩)), .val (.agg #[.int .i64 p', .int .i64 o', .int .i64 f']), .val (.pointer (some ⟨wr.heap.size, 0, none⟩)), .val (.agg #[.int .i64 p, .int .i64 o, .int .i64 f]), .val (.bool false), .val (.bool true), .val (.bool true), .val (.bool true)] (by kernel_rfl) (by kernel_rfl) (by kernel_rfl) ?_
        intro X
        iterate 7
          refine plan_val (by kernel_rfl) (fun u hu => ?_) ?_
          · obtain ⟨hc, hf, hz⟩ := hu.of_drew.facts
            go_simp
            all_goals first
              | (go_at_call 36; exact cM _)
          simp only [Act.put, List.setIfInBounds_toArray, List.set_cons_zero, List.set_cons_succ, Nat.reduceAdd]
        iterate 3
          refine plan_idle (by kernel_rfl) ?_
          simp only [Act.put, List.setIfInBounds_toArray, List.set_cons_zero, List.set_cons_succ, Nat.reduceAdd]
        iterate 8
          refine plan_val (by kernel_rfl) (fun u hu => ?_) ?_
          · obtain ⟨hc, hf, hz⟩ := hu.of_drew.facts
            go_simp
            all_goals first
              | (go_at_call 36; exact cM _)
          simp only [Act.put, List.setIfInBounds_toArray, List.set_cons_zero, List.set_cons_succ, Nat.reduceAdd]
        iterate 3
          refine plan_idle (by kernel_rfl) ?_
          simp only [Act.put, List.setIfInBounds_toArray, List.set_cons_zero, List.set_cons_succ, Nat.reduceAdd]
        iterate 18
          refine plan_val (by kernel_rfl) (fun u hu => ?_) ?_
          · obtain ⟨hc, hf, hz⟩ := hu.of_drew.facts
            go_simp
            all_goals first
              | (go_at_call 36; exact cM _)
          simp only [Act.put, List.setIfInBounds_toArray, List.set_cons_zero, List.set_cons_succ, Nat.reduceAdd]
        refine plan_end ?_
        intro w' hB
        have hk := hB.calm.of_drew
        clear hB
        clear z0 z1 z2 z3 z4 z5
        go_wp2_with fail
        all_goals
          go_ret
          exact ⟨ret_int K.out, (hu.call hv).call hk⟩
    · skip
      by_cases hw0 : 0 < ws.size
      · skip
        by_cases hv0 : 0 < vs.size
        · skip
          have K := KE 3 (ch_err3 hk0 hz fun h => by rcases h.2.1 with h | h; cases h; exact absurd h (by show ¬ vs.size = 0; omega)) (by decide)
          clear KE hN
          go_upto_region 12 with (go_at_call 35; refine (cK _).mono ?_; rintro e w1 ⟨rfl, hb1⟩; have hx := (hb1.block (k := wr.heap.size) (by simp)).trans (heap_new wr (.cells #[.int .i64 p, .int .i64 o, .int .i64 f, .bool true, .bool false, .string ws, .string vs] 33 (0, 0))); obtain ⟨x0, x1, x2, x3, x4, x5, x6, hxs⟩ := row7 hx; have hv := ((Calm.refl wr).alloc (.cells #[.int .i64 p, .int .i64 o, .int .i64 f, .bool true, .bool false, .string ws, .string vs] 33 (0, 0))).call hb1; clear hb1 hx)
          refine wp_region_plan [.val (.bool false), .val (.bool false), .val (.pointer (some ⟨wr.heap.size, 5, none⟩)), .val (.string ws), .val (.int .i64 ((ws.size : Int))), .val (.bool true), .val (.bool true), .val (.pointer (some ⟨wr.heap.size, 3, none⟩)), .val (.bool true), .val (.bool false), .val (.bool false), .val (.bool false), .val (.bool false), .val (.pointer (some ⟨wr.heap.size, 6, none⟩)), .val (.string vs), .val (.int .i64 ((vs.size : Int))), .val (.bool true), .val (.bool true), .val (.pointer (some ⟨wr.heap.size, 4, none⟩)), .val (.bool false), .val (.bool true), .val (.bool true), .val (.bool true), .val (.bool true), .idle, .idle, .idle, .idle, .idle, .idle, .idle, .idle, .idle, .idle, .idle, .idle, .idle, .idle, .val (.bool true)] (by kernel_rfl) (by kernel_rfl) (by kernel_rfl) ?_
          intro X
          iterate 24
            refine plan_val (by kernel_rfl) (fun u hu => ?_) ?_
            · obtain ⟨hc, hf, hz⟩ := hu.of_drew.facts
              go_simp
            simp only [Act.put, List.setIfInBounds_toArray, List.set_cons_zero, List.set_cons_succ, Nat.reduceAdd]
          iterate 14
            refine plan_idle (by kernel_rfl) ?_
            simp only [Act.put, List.setIfInBounds_toArray, List.set_cons_zero, List.set_cons_succ, Nat.reduceAdd]
          iterate 1
            refine plan_val (by kernel_rfl) (fun u hu => ?_) ?_
            · obtain ⟨hc, hf, hz⟩ := hu.of_drew.facts
              go_simp
            simp only [Act.put, List.setIfInBounds_toArray, List.set_cons_zero, List.set_cons_succ, Nat.reduceAdd]
          refine plan_end ?_
          intro w' hB
          have hk := hB.calm.of_drew
          clear hB
          go_wp2_with fail
          all_goals
            go_ret
            exact ⟨ret_int K.out, (hu.call hv).call hk⟩
        have hv1 : vs.size = 0 := by omega
        have HE0 : Hid (Chg.err ⟨p, o, f, true, false, ws, vs⟩ = 0) := show _ = _ from Chg.err_zero.2 ⟨hk0, hz1, hz2, .inl rfl, .inr hv1, fun e => hsame ⟨(St.ext_iff'.1 e).1, (St.ext_iff'.1 e).2⟩⟩
        clear KE
        by_cases hk1 : k = 0
        · subst hk1
          have hN1 : NoErrC l 1 := fun j hj => by
            have : j = 0 := by omega
            subst this
            exact stepC_first HE.out HE0.out
          simp only [Nat.zero_mul, Nat.add_zero] at c0 c1 c2 c3 c4 c5 c6
          go_upto_region 12 with (go_at_call 35; refine (cK _).mono ?_; rintro e w1 ⟨rfl, hb1⟩; have hx := (hb1.block (k := wr.heap.size) (by simp)).trans (heap_new wr (.cells #[.int .i64 p, .int .i64 o, .int .i64 f, .bool true, .bool false, .string ws, .string vs] 33 (0, 0))); obtain ⟨x0, x1, x2, x3, x4, x5, x6, hxs⟩ := row7 hx; have hv := ((Calm.refl wr).alloc (.cells #[.int .i64 p, .int .i64 o, .int .i64 f, .bool true, .bool false, .string ws, .string vs] 33 (0, 0))).call hb1; clear hb1 hx)
          refine wp_region_plan [.val (.bool false), .val (.bool false), .val (.pointer (some ⟨wr.heap.size, 5, none⟩)), .val (.string ws), .val (.int .i64 ((ws.size : Int))), .val (.bool true), .val (.bool true), .val (.pointer (some ⟨wr.heap.size, 3, none⟩)), .val (.bool true), .val (.bool false), .val (.bool false), .val (.bool false), .val (.bool false), .val (.pointer (some ⟨wr.heap.size, 6, none⟩)), .val (.string vs), .val (.int .i64 ((vs.size : Int))), .val (.bool false), .val (.bool false), .idle, .idle, .idle, .val (.bool false), .val (.bool false), .val (.bool false), .val (.int .i64 (0)), .val (.bool false), .val (.bool false), .idle, .idle, .idle, .idle, .idle, .idle, .idle, .idle, .idle, .idle, .val (.bool false), .val (.bool false)] (by kernel_rfl) (by kernel_rfl) (by kernel_rfl) ?_
          intro X
          iterate 18
            refine plan_val (by kernel_rfl) (fun u hu => ?_) ?_
            · obtain ⟨hc, hf, hz⟩ := hu.of_drew.facts
              go_simp
            simp only [Act.put, List.setIfInBounds_toArray, List.set_cons_zero, List.set_cons_succ, Nat.reduceAdd]
          iterate 3
            refine plan_idle (by kernel_rfl) ?_
            simp only [Act.put, List.setIfInBounds_toArray, List.set_cons_zero, List.set_cons_succ, Nat.reduceAdd]
          iterate 6
            refine plan_val (by kernel_rfl) (fun u hu => ?_) ?_
            · obtain ⟨hc, hf, hz⟩ := hu.of_drew.facts
              go_simp
            simp only [Act.put, List.setIfInBounds_toArray, List.set_cons_zero, List.set_cons_succ, Nat.reduceAdd]
          iterate 10
            refine plan_idle (by kernel_rfl) ?_
            simp only [Act.put, List.setIfInBounds_toArray, List.set_cons_zero, List.set_cons_succ, Nat.reduceAdd]
          iterate 2
            refine plan_val (by kernel_rfl) (fun u hu => ?_) ?_
            · obtain ⟨hc, hf, hz⟩ := hu.of_drew.facts
              go_simp
            simp only [Act.put, List.setIfInBounds_toArray, List.set_cons_zero, List.set_cons_succ, Nat.reduceAdd]
          refine plan_end ?_
          intro w' hB
          have hk := hB.calm.of_drew
          clear hB
          go_wp2_with fail
          all_goals exact ⟨⟨1, by omega, rfl, (hu.call hv).call hk, hN1⟩, by simp [intOf]; omega⟩
        obtain ⟨p', o', f', hd', hs', ws', vs', HE', d0, d1, d2, d3, d4, d5, d6⟩ := chg_get2 (hL.calm hu) (k := k - 1) (by omega)
        have hS := stepC_form HE.out HE0.out (by omega) HE'.out
        have hk2 : 1 ≤ k := by omega
        clear hk1
        have cM := fun u => ahead_any p' o' f' p o f u
        have z1 : IntKind.i64.wrap ((k : Int) - 1) = (k : Int) - 1 := IntWalk.i64_in _ (by omega)
        have z2 : ((k : Int) - 1).toNat = k - 1 := by omega
        have z3 : 0 ≤ (k : Int) - 1 := by omega
        have z4 : (k : Int) - 1 < l.length := by omega
        have z5 : 1 ≤ (k : Int) := by omega
        have z0 : 0 < k := hk2
        by_cases hF : kLt (p', o', f') (p, o, f)
        · rw [if_pos (show kLt (Chg.key ⟨p', o', f', hd', hs', ws', vs'⟩) (Chg.key ⟨p, o, f, true, false, ws, vs⟩) from hF)] at hS
          rw [show aheadB p' o' f' p o f = true from by unfold aheadB; rw [decide_eq_true_eq]; exact kcmp_kLt.2 hF] at cM
          have hN1 : NoErrC l (k + 1) := fun j hj => by
            rcases Nat.lt_or_ge j k with h | h
            · exact hN j h
            · rw [show j = k by omega]; exact hS
          clear hS hF HE0 HE HE' hL
          go_upto_region 12 with (go_at_call 35; refine (cK _).mono ?_; rintro e w1 ⟨rfl, hb1⟩; have hx := (hb1.block (k := wr.heap.size) (by simp)).trans (heap_new wr (.cells #[.int .i64 p, .int .i64 o, .int .i64 f, .bool true, .bool false, .string ws, .string vs] 33 (0, 0))); obtain ⟨x0, x1, x2, x3, x4, x5, x6, hxs⟩ := row7 hx; have hv := ((Calm.refl wr).alloc (.cells #[.int .i64 p, .int .i64 o, .int .i64 f, .bool true, .bool false, .string ws, .string vs] 33 (0, 0))).call hb1; have hb2 : b < w1.heap.size := Nat.lt_of_lt_of_le hb hv.size; have hvc := hv.facts.1; replace d0 := (hvc _ _ hb).trans d0; replace d1 := (hvc _ _ hb).trans d1; replace d2 := (hvc _ _ hb).trans d2; clear hvc hb1 hx c0 c1 c2 c3 c4 c5 c6 d3 d4 d5 d6)
          refine wp_region_plan [.val (.bool false), .val (.bool false), .val (.pointer (some ⟨wr.heap.size, 5, none⟩)), .val (.string ws), .val (.int .i64 ((ws.size : Int))), .val (.bool true), .val (.bool true), .val (.pointer (some ⟨wr.heap.size, 3, none⟩)), .val (.bool true), .val (.bool false), .val (.bool false), .val (.bool false), .val (.bool false), .val (.pointer (some ⟨wr.heap.size, 6, none⟩)), .val (.string vs), .val (.int .i64 ((vs.size : Int))), .val (.bool false), .val (.bool false), .idle, .idle, .idle, .val (.bool false), .val (.bool false), .val (.bool false), .val (.int .i64 ((k : Int))), .val (.bool true), .val (.bool true), .val (.slice (some ⟨b, q, none⟩) l.length c), .val (.int .i64 ((k : Int))), .val (.int .i64 ((k : Int) - 1)), .val (.pointer (some ⟨b, q + (k - 1) * 7, none⟩)), .val (.pointer (some ⟨b, q + (k - 1) * 7, none⟩)), .val (.agg #[.int .i64 p', .int .i64 o', .int .i64 f']), .val (.pointer (some ⟨wr.heap.size, 0, none⟩)), .val (.agg #[.int .i64 p, .int .i64 o, .int .i64 f]), .val (.bool true), .val (.bool false), .val (.bool false), .val (.bool false)] (by kernel_rfl) (by kernel_rfl) (by kernel_rfl) ?_
          intro X
          iterate 18
            refine plan_val (by kernel_rfl) (fun u hu => ?_) ?_
            · obtain ⟨hc, hf, hz⟩ := hu.of_drew.facts
              go_simp
              all_goals first
                | (go_at_call 36; exact cM _)
            simp only [Act.put, List.setIfInBounds_toArray, List.set_cons_zero, List.set_cons_succ, Nat.reduceAdd]
          iterate 3
            refine plan_idle (by kernel_rfl) ?_
            simp only [Act.put, List.setIfInBounds_toArray, List.set_cons_zero, List.set_cons_succ, Nat.reduceAdd]
          iterate 18
            refine plan_val (by kernel_rfl) (fun u hu => ?_) ?_
            · obtain ⟨hc, hf, hz⟩ := hu.of_drew.facts
              go_simp
              all_goals first
                | (go_at_call 36; exact cM _)
            simp only [Act.put, List.setIfInBounds_toArray, List.set_cons_zero, List.set_cons_succ, Nat.reduceAdd]
          refine plan_end ?_
          intro w' hB
          have hk := hB.calm.of_drew
          clear hB
          clear z0 z1 z2 z3 z4 z5
          go_wp2_with fail
          all_goals
            go_roundw
            case rel => exact ⟨k + 1, by omega, by go_num, (hu.call hv).call hk, hN1⟩
          case measure => simp [intOf]; omega
        · rw [if_neg (show ¬ kLt (Chg.key ⟨p', o', f', hd', hs', ws', vs'⟩) (Chg.key ⟨p, o, f, true, false, ws, vs⟩) from hF)] at hS
          rw [show aheadB p' o' f' p o f = false from by unfold aheadB; rw [decide_eq_false_iff_not]; exact fun h => hF (kcmp_kLt.1 h)] at cM
          have K : Hid (3 = chErr l) := hS.symm.trans (chErr_at hbig hN (by rw [hS]; decide) hlt)
          clear hS hF HE0 HE HE' hL
          go_upto_region 12 with (go_at_call 35; refine (cK _).mono ?_; rintro e w1 ⟨rfl, hb1⟩; have hx := (hb1.block (k := wr.heap.size) (by simp)).trans (heap_new wr (.cells #[.int .i64 p, .int .i64 o, .int .i64 f, .bool true, .bool false, .string ws, .string vs] 33 (0, 0))); obtain ⟨x0, x1, x2, x3, x4, x5, x6, hxs⟩ := row7 hx; have hv := ((Calm.refl wr).alloc (.cells #[.int .i64 p, .int .i64 o, .int .i64 f, .bool true, .bool false, .string ws, .string vs] 33 (0, 0))).call hb1; have hb2 : b < w1.heap.size := Nat.lt_of_lt_of_le hb hv.size; have hvc := hv.facts.1; replace d0 := (hvc _ _ hb).trans d0; replace d1 := (hvc _ _ hb).trans d1; replace d2 := (hvc _ _ hb).trans d2; clear hvc hb1 hx c0 c1 c2 c3 c4 c5 c6 d3 d4 d5 d6)
          refine wp_region_plan [.val (.bool false), .val (.bool false), .val (.pointer (some ⟨wr.heap.size, 5, none⟩)), .val (.string ws), .val (.int .i64 ((ws.size : Int))), .val (.bool true), .val (.bool true), .val (.pointer (some ⟨wr.heap.size, 3, none⟩)), .val (.bool true), .val (.bool false), .val (.bool false), .val (.bool false), .val (.bool false), .val (.pointer (some ⟨wr.heap.size, 6, none⟩)), .val (.string vs), .val (.int .i64 ((vs.size : Int))), .val (.bool false), .val (.bool false), .idle, .idle, .idle, .val (.bool false), .val (.bool false), .val (.bool false), .val (.int .i64 ((k : Int))), .val (.bool true), .val (.bool true), .val (.slice (some ⟨b, q, none⟩) l.length c), .val (.int .i64 ((k : Int))), .val (.int .i64 ((k : Int) - 1)), .val (.pointer (some ⟨b, q + (k - 1) * 7, none⟩)), .val (.pointer (some ⟨b, q + (k - 1) * 7, none⟩)), .val (.agg #[.int .i64 p', .int .i64 o', .int .i64 f']), .val (.pointer (some ⟨wr.heap.size, 0, none⟩)), .val (.agg #[.int .i64 p, .int .i64 o, .int .i64 f]), .val (.bool false), .val (.bool true), .val (.bool true), .val (.bool true)] (by kernel_rfl) (by kernel_rfl) (by kernel_rfl) ?_
          intro X
          iterate 18
            refine plan_val (by kernel_rfl) (fun u hu => ?_) ?_
            · obtain ⟨hc, hf, hz⟩ := hu.of_drew.facts
              go_simp
              all_goals first
                | (go_at_call 36; exact cM _)
            simp only [Act.put, List.setIfInBounds_toArray, List.set_cons_zero, List.set_cons_succ, Nat.reduceAdd]
          iterate 3
            refine plan_idle (by kernel_rfl) ?_
            simp only [Act.put, List.setIfInBounds_toArray, List.set_cons_zero, List.set_cons_succ, Nat.reduceAdd]
          iterate 18
            refine plan_val (by kernel_rfl) (fun u hu => ?_) ?_
            · obtain ⟨hc, hf, hz⟩ := hu.of_drew.facts
              go_simp
              all_goals first
                | (go_at_call 36; exact cM _)
            simp only [Act.put, List.setIfInBounds_toArray, List.set_cons_zero, List.set_cons_succ, Nat.reduceAdd]
          refine plan_end ?_
          intro w' hB
          have hk := hB.calm.of_drew
          clear hB
          clear z0 z1 z2 z3 z4 z5
          go_wp2_with fail
          all_goals
            go_ret
            exact ⟨ret_int K.out, (hu.call hv).call hk⟩
      have hw1 : ws.size = 0 := by omega
      by_cases hv0 : 0 < vs.size
      · skip
        have K := KE 3 (ch_err3 hk0 hz fun h => by rcases h.2.1 with h | h; cases h; exact absurd h (by show ¬ vs.size = 0; omega)) (by decide)
        clear KE hN
        go_upto_region 12 with (go_at_call 35; refine (cK _).mono ?_; rintro e w1 ⟨rfl, hb1⟩; have hx := (hb1.block (k := wr.heap.size) (by simp)).trans (heap_new wr (.cells #[.int .i64 p, .int .i64 o, .int .i64 f, .bool true, .bool false, .string ws, .string vs] 33 (0, 0))); obtain ⟨x0, x1, x2, x3, x4, x5, x6, hxs⟩ := row7 hx; have hv := ((Calm.refl wr).alloc (.cells #[.int .i64 p, .int .i64 o, .int .i64 f, .bool true, .bool false, .string ws, .string vs] 33 (0, 0))).call hb1; clear hb1 hx)
        refine wp_region_plan [.val (.bool false), .val (.bool false), .val (.pointer (some ⟨wr.heap.size, 5, none⟩)), .val (.string ws), .val (.int .i64 ((ws.size : Int))), .val (.bool false), .val (.bool false), .idle, .idle, .idle, .val (.bool false), .val (.bool false), .val (.bool false), .val (.pointer (some ⟨wr.heap.size, 6, none⟩)), .val (.string vs), .val (.int .i64 ((vs.size : Int))), .val (.bool true), .val (.bool true), .val (.pointer (some ⟨wr.heap.size, 4, none⟩)), .val (.bool false), .val (.bool true), .val (.bool true), .val (.bool true), .val (.bool true), .idle, .idle, .idle, .idle, .idle, .idle, .idle, .idle, .idle, .idle, .idle, .idle, .idle, .idle, .val (.bool true)] (by kernel_rfl) (by kernel_rfl) (by kernel_rfl) ?_
        intro X
        iterate 7
          refine plan_val (by kernel_rfl) (fun u hu => ?_) ?_
          · obtain ⟨hc, hf, hz⟩ := hu.of_drew.facts
            go_simp
          simp only [Act.put, List.setIfInBounds_toArray, List.set_cons_zero, List.set_cons_succ, Nat.reduceAdd]
        iterate 3
          refine plan_idle (by kernel_rfl) ?_
          simp only [Act.put, List.setIfInBounds_toArray, List.set_cons_zero, List.set_cons_succ, Nat.reduceAdd]
        iterate 14
          refine plan_val (by kernel_rfl) (fun u hu => ?_) ?_
          · obtain ⟨hc, hf, hz⟩ := hu.of_drew.facts
            go_simp
          simp only [Act.put, List.setIfInBounds_toArray, List.set_cons_zero, List.set_cons_succ, Nat.reduceAdd]
        iterate 14
          refine plan_idle (by kernel_rfl) ?_
          simp only [Act.put, List.setIfInBounds_toArray, List.set_cons_zero, List.set_cons_succ, Nat.reduceAdd]
        iterate 1
          refine plan_val (by kernel_rfl) (fun u hu => ?_) ?_
          · obtain ⟨hc, hf, hz⟩ := hu.of_drew.facts
            go_simp
          simp only [Act.put, List.setIfInBounds_toArray, List.set_cons_zero, List.set_cons_succ, Nat.reduceAdd]
        refine plan_end ?_
        intro w' hB
        have hk := hB.calm.of_drew
        clear hB
        go_wp2_with fail
        all_goals
          go_ret
          exact ⟨ret_int K.out, (hu.call hv).call hk⟩
      have hv1 : vs.size = 0 := by omega
      have HE0 : Hid (Chg.err ⟨p, o, f, true, false, ws, vs⟩ = 0) := show _ = _ from Chg.err_zero.2 ⟨hk0, hz1, hz2, .inl rfl, .inr hv1, fun e => hsame ⟨(St.ext_iff'.1 e).1, (St.ext_iff'.1 e).2⟩⟩
      clear KE
      by_cases hk1 : k = 0
      · subst hk1
        have hN1 : NoErrC l 1 := fun j hj => by
          have : j = 0 := by omega
          subst this
          exact stepC_first HE.out HE0.out
        simp only [Nat.zero_mul, Nat.add_zero] at c0 c1 c2 c3 c4 c5 c6
        go_upto_region 12 with (go_at_call 35; refine (cK _).mono ?_; rintro e w1 ⟨rfl, hb1⟩; have hx := (hb1.block (k := wr.heap.size) (by simp)).trans (heap_new wr (.cells #[.int .i64 p, .int .i64 o, .int .i64 f, .bool true, .bool false, .string ws, .string vs] 33 (0, 0))); obtain ⟨x0, x1, x2, x3, x4, x5, x6, hxs⟩ := row7 hx; have hv := ((Calm.refl wr).alloc (.cells #[.int .i64 p, .int .i64 o, .int .i64 f, .bool true, .bool false, .string ws, .string vs] 33 (0, 0))).call hb1; clear hb1 hx)
        refine wp_region_plan [.val (.bool false), .val (.bool false), .val (.pointer (some ⟨wr.heap.size, 5, none⟩)), .val (.string ws), .val (.int .i64 ((ws.size : Int))), .val (.bool false), .val (.bool false), .idle, .idle, .idle, .val (.bool false), .val (.bool false), .val (.bool false), .val (.pointer (some ⟨wr.heap.size, 6, none⟩)), .val (.string vs), .val (.int .i64 ((vs.size : Int))), .val (.bool false), .val (.bool false), .idle, .idle, .idle, .val (.bool false), .val (.bool false), .val (.bool false), .val (.int .i64 (0)), .val (.bool false), .val (.bool false), .idle, .idle, .idle, .idle, .idle, .idle, .idle, .idle, .idle, .idle, .val (.bool false), .val (.bool false)] (by kernel_rfl) (by kernel_rfl) (by kernel_rfl) ?_
        intro X
        iterate 7
          refine plan_val (by kernel_rfl) (fun u hu => ?_) ?_
          · obtain ⟨hc, hf, hz⟩ := hu.of_drew.facts
            go_simp
          simp only [Act.put, List.setIfInBounds_toArray, List.set_cons_zero, List.set_cons_succ, Nat.reduceAdd]
        iterate 3
          refine plan_idle (by kernel_rfl) ?_
          simp only [Act.put, List.setIfInBounds_toArray, List.set_cons_zero, List.set_cons_succ, Nat.reduceAdd]
        iterate 8
          refine plan_val (by kernel_rfl) (fun u hu => ?_) ?_
          · obtain ⟨hc, hf, hz⟩ := hu.of_drew.facts
            go_simp
          simp only [Act.put, List.setIfInBounds_toArray, List.set_cons_zero, List.set_cons_succ, Nat.reduceAdd]
        iterate 3
          refine plan_idle (by kernel_rfl) ?_
          simp only [Act.put, List.setIfInBounds_toArray, List.set_cons_zero, List.set_cons_succ, Nat.reduceAdd]
        iterate 6
          refine plan_val (by kernel_rfl) (fun u hu => ?_) ?_
          · obtain ⟨hc, hf, hz⟩ := hu.of_drew.facts
            go_simp
          simp only [Act.put, List.setIfInBounds_toArray, List.set_cons_zero, List.set_cons_succ, Nat.reduceAdd]
        iterate 10
          refine plan_idle (by kernel_rfl) ?_
          simp only [Act.put, List.setIfInBounds_toArray, List.set_cons_zero, List.set_cons_succ, Nat.reduceAdd]
        iterate 2
          refine plan_val (by kernel_rfl) (fun u hu => ?_) ?_
          · obtain ⟨hc, hf, hz⟩ := hu.of_drew.facts
            go_simp
          simp only [Act.put, List.setIfInBounds_toArray, List.set_cons_zero, List.set_cons_succ, Nat.reduceAdd]
        refine plan_end ?_
        intro w' hB
        have hk := hB.calm.of_drew
        clear hB
        go_wp2_with fail
        all_goals exact ⟨⟨1, by omega, rfl, (hu.call hv).call hk, hN1⟩, by simp [intOf]; omega⟩
      obtain ⟨p', o', f', hd', hs', ws', vs', HE', d0, d1, d2, d3, d4, d5, d6⟩ := chg_get2 (hL.calm hu) (k := k - 1) (by omega)
      have hS := stepC_form HE.out HE0.out (by omega) HE'.out
      have hk2 : 1 ≤ k := by omega
      clear hk1
      have cM := fun u => ahead_any p' o' f' p o f u
      have z1 : IntKind.i64.wrap ((k : Int) - 1) = (k : Int) - 1 := IntWalk.i64_in _ (by omega)
      have z2 : ((k : Int) - 1).toNat = k - 1 := by omega
      have z3 : 0 ≤ (k : Int) - 1 := by omega
      have z4 : (k : Int) - 1 < l.length := by omega
      have z5 : 1 ≤ (k : Int) := by omega
      have z0 : 0 < k := hk2
      by_cases hF : kLt (p', o', f') (p, o, f)
      · rw [if_pos (show kLt (Chg.key ⟨p', o', f', hd', hs', ws', vs'⟩) (Chg.key ⟨p, o, f, true, false, ws, vs⟩) from hF)] at hS
        rw [show aheadB p' o' f' p o f = true from by unfold aheadB; rw [decide_eq_true_eq]; exact kcmp_kLt.2 hF] at cM
        have hN1 : NoErrC l (k + 1) := fun j hj => by
          rcases Nat.lt_or_ge j k with h | h
          · exact hN j h
          · rw [show j = k by omega]; exact hS
        clear hS hF HE0 HE HE' hL
        go_upto_region 12 with (go_at_call 35; refine (cK _).mono ?_; rintro e w1 ⟨rfl, hb1⟩; have hx := (hb1.block (k := wr.heap.size) (by simp)).trans (heap_new wr (.cells #[.int .i64 p, .int .i64 o, .int .i64 f, .bool true, .bool false, .string ws, .string vs] 33 (0, 0))); obtain ⟨x0, x1, x2, x3, x4, x5, x6, hxs⟩ := row7 hx; have hv := ((Calm.refl wr).alloc (.cells #[.int .i64 p, .int .i64 o, .int .i64 f, .bool true, .bool false, .string ws, .string vs] 33 (0, 0))).call hb1; have hb2 : b < w1.heap.size := Nat.lt_of_lt_of_le hb hv.size; have hvc := hv.facts.1; replace d0 := (hvc _ _ hb).trans d0; replace d1 := (hvc _ _ hb).trans d1; replace d2 := (hvc _ _ hb).trans d2; clear hvc hb1 hx c0 c1 c2 c3 c4 c5 c6 d3 d4 d5 d6)
        refine wp_region_plan [.val (.bool false), .val (.bool false), .val (.pointer (some ⟨wr.heap.size, 5, none⟩)), .val (.string ws), .val (.int .i64 ((ws.size : Int))), .val (.bool false), .val (.bool false), .idle, .idle, .idle, .val (.bool false), .val (.bool false), .val (.bool false), .val (.pointer (some ⟨wr.heap.size, 6, none⟩)), .val (.string vs), .val (.int .i64 ((vs.size : Int))), .val (.bool false), .val (.bool false), .idle, .idle, .idle, .val (.bool false), .val (.bool false), .val (.bool false), .val (.int .i64 ((k : Int))), .val (.bool true), .val (.bool true), .val (.slice (some ⟨b, q, none⟩) l.length c), .val (.int .i64 ((k : Int))), .val (.int .i64 ((k : Int) - 1)), .val (.pointer (some ⟨b, q + (k - 1) * 7, none⟩)), .val (.pointer (some ⟨b, q + (k - 1) * 7, none⟩)), .val (.agg #[.int .i64 p', .int .i64 o', .int .i64 f']), .val (.pointer (some ⟨wr.heap.size, 0, none⟩)), .val (.agg #[.int .i64 p, .int .i64 o, .int .i64 f]), .val (.bool true), .val (.bool false), .val (.bool false), .val (.bool false)] (by kernel_rfl) (by kernel_rfl) (by kernel_rfl) ?_
        intro X
        iterate 7
          refine plan_val (by kernel_rfl) (fun u hu => ?_) ?_
          · obtain ⟨hc, hf, hz⟩ := hu.of_drew.facts
            go_simp
            all_goals first
              | (go_at_call 36; exact cM _)
          simp only [Act.put, List.setIfInBounds_toArray, List.set_cons_zero, List.set_cons_succ, Nat.reduceAdd]
        iterate 3
          refine plan_idle (by kernel_rfl) ?_
          simp only [Act.put, List.setIfInBounds_toArray, List.set_cons_zero, List.set_cons_succ, Nat.reduceAdd]
        iterate 8
          refine plan_val (by kernel_rfl) (fun u hu => ?_) ?_
          · obtain ⟨hc, hf, hz⟩ := hu.of_drew.facts
            go_simp
            all_goals first
              | (go_at_call 36; exact cM _)
          simp only [Act.put, List.setIfInBounds_toArray, List.set_cons_zero, List.set_cons_succ, Nat.reduceAdd]
        iterate 3
          refine plan_idle (by kernel_rfl) ?_
          simp only [Act.put, List.setIfInBounds_toArray, List.set_cons_zero, List.set_cons_succ, Nat.reduceAdd]
        iterate 18
          refine plan_val (by kernel_rfl) (fun u hu => ?_) ?_
          · obtain ⟨hc, hf, hz⟩ := hu.of_drew.facts
            go_simp
            all_goals first
              | (go_at_call 36; exact cM _)
          simp only [Act.put, List.setIfInBounds_toArray, List.set_cons_zero, List.set_cons_succ, Nat.reduceAdd]
        refine plan_end ?_
        intro w' hB
        have hk := hB.calm.of_drew
        clear hB
        clear z0 z1 z2 z3 z4 z5
        go_wp2_with fail
        all_goals
          go_roundw
          case rel => exact ⟨k + 1, by omega, by go_num, (hu.call hv).call hk, hN1⟩
        case measure => simp [intOf]; omega
      · rw [if_neg (show ¬ kLt (Chg.key ⟨p', o', f', hd', hs', ws', vs'⟩) (Chg.key ⟨p, o, f, true, false, ws, vs⟩) from hF)] at hS
        rw [show aheadB p' o' f' p o f = false from by unfold aheadB; rw [decide_eq_false_iff_not]; exact fun h => hF (kcmp_kLt.1 h)] at cM
        have K : Hid (3 = chErr l) := hS.symm.trans (chErr_at hbig hN (by rw [hS]; decide) hlt)
        clear hS hF HE0 HE HE' hL
        go_upto_region 12 with (go_at_call 35; refine (cK _).mono ?_; rintro e w1 ⟨rfl, hb1⟩; have hx := (hb1.block (k := wr.heap.size) (by simp)).trans (heap_new wr (.cells #[.int .i64 p, .int .i64 o, .int .i64 f, .bool true, .bool false, .string ws, .string vs] 33 (0, 0))); obtain ⟨x0, x1, x2, x3, x4, x5, x6, hxs⟩ := row7 hx; have hv := ((Calm.refl wr).alloc (.cells #[.int .i64 p, .int .i64 o, .int .i64 f, .bool true, .bool false, .string ws, .string vs] 33 (0, 0))).call hb1; have hb2 : b < w1.heap.size := Nat.lt_of_lt_of_le hb hv.size; have hvc := hv.facts.1; replace d0 := (hvc _ _ hb).trans d0; replace d1 := (hvc _ _ hb).trans d1; replace d2 := (hvc _ _ hb).trans d2; clear hvc hb1 hx c0 c1 c2 c3 c4 c5 c6 d3 d4 d5 d6)
        refine wp_region_plan [.val (.bool false), .val (.bool false), .val (.pointer (some ⟨wr.heap.size, 5, none⟩)), .val (.string ws), .val (.int .i64 ((ws.size : Int))), .val (.bool false), .val (.bool false), .idle, .idle, .idle, .val (.bool false), .val (.bool false), .val (.bool false), .val (.pointer (some ⟨wr.heap.size, 6, none⟩)), .val (.string vs), .val (.int .i64 ((vs.size : Int))), .val (.bool false), .val (.bool false), .idle, .idle, .idle, .val (.bool false), .val (.bool false), .val (.bool false), .val (.int .i64 ((k : Int))), .val (.bool true), .val (.bool true), .val (.slice (some ⟨b, q, none⟩) l.length c), .val (.int .i64 ((k : Int))), .val (.int .i64 ((k : Int) - 1)), .val (.pointer (some ⟨b, q + (k - 1) * 7, none⟩)), .val (.pointer (some ⟨b, q + (k - 1) * 7, none⟩)), .val (.agg #[.int .i64 p', .int .i64 o', .int .i64 f']), .val (.pointer (some ⟨wr.heap.size, 0, none⟩)), .val (.agg #[.int .i64 p, .int .i64 o, .int .i64 f]), .val (.bool false), .val (.bool true), .val (.bool true), .val (.bool true)] (by kernel_rfl) (by kernel_rfl) (by kernel_rfl) ?_
        intro X
        iterate 7
          refine plan_val (by kernel_rfl) (fun u hu => ?_) ?_
          · obtain ⟨hc, hf, hz⟩ := hu.of_drew.facts
            go_simp
            all_goals first
              | (go_at_call 36; exact cM _)
          simp only [Act.put, List.setIfInBounds_toArray, List.set_cons_zero, List.set_cons_succ, Nat.reduceAdd]
        iterate 3
          refine plan_idle (by kernel_rfl) ?_
          simp only [Act.put, List.setIfInBounds_toArray, List.set_cons_zero, List.set_cons_succ, Nat.reduceAdd]
        iterate 8
          refine plan_val (by kernel_rfl) (fun u hu => ?_) ?_
          · obtain ⟨hc, hf, hz⟩ := hu.of_drew.facts
            go_simp
            all_goals first
              | (go_at_call 36; exact cM _)
          simp only [Act.put, List.setIfInBounds_toArray, List.set_cons_zero, List.set_cons_succ, Nat.reduceAdd]
        iterate 3
          refine plan_idle (by kernel_rfl) ?_
          simp only [Act.put, List.setIfInBounds_toArray, List.set_cons_zero, List.set_cons_succ, Nat.reduceAdd]
        iterate 18
          refine plan_val (by kernel_rfl) (fun u hu => ?_) ?_
          · obtain ⟨hc, hf, hz⟩ := hu.of_drew.facts
            go_simp
            all_goals first
              | (go_at_call 36; exact cM _)
          simp only [Act.put, List.setIfInBounds_toArray, List.set_cons_zero, List.set_cons_succ, Nat.reduceAdd]
        refine plan_end ?_
        intro w' hB
        have hk := hB.calm.of_drew
        clear hB
        clear z0 z1 z2 z3 z4 z5
        go_wp2_with fail
        all_goals
          go_ret
          exact ⟨ret_int K.out, (hu.call hv).call hk⟩
    · skip
      have e1 : (ws.toList == vs.toList) = false := str_ne fun h => hsame ⟨rfl, h⟩
      by_cases hw0 : 0 < ws.size
      · skip
        by_cases hv0 : 0 < vs.size
        · skip
          have HE0 : Hid (Chg.err ⟨p, o, f, true, true, ws, vs⟩ = 0) := show _ = _ from Chg.err_zero.2 ⟨hk0, hz1, hz2, .inl rfl, .inl rfl, fun e => hsame ⟨(St.ext_iff'.1 e).1, (St.ext_iff'.1 e).2⟩⟩
          clear KE
          by_cases hk1 : k = 0
          · subst hk1
            have hN1 : NoErrC l 1 := fun j hj => by
              have : j = 0 := by omega
              subst this
              exact stepC_first HE.out HE0.out
            simp only [Nat.zero_mul, Nat.add_zero] at c0 c1 c2 c3 c4 c5 c6
            go_upto_region 12 with (go_at_call 35; refine (cK _).mono ?_; rintro e w1 ⟨rfl, hb1⟩; have hx := (hb1.block (k := wr.heap.size) (by simp)).trans (heap_new wr (.cells #[.int .i64 p, .int .i64 o, .int .i64 f, .bool true, .bool true, .string ws, .string vs] 33 (0, 0))); obtain ⟨x0, x1, x2, x3, x4, x5, x6, hxs⟩ := row7 hx; have hv := ((Calm.refl wr).alloc (.cells #[.int .i64 p, .int .i64 o, .int .i64 f, .bool true, .bool true, .string ws, .string vs] 33 (0, 0))).call hb1; clear hb1 hx)
            refine wp_region_plan [.val (.bool false), .val (.bool false), .val (.pointer (some ⟨wr.heap.size, 5, none⟩)), .val (.string ws), .val (.int .i64 ((ws.size : Int))), .val (.bool true), .val (.bool true), .val (.pointer (some ⟨wr.heap.size, 3, none⟩)), .val (.bool true), .val (.bool false), .val (.bool false), .val (.bool false), .val (.bool false), .val (.pointer (some ⟨wr.heap.size, 6, none⟩)), .val (.string vs), .val (.int .i64 ((vs.size : Int))), .val (.bool true), .val (.bool true), .val (.pointer (some ⟨wr.heap.size, 4, none⟩)), .val (.bool true), .val (.bool false), .val (.bool false), .val (.bool false), .val (.bool false), .val (.int .i64 (0)), .val (.bool false), .val (.bool false), .idle, .idle, .idle, .idle, .idle, .idle, .idle, .idle, .idle, .idle, .val (.bool false), .val (.bool false)] (by kernel_rfl) (by kernel_rfl) (by kernel_rfl) ?_
            intro X
            iterate 27
              refine plan_val (by kernel_rfl) (fun u hu => ?_) ?_
              · obtain ⟨hc, hf, hz⟩ := hu.of_drew.facts
                go_simp
              simp only [Act.put, List.setIfInBounds_toArray, List.set_cons_zero, List.set_cons_succ, Nat.reduceAdd]
            iterate 10
              refine plan_idle (by kernel_rfl) ?_
              simp only [Act.put, List.setIfInBounds_toArray, List.set_cons_zero, List.set_cons_succ, Nat.reduceAdd]
            iterate 2
              refine plan_val (by kernel_rfl) (fun u hu => ?_) ?_
              · obtain ⟨hc, hf, hz⟩ := hu.of_drew.facts
                go_simp
              simp only [Act.put, List.setIfInBounds_toArray, List.set_cons_zero, List.set_cons_succ, Nat.reduceAdd]
            refine plan_end ?_
            intro w' hB
            have hk := hB.calm.of_drew
            clear hB
            go_wp2_with fail
            all_goals exact ⟨⟨1, by omega, rfl, (hu.call hv).call hk, hN1⟩, by simp [intOf]; omega⟩
          obtain ⟨p', o', f', hd', hs', ws', vs', HE', d0, d1, d2, d3, d4, d5, d6⟩ := chg_get2 (hL.calm hu) (k := k - 1) (by omega)
          have hS := stepC_form HE.out HE0.out (by omega) HE'.out
          have hk2 : 1 ≤ k := by omega
          clear hk1
          have cM := fun u => ahead_any p' o' f' p o f u
          have z1 : IntKind.i64.wrap ((k : Int) - 1) = (k : Int) - 1 := IntWalk.i64_in _ (by omega)
          have z2 : ((k : Int) - 1).toNat = k - 1 := by omega
          have z3 : 0 ≤ (k : Int) - 1 := by omega
          have z4 : (k : Int) - 1 < l.length := by omega
          have z5 : 1 ≤ (k : Int) := by omega
          have z0 : 0 < k := hk2
          by_cases hF : kLt (p', o', f') (p, o, f)
          · rw [if_pos (show kLt (Chg.key ⟨p', o', f', hd', hs', ws', vs'⟩) (Chg.key ⟨p, o, f, true, true, ws, vs⟩) from hF)] at hS
            rw [show aheadB p' o' f' p o f = true from by unfold aheadB; rw [decide_eq_true_eq]; exact kcmp_kLt.2 hF] at cM
            have hN1 : NoErrC l (k + 1) := fun j hj => by
              rcases Nat.lt_or_ge j k with h | h
              · exact hN j h
              · rw [show j = k by omega]; exact hS
            clear hS hF HE0 HE HE' hL
            go_upto_region 12 with (go_at_call 35; refine (cK _).mono ?_; rintro e w1 ⟨rfl, hb1⟩; have hx := (hb1.block (k := wr.heap.size) (by simp)).trans (heap_new wr (.cells #[.int .i64 p, .int .i64 o, .int .i64 f, .bool true, .bool true, .string ws, .string vs] 33 (0, 0))); obtain ⟨x0, x1, x2, x3, x4, x5, x6, hxs⟩ := row7 hx; have hv := ((Calm.refl wr).alloc (.cells #[.int .i64 p, .int .i64 o, .int .i64 f, .bool true, .bool true, .string ws, .string vs] 33 (0, 0))).call hb1; have hb2 : b < w1.heap.size := Nat.lt_of_lt_of_le hb hv.size; have hvc := hv.facts.1; replace d0 := (hvc _ _ hb).trans d0; replace d1 := (hvc _ _ hb).trans d1; replace d2 := (hvc _ _ hb).trans d2; clear hvc hb1 hx c0 c1 c2 c3 c4 c5 c6 d3 d4 d5 d6)
            refine wp_region_plan [.val (.bool false), .val (.bool false), .val (.pointer (some ⟨wr.heap.size, 5, none⟩)), .val (.string ws), .val (.int .i64 ((ws.size : Int))), .val (.bool true), .val (.bool true), .val (.pointer (some ⟨wr.heap.size, 3, none⟩)), .val (.bool true), .val (.bool false), .val (.bool false), .val (.bool false), .val (.bool false), .val (.pointer (some ⟨wr.heap.size, 6, none⟩)), .val (.string vs), .val (.int .i64 ((vs.size : Int))), .val (.bool true), .val (.bool true), .val (.pointer (some ⟨wr.heap.size, 4, none⟩)), .val (.bool true), .val (.bool false), .val (.bool false), .val (.bool false), .val (.bool false), .val (.int .i64 ((k : Int))), .val (.bool true), .val (.bool true), .val (.slice (some ⟨b, q, none⟩) l.length c), .val (.int .i64 ((k : Int))), .val (.int .i64 ((k : Int) - 1)), .val (.pointer (some ⟨b, q + (k - 1) * 7, none⟩)), .val (.pointer (some ⟨b, q + (k - 1) * 7, none⟩)), .val (.agg #[.int .i64 p', .int .i64 o', .int .i64 f']), .val (.pointer (some ⟨wr.heap.size, 0, none⟩)), .val (.agg #[.int .i64 p, .int .i64 o, .int .i64 f]), .val (.bool true), .val (.bool false), .val (.bool false), .val (.bool false)] (by kernel_rfl) (by kernel_rfl) (by kernel_rfl) ?_
            intro X
            iterate 39
              refine plan_val (by kernel_rfl) (fun u hu => ?_) ?_
              · obtain ⟨hc, hf, hz⟩ := hu.of_drew.facts
                go_simp
                all_goals first
                  | (go_at_call 36; exact cM _)
              simp only [Act.put, List.setIfInBounds_toArray, List.set_cons_zero, List.set_cons_succ, Nat.reduceAdd]
            refine plan_end ?_
            intro w' hB
            have hk := hB.calm.of_drew
            clear hB
            clear z0 z1 z2 z3 z4 z5
            go_wp2_with fail
            all_goals
              go_roundw
              case rel => exact ⟨k + 1, by omega, by go_num, (hu.call hv).call hk, hN1⟩
            case measure => simp [intOf]; omega
          · rw [if_neg (show ¬ kLt (Chg.key ⟨p', o', f', hd', hs', ws', vs'⟩) (Chg.key ⟨p, o, f, true, true, ws, vs⟩) from hF)] at hS
            rw [show aheadB p' o' f' p o f = false from by unfold aheadB; rw [decide_eq_false_iff_not]; exact fun h => hF (kcmp_kLt.1 h)] at cM
            have K : Hid (3 = chErr l) := hS.symm.trans (chErr_at hbig hN (by rw [hS]; decide) hlt)
            clear hS hF HE0 HE HE' hL
            go_upto_region 12 with (go_at_call 35; refine (cK _).mono ?_; rintro e w1 ⟨rfl, hb1⟩; have hx := (hb1.block (k := wr.heap.size) (by simp)).trans (heap_new wr (.cells #[.int .i64 p, .int .i64 o, .int .i64 f, .bool true, .bool true, .string ws, .string vs] 33 (0, 0))); obtain ⟨x0, x1, x2, x3, x4, x5, x6, hxs⟩ := row7 hx; have hv := ((Calm.refl wr).alloc (.cells #[.int .i64 p, .int .i64 o, .int .i64 f, .bool true, .bool true, .string ws, .string vs] 33 (0, 0))).call hb1; have hb2 : b < w1.heap.size := Nat.lt_of_lt_of_le hb hv.size; have hvc := hv.facts.1; replace d0 := (hvc _ _ hb).trans d0; replace d1 := (hvc _ _ hb).trans d1; replace d2 := (hvc _ _ hb).trans d2; clear hvc hb1 hx c0 c1 c2 c3 c4 c5 c6 d3 d4 d5 d6)
            refine wp_region_plan [.val (.bool false), .val (.bool false), .val (.pointer (some ⟨wr.heap.size, 5, none⟩)), .val (.string ws), .val (.int .i64 ((ws.size : Int))), .val (.bool true), .val (.bool true), .val (.pointer (some ⟨wr.heap.size, 3, none⟩)), .val (.bool true), .val (.bool false), .val (.bool false), .val (.bool false), .val (.bool false), .val (.pointer (some ⟨wr.heap.size, 6, none⟩)), .val (.string vs), .val (.int .i64 ((vs.size : Int))), .val (.bool true), .val (.bool true), .val (.pointer (some ⟨wr.heap.size, 4, none⟩)), .val (.bool true), .val (.bool false), .val (.bool false), .val (.bool false), .val (.bool false), .val (.int .i64 ((k : Int))), .val (.bool true), .val (.bool true), .val (.slice (some ⟨b, q, none⟩) l.length c), .val (.int .i64 ((k : Int))), .val (.int .i64 ((k : Int) - 1)), .val (.pointer (some ⟨b, q + (k - 1) * 7, none⟩)), .val (.pointer (some ⟨b, q + (k - 1) * 7, none⟩)), .val (.agg #[.int .i64 p', .int .i64 o', .int .i64 f']), .val (.pointer (some ⟨wr.heap.size, 0, none⟩)), .val (.agg #[.int .i64 p, .int .i64 o, .int .i64 f]), .val (.bool false), .val (.bool true), .val (.bool true), .val (.bool true)] (by kernel_rfl) (by kernel_rfl) (by kernel_rfl) ?_
            intro X
            iterate 39
              refine plan_val (by kernel_rfl) (fun u hu => ?_) ?_
              · obtain ⟨hc, hf, hz⟩ := hu.of_drew.facts
                go_simp
                all_goals first
                  | (go_at_call 36; exact cM _)
              simp only [Act.put, List.setIfInBounds_toArray, List.set_cons_zero, List.set_cons_succ, Nat.reduceAdd]
            refine plan_end ?_
            intro w' hB
            have hk := hB.calm.of_drew
            clear hB
            clear z0 z1 z2 z3 z4 z5
            go_wp2_with fail
            all_goals
              go_ret
              exact ⟨ret_int K.out, (hu.call hv).call hk⟩
        have hv1 : vs.size = 0 := by omega
        have HE0 : Hid (Chg.err ⟨p, o, f, true, true, ws, vs⟩ = 0) := show _ = _ from Chg.err_zero.2 ⟨hk0, hz1, hz2, .inl rfl, .inl rfl, fun e => hsame ⟨(St.ext_iff'.1 e).1, (St.ext_iff'.1 e).2⟩⟩
        clear KE
        by_cases hk1 : k = 0
        · subst hk1
          have hN1 : NoErrC l 1 := fun j hj => by
            have : j = 0 := by omega
            subst this
            exact stepC_first HE.out HE0.out
          simp only [Nat.zero_mul, Nat.add_zero] at c0 c1 c2 c3 c4 c5 c6
          go_upto_region 12 with (go_at_call 35; refine (cK _).mono ?_; rintro e w1 ⟨rfl, hb1⟩; have hx := (hb1.block (k := wr.heap.size) (by simp)).trans (heap_new wr (.cells #[.int .i64 p, .int .i64 o, .int .i64 f, .bool true, .bool true, .string ws, .string vs] 33 (0, 0))); obtain ⟨x0, x1, x2, x3, x4, x5, x6, hxs⟩ := row7 hx; have hv := ((Calm.refl wr).alloc (.cells #[.int .i64 p, .int .i64 o, .int .i64 f, .bool true, .bool true, .string ws, .string vs] 33 (0, 0))).call hb1; clear hb1 hx)
          refine wp_region_plan [.val (.bool false), .val (.bool false), .val (.pointer (some ⟨wr.heap.size, 5, none⟩)), .val (.string ws), .val (.int .i64 ((ws.size : Int))), .val (.bool true), .val (.bool true), .val (.pointer (some ⟨wr.heap.size, 3, none⟩)), .val (.bool true), .val (.bool false), .val (.bool false), .val (.bool false), .val (.bool false), .val (.pointer (some ⟨wr.heap.size, 6, none⟩)), .val (.string vs), .val (.int .i64 ((vs.size : Int))), .val (.bool false), .val (.bool false), .idle, .idle, .idle, .val (.bool false), .val (.bool false), .val (.bool false), .val (.int .i64 (0)), .val (.bool false), .val (.bool false), .idle, .idle, .idle, .idle, .idle, .idle, .idle, .idle, .idle, .idle, .val (.bool false), .val (.bool false)] (by kernel_rfl) (by kernel_rfl) (by kernel_rfl) ?_
          intro X
          iterate 18
            refine plan_val (by kernel_rfl) (fun u hu => ?_) ?_
            · obtain ⟨hc, hf, hz⟩ := hu.of_drew.facts
              go_simp
            simp only [Act.put, List.setIfInBounds_toArray, List.set_cons_zero, List.set_cons_succ, Nat.reduceAdd]
          iterate 3
            refine plan_idle (by kernel_rfl) ?_
            simp only [Act.put, List.setIfInBounds_toArray, List.set_cons_zero, List.set_cons_succ, Nat.reduceAdd]
          iterate 6
            refine plan_val (by kernel_rfl) (fun u hu => ?_) ?_
            · obtain ⟨hc, hf, hz⟩ := hu.of_drew.facts
              go_simp
            simp only [Act.put, List.setIfInBounds_toArray, List.set_cons_zero, List.set_cons_succ, Nat.reduceAdd]
          iterate 10
            refine plan_idle (by kernel_rfl) ?_
            simp only [Act.put, List.setIfInBounds_toArray, List.set_cons_zero, List.set_cons_succ, Nat.reduceAdd]
          iterate 2
            refine plan_val (by kernel_rfl) (fun u hu => ?_) ?_
            · obtain ⟨hc, hf, hz⟩ := hu.of_drew.facts
              go_simp
            simp only [Act.put, List.setIfInBounds_toArray, List.set_cons_zero, List.set_cons_succ, Nat.reduceAdd]
          refine plan_end ?_
          intro w' hB
          have hk := hB.calm.of_drew
          clear hB
          go_wp2_with fail
          all_goals exact ⟨⟨1, by omega, rfl, (hu.call hv).call hk, hN1⟩, by simp [intOf]; omega⟩
        obtain ⟨p', o', f', hd', hs', ws', vs', HE', d0, d1, d2, d3, d4, d5, d6⟩ := chg_get2 (hL.calm hu) (k := k - 1) (by omega)
        have hS := stepC_form HE.out HE0.out (by omega) HE'.out
        have hk2 : 1 ≤ k := by omega
        clear hk1
        have cM := fun u => ahead_any p' o' f' p o f u
        have z1 : IntKind.i64.wrap ((k : Int) - 1) = (k : Int) - 1 := IntWalk.i64_in _ (by omega)
        have z2 : ((k : Int) - 1).toNat = k - 1 := by omega
        have z3 : 0 ≤ (k : Int) - 1 := by omega
        have z4 : (k : Int) - 1 < l.length := by omega
        have z5 : 1 ≤ (k : Int) := by omega
        have z0 : 0 < k := hk2
        by_cases hF : kLt (p', o', f') (p, o, f)
        · rw [if_pos (show kLt (Chg.key ⟨p', o', f', hd', hs', ws', vs'⟩) (Chg.key ⟨p, o, f, true, true, ws, vs⟩) from hF)] at hS
          rw [show aheadB p' o' f' p o f = true from by unfold aheadB; rw [decide_eq_true_eq]; exact kcmp_kLt.2 hF] at cM
          have hN1 : NoErrC l (k + 1) := fun j hj => by
            rcases Nat.lt_or_ge j k with h | h
            · exact hN j h
            · rw [show j = k by omega]; exact hS
          clear hS hF HE0 HE HE' hL
          go_upto_region 12 with (go_at_call 35; refine (cK _).mono ?_; rintro e w1 ⟨rfl, hb1⟩; have hx := (hb1.block (k := wr.heap.size) (by simp)).trans (heap_new wr (.cells #[.int .i64 p, .int .i64 o, .int .i64 f, .bool true, .bool true, .string ws, .string vs] 33 (0, 0))); obtain ⟨x0, x1, x2, x3, x4, x5, x6, hxs⟩ := row7 hx; have hv := ((Calm.refl wr).alloc (.cells #[.int .i64 p, .int .i64 o, .int .i64 f, .bool true, .bool true, .string ws, .string vs] 33 (0, 0))).call hb1; have hb2 : b < w1.heap.size := Nat.lt_of_lt_of_le hb hv.size; have hvc := hv.facts.1; replace d0 := (hvc _ _ hb).trans d0; replace d1 := (hvc _ _ hb).trans d1; replace d2 := (hvc _ _ hb).trans d2; clear hvc hb1 hx c0 c1 c2 c3 c4 c5 c6 d3 d4 d5 d6)
          refine wp_region_plan [.val (.bool false), .val (.bool false), .val (.pointer (some ⟨wr.heap.size, 5, none⟩)), .val (.string ws), .val (.int .i64 ((ws.size : Int))), .val (.bool true), .val (.bool true), .val (.pointer (some ⟨wr.heap.size, 3, none⟩)), .val (.bool true), .val (.bool false), .val (.bool false), .val (.bool false), .val (.bool false), .val (.pointer (some ⟨wr.heap.size, 6, none⟩)), .val (.string vs), .val (.int .i64 ((vs.size : Int))), .val (.bool false), .val (.bool false), .idle, .idle, .idle, .val (.bool false), .val (.bool false), .val (.bool false), .val (.int .i64 ((k : Int))), .val (.bool true), .val (.bool true), .val (.slice (some ⟨b, q, none⟩) l.length c), .val (.int .i64 ((k : Int))), .val (.int .i64 ((k : Int) - 1)), .val (.pointer (some ⟨b, q + (k - 1) * 7, none⟩)), .val (.pointer (some ⟨b, q + (k - 1) * 7, none⟩)), .val (.agg #[.int .i64 p', .int .i64 o', .int .i64 f']), .val (.pointer (some ⟨wr.heap.size, 0, none⟩)), .val (.agg #[.int .i64 p, .int .i64 o, .int .i64 f]), .val (.bool true), .val (.bool false), .val (.bool false), .val (.bool false)] (by kernel_rfl) (by kernel_rfl) (by kernel_rfl) ?_
          intro X
          iterate 18
            refine plan_val (by kernel_rfl) (fun u hu => ?_) ?_
            · obtain ⟨hc, hf, hz⟩ := hu.of_drew.facts
              go_simp
              all_goals first
                | (go_at_call 36; exact cM _)
            simp only [Act.put, List.setIfInBounds_toArray, List.set_cons_zero, List.set_cons_succ, Nat.reduceAdd]
          iterate 3
            refine plan_idle (by kernel_rfl) ?_
            simp only [Act.put, List.setIfInBounds_toArray, List.set_cons_zero, List.set_cons_succ, Nat.reduceAdd]
          iterate 18
            refine plan_val (by kernel_rfl) (fun u hu => ?_) ?_
            · obtain ⟨hc, hf, hz⟩ := hu.of_drew.facts
              go_simp
              all_goals first
                | (go_at_call 36; exact cM _)
            simp only [Act.put, List.setIfInBounds_toArray, List.set_cons_zero, List.set_cons_succ, Nat.reduceAdd]
          refine plan_end ?_
          intro w' hB
          have hk := hB.calm.of_drew
          clear hB
          clear z0 z1 z2 z3 z4 z5
          go_wp2_with fail
          all_goals
            go_roundw
            case rel => exact ⟨k + 1, by omega, by go_num, (hu.call hv).call hk, hN1⟩
          case measure => simp [intOf]; omega
        · rw [if_neg (show ¬ kLt (Chg.key ⟨p', o', f', hd', hs', ws', vs'⟩) (Chg.key ⟨p, o, f, true, true, ws, vs⟩) from hF)] at hS
          rw [show aheadB p' o' f' p o f = false from by unfold aheadB; rw [decide_eq_false_iff_not]; exact fun h => hF (kcmp_kLt.1 h)] at cM
          have K : Hid (3 = chErr l) := hS.symm.trans (chErr_at hbig hN (by rw [hS]; decide) hlt)
          clear hS hF HE0 HE HE' hL
          go_upto_region 12 with (go_at_call 35; refine (cK _).mono ?_; rintro e w1 ⟨rfl, hb1⟩; have hx := (hb1.block (k := wr.heap.size) (by simp)).trans (heap_new wr (.cells #[.int .i64 p, .int .i64 o, .int .i64 f, .bool true, .bool true, .string ws, .string vs] 33 (0, 0))); obtain ⟨x0, x1, x2, x3, x4, x5, x6, hxs⟩ := row7 hx; have hv := ((Calm.refl wr).alloc (.cells #[.int .i64 p, .int .i64 o, .int .i64 f, .bool true, .bool true, .string ws, .string vs] 33 (0, 0))).call hb1; have hb2 : b < w1.heap.size := Nat.lt_of_lt_of_le hb hv.size; have hvc := hv.facts.1; replace d0 := (hvc _ _ hb).trans d0; replace d1 := (hvc _ _ hb).trans d1; replace d2 := (hvc _ _ hb).trans d2; clear hvc hb1 hx c0 c1 c2 c3 c4 c5 c6 d3 d4 d5 d6)
          refine wp_region_plan [.val (.bool false), .val (.bool false), .val (.pointer (some ⟨wr.heap.size, 5, none⟩)), .val (.string ws), .val (.int .i64 ((ws.size : Int))), .val (.bool true), .val (.bool true), .val (.pointer (some ⟨wr.heap.size, 3, none⟩)), .val (.bool true), .val (.bool false), .val (.bool false), .val (.bool false), .val (.bool false), .val (.pointer (some ⟨wr.heap.size, 6, none⟩)), .val (.string vs), .val (.int .i64 ((vs.size : Int))), .val (.bool false), .val (.bool false), .idle, .idle, .idle, .val (.bool false), .val (.bool false), .val (.bool false), .val (.int .i64 ((k : Int))), .val (.bool true), .val (.bool true), .val (.slice (some ⟨b, q, none⟩) l.length c), .val (.int .i64 ((k : Int))), .val (.int .i64 ((k : Int) - 1)), .val (.pointer (some ⟨b, q + (k - 1) * 7, none⟩)), .val (.pointer (some ⟨b, q + (k - 1) * 7, none⟩)), .val (.agg #[.int .i64 p', .int .i64 o', .int .i64 f']), .val (.pointer (some ⟨wr.heap.size, 0, none⟩)), .val (.agg #[.int .i64 p, .int .i64 o, .int .i64 f]), .val (.bool false), .val (.bool true), .val (.bool true), .val (.bool true)] (by kernel_rfl) (by kernel_rfl) (by kernel_rfl) ?_
          intro X
          iterate 18
            refine plan_val (by kernel_rfl) (fun u hu => ?_) ?_
            · obtain ⟨hc, hf, hz⟩ := hu.of_drew.facts
              go_simp
              all_goals first
                | (go_at_call 36; exact cM _)
            simp only [Act.put, List.setIfInBounds_toArray, List.set_cons_zero, List.set_cons_succ, Nat.reduceAdd]
          iterate 3
            refine plan_idle (by kernel_rfl) ?_
            simp only [Act.put, List.setIfInBounds_toArray, List.set_cons_zero, List.set_cons_succ, Nat.reduceAdd]
          iterate 18
            refine plan_val (by kernel_rfl) (fun u hu => ?_) ?_
            · obtain ⟨hc, hf, hz⟩ := hu.of_drew.facts
              go_simp
              all_goals first
                | (go_at_call 36; exact cM _)
            simp only [Act.put, List.setIfInBounds_toArray, List.set_cons_zero, List.set_cons_succ, Nat.reduceAdd]
          refine plan_end ?_
          intro w' hB
          have hk := hB.calm.of_drew
          clear hB
          clear z0 z1 z2 z3 z4 z5
          go_wp2_with fail
          all_goals
            go_ret
            exact ⟨ret_int K.out, (hu.call hv).call hk⟩
      have hw1 : ws.size = 0 := by omega
      by_cases hv0 : 0 < vs.size
      · skip
        have HE0 : Hid (Chg.err ⟨p, o, f, true, true, ws, vs⟩ = 0) := show _ = _ from Chg.err_zero.2 ⟨hk0, hz1, hz2, .inl rfl, .inl rfl, fun e => hsame ⟨(St.ext_iff'.1 e).1, (St.ext_iff'.1 e).2⟩⟩
        clear KE
        by_cases hk1 : k = 0
        · subst hk1
          have hN1 : NoErrC l 1 := fun j hj => by
            have : j = 0 := by omega
            subst this
            exact stepC_first HE.out HE0.out
          simp only [Nat.zero_mul, Nat.add_zero] at c0 c1 c2 c3 c4 c5 c6
          go_upto_region 12 with (go_at_call 35; refine (cK _).mono ?_; rintro e w1 ⟨rfl, hb1⟩; have hx := (hb1.block (k := wr.heap.size) (by simp)).trans (heap_new wr (.cells #[.int .i64 p, .int .i64 o, .int .i64 f, .bool true, .bool true, .string ws, .string vs] 33 (0, 0))); obtain ⟨x0, x1, x2, x3, x4, x5, x6, hxs⟩ := row7 hx; have hv := ((Calm.refl wr).alloc (.cells #[.int .i64 p, .int .i64 o, .int .i64 f, .bool true, .bool true, .string ws, .string vs] 33 (0, 0))).call hb1; clear hb1 hx)
          refine wp_region_plan [.val (.bool false), .val (.bool false), .val (.pointer (some ⟨wr.heap.size, 5, none⟩)), .val (.string ws), .val (.int .i64 ((ws.size : Int))), .val (.bool false), .val (.bool false), .idle, .idle, .idle, .val (.bool false), .val (.bool false), .val (.bool false), .val (.pointer (some ⟨wr.heap.size, 6, none⟩)), .val (.string vs), .val (.int .i64 ((vs.size : Int))), .val (.bool true), .val (.bool true), .val (.pointer (some ⟨wr.heap.size, 4, none⟩)), .val (.bool true), .val (.bool false), .val (.bool false), .val (.bool false), .val (.bool false), .val (.int .i64 (0)), .val (.bool false), .val (.bool false), .idle, .idle, .idle, .idle, .idle, .idle, .idle, .idle, .idle, .idle, .val (.bool false), .val (.bool false)] (by kernel_rfl) (by kernel_rfl) (by kernel_rfl) ?_
          intro X
          iterate 7
            refine plan_val (by kernel_rfl) (fun u hu => ?_) ?_
            · obtain ⟨hc, hf, hz⟩ := hu.of_drew.facts
              go_simp
            simp only [Act.put, List.setIfInBounds_toArray, List.set_cons_zero, List.set_cons_succ, Nat.reduceAdd]
          iterate 3
            refine plan_idle (by kernel_rfl) ?_
            simp only [Act.put, List.setIfInBounds_toArray, List.set_cons_zero, List.set_cons_succ, Nat.reduceAdd]
          iterate 17
            refine plan_val (by kernel_rfl) (fun u hu => ?_) ?_
            · obtain ⟨hc, hf, hz⟩ := hu.of_drew.facts
              go_simp
            simp only [Act.put, List.setIfInBounds_toArray, List.set_cons_zero, List.set_cons_succ, Nat.reduceAdd]
          iterate 10
            refine plan_idle (by kernel_rfl) ?_
            simp only [Act.put, List.setIfInBounds_toArray, List.set_cons_zero, List.set_cons_succ, Nat.reduceAdd]
          iterate 2
            refine plan_val (by kernel_rfl) (fun u hu => ?_) ?_
            · obtain ⟨hc, hf, hz⟩ := hu.of_drew.facts
              go_simp
            simp only [Act.put, List.setIfInBounds_toArray, List.set_cons_zero, List.set_cons_succ, Nat.reduceAdd]
          refine plan_end ?_
          intro w' hB
          have hk := hB.calm.of_drew
          clear hB
          go_wp2_with fail
          all_goals exact ⟨⟨1, by omega, rfl, (hu.call hv).call hk, hN1⟩, by simp [intOf]; omega⟩
        obtain ⟨p', o', f', hd', hs', ws', vs', HE', d0, d1, d2, d3, d4, d5, d6⟩ := chg_get2 (hL.calm hu) (k := k - 1) (by omega)
        have hS := stepC_form HE.out HE0.out (by omega) HE'.out
        have hk2 : 1 ≤ k := by omega
        clear hk1
        have cM := fun u => ahead_any p' o' f' p o f u
        have z1 : IntKind.i64.wrap ((k : Int) - 1) = (k : Int) - 1 := IntWalk.i64_in _ (by omega)
        have z2 : ((k : Int) - 1).toNat = k - 1 := by omega
        have z3 : 0 ≤ (k : Int) - 1 := by omega
        have z4 : (k : Int) - 1 < l.length := by omega
        have z5 : 1 ≤ (k : Int) := by omega
        have z0 : 0 < k := hk2
        by_cases hF : kLt (p', o', f') (p, o, f)
        · rw [if_pos (show kLt (Chg.key ⟨p', o', f', hd', hs', ws', vs'⟩) (Chg.key ⟨p, o, f, true, true, ws, vs⟩) from hF)] at hS
          rw [show aheadB p' o' f' p o f = true from by unfold aheadB; rw [decide_eq_true_eq]; exact kcmp_kLt.2 hF] at cM
          have hN1 : NoErrC l (k + 1) := fun j hj => by
            rcases Nat.lt_or_ge j k with h | h
            · exact hN j h
            · rw [show j = k by omega]; exact hS
          clear hS hF HE0 HE HE' hL
          go_upto_region 12 with (go_at_call 35; refine (cK _).mono ?_; rintro e w1 ⟨rfl, hb1⟩; have hx := (hb1.block (k := wr.heap.size) (by simp)).trans (heap_new wr (.cells #[.int .i64 p, .int .i64 o, .int .i64 f, .bool true, .bool true, .string ws, .string vs] 33 (0, 0))); obtain ⟨x0, x1, x2, x3, x4, x5, x6, hxs⟩ := row7 hx; have hv := ((Calm.refl wr).alloc (.cells #[.int .i64 p, .int .i64 o, .int .i64 f, .bool true, .bool true, .string ws, .string vs] 33 (0, 0))).call hb1; have hb2 : b < w1.heap.size := Nat.lt_of_lt_of_le hb hv.size; have hvc := hv.facts.1; replace d0 := (hvc _ _ hb).trans d0; replace d1 := (hvc _ _ hb).trans d1; replace d2 := (hvc _ _ hb).trans d2; clear hvc hb1 hx c0 c1 c2 c3 c4 c5 c6 d3 d4 d5 d6)
          refine wp_region_plan [.val (.bool false), .val (.bool false), .val (.pointer (some ⟨wr.heap.size, 5, none⟩)), .val (.string ws), .val (.int .i64 ((ws.size : Int))), .val (.bool false), .val (.bool false), .idle, .idle, .idle, .val (.bool false), .val (.bool false), .val (.bool false), .val (.pointer (some ⟨wr.heap.size, 6, none⟩)), .val (.string vs), .val (.int .i64 ((vs.size : Int))), .val (.bool true), .val (.bool true), .val (.pointer (some ⟨wr.heap.size, 4, none⟩)), .val (.bool true), .val (.bool false), .val (.bool false), .val (.bool false), .val (.bool false), .val (.int .i64 ((k : Int))), .val (.bool true), .val (.bool true), .val (.slice (some ⟨b, q, none⟩) l.length c), .val (.int .i64 ((k : Int))), .val (.int .i64 ((k : Int) - 1)), .val (.pointer (some ⟨b, q + (k - 1) * 7, none⟩)), .val (.pointer (some ⟨b, q + (k - 1) * 7, none⟩)), .val (.agg #[.int .i64 p', .int .i64 o', .int .i64 f']), .val (.pointer (some ⟨wr.heap.size, 0, none⟩)), .val (.agg #[.int .i64 p, .int .i64 o, .int .i64 f]), .val (.bool true), .val (.bool false), .val (.bool false), .val (.bool false)] (by kernel_rfl) (by kernel_rfl) (by kernel_rfl) ?_
          intro X
          iterate 7
            refine plan_val (by kernel_rfl) (fun u hu => ?_) ?_
            · obtain ⟨hc, hf, hz⟩ := hu.of_drew.facts
              go_simp
              all_goals first
                | (go_at_call 36; exact cM _)
            simp only [Act.put, List.setIfInBounds_toArray, List.set_cons_zero, List.set_cons_succ, Nat.reduceAdd]
          iterate 3
            refine plan_idle (by kernel_rfl) ?_
            simp only [Act.put, List.setIfInBounds_toArray, List.set_cons_zero, List.set_cons_succ, Nat.reduceAdd]
          iterate 29
            refine plan_val (by kernel_rfl) (fun u hu => ?_) ?_
            · obtain ⟨hc, hf, hz⟩ := hu.of_drew.facts
              go_simp
              all_goals first
                | (go_at_call 36; exact cM _)
            simp only [Act.put, List.setIfInBounds_toArray, List.set_cons_zero, List.set_cons_succ, Nat.reduceAdd]
          refine plan_end ?_
          intro w' hB
          have hk := hB.calm.of_drew
          clear hB
          clear z0 z1 z2 z3 z4 z5
          go_wp2_with fail
          all_goals
            go_roundw
            case rel => exact ⟨k + 1, by omega, by go_num, (hu.call hv).call hk, hN1⟩
          case measure => simp [intOf]; omega
        · rw [if_neg (show ¬ kLt (Chg.key ⟨p', o', f', hd', hs', ws', vs'⟩) (Chg.key ⟨p, o, f, true, true, ws, vs⟩) from hF)] at hS
          rw [show aheadB p' o' f' p o f = false from by unfold aheadB; rw [decide_eq_false_iff_not]; exact fun h => hF (kcmp_kLt.1 h)] at cM
          have K : Hid (3 = chErr l) := hS.symm.trans (chErr_at hbig hN (by rw [hS]; decide) hlt)
          clear hS hF HE0 HE HE' hL
          go_upto_region 12 with (go_at_call 35; refine (cK _).mono ?_; rintro e w1 ⟨rfl, hb1⟩; have hx := (hb1.block (k := wr.heap.size) (by simp)).trans (heap_new wr (.cells #[.int .i64 p, .int .i64 o, .int .i64 f, .bool true, .bool true, .string ws, .string vs] 33 (0, 0))); obtain ⟨x0, x1, x2, x3, x4, x5, x6, hxs⟩ := row7 hx; have hv := ((Calm.refl wr).alloc (.cells #[.int .i64 p, .int .i64 o, .int .i64 f, .bool true, .bool true, .string ws, .string vs] 33 (0, 0))).call hb1; have hb2 : b < w1.heap.size := Nat.lt_of_lt_of_le hb hv.size; have hvc := hv.facts.1; replace d0 := (hvc _ _ hb).trans d0; replace d1 := (hvc _ _ hb).trans d1; replace d2 := (hvc _ _ hb).trans d2; clear hvc hb1 hx c0 c1 c2 c3 c4 c5 c6 d3 d4 d5 d6)
          refine wp_region_plan [.val (.bool false), .val (.bool false), .val (.pointer (some ⟨wr.heap.size, 5, none⟩)), .val (.string ws), .val (.int .i64 ((ws.size : Int))), .val (.bool false), .val (.bool false), .idle, .idle, .idle, .val (.bool false), .val (.bool false), .val (.bool false), .val (.pointer (some ⟨wr.heap.size, 6, none⟩)), .val (.string vs), .val (.int .i64 ((vs.size : Int))), .val (.bool true), .val (.bool true), .val (.pointer (some ⟨wr.heap.size, 4, none⟩)), .val (.bool true), .val (.bool false), .val (.bool false), .val (.bool false), .val (.bool false), .val (.int .i64 ((k : Int))), .val (.bool true), .val (.bool true), .val (.slice (some ⟨b, q, none⟩) l.length c), .val (.int .i64 ((k : Int))), .val (.int .i64 ((k : Int) - 1)), .val (.pointer (some ⟨b, q + (k - 1) * 7, none⟩)), .val (.pointer (some ⟨b, q + (k - 1) * 7, none⟩)), .val (.agg #[.int .i64 p', .int .i64 o', .int .i64 f']), .val (.pointer (some ⟨wr.heap.size, 0, none⟩)), .val (.agg #[.int .i64 p, .int .i64 o, .int .i64 f]), .val (.bool false), .val (.bool true), .val (.bool true), .val (.bool true)] (by kernel_rfl) (by kernel_rfl) (by kernel_rfl) ?_
          intro X
          iterate 7
            refine plan_val (by kernel_rfl) (fun u hu => ?_) ?_
            · obtain ⟨hc, hf, hz⟩ := hu.of_drew.facts
              go_simp
              all_goals first
                | (go_at_call 36; exact cM _)
            simp only [Act.put, List.setIfInBounds_toArray, List.set_cons_zero, List.set_cons_succ, Nat.reduceAdd]
          iterate 3
            refine plan_idle (by kernel_rfl) ?_
            simp only [Act.put, List.setIfInBounds_toArray, List.set_cons_zero, List.set_cons_succ, Nat.reduceAdd]
          iterate 29
            refine plan_val (by kernel_rfl) (fun u hu => ?_) ?_
            · obtain ⟨hc, hf, hz⟩ := hu.of_drew.facts
              go_simp
              all_goals first
                | (go_at_call 36; exact cM _)
            simp only [Act.put, List.setIfInBounds_toArray, List.set_cons_zero, List.set_cons_succ, Nat.reduceAdd]
          refine plan_end ?_
          intro w' hB
          have hk := hB.calm.of_drew
          clear hB
          clear z0 z1 z2 z3 z4 z5
          go_wp2_with fail
          all_goals
            go_ret
            exact ⟨ret_int K.out, (hu.call hv).call hk⟩
      have hv1 : vs.size = 0 := by omega
      have HE0 : Hid (Chg.err ⟨p, o, f, true, true, ws, vs⟩ = 0) := show _ = _ from Chg.err_zero.2 ⟨hk0, hz1, hz2, .inl rfl, .inl rfl, fun e => hsame ⟨(St.ext_iff'.1 e).1, (St.ext_iff'.1 e).2⟩⟩
      clear KE
      by_cases hk1 : k = 0
      · subst hk1
        have hN1 : NoErrC l 1 := fun j hj => by
          have : j = 0 := by omega
          subst this
          exact stepC_first HE.out HE0.out
        simp only [Nat.zero_mul, Nat.add_zero] at c0 c1 c2 c3 c4 c5 c6
        go_upto_region 12 with (go_at_call 35; refine (cK _).mono ?_; rintro e w1 ⟨rfl, hb1⟩; have hx := (hb1.block (k := wr.heap.size) (by simp)).trans (heap_new wr (.cells #[.int .i64 p, .int .i64 o, .int .i64 f, .bool true, .bool true, .string ws, .string vs] 33 (0, 0))); obtain ⟨x0, x1, x2, x3, x4, x5, x6, hxs⟩ := row7 hx; have hv := ((Calm.refl wr).alloc (.cells #[.int .i64 p, .int .i64 o, .int .i64 f, .bool true, .bool true, .string ws, .string vs] 33 (0, 0))).call hb1; clear hb1 hx)
        refine wp_region_plan [.val (.bool false), .val (.bool false), .val (.pointer (some ⟨wr.heap.size, 5, none⟩)), .val (.string ws), .val (.int .i64 ((ws.size : Int))), .val (.bool false), .val (.bool false), .idle, .idle, .idle, .val (.bool false), .val (.bool false), .val (.bool false), .val (.pointer (some ⟨wr.heap.size, 6, none⟩)), .val (.string vs), .val (.int .i64 ((vs.size : Int))), .val (.bool false), .val (.bool false), .idle, .idle, .idle, .val (.bool false), .val (.bool false), .val (.bool false), .val (.int .i64 (0)), .val (.bool false), .val (.bool false), .idle, .idle, .idle, .idle, .idle, .idle, .idle, .idle, .idle, .idle, .val (.bool false), .val (.bool false)] (by kernel_rfl) (by kernel_rfl) (by kernel_rfl) ?_
        intro X
        iterate 7
          refine plan_val (by kernel_rfl) (fun u hu => ?_) ?_
          · obtain ⟨hc, hf, hz⟩ := hu.of_drew.facts
            go_simp
          simp only [Act.put, List.setIfInBounds_toArray, List.set_cons_zero, List.set_cons_succ, Nat.reduceAdd]
        iterate 3
          refine plan_idle (by kernel_rfl) ?_
          simp only [Act.put, List.setIfInBounds_toArray, List.set_cons_zero, List.set_cons_succ, Nat.reduceAdd]
        iterate 8
          refine plan_val (by kernel_rfl) (fun u hu => ?_) ?_
          · obtain ⟨hc, hf, hz⟩ := hu.of_drew.facts
            go_simp
          simp only [Act.put, List.setIfInBounds_toArray, List.set_cons_zero, List.set_cons_succ, Nat.reduceAdd]
        iterate 3
          refine plan_idle (by kernel_rfl) ?_
          simp only [Act.put, List.setIfInBounds_toArray, List.set_cons_zero, List.set_cons_succ, Nat.reduceAdd]
        iterate 6
          refine plan_val (by kernel_rfl) (fun u hu => ?_) ?_
          · obtain ⟨hc, hf, hz⟩ := hu.of_drew.facts
            go_simp
          simp only [Act.put, List.setIfInBounds_toArray, List.set_cons_zero, List.set_cons_succ, Nat.reduceAdd]
        iterate 10
          refine plan_idle (by kernel_rfl) ?_
          simp only [Act.put, List.setIfInBounds_toArray, List.set_cons_zero, List.set_cons_succ, Nat.reduceAdd]
        iterate 2
          refine plan_val (by kernel_rfl) (fun u hu => ?_) ?_
          · obtain ⟨hc, hf, hz⟩ := hu.of_drew.facts
            go_simp
          simp only [Act.put, List.setIfInBounds_toArray, List.set_cons_zero, List.set_cons_succ, Nat.reduceAdd]
        refine plan_end ?_
        intro w' hB
        have hk := hB.calm.of_drew
        clear hB
        go_wp2_with fail
        all_goals exact ⟨⟨1, by omega, rfl, (hu.call hv).call hk, hN1⟩, by simp [intOf]; omega⟩
      obtain ⟨p', o', f', hd', hs', ws', vs', HE', d0, d1, d2, d3, d4, d5, d6⟩ := chg_get2 (hL.calm hu) (k := k - 1) (by omega)
      have hS := stepC_form HE.out HE0.out (by omega) HE'.out
      have hk2 : 1 ≤ k := by omega
      clear hk1
      have cM := fun u => ahead_any p' o' f' p o f u
      have z1 : IntKind.i64.wrap ((k : Int) - 1) = (k : Int) - 1 := IntWalk.i64_in _ (by omega)
      have z2 : ((k : Int) - 1).toNat = k - 1 := by omega
      have z3 : 0 ≤ (k : Int) - 1 := by omega
      have z4 : (k : Int) - 1 < l.length := by omega
      have z5 : 1 ≤ (k : Int) := by omega
      have z0 : 0 < k := hk2
      by_cases hF : kLt (p', o', f') (p, o, f)
      · rw [if_pos (show kLt (Chg.key ⟨p', o', f', hd', hs', ws', vs'⟩) (Chg.key ⟨p, o, f, true, true, ws, vs⟩) from hF)] at hS
        rw [show aheadB p' o' f' p o f = true from by unfold aheadB; rw [decide_eq_true_eq]; exact kcmp_kLt.2 hF] at cM
        have hN1 : NoErrC l (k + 1) := fun j hj => by
          rcases Nat.lt_or_ge j k with h | h
          · exact hN j h
          · rw [show j = k by omega]; exact hS
        clear hS hF HE0 HE HE' hL
        go_upto_region 12 with (go_at_call 35; refine (cK _).mono ?_; rintro e w1 ⟨rfl, hb1⟩; have hx := (hb1.block (k := wr.heap.size) (by simp)).trans (heap_new wr (.cells #[.int .i64 p, .int .i64 o, .int .i64 f, .bool true, .bool true, .string ws, .string vs] 33 (0, 0))); obtain ⟨x0, x1, x2, x3, x4, x5, x6, hxs⟩ := row7 hx; have hv := ((Calm.refl wr).alloc (.cells #[.int .i64 p, .int .i64 o, .int .i64 f, .bool true, .bool true, .string ws, .string vs] 33 (0, 0))).call hb1; have hb2 : b < w1.heap.size := Nat.lt_of_lt_of_le hb hv.size; have hvc := hv.facts.1; replace d0 := (hvc _ _ hb).trans d0; replace d1 := (hvc _ _ hb).trans d1; replace d2 := (hvc _ _ hb).trans d2; clear hvc hb1 hx c0 c1 c2 c3 c4 c5 c6 d3 d4 d5 d6)
        refine wp_region_plan [.val (.bool false), .val (.bool false), .val (.pointer (some ⟨wr.heap.size, 5, none⟩)), .val (.string ws), .val (.int .i64 ((ws.size : Int))), .val (.bool false), .val (.bool false), .idle, .idle, .idle, .val (.bool false), .val (.bool false), .val (.bool false), .val (.pointer (some ⟨wr.heap.size, 6, none⟩)), .val (.string vs), .val (.int .i64 ((vs.size : Int))), .val (.bool false), .val (.bool false), .idle, .idle, .idle, .val (.bool false), .val (.bool false), .val (.bool false), .val (.int .i64 ((k : Int))), .val (.bool true), .val (.bool true), .val (.slice (some ⟨b, q, none⟩) l.length c), .val (.int .i64 ((k : Int))), .val (.int .i64 ((k : Int) - 1)), .val (.pointer (some ⟨b, q + (k - 1) * 7, none⟩)), .val (.pointer (some ⟨b, q + (k - 1) * 7, none⟩)), .val (.agg #[.int .i64 p', .int .i64 o', .int .i64 f']), .val (.pointer (some ⟨wr.heap.size, 0, none⟩)), .val (.agg #[.int .i64 p, .int .i64 o, .int .i64 f]), .val (.bool true), .val (.bool false), .val (.bool false), .val (.bool false)] (by kernel_rfl) (by kernel_rfl) (by kernel_rfl) ?_
        intro X
        iterate 7
          refine plan_val (by kernel_rfl) (fun u hu => ?_) ?_
          · obtain ⟨hc, hf, hz⟩ := hu.of_drew.facts
            go_simp
            all_goals first
              | (go_at_call 36; exact cM _)
          simp only [Act.put, List.setIfInBounds_toArray, List.set_cons_zero, List.set_cons_succ, Nat.reduceAdd]
        iterate 3
          refine plan_idle (by kernel_rfl) ?_
          simp only [Act.put, List.setIfInBounds_toArray, List.set_cons_zero, List.set_cons_succ, Nat.reduceAdd]
        iterate 8
          refine plan_val (by kernel_rfl) (fun u hu => ?_) ?_
          · obtain ⟨hc, hf, hz⟩ := hu.of_drew.facts
            go_simp
            all_goals first
              | (go_at_call 36; exact cM _)
          simp only [Act.put, List.setIfInBounds_toArray, List.set_cons_zero, List.set_cons_succ, Nat.reduceAdd]
        iterate 3
          refine plan_idle (by kernel_rfl) ?_
          simp only [Act.put, List.setIfInBounds_toArray, List.set_cons_zero, List.set_cons_succ, Nat.reduceAdd]
        iterate 18
          refine plan_val (by kernel_rfl) (fun u hu => ?_) ?_
          · obtain ⟨hc, hf, hz⟩ := hu.of_drew.facts
            go_simp
            all_goals first
              | (go_at_call 36; exact cM _)
          simp only [Act.put, List.setIfInBounds_toArray, List.set_cons_zero, List.set_cons_succ, Nat.reduceAdd]
        refine plan_end ?_
        intro w' hB
        have hk := hB.calm.of_drew
        clear hB
        clear z0 z1 z2 z3 z4 z5
        go_wp2_with fail
        all_goals
          go_roundw
          case rel => exact ⟨k + 1, by omega, by go_num, (hu.call hv).call hk, hN1⟩
        case measure => simp [intOf]; omega
      · rw [if_neg (show ¬ kLt (Chg.key ⟨p', o', f', hd', hs', ws', vs'⟩) (Chg.key ⟨p, o, f, true, true, ws, vs⟩) from hF)] at hS
        rw [show aheadB p' o' f' p o f = false from by unfold aheadB; rw [decide_eq_false_iff_not]; exact fun h => hF (kcmp_kLt.1 h)] at cM
        have K : Hid (3 = chErr l) := hS.symm.trans (chErr_at hbig hN (by rw [hS]; decide) hlt)
        clear hS hF HE0 HE HE' hL
        go_upto_region 12 with (go_at_call 35; refine (cK _).mono ?_; rintro e w1 ⟨rfl, hb1⟩; have hx := (hb1.block (k := wr.heap.size) (by simp)).trans (heap_new wr (.cells #[.int .i64 p, .int .i64 o, .int .i64 f, .bool true, .bool true, .string ws, .string vs] 33 (0, 0))); obtain ⟨x0, x1, x2, x3, x4, x5, x6, hxs⟩ := row7 hx; have hv := ((Calm.refl wr).alloc (.cells #[.int .i64 p, .int .i64 o, .int .i64 f, .bool true, .bool true, .string ws, .string vs] 33 (0, 0))).call hb1; have hb2 : b < w1.heap.size := Nat.lt_of_lt_of_le hb hv.size; have hvc := hv.facts.1; replace d0 := (hvc _ _ hb).trans d0; replace d1 := (hvc _ _ hb).trans d1; replace d2 := (hvc _ _ hb).trans d2; clear hvc hb1 hx c0 c1 c2 c3 c4 c5 c6 d3 d4 d5 d6)
        refine wp_region_plan [.val (.bool false), .val (.bool false), .val (.pointer (some ⟨wr.heap.size, 5, none⟩)), .val (.string ws), .val (.int .i64 ((ws.size : Int))), .val (.bool false), .val (.bool false), .idle, .idle, .idle, .val (.bool false), .val (.bool false), .val (.bool false), .val (.pointer (some ⟨wr.heap.size, 6, none⟩)), .val (.string vs), .val (.int .i64 ((vs.size : Int))), .val (.bool false), .val (.bool false), .idle, .idle, .idle, .val (.bool false), .val (.bool false), .val (.bool false), .val (.int .i64 ((k : Int))), .val (.bool true), .val (.bool true), .val (.slice (some ⟨b, q, none⟩) l.length c), .val (.int .i64 ((k : Int))), .val (.int .i64 ((k : Int) - 1)), .val (.pointer (some ⟨b, q + (k - 1) * 7, none⟩)), .val (.pointer (some ⟨b, q + (k - 1) * 7, none⟩)), .val (.agg #[.int .i64 p', .int .i64 o', .int .i64 f']), .val (.pointer (some ⟨wr.heap.size, 0, none⟩)), .val (.agg #[.int .i64 p, .int .i64 o, .int .i64 f]), .val (.bool false), .val (.bool true), .val (.bool true), .val (.bool true)] (by kernel_rfl) (by kernel_rfl) (by kernel_rfl) ?_
        intro X
        iterate 7
          refine plan_val (by kernel_rfl) (fun u hu => ?_) ?_
          · obtain ⟨hc, hf, hz⟩ := hu.of_drew.facts
            go_simp
            all_goals first
              | (go_at_call 36; exact cM _)
          simp only [Act.put, List.setIfInBounds_toArray, List.set_cons_zero, List.set_cons_succ, Nat.reduceAdd]
        iterate 3
          refine plan_idle (by kernel_rfl) ?_
          simp only [Act.put, List.setIfInBounds_toArray, List.set_cons_zero, List.set_cons_succ, Nat.reduceAdd]
        iterate 8
          refine plan_val (by kernel_rfl) (fun u hu => ?_) ?_
          · obtain ⟨hc, hf, hz⟩ := hu.of_drew.facts
            go_simp
            all_goals first
              | (go_at_call 36; exact cM _)
          simp only [Act.put, List.setIfInBounds_toArray, List.set_cons_zero, List.set_cons_succ, Nat.reduceAdd]
        iterate 3
          refine plan_idle (by kernel_rfl) ?_
          simp only [Act.put, List.setIfInBounds_toArray, List.set_cons_zero, List.set_cons_succ, Nat.reduceAdd]
        iterate 18
          refine plan_val (by kernel_rfl) (fun u hu => ?_) ?_
          · obtain ⟨hc, hf, hz⟩ := hu.of_drew.facts
            go_simp
            all_goals first
              | (go_at_call 36; exact cM _)
          simp only [Act.put, List.setIfInBounds_toArray, List.set_cons_zero, List.set_cons_succ, Nat.reduceAdd]
        refine plan_end ?_
        intro w' hB
        have hk := hB.calm.of_drew
        clear hB
        clear z0 z1 z2 z3 z4 z5
        go_wp2_with fail
        all_goals
          go_ret
          exact ⟨ret_int K.out, (hu.call hv).call hk⟩
open Go.RowKit
def KBox (B1 B2 : Nat) (p o f t : Int) (w : World) : Prop :=
 w.heap[B1]? = some (.cells #[.int .i64 p, .int .i64 o, .int .i64 f] 31 (0, 0)) ∧ w.heap[B2]? = some (.cells #[.int .i64 t] 3 (0, 0))
theorem KBox.calm {B1 B2 : Nat} {p o f t : Int} {w w' : World} (h : KBox B1 B2 p o f t w) (hb : Calm w w') : KBox B1 B2 p o f t w' :=
 ⟨(hb.block (Array.getElem?_eq_some_iff.1 h.1).1).trans h.1, (hb.block (Array.getElem?_eq_some_iff.1 h.2).1).trans h.2⟩
set_option maxHeartbeats 4000000 in
theorem at1_any (B1 B2 : Nat) (p o f m g : Int) (s : ByteArray) (p' o' f' t : Int) (w : World) (hB : KBox B1 B2 p' o' f' t w) :
    Calls Try.prog 63 #[.agg #[.int .i64 p, .int .i64 o, .int .i64 f, .int .i64 m, .int .i64 g, .string s], .pointer (some ⟨B1, 0, none⟩), .pointer (some ⟨B2, 0, none⟩)] w fun e w' => e = .returned (.bool (isAt (p', o', f') t ⟨p, o, f, m, g, s⟩)) ∧ Calm w w' := by
  obtain ⟨hx, hy⟩ := hB
  obtain ⟨x0, x1, x2, hxs⟩ := row3 hx
  have y0 := cell_of_row _ _ 0 _ _ _ hy
  simp only [List.getElem?_toArray, List.getElem?_cons_zero] at y0
  have hys := (Array.getElem?_eq_some_iff.1 hy).1
  have hH : Hid (isAt (p', o', f') t ⟨p, o, f, m, g, s⟩ = decide ((p = p' ∧ o = o' ∧ f = f') ∧ liveP m g t)) := by
    show _ = _
    unfold isAt; simp only [El.key, El.live, Prod.mk.injEq]
  generalize isAt (p', o', f') t ⟨p, o, f, m, g, s⟩ = r at hH ⊢
  clear hx hy
  go_enter Try.func63, Try.ntmps63
  go_wp2_with (go_at_call 64; refine (refLive_any _ _ _ _ _ _ _ _).mono ?_; rintro e w1 ⟨rfl, hb1⟩)
  all_goals
    go_ret
    exact ⟨ret_bool (by rw [hH.out]; simp [*]), by repeat (first | (with_reducible exact Calm.refl _) | (with_reducible refine Calm.alloc ?_ _) | (with_reducible refine Calm.drew ?_) | (with_reducible refine Calm.drewN ?_ _) | (refine Calm.call ?_ (by with_reducible assumption)))⟩
def FI (l : List El) (k : Int × Int × Int) (t r : Int) : Prop := (r = -1 ∧ ∀ e ∈ l, isAt k t e = false) ∨ (∃ (i : Nat) (h : i < l.length), r = i ∧ isAt k t l[i] = true ∧ ∀ j (hj : j < l.length), j < i → isAt k t l[j] = false)
theorem FI_ex (l : List El) (k : Int × Int × Int) (t : Int) : ∃ r, FI l k t r := by
 have E : ∀ n, n ≤ l.length → (∃ (i : Nat) (h : i < l.length), isAt k t l[i] = true ∧ ∀ j (hj : j < l.length), j < i → isAt k t l[j] = false) ∨ ∀ j (hj : j < l.length), j < n → isAt k t l[j] = false := fun n => by
  induction n with
  |zero => intro _; right; intro j hj h0; omega
  |succ n ih =>
   intro hn
   rcases ih (by omega) with h | h
   ·exact .inl h
   ·cases hp : isAt k t l[n]
    ·right; intro j hj h1
     rcases Nat.lt_or_ge j n with h2 | h2
     ·exact h j hj h2
     ·rw [show l[j] = l[n] from by congr 1; omega]; exact hp
    ·exact .inl ⟨n, by omega, hp, h⟩
 rcases E l.length (Nat.le_refl _) with ⟨i, h, h1, h2⟩ | h
 ·exact ⟨i, .inr ⟨i, h, rfl, h1, h2⟩⟩
 ·exact ⟨-1, .inl ⟨rfl, fun e he => by obtain ⟨j, hj, rfl⟩ := List.getElem_of_mem he; exact h j hj hj⟩⟩
set_option maxHeartbeats 4000000 in
theorem indexFunc_any (B1 B2 : Nat) (A : Option Addr) (c : Nat) (l : List El) (p' o' f' t r : Int) (w : World) (hn : l.length ≤ 9223372036854775807) (hL : Lies w A l) (hB : KBox B1 B2 p' o' f' t w) (hF : FI l (p', o', f') t r) :
    Calls Try.prog 62 #[.slice A l.length c, .func (.func 63) #[] #[.pointer (some ⟨B1, 0, none⟩), .pointer (some ⟨B2, 0, none⟩)]] w fun e w' => e = .returned (.int .i64 r) ∧ Calm w w' := by
  have HF := Lib.hid hF
  have C : ∀ (u : World) (p o f m g : Int) (s : ByteArray), Calm w u → Calls Try.prog 63 (#[.agg #[.int .i64 p, .int .i64 o, .int .i64 f, .int .i64 m, .int .i64 g, .string s]] ++ #[.pointer (some ⟨B1, 0, none⟩), .pointer (some ⟨B2, 0, none⟩)]) u fun e w' => e = .returned (.bool (isAt (p', o', f') t ⟨p, o, f, m, g, s⟩)) ∧ Calm u w' := fun u p o f m g s hu => at1_any B1 B2 p o f m g s p' o' f' t u (hB.calm hu)
  clear hF hB
  go_enter Try.func62, Try.ntmps62
  go_wp2_with fail
  go_loopw [8] (fun i wr => ∃ k : Nat, k ≤ l.length ∧ i = .int .i64 k ∧ Calm w wr ∧ Hid (∀ j (hj : j < l.length), j < k → isAt (p', o', f') t l[j] = false)) (fun i _ => l.length - (intOf i).toNat)
  case atStart => exact ⟨0, Nat.zero_le _, rfl, Calm.refl _, show ∀ _, _ from fun j hj h => absurd h (Nat.not_lt_zero _)⟩
  case round =>
    obtain ⟨k, hk, rfl, hu, hN⟩ := hrel
    by_cases hlt : k < l.length
    rotate_left
    · have K : Hid (r = -1) := by
        rcases HF.out with h | ⟨i, hi, _, h2, _⟩
        · exact h.1
        · rw [hN.out i hi (by omega)] at h2; cases h2
      clear C
      go_wp2_with fail
      go_ret
      exact ⟨by rw [K.out]; rfl, hu⟩
    obtain ⟨b, q, p, o, f, m, g, s, rfl, hb, HE, hm, c0, c1, c2, c3, c4, c5⟩ := (hL.calm hu).get hlt
    have HE2 := (List.getElem?_eq_some_iff.1 HE.out).2
    have hc := C wr p o f m g s hu
    cases hp : isAt (p', o', f') t ⟨p, o, f, m, g, s⟩
    · rw [hp] at hc
      have hN2 : Hid (∀ j (hj : j < l.length), j < k + 1 → isAt (p', o', f') t l[j] = false) := show ∀ _, _ from fun j hj h => by
        rcases Nat.lt_or_ge j k with h2 | h2
        · exact hN.out j hj h2
        · rw [show l[j] = l[k] from by congr 1; omega, HE2]; exact hp
      clear hp C HE2
      go_wp2_with (go_at_call 63; refine hc.mono ?_; rintro e w1 ⟨rfl, hb1⟩)
      go_roundw
      case rel => exact ⟨k + 1, by omega, by go_num, hu.call hb1, hN2⟩
      case measure => simp [intOf]; omega
    · rw [hp] at hc
      have K : Hid (r = k) := by
        rcases HF.out with h | ⟨i, hi, hr, h2, h3⟩
        · have := h.2 _ (List.getElem_mem hlt); rw [HE2, hp] at this; cases this
        · rw [hr]
          rcases Nat.lt_trichotomy i k with h4 | h4 | h4
          · rw [hN.out i hi h4] at h2; cases h2
          · show _ = _; rw [h4]
          · have := h3 k hlt h4; rw [HE2, hp] at this; cases this
      clear hp C HE2
      go_wp2_with (go_at_call 63; refine hc.mono ?_; rintro e w1 ⟨rfl, hb1⟩)
      go_ret
      exact ⟨by rw [K.out]; rfl, hu.call hb1⟩
def RefAtEnd (x : El) (b : Bool) (w : World) (e : Ending) (w' : World) : Prop := e = .returned (.tuple #[x.val, .bool b]) ∧ Calm w w'
set_option maxHeartbeats 4000000 in
theorem refAt_any (A : Option Addr) (d : Nat) (l : List El) (p' o' f' t : Int) (w : World) (hn : l.length ≤ 9223372036854775807) (hL : Lies w A l) :
    Calls Try.prog 34 #[.slice A l.length d, .agg #[.int .i64 p', .int .i64 o', .int .i64 f'], .int .i64 t] w (RefAtEnd ((atR l (p', o', f') t).getD zeroEl) (atR l (p', o', f') t).isSome w) := by
  obtain ⟨r, hF⟩ := FI_ex l (p', o', f') t
  have hz : (((w.alloc (.cells #[.int .i64 p', .int .i64 o', .int .i64 f'] 31)).alloc (.cells #[.int .i64 t] 3)).alloc (.cells #[.int .i64 0, .int .i64 0, .int .i64 0, .int .i64 0, .int .i64 0, .string { data := #[] }] 43)).heap[w.heap.size + 1 + 1]? = some (.cells #[.int .i64 0, .int .i64 0, .int .i64 0, .int .i64 0, .int .i64 0, .string { data := #[] }] 43 (0, 0)) := by simpa using heap_new ((w.alloc (.cells #[.int .i64 p', .int .i64 o', .int .i64 f'] 31)).alloc (.cells #[.int .i64 t] 3)) (.cells #[.int .i64 0, .int .i64 0, .int .i64 0, .int .i64 0, .int .i64 0, .string { data := #[] }] 43)
  have hu := (((Calm.refl w).alloc (.cells #[.int .i64 p', .int .i64 o', .int .i64 f'] 31)).alloc (.cells #[.int .i64 t] 3)).alloc (.cells #[.int .i64 0, .int .i64 0, .int .i64 0, .int .i64 0, .int .i64 0, .string { data := #[] }] 43)
  have hB : KBox w.heap.size (w.heap.size + 1) p' o' f' t (((w.alloc (.cells #[.int .i64 p', .int .i64 o', .int .i64 f'] 31)).alloc (.cells #[.int .i64 t] 3)).alloc (.cells #[.int .i64 0, .int .i64 0, .int .i64 0, .int .i64 0, .int .i64 0, .string { data := #[] }] 43)) := ⟨heap_past _ (heap_past _ (heap_new _ _)), heap_past _ (by simpa using heap_new (w.alloc (.cells #[.int .i64 p', .int .i64 o', .int .i64 f'] 31)) (.cells #[.int .i64 t] 3))⟩
  have cI := indexFunc_any w.heap.size (w.heap.size + 1) A d l p' o' f' t r _ hn (hL.calm hu) hB hF
  clear hB
  rcases hF with ⟨rfl, h2⟩ | ⟨i, hi, rfl, h2, h3⟩
  · rw [find_none h2]
    clear h2 hL
    go_enter Try.func34, Try.ntmps34
    go_wp2_with (go_at_call 62; refine cI.mono ?_; rintro e w1 ⟨rfl, hb1⟩; replace hz := (hb1.block (row6 hz).2.2.2.2.2.2).trans hz; replace hu := hu.call hb1; clear hb1; obtain ⟨z0, z1, z2, z3, z4, z5, hzs⟩ := row6 hz; obtain ⟨f0, f1, f2, f3, f4, f5⟩ := free6 hz)
    have hr := set6 hz (.int .i64 0) (.int .i64 0) (.int .i64 0) (.int .i64 0) (.int .i64 0) (.string { data := #[] })
    have hu2 := hu.six (g := w.heap.size + 1 + 1) (by omega) (.int .i64 0) (.int .i64 0) (.int .i64 0) (.int .i64 0) (.int .i64 0) (.string { data := #[] })
    unfold World.six at hr hu2
    exact end_two rfl rfl _ _ _ _ _ _ _ rfl rfl rfl hr rfl ⟨rfl, hu2⟩
  · have e0 : atR l (p', o', f') t = some l[i] := by
      unfold atR
      rw [List.find?_eq_some_iff_getElem]
      exact ⟨h2, i, hi, rfl, fun j hj => by rw [h3 j (by omega) hj]; rfl⟩
    rw [e0]
    clear h2 h3 e0
    obtain ⟨b, q, p, o, f, m, g, s, rfl, hb, HE, hm, c0, c1, c2, c3, c4, c5⟩ := hL.get hi
    have e3 : Hid (l[i] = ⟨p, o, f, m, g, s⟩) := (List.getElem?_eq_some_iff.1 HE.out).2
    have hC : ∀ u, Calm w u → u.cell? ⟨b, q + i * 6, none⟩ = some (.int .i64 p) ∧ u.cell? ⟨b, q + i * 6 + 1, none⟩ = some (.int .i64 o) ∧ u.cell? ⟨b, q + i * 6 + 2, none⟩ = some (.int .i64 f) ∧ u.cell? ⟨b, q + i * 6 + 3, none⟩ = some (.int .i64 m) ∧ u.cell? ⟨b, q + i * 6 + 4, none⟩ = some (.int .i64 g) ∧ u.cell? ⟨b, q + i * 6 + 5, none⟩ = some (.string s) := fun u hu =>
      have hc := hu.facts.1
      ⟨(hc _ _ hb).trans c0, (hc _ _ hb).trans c1, (hc _ _ hb).trans c2, (hc _ _ hb).trans c3, (hc _ _ hb).trans c4, (hc _ _ hb).trans c5⟩
    have hiz : (i : Int) < (l.length : Int) := by omega
    clear hL HE c0 c1 c2 c3 c4 c5
    go_enter Try.func34, Try.ntmps34
    go_wp2_with (go_at_call 62; refine cI.mono ?_; rintro e w1 ⟨rfl, hb1⟩; replace hz := (hb1.block (row6 hz).2.2.2.2.2.2).trans hz; replace hu := hu.call hb1; clear hb1; obtain ⟨z0, z1, z2, z3, z4, z5, hzs⟩ := row6 hz; obtain ⟨f0, f1, f2, f3, f4, f5⟩ := free6 hz; obtain ⟨c0, c1, c2, c3, c4, c5⟩ := hC _ hu)
    have hr := set6 hz (.int .i64 p) (.int .i64 o) (.int .i64 f) (.int .i64 m) (.int .i64 g) (.string s)
    have hu2 := hu.six (g := w.heap.size + 1 + 1) (by omega) (.int .i64 p) (.int .i64 o) (.int .i64 f) (.int .i64 m) (.int .i64 g) (.string s)
    unfold World.six at hr hu2
    exact end_two rfl rfl _ _ _ _ _ _ _ rfl rfl rfl hr rfl ⟨by rw [Option.getD_some, e3.out]; rfl, hu2⟩
open Go.RowKit
/-- The same append, and what it leaves of all other blocks. -/
theorem wpList_append_el2 {ops : Array Oper} {rest : List Oper} {o : Oper} {a : Act} {w : World} {Q : Exit → Act → World → Prop} (hgd : o.guard = none) (s x : Operand)
    (ho : o.op = .call { callee := .builtin .append, args := #[s, x], argTypes := #[22, 22] })
    (base : Nat) (v : Value) (l : List El) (hs : a.eval s = v) (hown : OwnR base w v l) (g t : Nat) (p o' f m gg : Int) (sv : ByteArray) (fr : Nat × Nat)
    (hx : a.eval x = .slice (some ⟨g, 0, none⟩) 1 1) (hg : w.heap[g]? = some (.cells #[.int .i64 p, .int .i64 o', .int .i64 f, .int .i64 m, .int .i64 gg, .string sv] t fr)) (hl : l.length ≤ 1000000) (hbase : base ≤ w.heap.size)
    (h : ∀ v' w', OwnR base w' v' (l ++ [⟨p, o', f, m, gg, sv⟩]) → (∀ w0 : World, w0.heap.size ≤ base → Calm w0 w → Calm w0 w') → w.grownBy w' v.ownBlock → wpList Try.prog ops Q rest (a.put o.dst v') w') : wpList Try.prog ops Q (o :: rest) a w := by
  obtain ⟨i0, hi, hz0, hz1, hz2⟩ := info_parts infoElem
  refine wpList_append_own w hgd s x _ ho base 43 i0 _ 6 56 Try.underlying22 hi hz0 hz1 hz2 rfl (by decide) v _ _ hs hown ⟨g, 0, none⟩ 1 1 (El.cells ⟨p, o', f, m, gg, sv⟩) hx rfl (fun j u hj => ?_) (cells_one _) (by unfold maxLen; omega) (by omega) hbase fun v' w' h1 h2 _ => ?_
  · have : (⟨g, 0, none⟩ : Addr).add j = ⟨g, j, none⟩ := by unfold Addr.add; split <;> simp_all
    rw [this, cell_of_row w g j _ t fr hg, ← hj]
    simp [El.cells]
  · refine h v' w' ?_ (fun w0 h0 hc => hc.grown h0 hown h2) h2
    unfold OwnR
    rw [List.length_append, cellsOf_snoc]
    exact h1
def sortUp (x : El) (l : List El) (k : Nat) : List El := if (l.take k).any (beyond x) then ins x (l.take k) else l.take k
theorem sortUp_len (x : El) (l : List El) (k : Nat) (hk : k ≤ l.length) : (sortUp x l k).length ≤ k + 1 := by
 unfold sortUp
 split
 ·rename_i h
  have : ∀ a : List El, (ins x a).length = a.length + 1 := fun a => by
   induction a with
   |nil => rfl
   |cons y a ih => unfold ins; split <;> simp [ih]
  rw [this, List.length_take]; omega
 ·rw [List.length_take]; omega
set_option maxHeartbeats 8000000 in
theorem sorted_any (A : Option Addr) (d : Nat) (l : List El) (p' o' f' m' g' : Int) (s' : ByteArray) (w : World) (hn4 : l.length ≤ 400) (hL : Lies w A l) (hxw : El.wf ⟨p', o', f', m', g', s'⟩) :
    Calls Try.prog 76 #[.slice A l.length d, .agg #[.int .i64 p', .int .i64 o', .int .i64 f', .int .i64 m', .int .i64 g', .string s']] w (Sl1End (ins ⟨p', o', f', m', g', s'⟩ l) w) := by
  have hx := heap_new w (.cells #[.int .i64 p', .int .i64 o', .int .i64 f', .int .i64 m', .int .i64 g', .string s'] 43)
  have hu := (Calm.refl w).alloc (.cells #[.int .i64 p', .int .i64 o', .int .i64 f', .int .i64 m', .int .i64 g', .string s'] 43)
  have hwf : ∀ e ∈ ins ⟨p', o', f', m', g', s'⟩ l, e.wf := fun e he => by
    rcases ins_mem he with h | h
    · rw [h]; exact hxw
    · exact hL.1 e h
  have HWF := Lib.hid hwf
  replace hL := hL.calm hu
  have hwz : (w.alloc (.cells #[.int .i64 p', .int .i64 o', .int .i64 f', .int .i64 m', .int .i64 g', .string s'] 43)).heap.size = w.heap.size + 1 := by simp
  clear hwf hxw
  go_enter Try.func76, Try.ntmps76
  go_wp2_with fail
  generalize (w.alloc (.cells #[.int .i64 p', .int .i64 o', .int .i64 f', .int .i64 m', .int .i64 g', .string s'] 43)) = w3 at hx hu hL hwz ⊢
  go_loopw [5, 6, 11] (fun v b i wr => ∃ k : Nat, k ≤ l.length ∧ i = .int .i64 k ∧ b = .bool ((l.take k).any (beyond ⟨p', o', f', m', g', s'⟩)) ∧ Calm w3 wr ∧ Hid (OwnR w3.heap.size wr v (sortUp ⟨p', o', f', m', g', s'⟩ l k))) (fun _ _ i _ => l.length - (intOf i).toNat)
  case atStart => exact ⟨0, Nat.zero_le _, rfl, rfl, Calm.refl _, show OwnR _ _ _ _ from OwnR.nil _ _⟩
  case round =>
    obtain ⟨k, hk, rfl, rfl, hur, ho⟩ := hrel
    have hlen := sortUp_len ⟨p', o', f', m', g', s'⟩ l k hk
    replace hx := (hur.block (row6 hx).2.2.2.2.2.2).trans hx
    by_cases hlt : k < l.length
    rotate_left
    · have hkl : l.take k = l := List.take_of_length_le (by omega)
      unfold sortUp at ho hlen
      rw [hkl] at ho hlen ⊢
      cases hb : l.any (beyond ⟨p', o', f', m', g', s'⟩)
      · rw [hb] at ho hlen
        simp only [Bool.false_eq_true, if_false] at ho hlen
        have e1 : ins ⟨p', o', f', m', g', s'⟩ l = l ++ [⟨p', o', f', m', g', s'⟩] := ins_none (any_not hb)
        have E1 := Lib.hid e1
        rw [e1] at HWF
        obtain ⟨x0, x1, x2, x3, x4, x5, hxs⟩ := row6 hx
        clear hb hkl e1
        go_wp2_with (at_builtin; refine wpList_append_el rfl _ _ rfl _ _ _ rfl (ho.out.calm ((Calm.refl _).alloc _)) _ _ p' o' f' m' g' s' _ rfl (heap_new _ _) (by omega) (by simp; exact Nat.le_succ_of_le hur.size) ?_; intro v' w9 ho9 hc9)
        have hS := Lib.hid (ho9.sl HWF.out)
        have hur9 := hu.call (hc9 _ (Nat.le_refl _) (hur.alloc _))
        clear ho9 hc9
        go_wp2_with fail
        go_ret
        exact ⟨_, rfl, by rw [E1.out]; exact hS.out, hur9⟩
      · rw [hb] at ho
        simp only [if_true] at ho
        have hS := Lib.hid (ho.out.sl HWF.out)
        have hur9 := hu.call hur
        clear hb hkl ho hx
        go_wp2_with fail
        go_ret
        exact ⟨_, rfl, hS.out, hur9⟩
    obtain ⟨b, q, p, o, f, m, g, s, rfl, hb, HE, hm, c0, c1, c2, c3, c4, c5⟩ := (hL.calm hur).get hlt
    have hT := take_snoc3 HE.out
    have hz := heap_new wr (.cells #[.int .i64 p, .int .i64 o, .int .i64 f, .int .i64 m, .int .i64 g, .string s] 43)
    have hne0 := ho.out.lt
    replace hx := heap_past (.cells #[.int .i64 p, .int .i64 o, .int .i64 f, .int .i64 m, .int .i64 g, .string s] 43) hx
    replace ho := Lib.hid (ho.out.calm ((Calm.refl wr).alloc (.cells #[.int .i64 p, .int .i64 o, .int .i64 f, .int .i64 m, .int .i64 g, .string s] 43)))
    have hbey : beyond ⟨p', o', f', m', g', s'⟩ ⟨p, o, f, m, g, s⟩ = aheadS p' o' f' m' p o f m := by
      unfold beyond aheadS
      rw [Bool.eq_iff_iff, decide_eq_true_eq, decide_eq_true_eq]
      exact (scmp_sLt (a := ⟨p', o', f', m', g', s'⟩) (b := ⟨p, o, f, m, g, s⟩)).symm
    have hany : (l.take (k + 1)).any (beyond ⟨p', o', f', m', g', s'⟩) = ((l.take k).any (beyond ⟨p', o', f', m', g', s'⟩) || aheadS p' o' f' m' p o f m) := by
      rw [hT, List.any_append, List.any_cons, List.any_nil, Bool.or_false, hbey]
    have hso : sortUp ⟨p', o', f', m', g', s'⟩ l (k + 1) = if (l.take k).any (beyond ⟨p', o', f', m', g', s'⟩) then sortUp ⟨p', o', f', m', g', s'⟩ l k ++ [⟨p, o, f, m, g, s⟩] else if aheadS p' o' f' m' p o f m then sortUp ⟨p', o', f', m', g', s'⟩ l k ++ [⟨p', o', f', m', g', s'⟩] ++ [⟨p, o, f, m, g, s⟩] else sortUp ⟨p', o', f', m', g', s'⟩ l k ++ [⟨p, o, f, m, g, s⟩] := by
      unfold sortUp
      rw [hany, hT]
      cases h1 : (l.take k).any (beyond ⟨p', o', f', m', g', s'⟩)
      · cases h2 : aheadS p' o' f' m' p o f m
        · simp
        · simp only [Bool.false_or, if_true, Bool.false_eq_true, if_false]
          exact ins_first (any_not h1) (by rw [hbey]; exact h2)
      · simp only [Bool.true_or, if_true]
        exact ins_some _ h1
    have HS := Lib.hid hso
    have HA := Lib.hid hany
    obtain ⟨x0, x1, x2, x3, x4, x5, hxs⟩ := row6 hx
    obtain ⟨z0, z1, z2, z3, z4, z5, hzs⟩ := row6 hz
    have cA := aheadSpot_any p' o' f' m' p o f m
    clear hso hany hbey hT HE
    replace hur := hur.alloc (.cells #[.int .i64 p, .int .i64 o, .int .i64 f, .int .i64 m, .int .i64 g, .string s] 43)
    generalize hbb : (l.take k).any (beyond ⟨p', o', f', m', g', s'⟩) = bb at HA HS ⊢
    generalize aheadS p' o' f' m' p o f m = aa at cA HA HS
    clear hbb
    go_upto_region 6 with fail
    generalize (wr.alloc (.cells #[.int .i64 p, .int .i64 o, .int .i64 f, .int .i64 m, .int .i64 g, .string s] 43)) = wc at *
    cases bb
    rotate_left
    · have HS' : Hid (sortUp ⟨p', o', f', m', g', s'⟩ l (k + 1) = sortUp ⟨p', o', f', m', g', s'⟩ l k ++ [⟨p, o, f, m, g, s⟩]) := HS.out
      have HA' : Hid ((l.take (k + 1)).any (beyond ⟨p', o', f', m', g', s'⟩) = true) := HA.out
      refine wp_region_plan [.val (.bool true), .val (.bool false), .val (.bool false), .idle, .idle, .idle, .idle, .idle, .val (.bool false)] (by kernel_rfl) (by kernel_rfl) (by kernel_rfl) ?_
      intro X
      iterate 3
        refine plan_val (by kernel_rfl) (fun u hu => ?_) ?_
        · obtain ⟨hc, hf, hz⟩ := hu.of_drew.facts
          go_simp
        simp only [Act.put, List.setIfInBounds_toArray, List.set_cons_zero, List.set_cons_succ, Nat.reduceAdd]
      iterate 5
        refine plan_idle (by kernel_rfl) ?_
        simp only [Act.put, List.setIfInBounds_toArray, List.set_cons_zero, List.set_cons_succ, Nat.reduceAdd]
      iterate 1
        refine plan_val (by kernel_rfl) (fun u hu => ?_) ?_
        · obtain ⟨hc, hf, hz⟩ := hu.of_drew.facts
          go_simp
        simp only [Act.put, List.setIfInBounds_toArray, List.set_cons_zero, List.set_cons_succ, Nat.reduceAdd]
      refine plan_end ?_
      intro w' hB
      have hk := hB.calm.of_drew
      clear hB
      replace ho := Lib.hid (ho.out.calm hk)
      replace hz := (hk.block hzs).trans hz
      replace hur := hur.call hk
      clear z0 z1 z2 z3 z4 z5 hzs x0 x1 x2 x3 x4 x5 hxs hx HS HA cA
      obtain ⟨z0, z1, z2, z3, z4, z5, hzs⟩ := row6 hz
      go_wp2_with (at_builtin; refine wpList_append_el rfl _ _ rfl _ _ _ rfl (ho.out.calm ((Calm.refl _).alloc _)) _ _ p o f m g s _ rfl (heap_new _ _) (by omega) (by simp; exact Nat.le_succ_of_le hur.size) ?_; intro v' w9 ho9 hc9)
      rw [← HS'.out] at ho9
      have HO9 := Lib.hid ho9
      have hur9 := hc9 _ (Nat.le_refl _) (hur.alloc _)
      clear ho9 hc9 HS'
      go_roundw
      case rel => exact ⟨k + 1, by omega, by go_num, by rw [HA'.out], hur9, HO9⟩
      case measure => simp [intOf]; omega
    cases aa
    · have HS' : Hid (sortUp ⟨p', o', f', m', g', s'⟩ l (k + 1) = sortUp ⟨p', o', f', m', g', s'⟩ l k ++ [⟨p, o, f, m, g, s⟩]) := HS.out
      have HA' : Hid ((l.take (k + 1)).any (beyond ⟨p', o', f', m', g', s'⟩) = false) := HA.out
      refine wp_region_plan [.val (.bool false), .val (.bool true), .val (.bool true), .val (.agg #[.int .i64 p', .int .i64 o', .int .i64 f', .int .i64 m', .int .i64 g', .string s']), .val (.agg #[.int .i64 p', .int .i64 o', .int .i64 f', .int .i64 m']), .val (.agg #[.int .i64 p, .int .i64 o, .int .i64 f, .int .i64 m, .int .i64 g, .string s]), .val (.agg #[.int .i64 p, .int .i64 o, .int .i64 f, .int .i64 m]), .val (.bool false), .val (.bool false)] (by kernel_rfl) (by kernel_rfl) (by kernel_rfl) ?_
      intro X
      iterate 9
        refine plan_val (by kernel_rfl) (fun u hu => ?_) ?_
        · obtain ⟨hc, hf, hz⟩ := hu.of_drew.facts
          go_simp
          all_goals first
            | (go_at_call 33; exact refSpot_any _ _ _ _ _ _ _)
            | (go_at_call 32; exact cA _ _)
        simp only [Act.put, List.setIfInBounds_toArray, List.set_cons_zero, List.set_cons_succ, Nat.reduceAdd]
      refine plan_end ?_
      intro w' hB
      have hk := hB.calm.of_drew
      clear hB
      replace ho := Lib.hid (ho.out.calm hk)
      replace hz := (hk.block hzs).trans hz
      replace hur := hur.call hk
      clear z0 z1 z2 z3 z4 z5 hzs x0 x1 x2 x3 x4 x5 hxs hx HS HA cA
      obtain ⟨z0, z1, z2, z3, z4, z5, hzs⟩ := row6 hz
      go_wp2_with (at_builtin; refine wpList_append_el rfl _ _ rfl _ _ _ rfl (ho.out.calm ((Calm.refl _).alloc _)) _ _ p o f m g s _ rfl (heap_new _ _) (by omega) (by simp; exact Nat.le_succ_of_le hur.size) ?_; intro v' w9 ho9 hc9)
      rw [← HS'.out] at ho9
      have HO9 := Lib.hid ho9
      have hur9 := hc9 _ (Nat.le_refl _) (hur.alloc _)
      clear ho9 hc9 HS'
      go_roundw
      case rel => exact ⟨k + 1, by omega, by go_num, by rw [HA'.out], hur9, HO9⟩
      case measure => simp [intOf]; omega
    · have HS' : Hid (sortUp ⟨p', o', f', m', g', s'⟩ l (k + 1) = sortUp ⟨p', o', f', m', g', s'⟩ l k ++ [⟨p', o', f', m', g', s'⟩] ++ [⟨p, o, f, m, g, s⟩]) := HS.out
      have HA' : Hid ((l.take (k + 1)).any (beyond ⟨p', o', f', m', g', s'⟩) = true) := HA.out
      refine wp_region_plan [.val (.bool false), .val (.bool true), .val (.bool true), .val (.agg #[.int .i64 p', .int .i64 o', .int .i64 f', .int .i64 m', .int .i64 g', .string s']), .val (.agg #[.int .i64 p', .int .i64 o', .int .i64 f', .int .i64 m']), .val (.agg #[.int .i64 p, .int .i64 o, .int .i64 f, .int .i64 m, .int .i64 g, .string s]), .val (.agg #[.int .i64 p, .int .i64 o, .int .i64 f, .int .i64 m]), .val (.bool true), .val (.bool true)] (by kernel_rfl) (by kernel_rfl) (by kernel_rfl) ?_
      intro X
      iterate 9
        refine plan_val (by kernel_rfl) (fun u hu => ?_) ?_
        · obtain ⟨hc, hf, hz⟩ := hu.of_drew.facts
          go_simp
          all_goals first
            | (go_at_call 33; exact refSpot_any _ _ _ _ _ _ _)
            | (go_at_call 32; exact cA _ _)
        simp only [Act.put, List.setIfInBounds_toArray, List.set_cons_zero, List.set_cons_succ, Nat.reduceAdd]
      refine plan_end ?_
      intro w' hB
      have hk := hB.calm.of_drew
      clear hB
      replace ho := Lib.hid (ho.out.calm hk)
      replace hz := (hk.block hzs).trans hz
      replace hx := (hk.block hxs).trans hx
      replace hur := hur.call hk
      clear z0 z1 z2 z3 z4 z5 hzs x0 x1 x2 x3 x4 x5 hxs HS HA cA
      obtain ⟨z0, z1, z2, z3, z4, z5, hzs⟩ := row6 hz
      obtain ⟨x0, x1, x2, x3, x4, x5, hxs⟩ := row6 hx
      have hlen2 : (sortUp ⟨p', o', f', m', g', s'⟩ l k ++ ([⟨p', o', f', m', g', s'⟩] : List El)).length ≤ 1000000 := by rw [List.length_append]; simp; omega
      go_wp2_with (first
        | (at_builtin; refine wpList_append_el2 rfl (.tmp 24) _ rfl _ _ _ rfl (ho.out.calm ((Calm.refl _).alloc _)) _ _ p' o' f' m' g' s' _ rfl (heap_new _ _) (by omega) (by simp; exact Nat.le_succ_of_le hur.size) ?_; intro v' w9 ho9 hc9 hg9; have hz9 := (hg9.block _ (by simp; omega) (fun e => by have := (hne0 _ e.symm).2; omega)).trans (heap_past _ hz); have hur8 := hc9 _ (Nat.le_refl _) (hur.alloc _); clear hc9 hg9 hz x0 x1 x2 x3 x4 x5 hxs hx; obtain ⟨z0, z1, z2, z3, z4, z5, hzs⟩ := row6 hz9)
        | (at_builtin; refine wpList_append_el rfl (.tmp 28) _ rfl _ _ _ rfl (ho9.calm ((Calm.refl _).alloc _)) _ _ p o f m g s _ rfl (heap_new _ _) hlen2 (by simp; exact Nat.le_succ_of_le hur8.size) ?_; intro v' w10 ho10 hc10))
      rw [← HS'.out] at ho10
      have HO9 := Lib.hid ho10
      have hur9 := hc10 _ (Nat.le_refl _) (hur8.alloc _)
      clear ho10 hc10 HS' ho9
      go_roundw
      case rel => exact ⟨k + 1, by omega, by go_num, by rw [HA'.out], hur9, HO9⟩
      case measure => simp [intOf]; omega
end Go.Proofs.Ythfjanmihfbjoaa
