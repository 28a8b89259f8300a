/- Texts of one kind in one file. -/
import Derived.BigQuiet
import Derived.Lib.Hide
import Derived.IntWalk
import Derived.Deep.RegionWith
import Derived.Test.YthfjanmihfbjoaaPkChangeJoins1
set_option maxRecDepth 100000
namespace Go.Proofs.Ythfjanmihfbjoaa
open Go.ChangeShapes Go.WideShapes Go.ChangeAt Go.RowKit
def slLen : Value → Nat
 | .slice _ n _ => n
 |_ => 0
/-- The first change of a row, and the rest of the row. -/
theorem chg_cons {w : World} {A : Option Addr} {l : List Chg} (h : LiesC w A l) (hk : 0 < l.length) : ∃ (b q : Nat) (p o f : Int) (hd hs : Bool) (ws vs : ByteArray) (T : List Chg), A = some ⟨b, q, none⟩ ∧ b < w.heap.size ∧ Hid (l = ⟨p, o, f, hd, hs, ws, vs⟩ :: T) ∧ Hid (LiesC w (some ⟨b, q + 7, none⟩) T) ∧
    w.cell? ⟨b, q, none⟩ = some (.int .i64 p) ∧ w.cell? ⟨b, q + 1, none⟩ = some (.int .i64 o) ∧ w.cell? ⟨b, q + 2, none⟩ = some (.int .i64 f) ∧ w.cell? ⟨b, q + 3, none⟩ = some (.bool hd) ∧ w.cell? ⟨b, q + 4, none⟩ = some (.bool hs) ∧ w.cell? ⟨b, q + 5, none⟩ = some (.string ws) ∧ w.cell? ⟨b, q + 6, none⟩ = some (.string vs) := by
  obtain ⟨b, q, p, o, f, hd, hs, ws, vs, rfl, hb, HE, c0, c1, c2, c3, c4, c5, c6⟩ := chg_get h hk
  simp only [Nat.zero_mul, Nat.add_zero] at c0 c1 c2 c3 c4 c5 c6
  cases l with
  | nil => simp at hk
  | cons x T =>
    have hx : x = ⟨p, o, f, hd, hs, ws, vs⟩ := by have := HE.out; simpa using this
    subst hx
    refine ⟨b, q, p, o, f, hd, hs, ws, vs, T, rfl, hb, rfl, show LiesC _ _ _ from fun hT => ⟨b, q + 7, rfl, hb, fun k y hy j hj => ?_⟩, c0, c1, c2, c3, c4, c5, c6⟩
    obtain ⟨b2, q2, hA, _, hc⟩ := h hk
    injection hA with hA
    injection hA with e1 e2
    subst e1; subst e2
    have := hc (k + 1) y (by simpa using hy) j hj
    rw [← this]
    congr 2
    omega
theorem liesC_nil {w : World} {A : Option Addr} {l : List Chg} (h : ¬ 0 < l.length) : LiesC w A l := fun h2 => absurd h2 h
def coErr (a b : List Chg) : Int := match comp a b with | some _ => 0 | none => 1
def coL (a b : List Chg) : List Chg := (comp a b).getD []
set_option maxHeartbeats 16000000 in
theorem compose_any (A B : Option Addr) (c d : Nat) (a b : List Chg) (w : World) (hc : a.length ≤ c) (hd0 : b.length ≤ d) (hn : a.length + b.length ≤ 1000) (hA : LiesC w A a) (hB : LiesC w B b) :
    Calls Try.prog 29 #[.slice A a.length c, .slice B b.length d] w (CgEnd2 (coL a b) (coErr a b) w) := by
  generalize hL : coL a b = L
  generalize hE : coErr a b = E
  have HLE : Hid (coL a b = L ∧ coErr a b = E) := ⟨hL, hE⟩
  clear hL hE
  have HC := Lib.hid hc
  have HD := Lib.hid hd0
  have HNN := Lib.hid hn
  have HA := Lib.hid hA
  have HB := Lib.hid hB
  clear hA hB hc hd0 hn
  go_enter Try.func29, Try.ntmps29
  go_wp2_with fail
  go_loopw [6, 0, 1] (fun v va vb wr => ∃ (a' b' M : List Chg) (A1 B1 : Option Addr) (c1 d1 : Nat), va = .slice A1 a'.length c1 ∧ vb = .slice B1 b'.length d1 ∧ Calm w wr ∧ Hid (LiesC w A1 a') ∧ Hid (LiesC w B1 b') ∧ Hid (a'.length ≤ c1 ∧ b'.length ≤ d1 ∧ M.length + a'.length + b'.length ≤ 1000) ∧ Hid (comp a b = (comp a' b').map (M ++ ·)) ∧ Hid (OwnC w.heap.size wr v M)) (fun _ va vb _ => slLen va + slLen vb)
  case atStart => exact ⟨a, b, [], A, B, c, d, rfl, rfl, Calm.refl _, HA, HB, show _ ∧ _ from ⟨HC.out, HD.out, by have := HNN.out; simp only [List.length_nil]; omega⟩, show _ = _ from by simp, show OwnG _ _ _ _ _ _ _ from OwnG.nil _ _ _ _ _⟩
  case round =>
    obtain ⟨a', b', M, A1, B1, c1, d1, rfl, rfl, hv, HA1, HB1, HN, HK, HT⟩ := hrel
    clear HA HB HC HD HNN
    obtain ⟨n1, n3, n5⟩ := HN.out
    clear HN
    obtain ⟨AM, cM, rfl, -, -, -⟩ := chg_own HT.out
    have n5 := Lib.hid n5
    by_cases hla : 0 < a'.length
    rotate_left
    · have HR : Hid (L = M ++ a' ++ b' ∧ E = 0) := by
        have h1 := HK.out
        have h2 : comp a' b' = some (a' ++ b') := by
          rw [List.eq_nil_of_length_eq_zero (by omega : a'.length = 0), comp_nil]; rfl
        rw [h2] at h1
        obtain ⟨e1, e2⟩ := HLE.out
        unfold coL at e1
        unfold coErr at e2
        rw [h1] at e1 e2
        exact ⟨e1.symm.trans (List.append_assoc ..).symm, e2.symm⟩
      have cC := fun u (hu : Calm w u) (ho : LiesC u AM M) (H t : Nat) hx => concat3C_any H AM A1 B1 cM c1 d1 M a' b' u n5.out ho (HA1.out.calm hu) (HB1.out.calm hu) t hx
      have hM0 := Lib.hid (show LiesC wr AM M from (HT.out.at_ chgV_len).2)
      obtain ⟨rfl, rfl⟩ := HR.out
      clear HLE HK n5 HR
      have hv2 := hv.alloc (.cells #[.slice AM M.length cM, .slice A1 a'.length c1, .slice B1 b'.length d1] 23 (0, 0))
      have hM1 := Lib.hid (hM0.out.calm ((Calm.refl wr).alloc (.cells #[.slice AM M.length cM, .slice A1 a'.length c1, .slice B1 b'.length d1] 23 (0, 0))))
      go_wp2_with (go_at_call 40; refine (cC _ hv2 hM1.out _ _ (heap_new _ _)).mono ?_; rintro e w9 ⟨v9, rfl, ho9, hb9⟩; have HO9 := Lib.hid (OwnG.weaken ho9 hv2.size); have hu9 := hv2.call hb9; clear ho9 hb9)
      go_ret2
      exact ⟨_, rfl, HO9.out, hu9⟩
    by_cases hlb : 0 < b'.length
    rotate_left
    · have HR : Hid (L = M ++ a' ++ b' ∧ E = 0) := by
        have h1 := HK.out
        have h2 : comp a' b' = some (a' ++ b') := by
          rw [List.eq_nil_of_length_eq_zero (by omega : b'.length = 0), comp_nil', List.append_nil]
        rw [h2] at h1
        obtain ⟨e1, e2⟩ := HLE.out
        unfold coL at e1
        unfold coErr at e2
        rw [h1] at e1 e2
        exact ⟨e1.symm.trans (List.append_assoc ..).symm, e2.symm⟩
      have cC := fun u (hu : Calm w u) (ho : LiesC u AM M) (H t : Nat) hx => concat3C_any H AM A1 B1 cM c1 d1 M a' b' u n5.out ho (HA1.out.calm hu) (HB1.out.calm hu) t hx
      have hM0 := Lib.hid (show LiesC wr AM M from (HT.out.at_ chgV_len).2)
      obtain ⟨rfl, rfl⟩ := HR.out
      clear HLE HK n5 HR
      have hv2 := hv.alloc (.cells #[.slice AM M.length cM, .slice A1 a'.length c1, .slice B1 b'.length d1] 23 (0, 0))
      have hM1 := Lib.hid (hM0.out.calm ((Calm.refl wr).alloc (.cells #[.slice AM M.length cM, .slice A1 a'.length c1, .slice B1 b'.length d1] 23 (0, 0))))
      go_wp2_with (go_at_call 40; refine (cC _ hv2 hM1.out _ _ (heap_new _ _)).mono ?_; rintro e w9 ⟨v9, rfl, ho9, hb9⟩; have HO9 := Lib.hid (OwnG.weaken ho9 hv2.size); have hu9 := hv2.call hb9; clear ho9 hb9)
      go_ret2
      exact ⟨_, rfl, HO9.out, hu9⟩
    obtain ⟨ba, qa, p, o, f, hd, hs, ws, vs, a1, rfl, hb, HX, HA2, c0, c1', c2, c3, c4, c5, c6⟩ := chg_cons (HA1.out.calm hv) hla
    obtain ⟨bb, qb, p', o', f', hd', hs', ws', vs', b1, rfl, hb', HY, HB2, d0, d1', d2, d3, d4, d5, d6⟩ := chg_cons (HB1.out.calm hv) hlb
    obtain ⟨b9, q9, p9, o9, f9, hd9, hs9, ws9, vs9, a9, e9, -, HX9, HA3, -⟩ := chg_cons HA1.out hla
    obtain rfl : a9 = a1 := by have := HX9.out.symm.trans HX.out; injection this
    have HA4 : Hid (LiesC w (if c1 = 1 then some ⟨ba, qa, none⟩ else some ⟨ba, qa + 7, none⟩) a9) := by
      injection e9 with e9; injection e9 with e1 e2; subst e1; subst e2
      show LiesC _ _ _
      split
      · refine liesC_nil ?_; have := congrArg List.length HX.out; simp only [List.length_cons] at this; omega
      · exact HA3.out
    clear HA3 HX9 e9 HA2
    obtain ⟨b8, q8, p8, o8, f8, hd8, hs8, ws8, vs8, a8, e9, -, HX9, HA3, -⟩ := chg_cons HB1.out hlb
    obtain rfl : a8 = b1 := by have := HX9.out.symm.trans HY.out; injection this
    have HB4 : Hid (LiesC w (if d1 = 1 then some ⟨bb, qb, none⟩ else some ⟨bb, qb + 7, none⟩) a8) := by
      injection e9 with e9; injection e9 with e1 e2; subst e1; subst e2
      show LiesC _ _ _
      split
      · refine liesC_nil ?_; have := congrArg List.length HY.out; simp only [List.length_cons] at this; omega
      · exact HA3.out
    clear HA3 HX9 e9 HB2
    have la : Hid (a'.length = a9.length + 1) := by show _ = _; rw [HX.out]; rfl
    have lb : Hid (b'.length = a8.length + 1) := by show _ = _; rw [HY.out]; rfl
    have hl1 : Hid ((M.length + 1) * 64 ≤ 140737488355328) := show _ ≤ _ from by have := n5.out; omega
    go_wp2_with fail
    refine wp_region_plan [.val (.slice (some ⟨ba, qa, none⟩) a'.length c1), .val (.pointer (some ⟨ba, qa, none⟩)), .val (.agg #[.int .i64 p, .int .i64 o, .int .i64 f, .bool hd, .bool hs, .string ws, .string vs]), .val (.slice (some ⟨bb, qb, none⟩) b'.length d1), .val (.pointer (some ⟨bb, qb, none⟩)), .val (.agg #[.int .i64 p', .int .i64 o', .int .i64 f', .bool hd', .bool hs', .string ws', .string vs']), .new #[.int .i64 0, .int .i64 0, .int .i64 0, .bool false, .bool false, .string { data := #[] }, .string { data := #[] }] 33, .new #[.int .i64 0, .int .i64 0, .int .i64 0, .bool false, .bool false, .string { data := #[] }, .string { data := #[] }] 33, .fill 6 #[.int .i64 p, .int .i64 o, .int .i64 f, .bool hd, .bool hs, .string ws, .string vs], .fill 7 #[.int .i64 p', .int .i64 o', .int .i64 f', .bool hd', .bool hs', .string ws', .string vs']] (by kernel_rfl) (by kernel_rfl) (by kernel_rfl) ?_
    intro X
    iterate 6
      refine plan_val (by kernel_rfl) (fun u hu => ?_) ?_
      · obtain ⟨hc, hf, hz⟩ := hu.of_drew.facts
        go_simp
      simp only [Act.put, List.setIfInBounds_toArray, List.set_cons_zero, List.set_cons_succ, Nat.reduceAdd]
    refine plan_new (by kernel_rfl) (fun u => ?_) ?_
    · go_simp
    simp only [Act.put, List.setIfInBounds_toArray, List.set_cons_zero, List.set_cons_succ, Nat.reduceAdd]
    refine plan_new (by kernel_rfl) (fun u => ?_) ?_
    · go_simp
    simp only [Act.put, List.setIfInBounds_toArray, List.set_cons_zero, List.set_cons_succ, Nat.reduceAdd]
    refine plan_fill_row rfl rfl rfl (by kernel_rfl) rfl rfl rfl (by kernel_rfl) rfl (by simp [Value.oneCell']) ?_
    simp only [Act.put]
    refine plan_fill_row rfl rfl rfl (by kernel_rfl) rfl rfl rfl (by kernel_rfl) rfl (by simp [Value.oneCell']) ?_
    simp only [Act.put]
    refine plan_end ?_
    intro w' hB
    have hk := hB.calm.of_drew
    have hx := (hB.row 6 _ _ rfl).2
    have hy := (hB.row 7 _ _ rfl).2
    have HT2 := Lib.hid (HT.out.calm hk)
    have hv2 := hv.call hk
    clear hB HT c0 c1' c2 c3 c4 c5 c6 d0 d1' d2 d3 d4 d5 d6 hb hb'
    generalize X 6 = g1 at hx ⊢
    generalize X 7 = g2 at hy ⊢
    clear hv hk
    have hgs1 := (row7 hx).2.2.2.2.2.2.2
    have hgs2 := (row7 hy).2.2.2.2.2.2.2
    obtain ⟨x0, x1, x2, x3, x4, x5, x6, -⟩ := row7 hx
    obtain ⟨y0, y1, y2, y3, y4, y5, y6, -⟩ := row7 hy
    have HHX := Lib.hid hx
    have HHY := Lib.hid hy
    clear hx hy
    have cKm := fun u => cmp_any p o f p' o' f' u
    by_cases h1 : kLt (p, o, f) (p', o', f')
    · rw [show kcmp p o f p' o' f' = -1 from kcmp_kLt.2 h1] at cKm
      have HK2 : Hid (comp a b = (comp a9 b').map ((M ++ [⟨p, o, f, hd, hs, ws, vs⟩]) ++ ·)) := by
        show _ = _
        rw [HK.out, HX.out, HY.out, comp, if_pos (show kLt (Chg.key ⟨p, o, f, hd, hs, ws, vs⟩) (Chg.key ⟨p', o', f', hd', hs', ws', vs'⟩) from h1), Option.map_map]
        congr 1
        funext z; simp
      clear h1 HK HX
      go_wp2_with (first
        | (go_at_call 38; refine (cKm _).mono ?_; rintro e w4 ⟨rfl, hb4⟩; obtain ⟨x0, x1, x2, x3, x4, x5, x6, -⟩ := row7 ((hb4.block hgs1).trans HHX.out); replace HT2 := Lib.hid ((HT2.out.calm hb4).calm ((Calm.refl _).alloc (.cells #[.int .i64 p, .int .i64 o, .int .i64 f, .bool hd, .bool hs, .string ws, .string vs] 33 (0, 0)))); replace hv2 := (hv2.call hb4).alloc (.cells #[.int .i64 p, .int .i64 o, .int .i64 f, .bool hd, .bool hs, .string ws, .string vs] 33 (0, 0)); clear hb4 HHX HHY hgs1 hgs2)
        | (at_builtin; refine wpList_append_chg rfl _ _ rfl w.heap.size _ _ rfl HT2.out _ _ ⟨p, o, f, hd, hs, ws, vs⟩ _ rfl (heap_new _ _) hl1.out hv2.size ?_; intro v' w9 ho9 hk9; have HT9 := Lib.hid ho9; have hv9 := hk9 w (Nat.le_refl _) hv2; clear ho9 hk9))
      have hlen : a'.length - 1 = a9.length := by rw [la.out]; rfl
      go_roundw
      case rel => exact ⟨a9, b', _, _, _, c1 - 1, d1, by rw [← hlen], rfl, hv9, HA4, HB1, show _ ∧ _ from ⟨by have := la.out; omega, n3, by have := la.out; have := n5.out; simp only [List.length_append, List.length_cons, List.length_nil]; omega⟩, HK2, HT9⟩
      case measure => simp only [slLen]; omega
    by_cases h2 : kLt (p', o', f') (p, o, f)
    · rw [show kcmp p o f p' o' f' = 1 from kcmp_kGt.2 h2] at cKm
      have HK2 : Hid (comp a b = (comp a' a8).map ((M ++ [⟨p', o', f', hd', hs', ws', vs'⟩]) ++ ·)) := by
        show _ = _
        rw [HK.out, HX.out, HY.out, comp, if_neg (show ¬ kLt (Chg.key ⟨p, o, f, hd, hs, ws, vs⟩) (Chg.key ⟨p', o', f', hd', hs', ws', vs'⟩) from h1), if_pos (show kLt (Chg.key ⟨p', o', f', hd', hs', ws', vs'⟩) (Chg.key ⟨p, o, f, hd, hs, ws, vs⟩) from h2), Option.map_map]
        congr 1
        funext z; simp
      clear h1 h2 HK HY
      go_wp2_with (first
        | (go_at_call 38; refine (cKm _).mono ?_; rintro e w4 ⟨rfl, hb4⟩; obtain ⟨y0, y1, y2, y3, y4, y5, y6, -⟩ := row7 ((hb4.block hgs2).trans HHY.out); replace HT2 := Lib.hid ((HT2.out.calm hb4).calm ((Calm.refl _).alloc (.cells #[.int .i64 p', .int .i64 o', .int .i64 f', .bool hd', .bool hs', .string ws', .string vs'] 33 (0, 0)))); replace hv2 := (hv2.call hb4).alloc (.cells #[.int .i64 p', .int .i64 o', .int .i64 f', .bool hd', .bool hs', .string ws', .string vs'] 33 (0, 0)); clear hb4 HHX HHY hgs1 hgs2)
        | (at_builtin; refine wpList_append_chg rfl _ _ rfl w.heap.size _ _ rfl HT2.out _ _ ⟨p', o', f', hd', hs', ws', vs'⟩ _ rfl (heap_new _ _) hl1.out hv2.size ?_; intro v' w9 ho9 hk9; have HT9 := Lib.hid ho9; have hv9 := hk9 w (Nat.le_refl _) hv2; clear ho9 hk9))
      have hlen : b'.length - 1 = a8.length := by rw [lb.out]; rfl
      go_roundw
      case rel => exact ⟨a', a8, _, _, _, c1, d1 - 1, rfl, by rw [← hlen], hv9, HA1, HB4, show _ ∧ _ from ⟨n1, by have := lb.out; omega, by have := lb.out; have := n5.out; simp only [List.length_append, List.length_cons, List.length_nil]; omega⟩, HK2, HT9⟩
      case measure => simp only [slLen]; omega
    obtain ⟨rfl, rfl, rfl⟩ : p = p' ∧ o = o' ∧ f = f' := by
      rcases kLt_tri (p, o, f) (p', o', f') with h | h | h
      · exact absurd h h1
      · simpa using h
      · exact absurd h h2
    rw [show kcmp p o f p o f = 0 from kcmp_eq.2 ⟨rfl, rfl, rfl⟩] at cKm
    have hKr := HK.out
    rw [HX.out, HY.out, comp, if_neg (show ¬ kLt (Chg.key ⟨p, o, f, hd, hs, ws, vs⟩) (Chg.key ⟨p, o, f, hd', hs', ws', vs'⟩) from h1), if_neg (show ¬ kLt (Chg.key ⟨p, o, f, hd', hs', ws', vs'⟩) (Chg.key ⟨p, o, f, hd, hs, ws, vs⟩) from h2)] at hKr
    clear h1 h2 HK
    have cA := fun u => chAfter_any p o f hd hs ws vs u
    have cB := fun u => chBefore_any p o f hd' hs' ws' vs' u
    have cA' := fun u => chAfter_any p o f hd' hs' ws' vs' u
    have cB' := fun u => chBefore_any p o f hd hs ws vs u
    by_cases e1 : St.mk hs vs = St.mk hd' ws'
    rotate_left
    · have HR : Hid ([] = L ∧ 1 = E) := by
        rw [if_pos (show Chg.aft ⟨p, o, f, hd, hs, ws, vs⟩ ≠ Chg.bef ⟨p, o, f, hd', hs', ws', vs'⟩ from e1)] at hKr
        obtain ⟨q1, q2⟩ := HLE.out
        unfold coL at q1
        unfold coErr at q2
        rw [hKr] at q1 q2
        exact ⟨q1, q2⟩
      clear hKr HLE HX HY
      have e2 : (hs == hd') = false ∨ hs = hd' ∧ (vs.toList == ws'.toList) = false := by
        by_cases q : hs = hd'
        · exact .inr ⟨q, str_ne fun h => e1 (St.ext_iff'.2 ⟨q, h⟩)⟩
        · exact .inl (by simpa using q)
      clear e1
      rcases e2 with e2 | ⟨rfl, e2⟩
      · go_upto_region 14 with (go_at_call 38; refine (cKm _).mono ?_; rintro e w4 ⟨rfl, hb4⟩; obtain ⟨x0, x1, x2, x3, x4, x5, x6, -⟩ := row7 ((hb4.block hgs1).trans HHX.out); obtain ⟨y0, y1, y2, y3, y4, y5, y6, -⟩ := row7 ((hb4.block hgs2).trans HHY.out); replace hgs1 := Nat.lt_of_lt_of_le hgs1 hb4.size; replace hgs2 := Nat.lt_of_lt_of_le hgs2 hb4.size; replace HHX := Lib.hid ((hb4.block (row7 HHX.out).2.2.2.2.2.2.2).trans HHX.out); replace HHY := Lib.hid ((hb4.block (row7 HHY.out).2.2.2.2.2.2.2).trans HHY.out); replace HT2 := Lib.hid (HT2.out.calm hb4); replace hv2 := hv2.call hb4; clear hb4)
        refine wp_region_plan [.val (.agg #[.int .i64 p, .int .i64 o, .int .i64 f, .bool hd, .bool hs, .string ws, .string vs]), .val (.agg #[.bool hs, .string vs]), .val (.agg #[.int .i64 p, .int .i64 o, .int .i64 f, .bool hd', .bool hs', .string ws', .string vs']), .val (.agg #[.bool hd', .string ws']), .val (.bool true), .val (.bool true)] (by kernel_rfl) (by kernel_rfl) (by kernel_rfl) ?_
        intro X
        iterate 6
          refine plan_val (by kernel_rfl) (fun u hu => ?_) ?_
          · obtain ⟨hc, hf, hz⟩ := hu.of_drew.facts
            go_simp
            all_goals first
              | (go_at_call 61; exact cA _)
              | (go_at_call 48; exact cB _)
          simp only [Act.put, List.setIfInBounds_toArray, List.set_cons_zero, List.set_cons_succ, Nat.reduceAdd]
        refine plan_end ?_
        intro w' hB
        have hk := hB.calm.of_drew
        clear hB
        go_wp2_with fail
        go_ret2
        obtain ⟨rfl, rfl⟩ := HR.out
        exact ⟨_, rfl, OwnG.nil _ _ _ _ _, hv2.call hk⟩
      · go_upto_region 14 with (go_at_call 38; refine (cKm _).mono ?_; rintro e w4 ⟨rfl, hb4⟩; obtain ⟨x0, x1, x2, x3, x4, x5, x6, -⟩ := row7 ((hb4.block hgs1).trans HHX.out); obtain ⟨y0, y1, y2, y3, y4, y5, y6, -⟩ := row7 ((hb4.block hgs2).trans HHY.out); replace hgs1 := Nat.lt_of_lt_of_le hgs1 hb4.size; replace hgs2 := Nat.lt_of_lt_of_le hgs2 hb4.size; replace HHX := Lib.hid ((hb4.block (row7 HHX.out).2.2.2.2.2.2.2).trans HHX.out); replace HHY := Lib.hid ((hb4.block (row7 HHY.out).2.2.2.2.2.2.2).trans HHY.out); replace HT2 := Lib.hid (HT2.out.calm hb4); replace hv2 := hv2.call hb4; clear hb4)
        refine wp_region_plan [.val (.agg #[.int .i64 p, .int .i64 o, .int .i64 f, .bool hd, .bool hs, .string ws, .string vs]), .val (.agg #[.bool hs, .string vs]), .val (.agg #[.int .i64 p, .int .i64 o, .int .i64 f, .bool hs, .bool hs', .string ws', .string vs']), .val (.agg #[.bool hs, .string ws']), .val (.bool true), .val (.bool true)] (by kernel_rfl) (by kernel_rfl) (by kernel_rfl) ?_
        intro X
        iterate 6
          refine plan_val (by kernel_rfl) (fun u hu => ?_) ?_
          · obtain ⟨hc, hf, hz⟩ := hu.of_drew.facts
            go_simp
            all_goals first
              | (go_at_call 61; exact cA _)
              | (go_at_call 48; exact cB _)
          simp only [Act.put, List.setIfInBounds_toArray, List.set_cons_zero, List.set_cons_succ, Nat.reduceAdd]
        refine plan_end ?_
        intro w' hB
        have hk := hB.calm.of_drew
        clear hB
        go_wp2_with fail
        go_ret2
        obtain ⟨rfl, rfl⟩ := HR.out
        exact ⟨_, rfl, OwnG.nil _ _ _ _ _, hv2.call hk⟩
    obtain ⟨rfl, rfl⟩ := St.ext_iff'.1 e1
    have e1' : ¬ (Chg.aft ⟨p, o, f, hd, hs, ws, vs⟩ ≠ Chg.bef ⟨p, o, f, hs, hs', vs, vs'⟩) := fun h => h rfl
    rw [if_neg e1'] at hKr
    clear e1 e1'
    simp only at cA cA' cB cB'
    by_cases e3 : St.mk hd ws = St.mk hs' vs'
    · have HK2 : Hid (comp a b = (comp a9 a8).map (M ++ ·)) := by
        rw [if_neg (show ¬ Chg.bef ⟨p, o, f, hd, hs, ws, vs⟩ ≠ Chg.aft ⟨p, o, f, hs, hs', vs, vs'⟩ from fun h => h e3)] at hKr
        exact hKr
      obtain ⟨rfl, rfl⟩ := St.ext_iff'.1 e3
      clear hKr e3 HX HY
      simp only at cA cA' cB cB'
      go_upto_region 14 with (go_at_call 38; refine (cKm _).mono ?_; rintro e w4 ⟨rfl, hb4⟩; obtain ⟨x0, x1, x2, x3, x4, x5, x6, -⟩ := row7 ((hb4.block hgs1).trans HHX.out); obtain ⟨y0, y1, y2, y3, y4, y5, y6, -⟩ := row7 ((hb4.block hgs2).trans HHY.out); replace hgs1 := Nat.lt_of_lt_of_le hgs1 hb4.size; replace hgs2 := Nat.lt_of_lt_of_le hgs2 hb4.size; replace HHX := Lib.hid ((hb4.block (row7 HHX.out).2.2.2.2.2.2.2).trans HHX.out); replace HHY := Lib.hid ((hb4.block (row7 HHY.out).2.2.2.2.2.2.2).trans HHY.out); replace HT2 := Lib.hid (HT2.out.calm hb4); replace hv2 := hv2.call hb4; clear hb4)
      refine wp_region_plan [.val (.agg #[.int .i64 p, .int .i64 o, .int .i64 f, .bool hd, .bool hs, .string ws, .string vs]), .val (.agg #[.bool hs, .string vs]), .val (.agg #[.int .i64 p, .int .i64 o, .int .i64 f, .bool hs, .bool hd, .string vs, .string ws]), .val (.agg #[.bool hs, .string vs]), .val (.bool false), .val (.bool false)] (by kernel_rfl) (by kernel_rfl) (by kernel_rfl) ?_
      intro X
      iterate 6
        refine plan_val (by kernel_rfl) (fun u hu => ?_) ?_
        · obtain ⟨hc, hf, hz⟩ := hu.of_drew.facts
          go_simp
          all_goals first
            | (go_at_call 61; exact cA _)
            | (go_at_call 48; exact cB _)
        simp only [Act.put, List.setIfInBounds_toArray, List.set_cons_zero, List.set_cons_succ, Nat.reduceAdd]
      refine plan_end ?_
      intro w' hB
      have hk := hB.calm.of_drew
      clear hB
      obtain ⟨x0, x1, x2, x3, x4, x5, x6, -⟩ := row7 ((hk.block hgs1).trans HHX.out)
      obtain ⟨y0, y1, y2, y3, y4, y5, y6, -⟩ := row7 ((hk.block hgs2).trans HHY.out)
      replace HHX := Lib.hid ((hk.block hgs1).trans HHX.out)
      replace HHY := Lib.hid ((hk.block hgs2).trans HHY.out)
      replace hgs1 := Nat.lt_of_lt_of_le hgs1 hk.size
      replace hgs2 := Nat.lt_of_lt_of_le hgs2 hk.size
      replace HT2 := Lib.hid (HT2.out.calm hk)
      replace hv2 := hv2.call hk
      clear hk
      go_upto_region 5 with fail
      refine wp_region_plan [.val (.agg #[.int .i64 p, .int .i64 o, .int .i64 f, .bool hd, .bool hs, .string ws, .string vs]), .val (.agg #[.bool hd, .string ws]), .val (.agg #[.int .i64 p, .int .i64 o, .int .i64 f, .bool hs, .bool hd, .string vs, .string ws]), .val (.agg #[.bool hd, .string ws]), .val (.bool false)] (by kernel_rfl) (by kernel_rfl) (by kernel_rfl) ?_
      intro X
      iterate 5
        refine plan_val (by kernel_rfl) (fun u hu => ?_) ?_
        · obtain ⟨hc, hf, hz⟩ := hu.of_drew.facts
          go_simp
          all_goals first
            | (go_at_call 48; exact cB' _)
            | (go_at_call 61; exact cA' _)
        simp only [Act.put, List.setIfInBounds_toArray, List.set_cons_zero, List.set_cons_succ, Nat.reduceAdd]
      refine plan_end ?_
      intro w' hB
      have hk := hB.calm.of_drew
      clear hB
      obtain ⟨x0, x1, x2, x3, x4, x5, x6, -⟩ := row7 ((hk.block hgs1).trans HHX.out)
      obtain ⟨y0, y1, y2, y3, y4, y5, y6, -⟩ := row7 ((hk.block hgs2).trans HHY.out)
      replace HHX := Lib.hid ((hk.block hgs1).trans HHX.out)
      replace HHY := Lib.hid ((hk.block hgs2).trans HHY.out)
      replace hgs1 := Nat.lt_of_lt_of_le hgs1 hk.size
      replace hgs2 := Nat.lt_of_lt_of_le hgs2 hk.size
      replace HT2 := Lib.hid (HT2.out.calm hk)
      replace hv2 := hv2.call hk
      clear hk
      go_upto_region 7 with fail
      go_quiet (fail)
      go_wp2_with fail
      go_roundw
      case rel => exact ⟨a9, a8, _, _, _, c1 - 1, d1 - 1, by rw [show a9.length = a'.length - 1 from by rw [la.out]; rfl], by rw [show a8.length = b'.length - 1 from by rw [lb.out]; rfl], hv2.drewN _, HA4, HB4, show _ ∧ _ from ⟨by have := la.out; omega, by have := lb.out; omega, by have := lb.out; have := la.out; have := n5.out; omega⟩, HK2, show OwnG _ _ _ _ _ _ _ from HT2.out.calm ((Calm.refl _).drewN _)⟩
      case measure => simp only [slLen]; omega
    have cW := fun u => chBetween_any p o f hd hs' ws vs' u
    have HK2 : Hid (comp a b = (comp a9 a8).map ((M ++ [⟨p, o, f, hd, hs', ws, vs'⟩]) ++ ·)) := by
      rw [if_pos (show Chg.bef ⟨p, o, f, hd, hs, ws, vs⟩ ≠ Chg.aft ⟨p, o, f, hs, hs', vs, vs'⟩ from e3), Option.map_map] at hKr
      show _ = _
      rw [hKr]
      congr 1
      funext z; simp [mkC, Chg.key, Chg.bef, Chg.aft]
    have e2 : (hd == hs') = false ∨ hd = hs' ∧ (ws.toList == vs'.toList) = false := by
      by_cases q : hd = hs'
      · exact .inr ⟨q, str_ne fun h => e3 (St.ext_iff'.2 ⟨q, h⟩)⟩
      · exact .inl (by simpa using q)
    clear e3 hKr HX HY
    rcases e2 with e2 | ⟨rfl, e2⟩
    · skip
      go_upto_region 14 with (go_at_call 38; refine (cKm _).mono ?_; rintro e w4 ⟨rfl, hb4⟩; obtain ⟨x0, x1, x2, x3, x4, x5, x6, -⟩ := row7 ((hb4.block hgs1).trans HHX.out); obtain ⟨y0, y1, y2, y3, y4, y5, y6, -⟩ := row7 ((hb4.block hgs2).trans HHY.out); replace hgs1 := Nat.lt_of_lt_of_le hgs1 hb4.size; replace hgs2 := Nat.lt_of_lt_of_le hgs2 hb4.size; replace HHX := Lib.hid ((hb4.block (row7 HHX.out).2.2.2.2.2.2.2).trans HHX.out); replace HHY := Lib.hid ((hb4.block (row7 HHY.out).2.2.2.2.2.2.2).trans HHY.out); replace HT2 := Lib.hid (HT2.out.calm hb4); replace hv2 := hv2.call hb4; clear hb4)
      refine wp_region_plan [.val (.agg #[.int .i64 p, .int .i64 o, .int .i64 f, .bool hd, .bool hs, .string ws, .string vs]), .val (.agg #[.bool hs, .string vs]), .val (.agg #[.int .i64 p, .int .i64 o, .int .i64 f, .bool hs, .bool hs', .string vs, .string vs']), .val (.agg #[.bool hs, .string vs]), .val (.bool false), .val (.bool false)] (by kernel_rfl) (by kernel_rfl) (by kernel_rfl) ?_
      intro X
      iterate 6
        refine plan_val (by kernel_rfl) (fun u hu => ?_) ?_
        · obtain ⟨hc, hf, hz⟩ := hu.of_drew.facts
          go_simp
          all_goals first
            | (go_at_call 61; exact cA _)
            | (go_at_call 48; exact cB _)
        simp only [Act.put, List.setIfInBounds_toArray, List.set_cons_zero, List.set_cons_succ, Nat.reduceAdd]
      refine plan_end ?_
      intro w' hB
      have hk := hB.calm.of_drew
      clear hB
      obtain ⟨x0, x1, x2, x3, x4, x5, x6, -⟩ := row7 ((hk.block hgs1).trans HHX.out)
      obtain ⟨y0, y1, y2, y3, y4, y5, y6, -⟩ := row7 ((hk.block hgs2).trans HHY.out)
      replace HHX := Lib.hid ((hk.block hgs1).trans HHX.out)
      replace HHY := Lib.hid ((hk.block hgs2).trans HHY.out)
      replace hgs1 := Nat.lt_of_lt_of_le hgs1 hk.size
      replace hgs2 := Nat.lt_of_lt_of_le hgs2 hk.size
      replace HT2 := Lib.hid (HT2.out.calm hk)
      replace hv2 := hv2.call hk
      clear hk
      go_upto_region 5 with fail
      refine wp_region_plan [.val (.agg #[.int .i64 p, .int .i64 o, .int .i64 f, .bool hd, .bool hs, .string ws, .string vs]), .val (.agg #[.bool hd, .string ws]), .val (.agg #[.int .i64 p, .int .i64 o, .int .i64 f, .bool hs, .bool hs', .string vs, .string vs']), .val (.agg #[.bool hs', .string vs']), .val (.bool true)] (by kernel_rfl) (by kernel_rfl) (by kernel_rfl) ?_
      intro X
      iterate 5
        refine plan_val (by kernel_rfl) (fun u hu => ?_) ?_
        · obtain ⟨hc, hf, hz⟩ := hu.of_drew.facts
          go_simp
          all_goals first
            | (go_at_call 48; exact cB' _)
            | (go_at_call 61; exact cA' _)
        simp only [Act.put, List.setIfInBounds_toArray, List.set_cons_zero, List.set_cons_succ, Nat.reduceAdd]
      refine plan_end ?_
      intro w' hB
      have hk := hB.calm.of_drew
      clear hB
      obtain ⟨x0, x1, x2, x3, x4, x5, x6, -⟩ := row7 ((hk.block hgs1).trans HHX.out)
      obtain ⟨y0, y1, y2, y3, y4, y5, y6, -⟩ := row7 ((hk.block hgs2).trans HHY.out)
      replace HHX := Lib.hid ((hk.block hgs1).trans HHX.out)
      replace HHY := Lib.hid ((hk.block hgs2).trans HHY.out)
      replace hgs1 := Nat.lt_of_lt_of_le hgs1 hk.size
      replace hgs2 := Nat.lt_of_lt_of_le hgs2 hk.size
      replace HT2 := Lib.hid (HT2.out.calm hk)
      replace hv2 := hv2.call hk
      clear hk
      go_upto_region 6 with fail
      refine wp_region_plan_tail 9 [.val (.slice AM M.length cM), .val (.pointer (some ⟨g1, 0, none⟩)), .val (.agg #[.int .i64 p, .int .i64 o, .int .i64 f]), .val (.agg #[.int .i64 p, .int .i64 o, .int .i64 f, .bool hd, .bool hs, .string ws, .string vs]), .val (.agg #[.bool hd, .string ws]), .val (.agg #[.int .i64 p, .int .i64 o, .int .i64 f, .bool hs, .bool hs', .string vs, .string vs']), .val (.agg #[.bool hs', .string vs']), .val (.agg #[.int .i64 p, .int .i64 o, .int .i64 f, .bool hd, .bool hs', .string ws, .string vs']), .new #[.int .i64 p, .int .i64 o, .int .i64 f, .bool hd, .bool hs', .string ws, .string vs'] 33 (some 1)] (by kernel_rfl) (by kernel_rfl) (by kernel_rfl) (by kernel_rfl) ?_
      intro X
      simp only [List.take_succ_cons, List.take_zero, List.drop_succ_cons, List.drop_zero]
      iterate 8
        refine plan_val (by kernel_rfl) (fun u hu => ?_) ?_
        · obtain ⟨hc, hf, hz⟩ := hu.of_drew.facts
          go_simp
          all_goals first
            | (go_at_call 48; exact cB' _)
            | (go_at_call 61; exact cA' _)
            | (go_at_call 60; exact cW _)
        simp only [Act.put, List.setIfInBounds_toArray, List.set_cons_zero, List.set_cons_succ, Nat.reduceAdd]
      refine plan_lit (by kernel_rfl) (fun u => ?_) ?_
      · go_simp
      simp only [Act.put, List.setIfInBounds_toArray, List.set_cons_zero, List.set_cons_succ, Nat.reduceAdd]
      refine plan_end ?_
      intro w' hB
      have hk := hB.calm.of_drew
      have hr := hB.row 8 _ _ rfl
      replace HT2 := Lib.hid (HT2.out.calm hk)
      replace hv2 := hv2.call hk
      clear hB hk
      have hla' : a'.length - 1 = a9.length := by rw [la.out]; rfl
      have hlb' : b'.length - 1 = a8.length := by rw [lb.out]; rfl
      go_upto_region 7 with (at_builtin; refine wpList_append_chg rfl _ _ rfl w.heap.size _ _ rfl HT2.out _ _ ⟨p, o, f, hd, hs', ws, vs'⟩ _ rfl hr.2 hl1.out hv2.size ?_; intro v' w9 ho9 hk9; have HT9 := Lib.hid ho9; have hv9 := hk9 w (Nat.le_refl _) hv2; clear ho9 hk9)
      clear hla' hlb'
      go_quiet (fail)
      go_wp2_with fail
      go_roundw
      case rel => exact ⟨a9, a8, _, _, _, c1 - 1, d1 - 1, by rw [show a9.length = a'.length - 1 from by rw [la.out]; rfl], by rw [show a8.length = b'.length - 1 from by rw [lb.out]; rfl], hv9.drewN _, HA4, HB4, show _ ∧ _ from ⟨by have := la.out; omega, by have := lb.out; omega, by have := lb.out; have := la.out; have := n5.out; simp only [List.length_append, List.length_cons, List.length_nil]; omega⟩, HK2, show OwnG _ _ _ _ _ _ _ from HT9.out.calm ((Calm.refl _).drewN _)⟩
      case measure => simp only [slLen]; omega
    · skip
      go_upto_region 14 with (go_at_call 38; refine (cKm _).mono ?_; rintro e w4 ⟨rfl, hb4⟩; obtain ⟨x0, x1, x2, x3, x4, x5, x6, -⟩ := row7 ((hb4.block hgs1).trans HHX.out); obtain ⟨y0, y1, y2, y3, y4, y5, y6, -⟩ := row7 ((hb4.block hgs2).trans HHY.out); replace hgs1 := Nat.lt_of_lt_of_le hgs1 hb4.size; replace hgs2 := Nat.lt_of_lt_of_le hgs2 hb4.size; replace HHX := Lib.hid ((hb4.block (row7 HHX.out).2.2.2.2.2.2.2).trans HHX.out); replace HHY := Lib.hid ((hb4.block (row7 HHY.out).2.2.2.2.2.2.2).trans HHY.out); replace HT2 := Lib.hid (HT2.out.calm hb4); replace hv2 := hv2.call hb4; clear hb4)
      refine wp_region_plan [.val (.agg #[.int .i64 p, .int .i64 o, .int .i64 f, .bool hd, .bool hs, .string ws, .string vs]), .val (.agg #[.bool hs, .string vs]), .val (.agg #[.int .i64 p, .int .i64 o, .int .i64 f, .bool hs, .bool hd, .string vs, .string vs']), .val (.agg #[.bool hs, .string vs]), .val (.bool false), .val (.bool false)] (by kernel_rfl) (by kernel_rfl) (by kernel_rfl) ?_
      intro X
      iterate 6
        refine plan_val (by kernel_rfl) (fun u hu => ?_) ?_
        · obtain ⟨hc, hf, hz⟩ := hu.of_drew.facts
          go_simp
          all_goals first
            | (go_at_call 61; exact cA _)
            | (go_at_call 48; exact cB _)
        simp only [Act.put, List.setIfInBounds_toArray, List.set_cons_zero, List.set_cons_succ, Nat.reduceAdd]
      refine plan_end ?_
      intro w' hB
      have hk := hB.calm.of_drew
      clear hB
      obtain ⟨x0, x1, x2, x3, x4, x5, x6, -⟩ := row7 ((hk.block hgs1).trans HHX.out)
      obtain ⟨y0, y1, y2, y3, y4, y5, y6, -⟩ := row7 ((hk.block hgs2).trans HHY.out)
      replace HHX := Lib.hid ((hk.block hgs1).trans HHX.out)
      replace HHY := Lib.hid ((hk.block hgs2).trans HHY.out)
      replace hgs1 := Nat.lt_of_lt_of_le hgs1 hk.size
      replace hgs2 := Nat.lt_of_lt_of_le hgs2 hk.size
      replace HT2 := Lib.hid (HT2.out.calm hk)
      replace hv2 := hv2.call hk
      clear hk
      go_upto_region 5 with fail
      refine wp_region_plan [.val (.agg #[.int .i64 p, .int .i64 o, .int .i64 f, .bool hd, .bool hs, .string ws, .string vs]), .val (.agg #[.bool hd, .string ws]), .val (.agg #[.int .i64 p, .int .i64 o, .int .i64 f, .bool hs, .bool hd, .string vs, .string vs']), .val (.agg #[.bool hd, .string vs']), .val (.bool true)] (by kernel_rfl) (by kernel_rfl) (by kernel_rfl) ?_
      intro X
      iterate 5
        refine plan_val (by kernel_rfl) (fun u hu => ?_) ?_
        · obtain ⟨hc, hf, hz⟩ := hu.of_drew.facts
          go_simp
          all_goals first
            | (go_at_call 48; exact cB' _)
            | (go_at_call 61; exact cA' _)
        simp only [Act.put, List.setIfInBounds_toArray, List.set_cons_zero, List.set_cons_succ, Nat.reduceAdd]
      refine plan_end ?_
      intro w' hB
      have hk := hB.calm.of_drew
      clear hB
      obtain ⟨x0, x1, x2, x3, x4, x5, x6, -⟩ := row7 ((hk.block hgs1).trans HHX.out)
      obtain ⟨y0, y1, y2, y3, y4, y5, y6, -⟩ := row7 ((hk.block hgs2).trans HHY.out)
      replace HHX := Lib.hid ((hk.block hgs1).trans HHX.out)
      replace HHY := Lib.hid ((hk.block hgs2).trans HHY.out)
      replace hgs1 := Nat.lt_of_lt_of_le hgs1 hk.size
      replace hgs2 := Nat.lt_of_lt_of_le hgs2 hk.size
      replace HT2 := Lib.hid (HT2.out.calm hk)
      replace hv2 := hv2.call hk
      clear hk
      go_upto_region 6 with fail
      refine wp_region_plan_tail 9 [.val (.slice AM M.length cM), .val (.pointer (some ⟨g1, 0, none⟩)), .val (.agg #[.int .i64 p, .int .i64 o, .int .i64 f]), .val (.agg #[.int .i64 p, .int .i64 o, .int .i64 f, .bool hd, .bool hs, .string ws, .string vs]), .val (.agg #[.bool hd, .string ws]), .val (.agg #[.int .i64 p, .int .i64 o, .int .i64 f, .bool hs, .bool hd, .string vs, .string vs']), .val (.agg #[.bool hd, .string vs']), .val (.agg #[.int .i64 p, .int .i64 o, .int .i64 f, .bool hd, .bool hd, .string ws, .string vs']), .new #[.int .i64 p, .int .i64 o, .int .i64 f, .bool hd, .bool hd, .string ws, .string vs'] 33 (some 1)] (by kernel_rfl) (by kernel_rfl) (by kernel_rfl) (by kernel_rfl) ?_
      intro X
      simp only [List.take_succ_cons, List.take_zero, List.drop_succ_cons, List.drop_zero]
      iterate 8
        refine plan_val (by kernel_rfl) (fun u hu => ?_) ?_
        · obtain ⟨hc, hf, hz⟩ := hu.of_drew.facts
          go_simp
          all_goals first
            | (go_at_call 48; exact cB' _)
            | (go_at_call 61; exact cA' _)
            | (go_at_call 60; exact cW _)
        simp only [Act.put, List.setIfInBounds_toArray, List.set_cons_zero, List.set_cons_succ, Nat.reduceAdd]
      refine plan_lit (by kernel_rfl) (fun u => ?_) ?_
      · go_simp
      simp only [Act.put, List.setIfInBounds_toArray, List.set_cons_zero, List.set_cons_succ, Nat.reduceAdd]
      refine plan_end ?_
      intro w' hB
      have hk := hB.calm.of_drew
      have hr := hB.row 8 _ _ rfl
      replace HT2 := Lib.hid (HT2.out.calm hk)
      replace hv2 := hv2.call hk
      clear hB hk
      have hla' : a'.length - 1 = a9.length := by rw [la.out]; rfl
      have hlb' : b'.length - 1 = a8.length := by rw [lb.out]; rfl
      go_upto_region 7 with (at_builtin; refine wpList_append_chg rfl _ _ rfl w.heap.size _ _ rfl HT2.out _ _ ⟨p, o, f, hd, hd, ws, vs'⟩ _ rfl hr.2 hl1.out hv2.size ?_; intro v' w9 ho9 hk9; have HT9 := Lib.hid ho9; have hv9 := hk9 w (Nat.le_refl _) hv2; clear ho9 hk9)
      clear hla' hlb'
      go_quiet (fail)
      go_wp2_with fail
      go_roundw
      case rel => exact ⟨a9, a8, _, _, _, c1 - 1, d1 - 1, by rw [show a9.length = a'.length - 1 from by rw [la.out]; rfl], by rw [show a8.length = b'.length - 1 from by rw [lb.out]; rfl], hv9.drewN _, HA4, HB4, show _ ∧ _ from ⟨by have := la.out; omega, by have := lb.out; omega, by have := lb.out; have := la.out; have := n5.out; simp only [List.length_append, List.length_cons, List.length_nil]; omega⟩, HK2, show OwnG _ _ _ _ _ _ _ from HT9.out.calm ((Calm.refl _).drewN _)⟩
      case measure => simp only [slLen]; omega
open Go.ChangeShapes Go.WideShapes Go.ChangeAt Go.RowKit
theorem thErr_none {a b : List Chg} (h1 : chErr a = 0) (h2 : chErr b = 0) (h : comp a b = none) : thErr a b = 1 := by unfold thErr; rw [if_pos h1, if_pos h2, h]
theorem thErr_some {a b c : List Chg} (h1 : chErr a = 0) (h2 : chErr b = 0) (h : comp a b = some c) : thErr a b = if 400 < c.length then 2 else 0 := by unfold thErr; rw [if_pos h1, if_pos h2, h]
set_option maxHeartbeats 8000000 in
theorem chThen_any (A B : Option Addr) (c d : Nat) (a b : List Chg) (w : World) (hc : a.length ≤ c) (hd0 : b.length ≤ d) (hna : a.length ≤ 9223372036854775807) (hnb : b.length ≤ 9223372036854775807) (hA : LiesC w A a) (hB : LiesC w B b) :
    Calls Try.prog 19 #[.slice A a.length c, .slice B b.length d] w (CgEnd2 (thL a b) (thErr a b) w) := by
  have cA := fun u (hu : Calm w u) => chCheck_any A c a u hna (hA.calm hu)
  have cB := fun u (hu : Calm w u) => chCheck_any B d b u hnb (hB.calm hu)
  have hu := Calm.refl w
  unfold thL
  by_cases h1 : chErr a = 0
  rotate_left
  · have e1 : thErr a b = chErr a := by unfold thErr; rw [if_neg h1]
    rw [e1, if_neg h1]
    have b1 : (chErr a != 0) = true := by simpa using h1
    generalize chErr a = E at *
    clear e1 h1 hA hB cB
    go_enter Try.func19, Try.ntmps19
    go_wp2_with (go_at_call 17; (with_reducible refine (cA _ hu).mono ?_); rintro e w1 ⟨rfl, hb⟩; replace hu := hu.call hb; clear hb cA)
    go_ret2
    exact ⟨_, rfl, OwnG.nil _ _ _ _ _, hu⟩
  by_cases h2 : chErr b = 0
  rotate_left
  · have e1 : thErr a b = chErr b := by unfold thErr; rw [if_pos h1, if_neg h2]
    rw [e1, if_neg h2]
    rw [h1] at cA
    have b1 : (chErr b != 0) = true := by simpa using h2
    generalize chErr b = E at *
    clear e1 h1 h2 hA hB
    go_enter Try.func19, Try.ntmps19
    go_wp2_with (first
      | (go_at_call 17; (with_reducible refine (cA _ hu).mono ?_); rintro e w1 ⟨rfl, hb⟩; replace hu := hu.call hb; clear hb cA)
      | (go_at_call 17; (with_reducible refine (cB _ hu).mono ?_); rintro e w1 ⟨rfl, hb⟩; replace hu := hu.call hb; clear hb cB))
    go_ret2
    exact ⟨_, rfl, OwnG.nil _ _ _ _ _, hu⟩
  have hla := (chErr_zero.1 h1).1
  have hlb := (chErr_zero.1 h2).1
  have cO := fun u (hu : Calm w u) => compose_any A B c d a b u hc hd0 (by omega) (hA.calm hu) (hB.calm hu)
  unfold CgEnd2 at cO
  rw [h1] at cA
  rw [h2] at cB
  unfold coL coErr at cO
  clear hA hB hc hd0
  cases hco : comp a b with
  | none =>
    rw [thErr_none h1 h2 hco]
    clear h1 h2
    rw [hco] at cO
    simp only [Option.getD_none] at cO ⊢
    rw [if_neg (by decide)]
    clear hco hla hlb
    go_enter Try.func19, Try.ntmps19
    go_wp2_with (first
      | (go_at_call 17; (with_reducible refine (cA _ hu).mono ?_); rintro e w1 ⟨rfl, hb⟩; replace hu := hu.call hb; clear hb cA)
      | (go_at_call 17; (with_reducible refine (cB _ hu).mono ?_); rintro e w1 ⟨rfl, hb⟩; replace hu := hu.call hb; clear hb cB)
      | (go_at_call 29; (with_reducible refine (cO _ hu).mono ?_); rintro e w3 ⟨v, rfl, ho, hb⟩; replace hu := hu.call hb; clear hb cO ho))
    go_ret2
    exact ⟨_, rfl, OwnG.nil _ _ _ _ _, hu⟩
  | some L =>
    rw [thErr_some h1 h2 hco]
    clear h1 h2
    have hLl := comp_len hco
    rw [hco] at cO
    simp only [Option.getD_some] at cO ⊢
    have hL9 : L.length ≤ 9223372036854775807 := by omega
    clear hco hLl hla hlb
    by_cases h4 : 400 < L.length
    · rw [if_pos h4, if_neg (by decide)]
      go_enter Try.func19, Try.ntmps19
      go_wp2_with (first
        | (go_at_call 17; (with_reducible refine (cA _ hu).mono ?_); rintro e w1 ⟨rfl, hb⟩; replace hu := hu.call hb; clear hb cA)
        | (go_at_call 17; (with_reducible refine (cB _ hu).mono ?_); rintro e w1 ⟨rfl, hb⟩; replace hu := hu.call hb; clear hb cB)
        | (go_at_call 29; (with_reducible refine (cO _ hu).mono ?_); rintro e w3 ⟨v, rfl, ho, hb⟩; obtain ⟨A3, c3, rfl, -, -, -⟩ := chg_own ho; replace hu := hu.call hb; clear hb cO ho))
      go_ret2
      exact ⟨_, rfl, OwnG.nil _ _ _ _ _, hu⟩
    · rw [if_neg h4, if_pos rfl]
      go_enter Try.func19, Try.ntmps19
      go_wp2_with (first
        | (go_at_call 17; (with_reducible refine (cA _ hu).mono ?_); rintro e w1 ⟨rfl, hb⟩; replace hu := hu.call hb; clear hb cA)
        | (go_at_call 17; (with_reducible refine (cB _ hu).mono ?_); rintro e w1 ⟨rfl, hb⟩; replace hu := hu.call hb; clear hb cB)
        | (go_at_call 29; (with_reducible refine (cO _ hu).mono ?_); rintro e w3 ⟨v, rfl, ho, hb⟩; obtain ⟨A3, c3, rfl, -, -, -⟩ := chg_own ho; have HO := Lib.hid (OwnG.weaken ho hu.size); replace hu := hu.call hb; clear hb cO ho))
      go_ret2
      exact ⟨_, rfl, HO.out, hu⟩
open Go.ChangeShapes Go.WideShapes Go.ChangeAt Go.RowKit
set_option maxHeartbeats 8000000 in
theorem equalC_self (A A' : Option Addr) (c c' : Nat) (l : List Chg) (w : World) (hn : l.length ≤ 9223372036854775807) (hL : LiesC w A l) (hL' : LiesC w A' l) :
    Calls Try.prog 14 #[.slice A l.length c, .slice A' l.length c'] w fun e w' => e = .returned (.bool true) ∧ Calm w w' := by
  go_enter Try.func14, Try.ntmps14
  go_wp2_with fail
  go_loopw [13] (fun i wr => ∃ k : Nat, k ≤ l.length ∧ i = .int .i64 k ∧ Calm w wr) (fun i _ => l.length - (intOf i).toNat)
  case atStart => exact ⟨0, Nat.zero_le _, rfl, Calm.refl _⟩
  case round =>
    obtain ⟨k, hk, rfl, hu⟩ := hrel
    by_cases hlt : k < l.length
    rotate_left
    · go_wp2_with fail
      go_ret
      exact ⟨rfl, hu⟩
    obtain ⟨b, q, p, o, f, hd, hs, ws, vs, rfl, hb, HE, c0, c1, c2, c3, c4, c5, c6⟩ := chg_get (hL.calm hu) hlt
    obtain ⟨b', q', p', o', f', hd', hs', ws', vs', rfl, hb', HE', d0, d1, d2, d3, d4, d5, d6⟩ := chg_get (hL'.calm hu) hlt
    have hq : (⟨p, o, f, hd, hs, ws, vs⟩ : Chg) = ⟨p', o', f', hd', hs', ws', vs'⟩ := by
      have := HE.out.symm.trans HE'.out; injection this
    injection hq with e0 e1 e2 e3 e4 e5 e6
    subst e0; subst e1; subst e2; subst e3; subst e4; subst e5; subst e6
    clear hL hL' HE HE'
    go_wp2_with fail
    refine wp_region_plan [.val (.slice (some ⟨b, q, none⟩) l.length c), .val (.int .i64 ((k : Int))), .val (.pointer (some ⟨b, q + k * 7, none⟩)), .val (.agg #[.int .i64 p, .int .i64 o, .int .i64 f, .bool hd, .bool hs, .string ws, .string vs]), .val (.slice (some ⟨b', q', none⟩) l.length c'), .val (.int .i64 ((k : Int))), .val (.pointer (some ⟨b', q' + k * 7, none⟩)), .val (.agg #[.int .i64 p, .int .i64 o, .int .i64 f, .bool hd, .bool hs, .string ws, .string vs]), .val (.bool false)] (by kernel_rfl) (by kernel_rfl) (by kernel_rfl) ?_
    intro X
    iterate 9
      refine plan_val (by kernel_rfl) (fun u hu => ?_) ?_
      · obtain ⟨hc, hf, hz⟩ := hu.of_drew.facts
        go_simp
      simp only [Act.put, List.setIfInBounds_toArray, List.set_cons_zero, List.set_cons_succ, Nat.reduceAdd]
    refine plan_end ?_
    intro w' hB
    have hk := hB.calm.of_drew
    clear hB
    go_wp2_with fail
    go_roundw
    case rel => exact ⟨k + 1, by omega, by go_num, hu.call hk⟩
    case measure => simp [intOf]; omega
section
variable {H : Type} {enc : TypeId × Value → H} {w : World} {base : Nat} {spare : Nat → Bool} {held : Bool}
theorem cellsChg : Try.prog.cellsOf 33 = 7 := by kernel_rfl
theorem cellsBool : Try.prog.cellsOf 4 = 1 := by kernel_rfl
theorem chg_cells {fuel : Nat} {cs : List Value} {x : DataW H × List MemPlace} (h : DataW.trod enc Try.prog w base spare held fuel 33 cs = some x) : ∃ c : Chg, cs = chgV c ∧ True := by
 obtain ⟨y0, y1, y2, y3, y4, n, hd, hl, h0, h1, h2, h3, h4⟩ := trod_struct5 Try.underlying33 h
 obtain ⟨p, o, f, e0, _, _, _⟩ := key_cells h0
 obtain ⟨a, e1, _⟩ := DataW.trod_bool Try.underlying4 h1
 obtain ⟨b, e2, _⟩ := DataW.trod_bool Try.underlying4 h2
 obtain ⟨s, e3, _, _⟩ := DataW.trod_string Try.underlying9 h3
 obtain ⟨v, e4, _, _⟩ := DataW.trod_string Try.underlying9 h4
 simp only [cellsBool, cellsKey, cellsStr, cellsChg] at e0 e1 e2 e3 e4 hl
 match cs, hl with
 | [c0, c1, c2, c3, c4, c5, c6], _ =>
  simp at e0 e1 e2 e3 e4
  obtain ⟨a0, a1, a2⟩ := e0
  exact ⟨⟨p, o, f, a, b, s, v⟩, by rw [a0, a1, a2, e1, e2, e3, e4]; rfl, trivial⟩
variable {r : Reach} {b0 : Nat} {v : Value} {d : DataW H} {ps : List MemPlace}
theorem open_chgs (hv : Value.okWide Try.prog w r b0 23 v) (h : DataW.Trod enc Try.prog w base spare held 23 v d ps) :
    ∃ (A : Option Addr) (c : Nat) (l : List Chg), v = .slice A l.length c ∧ l.length ≤ 9223372036854775807 ∧ l.length ≤ c ∧ LiesC w A l := by
  obtain ⟨A0, len, cap, rfl⟩ := okWide_slice Try.underlying23 hv
  obtain ⟨fuel, hf⟩ := h
  obtain ⟨A, c, l, e1, le1, lc1, -, at1, -⟩ := rows_open (α := Chg) chgV (fun _ => True) 7 Try.underlying23 cellsChg (by omega) (fun fuel cs x hx => chg_cells hx) hf
  have e2 : Value.slice A0 len cap = .slice A l.length c := by simpa [Value.cells] using e1
  rw [e2]
  exact ⟨A, c, l, rfl, le1, lc1, at1⟩
end
theorem chgs_lit {w : World} {g t : Nat} (x : Chg) (h : w.heap[g]? = some (.cells #[.int .i64 x.p, .int .i64 x.o, .int .i64 x.f, .bool x.hd, .bool x.hs, .string x.ws, .string x.vs] t (0, 0))) : LiesC w (some ⟨g, 0, none⟩) [x] := fun _ => by
 refine ⟨g, 0, rfl, (Array.getElem?_eq_some_iff.1 h).1, fun k y hy j hj => ?_⟩
 have hk : k = 0 := by have := (List.getElem?_eq_some_iff.1 hy).1; simp at this; exact this
 subst hk
 simp at hy; subst hy
 rw [cell_of_row w g _ _ t _ h]
 simp [chgV]
open Go.ChangeShapes Go.WideShapes Go.ChangeAt Go.RowKit
def twoC : List El := [⟨0, 0, 0, 1, 3, { data := #[97] }⟩, ⟨0, 0, 0, 3, 0, { data := #[98] }⟩]
theorem two_good : Good twoC := runErr_zero.1 (by kernel_rfl)
def ch03 : Chg := ⟨0, 0, 0, false, true, { data := #[] }, { data := #[98] }⟩
theorem cr0 : creat twoC 0 = [] := by kernel_rfl
theorem cr3 : creat twoC 3 = [ch03] := by kernel_rfl
theorem lies_own {w : World} {v : Value} {base : Nat} {l : List Chg} {n : Nat} (h : OwnC base w v l) (hn : l.length = n) : ∃ A c, v = .slice A n c ∧ Hid (n ≤ c) ∧ Hid (LiesC w A l) := by
 obtain ⟨A, c, hv, h1, _, h2⟩ := chg_own h
 subst hn
 exact ⟨A, c, hv, h1, h2⟩
theorem cBack_good {A : Option Addr} {c : Nat} {l : List Chg} {u : World} {L : List Chg} (h : LiesC u A l) (hG : GoodC l) (hL : revL l = L) : Calls Try.prog 12 #[.slice A l.length c] u (CgEnd2 L 0 u) := by
 have := chBack_any A c l u (by have := hG.1; omega) h
 rw [chErr_zero.2 hG, if_pos rfl, hL] at this
 exact this
theorem bet03 : betL twoC 0 3 = [ch03] := by
 unfold betL; rw [cr0, cr3, show revL [] = [] from rfl, comp_nil]; rfl
def chR3 : Chg := ⟨0, 0, 0, true, false, { data := #[98] }, { data := #[] }⟩
theorem ch03_good : GoodC [ch03] := bet03 ▸ bet_good two_good 0 3
theorem cThen_is {A B : Option Addr} {c d : Nat} {a b L : List Chg} {E : Int} {u : World} (h : LiesC u A a) (h' : LiesC u B b) (hc : a.length ≤ c) (hd : b.length ≤ d) (hna : a.length ≤ 9223372036854775807) (hnb : b.length ≤ 9223372036854775807) (hE : thErr a b = E) (hL : thL a b = L) :
    Calls Try.prog 19 #[.slice A a.length c, .slice B b.length d] u (CgEnd2 L E u) := by
  have := chThen_any A B c d a b u hc hd hna hnb h h'
  rw [hE, hL] at this
  exact this
open Go.ChangeShapes Go.WideShapes Go.ChangeAt Go.RowKit
set_option maxHeartbeats 16000000 in
theorem changeJoins_walk (A : Option Addr) (ca : Nat) (a : List Chg) (B : Option Addr) (cb : Nat) (b : List Chg) (C : Option Addr) (cc : Nat) (c : List Chg) (w : World) (na : a.length ≤ 9223372036854775807) (nb : b.length ≤ 9223372036854775807) (nc : c.length ≤ 9223372036854775807) (ka : a.length ≤ ca) (kb : b.length ≤ cb) (kc : c.length ≤ cc) (hA : LiesC w A a) (hB : LiesC w B b) (hC : LiesC w C c) :
    Calls Try.prog 8 #[.slice A a.length ca, .slice B b.length cb, .slice C c.length cc] w fun e w' => e = .returned (.bool true) ∧ Calm w w' := by
  have hu := Calm.refl w
  have HA := Lib.hid hA
  have HB := Lib.hid hB
  have HC := Lib.hid hC
  clear hA hB hC
  have cE0 : ∀ A c A' c' u, LiesC u A [chR3] → LiesC u A' [chR3] → Calls Try.prog 14 #[.slice A 1 c, .slice A' 1 c'] u fun e w' => e = .returned (.bool true) ∧ Calm u w' := fun A c A' c' u h h' => equalC_self A A' c c' [chR3] u (by simp) h h'
  have cK0 : ∀ A c u, LiesC u A [ch03] → Calls Try.prog 12 #[.slice A 1 c] u (CgEnd2 [chR3] 0 u) := fun A c u h => cBack_good (l := [ch03]) h ch03_good rfl
  obtain ⟨X, hX⟩ : ∃ X, thL a b = X := ⟨_, rfl⟩
  obtain ⟨Y, hY⟩ : ∃ Y, thL b c = Y := ⟨_, rfl⟩
  obtain ⟨E, hE⟩ : ∃ E, thErr a b = E := ⟨_, rfl⟩
  obtain ⟨F, hF⟩ : ∃ F, thErr b c = F := ⟨_, rfl⟩
  have cX := fun u (hu : Calm w u) => cThen_is (c := ca) (d := cb) (HA.out.calm hu) (HB.out.calm hu) ka kb na nb hE hX
  have cY := fun u (hu : Calm w u) => cThen_is (c := cb) (d := cc) (HB.out.calm hu) (HC.out.calm hu) kb kc nb nc hF hY
  by_cases h0 : chErr a = 0
  rotate_left
  · have eE : E = chErr a := by rw [← hE]; unfold thErr; rw [if_neg h0]
    have cK := fun u (hu : Calm w u) => chBack_any A ca a u na (HA.out.calm hu)
    simp only [if_neg h0] at cK
    rw [← eE] at cK h0
    have b1 : (E != 0) = true := by simpa using h0
    have b2 : (E == 0) = false := by simpa using h0
    clear eE hE hX hY hF HA HB HC h0
    go_enter Try.func8, Try.ntmps8
    go_wp2_with (first
      | (go_at_call 12; (with_reducible refine (cK _ hu).mono ?_); rintro e wA3 ⟨v, rfl, ho, hb⟩; obtain ⟨A3, c3, rfl, kH3, H3⟩ := lies_own ho rfl; replace hu := hu.call hb; clear ho hb cK)
      | (go_at_call 19; (with_reducible refine (cX _ hu).mono ?_); rintro e wA6 ⟨v, rfl, ho, hb⟩; obtain ⟨A6, c6, rfl, kH6, H6⟩ := lies_own ho rfl; replace hu := hu.call hb; clear ho hb cX)
      | (go_at_call 19; (with_reducible refine (cY _ hu).mono ?_); rintro e wA7 ⟨v, rfl, ho, hb⟩; obtain ⟨A7, c7, rfl, kH7, H7⟩ := lies_own ho rfl; replace hu := hu.call hb; clear ho hb cY)
      | (go_at_call 12; (refine (cK0 _ _ _ (chgs_lit ch03 (heap_new _ _))).mono ?_); rintro e w2 ⟨v, rfl, ho, hb⟩; obtain ⟨A2, c2, rfl, k2, H2⟩ := lies_own ho rfl; replace hu := (hu.alloc (.cells #[.int .i64 0, .int .i64 0, .int .i64 0, .bool false, .bool true, .string { data := #[] }, .string { data := #[98] }] 33 (0, 0))).call hb; clear ho hb cK0)
      | (go_at_call 14; replace hu := hu.alloc (.cells #[.int .i64 0, .int .i64 0, .int .i64 0, .bool true, .bool false, .string { data := #[98] }, .string { data := #[] }] 33 (0, 0)); (with_reducible refine (cE0 _ _ _ _ _ (H2.out.calm ((Calm.refl _).alloc (.cells #[.int .i64 0, .int .i64 0, .int .i64 0, .bool true, .bool false, .string { data := #[98] }, .string { data := #[] }] 33 (0, 0)))) (chgs_lit chR3 (heap_new _ _))).mono ?_); rintro e wq ⟨rfl, hb⟩; replace hu := hu.call hb; clear hb H2 k2 cE0))
    go_ret
    exact ⟨rfl, hu⟩
  have g0 := chErr_zero.1 h0
  obtain ⟨R, hR⟩ : ∃ R, revL a = R := ⟨_, rfl⟩
  have cK := fun u (hu : Calm w u) => cBack_good (c := ca) (HA.out.calm hu) g0 hR
  have eR := rev_then g0
  have gR := revL_good g0
  rw [hR] at eR gR
  have cR := fun A' c' u (hu : Calm w u) (h : LiesC u A' R) (k : R.length ≤ c') => cThen_is (c := ca) (d := c') (HA.out.calm hu) h ka k na (by have := gR.1; omega) eR.1 eR.2
  clear h0 gR eR hR
  by_cases h1 : E = 0
  rotate_left
  · have b1 : (E != 0) = true := by simpa using h1
    clear hE hX hY hF HA HB HC h1 g0
    go_enter Try.func8, Try.ntmps8
    go_wp2_with (first
      | (go_at_call 12; (with_reducible refine (cK _ hu).mono ?_); rintro e wA3 ⟨v, rfl, ho, hb⟩; obtain ⟨A3, c3, rfl, kH3, H3⟩ := lies_own ho rfl; replace hu := hu.call hb; clear ho hb cK)
      | (go_at_call 19; (with_reducible refine (cR _ _ _ hu H3.out kH3).mono ?_); rintro e wA4 ⟨v, rfl, ho, hb⟩; obtain ⟨A4, c4, rfl, kH4, H4⟩ := lies_own ho (rfl : _ = 0); replace hu := hu.call hb; clear ho hb cR H3 kH3)
      | (go_at_call 12; (refine (cK0 _ _ _ (chgs_lit ch03 (heap_new _ _))).mono ?_); rintro e w2 ⟨v, rfl, ho, hb⟩; obtain ⟨A2, c2, rfl, k2, H2⟩ := lies_own ho rfl; replace hu := (hu.alloc (.cells #[.int .i64 0, .int .i64 0, .int .i64 0, .bool false, .bool true, .string { data := #[] }, .string { data := #[98] }] 33 (0, 0))).call hb; clear ho hb cK0)
      | (go_at_call 14; replace hu := hu.alloc (.cells #[.int .i64 0, .int .i64 0, .int .i64 0, .bool true, .bool false, .string { data := #[98] }, .string { data := #[] }] 33 (0, 0)); (with_reducible refine (cE0 _ _ _ _ _ (H2.out.calm ((Calm.refl _).alloc (.cells #[.int .i64 0, .int .i64 0, .int .i64 0, .bool true, .bool false, .string { data := #[98] }, .string { data := #[] }] 33 (0, 0)))) (chgs_lit chR3 (heap_new _ _))).mono ?_); rintro e wq ⟨rfl, hb⟩; replace hu := hu.call hb; clear hb H2 k2 cE0)
      | (go_at_call 19; (with_reducible refine (cX _ hu).mono ?_); rintro e wA6 ⟨v, rfl, ho, hb⟩; obtain ⟨A6, c6, rfl, kH6, H6⟩ := lies_own ho rfl; replace hu := hu.call hb; clear ho hb cX)
      | (go_at_call 19; (with_reducible refine (cY _ hu).mono ?_); rintro e wA7 ⟨v, rfl, ho, hb⟩; obtain ⟨A7, c7, rfl, kH7, H7⟩ := lies_own ho rfl; replace hu := hu.call hb; clear ho hb cY))
    go_ret
    exact ⟨rfl, hu⟩
  subst h1
  by_cases h2 : F = 0
  rotate_left
  · have b1 : (F != 0) = true := by simpa using h2
    clear hE hX hY hF HA HB HC h2 g0
    go_enter Try.func8, Try.ntmps8
    go_wp2_with (first
      | (go_at_call 12; (with_reducible refine (cK _ hu).mono ?_); rintro e wA3 ⟨v, rfl, ho, hb⟩; obtain ⟨A3, c3, rfl, kH3, H3⟩ := lies_own ho rfl; replace hu := hu.call hb; clear ho hb cK)
      | (go_at_call 19; (with_reducible refine (cR _ _ _ hu H3.out kH3).mono ?_); rintro e wA4 ⟨v, rfl, ho, hb⟩; obtain ⟨A4, c4, rfl, kH4, H4⟩ := lies_own ho (rfl : _ = 0); replace hu := hu.call hb; clear ho hb cR H3 kH3)
      | (go_at_call 12; (refine (cK0 _ _ _ (chgs_lit ch03 (heap_new _ _))).mono ?_); rintro e w2 ⟨v, rfl, ho, hb⟩; obtain ⟨A2, c2, rfl, k2, H2⟩ := lies_own ho rfl; replace hu := (hu.alloc (.cells #[.int .i64 0, .int .i64 0, .int .i64 0, .bool false, .bool true, .string { data := #[] }, .string { data := #[98] }] 33 (0, 0))).call hb; clear ho hb cK0)
      | (go_at_call 14; replace hu := hu.alloc (.cells #[.int .i64 0, .int .i64 0, .int .i64 0, .bool true, .bool false, .string { data := #[98] }, .string { data := #[] }] 33 (0, 0)); (with_reducible refine (cE0 _ _ _ _ _ (H2.out.calm ((Calm.refl _).alloc (.cells #[.int .i64 0, .int .i64 0, .int .i64 0, .bool true, .bool false, .string { data := #[98] }, .string { data := #[] }] 33 (0, 0)))) (chgs_lit chR3 (heap_new _ _))).mono ?_); rintro e wq ⟨rfl, hb⟩; replace hu := hu.call hb; clear hb H2 k2 cE0)
      | (go_at_call 19; (with_reducible refine (cX _ hu).mono ?_); rintro e wA6 ⟨v, rfl, ho, hb⟩; obtain ⟨A6, c6, rfl, kH6, H6⟩ := lies_own ho rfl; replace hu := hu.call hb; clear ho hb cX)
      | (go_at_call 19; (with_reducible refine (cY _ hu).mono ?_); rintro e wA7 ⟨v, rfl, ho, hb⟩; obtain ⟨A7, c7, rfl, kH7, H7⟩ := lies_own ho rfl; replace hu := hu.call hb; clear ho hb cY))
    go_ret
    exact ⟨rfl, hu⟩
  subst h2
  have gX := (th_good hE).2
  have gY := (th_good hF).2
  rw [hX] at gX
  rw [hY] at gY
  have lX : X.length ≤ 9223372036854775807 := by have := gX.1; omega
  have lY : Y.length ≤ 9223372036854775807 := by have := gY.1; omega
  obtain ⟨P, hP⟩ : ∃ P, thL X c = P := ⟨_, rfl⟩
  obtain ⟨Q, hQ⟩ : ∃ Q, thL a Y = Q := ⟨_, rfl⟩
  obtain ⟨G, hG⟩ : ∃ G, thErr X c = G := ⟨_, rfl⟩
  obtain ⟨I, hI⟩ : ∃ I, thErr a Y = I := ⟨_, rfl⟩
  have cP := fun A' c' u (hu : Calm w u) (h : LiesC u A' X) (k : X.length ≤ c') => cThen_is (c := c') (d := cc) h (HC.out.calm hu) k kc lX nc hG hP
  have cQ := fun A' c' u (hu : Calm w u) (h : LiesC u A' Y) (k : Y.length ≤ c') => cThen_is (c := ca) (d := c') (HA.out.calm hu) h ka k na lY hI hQ
  by_cases h3 : G = 0
  rotate_left
  · have b1 : (G != 0) = true := by simpa using h3
    clear hE hX hY hF HA HB HC g0 hP hQ hG hI h3 gX gY
    go_enter Try.func8, Try.ntmps8
    go_wp2_with (first
      | (go_at_call 12; (with_reducible refine (cK _ hu).mono ?_); rintro e wA3 ⟨v, rfl, ho, hb⟩; obtain ⟨A3, c3, rfl, kH3, H3⟩ := lies_own ho rfl; replace hu := hu.call hb; clear ho hb cK)
      | (go_at_call 19; (with_reducible refine (cR _ _ _ hu H3.out kH3).mono ?_); rintro e wA4 ⟨v, rfl, ho, hb⟩; obtain ⟨A4, c4, rfl, kH4, H4⟩ := lies_own ho (rfl : _ = 0); replace hu := hu.call hb; clear ho hb cR H3 kH3)
      | (go_at_call 12; (refine (cK0 _ _ _ (chgs_lit ch03 (heap_new _ _))).mono ?_); rintro e w2 ⟨v, rfl, ho, hb⟩; obtain ⟨A2, c2, rfl, k2, H2⟩ := lies_own ho rfl; replace hu := (hu.alloc (.cells #[.int .i64 0, .int .i64 0, .int .i64 0, .bool false, .bool true, .string { data := #[] }, .string { data := #[98] }] 33 (0, 0))).call hb; clear ho hb cK0)
      | (go_at_call 14; replace hu := hu.alloc (.cells #[.int .i64 0, .int .i64 0, .int .i64 0, .bool true, .bool false, .string { data := #[98] }, .string { data := #[] }] 33 (0, 0)); (with_reducible refine (cE0 _ _ _ _ _ (H2.out.calm ((Calm.refl _).alloc (.cells #[.int .i64 0, .int .i64 0, .int .i64 0, .bool true, .bool false, .string { data := #[98] }, .string { data := #[] }] 33 (0, 0)))) (chgs_lit chR3 (heap_new _ _))).mono ?_); rintro e wq ⟨rfl, hb⟩; replace hu := hu.call hb; clear hb H2 k2 cE0)
      | (go_at_call 19; (with_reducible refine (cX _ hu).mono ?_); rintro e wA6 ⟨v, rfl, ho, hb⟩; obtain ⟨A6, c6, rfl, kH6, H6⟩ := lies_own ho rfl; replace hu := hu.call hb; clear ho hb cX)
      | (go_at_call 19; (with_reducible refine (cY _ hu).mono ?_); rintro e wA7 ⟨v, rfl, ho, hb⟩; obtain ⟨A7, c7, rfl, kH7, H7⟩ := lies_own ho rfl; replace hu := hu.call hb; replace H6 := Lib.hid (H6.out.calm hb); clear ho hb cY)
      | (go_at_call 19; (with_reducible refine (cP _ _ _ hu H6.out kH6).mono ?_); rintro e wA8 ⟨v, rfl, ho, hb⟩; obtain ⟨A8, c8, rfl, kH8, H8⟩ := lies_own ho rfl; replace hu := hu.call hb; replace H7 := Lib.hid (H7.out.calm hb); clear ho hb cP H6 kH6)
      | (go_at_call 19; (with_reducible refine (cQ _ _ _ hu H7.out kH7).mono ?_); rintro e wA9 ⟨v, rfl, ho, hb⟩; obtain ⟨A9, c9, rfl, kH9, H9⟩ := lies_own ho rfl; replace hu := hu.call hb; replace H8 := Lib.hid (H8.out.calm hb); clear ho hb cQ H7 kH7))
    go_ret
    exact ⟨rfl, hu⟩
  subst h3
  by_cases h4 : I = 0
  rotate_left
  · have b1 : (I != 0) = true := by simpa using h4
    clear hE hX hY hF HA HB HC g0 hP hQ hG hI h4 gX gY
    go_enter Try.func8, Try.ntmps8
    go_wp2_with (first
      | (go_at_call 12; (with_reducible refine (cK _ hu).mono ?_); rintro e wA3 ⟨v, rfl, ho, hb⟩; obtain ⟨A3, c3, rfl, kH3, H3⟩ := lies_own ho rfl; replace hu := hu.call hb; clear ho hb cK)
      | (go_at_call 19; (with_reducible refine (cR _ _ _ hu H3.out kH3).mono ?_); rintro e wA4 ⟨v, rfl, ho, hb⟩; obtain ⟨A4, c4, rfl, kH4, H4⟩ := lies_own ho (rfl : _ = 0); replace hu := hu.call hb; clear ho hb cR H3 kH3)
      | (go_at_call 12; (refine (cK0 _ _ _ (chgs_lit ch03 (heap_new _ _))).mono ?_); rintro e w2 ⟨v, rfl, ho, hb⟩; obtain ⟨A2, c2, rfl, k2, H2⟩ := lies_own ho rfl; replace hu := (hu.alloc (.cells #[.int .i64 0, .int .i64 0, .int .i64 0, .bool false, .bool true, .string { data := #[] }, .string { data := #[98] }] 33 (0, 0))).call hb; clear ho hb cK0)
      | (go_at_call 14; replace hu := hu.alloc (.cells #[.int .i64 0, .int .i64 0, .int .i64 0, .bool true, .bool false, .string { data := #[98] }, .string { data := #[] }] 33 (0, 0)); (with_reducible refine (cE0 _ _ _ _ _ (H2.out.calm ((Calm.refl _).alloc (.cells #[.int .i64 0, .int .i64 0, .int .i64 0, .bool true, .bool false, .string { data := #[98] }, .string { data := #[] }] 33 (0, 0)))) (chgs_lit chR3 (heap_new _ _))).mono ?_); rintro e wq ⟨rfl, hb⟩; replace hu := hu.call hb; clear hb H2 k2 cE0)
      | (go_at_call 19; (with_reducible refine (cX _ hu).mono ?_); rintro e wA6 ⟨v, rfl, ho, hb⟩; obtain ⟨A6, c6, rfl, kH6, H6⟩ := lies_own ho rfl; replace hu := hu.call hb; clear ho hb cX)
      | (go_at_call 19; (with_reducible refine (cY _ hu).mono ?_); rintro e wA7 ⟨v, rfl, ho, hb⟩; obtain ⟨A7, c7, rfl, kH7, H7⟩ := lies_own ho rfl; replace hu := hu.call hb; replace H6 := Lib.hid (H6.out.calm hb); clear ho hb cY)
      | (go_at_call 19; (with_reducible refine (cP _ _ _ hu H6.out kH6).mono ?_); rintro e wA8 ⟨v, rfl, ho, hb⟩; obtain ⟨A8, c8, rfl, kH8, H8⟩ := lies_own ho rfl; replace hu := hu.call hb; replace H7 := Lib.hid (H7.out.calm hb); clear ho hb cP H6 kH6)
      | (go_at_call 19; (with_reducible refine (cQ _ _ _ hu H7.out kH7).mono ?_); rintro e wA9 ⟨v, rfl, ho, hb⟩; obtain ⟨A9, c9, rfl, kH9, H9⟩ := lies_own ho rfl; replace hu := hu.call hb; replace H8 := Lib.hid (H8.out.calm hb); clear ho hb cQ H7 kH7))
    go_ret
    exact ⟨rfl, hu⟩
  subst h4
  have ej := th_joins hE hF (by rw [hX]; exact hG) (by rw [hY]; exact hI)
  rw [hX, hY, hP, hQ] at ej
  have gP := (th_good hG).2
  rw [hP] at gP
  have cZ := fun A c A' c' u (h : LiesC u A P) (h' : LiesC u A' P) => equalC_self A A' c c' P u (by have := gP.1; omega) h h'
  subst ej
  clear hE hX hY hF HA HB HC g0 hP hQ hG hI gX gY gP
  go_enter Try.func8, Try.ntmps8
  go_wp2_with (first
    | (go_at_call 12; (with_reducible refine (cK _ hu).mono ?_); rintro e wA3 ⟨v, rfl, ho, hb⟩; obtain ⟨A3, c3, rfl, kH3, H3⟩ := lies_own ho rfl; replace hu := hu.call hb; clear ho hb cK)
    | (go_at_call 19; (with_reducible refine (cR _ _ _ hu H3.out kH3).mono ?_); rintro e wA4 ⟨v, rfl, ho, hb⟩; obtain ⟨A4, c4, rfl, kH4, H4⟩ := lies_own ho (rfl : _ = 0); replace hu := hu.call hb; clear ho hb cR H3 kH3)
    | (go_at_call 12; (refine (cK0 _ _ _ (chgs_lit ch03 (heap_new _ _))).mono ?_); rintro e w2 ⟨v, rfl, ho, hb⟩; obtain ⟨A2, c2, rfl, k2, H2⟩ := lies_own ho rfl; replace hu := (hu.alloc (.cells #[.int .i64 0, .int .i64 0, .int .i64 0, .bool false, .bool true, .string { data := #[] }, .string { data := #[98] }] 33 (0, 0))).call hb; clear ho hb cK0)
    | (go_at_call 14; replace hu := hu.alloc (.cells #[.int .i64 0, .int .i64 0, .int .i64 0, .bool true, .bool false, .string { data := #[98] }, .string { data := #[] }] 33 (0, 0)); (with_reducible refine (cE0 _ _ _ _ _ (H2.out.calm ((Calm.refl _).alloc (.cells #[.int .i64 0, .int .i64 0, .int .i64 0, .bool true, .bool false, .string { data := #[98] }, .string { data := #[] }] 33 (0, 0)))) (chgs_lit chR3 (heap_new _ _))).mono ?_); rintro e wq ⟨rfl, hb⟩; replace hu := hu.call hb; clear hb H2 k2 cE0)
    | (go_at_call 19; (with_reducible refine (cX _ hu).mono ?_); rintro e wA6 ⟨v, rfl, ho, hb⟩; obtain ⟨A6, c6, rfl, kH6, H6⟩ := lies_own ho rfl; replace hu := hu.call hb; clear ho hb cX)
    | (go_at_call 19; (with_reducible refine (cY _ hu).mono ?_); rintro e wA7 ⟨v, rfl, ho, hb⟩; obtain ⟨A7, c7, rfl, kH7, H7⟩ := lies_own ho rfl; replace hu := hu.call hb; replace H6 := Lib.hid (H6.out.calm hb); clear ho hb cY)
    | (go_at_call 19; (with_reducible refine (cP _ _ _ hu H6.out kH6).mono ?_); rintro e wA8 ⟨v, rfl, ho, hb⟩; obtain ⟨A8, c8, rfl, kH8, H8⟩ := lies_own ho rfl; replace hu := hu.call hb; replace H7 := Lib.hid (H7.out.calm hb); clear ho hb cP H6 kH6)
    | (go_at_call 19; (with_reducible refine (cQ _ _ _ hu H7.out kH7).mono ?_); rintro e wA9 ⟨v, rfl, ho, hb⟩; obtain ⟨A9, c9, rfl, kH9, H9⟩ := lies_own ho rfl; replace hu := hu.call hb; replace H8 := Lib.hid (H8.out.calm hb); clear ho hb cQ H7 kH7)
    | (go_at_call 14; (with_reducible refine (cZ _ _ _ _ _ H8.out H9.out).mono ?_); rintro e wq ⟨rfl, hb⟩; replace hu := hu.call hb; clear hb cZ))
  go_ret
  exact ⟨rfl, hu⟩
end Go.Proofs.Ythfjanmihfbjoaa
