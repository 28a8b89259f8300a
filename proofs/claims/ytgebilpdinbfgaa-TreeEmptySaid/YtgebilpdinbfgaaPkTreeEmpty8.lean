/- Texts of one kind in one file. -/
import Derived.Test.YtgebilpdinbfgaaPkTreeEmpty7
set_option maxRecDepth 100000
namespace Go.Proofs.Ytgebilpdinbfgaa
open Go.RowKit
theorem nd_cells {w w' : World} {b o : Nat} {v0 v1 v2 v3 v4 : Value} (hc : Calm w w') (hb : b < w.heap.size) (h0 : w.cell? ⟨b, o, none⟩ = some v0) (h1 : w.cell? ⟨b, o + 1, none⟩ = some v1) (h2 : w.cell? ⟨b, o + 2, none⟩ = some v2) (h3 : w.cell? ⟨b, o + 3, none⟩ = some v3) (h4 : w.cell? ⟨b, o + 4, none⟩ = some v4) :
    w'.cell? ⟨b, o, none⟩ = some v0 ∧ w'.cell? ⟨b, o + 1, none⟩ = some v1 ∧ w'.cell? ⟨b, o + 2, none⟩ = some v2 ∧ w'.cell? ⟨b, o + 3, none⟩ = some v3 ∧ w'.cell? ⟨b, o + 4, none⟩ = some v4 :=
  ⟨(hc.facts.1 _ _ hb).trans h0, (hc.facts.1 _ _ hb).trans h1, (hc.facts.1 _ _ hb).trans h2, (hc.facts.1 _ _ hb).trans h3, (hc.facts.1 _ _ hb).trans h4⟩
noncomputable def sinceL (l : List Nd) (root t : Int) : List El := if treeErr l root = 0 then sinceR (max t 0) [] (allOf l root) else []
noncomputable def sinceN (l : List Nd) (root t : Int) : Nat := if treeErr l root = 0 then (if max t 0 < tidOf l root then visD l (max t 0) (depthOf l root) root else 0) else 0
set_option maxHeartbeats 8000000 in
theorem findSince_any (root : Int) (A : Option Addr) (c : Nat) (l : List Nd) (w : World) (h : TrAt w A l) (t : Int) :
    Calls Try.prog 18 #[.agg #[.int .i64 root, .slice A l.length c], .int .i64 t] w fun e w' => ∃ v, e = .returned (.tuple #[v, .int .i64 (sinceN l root t : Int), .int .i64 (treeErr l root)]) ∧ OwnR w.heap.size w' v (sinceL l root t) ∧ Calm w w' := by
  have hx := heap_new w (.cells #[.int .i64 root, .slice A l.length c] 24)
  have hu := (Calm.refl w).alloc (.cells #[.int .i64 root, .slice A l.length c] 24)
  have cC := fun u (hu : Calm w u) => treeCheck_any root A c l u (h.calm hu)
  obtain ⟨x0, x1, hxs⟩ := rowT hx
  by_cases hz : treeErr l root = 0
  rotate_left
  · have b1 : (treeErr l root != 0) = true := by rw [bne_iff_ne]; exact hz
    have hfe : sinceN l root t = 0 := by unfold sinceN; rw [if_neg hz]
    have hfl : sinceL l root t = [] := by unfold sinceL; rw [if_neg hz]
    rw [hfe, hfl]
    clear h hz hfe hfl
    generalize treeErr l root = R at cC b1 ⊢
    go_enter Try.func18, Try.ntmps18
    go_wp2_with (go_at_call 37; (with_reducible refine (cC _ hu).mono ?_); rintro e w1 ⟨rfl, hb1⟩; have hu1 := hu.call hb1; clear hb1)
    go_ret3
    exact ⟨_, rfl, OwnR.nil _ _, hu1⟩
  obtain ⟨hl4, hok, d, hD, hO, hall, hlen⟩ := tree_good hz
  have hG := (treeErr_zero.1 hz).2.2
  have hT : TimeP l := hG.2.2.1
  have hnod : (nodesD l d root).length ≤ 400 := by
    have h1 := (ref_good hz).2.1
    rw [depthOf_eq hok hD] at h1
    have h2 : usedOf l ≤ l.length := List.countP_le_length
    omega
  have hdd : depthOf l root = d := depthOf_eq hok hD
  have hlate := tid_late hok hT d root hD
  rw [hz] at cC ⊢
  have hN : sinceN l root t = if max t 0 < tidOf l root then visD l (max t 0) d root else 0 := by unfold sinceN; rw [if_pos hz, hdd]
  have hL : sinceL l root t = sinceR (max t 0) [] (recsD l d root) := by unfold sinceL; rw [if_pos hz, hall]
  rw [hN, hL]
  obtain ⟨t', ht'⟩ : ∃ t', max t 0 = t' := ⟨_, rfl⟩
  rw [ht']
  have hmax : Hid (max t 0 = t') := ht'
  cases d with
  | zero => exact absurd hD id
  | succ d =>
    obtain ⟨n, hn, -⟩ := id hD
    obtain ⟨i1, i2, i3⟩ := nd_of_in hn
    obtain ⟨RR, rfl⟩ : ∃ RR : Nat, root = (RR : Int) := ⟨root.toNat, by omega⟩
    rw [Int.toNat_natCast] at i3
    have hRl : RR < l.length := by omega
    have hzn := hok n (List.mem_of_getElem? i3)
    have htid : tidOf l (RR : Int) = ndTid n.E n.T := by unfold tidOf; rw [Int.toNat_natCast, i3]
    have cS := fun u (hu : Calm w u) => appendSince_any (RR : Int) A c l hok hT w h t' (d + 1) (RR : Int) hD (.slice none 0 0) [] u hu (OwnR.nil _ _) (by rw [← hall]; simp; omega) hnod
    obtain ⟨b, q, kd, A1, A2, A3, A4, c1, c2, c3, c4, E, K, S, T, hA, hbb, HN, HA, n0, n1, n2, n3, n4⟩ := h.get hRl
    cases hA
    have hnd : n = ⟨kd, A1, A2, A3, A4, c1, c2, c3, c4, E, K, S, T⟩ := by
      have := HN.out
      rw [i3] at this
      exact Option.some.inj this
    subst hnd
    simp only at hzn htid
    have cT := fun u (hu : Calm w u) => nodeTid_any kd A1 A2 A3 A4 c1 c2 c3 c4 E K S T u (HA.out.calm hu)
    rw [hzn, if_pos rfl] at cT
    rw [← htid] at cT
    have hxl : (RR : Int) < (l.length : Int) := by omega
    have HTL : Hid (tidOf l (RR : Int) = lateOf (recsD l (d + 1) (RR : Int))) := hlate
    have HW := Lib.hid h
    generalize tidOf l (RR : Int) = TT at cT HTL ⊢
    have hvc := hu.facts.1
    clear hz hl4 hok hD hO hall hlen hG hT hnod hdd hlate hN hL hn i1 i2 i3 hzn htid h
    replace n0 := (hvc _ _ hbb).trans n0; replace n1 := (hvc _ _ hbb).trans n1; replace n2 := (hvc _ _ hbb).trans n2; replace n3 := (hvc _ _ hbb).trans n3; replace n4 := (hvc _ _ hbb).trans n4
    have hb1' : b < (w.alloc (.cells #[.int .i64 (RR : Int), .slice (some ⟨b, q, none⟩) l.length c] 24)).heap.size := Nat.lt_of_lt_of_le hbb hu.size
    clear hvc
    have key : t = t' ∧ 0 ≤ t ∨ t < 0 ∧ t' = 0 := by have := hmax.out; omega
    rcases key with ⟨rfl, htp⟩ | ⟨htn, rfl⟩
    · by_cases hTt : TT ≤ t
      · have hTi : TT ≤ t := hTt
        rw [if_neg (by omega), sinceR_skip (by have := HTL.out; omega)]
        go_enter Try.func18, Try.ntmps18
        go_wp2_with first
          | (go_at_call 37; (with_reducible refine (cC _ hu).mono ?_); rintro e w1 ⟨rfl, hb1⟩; have hu1 := hu.call hb1; have hx1 := (hb1.block (rowT hx).2.2).trans hx; (obtain ⟨p0, p1, p2, p3, p4⟩ := nd_cells hb1 hb1' n0 n1 n2 n3 n4); clear x0 x1 hxs hb1; obtain ⟨x0, x1, hxs⟩ := rowT hx1)
          | (go_at_call 40; (with_reducible refine (cT _ hu1).mono ?_); rintro e w2 ⟨rfl, hb2⟩; have hu2 := hu1.call hb2; clear hb2)
        go_ret3
        exact ⟨_, rfl, OwnR.nil _ _, hu2⟩
      · have hTi : ¬ TT ≤ t := hTt
        rw [if_pos (by omega)]
        go_enter Try.func18, Try.ntmps18
        go_wp2_with first
          | (go_at_call 37; (with_reducible refine (cC _ hu).mono ?_); rintro e w1 ⟨rfl, hb1⟩; have hu1 := hu.call hb1; have hx1 := (hb1.block (rowT hx).2.2).trans hx; (obtain ⟨p0, p1, p2, p3, p4⟩ := nd_cells hb1 hb1' n0 n1 n2 n3 n4); clear x0 x1 hxs hb1; obtain ⟨x0, x1, hxs⟩ := rowT hx1)
          | (go_at_call 40; (with_reducible refine (cT _ hu1).mono ?_); rintro e w2 ⟨rfl, hb2⟩; have hu2 := hu1.call hb2; have hx2 := (hb2.block (rowT hx1).2.2).trans hx1; clear hb2 x0 x1 hxs; obtain ⟨x0, x1, hxs⟩ := rowT hx2)
          | (go_at_call 41; (with_reducible refine (cS _ hu2).mono ?_); rintro e w3 ⟨v3, rfl, ho3, hg3⟩; have HO := Lib.hid ho3; have hu3 := Grw.calm hu2 hg3 (fun k hk => by simp [Value.ownBlock] at hk); clear ho3 hg3)
        go_ret3
        exact ⟨_, rfl, HO.out, hu3⟩
    · by_cases hTt : TT ≤ 0
      · have hTi : TT ≤ 0 := hTt
        rw [if_neg (by omega), sinceR_skip (by have := HTL.out; omega)]
        go_enter Try.func18, Try.ntmps18
        go_wp2_with first
          | (go_at_call 37; (with_reducible refine (cC _ hu).mono ?_); rintro e w1 ⟨rfl, hb1⟩; have hu1 := hu.call hb1; have hx1 := (hb1.block (rowT hx).2.2).trans hx; (obtain ⟨p0, p1, p2, p3, p4⟩ := nd_cells hb1 hb1' n0 n1 n2 n3 n4); clear x0 x1 hxs hb1; obtain ⟨x0, x1, hxs⟩ := rowT hx1)
          | (go_at_call 40; (with_reducible refine (cT _ hu1).mono ?_); rintro e w2 ⟨rfl, hb2⟩; have hu2 := hu1.call hb2; clear hb2)
        go_ret3
        exact ⟨_, rfl, OwnR.nil _ _, hu2⟩
      · have hTi : ¬ TT ≤ 0 := hTt
        rw [if_pos (by omega)]
        go_enter Try.func18, Try.ntmps18
        go_wp2_with first
          | (go_at_call 37; (with_reducible refine (cC _ hu).mono ?_); rintro e w1 ⟨rfl, hb1⟩; have hu1 := hu.call hb1; have hx1 := (hb1.block (rowT hx).2.2).trans hx; (obtain ⟨p0, p1, p2, p3, p4⟩ := nd_cells hb1 hb1' n0 n1 n2 n3 n4); clear x0 x1 hxs hb1; obtain ⟨x0, x1, hxs⟩ := rowT hx1)
          | (go_at_call 40; (with_reducible refine (cT _ hu1).mono ?_); rintro e w2 ⟨rfl, hb2⟩; have hu2 := hu1.call hb2; have hx2 := (hb2.block (rowT hx1).2.2).trans hx1; clear hb2 x0 x1 hxs; obtain ⟨x0, x1, hxs⟩ := rowT hx2)
          | (go_at_call 41; (with_reducible refine (cS _ hu2).mono ?_); rintro e w3 ⟨v3, rfl, ho3, hg3⟩; have HO := Lib.hid ho3; have hu3 := Grw.calm hu2 hg3 (fun k hk => by simp [Value.ownBlock] at hk); clear ho3 hg3)
        go_ret3
        exact ⟨_, rfl, HO.out, hu3⟩
open Go.RowKit
theorem leaf_all : allOf [ndLeaf] 0 = [] := by
 unfold allOf
 rw [leaf_tree.2]
 have h : ndOf [ndLeaf] 0 = some ndLeaf := rfl
 rw [recs_eq h]
 rfl
theorem leaf_from (s : Sp) : fromErr [ndLeaf] 0 9 = 0 ∧ fromL [ndLeaf] 0 s 9 = [] := by
 have h1 : fromErr [ndLeaf] 0 9 = 0 := by
  unfold fromErr
  rw [if_neg (by rw [leaf_tree.1]; decide), if_neg (by decide)]
 refine ⟨h1, ?_⟩
 unfold fromL
 rw [if_pos h1, leaf_all, fromR_nil]
theorem leaf_since : sinceN [ndLeaf] 0 0 = 0 ∧ sinceL [ndLeaf] 0 0 = [] := by
 constructor
 ·unfold sinceN
  rw [if_pos leaf_tree.1, if_neg]
  have : tidOf [ndLeaf] 0 = 0 := rfl
  rw [this]; decide
 ·unfold sinceL
  rw [if_pos leaf_tree.1, leaf_all, sinceR_nil]
theorem leaf_spot (s : Sp) : spotErr [ndLeaf] 0 s = 4 ∧ spotEl [ndLeaf] 0 s = zeroEl := by
 constructor
 ·unfold spotErr
  rw [if_neg (by rw [leaf_tree.1]; decide), leaf_all]; rfl
 ·unfold spotEl
  rw [if_neg (by rw [leaf_tree.1]; decide), leaf_all]; rfl
theorem leaf_grow (x : El) : growErr [ndLeaf] 0 x = elemErr x.p x.o x.f x.m x.g x.s.size := by
 unfold growErr
 rw [if_neg (by rw [leaf_tree.1]; decide)]
theorem leaf_ins (x : El) : insErr [ndLeaf] 0 x = elemErr x.p x.o x.f x.m x.g x.s.size := by
 unfold insErr
 rw [leaf_grow]
 by_cases h : elemErr x.p x.o x.f x.m x.g x.s.size = 0
 ·rw [if_neg (by simpa using h), if_neg, if_neg (by rw [leaf_all]; decide), h]
  unfold growIs
  rw [(leaf_spot x.sp).1]
  simp
 ·rw [if_pos h]
theorem first_ins {x : El} {w w' : World} {e : Ending} (h : InsEnd [ndLeaf] 0 x w e w') (hE : insErr [ndLeaf] 0 x = 0) :
    ∃ root' A' c' us', e = .returned (.tuple #[.agg #[.int .i64 root', .slice A' us'.length c'], .int .i64 0]) ∧ TOwn w.heap.size w' (.slice A' us'.length c') us' ∧ treeErr us' root' = 0 ∧ allOf us' root' = [x] ∧ Calm w w' := by
  rcases h with ⟨h0, -⟩ | ⟨-, root', v, us', A0, E, B0, rfl, h1, h2, h3, h4, h5⟩
  · exact absurd hE h0
  · obtain ⟨A', c', rfl⟩ := h1.row.slice
    refine ⟨root', A', c', us', rfl, h1, h2, ?_, h5⟩
    rw [leaf_all] at h3
    have h6 := List.append_eq_nil_iff.1 h3.symm
    have h7 := List.append_eq_nil_iff.1 h6.1
    rw [h4, h7.1, h7.2, h6.2]
    simp [insL]
theorem ins_again {us : List Nd} {root : Int} {x : El} (hz : treeErr us root = 0) (ha : allOf us root = [x]) (hE : elemErr x.p x.o x.f x.m x.g x.s.size = 0) : insErr us root x = 5 := by
 have hg : growErr us root x = 0 := by unfold growErr; rw [if_neg (by rw [hz]; decide), hE]
 unfold insErr
 rw [if_neg (by rw [hg]; decide), if_pos]
 unfold growIs
 refine decide_eq_true ⟨hg, ?_⟩
 unfold spotErr
 rw [if_neg (by rw [hz]; decide), ha]
 simp [spotAt]
theorem own_caps {B : Nat} {w : World} {v : Value} {l : List Nd} (h : TOwn B w v l) : ∀ n ∈ l, NdCaps n := fun n hn => by
 obtain ⟨i, hi⟩ := List.getElem?_of_mem hn
 have g := h.nd i n hi
 exact ⟨owns_cap g.e, owns_cap g.k, owns_cap g.s, owns_cap g.t⟩
theorem leaf_caps : ∀ n ∈ [ndLeaf], NdCaps n := fun n hn => by
 rw [List.mem_singleton.1 hn]
 exact ⟨Nat.le_refl _, Nat.le_refl _, Nat.le_refl _, Nat.le_refl _⟩
theorem lies_row1 {w : World} {g : Nat} {p o f m gg : Int} {s : ByteArray} (h : w.heap[g]? = some (.cells #[.int .i64 p, .int .i64 o, .int .i64 f, .int .i64 m, .int .i64 gg, .string s] 33 (0, 0))) (hw : ∀ e ∈ [(⟨p, o, f, m, gg, s⟩ : El)], e.wf) : Lies w (some ⟨g, 0, none⟩) [⟨p, o, f, m, gg, s⟩] := by
 obtain ⟨x0, x1, x2, x3, x4, x5, hxs⟩ := row6 h
 refine ⟨hw, fun _ => ⟨g, 0, rfl, hxs, fun k e he => ?_⟩⟩
 match k, he with
 | 0, he => simp at he; subst he; exact ⟨x0, x1, x2, x3, x4, x5⟩
 |k + 1, he => simp at he
theorem own_nil {B : Nat} {w : World} {v : Value} (h : OwnR B w v []) : ∃ A c, v = .slice A 0 c := by
 obtain ⟨A, c, e, -⟩ := h.lies (by simp)
 exact ⟨A, c, e⟩
open Go.RowKit
set_option maxHeartbeats 16000000 in
theorem growInsert_any (root : Int) (A : Option Addr) (cA : Nat) (l : List Nd) (w : World) (h : TrAt w A l) (hcap : ∀ n ∈ l, NdCaps n) (p o f m gg : Int) (s : ByteArray) :
    Calls Try.prog 20 #[.agg #[.int .i64 root, .slice A l.length cA], .agg #[.int .i64 p, .int .i64 o, .int .i64 f, .int .i64 m, .int .i64 gg, .string s]] w (InsEnd l root ⟨p, o, f, m, gg, s⟩ w) := by
  have hx := heap_past (.cells #[.int .i64 0, .slice none 0 0] 24) (heap_past (.cells #[.int .i64 p, .int .i64 o, .int .i64 f, .int .i64 m, .int .i64 gg, .string s] 33) (heap_new w (.cells #[.int .i64 root, .slice A l.length cA] 24)))
  have hy := heap_past (.cells #[.int .i64 0, .slice none 0 0] 24) (heap_new (w.alloc (.cells #[.int .i64 root, .slice A l.length cA] 24)) (.cells #[.int .i64 p, .int .i64 o, .int .i64 f, .int .i64 m, .int .i64 gg, .string s] 33))
  have hr := heap_new ((w.alloc (.cells #[.int .i64 root, .slice A l.length cA] 24)).alloc (.cells #[.int .i64 p, .int .i64 o, .int .i64 f, .int .i64 m, .int .i64 gg, .string s] 33)) (.cells #[.int .i64 0, .slice none 0 0] 24)
  rw [World.size_alloc] at hy hr
  rw [World.size_alloc] at hr
  have hu := (((Calm.refl w).alloc (.cells #[.int .i64 root, .slice A l.length cA] 24)).alloc (.cells #[.int .i64 p, .int .i64 o, .int .i64 f, .int .i64 m, .int .i64 gg, .string s] 33)).alloc (.cells #[.int .i64 0, .slice none 0 0] 24)
  have cG := fun u (hu : Calm w u) => growLook_any root A cA l u (h.calm hu) hcap p o f m gg s
  have cT := fun u (hu : Calm w u) => treeAll_any root A cA l u (h.calm hu)
  obtain ⟨x0, x1, hxs⟩ := rowT hx
  obtain ⟨y0, y1, y2, y3, y4, y5, hys⟩ := row6 hy
  by_cases h1 : growErr l root ⟨p, o, f, m, gg, s⟩ = 0
  rotate_left
  · have e0 : insErr l root ⟨p, o, f, m, gg, s⟩ = growErr l root ⟨p, o, f, m, gg, s⟩ := by unfold insErr; rw [if_pos h1]
    have b1 : (growErr l root ⟨p, o, f, m, gg, s⟩ != 0) = true := by rw [bne_iff_ne]; exact h1
    have HE : Hid (∀ w', Calm w w' → InsEnd l root ⟨p, o, f, m, gg, s⟩ w (.returned (.tuple #[.agg #[.int .i64 0, .slice none 0 0], .int .i64 (growErr l root ⟨p, o, f, m, gg, s⟩)])) w') := show ∀ _, _ from fun w' hw => .inl ⟨by rw [e0]; exact h1, by rw [e0], hw⟩
    clear h1 e0 cT h hcap
    generalize growErr l root ⟨p, o, f, m, gg, s⟩ = R at cG b1 HE
    generalize growIs l root ⟨p, o, f, m, gg, s⟩ = I at cG
    go_enter Try.func20, Try.ntmps20
    go_wp2_with (go_at_call 43; (with_reducible refine (cG _ hu).mono ?_); rintro e w1 ⟨rfl, hb1⟩; have hr1 := (hb1.block (rowT hr).2.2).trans hr; have hx1 := (hb1.block (rowT hx).2.2).trans hx; have hu1 := hu.call hb1; obtain ⟨r0, r1, hrs⟩ := rowT hr1; obtain ⟨f0, f1⟩ := freeT2 hr1; clear hb1 x0 x1 hxs; obtain ⟨x0, x1, hxs⟩ := rowT hx1)
    have hr9 := setT2 hr1 (.int .i64 0) (.slice none 0 0)
    have hu9 := hu1.twoT (g := w.heap.size + 1 + 1) (by omega) (.int .i64 0) (.slice none 0 0)
    exact end_trE (p := 4) (q := 5) rfl rfl _ _ _ _ _ _ _ rfl rfl rfl hr9 rfl (HE.out _ hu9)
  have e0 : insErr l root ⟨p, o, f, m, gg, s⟩ = if growIs l root ⟨p, o, f, m, gg, s⟩ = true then 5 else if 400 ≤ (allOf l root).length then 8 else 0 := by unfold insErr; rw [if_neg (by simpa using h1)]
  have hz : treeErr l root = 0 := by
    by_cases hz : treeErr l root = 0
    · exact hz
    · unfold growErr at h1; rw [if_pos hz] at h1; exact absurd h1 hz
  rw [h1] at cG
  by_cases h2 : growIs l root ⟨p, o, f, m, gg, s⟩ = true
  · rw [if_pos h2] at e0
    have HE : Hid (∀ w', Calm w w' → InsEnd l root ⟨p, o, f, m, gg, s⟩ w (.returned (.tuple #[.agg #[.int .i64 0, .slice none 0 0], .int .i64 5])) w') := show ∀ _, _ from fun w' hw => .inl ⟨by rw [e0]; decide, by rw [e0], hw⟩
    rw [h2] at cG
    clear h1 e0 cT h hcap hz h2
    go_enter Try.func20, Try.ntmps20
    go_wp2_with (go_at_call 43; (with_reducible refine (cG _ hu).mono ?_); rintro e w1 ⟨rfl, hb1⟩; have hr1 := (hb1.block (rowT hr).2.2).trans hr; have hx1 := (hb1.block (rowT hx).2.2).trans hx; have hu1 := hu.call hb1; obtain ⟨r0, r1, hrs⟩ := rowT hr1; obtain ⟨f0, f1⟩ := freeT2 hr1; clear hb1 x0 x1 hxs; obtain ⟨x0, x1, hxs⟩ := rowT hx1)
    have hr9 := setT2 hr1 (.int .i64 0) (.slice none 0 0)
    have hu9 := hu1.twoT (g := w.heap.size + 1 + 1) (by omega) (.int .i64 0) (.slice none 0 0)
    exact end_trE (p := 4) (q := 5) rfl rfl _ _ _ _ _ _ _ rfl rfl rfl hr9 rfl (HE.out _ hu9)
  rw [if_neg h2] at e0
  have h2' : growIs l root ⟨p, o, f, m, gg, s⟩ = false := by simpa using h2
  rw [h2'] at cG
  simp only [hz, if_true] at cT
  by_cases h3 : 400 ≤ (allOf l root).length
  · rw [if_pos h3] at e0
    have HE : Hid (∀ w', Calm w w' → InsEnd l root ⟨p, o, f, m, gg, s⟩ w (.returned (.tuple #[.agg #[.int .i64 0, .slice none 0 0], .int .i64 8])) w') := show ∀ _, _ from fun w' hw => .inl ⟨by rw [e0]; decide, by rw [e0], hw⟩
    generalize allOf l root = R at cT h3
    have b3 : (400 : Int) ≤ (R.length : Int) := by omega
    clear h1 e0 h hcap hz h2 h2'
    go_enter Try.func20, Try.ntmps20
    go_wp2_with first
      | (go_at_call 43; (with_reducible refine (cG _ hu).mono ?_); rintro e w1 ⟨rfl, hb1⟩; have hr1 := (hb1.block (rowT hr).2.2).trans hr; have hx1 := (hb1.block (rowT hx).2.2).trans hx; have hu1 := hu.call hb1; obtain ⟨r0, r1, hrs⟩ := rowT hr1; obtain ⟨f0, f1⟩ := freeT2 hr1; clear hb1 x0 x1 hxs; obtain ⟨x0, x1, hxs⟩ := rowT hx1)
      | (go_at_call 16; (with_reducible refine (cT _ hu1).mono ?_); rintro e w2 ⟨v9, rfl, ho9, hb2⟩; have hv := rows_slice ho9; obtain ⟨A9, c9, rfl⟩ := hv; have hr2 := (hb2.block (rowT hr1).2.2).trans hr1; have hu2 := hu1.call hb2; clear hb2 ho9 r0 r1 hrs f0 f1 x0 x1 hxs; obtain ⟨r0, r1, hrs⟩ := rowT hr2; obtain ⟨f0, f1⟩ := freeT2 hr2)
    have hr9 := setT2 hr2 (.int .i64 0) (.slice none 0 0)
    have hu9 := hu2.twoT (g := w.heap.size + 1 + 1) (by omega) (.int .i64 0) (.slice none 0 0)
    exact end_trE (p := 4) (q := 5) rfl rfl _ _ _ _ _ _ _ rfl rfl rfl hr9 rfl (HE.out _ hu9)
  rw [if_neg h3] at e0
  have hG := treeErr_zero.1 hz
  obtain ⟨hl4, hok, -, -, -, D, hD, -⟩ := id hG
  have hDe := depthOf_eq hok hD
  have hEl : (⟨p, o, f, m, gg, s⟩ : El).err = 0 := by
    unfold growErr at h1; rw [if_neg (by simpa using hz)] at h1; exact h1
  have hso : ∀ a ∈ allOf l root, a.sp ≠ ⟨p, o, f, m⟩ := spot_out (by
    unfold growIs at h2'
    rw [h1] at h2'
    have h5 := of_decide_eq_false h2'
    have h6 : spotErr l root ⟨p, o, f, m⟩ ≠ 0 := fun h => h5 ⟨rfl, h⟩
    unfold spotErr at h6
    rw [if_neg (by simpa using hz)] at h6
    cases h7 : (spotAt (allOf l root) ⟨p, o, f, m⟩).isSome with
    | false => rfl
    | true => rw [h7] at h6; exact absurd rfl h6)
  have hD4 : D ≤ 400 := by
    obtain ⟨d, n, g1, -⟩ := good_wide hz
    have := good_low hz g1
    omega
  have cTo := fun u (hu : Calm w u) => to_any root A cA l u (h.calm hu) hok hl4 D hD4 hD p o f m
  obtain ⟨W, hW⟩ : ∃ W, W = wayOf l ⟨p, o, f, m⟩ D root := ⟨_, rfl⟩
  rw [← hW] at cTo
  have HE : Hid (∀ w' root' v us' A0 E B0, TOwn w.heap.size w' v us' → treeErr us' root' = 0 → allOf l root = A0 ++ E ++ B0 → allOf us' root' = A0 ++ insL E (posE E ⟨p, o, f, m⟩) ⟨p, o, f, m, gg, s⟩ ++ B0 → Calm w w' → InsEnd l root ⟨p, o, f, m, gg, s⟩ w (.returned (.tuple #[.agg #[.int .i64 root', v], .int .i64 0])) w') := show ∀ _, _ from fun w' root' v us' A0 E B0 a1 a2 a3 a4 a5 => .inr ⟨e0, root', v, us', A0, E, B0, rfl, a1, a2, a3, a4, a5⟩
  have HF : Hid (treeErr l root = 0 ∧ (allOf l root).length < 400 ∧ (⟨p, o, f, m, gg, s⟩ : El).err = 0 ∧ (∀ a ∈ allOf l root, a.sp ≠ ⟨p, o, f, m⟩) ∧ NdsOk l ∧ Deep l D root ∧ W = wayOf l ⟨p, o, f, m⟩ D root) := show _ ∧ _ from ⟨hz, by omega, hEl, hso, hok, hD, hW⟩
  have b3 : ¬ (400 : Int) ≤ ((allOf l root).length : Int) := by omega
  obtain ⟨n9, hn9⟩ : ∃ n, n = (allOf l root).length := ⟨_, rfl⟩
  generalize allOf l root = R9 at cT b3
  clear h1 e0 h hcap hz h2 h2' h3 hG hl4 hok hD hDe hEl hso hD4 hW n9 hn9
  go_enter Try.func20, Try.ntmps20
  generalize hQ0 : bodyPost Try.prog Try.f20 (InsEnd l root ⟨p, o, f, m, gg, s⟩ w) = Q0
  have HRET : Hid (∀ a w', bodyPost Try.prog Try.f20 (InsEnd l root ⟨p, o, f, m, gg, s⟩ w) .ret a w' → Q0 .ret a w') := show ∀ a w', _ → _ from fun a w' h => hQ0 ▸ h
  clear hQ0
  go_upto_region 9 with first
      | (go_at_call 43; (with_reducible refine (cG _ hu).mono ?_); rintro e w1 ⟨rfl, hb1⟩; have hr1 := (hb1.block (rowT hr).2.2).trans hr; have hx1 := (hb1.block (rowT hx).2.2).trans hx; have hy1 := (hb1.block (row6 hy).2.2.2.2.2.2).trans hy; have hu1 := hu.call hb1; obtain ⟨r0, r1, hrs⟩ := rowT hr1; obtain ⟨f0, f1⟩ := freeT2 hr1; clear hb1 x0 x1 hxs y0 y1 y2 y3 y4 y5 hys; obtain ⟨x0, x1, hxs⟩ := rowT hx1)
      | (go_at_call 16; (with_reducible refine (cT _ hu1).mono ?_); rintro e w2 ⟨v9, rfl, ho9, hb2⟩; have hv := rows_slice ho9; obtain ⟨A9, c9, rfl⟩ := hv; have hr2 := (hb2.block (rowT hr1).2.2).trans hr1; have hx2 := (hb2.block (rowT hx1).2.2).trans hx1; have hy2 := (hb2.block (row6 hy1).2.2.2.2.2.2).trans hy1; have hu2 := hu1.call hb2; clear hb2 ho9 r0 r1 hrs f0 f1 x0 x1 hxs)
  have HU2 := Lib.hid hu2
  have hxl := (rowT hx2).2.2
  have hyl := (row6 hy2).2.2.2.2.2.2
  clear cG cT hx hy hr hu hu1 hx1 hy1 hr1 b3 hu2
  refine wp_region_stages [.val (.agg #[.int .i64 root, .slice A l.length cA]), .val (.agg #[.int .i64 p, .int .i64 o, .int .i64 f, .int .i64 m, .int .i64 gg, .string s]), .val (.agg #[.int .i64 p, .int .i64 o, .int .i64 f, .int .i64 m]), .late, .late, .late [3, 4]] [3, 4, 5]
    (StG w2 w2.heap.size l root W) (by kernel_rfl) (by kernel_rfl) (by kernel_rfl) StG.stay (fun Y => .inl ⟨_, _, .slice none 0 0, .slice none 0 0, [], rfl, PreG.start (Nat.le_refl _) (Calm.refl _).drew⟩) (fun Y => ?_)
  refine planS_val (by kernel_rfl) (fun L u hb hS => ?_) ?_
  · obtain ⟨x0, x1, hxs⟩ := rowT ((hS.calm.block hxl).trans hx2)
    clear hS hb
    go_simp
  simp only [Act.put, List.setIfInBounds_toArray, List.set_cons_zero, List.set_cons_succ, Nat.reduceAdd]
  refine planS_val (by kernel_rfl) (fun L u hb hS => ?_) ?_
  · obtain ⟨y0, y1, y2, y3, y4, y5, hys⟩ := row6 ((hS.calm.block hyl).trans hy2)
    clear hS hb
    go_simp
  simp only [Act.put, List.setIfInBounds_toArray, List.set_cons_zero, List.set_cons_succ, Nat.reduceAdd]
  refine planS_val (by kernel_rfl) (fun L u hb hS => ?_) ?_
  · clear hS hb
    go_simp
    all_goals first | (go_at_call 42; exact spot_any _ _ _ _ _ _ _) | done
  simp only [Act.put, List.setIfInBounds_toArray, List.set_cons_zero, List.set_cons_succ, Nat.reduceAdd]
  refine planS_late (fun L u hi hb hS => ?_) ?_
  · obtain ⟨h10, v, vW, us, hP⟩ := hS.pre (by simp [hi])
    rw [hi] at hP
    have HP := Lib.hid hP
    have H10 := Lib.hid h10
    clear hS hP h10
    go_wp2_with (go_at_call 44; (with_reducible refine (cTo _ (HU2.out.call HP.out.calm)).mono ?_); rintro e w9 ⟨v9, vW9, us9, rfl, hs9, ho9, hn9, hd9, hb9⟩)
    exact .inl ⟨true, L 4, v9, vW9, us9, by simp [updB, H10.out], HP.out.do3 hs9 ho9 hn9 hd9 hb9⟩
  simp only [Act.put, List.setIfInBounds_toArray, List.set_cons_zero, List.set_cons_succ, Nat.reduceAdd]
  refine planS_late (fun L u hi hb hS => ?_) ?_
  · obtain ⟨h10, v, vW, us, hP⟩ := hS.pre (by simp [hi])
    rw [hi] at hP
    have HP := Lib.hid hP
    have H10 := Lib.hid h10
    clear hS hP h10
    go_wp2_with fail
    exact .inl ⟨L 3, true, v, vW, us, by simp [updB, H10.out], HP.out.do4⟩
  simp only [Act.put, List.setIfInBounds_toArray, List.set_cons_zero, List.set_cons_succ, Nat.reduceAdd]
  refine planS_late (fun L u hi hb hS => ?_) ?_
  · obtain ⟨h10, v, vW, us, hP⟩ := hS.pre (by simp [hi])
    rw [hb 3 (by simp), hb 4 (by simp)] at hP
    obtain ⟨e3, hSa, -, -, -⟩ := hP.t rfl
    obtain ⟨g, e4, hBg, hg⟩ := hP.g rfl
    obtain ⟨aW, bW, eW⟩ := rows_slice (hP.t rfl).2.2.2.1
    obtain ⟨av, bv, ev⟩ := (hP.t rfl).2.2.1.row.slice
    have hQ := hP.do5 e4 hBg hg hBg
    have H := Lib.hid (show [3, 4, 5].map (updB L 5) = [true, true, true] by simp [updB, hb 3 (by simp), hb 4 (by simp)])
    have HQ : Hid (∀ y, StG w2 w2.heap.size l root W ([3, 4, 5].map (updB L 5)) (updV Y 5 y) (World.three u g (.int .i64 root) v vW)) := show ∀ _, _ from fun y => .inr ⟨H.out, hQ.1, g, v, vW, us, e4, hSa, hQ.2⟩
    unfold insZ at hg
    obtain ⟨z0, z1, z2, hzs⟩ := row3 hg
    obtain ⟨f0, f1, f2, f3, f4⟩ := free5 hg
    rw [ev, eW] at HQ e3
    rw [e3, e4]
    clear hS hP h10 hb hQ e3 e4 ev eW hg hSa
    go_wp2_with fail
    exact ⟨undef, HQ.out undef⟩
  simp only [Act.put, Nat.reduceAdd]
  refine planS_end ?_
  intro w4 hS
  obtain ⟨hu4, g, v, vW, us, e4, hSa, hI⟩ : Calm w2 w4 ∧ ∃ g v vW us, Y 4 = .pointer (some ⟨g, 0, none⟩) ∧ SameT l us ∧ InsOk w2.heap.size w4 g root v vW us W := by
    rcases hS with ⟨_, _, _, _, _, h1, -⟩ | ⟨-, h2⟩
    · simp at h1
    · exact h2
  rw [e4]
  generalize Y 3 = y3'
  clear hS e4 Y
  obtain ⟨hz, hR, hEl, hso, hok, hD, hW⟩ := HF.out
  obtain ⟨hzu, hau⟩ := hSa.good hz
  obtain ⟨RT, y, d, ws, c, rfl, g1, g2, g3, g4, g5, g6, g7, g8, g9, g10, g11⟩ := change_at hzu ⟨p, o, f, m⟩
  have hDd : D = d + 1 := by rw [← g1, depthOf_eq (hSa.ok hok) (hSa.deep hD)]
  have hWe : W = (RT : Int) :: ws := by rw [hW, ← hSa.way, hDd, g2]
  obtain ⟨aW, cW, eW⟩ := rows_slice hI.n
  have hus : 0 < us.length := by
    have := (List.getElem?_eq_some_iff.1 (nd_at.1 g5.nd)).1
    omega
  obtain ⟨gN, cN, eN⟩ : ∃ gN cN, v = .slice (some ⟨gN, 0, none⟩) us.length cN := by
    rcases hI.t.row.2 with ⟨-, h0⟩ | ⟨g', cap', cur, h0, -⟩
    · omega
    · exact ⟨g', cap', h0⟩
  subst eN eW hWe
  have cI := fun u (hu : Calm w4 u) => insert_tree w2.heap.size g gN cN cW aW RT y us ws u (hI.calm hu) p o f m gg s c (d + 1) g3 (by omega) g5 g6 g7 g8 g9 hEl (fun a ha => hso a (by rw [← hau]; exact g11 a ha)) (by rw [← g10, hau]; exact hR)
  have hy4 := (hu4.block hyl).trans hy2
  obtain ⟨y0, y1, y2, y3, y4, y5, hys⟩ := row6 hy4
  have HI := Lib.hid hI
  have HU4 := Lib.hid hu4
  have HR2 := Lib.hid hr2
  have HA : Hid (recsD us (d + 1) (RT : Int) = allOf l (RT : Int)) := show _ = _ from by rw [← g10, hau]
  clear hI hu4 hSa hz hR hEl hso hok hD hW hzu hau g1 g2 g3 g4 g5 g6 g7 g8 g9 g10 g11 hDd hus hy4 hx2 hy2 hr2 hxl hyl cTo HF
  go_upto_region 11 with (go_at_call 45; (with_reducible refine (cI _ (Calm.refl _)).mono ?_); rintro e w5 ⟨A0, B0, hrec, gN', cN', us', root', A', c', W', rfl, hdone, hz5, ha5⟩; have HREC := Lib.hid hrec; have HD := Lib.hid hdone; have HZ := Lib.hid hz5; have HA5 := Lib.hid ha5; clear hrec hdone hz5 ha5 cI y0 y1 y2 y3 y4 y5 hys)
  have hc5 : Calm w2 w5 := HD.out.mod.calm HU4.out fun k hk => (HI.out.foot k hk).1
  have hr5 := (hc5.block (rowT HR2.out).2.2).trans HR2.out
  obtain ⟨r0, r1, hrs⟩ := rowT hr5
  obtain ⟨f0, f1⟩ := freeT2 hr5
  obtain ⟨z0, z1, z2, hzs⟩ := row3 HD.out.ok.box
  have HC5 := Lib.hid (HU2.out.call hc5)
  have HR5 := Lib.hid hr5
  clear hc5 hr5
  go_wp2_with fail
  refine HRET.out _ _ ?_
  have hr9 := setT2 HR5.out (.int .i64 root') (.slice (some ⟨gN', 0, none⟩) us'.length cN')
  have hu9 := HC5.out.twoT (g := w.heap.size + 1 + 1) (by omega) (.int .i64 root') (.slice (some ⟨gN', 0, none⟩) us'.length cN')
  have hlt : w.heap.size + 1 + 1 < w2.heap.size := (rowT HR2.out).2.2
  exact end_trE (p := 4) (q := 5) rfl rfl _ _ _ _ _ _ _ rfl rfl rfl hr9 rfl (HE.out _ root' _ us' A0 c.E B0 (((HD.out.ok.t.set hlt _ _).set hlt _ _).mono (by omega)) HZ.out (by rw [← HA.out]; exact HREC.out) HA5.out hu9)
open Go.RowKit
set_option maxHeartbeats 16000000 in
theorem treeEmpty_bad (p' o' f' m' p o f m gg : Int) (s : ByteArray) (w : World) (hE : elemErr p o f m gg s.size ≠ 0) :
    Calls Try.prog 4 #[.agg #[.int .i64 p', .int .i64 o', .int .i64 f', .int .i64 m'], .agg #[.int .i64 p, .int .i64 o, .int .i64 f, .int .i64 m, .int .i64 gg, .string s]] w fun e w' => e = .returned (.bool true) ∧ Calm w w' := by
  have ha := heap_past (.cells #[.int .i64 p, .int .i64 o, .int .i64 f, .int .i64 m, .int .i64 gg, .string s] 33) (heap_new w (.cells #[.int .i64 p', .int .i64 o', .int .i64 f', .int .i64 m'] 47))
  have hb := heap_new (w.alloc (.cells #[.int .i64 p', .int .i64 o', .int .i64 f', .int .i64 m'] 47)) (.cells #[.int .i64 p, .int .i64 o, .int .i64 f, .int .i64 m, .int .i64 gg, .string s] 33)
  rw [World.size_alloc] at hb
  have hu := ((Calm.refl w).alloc (.cells #[.int .i64 p', .int .i64 o', .int .i64 f', .int .i64 m'] 47)).alloc (.cells #[.int .i64 p, .int .i64 o, .int .i64 f, .int .i64 m, .int .i64 gg, .string s] 33)
  have cN := fun u => treeNew_any u
  have cA := fun g u (hg : u.heap[g]? = some (.cells #[.int .i64 1, .slice none 0 0, .slice none 0 0, .slice none 0 0, .slice none 0 0] 60 (0, 0))) => treeAll_any 0 (some ⟨g, 0, none⟩) 1 [ndLeaf] u (leaf_at hg)
  have cF := fun g u (hg : u.heap[g]? = some (.cells #[.int .i64 1, .slice none 0 0, .slice none 0 0, .slice none 0 0, .slice none 0 0] 60 (0, 0))) => findFrom_any 0 (some ⟨g, 0, none⟩) 1 [ndLeaf] u (leaf_at hg) leaf_caps p' o' f' m' 9
  have cS := fun g u (hg : u.heap[g]? = some (.cells #[.int .i64 1, .slice none 0 0, .slice none 0 0, .slice none 0 0, .slice none 0 0] 60 (0, 0))) => findSince_any 0 (some ⟨g, 0, none⟩) 1 [ndLeaf] u (leaf_at hg) 0
  have cP := fun g u (hg : u.heap[g]? = some (.cells #[.int .i64 1, .slice none 0 0, .slice none 0 0, .slice none 0 0, .slice none 0 0] 60 (0, 0))) => findSpot_any 0 (some ⟨g, 0, none⟩) 1 [ndLeaf] u (leaf_at hg) leaf_caps p' o' f' m'
  have cI := fun g u (hg : u.heap[g]? = some (.cells #[.int .i64 1, .slice none 0 0, .slice none 0 0, .slice none 0 0, .slice none 0 0] 60 (0, 0))) => growInsert_any 0 (some ⟨g, 0, none⟩) 1 [ndLeaf] u (leaf_at hg) leaf_caps p o f m gg s
  simp only [List.length_cons, List.length_nil, Nat.zero_add] at cA cF cS cP cI
  simp only [leaf_tree.1, leaf_all, if_true] at cA
  simp only [(leaf_from ⟨p', o', f', m'⟩).1, (leaf_from _).2] at cF
  simp only [leaf_since.1, leaf_since.2, leaf_tree.1] at cS
  unfold SpotEnd at cP
  simp only [(leaf_spot _).1, (leaf_spot _).2, zeroEl] at cP
  have HI := Lib.hid (fun (u u' : World) (e : Ending) (hh : InsEnd [ndLeaf] 0 ⟨p, o, f, m, gg, s⟩ u e u') => (show e = .returned (.tuple #[.agg #[.int .i64 0, .slice none 0 0], .int .i64 (elemErr p o f m gg s.size)]) ∧ Calm u u' from by
    rcases hh with ⟨-, h2, h3⟩ | ⟨h1, -⟩
    · rw [leaf_ins] at h2; exact ⟨h2, h3⟩
    · rw [leaf_ins] at h1; exact absurd h1 hE))
  have cC := fun u => elemCheck_any p o f m gg s u
  have b9 : (elemErr p o f m gg s.size != 0) = true := by rw [bne_iff_ne]; exact hE
  clear hE
  generalize elemErr p o f m gg s.size = R at HI cC b9
  obtain ⟨a0, a1, a2, a3, has⟩ := row4 ha
  obtain ⟨b0, b1, b2, b3, b4, b5, hbs⟩ := row6 hb
  go_enter Try.func4, Try.ntmps4
  go_wp2_with first
    | (go_at_call 15; (with_reducible refine (cN _).mono ?_); rintro e w1 ⟨g, rfl, -, hg, hb1⟩; have ht := heap_new w1 (.cells #[.int .i64 0, .slice (some ⟨g, 0, none⟩) 1 1] 24); replace hg := heap_past (.cells #[.int .i64 0, .slice (some ⟨g, 0, none⟩) 1 1] 24) hg; replace hu := hu.call hb1; replace ha := (hb1.block (row4 ha).2.2.2.2).trans ha; replace hb := (hb1.block (row6 hb).2.2.2.2.2.2).trans hb; replace ha := heap_past (.cells #[.int .i64 0, .slice (some ⟨g, 0, none⟩) 1 1] 24) ha; replace hb := heap_past (.cells #[.int .i64 0, .slice (some ⟨g, 0, none⟩) 1 1] 24) hb; replace hu := hu.alloc (.cells #[.int .i64 0, .slice (some ⟨g, 0, none⟩) 1 1] 24); clear hb1 a0 a1 a2 a3 has b0 b1 b2 b3 b4 b5 hbs; obtain ⟨a0, a1, a2, a3, has⟩ := row4 ha; obtain ⟨b0, b1, b2, b3, b4, b5, hbs⟩ := row6 hb; obtain ⟨t0, t1, hts⟩ := rowT ht)
    | (go_at_call 16; (with_reducible refine (cA g _ hg).mono ?_); rintro e w2 ⟨v, rfl, ho, hb1⟩; obtain ⟨A2, c2, rfl⟩ := own_nil ho; clear ho; replace ha := (hb1.block (row4 ha).2.2.2.2).trans ha; replace hb := (hb1.block (row6 hb).2.2.2.2.2.2).trans hb; replace hu := hu.call hb1; replace ht := (hb1.block (rowT ht).2.2).trans ht; replace hg := (hb1.block (Array.getElem?_eq_some_iff.1 hg).1).trans hg; clear hb1 a0 a1 a2 a3 has b0 b1 b2 b3 b4 b5 hbs t0 t1 hts; obtain ⟨a0, a1, a2, a3, has⟩ := row4 ha; obtain ⟨b0, b1, b2, b3, b4, b5, hbs⟩ := row6 hb; obtain ⟨t0, t1, hts⟩ := rowT ht)
    | (go_at_call 17; (with_reducible refine (cF g _ hg).mono ?_); rintro e w3 ⟨v, rfl, ho, hb1⟩; obtain ⟨A3, c3, rfl⟩ := own_nil ho; clear ho; replace ha := (hb1.block (row4 ha).2.2.2.2).trans ha; replace hb := (hb1.block (row6 hb).2.2.2.2.2.2).trans hb; replace hu := hu.call hb1; replace ht := (hb1.block (rowT ht).2.2).trans ht; replace hg := (hb1.block (Array.getElem?_eq_some_iff.1 hg).1).trans hg; clear hb1 a0 a1 a2 a3 has b0 b1 b2 b3 b4 b5 hbs t0 t1 hts; obtain ⟨a0, a1, a2, a3, has⟩ := row4 ha; obtain ⟨b0, b1, b2, b3, b4, b5, hbs⟩ := row6 hb; obtain ⟨t0, t1, hts⟩ := rowT ht)
    | (go_at_call 18; (with_reducible refine (cS g _ hg).mono ?_); rintro e w4 ⟨v, rfl, ho, hb1⟩; obtain ⟨A4, c4, rfl⟩ := own_nil ho; clear ho; replace ha := (hb1.block (row4 ha).2.2.2.2).trans ha; replace hb := (hb1.block (row6 hb).2.2.2.2.2.2).trans hb; replace hu := hu.call hb1; replace ht := (hb1.block (rowT ht).2.2).trans ht; replace hg := (hb1.block (Array.getElem?_eq_some_iff.1 hg).1).trans hg; clear hb1 a0 a1 a2 a3 has b0 b1 b2 b3 b4 b5 hbs t0 t1 hts; obtain ⟨a0, a1, a2, a3, has⟩ := row4 ha; obtain ⟨b0, b1, b2, b3, b4, b5, hbs⟩ := row6 hb; obtain ⟨t0, t1, hts⟩ := rowT ht)
    | (go_at_call 19; (with_reducible refine (cP g _ hg).mono ?_); rintro e w5 ⟨rfl, hb1⟩; replace ha := (hb1.block (row4 ha).2.2.2.2).trans ha; replace hb := (hb1.block (row6 hb).2.2.2.2.2.2).trans hb; replace hu := hu.call hb1; replace ht := (hb1.block (rowT ht).2.2).trans ht; replace hg := (hb1.block (Array.getElem?_eq_some_iff.1 hg).1).trans hg; clear hb1 a0 a1 a2 a3 has b0 b1 b2 b3 b4 b5 hbs t0 t1 hts; obtain ⟨a0, a1, a2, a3, has⟩ := row4 ha; obtain ⟨b0, b1, b2, b3, b4, b5, hbs⟩ := row6 hb; obtain ⟨t0, t1, hts⟩ := rowT ht; replace ha := heap_past (.cells #[.int .i64 0, .int .i64 0, .int .i64 0, .int .i64 0, .int .i64 0, .string { data := #[] }] 33) ha; replace hb := heap_past (.cells #[.int .i64 0, .int .i64 0, .int .i64 0, .int .i64 0, .int .i64 0, .string { data := #[] }] 33) hb; replace hu := hu.alloc (.cells #[.int .i64 0, .int .i64 0, .int .i64 0, .int .i64 0, .int .i64 0, .string { data := #[] }] 33); replace ht := heap_past (.cells #[.int .i64 0, .int .i64 0, .int .i64 0, .int .i64 0, .int .i64 0, .string { data := #[] }] 33) ht; replace hg := heap_past (.cells #[.int .i64 0, .int .i64 0, .int .i64 0, .int .i64 0, .int .i64 0, .string { data := #[] }] 33) hg; clear a0 a1 a2 a3 has b0 b1 b2 b3 b4 b5 hbs t0 t1 hts; obtain ⟨a0, a1, a2, a3, has⟩ := row4 ha; obtain ⟨b0, b1, b2, b3, b4, b5, hbs⟩ := row6 hb; obtain ⟨t0, t1, hts⟩ := rowT ht)
    | (go_at_call 20; (with_reducible refine (cI g _ hg).mono ?_); rintro e w6 hi; obtain ⟨rfl, hb1⟩ := HI.out _ _ _ hi; clear hi cI; replace ha := (hb1.block (row4 ha).2.2.2.2).trans ha; replace hb := (hb1.block (row6 hb).2.2.2.2.2.2).trans hb; replace hu := hu.call hb1; replace ht := (hb1.block (rowT ht).2.2).trans ht; replace hg := (hb1.block (Array.getElem?_eq_some_iff.1 hg).1).trans hg; clear hb1 a0 a1 a2 a3 has b0 b1 b2 b3 b4 b5 hbs t0 t1 hts; obtain ⟨a0, a1, a2, a3, has⟩ := row4 ha; obtain ⟨b0, b1, b2, b3, b4, b5, hbs⟩ := row6 hb; obtain ⟨t0, t1, hts⟩ := rowT ht; have hv := heap_new w6 (.cells #[.int .i64 0, .slice none 0 0] 24); replace ha := heap_past (.cells #[.int .i64 0, .slice none 0 0] 24) ha; replace hb := heap_past (.cells #[.int .i64 0, .slice none 0 0] 24) hb; replace hu := hu.alloc (.cells #[.int .i64 0, .slice none 0 0] 24); replace ht := heap_past (.cells #[.int .i64 0, .slice none 0 0] 24) ht; replace hg := heap_past (.cells #[.int .i64 0, .slice none 0 0] 24) hg; clear a0 a1 a2 a3 has b0 b1 b2 b3 b4 b5 hbs t0 t1 hts; obtain ⟨a0, a1, a2, a3, has⟩ := row4 ha; obtain ⟨b0, b1, b2, b3, b4, b5, hbs⟩ := row6 hb; obtain ⟨t0, t1, hts⟩ := rowT ht; obtain ⟨v0, v1, hvs⟩ := rowT hv)
    | (go_at_call 21; (with_reducible refine (cC _).mono ?_); rintro e w7 ⟨rfl, hb1⟩; replace hu := hu.call hb1)
  go_ret
  exact ⟨rfl, hu⟩
set_option maxHeartbeats 16000000 in
theorem treeEmpty_ok (p' o' f' m' p o f m gg : Int) (s : ByteArray) (w : World) (hm : -9223372036854775808 ≤ m) (hE : elemErr p o f m gg s.size = 0) :
    Calls Try.prog 4 #[.agg #[.int .i64 p', .int .i64 o', .int .i64 f', .int .i64 m'], .agg #[.int .i64 p, .int .i64 o, .int .i64 f, .int .i64 m, .int .i64 gg, .string s]] w fun e w' => e = .returned (.bool true) ∧ Calm w w' := by
  have ha := heap_past (.cells #[.int .i64 p, .int .i64 o, .int .i64 f, .int .i64 m, .int .i64 gg, .string s] 33) (heap_new w (.cells #[.int .i64 p', .int .i64 o', .int .i64 f', .int .i64 m'] 47))
  have hb := heap_new (w.alloc (.cells #[.int .i64 p', .int .i64 o', .int .i64 f', .int .i64 m'] 47)) (.cells #[.int .i64 p, .int .i64 o, .int .i64 f, .int .i64 m, .int .i64 gg, .string s] 33)
  rw [World.size_alloc] at hb
  have hu := ((Calm.refl w).alloc (.cells #[.int .i64 p', .int .i64 o', .int .i64 f', .int .i64 m'] 47)).alloc (.cells #[.int .i64 p, .int .i64 o, .int .i64 f, .int .i64 m, .int .i64 gg, .string s] 33)
  have cN := fun u => treeNew_any u
  have cA := fun g u (hg : u.heap[g]? = some (.cells #[.int .i64 1, .slice none 0 0, .slice none 0 0, .slice none 0 0, .slice none 0 0] 60 (0, 0))) => treeAll_any 0 (some ⟨g, 0, none⟩) 1 [ndLeaf] u (leaf_at hg)
  have cF := fun g u (hg : u.heap[g]? = some (.cells #[.int .i64 1, .slice none 0 0, .slice none 0 0, .slice none 0 0, .slice none 0 0] 60 (0, 0))) => findFrom_any 0 (some ⟨g, 0, none⟩) 1 [ndLeaf] u (leaf_at hg) leaf_caps p' o' f' m' 9
  have cS := fun g u (hg : u.heap[g]? = some (.cells #[.int .i64 1, .slice none 0 0, .slice none 0 0, .slice none 0 0, .slice none 0 0] 60 (0, 0))) => findSince_any 0 (some ⟨g, 0, none⟩) 1 [ndLeaf] u (leaf_at hg) 0
  have cP := fun g u (hg : u.heap[g]? = some (.cells #[.int .i64 1, .slice none 0 0, .slice none 0 0, .slice none 0 0, .slice none 0 0] 60 (0, 0))) => findSpot_any 0 (some ⟨g, 0, none⟩) 1 [ndLeaf] u (leaf_at hg) leaf_caps p' o' f' m'
  have cI := fun g u (hg : u.heap[g]? = some (.cells #[.int .i64 1, .slice none 0 0, .slice none 0 0, .slice none 0 0, .slice none 0 0] 60 (0, 0))) => growInsert_any 0 (some ⟨g, 0, none⟩) 1 [ndLeaf] u (leaf_at hg) leaf_caps p o f m gg s
  simp only [List.length_cons, List.length_nil, Nat.zero_add] at cA cF cS cP cI
  simp only [leaf_tree.1, leaf_all, if_true] at cA
  simp only [(leaf_from ⟨p', o', f', m'⟩).1, (leaf_from _).2] at cF
  simp only [leaf_since.1, leaf_since.2, leaf_tree.1] at cS
  unfold SpotEnd at cP
  simp only [(leaf_spot _).1, (leaf_spot _).2, zeroEl] at cP
  have HI := Lib.hid (fun (u u' : World) (e : Ending) (hh : InsEnd [ndLeaf] 0 ⟨p, o, f, m, gg, s⟩ u e u') => first_ins hh ((leaf_ins _).trans hE))
  have HE := Lib.hid hE
  have HWF : Hid (∀ e ∈ [(⟨p, o, f, m, gg, s⟩ : El)], e.wf) := show ∀ e ∈ _, _ from fun e he => by rw [List.mem_singleton.1 he]; exact hm
  clear hE hm
  obtain ⟨a0, a1, a2, a3, has⟩ := row4 ha
  obtain ⟨b0, b1, b2, b3, b4, b5, hbs⟩ := row6 hb
  go_enter Try.func4, Try.ntmps4
  go_upto_region 13 with first
    | (go_at_call 15; (with_reducible refine (cN _).mono ?_); rintro e w1 ⟨g, rfl, -, hg, hb1⟩; have ht := heap_new w1 (.cells #[.int .i64 0, .slice (some ⟨g, 0, none⟩) 1 1] 24); replace hg := heap_past (.cells #[.int .i64 0, .slice (some ⟨g, 0, none⟩) 1 1] 24) hg; replace hu := hu.call hb1; replace ha := (hb1.block (row4 ha).2.2.2.2).trans ha; replace hb := (hb1.block (row6 hb).2.2.2.2.2.2).trans hb; replace ha := heap_past (.cells #[.int .i64 0, .slice (some ⟨g, 0, none⟩) 1 1] 24) ha; replace hb := heap_past (.cells #[.int .i64 0, .slice (some ⟨g, 0, none⟩) 1 1] 24) hb; replace hu := hu.alloc (.cells #[.int .i64 0, .slice (some ⟨g, 0, none⟩) 1 1] 24); clear hb1 a0 a1 a2 a3 has b0 b1 b2 b3 b4 b5 hbs; obtain ⟨a0, a1, a2, a3, has⟩ := row4 ha; obtain ⟨b0, b1, b2, b3, b4, b5, hbs⟩ := row6 hb; obtain ⟨t0, t1, hts⟩ := rowT ht)
    | (go_at_call 16; (with_reducible refine (cA g _ hg).mono ?_); rintro e w2 ⟨v, rfl, ho, hb1⟩; obtain ⟨A2, c2, rfl⟩ := own_nil ho; clear ho; replace ha := (hb1.block (row4 ha).2.2.2.2).trans ha; replace hb := (hb1.block (row6 hb).2.2.2.2.2.2).trans hb; replace hu := hu.call hb1; replace ht := (hb1.block (rowT ht).2.2).trans ht; replace hg := (hb1.block (Array.getElem?_eq_some_iff.1 hg).1).trans hg; clear hb1 a0 a1 a2 a3 has b0 b1 b2 b3 b4 b5 hbs t0 t1 hts; obtain ⟨a0, a1, a2, a3, has⟩ := row4 ha; obtain ⟨b0, b1, b2, b3, b4, b5, hbs⟩ := row6 hb; obtain ⟨t0, t1, hts⟩ := rowT ht)
    | (go_at_call 17; (with_reducible refine (cF g _ hg).mono ?_); rintro e w3 ⟨v, rfl, ho, hb1⟩; obtain ⟨A3, c3, rfl⟩ := own_nil ho; clear ho; replace ha := (hb1.block (row4 ha).2.2.2.2).trans ha; replace hb := (hb1.block (row6 hb).2.2.2.2.2.2).trans hb; replace hu := hu.call hb1; replace ht := (hb1.block (rowT ht).2.2).trans ht; replace hg := (hb1.block (Array.getElem?_eq_some_iff.1 hg).1).trans hg; clear hb1 a0 a1 a2 a3 has b0 b1 b2 b3 b4 b5 hbs t0 t1 hts; obtain ⟨a0, a1, a2, a3, has⟩ := row4 ha; obtain ⟨b0, b1, b2, b3, b4, b5, hbs⟩ := row6 hb; obtain ⟨t0, t1, hts⟩ := rowT ht)
    | (go_at_call 18; (with_reducible refine (cS g _ hg).mono ?_); rintro e w4 ⟨v, rfl, ho, hb1⟩; obtain ⟨A4, c4, rfl⟩ := own_nil ho; clear ho; replace ha := (hb1.block (row4 ha).2.2.2.2).trans ha; replace hb := (hb1.block (row6 hb).2.2.2.2.2.2).trans hb; replace hu := hu.call hb1; replace ht := (hb1.block (rowT ht).2.2).trans ht; replace hg := (hb1.block (Array.getElem?_eq_some_iff.1 hg).1).trans hg; clear hb1 a0 a1 a2 a3 has b0 b1 b2 b3 b4 b5 hbs t0 t1 hts; obtain ⟨a0, a1, a2, a3, has⟩ := row4 ha; obtain ⟨b0, b1, b2, b3, b4, b5, hbs⟩ := row6 hb; obtain ⟨t0, t1, hts⟩ := rowT ht)
    | (go_at_call 19; (with_reducible refine (cP g _ hg).mono ?_); rintro e w5 ⟨rfl, hb1⟩; replace ha := (hb1.block (row4 ha).2.2.2.2).trans ha; replace hb := (hb1.block (row6 hb).2.2.2.2.2.2).trans hb; replace hu := hu.call hb1; replace ht := (hb1.block (rowT ht).2.2).trans ht; replace hg := (hb1.block (Array.getElem?_eq_some_iff.1 hg).1).trans hg; clear hb1 a0 a1 a2 a3 has b0 b1 b2 b3 b4 b5 hbs t0 t1 hts; obtain ⟨a0, a1, a2, a3, has⟩ := row4 ha; obtain ⟨b0, b1, b2, b3, b4, b5, hbs⟩ := row6 hb; obtain ⟨t0, t1, hts⟩ := rowT ht; replace ha := heap_past (.cells #[.int .i64 0, .int .i64 0, .int .i64 0, .int .i64 0, .int .i64 0, .string { data := #[] }] 33) ha; replace hb := heap_past (.cells #[.int .i64 0, .int .i64 0, .int .i64 0, .int .i64 0, .int .i64 0, .string { data := #[] }] 33) hb; replace hu := hu.alloc (.cells #[.int .i64 0, .int .i64 0, .int .i64 0, .int .i64 0, .int .i64 0, .string { data := #[] }] 33); replace ht := heap_past (.cells #[.int .i64 0, .int .i64 0, .int .i64 0, .int .i64 0, .int .i64 0, .string { data := #[] }] 33) ht; replace hg := heap_past (.cells #[.int .i64 0, .int .i64 0, .int .i64 0, .int .i64 0, .int .i64 0, .string { data := #[] }] 33) hg; clear a0 a1 a2 a3 has b0 b1 b2 b3 b4 b5 hbs t0 t1 hts; obtain ⟨a0, a1, a2, a3, has⟩ := row4 ha; obtain ⟨b0, b1, b2, b3, b4, b5, hbs⟩ := row6 hb; obtain ⟨t0, t1, hts⟩ := rowT ht)
    | (go_at_call 20; (with_reducible refine (cI g _ hg).mono ?_); rintro e w6 hi; obtain ⟨root', A', c', us', rfl, hT, hz, hal, hb1⟩ := HI.out _ _ _ hi; have HT := Lib.hid (hT.calm ((Calm.refl w6).alloc (.cells #[.int .i64 root', .slice A' us'.length c'] 24))); have HZ := Lib.hid hz; have HAL := Lib.hid hal; clear hi cI hT hz hal; replace ha := (hb1.block (row4 ha).2.2.2.2).trans ha; replace hb := (hb1.block (row6 hb).2.2.2.2.2.2).trans hb; replace hu := hu.call hb1; replace ht := (hb1.block (rowT ht).2.2).trans ht; replace hg := (hb1.block (Array.getElem?_eq_some_iff.1 hg).1).trans hg; clear hb1 a0 a1 a2 a3 has b0 b1 b2 b3 b4 b5 hbs t0 t1 hts; obtain ⟨a0, a1, a2, a3, has⟩ := row4 ha; obtain ⟨b0, b1, b2, b3, b4, b5, hbs⟩ := row6 hb; obtain ⟨t0, t1, hts⟩ := rowT ht; have hv := heap_new w6 (.cells #[.int .i64 root', .slice A' us'.length c'] 24); replace ha := heap_past (.cells #[.int .i64 root', .slice A' us'.length c'] 24) ha; replace hb := heap_past (.cells #[.int .i64 root', .slice A' us'.length c'] 24) hb; replace hu := hu.alloc (.cells #[.int .i64 root', .slice A' us'.length c'] 24); replace ht := heap_past (.cells #[.int .i64 root', .slice A' us'.length c'] 24) ht; replace hg := heap_past (.cells #[.int .i64 root', .slice A' us'.length c'] 24) hg; clear a0 a1 a2 a3 has b0 b1 b2 b3 b4 b5 hbs t0 t1 hts; obtain ⟨a0, a1, a2, a3, has⟩ := row4 ha; obtain ⟨b0, b1, b2, b3, b4, b5, hbs⟩ := row6 hb; obtain ⟨t0, t1, hts⟩ := rowT ht; obtain ⟨v0, v1, hvs⟩ := rowT hv; have hk := Calm.refl (w6.alloc (.cells #[.int .i64 root', .slice A' us'.length c'] 24)))
  have hz := HZ.out
  have hl4 : us'.length ≤ 400 := (tree_good hz).1
  have cA2 := fun u (hu : Calm _ u) => treeAll_any root' A' c' us' u ((HT.out.at_ (by omega)).calm hu)
  have cI2 := fun u (hu : Calm _ u) => growInsert_any root' A' c' us' u ((HT.out.at_ (by omega)).calm hu) (own_caps HT.out) p o f m gg s
  have HI2 := Lib.hid (fun (u u' : World) (e : Ending) (hh : InsEnd us' root' ⟨p, o, f, m, gg, s⟩ u e u') => (show e = .returned (.tuple #[.agg #[.int .i64 0, .slice none 0 0], .int .i64 5]) ∧ Calm u u' from by
    have h5 : insErr us' root' ⟨p, o, f, m, gg, s⟩ = 5 := ins_again HZ.out HAL.out HE.out
    rcases hh with ⟨-, h2, h3⟩ | ⟨h1, -⟩
    · rw [h5] at h2; exact ⟨h2, h3⟩
    · rw [h5] at h1; exact absurd h1 (by decide)))
  rw [hz] at cA2
  simp only [HAL.out, if_true] at cA2
  clear hz hl4 cA cF cS cP cN ht hg t0 t1 hts HI
  go_wp2_with first
    | (go_at_call 16; (with_reducible refine (cA2 _ hk).mono ?_); rintro e w7 ⟨v, rfl, ho, hb1⟩; obtain ⟨A7, c7, hv7, -, -, hl7⟩ := ho.lies HWF.out; subst hv7; have HL7 := Lib.hid hl7; replace hk := hk.call hb1; replace hv := (hb1.block (rowT hv).2.2).trans hv; clear ho hl7 v0 v1 hvs; replace ha := (hb1.block (row4 ha).2.2.2.2).trans ha; replace hb := (hb1.block (row6 hb).2.2.2.2.2.2).trans hb; replace hu := hu.call hb1; clear hb1 a0 a1 a2 a3 has b0 b1 b2 b3 b4 b5 hbs; obtain ⟨a0, a1, a2, a3, has⟩ := row4 ha; obtain ⟨b0, b1, b2, b3, b4, b5, hbs⟩ := row6 hb; obtain ⟨v0, v1, hvs⟩ := rowT hv)
    | (go_at_call 20; (with_reducible refine (cI2 _ hk).mono ?_); rintro e w8 hi; obtain ⟨rfl, hb1⟩ := HI2.out _ _ _ hi; have HL8 := Lib.hid (HL7.out.calm hb1); clear hi; replace ha := (hb1.block (row4 ha).2.2.2.2).trans ha; replace hb := (hb1.block (row6 hb).2.2.2.2.2.2).trans hb; replace hu := hu.call hb1; clear hb1 a0 a1 a2 a3 has b0 b1 b2 b3 b4 b5 hbs; obtain ⟨a0, a1, a2, a3, has⟩ := row4 ha; obtain ⟨b0, b1, b2, b3, b4, b5, hbs⟩ := row6 hb)
    | (go_at_call 13; have cE := equal_self A7 (some ⟨w8.heap.size, 0, none⟩) c7 1 [⟨p, o, f, m, gg, s⟩] _ (by simp) (HL8.out.calm ((Calm.refl _).alloc _)) (lies_row1 (heap_new w8 _) HWF.out); simp only [List.length_cons, List.length_nil, Nat.zero_add] at cE; (with_reducible refine cE.mono ?_); rintro e w9 ⟨rfl, hb9⟩; have hu10 := (hu.alloc _).call hb9)
  go_ret
  exact ⟨rfl, hu10⟩
theorem treeEmpty_walk (p' o' f' m' p o f m gg : Int) (s : ByteArray) (w : World) (hm : -9223372036854775808 ≤ m) :
    Calls Try.prog 4 #[.agg #[.int .i64 p', .int .i64 o', .int .i64 f', .int .i64 m'], .agg #[.int .i64 p, .int .i64 o, .int .i64 f, .int .i64 m, .int .i64 gg, .string s]] w fun e w' => e = .returned (.bool true) ∧ Calm w w' := by
  by_cases hE : elemErr p o f m gg s.size = 0
  · exact treeEmpty_ok p' o' f' m' p o f m gg s w hm hE
  · exact treeEmpty_bad p' o' f' m' p o f m gg s w hE
end Go.Proofs.Ytgebilpdinbfgaa
