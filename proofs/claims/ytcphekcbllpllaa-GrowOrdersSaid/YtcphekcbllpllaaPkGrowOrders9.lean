/- Texts of one kind in one file. -/
import Derived.Test.YtcphekcbllpllaaPkGrowOrders8
set_option maxRecDepth 100000
namespace Go.Proofs.Ytcphekcbllpllaa
open Go.RowKit
set_option maxHeartbeats 16000000 in
theorem growInsert_any (root : Int) (A : Option Addr) (cA : Nat) (l : List Nd) (w : World) (h : TrAt w A l) (hcap : ∀ n ∈ l, NdCaps n) (p o f m gg : Int) (s : ByteArray) :
    Calls Try.prog 21 #[.agg #[.int .i64 root, .slice A l.length cA], .agg #[.int .i64 p, .int .i64 o, .int .i64 f, .int .i64 m, .int .i64 gg, .string s]] w (InsEnd l root ⟨p, o, f, m, gg, s⟩ w) := by
  have hx := heap_past (.cells #[.int .i64 0, .slice none 0 0] 24) (heap_past (.cells #[.int .i64 p, .int .i64 o, .int .i64 f, .int .i64 m, .int .i64 gg, .string s] 29) (heap_new w (.cells #[.int .i64 root, .slice A l.length cA] 24)))
  have hy := heap_past (.cells #[.int .i64 0, .slice none 0 0] 24) (heap_new (w.alloc (.cells #[.int .i64 root, .slice A l.length cA] 24)) (.cells #[.int .i64 p, .int .i64 o, .int .i64 f, .int .i64 m, .int .i64 gg, .string s] 29))
  have hr := heap_new ((w.alloc (.cells #[.int .i64 root, .slice A l.length cA] 24)).alloc (.cells #[.int .i64 p, .int .i64 o, .int .i64 f, .int .i64 m, .int .i64 gg, .string s] 29)) (.cells #[.int .i64 0, .slice none 0 0] 24)
  rw [World.size_alloc] at hy hr
  rw [World.size_alloc] at hr
  have hu := (((Calm.refl w).alloc (.cells #[.int .i64 root, .slice A l.length cA] 24)).alloc (.cells #[.int .i64 p, .int .i64 o, .int .i64 f, .int .i64 m, .int .i64 gg, .string s] 29)).alloc (.cells #[.int .i64 0, .slice none 0 0] 24)
  have cG := fun u (hu : Calm w u) => growLook_any root A cA l u (h.calm hu) hcap p o f m gg s
  have cT := fun u (hu : Calm w u) => treeAll_any root A cA l u (h.calm hu)
  obtain ⟨x0, x1, hxs⟩ := rowT hx
  obtain ⟨y0, y1, y2, y3, y4, y5, hys⟩ := row6 hy
  by_cases h1 : growErr l root ⟨p, o, f, m, gg, s⟩ = 0
  rotate_left
  · have e0 : insErr l root ⟨p, o, f, m, gg, s⟩ = growErr l root ⟨p, o, f, m, gg, s⟩ := by unfold insErr; rw [if_pos h1]
    have b1 : (growErr l root ⟨p, o, f, m, gg, s⟩ != 0) = true := by rw [bne_iff_ne]; exact h1
    have HE : Hid (∀ w', Calm w w' → InsEnd l root ⟨p, o, f, m, gg, s⟩ w (.returned (.tuple #[.agg #[.int .i64 0, .slice none 0 0], .int .i64 (growErr l root ⟨p, o, f, m, gg, s⟩)])) w') := show ∀ _, _ from fun w' hw => .inl ⟨by rw [e0]; exact h1, by rw [e0], hw⟩
    clear h1 e0 cT h hcap
    generalize growErr l root ⟨p, o, f, m, gg, s⟩ = R at cG b1 HE
    generalize growIs l root ⟨p, o, f, m, gg, s⟩ = I at cG
    go_enter Try.func21, Try.ntmps21
    go_wp2_with (go_at_call 44; (with_reducible refine (cG _ hu).mono ?_); rintro e w1 ⟨rfl, hb1⟩; have hr1 := (hb1.block (rowT hr).2.2).trans hr; have hx1 := (hb1.block (rowT hx).2.2).trans hx; have hu1 := hu.call hb1; obtain ⟨r0, r1, hrs⟩ := rowT hr1; obtain ⟨f0, f1⟩ := freeT2 hr1; clear hb1 x0 x1 hxs; obtain ⟨x0, x1, hxs⟩ := rowT hx1)
    have hr9 := setT2 hr1 (.int .i64 0) (.slice none 0 0)
    have hu9 := hu1.twoT (g := w.heap.size + 1 + 1) (by omega) (.int .i64 0) (.slice none 0 0)
    exact end_trE (p := 4) (q := 5) rfl rfl _ _ _ _ _ _ _ rfl rfl rfl hr9 rfl (HE.out _ hu9)
  have e0 : insErr l root ⟨p, o, f, m, gg, s⟩ = if growIs l root ⟨p, o, f, m, gg, s⟩ = true then 5 else if 400 ≤ (allOf l root).length then 8 else 0 := by unfold insErr; rw [if_neg (by simpa using h1)]
  have hz : treeErr l root = 0 := by
    by_cases hz : treeErr l root = 0
    · exact hz
    · unfold growErr at h1; rw [if_pos hz] at h1; exact absurd h1 hz
  rw [h1] at cG
  by_cases h2 : growIs l root ⟨p, o, f, m, gg, s⟩ = true
  · rw [if_pos h2] at e0
    have HE : Hid (∀ w', Calm w w' → InsEnd l root ⟨p, o, f, m, gg, s⟩ w (.returned (.tuple #[.agg #[.int .i64 0, .slice none 0 0], .int .i64 5])) w') := show ∀ _, _ from fun w' hw => .inl ⟨by rw [e0]; decide, by rw [e0], hw⟩
    rw [h2] at cG
    clear h1 e0 cT h hcap hz h2
    go_enter Try.func21, Try.ntmps21
    go_wp2_with (go_at_call 44; (with_reducible refine (cG _ hu).mono ?_); rintro e w1 ⟨rfl, hb1⟩; have hr1 := (hb1.block (rowT hr).2.2).trans hr; have hx1 := (hb1.block (rowT hx).2.2).trans hx; have hu1 := hu.call hb1; obtain ⟨r0, r1, hrs⟩ := rowT hr1; obtain ⟨f0, f1⟩ := freeT2 hr1; clear hb1 x0 x1 hxs; obtain ⟨x0, x1, hxs⟩ := rowT hx1)
    have hr9 := setT2 hr1 (.int .i64 0) (.slice none 0 0)
    have hu9 := hu1.twoT (g := w.heap.size + 1 + 1) (by omega) (.int .i64 0) (.slice none 0 0)
    exact end_trE (p := 4) (q := 5) rfl rfl _ _ _ _ _ _ _ rfl rfl rfl hr9 rfl (HE.out _ hu9)
  rw [if_neg h2] at e0
  have h2' : growIs l root ⟨p, o, f, m, gg, s⟩ = false := by simpa using h2
  rw [h2'] at cG
  simp only [hz, if_true] at cT
  by_cases h3 : 400 ≤ (allOf l root).length
  · rw [if_pos h3] at e0
    have HE : Hid (∀ w', Calm w w' → InsEnd l root ⟨p, o, f, m, gg, s⟩ w (.returned (.tuple #[.agg #[.int .i64 0, .slice none 0 0], .int .i64 8])) w') := show ∀ _, _ from fun w' hw => .inl ⟨by rw [e0]; decide, by rw [e0], hw⟩
    generalize allOf l root = R at cT h3
    have b3 : (400 : Int) ≤ (R.length : Int) := by omega
    clear h1 e0 h hcap hz h2 h2'
    go_enter Try.func21, Try.ntmps21
    go_wp2_with first
      | (go_at_call 44; (with_reducible refine (cG _ hu).mono ?_); rintro e w1 ⟨rfl, hb1⟩; have hr1 := (hb1.block (rowT hr).2.2).trans hr; have hx1 := (hb1.block (rowT hx).2.2).trans hx; have hu1 := hu.call hb1; obtain ⟨r0, r1, hrs⟩ := rowT hr1; obtain ⟨f0, f1⟩ := freeT2 hr1; clear hb1 x0 x1 hxs; obtain ⟨x0, x1, hxs⟩ := rowT hx1)
      | (go_at_call 13; (with_reducible refine (cT _ hu1).mono ?_); rintro e w2 ⟨v9, rfl, ho9, hb2⟩; have hv := rows_slice ho9; obtain ⟨A9, c9, rfl⟩ := hv; have hr2 := (hb2.block (rowT hr1).2.2).trans hr1; have hu2 := hu1.call hb2; clear hb2 ho9 r0 r1 hrs f0 f1 x0 x1 hxs; obtain ⟨r0, r1, hrs⟩ := rowT hr2; obtain ⟨f0, f1⟩ := freeT2 hr2)
    have hr9 := setT2 hr2 (.int .i64 0) (.slice none 0 0)
    have hu9 := hu2.twoT (g := w.heap.size + 1 + 1) (by omega) (.int .i64 0) (.slice none 0 0)
    exact end_trE (p := 4) (q := 5) rfl rfl _ _ _ _ _ _ _ rfl rfl rfl hr9 rfl (HE.out _ hu9)
  rw [if_neg h3] at e0
  have hG := treeErr_zero.1 hz
  obtain ⟨hl4, hok, -, -, -, D, hD, -⟩ := id hG
  have hDe := depthOf_eq hok hD
  have hEl : (⟨p, o, f, m, gg, s⟩ : El).err = 0 := by
    unfold growErr at h1; rw [if_neg (by simpa using hz)] at h1; exact h1
  have hso : ∀ a ∈ allOf l root, a.sp ≠ ⟨p, o, f, m⟩ := spot_out (by
    unfold growIs at h2'
    rw [h1] at h2'
    have h5 := of_decide_eq_false h2'
    have h6 : spotErr l root ⟨p, o, f, m⟩ ≠ 0 := fun h => h5 ⟨rfl, h⟩
    unfold spotErr at h6
    rw [if_neg (by simpa using hz)] at h6
    cases h7 : (spotAt (allOf l root) ⟨p, o, f, m⟩).isSome with
    | false => rfl
    | true => rw [h7] at h6; exact absurd rfl h6)
  have hD4 : D ≤ 400 := by
    obtain ⟨d, n, g1, -⟩ := good_wide hz
    have := good_low hz g1
    omega
  have cTo := fun u (hu : Calm w u) => to_any root A cA l u (h.calm hu) hok hl4 D hD4 hD p o f m
  obtain ⟨W, hW⟩ : ∃ W, W = wayOf l ⟨p, o, f, m⟩ D root := ⟨_, rfl⟩
  rw [← hW] at cTo
  have HE : Hid (∀ w' root' v us' A0 E B0, TOwn w.heap.size w' v us' → treeErr us' root' = 0 → allOf l root = A0 ++ E ++ B0 → allOf us' root' = A0 ++ insL E (posE E ⟨p, o, f, m⟩) ⟨p, o, f, m, gg, s⟩ ++ B0 → Calm w w' → InsEnd l root ⟨p, o, f, m, gg, s⟩ w (.returned (.tuple #[.agg #[.int .i64 root', v], .int .i64 0])) w') := show ∀ _, _ from fun w' root' v us' A0 E B0 a1 a2 a3 a4 a5 => .inr ⟨e0, root', v, us', A0, E, B0, rfl, a1, a2, a3, a4, a5⟩
  have HF : Hid (treeErr l root = 0 ∧ (allOf l root).length < 400 ∧ (⟨p, o, f, m, gg, s⟩ : El).err = 0 ∧ (∀ a ∈ allOf l root, a.sp ≠ ⟨p, o, f, m⟩) ∧ NdsOk l ∧ Deep l D root ∧ W = wayOf l ⟨p, o, f, m⟩ D root) := show _ ∧ _ from ⟨hz, by omega, hEl, hso, hok, hD, hW⟩
  have b3 : ¬ (400 : Int) ≤ ((allOf l root).length : Int) := by omega
  obtain ⟨n9, hn9⟩ : ∃ n, n = (allOf l root).length := ⟨_, rfl⟩
  generalize allOf l root = R9 at cT b3
  clear h1 e0 h hcap hz h2 h2' h3 hG hl4 hok hD hDe hEl hso hD4 hW n9 hn9
  go_enter Try.func21, Try.ntmps21
  generalize hQ0 : bodyPost Try.prog Try.f21 (InsEnd l root ⟨p, o, f, m, gg, s⟩ w) = Q0
  have HRET : Hid (∀ a w', bodyPost Try.prog Try.f21 (InsEnd l root ⟨p, o, f, m, gg, s⟩ w) .ret a w' → Q0 .ret a w') := show ∀ a w', _ → _ from fun a w' h => hQ0 ▸ h
  clear hQ0
  go_upto_region 9 with first
      | (go_at_call 44; (with_reducible refine (cG _ hu).mono ?_); rintro e w1 ⟨rfl, hb1⟩; have hr1 := (hb1.block (rowT hr).2.2).trans hr; have hx1 := (hb1.block (rowT hx).2.2).trans hx; have hy1 := (hb1.block (row6 hy).2.2.2.2.2.2).trans hy; have hu1 := hu.call hb1; obtain ⟨r0, r1, hrs⟩ := rowT hr1; obtain ⟨f0, f1⟩ := freeT2 hr1; clear hb1 x0 x1 hxs y0 y1 y2 y3 y4 y5 hys; obtain ⟨x0, x1, hxs⟩ := rowT hx1)
      | (go_at_call 13; (with_reducible refine (cT _ hu1).mono ?_); rintro e w2 ⟨v9, rfl, ho9, hb2⟩; have hv := rows_slice ho9; obtain ⟨A9, c9, rfl⟩ := hv; have hr2 := (hb2.block (rowT hr1).2.2).trans hr1; have hx2 := (hb2.block (rowT hx1).2.2).trans hx1; have hy2 := (hb2.block (row6 hy1).2.2.2.2.2.2).trans hy1; have hu2 := hu1.call hb2; clear hb2 ho9 r0 r1 hrs f0 f1 x0 x1 hxs)
  have HU2 := Lib.hid hu2
  have hxl := (rowT hx2).2.2
  have hyl := (row6 hy2).2.2.2.2.2.2
  clear cG cT hx hy hr hu hu1 hx1 hy1 hr1 b3 hu2
  refine wp_region_stages [.val (.agg #[.int .i64 root, .slice A l.length cA]), .val (.agg #[.int .i64 p, .int .i64 o, .int .i64 f, .int .i64 m, .int .i64 gg, .string s]), .val (.agg #[.int .i64 p, .int .i64 o, .int .i64 f, .int .i64 m]), .late, .late, .late [3, 4]] [3, 4, 5]
    (StG w2 w2.heap.size l root W) (by kernel_rfl) (by kernel_rfl) (by kernel_rfl) StG.stay (fun Y => .inl ⟨_, _, .slice none 0 0, .slice none 0 0, [], rfl, PreG.start (Nat.le_refl _) (Calm.refl _).drew⟩) (fun Y => ?_)
  refine planS_val (by kernel_rfl) (fun L u hb hS => ?_) ?_
  · obtain ⟨x0, x1, hxs⟩ := rowT ((hS.calm.block hxl).trans hx2)
    clear hS hb
    go_simp
  simp only [Act.put, List.setIfInBounds_toArray, List.set_cons_zero, List.set_cons_succ, Nat.reduceAdd]
  refine planS_val (by kernel_rfl) (fun L u hb hS => ?_) ?_
  · obtain ⟨y0, y1, y2, y3, y4, y5, hys⟩ := row6 ((hS.calm.block hyl).trans hy2)
    clear hS hb
    go_simp
  simp only [Act.put, List.setIfInBounds_toArray, List.set_cons_zero, List.set_cons_succ, Nat.reduceAdd]
  refine planS_val (by kernel_rfl) (fun L u hb hS => ?_) ?_
  · clear hS hb
    go_simp
    all_goals first | (go_at_call 26; exact spot_any _ _ _ _ _ _ _) | done
  simp only [Act.put, List.setIfInBounds_toArray, List.set_cons_zero, List.set_cons_succ, Nat.reduceAdd]
  refine planS_late (fun L u hi hb hS => ?_) ?_
  · obtain ⟨h10, v, vW, us, hP⟩ := hS.pre (by simp [hi])
    rw [hi] at hP
    have HP := Lib.hid hP
    have H10 := Lib.hid h10
    clear hS hP h10
    go_wp2_with (go_at_call 45; (with_reducible refine (cTo _ (HU2.out.call HP.out.calm)).mono ?_); rintro e w9 ⟨v9, vW9, us9, rfl, hs9, ho9, hn9, hd9, hb9⟩)
    exact .inl ⟨true, L 4, v9, vW9, us9, by simp [updB, H10.out], HP.out.do3 hs9 ho9 hn9 hd9 hb9⟩
  simp only [Act.put, List.setIfInBounds_toArray, List.set_cons_zero, List.set_cons_succ, Nat.reduceAdd]
  refine planS_late (fun L u hi hb hS => ?_) ?_
  · obtain ⟨h10, v, vW, us, hP⟩ := hS.pre (by simp [hi])
    rw [hi] at hP
    have HP := Lib.hid hP
    have H10 := Lib.hid h10
    clear hS hP h10
    go_wp2_with fail
    exact .inl ⟨L 3, true, v, vW, us, by simp [updB, H10.out], HP.out.do4⟩
  simp only [Act.put, List.setIfInBounds_toArray, List.set_cons_zero, List.set_cons_succ, Nat.reduceAdd]
  refine planS_late (fun L u hi hb hS => ?_) ?_
  · obtain ⟨h10, v, vW, us, hP⟩ := hS.pre (by simp [hi])
    rw [hb 3 (by simp), hb 4 (by simp)] at hP
    obtain ⟨e3, hSa, -, -, -⟩ := hP.t rfl
    obtain ⟨g, e4, hBg, hg⟩ := hP.g rfl
    obtain ⟨aW, bW, eW⟩ := rows_slice (hP.t rfl).2.2.2.1
    obtain ⟨av, bv, ev⟩ := (hP.t rfl).2.2.1.row.slice
    have hQ := hP.do5 e4 hBg hg hBg
    have H := Lib.hid (show [3, 4, 5].map (updB L 5) = [true, true, true] by simp [updB, hb 3 (by simp), hb 4 (by simp)])
    have HQ : Hid (∀ y, StG w2 w2.heap.size l root W ([3, 4, 5].map (updB L 5)) (updV Y 5 y) (World.three u g (.int .i64 root) v vW)) := show ∀ _, _ from fun y => .inr ⟨H.out, hQ.1, g, v, vW, us, e4, hSa, hQ.2⟩
    unfold insZ at hg
    obtain ⟨z0, z1, z2, hzs⟩ := row3 hg
    obtain ⟨f0, f1, f2, f3, f4⟩ := free5 hg
    rw [ev, eW] at HQ e3
    rw [e3, e4]
    clear hS hP h10 hb hQ e3 e4 ev eW hg hSa
    go_wp2_with fail
    exact ⟨undef, HQ.out undef⟩
  simp only [Act.put, Nat.reduceAdd]
  refine planS_end ?_
  intro w4 hS
  obtain ⟨hu4, g, v, vW, us, e4, hSa, hI⟩ : Calm w2 w4 ∧ ∃ g v vW us, Y 4 = .pointer (some ⟨g, 0, none⟩) ∧ SameT l us ∧ InsOk w2.heap.size w4 g root v vW us W := by
    rcases hS with ⟨_, _, _, _, _, h1, -⟩ | ⟨-, h2⟩
    · simp at h1
    · exact h2
  rw [e4]
  generalize Y 3 = y3'
  clear hS e4 Y
  obtain ⟨hz, hR, hEl, hso, hok, hD, hW⟩ := HF.out
  obtain ⟨hzu, hau⟩ := hSa.good hz
  obtain ⟨RT, y, d, ws, c, rfl, g1, g2, g3, g4, g5, g6, g7, g8, g9, g10, g11⟩ := change_at hzu ⟨p, o, f, m⟩
  have hDd : D = d + 1 := by rw [← g1, depthOf_eq (hSa.ok hok) (hSa.deep hD)]
  have hWe : W = (RT : Int) :: ws := by rw [hW, ← hSa.way, hDd, g2]
  obtain ⟨aW, cW, eW⟩ := rows_slice hI.n
  have hus : 0 < us.length := by
    have := (List.getElem?_eq_some_iff.1 (nd_at.1 g5.nd)).1
    omega
  obtain ⟨gN, cN, eN⟩ : ∃ gN cN, v = .slice (some ⟨gN, 0, none⟩) us.length cN := by
    rcases hI.t.row.2 with ⟨-, h0⟩ | ⟨g', cap', cur, h0, -⟩
    · omega
    · exact ⟨g', cap', h0⟩
  subst eN eW hWe
  have cI := fun u (hu : Calm w4 u) => insert_tree w2.heap.size g gN cN cW aW RT y us ws u (hI.calm hu) p o f m gg s c (d + 1) g3 (by omega) g5 g6 g7 g8 g9 hEl (fun a ha => hso a (by rw [← hau]; exact g11 a ha)) (by rw [← g10, hau]; exact hR)
  have hy4 := (hu4.block hyl).trans hy2
  obtain ⟨y0, y1, y2, y3, y4, y5, hys⟩ := row6 hy4
  have HI := Lib.hid hI
  have HU4 := Lib.hid hu4
  have HR2 := Lib.hid hr2
  have HA : Hid (recsD us (d + 1) (RT : Int) = allOf l (RT : Int)) := show _ = _ from by rw [← g10, hau]
  clear hI hu4 hSa hz hR hEl hso hok hD hW hzu hau g1 g2 g3 g4 g5 g6 g7 g8 g9 g10 g11 hDd hus hy4 hx2 hy2 hr2 hxl hyl cTo HF
  go_upto_region 11 with (go_at_call 46; (with_reducible refine (cI _ (Calm.refl _)).mono ?_); rintro e w5 ⟨A0, B0, hrec, gN', cN', us', root', A', c', W', rfl, hdone, hz5, ha5⟩; have HREC := Lib.hid hrec; have HD := Lib.hid hdone; have HZ := Lib.hid hz5; have HA5 := Lib.hid ha5; clear hrec hdone hz5 ha5 cI y0 y1 y2 y3 y4 y5 hys)
  have hc5 : Calm w2 w5 := HD.out.mod.calm HU4.out fun k hk => (HI.out.foot k hk).1
  have hr5 := (hc5.block (rowT HR2.out).2.2).trans HR2.out
  obtain ⟨r0, r1, hrs⟩ := rowT hr5
  obtain ⟨f0, f1⟩ := freeT2 hr5
  obtain ⟨z0, z1, z2, hzs⟩ := row3 HD.out.ok.box
  have HC5 := Lib.hid (HU2.out.call hc5)
  have HR5 := Lib.hid hr5
  clear hc5 hr5
  go_wp2_with fail
  refine HRET.out _ _ ?_
  have hr9 := setT2 HR5.out (.int .i64 root') (.slice (some ⟨gN', 0, none⟩) us'.length cN')
  have hu9 := HC5.out.twoT (g := w.heap.size + 1 + 1) (by omega) (.int .i64 root') (.slice (some ⟨gN', 0, none⟩) us'.length cN')
  have hlt : w.heap.size + 1 + 1 < w2.heap.size := (rowT HR2.out).2.2
  exact end_trE (p := 4) (q := 5) rfl rfl _ _ _ _ _ _ _ rfl rfl rfl hr9 rfl (HE.out _ root' _ us' A0 c.E B0 (((HD.out.ok.t.set hlt _ _).set hlt _ _).mono (by omega)) HZ.out (by rw [← HA.out]; exact HREC.out) HA5.out hu9)
theorem sorted_ext {α : Type} {r : α → α → Prop} (ir : ∀ a, ¬ r a a) (asy : ∀ a b, r a b → ¬ r b a) : ∀ {l l' : List α}, l.Pairwise r → l'.Pairwise r → (∀ e, e ∈ l ↔ e ∈ l') → l = l'
 | [], [], _, _, _ => rfl
 | [], y :: l', _, _, h => absurd ((h y).2 (by simp)) (by simp)
 |x :: l, [], _, _, h => absurd ((h x).1 (by simp)) (by simp)
 |x :: l, y :: l', hl, hl', h => by
  rw [List.pairwise_cons] at hl hl'
  have hxy : x = y := by
   rcases List.mem_cons.1 ((h x).1 (by simp)) with h1 | h1
   ·exact h1
   rcases List.mem_cons.1 ((h y).2 (by simp)) with h2 | h2
   ·exact h2.symm
   exact absurd (hl.1 y h2) (asy _ _ (hl'.1 x h1))
  subst hxy
  rw [sorted_ext ir asy hl.2 hl'.2 fun e => ?_]
  constructor
  ·intro he
   rcases List.mem_cons.1 ((h e).1 (by simp [he])) with h1 | h1
   ·subst h1; exact absurd (hl.1 e he) (ir e)
   ·exact h1
  ·intro he
   rcases List.mem_cons.1 ((h e).2 (by simp [he])) with h1 | h1
   ·subst h1; exact absurd (hl'.1 e he) (ir e)
   ·exact h1
open Go.RowKit
structure HasL (w : World) (root : Int) (A : Option Addr) (l : List Nd) (L : List El) : Prop where
 at_ : TrAt w A l
 caps : ∀ n ∈ l, NdCaps n
 err : treeErr l root = 0
 all : allOf l root = L
section
variable {w w' : World} {root : Int} {A : Option Addr} {l : List Nd} {L : List El}
theorem HasL.calm (h : HasL w root A l L) (hb : Calm w w') : HasL w' root A l L := ⟨h.at_.calm hb, h.caps, h.err, h.all⟩
theorem HasL.rise (h : HasL w root A l L) : L.Pairwise Rise := h.all ▸ allOf_rises h.err
theorem HasL.wf (h : HasL w root A l L) : ∀ e ∈ L, e.wf := by
 rw [← h.all]
 unfold allOf
 exact recs_wf h.at_ _ _
theorem TreeOk.has {B c : Nat} (h : TreeOk B w root A c l L) : HasL w root A l L := ⟨h.own.at_ (by have := (tree_good h.err).1; omega), h.own.ndcaps, h.err, h.all⟩
end
noncomputable def insR (L : List El) (x : El) : Int := if x.err ≠ 0 then x.err else if (spotAt L x.sp).isSome then 5 else if 400 ≤ L.length then 8 else 0
theorem growErr_of {l : List Nd} {root : Int} {x : El} (hz : treeErr l root = 0) : growErr l root x = x.err := by
 unfold growErr
 rw [if_neg (by simpa using hz)]; rfl
theorem growIs_of {l : List Nd} {root : Int} {x : El} (hz : treeErr l root = 0) (hx : x.err = 0) : growIs l root x = (spotAt (allOf l root) x.sp).isSome := by
 cases hq : (spotAt (allOf l root) x.sp).isSome with
 |true => exact is_there hz hx (spot_in hq)
 |false => exact not_there hz (spot_out hq)
theorem insErr_of {l : List Nd} {root : Int} {x : El} (hz : treeErr l root = 0) : insErr l root x = insR (allOf l root) x := by
 unfold insErr insR
 rw [growErr_of hz]
 split
 ·rfl
 ·rename_i hx
  rw [growIs_of hz (by simpa using hx)]
def NoTree (E : Int) (w : World) (e : Ending) (w' : World) : Prop := e = .returned (.tuple #[.agg #[.int .i64 0, .slice none 0 0], .int .i64 E]) ∧ Calm w w'
def ATree (L : List El) (w : World) (e : Ending) (w' : World) : Prop := ∃ root' A' c' us', e = .returned (.tuple #[.agg #[.int .i64 root', .slice A' us'.length c'], .int .i64 0]) ∧ TreeOk w.heap.size w' root' A' c' us' L ∧ Calm w w'
section
variable {w : World} {root : Int} {A : Option Addr} {l : List Nd} {L : List El}
theorem ins_wrong (h : TrAt w A l) (hcap : ∀ n ∈ l, NdCaps n) {E : Int} (hE : treeErr l root = E) (h0 : E ≠ 0) (c : Nat) (p o f m g : Int) (s : ByteArray) : Calls Try.prog 21 #[.agg #[.int .i64 root, .slice A l.length c], .agg #[.int .i64 p, .int .i64 o, .int .i64 f, .int .i64 m, .int .i64 g, .string s]] w (NoTree E w) :=
 (growInsert_any root A c l w h hcap p o f m g s).mono fun e w' he => by
  have h1 : insErr l root ⟨p, o, f, m, g, s⟩ = E := by unfold insErr growErr; rw [hE, if_pos h0, if_pos h0]
  rcases he with ⟨-, h2, h3⟩ | ⟨h2, -⟩
  ·rw [h1] at h2; exact ⟨h2, h3⟩
  ·rw [h1] at h2; exact absurd h2 h0
theorem HasL.ins_bad (h : HasL w root A l L) (c : Nat) {p o f m g : Int} {s : ByteArray} {E : Int} (hE : insR L ⟨p, o, f, m, g, s⟩ = E) (h0 : E ≠ 0) : Calls Try.prog 21 #[.agg #[.int .i64 root, .slice A l.length c], .agg #[.int .i64 p, .int .i64 o, .int .i64 f, .int .i64 m, .int .i64 g, .string s]] w (NoTree E w) :=
 (growInsert_any root A c l w h.at_ h.caps p o f m g s).mono fun e w' he => by
  have h1 : insErr l root ⟨p, o, f, m, g, s⟩ = E := by rw [insErr_of h.err, h.all, hE]
  rcases he with ⟨-, h2, h3⟩ | ⟨h2, -⟩
  ·rw [h1] at h2; exact ⟨h2, h3⟩
  ·rw [h1] at h2; exact absurd h2 h0
theorem HasL.ins_ok (h : HasL w root A l L) (c : Nat) {p o f m g : Int} {s : ByteArray} (hE : insR L ⟨p, o, f, m, g, s⟩ = 0) : Calls Try.prog 21 #[.agg #[.int .i64 root, .slice A l.length c], .agg #[.int .i64 p, .int .i64 o, .int .i64 f, .int .i64 m, .int .i64 g, .string s]] w (ATree (ins ⟨p, o, f, m, g, s⟩ L) w) :=
 (growInsert_any root A c l w h.at_ h.caps p o f m g s).mono fun e w' he => by
  obtain ⟨r', A', c', us', h1, h2, h3⟩ := insEnd_ok he (by rw [insErr_of h.err, h.all, hE])
  rw [h.all] at h2
  exact ⟨r', A', c', us', h1, h2, h3⟩
/-- All records of a right tree. -/
theorem HasL.allC (h : HasL w root A l L) (c : Nat) : Calls Try.prog 13 #[.agg #[.int .i64 root, .slice A l.length c]] w fun e w' => ∃ A' c', e = .returned (.tuple #[.slice A' L.length c', .int .i64 0]) ∧ L.length ≤ c' ∧ c' ≤ 9223372036854775807 ∧ Lies w' A' L ∧ Calm w w' :=
 (treeAll_any root A c l w h.at_).mono fun e w' ⟨v, h1, h2, h3⟩ => by
  rw [if_pos h.err, h.all] at h2
  rw [h.err] at h1
  obtain ⟨A', c', rfl, g1, g2, g3⟩ := h2.lies h.wf
  exact ⟨A', c', h1, g1, g2, g3, h3⟩
end
/-- Records in order: what is in, and what is not. -/
theorem rise_ext {L M : List El} (h : L.Pairwise Rise) (h' : M.Pairwise Rise) (hm : ∀ e, e ∈ L ↔ e ∈ M) : L = M :=
 sorted_ext (r := fun a b : El => sLt a.key a.m b.key b.m) (fun _ => sLt_irrefl _ _) (fun _ _ h1 h2 => sLt_irrefl _ _ (sLt_trans h1 h2)) h h' hm
theorem insH_mem {x e : El} : ∀ {L : List El}, e ∈ ins x L ↔ e = x ∨ e ∈ L
 | [] => by unfold ins; simp
 |y :: L => by
  unfold ins
  split
  ·simp
  ·rw [List.mem_cons, insH_mem (L := L), List.mem_cons]
   constructor
   ·rintro (h | h | h)
    ·exact .inr (.inl h)
    ·exact .inl h
    ·exact .inr (.inr h)
   ·rintro (h | h | h)
    ·exact .inr (.inl h)
    ·exact .inl h
    ·exact .inr (.inr h)
theorem ins_sorted {x : El} : ∀ {L : List El}, L.Pairwise Rise → (∀ a ∈ L, a.sp ≠ x.sp) → (ins x L).Pairwise Rise
 | [], _, _ => by unfold ins; simp
 |y :: L, h, hn => by
  have h1 := List.pairwise_cons.1 h
  unfold ins
  split
  ·rename_i h2
   rw [List.pairwise_cons]
   refine ⟨fun b hb => ?_, h⟩
   rcases List.mem_cons.1 hb with rfl | hb
   ·exact h2
   ·exact sLt_trans (show sLt x.key x.m y.key y.m from h2) (h1.1 b hb)
  ·rename_i h2
   rw [List.pairwise_cons]
   refine ⟨fun b hb => ?_, ins_sorted h1.2 fun a ha => hn a (List.mem_cons_of_mem _ ha)⟩
   rcases insH_mem.1 hb with rfl | hb
   ·exact sp_tri (a := b.sp) (b := y.sp) h2 (hn y List.mem_cons_self).symm
   ·exact h1.1 b hb
theorem ins_comm {a b : El} {L : List El} (h : L.Pairwise Rise) (hab : a.sp ≠ b.sp) (ha : ∀ e ∈ L, e.sp ≠ a.sp) (hb : ∀ e ∈ L, e.sp ≠ b.sp) : ins a (ins b L) = ins b (ins a L) := by
 refine rise_ext (ins_sorted (ins_sorted h hb) fun e he => ?_) (ins_sorted (ins_sorted h ha) fun e he => ?_) fun e => ?_
 ·rcases insH_mem.1 he with rfl | he
  ·exact hab.symm
  ·exact ha e he
 ·rcases insH_mem.1 he with rfl | he
  ·exact hab
  ·exact hb e he
 ·rw [insH_mem, insH_mem, insH_mem, insH_mem]
  constructor
  ·rintro (h | h | h)
   ·exact .inr (.inl h)
   ·exact .inl h
   ·exact .inr (.inr h)
  ·rintro (h | h | h)
   ·exact .inr (.inl h)
   ·exact .inl h
   ·exact .inr (.inr h)
theorem spotAt_some {L : List El} {s : Sp} : (spotAt L s).isSome = true ↔ ∃ a ∈ L, a.sp = s := by
 constructor
 ·exact spot_in
 ·rintro ⟨a, ha, hs⟩
  cases hq : (spotAt L s).isSome with
  |true => rfl
  |false => exact absurd hs (spot_out hq a ha)
open Classical in
theorem spotAt_ins {L : List El} {x : El} {s : Sp} : (spotAt (ins x L) s).isSome = (decide (x.sp = s) || (spotAt L s).isSome) := by
 rw [Bool.eq_iff_iff, Bool.or_eq_true, decide_eq_true_eq, spotAt_some, spotAt_some]
 constructor
 ·rintro ⟨a, ha, hs⟩
  rcases insH_mem.1 ha with rfl | ha
  ·exact .inl hs
  ·exact .inr ⟨a, ha, hs⟩
 ·rintro (h | ⟨a, ha, hs⟩)
  ·exact ⟨x, insH_mem.2 (.inl rfl), h⟩
  ·exact ⟨a, insH_mem.2 (.inr ha), hs⟩
theorem insR_zero {L : List El} {x : El} : insR L x = 0 ↔ x.err = 0 ∧ (spotAt L x.sp).isSome = false ∧ L.length < 400 := by
 unfold insR
 constructor
 ·intro h
  split at h
  ·rename_i h1; exact absurd h h1
  ·rename_i h1
   split at h
   ·cases h
   ·rename_i h2
    split at h
    ·cases h
    ·exact ⟨by simpa using h1, by simpa using h2, by omega⟩
 ·rintro ⟨h1, h2, h3⟩
  rw [if_neg (by rw [h1]; decide), if_neg (by rw [h2]; decide), if_neg (by omega)]
open Classical in
theorem insR_two {L : List El} {a b : El} (ha : insR L a = 0) (hb : insR L b = 0) : insR (ins a L) b = insR (ins b L) a := by
 obtain ⟨a1, a2, a3⟩ := insR_zero.1 ha
 obtain ⟨b1, b2, b3⟩ := insR_zero.1 hb
 unfold insR
 rw [a1, b1, if_neg (show ¬ ((0 : Int) ≠ 0) by decide), if_neg (show ¬ ((0 : Int) ≠ 0) by decide), spotAt_ins, spotAt_ins, a2, b2, ins_len1, ins_len1]
 have e : (decide (a.sp = b.sp) || false) = (decide (b.sp = a.sp) || false) := by
  rw [Bool.or_false, Bool.or_false]; exact decide_eq_decide.2 ⟨Eq.symm, Eq.symm⟩
 rw [e]
theorem insR_apart {L : List El} {a b : El} (h : insR (ins a L) b = 0) : a.sp ≠ b.sp := fun e => by
 have h1 := (insR_zero.1 h).2.1
 rw [spotAt_some.2 ⟨a, insH_mem.2 (.inl rfl), e⟩] at h1
 cases h1
/-- A tree that annalkeep.of has made. -/
theorem OfOk.tree {l : List El} {w w' : World} {e : Ending} (h : OfOk l w e w') : ∃ root' A' c' us', e = .returned (.agg #[.int .i64 root', .slice A' us'.length c']) ∧ TreeOk w.heap.size w' root' A' c' us' l ∧ Calm w w' := by
 obtain ⟨r, A, c, us, h1, h2, h3, h4, -, -, h5⟩ := h
 exact ⟨r, A, c, us, h1, ⟨h2, h3, h4⟩, h5⟩
theorem insR_AB : insR [eA] eB = 0 := insR_zero.2 ⟨by decide +kernel, by
 cases hq : (spotAt [eA] eB.sp).isSome with
 |false => rfl
 |true =>
  obtain ⟨a, ha, hs⟩ := spot_in hq
  rw [List.mem_singleton.1 ha] at hs
  exact absurd (congrArg Sp.f hs) (by decide), by decide⟩
open Go.RowKit
theorem two_other {w : World} {g k : Nat} (h : k ≠ g) (a b : Value) : ((w.setCell ⟨g, 0, none⟩ a).setCell ⟨g, 1, none⟩ b).heap[k]? = w.heap[k]? :=
 (heap_setCell_other _ ⟨g, 1, none⟩ k b h).trans (heap_setCell_other _ ⟨g, 0, none⟩ k a h)
theorem insAB_len : (ins eB [eA]).length = 2 := by rw [ins_len1]; rfl
open Go.RowKit
set_option maxHeartbeats 4000000 in
theorem equalNodes_nil (w : World) : Calls Try.prog 42 #[.slice none 0 0, .slice none 0 0, .func (.func 43) #[] #[]] w fun e w' => e = .returned (.bool true) ∧ Calm w w' := by
 go_enter Try.func42, Try.ntmps42
 go_wp2_with fail
 go_loopw [17] (fun i wr => i = .int .i64 0 ∧ Calm w wr) (fun _ _ => 0)
 case atStart => exact ⟨rfl, Calm.refl _⟩
 case round =>
  obtain ⟨rfl, hu⟩ := hrel
  go_wp2_with fail
  go_ret
  exact ⟨rfl, hu⟩
set_option maxHeartbeats 4000000 in
theorem sameTree_zero (w : World) : Calls Try.prog 19 #[.agg #[.int .i64 0, .slice none 0 0], .agg #[.int .i64 0, .slice none 0 0]] w fun e w' => e = .returned (.bool true) ∧ Calm w w' := by
 go_enter Try.func19, Try.ntmps19
 go_wp2_with (go_at_call 42; (with_reducible refine (equalNodes_nil _).mono ?_); rintro e w1 ⟨rfl, hb1⟩)
 go_ret
 exact ⟨rfl, by repeat (first | (with_reducible exact Calm.refl _) | (with_reducible refine Calm.alloc ?_ _) | (with_reducible refine Calm.drew ?_) | (with_reducible refine Calm.drewN ?_ _) | (refine Calm.call ?_ (by with_reducible assumption)))⟩
open Go.RowKit
set_option maxHeartbeats 16000000 in
theorem go_bad (root : Int) (A : Option Addr) (c : Nat) (l : List Nd) (p o f m g : Int) (s : ByteArray) (p' o' f' m' g' : Int) (s' : ByteArray) (w : World) (h : TrAt w A l) (hcap : ∀ n ∈ l, NdCaps n) (E : Int) (h0 : E ≠ 0) (hI : ∀ u, TrAt u A l → Calls Try.prog 21 #[.agg #[.int .i64 root, .slice A l.length c], .agg #[.int .i64 p, .int .i64 o, .int .i64 f, .int .i64 m, .int .i64 g, .string s]] u (NoTree E u)) :
    Calls Try.prog 5 #[.agg #[.int .i64 root, .slice A l.length c], .agg #[.int .i64 p, .int .i64 o, .int .i64 f, .int .i64 m, .int .i64 g, .string s], .agg #[.int .i64 p', .int .i64 o', .int .i64 f', .int .i64 m', .int .i64 g', .string s']] w fun e w' => e = .returned (.bool true) ∧ Calm w w' := by
  have hx := heap_past (.cells #[.int .i64 p', .int .i64 o', .int .i64 f', .int .i64 m', .int .i64 g', .string s'] 29) (heap_past (.cells #[.int .i64 p, .int .i64 o, .int .i64 f, .int .i64 m, .int .i64 g, .string s] 29) (heap_new w (.cells #[.int .i64 root, .slice A l.length c] 24)))
  have hy := heap_past (.cells #[.int .i64 p', .int .i64 o', .int .i64 f', .int .i64 m', .int .i64 g', .string s'] 29) (heap_new (w.alloc (.cells #[.int .i64 root, .slice A l.length c] 24)) (.cells #[.int .i64 p, .int .i64 o, .int .i64 f, .int .i64 m, .int .i64 g, .string s] 29))
  have hz := heap_new ((w.alloc (.cells #[.int .i64 root, .slice A l.length c] 24)).alloc (.cells #[.int .i64 p, .int .i64 o, .int .i64 f, .int .i64 m, .int .i64 g, .string s] 29)) (.cells #[.int .i64 p', .int .i64 o', .int .i64 f', .int .i64 m', .int .i64 g', .string s'] 29)
  rw [World.size_alloc] at hy hz
  rw [World.size_alloc] at hz
  have hu := (((Calm.refl w).alloc (.cells #[.int .i64 root, .slice A l.length c] 24)).alloc (.cells #[.int .i64 p, .int .i64 o, .int .i64 f, .int .i64 m, .int .i64 g, .string s] 29)).alloc (.cells #[.int .i64 p', .int .i64 o', .int .i64 f', .int .i64 m', .int .i64 g', .string s'] 29)
  have cI0 := fun r2 A2 c2 us2 B u (hT : TreeOk B u r2 A2 c2 us2 [eA]) => hT.has.ins_ok (p := 0) (o := 0) (f := 2) (m := 1) (g := 0) (s := { data := #[98] }) c2 insR_AB
  have cA0 : ∀ r2 A2 c2 us2 B u, TreeOk B u r2 A2 c2 us2 (ins eB [eA]) → Calls Try.prog 13 #[.agg #[.int .i64 r2, .slice A2 us2.length c2]] u fun e w' => ∃ A' c', e = .returned (.tuple #[.slice A' 2 c', .int .i64 0]) ∧ Calm u w' := fun r2 A2 c2 us2 B u hT => (hT.has.allC c2).mono fun e w' ⟨A', c', h1, _, _, _, h2⟩ => ⟨A', c', by rw [h1, insAB_len], h2⟩
  have cI1 := fun u (hu : Calm w u) => hI u (h.calm hu)
  have cI2 : ∀ u, Calm w u → Calls Try.prog 21 #[.agg #[.int .i64 root, .slice A l.length c], .agg #[.int .i64 p', .int .i64 o', .int .i64 f', .int .i64 m', .int .i64 g', .string s']] u fun e w' => ∃ r A c n F, e = .returned (.tuple #[.agg #[.int .i64 r, .slice A n c], .int .i64 F]) ∧ Calm u w' := fun u hu => (growInsert_any root A c l u (h.calm hu) hcap p' o' f' m' g' s').mono fun e w' he => by
    rcases he with ⟨-, h2, h3⟩ | ⟨-, r', v, us', A0, E, B0, h1, h2, -, -, -, h3⟩
    · exact ⟨_, _, _, _, _, h2, h3⟩
    · obtain ⟨A', c', rfl⟩ := h2.row.slice
      exact ⟨_, _, _, _, _, h1, h3⟩
  have b1 : (E != 0) = true := by rw [bne_iff_ne]; exact h0
  have b2 : (E == 0) = false := by rw [beq_eq_false_iff_ne]; exact h0
  clear h hcap hI h0
  go_enter Try.func5, Try.ntmps5
  go_upto_region 1 with fail
  generalize (((w.alloc (.cells #[.int .i64 root, .slice A l.length c] 24)).alloc (.cells #[.int .i64 p, .int .i64 o, .int .i64 f, .int .i64 m, .int .i64 g, .string s] 29)).alloc (.cells #[.int .i64 p', .int .i64 o', .int .i64 f', .int .i64 m', .int .i64 g', .string s'] 29)) = w0 at hx hy hz hu ⊢
  obtain ⟨hx_0, hx_1, hx_s⟩ := rowT hx
  obtain ⟨hy_0, hy_1, hy_2, hy_3, hy_4, hy_5, hy_s⟩ := row6 hy
  obtain ⟨hz_0, hz_1, hz_2, hz_3, hz_4, hz_5, hz_s⟩ := row6 hz
  go_upto_region 5 with (first
      | (have HTT := HT2.out; clear HTT; go_at_call 22; (with_reducible refine (atk_any _ _ _).mono ?_); rintro e w1b ⟨rfl, hk⟩; clear hx_0 hx_1 hx_s; clear hy_0 hy_1 hy_2 hy_3 hy_4 hy_5 hy_s; clear hz_0 hz_1 hz_2 hz_3 hz_4 hz_5 hz_s; replace hx := (hk.block (rowT hx).2.2).trans hx; replace hy := (hk.block (row6 hy).2.2.2.2.2.2).trans hy; replace hz := (hk.block (row6 hz).2.2.2.2.2.2).trans hz; replace HT2 := Lib.hid (HT2.out.calm hk); replace hu := hu.call hk; clear hk; obtain ⟨hx_0, hx_1, hx_s⟩ := rowT hx; obtain ⟨hy_0, hy_1, hy_2, hy_3, hy_4, hy_5, hy_s⟩ := row6 hy; obtain ⟨hz_0, hz_1, hz_2, hz_3, hz_4, hz_5, hz_s⟩ := row6 hz)
      | (go_at_call 22; (with_reducible refine (atk_any _ _ _).mono ?_); rintro e w1 ⟨rfl, hk⟩; clear hx_0 hx_1 hx_s; clear hy_0 hy_1 hy_2 hy_3 hy_4 hy_5 hy_s; clear hz_0 hz_1 hz_2 hz_3 hz_4 hz_5 hz_s; replace hx := (hk.block (rowT hx).2.2).trans hx; replace hy := (hk.block (row6 hy).2.2.2.2.2.2).trans hy; replace hz := (hk.block (row6 hz).2.2.2.2.2.2).trans hz; replace hu := hu.call hk; clear hk; obtain ⟨hx_0, hx_1, hx_s⟩ := rowT hx; obtain ⟨hy_0, hy_1, hy_2, hy_3, hy_4, hy_5, hy_s⟩ := row6 hy; obtain ⟨hz_0, hz_1, hz_2, hz_3, hz_4, hz_5, hz_s⟩ := row6 hz)
      | (go_at_call 12; (with_reducible refine (of_A _ _ (heap_new _ _)).mono ?_); rintro e w2 h2; obtain ⟨r2, A2, c2, us2, rfl, hT2, hk⟩ := h2.tree; clear h2; clear hx_0 hx_1 hx_s; clear hy_0 hy_1 hy_2 hy_3 hy_4 hy_5 hy_s; clear hz_0 hz_1 hz_2 hz_3 hz_4 hz_5 hz_s; replace hx := (hk.block (rowT (heap_past _ hx)).2.2).trans (heap_past _ hx); replace hy := (hk.block (row6 (heap_past _ hy)).2.2.2.2.2.2).trans (heap_past _ hy); replace hz := (hk.block (row6 (heap_past _ hz)).2.2.2.2.2.2).trans (heap_past _ hz); replace hu := (hu.alloc _).call hk; clear hk; obtain ⟨hx_0, hx_1, hx_s⟩ := rowT hx; obtain ⟨hy_0, hy_1, hy_2, hy_3, hy_4, hy_5, hy_s⟩ := row6 hy; obtain ⟨hz_0, hz_1, hz_2, hz_3, hz_4, hz_5, hz_s⟩ := row6 hz; have HT2 := Lib.hid hT2; clear hT2)
      | (go_at_call 21; (with_reducible refine (cI0 _ _ _ _ _ _ HT2.out).mono ?_); rintro e w3 ⟨r3, A3, c3, us3, rfl, hT3, hk⟩; clear HT2 cI0; have HT3 := Lib.hid hT3; clear hT3; clear hx_0 hx_1 hx_s; clear hy_0 hy_1 hy_2 hy_3 hy_4 hy_5 hy_s; clear hz_0 hz_1 hz_2 hz_3 hz_4 hz_5 hz_s; replace hx := (hk.block (rowT hx).2.2).trans hx; replace hy := (hk.block (row6 hy).2.2.2.2.2.2).trans hy; replace hz := (hk.block (row6 hz).2.2.2.2.2.2).trans hz; replace hu := hu.call hk; clear hk; obtain ⟨hx_0, hx_1, hx_s⟩ := rowT hx; obtain ⟨hy_0, hy_1, hy_2, hy_3, hy_4, hy_5, hy_s⟩ := row6 hy; obtain ⟨hz_0, hz_1, hz_2, hz_3, hz_4, hz_5, hz_s⟩ := row6 hz; have hXi := hz_s; replace HT3 := Lib.hid (HT3.out.calm ((Calm.refl _).alloc (.cells #[.int .i64 r3, .slice A3 us3.length c3] 24))); clear hx_0 hx_1 hx_s; clear hy_0 hy_1 hy_2 hy_3 hy_4 hy_5 hy_s; clear hz_0 hz_1 hz_2 hz_3 hz_4 hz_5 hz_s; replace hx := heap_past (.cells #[.int .i64 r3, .slice A3 us3.length c3] 24) hx; replace hy := heap_past (.cells #[.int .i64 r3, .slice A3 us3.length c3] 24) hy; replace hz := heap_past (.cells #[.int .i64 r3, .slice A3 us3.length c3] 24) hz; replace hu := hu.alloc (.cells #[.int .i64 r3, .slice A3 us3.length c3] 24); have hX := heap_new w3 (.cells #[.int .i64 r3, .slice A3 us3.length c3] 24); obtain ⟨hx_0, hx_1, hx_s⟩ := rowT hx; obtain ⟨hy_0, hy_1, hy_2, hy_3, hy_4, hy_5, hy_s⟩ := row6 hy; obtain ⟨hz_0, hz_1, hz_2, hz_3, hz_4, hz_5, hz_s⟩ := row6 hz; obtain ⟨hX_0, hX_1, hX_s⟩ := rowT hX)
      | (go_at_call 13; (with_reducible refine (cA0 _ _ _ _ _ _ HT3.out).mono ?_); rintro e w4 ⟨A4, c4, rfl, hk⟩; clear HT3 cA0; clear hx_0 hx_1 hx_s; clear hy_0 hy_1 hy_2 hy_3 hy_4 hy_5 hy_s; clear hz_0 hz_1 hz_2 hz_3 hz_4 hz_5 hz_s; clear hX_0 hX_1 hX_s; replace hx := (hk.block (rowT hx).2.2).trans hx; replace hy := (hk.block (row6 hy).2.2.2.2.2.2).trans hy; replace hz := (hk.block (row6 hz).2.2.2.2.2.2).trans hz; replace hX := (hk.block (rowT hX).2.2).trans hX; replace hu := hu.call hk; clear hk; obtain ⟨hx_0, hx_1, hx_s⟩ := rowT hx; obtain ⟨hy_0, hy_1, hy_2, hy_3, hy_4, hy_5, hy_s⟩ := row6 hy; obtain ⟨hz_0, hz_1, hz_2, hz_3, hz_4, hz_5, hz_s⟩ := row6 hz; obtain ⟨hX_0, hX_1, hX_s⟩ := rowT hX))
  generalize w3.heap.size = gX at hX hX_0 hX_1 hX_s hXi ⊢
  obtain ⟨fX0, fX1⟩ := freeT2 hX
  go_upto_region 6 with (go_at_call 21; (with_reducible refine (cI1 _ hu).mono ?_); rintro e w5 ⟨rfl, hk⟩; clear fX0 fX1; clear hx_0 hx_1 hx_s; clear hy_0 hy_1 hy_2 hy_3 hy_4 hy_5 hy_s; clear hz_0 hz_1 hz_2 hz_3 hz_4 hz_5 hz_s; clear hX_0 hX_1 hX_s; replace hx := (hk.block (rowT hx).2.2).trans hx; replace hy := (hk.block (row6 hy).2.2.2.2.2.2).trans hy; replace hz := (hk.block (row6 hz).2.2.2.2.2.2).trans hz; replace hX := (hk.block (rowT hX).2.2).trans hX; replace hu := hu.call hk; clear hk; obtain ⟨hx_0, hx_1, hx_s⟩ := rowT hx; obtain ⟨hy_0, hy_1, hy_2, hy_3, hy_4, hy_5, hy_s⟩ := row6 hy; obtain ⟨hz_0, hz_1, hz_2, hz_3, hz_4, hz_5, hz_s⟩ := row6 hz; obtain ⟨hX_0, hX_1, hX_s⟩ := rowT hX; obtain ⟨fX0, fX1⟩ := freeT2 hX)
  clear fX0 fX1
  clear hx_0 hx_1 hx_s; clear hy_0 hy_1 hy_2 hy_3 hy_4 hy_5 hy_s; clear hz_0 hz_1 hz_2 hz_3 hz_4 hz_5 hz_s; clear hX_0 hX_1 hX_s
  have hXlt := hXi
  replace hx := (two_other (w := w5) (g := gX) (by omega) (.int .i64 0) (.slice none 0 0)).trans hx
  replace hy := (two_other (w := w5) (g := gX) (by omega) (.int .i64 0) (.slice none 0 0)).trans hy
  replace hz := (two_other (w := w5) (g := gX) (by omega) (.int .i64 0) (.slice none 0 0)).trans hz
  replace hX := setT2 hX (.int .i64 0) (.slice none 0 0)
  replace hu := hu.twoT (g := gX) (by omega) (.int .i64 0) (.slice none 0 0)
  generalize (w5.setCell ⟨gX, 0, none⟩ (.int .i64 0)).setCell ⟨gX, 1, none⟩ (.slice none 0 0) = w6 at hx hy hz hX hu ⊢
  obtain ⟨hx_0, hx_1, hx_s⟩ := rowT hx; obtain ⟨hy_0, hy_1, hy_2, hy_3, hy_4, hy_5, hy_s⟩ := row6 hy; obtain ⟨hz_0, hz_1, hz_2, hz_3, hz_4, hz_5, hz_s⟩ := row6 hz; obtain ⟨hX_0, hX_1, hX_s⟩ := rowT hX
  go_wp2_with (first
      | (go_at_call 21; (with_reducible refine (cI2 _ hu).mono ?_); rintro e w7 ⟨r7, A7, c7, n7, F7, rfl, hk⟩; clear hx_0 hx_1 hx_s; clear hy_0 hy_1 hy_2 hy_3 hy_4 hy_5 hy_s; clear hz_0 hz_1 hz_2 hz_3 hz_4 hz_5 hz_s; clear hX_0 hX_1 hX_s; replace hx := (hk.block (rowT hx).2.2).trans hx; replace hy := (hk.block (row6 hy).2.2.2.2.2.2).trans hy; replace hz := (hk.block (row6 hz).2.2.2.2.2.2).trans hz; replace hX := (hk.block (rowT hX).2.2).trans hX; replace hu := hu.call hk; clear hk; obtain ⟨hx_0, hx_1, hx_s⟩ := rowT hx; obtain ⟨hy_0, hy_1, hy_2, hy_3, hy_4, hy_5, hy_s⟩ := row6 hy; obtain ⟨hz_0, hz_1, hz_2, hz_3, hz_4, hz_5, hz_s⟩ := row6 hz; obtain ⟨hX_0, hX_1, hX_s⟩ := rowT hX; clear hx_0 hx_1 hx_s; clear hy_0 hy_1 hy_2 hy_3 hy_4 hy_5 hy_s; clear hz_0 hz_1 hz_2 hz_3 hz_4 hz_5 hz_s; clear hX_0 hX_1 hX_s; replace hx := heap_past (.cells #[.int .i64 r7, .slice A7 n7 c7] 24) hx; replace hy := heap_past (.cells #[.int .i64 r7, .slice A7 n7 c7] 24) hy; replace hz := heap_past (.cells #[.int .i64 r7, .slice A7 n7 c7] 24) hz; replace hX := heap_past (.cells #[.int .i64 r7, .slice A7 n7 c7] 24) hX; replace hu := hu.alloc (.cells #[.int .i64 r7, .slice A7 n7 c7] 24); have hY := heap_new w7 (.cells #[.int .i64 r7, .slice A7 n7 c7] 24); obtain ⟨hx_0, hx_1, hx_s⟩ := rowT hx; obtain ⟨hy_0, hy_1, hy_2, hy_3, hy_4, hy_5, hy_s⟩ := row6 hy; obtain ⟨hz_0, hz_1, hz_2, hz_3, hz_4, hz_5, hz_s⟩ := row6 hz; obtain ⟨hX_0, hX_1, hX_s⟩ := rowT hX; obtain ⟨hY_0, hY_1, hY_s⟩ := rowT hY)
      | (go_at_call 19; (with_reducible refine (sameTree_zero _).mono ?_); rintro e w9 ⟨rfl, hk⟩; replace hu := hu.call hk; clear hk))
  go_ret
  exact ⟨rfl, hu⟩
set_option maxHeartbeats 16000000 in
theorem go_second (root : Int) (A : Option Addr) (c : Nat) (l : List Nd) (p o f m g : Int) (s : ByteArray) (p' o' f' m' g' : Int) (s' : ByteArray) (w : World) (L : List El) (hh : HasL w root A l L) (E : Int) (h0 : E ≠ 0) (hE : insR L ⟨p, o, f, m, g, s⟩ = 0) (hF : insR L ⟨p', o', f', m', g', s'⟩ = E) :
    Calls Try.prog 5 #[.agg #[.int .i64 root, .slice A l.length c], .agg #[.int .i64 p, .int .i64 o, .int .i64 f, .int .i64 m, .int .i64 g, .string s], .agg #[.int .i64 p', .int .i64 o', .int .i64 f', .int .i64 m', .int .i64 g', .string s']] w fun e w' => e = .returned (.bool true) ∧ Calm w w' := by
  have hx := heap_past (.cells #[.int .i64 p', .int .i64 o', .int .i64 f', .int .i64 m', .int .i64 g', .string s'] 29) (heap_past (.cells #[.int .i64 p, .int .i64 o, .int .i64 f, .int .i64 m, .int .i64 g, .string s] 29) (heap_new w (.cells #[.int .i64 root, .slice A l.length c] 24)))
  have hy := heap_past (.cells #[.int .i64 p', .int .i64 o', .int .i64 f', .int .i64 m', .int .i64 g', .string s'] 29) (heap_new (w.alloc (.cells #[.int .i64 root, .slice A l.length c] 24)) (.cells #[.int .i64 p, .int .i64 o, .int .i64 f, .int .i64 m, .int .i64 g, .string s] 29))
  have hz := heap_new ((w.alloc (.cells #[.int .i64 root, .slice A l.length c] 24)).alloc (.cells #[.int .i64 p, .int .i64 o, .int .i64 f, .int .i64 m, .int .i64 g, .string s] 29)) (.cells #[.int .i64 p', .int .i64 o', .int .i64 f', .int .i64 m', .int .i64 g', .string s'] 29)
  rw [World.size_alloc] at hy hz
  rw [World.size_alloc] at hz
  have hu := (((Calm.refl w).alloc (.cells #[.int .i64 root, .slice A l.length c] 24)).alloc (.cells #[.int .i64 p, .int .i64 o, .int .i64 f, .int .i64 m, .int .i64 g, .string s] 29)).alloc (.cells #[.int .i64 p', .int .i64 o', .int .i64 f', .int .i64 m', .int .i64 g', .string s'] 29)
  have cI0 := fun r2 A2 c2 us2 B u (hT : TreeOk B u r2 A2 c2 us2 [eA]) => hT.has.ins_ok (p := 0) (o := 0) (f := 2) (m := 1) (g := 0) (s := { data := #[98] }) c2 insR_AB
  have cA0 : ∀ r2 A2 c2 us2 B u, TreeOk B u r2 A2 c2 us2 (ins eB [eA]) → Calls Try.prog 13 #[.agg #[.int .i64 r2, .slice A2 us2.length c2]] u fun e w' => ∃ A' c', e = .returned (.tuple #[.slice A' 2 c', .int .i64 0]) ∧ Calm u w' := fun r2 A2 c2 us2 B u hT => (hT.has.allC c2).mono fun e w' ⟨A', c', h1, _, _, _, h2⟩ => ⟨A', c', by rw [h1, insAB_len], h2⟩
  have cI1 := fun u (hu : Calm w u) => (hh.calm hu).ins_ok c (hE : insR L ⟨p, o, f, m, g, s⟩ = 0)
  have cI2 := fun u (hu : Calm w u) => (hh.calm hu).ins_bad c (hF : insR L ⟨p', o', f', m', g', s'⟩ = E) h0
  have b1 : (E != 0) = true := by rw [bne_iff_ne]; exact h0
  have b2 : (E == 0) = false := by rw [beq_eq_false_iff_ne]; exact h0
  clear hh h0 hE hF
  go_enter Try.func5, Try.ntmps5
  go_upto_region 1 with fail
  generalize (((w.alloc (.cells #[.int .i64 root, .slice A l.length c] 24)).alloc (.cells #[.int .i64 p, .int .i64 o, .int .i64 f, .int .i64 m, .int .i64 g, .string s] 29)).alloc (.cells #[.int .i64 p', .int .i64 o', .int .i64 f', .int .i64 m', .int .i64 g', .string s'] 29)) = w0 at hx hy hz hu ⊢
  obtain ⟨hx_0, hx_1, hx_s⟩ := rowT hx
  obtain ⟨hy_0, hy_1, hy_2, hy_3, hy_4, hy_5, hy_s⟩ := row6 hy
  obtain ⟨hz_0, hz_1, hz_2, hz_3, hz_4, hz_5, hz_s⟩ := row6 hz
  go_upto_region 5 with (first
      | (have HTT := HT2.out; clear HTT; go_at_call 22; (with_reducible refine (atk_any _ _ _).mono ?_); rintro e w1b ⟨rfl, hk⟩; clear hx_0 hx_1 hx_s; clear hy_0 hy_1 hy_2 hy_3 hy_4 hy_5 hy_s; clear hz_0 hz_1 hz_2 hz_3 hz_4 hz_5 hz_s; replace hx := (hk.block (rowT hx).2.2).trans hx; replace hy := (hk.block (row6 hy).2.2.2.2.2.2).trans hy; replace hz := (hk.block (row6 hz).2.2.2.2.2.2).trans hz; replace HT2 := Lib.hid (HT2.out.calm hk); replace hu := hu.call hk; clear hk; obtain ⟨hx_0, hx_1, hx_s⟩ := rowT hx; obtain ⟨hy_0, hy_1, hy_2, hy_3, hy_4, hy_5, hy_s⟩ := row6 hy; obtain ⟨hz_0, hz_1, hz_2, hz_3, hz_4, hz_5, hz_s⟩ := row6 hz)
      | (go_at_call 22; (with_reducible refine (atk_any _ _ _).mono ?_); rintro e w1 ⟨rfl, hk⟩; clear hx_0 hx_1 hx_s; clear hy_0 hy_1 hy_2 hy_3 hy_4 hy_5 hy_s; clear hz_0 hz_1 hz_2 hz_3 hz_4 hz_5 hz_s; replace hx := (hk.block (rowT hx).2.2).trans hx; replace hy := (hk.block (row6 hy).2.2.2.2.2.2).trans hy; replace hz := (hk.block (row6 hz).2.2.2.2.2.2).trans hz; replace hu := hu.call hk; clear hk; obtain ⟨hx_0, hx_1, hx_s⟩ := rowT hx; obtain ⟨hy_0, hy_1, hy_2, hy_3, hy_4, hy_5, hy_s⟩ := row6 hy; obtain ⟨hz_0, hz_1, hz_2, hz_3, hz_4, hz_5, hz_s⟩ := row6 hz)
      | (go_at_call 12; (with_reducible refine (of_A _ _ (heap_new _ _)).mono ?_); rintro e w2 h2; obtain ⟨r2, A2, c2, us2, rfl, hT2, hk⟩ := h2.tree; clear h2; clear hx_0 hx_1 hx_s; clear hy_0 hy_1 hy_2 hy_3 hy_4 hy_5 hy_s; clear hz_0 hz_1 hz_2 hz_3 hz_4 hz_5 hz_s; replace hx := (hk.block (rowT (heap_past _ hx)).2.2).trans (heap_past _ hx); replace hy := (hk.block (row6 (heap_past _ hy)).2.2.2.2.2.2).trans (heap_past _ hy); replace hz := (hk.block (row6 (heap_past _ hz)).2.2.2.2.2.2).trans (heap_past _ hz); replace hu := (hu.alloc _).call hk; clear hk; obtain ⟨hx_0, hx_1, hx_s⟩ := rowT hx; obtain ⟨hy_0, hy_1, hy_2, hy_3, hy_4, hy_5, hy_s⟩ := row6 hy; obtain ⟨hz_0, hz_1, hz_2, hz_3, hz_4, hz_5, hz_s⟩ := row6 hz; have HT2 := Lib.hid hT2; clear hT2)
      | (go_at_call 21; (with_reducible refine (cI0 _ _ _ _ _ _ HT2.out).mono ?_); rintro e w3 ⟨r3, A3, c3, us3, rfl, hT3, hk⟩; clear HT2 cI0; have HT3 := Lib.hid hT3; clear hT3; clear hx_0 hx_1 hx_s; clear hy_0 hy_1 hy_2 hy_3 hy_4 hy_5 hy_s; clear hz_0 hz_1 hz_2 hz_3 hz_4 hz_5 hz_s; replace hx := (hk.block (rowT hx).2.2).trans hx; replace hy := (hk.block (row6 hy).2.2.2.2.2.2).trans hy; replace hz := (hk.block (row6 hz).2.2.2.2.2.2).trans hz; replace hu := hu.call hk; clear hk; obtain ⟨hx_0, hx_1, hx_s⟩ := rowT hx; obtain ⟨hy_0, hy_1, hy_2, hy_3, hy_4, hy_5, hy_s⟩ := row6 hy; obtain ⟨hz_0, hz_1, hz_2, hz_3, hz_4, hz_5, hz_s⟩ := row6 hz; have hXi := hz_s; replace HT3 := Lib.hid (HT3.out.calm ((Calm.refl _).alloc (.cells #[.int .i64 r3, .slice A3 us3.length c3] 24))); clear hx_0 hx_1 hx_s; clear hy_0 hy_1 hy_2 hy_3 hy_4 hy_5 hy_s; clear hz_0 hz_1 hz_2 hz_3 hz_4 hz_5 hz_s; replace hx := heap_past (.cells #[.int .i64 r3, .slice A3 us3.length c3] 24) hx; replace hy := heap_past (.cells #[.int .i64 r3, .slice A3 us3.length c3] 24) hy; replace hz := heap_past (.cells #[.int .i64 r3, .slice A3 us3.length c3] 24) hz; replace hu := hu.alloc (.cells #[.int .i64 r3, .slice A3 us3.length c3] 24); have hX := heap_new w3 (.cells #[.int .i64 r3, .slice A3 us3.length c3] 24); obtain ⟨hx_0, hx_1, hx_s⟩ := rowT hx; obtain ⟨hy_0, hy_1, hy_2, hy_3, hy_4, hy_5, hy_s⟩ := row6 hy; obtain ⟨hz_0, hz_1, hz_2, hz_3, hz_4, hz_5, hz_s⟩ := row6 hz; obtain ⟨hX_0, hX_1, hX_s⟩ := rowT hX)
      | (go_at_call 13; (with_reducible refine (cA0 _ _ _ _ _ _ HT3.out).mono ?_); rintro e w4 ⟨A4, c4, rfl, hk⟩; clear HT3 cA0; clear hx_0 hx_1 hx_s; clear hy_0 hy_1 hy_2 hy_3 hy_4 hy_5 hy_s; clear hz_0 hz_1 hz_2 hz_3 hz_4 hz_5 hz_s; clear hX_0 hX_1 hX_s; replace hx := (hk.block (rowT hx).2.2).trans hx; replace hy := (hk.block (row6 hy).2.2.2.2.2.2).trans hy; replace hz := (hk.block (row6 hz).2.2.2.2.2.2).trans hz; replace hX := (hk.block (rowT hX).2.2).trans hX; replace hu := hu.call hk; clear hk; obtain ⟨hx_0, hx_1, hx_s⟩ := rowT hx; obtain ⟨hy_0, hy_1, hy_2, hy_3, hy_4, hy_5, hy_s⟩ := row6 hy; obtain ⟨hz_0, hz_1, hz_2, hz_3, hz_4, hz_5, hz_s⟩ := row6 hz; obtain ⟨hX_0, hX_1, hX_s⟩ := rowT hX))
  generalize w3.heap.size = gX at hX hX_0 hX_1 hX_s hXi ⊢
  obtain ⟨fX0, fX1⟩ := freeT2 hX
  go_upto_region 6 with (go_at_call 21; (with_reducible refine (cI1 _ hu).mono ?_); rintro e w5 ⟨r5, A5, c5, us5, rfl, -, hk⟩; clear fX0 fX1; clear hx_0 hx_1 hx_s; clear hy_0 hy_1 hy_2 hy_3 hy_4 hy_5 hy_s; clear hz_0 hz_1 hz_2 hz_3 hz_4 hz_5 hz_s; clear hX_0 hX_1 hX_s; replace hx := (hk.block (rowT hx).2.2).trans hx; replace hy := (hk.block (row6 hy).2.2.2.2.2.2).trans hy; replace hz := (hk.block (row6 hz).2.2.2.2.2.2).trans hz; replace hX := (hk.block (rowT hX).2.2).trans hX; replace hu := hu.call hk; clear hk; obtain ⟨hx_0, hx_1, hx_s⟩ := rowT hx; obtain ⟨hy_0, hy_1, hy_2, hy_3, hy_4, hy_5, hy_s⟩ := row6 hy; obtain ⟨hz_0, hz_1, hz_2, hz_3, hz_4, hz_5, hz_s⟩ := row6 hz; obtain ⟨hX_0, hX_1, hX_s⟩ := rowT hX; obtain ⟨fX0, fX1⟩ := freeT2 hX)
  clear fX0 fX1
  clear hx_0 hx_1 hx_s; clear hy_0 hy_1 hy_2 hy_3 hy_4 hy_5 hy_s; clear hz_0 hz_1 hz_2 hz_3 hz_4 hz_5 hz_s; clear hX_0 hX_1 hX_s
  have hXlt := hXi
  replace hx := (two_other (w := w5) (g := gX) (by omega) (.int .i64 r5) (.slice A5 us5.length c5)).trans hx
  replace hy := (two_other (w := w5) (g := gX) (by omega) (.int .i64 r5) (.slice A5 us5.length c5)).trans hy
  replace hz := (two_other (w := w5) (g := gX) (by omega) (.int .i64 r5) (.slice A5 us5.length c5)).trans hz
  replace hX := setT2 hX (.int .i64 r5) (.slice A5 us5.length c5)
  replace hu := hu.twoT (g := gX) (by omega) (.int .i64 r5) (.slice A5 us5.length c5)
  generalize (w5.setCell ⟨gX, 0, none⟩ (.int .i64 r5)).setCell ⟨gX, 1, none⟩ (.slice A5 us5.length c5) = w6 at hx hy hz hX hu ⊢
  obtain ⟨hx_0, hx_1, hx_s⟩ := rowT hx; obtain ⟨hy_0, hy_1, hy_2, hy_3, hy_4, hy_5, hy_s⟩ := row6 hy; obtain ⟨hz_0, hz_1, hz_2, hz_3, hz_4, hz_5, hz_s⟩ := row6 hz; obtain ⟨hX_0, hX_1, hX_s⟩ := rowT hX
  go_wp2_with (go_at_call 21; (with_reducible refine (cI2 _ hu).mono ?_); rintro e w7 ⟨rfl, hk⟩; clear hx_0 hx_1 hx_s; clear hy_0 hy_1 hy_2 hy_3 hy_4 hy_5 hy_s; clear hz_0 hz_1 hz_2 hz_3 hz_4 hz_5 hz_s; clear hX_0 hX_1 hX_s; replace hx := (hk.block (rowT hx).2.2).trans hx; replace hy := (hk.block (row6 hy).2.2.2.2.2.2).trans hy; replace hz := (hk.block (row6 hz).2.2.2.2.2.2).trans hz; replace hX := (hk.block (rowT hX).2.2).trans hX; replace hu := hu.call hk; clear hk; obtain ⟨hx_0, hx_1, hx_s⟩ := rowT hx; obtain ⟨hy_0, hy_1, hy_2, hy_3, hy_4, hy_5, hy_s⟩ := row6 hy; obtain ⟨hz_0, hz_1, hz_2, hz_3, hz_4, hz_5, hz_s⟩ := row6 hz; obtain ⟨hX_0, hX_1, hX_s⟩ := rowT hX; clear hx_0 hx_1 hx_s; clear hy_0 hy_1 hy_2 hy_3 hy_4 hy_5 hy_s; clear hz_0 hz_1 hz_2 hz_3 hz_4 hz_5 hz_s; clear hX_0 hX_1 hX_s; replace hx := heap_past (.cells #[.int .i64 0, .slice none 0 0] 24) hx; replace hy := heap_past (.cells #[.int .i64 0, .slice none 0 0] 24) hy; replace hz := heap_past (.cells #[.int .i64 0, .slice none 0 0] 24) hz; replace hX := heap_past (.cells #[.int .i64 0, .slice none 0 0] 24) hX; replace hu := hu.alloc (.cells #[.int .i64 0, .slice none 0 0] 24); have hY := heap_new w7 (.cells #[.int .i64 0, .slice none 0 0] 24); obtain ⟨hx_0, hx_1, hx_s⟩ := rowT hx; obtain ⟨hy_0, hy_1, hy_2, hy_3, hy_4, hy_5, hy_s⟩ := row6 hy; obtain ⟨hz_0, hz_1, hz_2, hz_3, hz_4, hz_5, hz_s⟩ := row6 hz; obtain ⟨hX_0, hX_1, hX_s⟩ := rowT hX; obtain ⟨hY_0, hY_1, hY_s⟩ := rowT hY)
  go_ret
  exact ⟨rfl, hu⟩
set_option maxHeartbeats 16000000 in
theorem go_refused (root : Int) (A : Option Addr) (c : Nat) (l : List Nd) (p o f m g : Int) (s : ByteArray) (p' o' f' m' g' : Int) (s' : ByteArray) (w : World) (L : List El) (hh : HasL w root A l L) (E : Int) (h0 : E ≠ 0) (hE : insR L ⟨p, o, f, m, g, s⟩ = 0) (hF : insR L ⟨p', o', f', m', g', s'⟩ = 0) (h2 : insR (ins ⟨p, o, f, m, g, s⟩ L) ⟨p', o', f', m', g', s'⟩ = E) :
    Calls Try.prog 5 #[.agg #[.int .i64 root, .slice A l.length c], .agg #[.int .i64 p, .int .i64 o, .int .i64 f, .int .i64 m, .int .i64 g, .string s], .agg #[.int .i64 p', .int .i64 o', .int .i64 f', .int .i64 m', .int .i64 g', .string s']] w fun e w' => e = .returned (.bool true) ∧ Calm w w' := by
  have hx := heap_past (.cells #[.int .i64 p', .int .i64 o', .int .i64 f', .int .i64 m', .int .i64 g', .string s'] 29) (heap_past (.cells #[.int .i64 p, .int .i64 o, .int .i64 f, .int .i64 m, .int .i64 g, .string s] 29) (heap_new w (.cells #[.int .i64 root, .slice A l.length c] 24)))
  have hy := heap_past (.cells #[.int .i64 p', .int .i64 o', .int .i64 f', .int .i64 m', .int .i64 g', .string s'] 29) (heap_new (w.alloc (.cells #[.int .i64 root, .slice A l.length c] 24)) (.cells #[.int .i64 p, .int .i64 o, .int .i64 f, .int .i64 m, .int .i64 g, .string s] 29))
  have hz := heap_new ((w.alloc (.cells #[.int .i64 root, .slice A l.length c] 24)).alloc (.cells #[.int .i64 p, .int .i64 o, .int .i64 f, .int .i64 m, .int .i64 g, .string s] 29)) (.cells #[.int .i64 p', .int .i64 o', .int .i64 f', .int .i64 m', .int .i64 g', .string s'] 29)
  rw [World.size_alloc] at hy hz
  rw [World.size_alloc] at hz
  have hu := (((Calm.refl w).alloc (.cells #[.int .i64 root, .slice A l.length c] 24)).alloc (.cells #[.int .i64 p, .int .i64 o, .int .i64 f, .int .i64 m, .int .i64 g, .string s] 29)).alloc (.cells #[.int .i64 p', .int .i64 o', .int .i64 f', .int .i64 m', .int .i64 g', .string s'] 29)
  have cI0 := fun r2 A2 c2 us2 B u (hT : TreeOk B u r2 A2 c2 us2 [eA]) => hT.has.ins_ok (p := 0) (o := 0) (f := 2) (m := 1) (g := 0) (s := { data := #[98] }) c2 insR_AB
  have cA0 : ∀ r2 A2 c2 us2 B u, TreeOk B u r2 A2 c2 us2 (ins eB [eA]) → Calls Try.prog 13 #[.agg #[.int .i64 r2, .slice A2 us2.length c2]] u fun e w' => ∃ A' c', e = .returned (.tuple #[.slice A' 2 c', .int .i64 0]) ∧ Calm u w' := fun r2 A2 c2 us2 B u hT => (hT.has.allC c2).mono fun e w' ⟨A', c', h1, _, _, _, h2⟩ => ⟨A', c', by rw [h1, insAB_len], h2⟩
  have cI1 := fun u (hu : Calm w u) => (hh.calm hu).ins_ok c (hE : insR L ⟨p, o, f, m, g, s⟩ = 0)
  have cI2 := fun u (hu : Calm w u) => (hh.calm hu).ins_ok c (hF : insR L ⟨p', o', f', m', g', s'⟩ = 0)
  have cP := fun r5 A5 c5 us5 B u (hT : TreeOk B u r5 A5 c5 us5 (ins ⟨p, o, f, m, g, s⟩ L)) => hT.has.ins_bad c5 (h2 : insR (ins ⟨p, o, f, m, g, s⟩ L) ⟨p', o', f', m', g', s'⟩ = E) h0
  have cQ := fun r5 A5 c5 us5 B u (hT : TreeOk B u r5 A5 c5 us5 (ins ⟨p', o', f', m', g', s'⟩ L)) => hT.has.ins_bad c5 ((insR_two hE hF).symm.trans h2) h0
  have b1 : (E != 0) = true := by rw [bne_iff_ne]; exact h0
  have b2 : (E != E) = false := by simp
  have b3 : (E == E) = true := by simp
  clear h0 h2
  clear hh hE hF
  generalize ins ⟨p, o, f, m, g, s⟩ L = MA at cI1 cP
  generalize ins ⟨p', o', f', m', g', s'⟩ L = MB at cI2 cQ
  go_enter Try.func5, Try.ntmps5
  go_upto_region 1 with fail
  generalize (((w.alloc (.cells #[.int .i64 root, .slice A l.length c] 24)).alloc (.cells #[.int .i64 p, .int .i64 o, .int .i64 f, .int .i64 m, .int .i64 g, .string s] 29)).alloc (.cells #[.int .i64 p', .int .i64 o', .int .i64 f', .int .i64 m', .int .i64 g', .string s'] 29)) = w0 at hx hy hz hu ⊢
  obtain ⟨hx_0, hx_1, hx_s⟩ := rowT hx
  obtain ⟨hy_0, hy_1, hy_2, hy_3, hy_4, hy_5, hy_s⟩ := row6 hy
  obtain ⟨hz_0, hz_1, hz_2, hz_3, hz_4, hz_5, hz_s⟩ := row6 hz
  go_upto_region 5 with (first
      | (have HTT := HT2.out; clear HTT; go_at_call 22; (with_reducible refine (atk_any _ _ _).mono ?_); rintro e w1b ⟨rfl, hk⟩; clear hx_0 hx_1 hx_s; clear hy_0 hy_1 hy_2 hy_3 hy_4 hy_5 hy_s; clear hz_0 hz_1 hz_2 hz_3 hz_4 hz_5 hz_s; replace hx := (hk.block (rowT hx).2.2).trans hx; replace hy := (hk.block (row6 hy).2.2.2.2.2.2).trans hy; replace hz := (hk.block (row6 hz).2.2.2.2.2.2).trans hz; replace HT2 := Lib.hid (HT2.out.calm hk); replace hu := hu.call hk; clear hk; obtain ⟨hx_0, hx_1, hx_s⟩ := rowT hx; obtain ⟨hy_0, hy_1, hy_2, hy_3, hy_4, hy_5, hy_s⟩ := row6 hy; obtain ⟨hz_0, hz_1, hz_2, hz_3, hz_4, hz_5, hz_s⟩ := row6 hz)
      | (go_at_call 22; (with_reducible refine (atk_any _ _ _).mono ?_); rintro e w1 ⟨rfl, hk⟩; clear hx_0 hx_1 hx_s; clear hy_0 hy_1 hy_2 hy_3 hy_4 hy_5 hy_s; clear hz_0 hz_1 hz_2 hz_3 hz_4 hz_5 hz_s; replace hx := (hk.block (rowT hx).2.2).trans hx; replace hy := (hk.block (row6 hy).2.2.2.2.2.2).trans hy; replace hz := (hk.block (row6 hz).2.2.2.2.2.2).trans hz; replace hu := hu.call hk; clear hk; obtain ⟨hx_0, hx_1, hx_s⟩ := rowT hx; obtain ⟨hy_0, hy_1, hy_2, hy_3, hy_4, hy_5, hy_s⟩ := row6 hy; obtain ⟨hz_0, hz_1, hz_2, hz_3, hz_4, hz_5, hz_s⟩ := row6 hz)
      | (go_at_call 12; (with_reducible refine (of_A _ _ (heap_new _ _)).mono ?_); rintro e w2 h2; obtain ⟨r2, A2, c2, us2, rfl, hT2, hk⟩ := h2.tree; clear h2; clear hx_0 hx_1 hx_s; clear hy_0 hy_1 hy_2 hy_3 hy_4 hy_5 hy_s; clear hz_0 hz_1 hz_2 hz_3 hz_4 hz_5 hz_s; replace hx := (hk.block (rowT (heap_past _ hx)).2.2).trans (heap_past _ hx); replace hy := (hk.block (row6 (heap_past _ hy)).2.2.2.2.2.2).trans (heap_past _ hy); replace hz := (hk.block (row6 (heap_past _ hz)).2.2.2.2.2.2).trans (heap_past _ hz); replace hu := (hu.alloc _).call hk; clear hk; obtain ⟨hx_0, hx_1, hx_s⟩ := rowT hx; obtain ⟨hy_0, hy_1, hy_2, hy_3, hy_4, hy_5, hy_s⟩ := row6 hy; obtain ⟨hz_0, hz_1, hz_2, hz_3, hz_4, hz_5, hz_s⟩ := row6 hz; have HT2 := Lib.hid hT2; clear hT2)
      | (go_at_call 21; (with_reducible refine (cI0 _ _ _ _ _ _ HT2.out).mono ?_); rintro e w3 ⟨r3, A3, c3, us3, rfl, hT3, hk⟩; clear HT2 cI0; have HT3 := Lib.hid hT3; clear hT3; clear hx_0 hx_1 hx_s; clear hy_0 hy_1 hy_2 hy_3 hy_4 hy_5 hy_s; clear hz_0 hz_1 hz_2 hz_3 hz_4 hz_5 hz_s; replace hx := (hk.block (rowT hx).2.2).trans hx; replace hy := (hk.block (row6 hy).2.2.2.2.2.2).trans hy; replace hz := (hk.block (row6 hz).2.2.2.2.2.2).trans hz; replace hu := hu.call hk; clear hk; obtain ⟨hx_0, hx_1, hx_s⟩ := rowT hx; obtain ⟨hy_0, hy_1, hy_2, hy_3, hy_4, hy_5, hy_s⟩ := row6 hy; obtain ⟨hz_0, hz_1, hz_2, hz_3, hz_4, hz_5, hz_s⟩ := row6 hz; have hXi := hz_s; replace HT3 := Lib.hid (HT3.out.calm ((Calm.refl _).alloc (.cells #[.int .i64 r3, .slice A3 us3.length c3] 24))); clear hx_0 hx_1 hx_s; clear hy_0 hy_1 hy_2 hy_3 hy_4 hy_5 hy_s; clear hz_0 hz_1 hz_2 hz_3 hz_4 hz_5 hz_s; replace hx := heap_past (.cells #[.int .i64 r3, .slice A3 us3.length c3] 24) hx; replace hy := heap_past (.cells #[.int .i64 r3, .slice A3 us3.length c3] 24) hy; replace hz := heap_past (.cells #[.int .i64 r3, .slice A3 us3.length c3] 24) hz; replace hu := hu.alloc (.cells #[.int .i64 r3, .slice A3 us3.length c3] 24); have hX := heap_new w3 (.cells #[.int .i64 r3, .slice A3 us3.length c3] 24); obtain ⟨hx_0, hx_1, hx_s⟩ := rowT hx; obtain ⟨hy_0, hy_1, hy_2, hy_3, hy_4, hy_5, hy_s⟩ := row6 hy; obtain ⟨hz_0, hz_1, hz_2, hz_3, hz_4, hz_5, hz_s⟩ := row6 hz; obtain ⟨hX_0, hX_1, hX_s⟩ := rowT hX)
      | (go_at_call 13; (with_reducible refine (cA0 _ _ _ _ _ _ HT3.out).mono ?_); rintro e w4 ⟨A4, c4, rfl, hk⟩; clear HT3 cA0; clear hx_0 hx_1 hx_s; clear hy_0 hy_1 hy_2 hy_3 hy_4 hy_5 hy_s; clear hz_0 hz_1 hz_2 hz_3 hz_4 hz_5 hz_s; clear hX_0 hX_1 hX_s; replace hx := (hk.block (rowT hx).2.2).trans hx; replace hy := (hk.block (row6 hy).2.2.2.2.2.2).trans hy; replace hz := (hk.block (row6 hz).2.2.2.2.2.2).trans hz; replace hX := (hk.block (rowT hX).2.2).trans hX; replace hu := hu.call hk; clear hk; obtain ⟨hx_0, hx_1, hx_s⟩ := rowT hx; obtain ⟨hy_0, hy_1, hy_2, hy_3, hy_4, hy_5, hy_s⟩ := row6 hy; obtain ⟨hz_0, hz_1, hz_2, hz_3, hz_4, hz_5, hz_s⟩ := row6 hz; obtain ⟨hX_0, hX_1, hX_s⟩ := rowT hX))
  generalize w3.heap.size = gX at hX hX_0 hX_1 hX_s hXi ⊢
  obtain ⟨fX0, fX1⟩ := freeT2 hX
  go_upto_region 6 with (go_at_call 21; (with_reducible refine (cI1 _ hu).mono ?_); rintro e w5 ⟨r5, A5, c5, us5, rfl, hT5, hk⟩; have hX6 := hX_s; have HT5 := Lib.hid hT5; clear hT5 cI1; clear fX0 fX1; clear hx_0 hx_1 hx_s; clear hy_0 hy_1 hy_2 hy_3 hy_4 hy_5 hy_s; clear hz_0 hz_1 hz_2 hz_3 hz_4 hz_5 hz_s; clear hX_0 hX_1 hX_s; replace hx := (hk.block (rowT hx).2.2).trans hx; replace hy := (hk.block (row6 hy).2.2.2.2.2.2).trans hy; replace hz := (hk.block (row6 hz).2.2.2.2.2.2).trans hz; replace hX := (hk.block (rowT hX).2.2).trans hX; replace hu := hu.call hk; clear hk; obtain ⟨hx_0, hx_1, hx_s⟩ := rowT hx; obtain ⟨hy_0, hy_1, hy_2, hy_3, hy_4, hy_5, hy_s⟩ := row6 hy; obtain ⟨hz_0, hz_1, hz_2, hz_3, hz_4, hz_5, hz_s⟩ := row6 hz; obtain ⟨hX_0, hX_1, hX_s⟩ := rowT hX; obtain ⟨fX0, fX1⟩ := freeT2 hX)
  clear fX0 fX1
  have HT6 := Lib.hid (HT5.out.two (g := gX) hX6 (.int .i64 r5) (.slice A5 us5.length c5))
  clear HT5
  clear hx_0 hx_1 hx_s; clear hy_0 hy_1 hy_2 hy_3 hy_4 hy_5 hy_s; clear hz_0 hz_1 hz_2 hz_3 hz_4 hz_5 hz_s; clear hX_0 hX_1 hX_s
  have hXlt := hXi
  replace hx := (two_other (w := w5) (g := gX) (by omega) (.int .i64 r5) (.slice A5 us5.length c5)).trans hx
  replace hy := (two_other (w := w5) (g := gX) (by omega) (.int .i64 r5) (.slice A5 us5.length c5)).trans hy
  replace hz := (two_other (w := w5) (g := gX) (by omega) (.int .i64 r5) (.slice A5 us5.length c5)).trans hz
  replace hX := setT2 hX (.int .i64 r5) (.slice A5 us5.length c5)
  replace hu := hu.twoT (g := gX) (by omega) (.int .i64 r5) (.slice A5 us5.length c5)
  generalize (w5.setCell ⟨gX, 0, none⟩ (.int .i64 r5)).setCell ⟨gX, 1, none⟩ (.slice A5 us5.length c5) = w6 at hx hy hz hX hu HT6 ⊢
  obtain ⟨hx_0, hx_1, hx_s⟩ := rowT hx; obtain ⟨hy_0, hy_1, hy_2, hy_3, hy_4, hy_5, hy_s⟩ := row6 hy; obtain ⟨hz_0, hz_1, hz_2, hz_3, hz_4, hz_5, hz_s⟩ := row6 hz; obtain ⟨hX_0, hX_1, hX_s⟩ := rowT hX
  go_wp2_with (first
      | (go_at_call 21; (with_reducible refine (cI2 _ hu).mono ?_); rintro e w7 ⟨r7, A7, c7, us7, rfl, hT7, hk⟩; have HT7 := Lib.hid (hT7.calm ((Calm.refl _).alloc (.cells #[.int .i64 r7, .slice A7 us7.length c7] 24))); clear hT7 cI2; clear hx_0 hx_1 hx_s; clear hy_0 hy_1 hy_2 hy_3 hy_4 hy_5 hy_s; clear hz_0 hz_1 hz_2 hz_3 hz_4 hz_5 hz_s; clear hX_0 hX_1 hX_s; replace hx := (hk.block (rowT hx).2.2).trans hx; replace hy := (hk.block (row6 hy).2.2.2.2.2.2).trans hy; replace hz := (hk.block (row6 hz).2.2.2.2.2.2).trans hz; replace hX := (hk.block (rowT hX).2.2).trans hX; replace HT6 := Lib.hid (HT6.out.calm hk); replace hu := hu.call hk; clear hk; obtain ⟨hx_0, hx_1, hx_s⟩ := rowT hx; obtain ⟨hy_0, hy_1, hy_2, hy_3, hy_4, hy_5, hy_s⟩ := row6 hy; obtain ⟨hz_0, hz_1, hz_2, hz_3, hz_4, hz_5, hz_s⟩ := row6 hz; obtain ⟨hX_0, hX_1, hX_s⟩ := rowT hX; clear hx_0 hx_1 hx_s; clear hy_0 hy_1 hy_2 hy_3 hy_4 hy_5 hy_s; clear hz_0 hz_1 hz_2 hz_3 hz_4 hz_5 hz_s; clear hX_0 hX_1 hX_s; replace hx := heap_past (.cells #[.int .i64 r7, .slice A7 us7.length c7] 24) hx; replace hy := heap_past (.cells #[.int .i64 r7, .slice A7 us7.length c7] 24) hy; replace hz := heap_past (.cells #[.int .i64 r7, .slice A7 us7.length c7] 24) hz; replace hX := heap_past (.cells #[.int .i64 r7, .slice A7 us7.length c7] 24) hX; replace HT6 := Lib.hid (HT6.out.calm ((Calm.refl _).alloc (.cells #[.int .i64 r7, .slice A7 us7.length c7] 24))); replace hu := hu.alloc (.cells #[.int .i64 r7, .slice A7 us7.length c7] 24); have hY := heap_new w7 (.cells #[.int .i64 r7, .slice A7 us7.length c7] 24); obtain ⟨hx_0, hx_1, hx_s⟩ := rowT hx; obtain ⟨hy_0, hy_1, hy_2, hy_3, hy_4, hy_5, hy_s⟩ := row6 hy; obtain ⟨hz_0, hz_1, hz_2, hz_3, hz_4, hz_5, hz_s⟩ := row6 hz; obtain ⟨hX_0, hX_1, hX_s⟩ := rowT hX; obtain ⟨hY_0, hY_1, hY_s⟩ := rowT hY)
      | (go_at_call 21; (with_reducible refine (cP _ _ _ _ _ _ HT6.out).mono ?_); rintro e w8 ⟨rfl, hk⟩; clear HT6 cP; clear hx_0 hx_1 hx_s; clear hy_0 hy_1 hy_2 hy_3 hy_4 hy_5 hy_s; clear hz_0 hz_1 hz_2 hz_3 hz_4 hz_5 hz_s; clear hX_0 hX_1 hX_s; clear hY_0 hY_1 hY_s; replace hx := (hk.block (rowT hx).2.2).trans hx; replace hy := (hk.block (row6 hy).2.2.2.2.2.2).trans hy; replace hz := (hk.block (row6 hz).2.2.2.2.2.2).trans hz; replace hX := (hk.block (rowT hX).2.2).trans hX; replace hY := (hk.block (rowT hY).2.2).trans hY; replace HT7 := Lib.hid (HT7.out.calm hk); replace hu := hu.call hk; clear hk; obtain ⟨hx_0, hx_1, hx_s⟩ := rowT hx; obtain ⟨hy_0, hy_1, hy_2, hy_3, hy_4, hy_5, hy_s⟩ := row6 hy; obtain ⟨hz_0, hz_1, hz_2, hz_3, hz_4, hz_5, hz_s⟩ := row6 hz; obtain ⟨hX_0, hX_1, hX_s⟩ := rowT hX; obtain ⟨hY_0, hY_1, hY_s⟩ := rowT hY; clear hx_0 hx_1 hx_s; clear hy_0 hy_1 hy_2 hy_3 hy_4 hy_5 hy_s; clear hz_0 hz_1 hz_2 hz_3 hz_4 hz_5 hz_s; clear hX_0 hX_1 hX_s; clear hY_0 hY_1 hY_s; replace hx := heap_past (.cells #[.int .i64 0, .slice none 0 0] 24) hx; replace hy := heap_past (.cells #[.int .i64 0, .slice none 0 0] 24) hy; replace hz := heap_past (.cells #[.int .i64 0, .slice none 0 0] 24) hz; replace hX := heap_past (.cells #[.int .i64 0, .slice none 0 0] 24) hX; replace hY := heap_past (.cells #[.int .i64 0, .slice none 0 0] 24) hY; replace HT7 := Lib.hid (HT7.out.calm ((Calm.refl _).alloc (.cells #[.int .i64 0, .slice none 0 0] 24))); replace hu := hu.alloc (.cells #[.int .i64 0, .slice none 0 0] 24); have hP := heap_new w8 (.cells #[.int .i64 0, .slice none 0 0] 24); obtain ⟨hx_0, hx_1, hx_s⟩ := rowT hx; obtain ⟨hy_0, hy_1, hy_2, hy_3, hy_4, hy_5, hy_s⟩ := row6 hy; obtain ⟨hz_0, hz_1, hz_2, hz_3, hz_4, hz_5, hz_s⟩ := row6 hz; obtain ⟨hX_0, hX_1, hX_s⟩ := rowT hX; obtain ⟨hY_0, hY_1, hY_s⟩ := rowT hY; obtain ⟨hP_0, hP_1, hP_s⟩ := rowT hP)
      | (go_at_call 21; (with_reducible refine (cQ _ _ _ _ _ _ HT7.out).mono ?_); rintro e w9 ⟨rfl, hk⟩; clear HT7 cQ; clear hx_0 hx_1 hx_s; clear hy_0 hy_1 hy_2 hy_3 hy_4 hy_5 hy_s; clear hz_0 hz_1 hz_2 hz_3 hz_4 hz_5 hz_s; clear hX_0 hX_1 hX_s; clear hY_0 hY_1 hY_s; clear hP_0 hP_1 hP_s; replace hx := (hk.block (rowT hx).2.2).trans hx; replace hy := (hk.block (row6 hy).2.2.2.2.2.2).trans hy; replace hz := (hk.block (row6 hz).2.2.2.2.2.2).trans hz; replace hX := (hk.block (rowT hX).2.2).trans hX; replace hY := (hk.block (rowT hY).2.2).trans hY; replace hP := (hk.block (rowT hP).2.2).trans hP; replace hu := hu.call hk; clear hk; obtain ⟨hx_0, hx_1, hx_s⟩ := rowT hx; obtain ⟨hy_0, hy_1, hy_2, hy_3, hy_4, hy_5, hy_s⟩ := row6 hy; obtain ⟨hz_0, hz_1, hz_2, hz_3, hz_4, hz_5, hz_s⟩ := row6 hz; obtain ⟨hX_0, hX_1, hX_s⟩ := rowT hX; obtain ⟨hY_0, hY_1, hY_s⟩ := rowT hY; obtain ⟨hP_0, hP_1, hP_s⟩ := rowT hP; clear hx_0 hx_1 hx_s; clear hy_0 hy_1 hy_2 hy_3 hy_4 hy_5 hy_s; clear hz_0 hz_1 hz_2 hz_3 hz_4 hz_5 hz_s; clear hX_0 hX_1 hX_s; clear hY_0 hY_1 hY_s; clear hP_0 hP_1 hP_s; replace hx := heap_past (.cells #[.int .i64 0, .slice none 0 0] 24) hx; replace hy := heap_past (.cells #[.int .i64 0, .slice none 0 0] 24) hy; replace hz := heap_past (.cells #[.int .i64 0, .slice none 0 0] 24) hz; replace hX := heap_past (.cells #[.int .i64 0, .slice none 0 0] 24) hX; replace hY := heap_past (.cells #[.int .i64 0, .slice none 0 0] 24) hY; replace hP := heap_past (.cells #[.int .i64 0, .slice none 0 0] 24) hP; replace hu := hu.alloc (.cells #[.int .i64 0, .slice none 0 0] 24); have hQ := heap_new w9 (.cells #[.int .i64 0, .slice none 0 0] 24); obtain ⟨hx_0, hx_1, hx_s⟩ := rowT hx; obtain ⟨hy_0, hy_1, hy_2, hy_3, hy_4, hy_5, hy_s⟩ := row6 hy; obtain ⟨hz_0, hz_1, hz_2, hz_3, hz_4, hz_5, hz_s⟩ := row6 hz; obtain ⟨hX_0, hX_1, hX_s⟩ := rowT hX; obtain ⟨hY_0, hY_1, hY_s⟩ := rowT hY; obtain ⟨hP_0, hP_1, hP_s⟩ := rowT hP; obtain ⟨hQ_0, hQ_1, hQ_s⟩ := rowT hQ))
  go_ret
  exact ⟨rfl, hu⟩
set_option maxHeartbeats 16000000 in
theorem go_both (root : Int) (A : Option Addr) (c : Nat) (l : List Nd) (p o f m g : Int) (s : ByteArray) (p' o' f' m' g' : Int) (s' : ByteArray) (w : World) (L : List El) (hh : HasL w root A l L) (hE : insR L ⟨p, o, f, m, g, s⟩ = 0) (hF : insR L ⟨p', o', f', m', g', s'⟩ = 0) (h2 : insR (ins ⟨p, o, f, m, g, s⟩ L) ⟨p', o', f', m', g', s'⟩ = 0) :
    Calls Try.prog 5 #[.agg #[.int .i64 root, .slice A l.length c], .agg #[.int .i64 p, .int .i64 o, .int .i64 f, .int .i64 m, .int .i64 g, .string s], .agg #[.int .i64 p', .int .i64 o', .int .i64 f', .int .i64 m', .int .i64 g', .string s']] w fun e w' => e = .returned (.bool true) ∧ Calm w w' := by
  have hx := heap_past (.cells #[.int .i64 p', .int .i64 o', .int .i64 f', .int .i64 m', .int .i64 g', .string s'] 29) (heap_past (.cells #[.int .i64 p, .int .i64 o, .int .i64 f, .int .i64 m, .int .i64 g, .string s] 29) (heap_new w (.cells #[.int .i64 root, .slice A l.length c] 24)))
  have hy := heap_past (.cells #[.int .i64 p', .int .i64 o', .int .i64 f', .int .i64 m', .int .i64 g', .string s'] 29) (heap_new (w.alloc (.cells #[.int .i64 root, .slice A l.length c] 24)) (.cells #[.int .i64 p, .int .i64 o, .int .i64 f, .int .i64 m, .int .i64 g, .string s] 29))
  have hz := heap_new ((w.alloc (.cells #[.int .i64 root, .slice A l.length c] 24)).alloc (.cells #[.int .i64 p, .int .i64 o, .int .i64 f, .int .i64 m, .int .i64 g, .string s] 29)) (.cells #[.int .i64 p', .int .i64 o', .int .i64 f', .int .i64 m', .int .i64 g', .string s'] 29)
  rw [World.size_alloc] at hy hz
  rw [World.size_alloc] at hz
  have hu := (((Calm.refl w).alloc (.cells #[.int .i64 root, .slice A l.length c] 24)).alloc (.cells #[.int .i64 p, .int .i64 o, .int .i64 f, .int .i64 m, .int .i64 g, .string s] 29)).alloc (.cells #[.int .i64 p', .int .i64 o', .int .i64 f', .int .i64 m', .int .i64 g', .string s'] 29)
  have cI0 := fun r2 A2 c2 us2 B u (hT : TreeOk B u r2 A2 c2 us2 [eA]) => hT.has.ins_ok (p := 0) (o := 0) (f := 2) (m := 1) (g := 0) (s := { data := #[98] }) c2 insR_AB
  have cA0 : ∀ r2 A2 c2 us2 B u, TreeOk B u r2 A2 c2 us2 (ins eB [eA]) → Calls Try.prog 13 #[.agg #[.int .i64 r2, .slice A2 us2.length c2]] u fun e w' => ∃ A' c', e = .returned (.tuple #[.slice A' 2 c', .int .i64 0]) ∧ Calm u w' := fun r2 A2 c2 us2 B u hT => (hT.has.allC c2).mono fun e w' ⟨A', c', h1, _, _, _, h2⟩ => ⟨A', c', by rw [h1, insAB_len], h2⟩
  have cI1 := fun u (hu : Calm w u) => (hh.calm hu).ins_ok c (hE : insR L ⟨p, o, f, m, g, s⟩ = 0)
  have cI2 := fun u (hu : Calm w u) => (hh.calm hu).ins_ok c (hF : insR L ⟨p', o', f', m', g', s'⟩ = 0)
  have cP := fun r5 A5 c5 us5 B u (hT : TreeOk B u r5 A5 c5 us5 (ins ⟨p, o, f, m, g, s⟩ L)) => hT.has.ins_ok c5 (h2 : insR (ins ⟨p, o, f, m, g, s⟩ L) ⟨p', o', f', m', g', s'⟩ = 0)
  have cQ := fun r5 A5 c5 us5 B u (hT : TreeOk B u r5 A5 c5 us5 (ins ⟨p', o', f', m', g', s'⟩ L)) => hT.has.ins_ok c5 ((insR_two hE hF).symm.trans h2)
  have hcm : ins ⟨p', o', f', m', g', s'⟩ (ins ⟨p, o, f, m, g, s⟩ L) = ins ⟨p, o, f, m, g, s⟩ (ins ⟨p', o', f', m', g', s'⟩ L) := by
    obtain ⟨-, q1, -⟩ := insR_zero.1 hE
    obtain ⟨-, q2, -⟩ := insR_zero.1 hF
    exact ins_comm hh.rise (fun e => insR_apart h2 e.symm) (spot_out q2) (spot_out q1)
  rw [← hcm] at cQ
  have hlen : (ins ⟨p', o', f', m', g', s'⟩ (ins ⟨p, o, f, m, g, s⟩ L)).length = L.length + 1 + 1 := by rw [ins_len1, ins_len1]
  have hl4 : L.length < 400 := (insR_zero.1 hE).2.2
  have hnn : (ins ⟨p', o', f', m', g', s'⟩ (ins ⟨p, o, f, m, g, s⟩ L)).length ≤ 9223372036854775807 := by omega
  clear hcm h2 hlen
  generalize ins ⟨p', o', f', m', g', s'⟩ (ins ⟨p, o, f, m, g, s⟩ L) = M at cP cQ hnn
  have cAP := fun r5 A5 c5 us5 B u (hT : TreeOk B u r5 A5 c5 us5 M) => hT.has.allC c5
  clear hh hE hF
  generalize ins ⟨p, o, f, m, g, s⟩ L = MA at cI1 cP
  generalize ins ⟨p', o', f', m', g', s'⟩ L = MB at cI2 cQ
  go_enter Try.func5, Try.ntmps5
  go_upto_region 1 with fail
  generalize (((w.alloc (.cells #[.int .i64 root, .slice A l.length c] 24)).alloc (.cells #[.int .i64 p, .int .i64 o, .int .i64 f, .int .i64 m, .int .i64 g, .string s] 29)).alloc (.cells #[.int .i64 p', .int .i64 o', .int .i64 f', .int .i64 m', .int .i64 g', .string s'] 29)) = w0 at hx hy hz hu ⊢
  obtain ⟨hx_0, hx_1, hx_s⟩ := rowT hx
  obtain ⟨hy_0, hy_1, hy_2, hy_3, hy_4, hy_5, hy_s⟩ := row6 hy
  obtain ⟨hz_0, hz_1, hz_2, hz_3, hz_4, hz_5, hz_s⟩ := row6 hz
  go_upto_region 5 with (first
      | (have HTT := HT2.out; clear HTT; go_at_call 22; (with_reducible refine (atk_any _ _ _).mono ?_); rintro e w1b ⟨rfl, hk⟩; clear hx_0 hx_1 hx_s; clear hy_0 hy_1 hy_2 hy_3 hy_4 hy_5 hy_s; clear hz_0 hz_1 hz_2 hz_3 hz_4 hz_5 hz_s; replace hx := (hk.block (rowT hx).2.2).trans hx; replace hy := (hk.block (row6 hy).2.2.2.2.2.2).trans hy; replace hz := (hk.block (row6 hz).2.2.2.2.2.2).trans hz; replace HT2 := Lib.hid (HT2.out.calm hk); replace hu := hu.call hk; clear hk; obtain ⟨hx_0, hx_1, hx_s⟩ := rowT hx; obtain ⟨hy_0, hy_1, hy_2, hy_3, hy_4, hy_5, hy_s⟩ := row6 hy; obtain ⟨hz_0, hz_1, hz_2, hz_3, hz_4, hz_5, hz_s⟩ := row6 hz)
      | (go_at_call 22; (with_reducible refine (atk_any _ _ _).mono ?_); rintro e w1 ⟨rfl, hk⟩; clear hx_0 hx_1 hx_s; clear hy_0 hy_1 hy_2 hy_3 hy_4 hy_5 hy_s; clear hz_0 hz_1 hz_2 hz_3 hz_4 hz_5 hz_s; replace hx := (hk.block (rowT hx).2.2).trans hx; replace hy := (hk.block (row6 hy).2.2.2.2.2.2).trans hy; replace hz := (hk.block (row6 hz).2.2.2.2.2.2).trans hz; replace hu := hu.call hk; clear hk; obtain ⟨hx_0, hx_1, hx_s⟩ := rowT hx; obtain ⟨hy_0, hy_1, hy_2, hy_3, hy_4, hy_5, hy_s⟩ := row6 hy; obtain ⟨hz_0, hz_1, hz_2, hz_3, hz_4, hz_5, hz_s⟩ := row6 hz)
      | (go_at_call 12; (with_reducible refine (of_A _ _ (heap_new _ _)).mono ?_); rintro e w2 h2; obtain ⟨r2, A2, c2, us2, rfl, hT2, hk⟩ := h2.tree; clear h2; clear hx_0 hx_1 hx_s; clear hy_0 hy_1 hy_2 hy_3 hy_4 hy_5 hy_s; clear hz_0 hz_1 hz_2 hz_3 hz_4 hz_5 hz_s; replace hx := (hk.block (rowT (heap_past _ hx)).2.2).trans (heap_past _ hx); replace hy := (hk.block (row6 (heap_past _ hy)).2.2.2.2.2.2).trans (heap_past _ hy); replace hz := (hk.block (row6 (heap_past _ hz)).2.2.2.2.2.2).trans (heap_past _ hz); replace hu := (hu.alloc _).call hk; clear hk; obtain ⟨hx_0, hx_1, hx_s⟩ := rowT hx; obtain ⟨hy_0, hy_1, hy_2, hy_3, hy_4, hy_5, hy_s⟩ := row6 hy; obtain ⟨hz_0, hz_1, hz_2, hz_3, hz_4, hz_5, hz_s⟩ := row6 hz; have HT2 := Lib.hid hT2; clear hT2)
      | (go_at_call 21; (with_reducible refine (cI0 _ _ _ _ _ _ HT2.out).mono ?_); rintro e w3 ⟨r3, A3, c3, us3, rfl, hT3, hk⟩; clear HT2 cI0; have HT3 := Lib.hid hT3; clear hT3; clear hx_0 hx_1 hx_s; clear hy_0 hy_1 hy_2 hy_3 hy_4 hy_5 hy_s; clear hz_0 hz_1 hz_2 hz_3 hz_4 hz_5 hz_s; replace hx := (hk.block (rowT hx).2.2).trans hx; replace hy := (hk.block (row6 hy).2.2.2.2.2.2).trans hy; replace hz := (hk.block (row6 hz).2.2.2.2.2.2).trans hz; replace hu := hu.call hk; clear hk; obtain ⟨hx_0, hx_1, hx_s⟩ := rowT hx; obtain ⟨hy_0, hy_1, hy_2, hy_3, hy_4, hy_5, hy_s⟩ := row6 hy; obtain ⟨hz_0, hz_1, hz_2, hz_3, hz_4, hz_5, hz_s⟩ := row6 hz; have hXi := hz_s; replace HT3 := Lib.hid (HT3.out.calm ((Calm.refl _).alloc (.cells #[.int .i64 r3, .slice A3 us3.length c3] 24))); clear hx_0 hx_1 hx_s; clear hy_0 hy_1 hy_2 hy_3 hy_4 hy_5 hy_s; clear hz_0 hz_1 hz_2 hz_3 hz_4 hz_5 hz_s; replace hx := heap_past (.cells #[.int .i64 r3, .slice A3 us3.length c3] 24) hx; replace hy := heap_past (.cells #[.int .i64 r3, .slice A3 us3.length c3] 24) hy; replace hz := heap_past (.cells #[.int .i64 r3, .slice A3 us3.length c3] 24) hz; replace hu := hu.alloc (.cells #[.int .i64 r3, .slice A3 us3.length c3] 24); have hX := heap_new w3 (.cells #[.int .i64 r3, .slice A3 us3.length c3] 24); obtain ⟨hx_0, hx_1, hx_s⟩ := rowT hx; obtain ⟨hy_0, hy_1, hy_2, hy_3, hy_4, hy_5, hy_s⟩ := row6 hy; obtain ⟨hz_0, hz_1, hz_2, hz_3, hz_4, hz_5, hz_s⟩ := row6 hz; obtain ⟨hX_0, hX_1, hX_s⟩ := rowT hX)
      | (go_at_call 13; (with_reducible refine (cA0 _ _ _ _ _ _ HT3.out).mono ?_); rintro e w4 ⟨A4, c4, rfl, hk⟩; clear HT3 cA0; clear hx_0 hx_1 hx_s; clear hy_0 hy_1 hy_2 hy_3 hy_4 hy_5 hy_s; clear hz_0 hz_1 hz_2 hz_3 hz_4 hz_5 hz_s; clear hX_0 hX_1 hX_s; replace hx := (hk.block (rowT hx).2.2).trans hx; replace hy := (hk.block (row6 hy).2.2.2.2.2.2).trans hy; replace hz := (hk.block (row6 hz).2.2.2.2.2.2).trans hz; replace hX := (hk.block (rowT hX).2.2).trans hX; replace hu := hu.call hk; clear hk; obtain ⟨hx_0, hx_1, hx_s⟩ := rowT hx; obtain ⟨hy_0, hy_1, hy_2, hy_3, hy_4, hy_5, hy_s⟩ := row6 hy; obtain ⟨hz_0, hz_1, hz_2, hz_3, hz_4, hz_5, hz_s⟩ := row6 hz; obtain ⟨hX_0, hX_1, hX_s⟩ := rowT hX))
  generalize w3.heap.size = gX at hX hX_0 hX_1 hX_s hXi ⊢
  obtain ⟨fX0, fX1⟩ := freeT2 hX
  go_upto_region 6 with (go_at_call 21; (with_reducible refine (cI1 _ hu).mono ?_); rintro e w5 ⟨r5, A5, c5, us5, rfl, hT5, hk⟩; have hX6 := hX_s; have HT5 := Lib.hid hT5; clear hT5 cI1; clear fX0 fX1; clear hx_0 hx_1 hx_s; clear hy_0 hy_1 hy_2 hy_3 hy_4 hy_5 hy_s; clear hz_0 hz_1 hz_2 hz_3 hz_4 hz_5 hz_s; clear hX_0 hX_1 hX_s; replace hx := (hk.block (rowT hx).2.2).trans hx; replace hy := (hk.block (row6 hy).2.2.2.2.2.2).trans hy; replace hz := (hk.block (row6 hz).2.2.2.2.2.2).trans hz; replace hX := (hk.block (rowT hX).2.2).trans hX; replace hu := hu.call hk; clear hk; obtain ⟨hx_0, hx_1, hx_s⟩ := rowT hx; obtain ⟨hy_0, hy_1, hy_2, hy_3, hy_4, hy_5, hy_s⟩ := row6 hy; obtain ⟨hz_0, hz_1, hz_2, hz_3, hz_4, hz_5, hz_s⟩ := row6 hz; obtain ⟨hX_0, hX_1, hX_s⟩ := rowT hX; obtain ⟨fX0, fX1⟩ := freeT2 hX)
  clear fX0 fX1
  have HT6 := Lib.hid (HT5.out.two (g := gX) hX6 (.int .i64 r5) (.slice A5 us5.length c5))
  clear HT5
  clear hx_0 hx_1 hx_s; clear hy_0 hy_1 hy_2 hy_3 hy_4 hy_5 hy_s; clear hz_0 hz_1 hz_2 hz_3 hz_4 hz_5 hz_s; clear hX_0 hX_1 hX_s
  have hXlt := hXi
  replace hx := (two_other (w := w5) (g := gX) (by omega) (.int .i64 r5) (.slice A5 us5.length c5)).trans hx
  replace hy := (two_other (w := w5) (g := gX) (by omega) (.int .i64 r5) (.slice A5 us5.length c5)).trans hy
  replace hz := (two_other (w := w5) (g := gX) (by omega) (.int .i64 r5) (.slice A5 us5.length c5)).trans hz
  replace hX := setT2 hX (.int .i64 r5) (.slice A5 us5.length c5)
  replace hu := hu.twoT (g := gX) (by omega) (.int .i64 r5) (.slice A5 us5.length c5)
  generalize (w5.setCell ⟨gX, 0, none⟩ (.int .i64 r5)).setCell ⟨gX, 1, none⟩ (.slice A5 us5.length c5) = w6 at hx hy hz hX hu HT6 ⊢
  obtain ⟨hx_0, hx_1, hx_s⟩ := rowT hx; obtain ⟨hy_0, hy_1, hy_2, hy_3, hy_4, hy_5, hy_s⟩ := row6 hy; obtain ⟨hz_0, hz_1, hz_2, hz_3, hz_4, hz_5, hz_s⟩ := row6 hz; obtain ⟨hX_0, hX_1, hX_s⟩ := rowT hX
  go_wp2_with (first
      | (go_at_call 21; (with_reducible refine (cI2 _ hu).mono ?_); rintro e w7 ⟨r7, A7, c7, us7, rfl, hT7, hk⟩; have HT7 := Lib.hid (hT7.calm ((Calm.refl _).alloc (.cells #[.int .i64 r7, .slice A7 us7.length c7] 24))); clear hT7 cI2; clear hx_0 hx_1 hx_s; clear hy_0 hy_1 hy_2 hy_3 hy_4 hy_5 hy_s; clear hz_0 hz_1 hz_2 hz_3 hz_4 hz_5 hz_s; clear hX_0 hX_1 hX_s; replace hx := (hk.block (rowT hx).2.2).trans hx; replace hy := (hk.block (row6 hy).2.2.2.2.2.2).trans hy; replace hz := (hk.block (row6 hz).2.2.2.2.2.2).trans hz; replace hX := (hk.block (rowT hX).2.2).trans hX; replace HT6 := Lib.hid (HT6.out.calm hk); replace hu := hu.call hk; clear hk; obtain ⟨hx_0, hx_1, hx_s⟩ := rowT hx; obtain ⟨hy_0, hy_1, hy_2, hy_3, hy_4, hy_5, hy_s⟩ := row6 hy; obtain ⟨hz_0, hz_1, hz_2, hz_3, hz_4, hz_5, hz_s⟩ := row6 hz; obtain ⟨hX_0, hX_1, hX_s⟩ := rowT hX; clear hx_0 hx_1 hx_s; clear hy_0 hy_1 hy_2 hy_3 hy_4 hy_5 hy_s; clear hz_0 hz_1 hz_2 hz_3 hz_4 hz_5 hz_s; clear hX_0 hX_1 hX_s; replace hx := heap_past (.cells #[.int .i64 r7, .slice A7 us7.length c7] 24) hx; replace hy := heap_past (.cells #[.int .i64 r7, .slice A7 us7.length c7] 24) hy; replace hz := heap_past (.cells #[.int .i64 r7, .slice A7 us7.length c7] 24) hz; replace hX := heap_past (.cells #[.int .i64 r7, .slice A7 us7.length c7] 24) hX; replace HT6 := Lib.hid (HT6.out.calm ((Calm.refl _).alloc (.cells #[.int .i64 r7, .slice A7 us7.length c7] 24))); replace hu := hu.alloc (.cells #[.int .i64 r7, .slice A7 us7.length c7] 24); have hY := heap_new w7 (.cells #[.int .i64 r7, .slice A7 us7.length c7] 24); obtain ⟨hx_0, hx_1, hx_s⟩ := rowT hx; obtain ⟨hy_0, hy_1, hy_2, hy_3, hy_4, hy_5, hy_s⟩ := row6 hy; obtain ⟨hz_0, hz_1, hz_2, hz_3, hz_4, hz_5, hz_s⟩ := row6 hz; obtain ⟨hX_0, hX_1, hX_s⟩ := rowT hX; obtain ⟨hY_0, hY_1, hY_s⟩ := rowT hY)
      | (go_at_call 21; (with_reducible refine (cP _ _ _ _ _ _ HT6.out).mono ?_); rintro e w8 ⟨r8, A8, c8, us8, rfl, hT8, hk⟩; clear HT6 cP; have HT8 := Lib.hid (hT8.calm ((Calm.refl _).alloc (.cells #[.int .i64 r8, .slice A8 us8.length c8] 24))); clear hT8; clear hx_0 hx_1 hx_s; clear hy_0 hy_1 hy_2 hy_3 hy_4 hy_5 hy_s; clear hz_0 hz_1 hz_2 hz_3 hz_4 hz_5 hz_s; clear hX_0 hX_1 hX_s; clear hY_0 hY_1 hY_s; replace hx := (hk.block (rowT hx).2.2).trans hx; replace hy := (hk.block (row6 hy).2.2.2.2.2.2).trans hy; replace hz := (hk.block (row6 hz).2.2.2.2.2.2).trans hz; replace hX := (hk.block (rowT hX).2.2).trans hX; replace hY := (hk.block (rowT hY).2.2).trans hY; replace HT7 := Lib.hid (HT7.out.calm hk); replace hu := hu.call hk; clear hk; obtain ⟨hx_0, hx_1, hx_s⟩ := rowT hx; obtain ⟨hy_0, hy_1, hy_2, hy_3, hy_4, hy_5, hy_s⟩ := row6 hy; obtain ⟨hz_0, hz_1, hz_2, hz_3, hz_4, hz_5, hz_s⟩ := row6 hz; obtain ⟨hX_0, hX_1, hX_s⟩ := rowT hX; obtain ⟨hY_0, hY_1, hY_s⟩ := rowT hY; clear hx_0 hx_1 hx_s; clear hy_0 hy_1 hy_2 hy_3 hy_4 hy_5 hy_s; clear hz_0 hz_1 hz_2 hz_3 hz_4 hz_5 hz_s; clear hX_0 hX_1 hX_s; clear hY_0 hY_1 hY_s; replace hx := heap_past (.cells #[.int .i64 r8, .slice A8 us8.length c8] 24) hx; replace hy := heap_past (.cells #[.int .i64 r8, .slice A8 us8.length c8] 24) hy; replace hz := heap_past (.cells #[.int .i64 r8, .slice A8 us8.length c8] 24) hz; replace hX := heap_past (.cells #[.int .i64 r8, .slice A8 us8.length c8] 24) hX; replace hY := heap_past (.cells #[.int .i64 r8, .slice A8 us8.length c8] 24) hY; replace HT7 := Lib.hid (HT7.out.calm ((Calm.refl _).alloc (.cells #[.int .i64 r8, .slice A8 us8.length c8] 24))); replace hu := hu.alloc (.cells #[.int .i64 r8, .slice A8 us8.length c8] 24); have hP := heap_new w8 (.cells #[.int .i64 r8, .slice A8 us8.length c8] 24); obtain ⟨hx_0, hx_1, hx_s⟩ := rowT hx; obtain ⟨hy_0, hy_1, hy_2, hy_3, hy_4, hy_5, hy_s⟩ := row6 hy; obtain ⟨hz_0, hz_1, hz_2, hz_3, hz_4, hz_5, hz_s⟩ := row6 hz; obtain ⟨hX_0, hX_1, hX_s⟩ := rowT hX; obtain ⟨hY_0, hY_1, hY_s⟩ := rowT hY; obtain ⟨hP_0, hP_1, hP_s⟩ := rowT hP)
      | (go_at_call 21; (with_reducible refine (cQ _ _ _ _ _ _ HT7.out).mono ?_); rintro e w9 ⟨r9, A9, c9, us9, rfl, hT9, hk⟩; clear HT7 cQ; have HT9 := Lib.hid (hT9.calm ((Calm.refl _).alloc (.cells #[.int .i64 r9, .slice A9 us9.length c9] 24))); clear hT9; clear hx_0 hx_1 hx_s; clear hy_0 hy_1 hy_2 hy_3 hy_4 hy_5 hy_s; clear hz_0 hz_1 hz_2 hz_3 hz_4 hz_5 hz_s; clear hX_0 hX_1 hX_s; clear hY_0 hY_1 hY_s; clear hP_0 hP_1 hP_s; replace hx := (hk.block (rowT hx).2.2).trans hx; replace hy := (hk.block (row6 hy).2.2.2.2.2.2).trans hy; replace hz := (hk.block (row6 hz).2.2.2.2.2.2).trans hz; replace hX := (hk.block (rowT hX).2.2).trans hX; replace hY := (hk.block (rowT hY).2.2).trans hY; replace hP := (hk.block (rowT hP).2.2).trans hP; replace HT8 := Lib.hid (HT8.out.calm hk); replace hu := hu.call hk; clear hk; obtain ⟨hx_0, hx_1, hx_s⟩ := rowT hx; obtain ⟨hy_0, hy_1, hy_2, hy_3, hy_4, hy_5, hy_s⟩ := row6 hy; obtain ⟨hz_0, hz_1, hz_2, hz_3, hz_4, hz_5, hz_s⟩ := row6 hz; obtain ⟨hX_0, hX_1, hX_s⟩ := rowT hX; obtain ⟨hY_0, hY_1, hY_s⟩ := rowT hY; obtain ⟨hP_0, hP_1, hP_s⟩ := rowT hP; clear hx_0 hx_1 hx_s; clear hy_0 hy_1 hy_2 hy_3 hy_4 hy_5 hy_s; clear hz_0 hz_1 hz_2 hz_3 hz_4 hz_5 hz_s; clear hX_0 hX_1 hX_s; clear hY_0 hY_1 hY_s; clear hP_0 hP_1 hP_s; replace hx := heap_past (.cells #[.int .i64 r9, .slice A9 us9.length c9] 24) hx; replace hy := heap_past (.cells #[.int .i64 r9, .slice A9 us9.length c9] 24) hy; replace hz := heap_past (.cells #[.int .i64 r9, .slice A9 us9.length c9] 24) hz; replace hX := heap_past (.cells #[.int .i64 r9, .slice A9 us9.length c9] 24) hX; replace hY := heap_past (.cells #[.int .i64 r9, .slice A9 us9.length c9] 24) hY; replace hP := heap_past (.cells #[.int .i64 r9, .slice A9 us9.length c9] 24) hP; replace HT8 := Lib.hid (HT8.out.calm ((Calm.refl _).alloc (.cells #[.int .i64 r9, .slice A9 us9.length c9] 24))); replace hu := hu.alloc (.cells #[.int .i64 r9, .slice A9 us9.length c9] 24); have hQ := heap_new w9 (.cells #[.int .i64 r9, .slice A9 us9.length c9] 24); obtain ⟨hx_0, hx_1, hx_s⟩ := rowT hx; obtain ⟨hy_0, hy_1, hy_2, hy_3, hy_4, hy_5, hy_s⟩ := row6 hy; obtain ⟨hz_0, hz_1, hz_2, hz_3, hz_4, hz_5, hz_s⟩ := row6 hz; obtain ⟨hX_0, hX_1, hX_s⟩ := rowT hX; obtain ⟨hY_0, hY_1, hY_s⟩ := rowT hY; obtain ⟨hP_0, hP_1, hP_s⟩ := rowT hP; obtain ⟨hQ_0, hQ_1, hQ_s⟩ := rowT hQ)
      | (go_at_call 13; (with_reducible refine (cAP _ _ _ _ _ _ HT8.out).mono ?_); rintro e w10 ⟨A10, c10, rfl, -, -, hL10, hk⟩; clear HT8; have HL10 := Lib.hid hL10; clear hL10; clear hx_0 hx_1 hx_s; clear hy_0 hy_1 hy_2 hy_3 hy_4 hy_5 hy_s; clear hz_0 hz_1 hz_2 hz_3 hz_4 hz_5 hz_s; clear hX_0 hX_1 hX_s; clear hY_0 hY_1 hY_s; clear hP_0 hP_1 hP_s; clear hQ_0 hQ_1 hQ_s; replace hx := (hk.block (rowT hx).2.2).trans hx; replace hy := (hk.block (row6 hy).2.2.2.2.2.2).trans hy; replace hz := (hk.block (row6 hz).2.2.2.2.2.2).trans hz; replace hX := (hk.block (rowT hX).2.2).trans hX; replace hY := (hk.block (rowT hY).2.2).trans hY; replace hP := (hk.block (rowT hP).2.2).trans hP; replace hQ := (hk.block (rowT hQ).2.2).trans hQ; replace HT9 := Lib.hid (HT9.out.calm hk); replace hu := hu.call hk; clear hk; obtain ⟨hx_0, hx_1, hx_s⟩ := rowT hx; obtain ⟨hy_0, hy_1, hy_2, hy_3, hy_4, hy_5, hy_s⟩ := row6 hy; obtain ⟨hz_0, hz_1, hz_2, hz_3, hz_4, hz_5, hz_s⟩ := row6 hz; obtain ⟨hX_0, hX_1, hX_s⟩ := rowT hX; obtain ⟨hY_0, hY_1, hY_s⟩ := rowT hY; obtain ⟨hP_0, hP_1, hP_s⟩ := rowT hP; obtain ⟨hQ_0, hQ_1, hQ_s⟩ := rowT hQ)
      | (go_at_call 13; (with_reducible refine (cAP _ _ _ _ _ _ HT9.out).mono ?_); rintro e w11 ⟨A11, c11, rfl, -, -, hL11, hk⟩; clear HT9; have HL11 := Lib.hid hL11; clear hL11; clear hx_0 hx_1 hx_s; clear hy_0 hy_1 hy_2 hy_3 hy_4 hy_5 hy_s; clear hz_0 hz_1 hz_2 hz_3 hz_4 hz_5 hz_s; clear hX_0 hX_1 hX_s; clear hY_0 hY_1 hY_s; clear hP_0 hP_1 hP_s; clear hQ_0 hQ_1 hQ_s; replace hx := (hk.block (rowT hx).2.2).trans hx; replace hy := (hk.block (row6 hy).2.2.2.2.2.2).trans hy; replace hz := (hk.block (row6 hz).2.2.2.2.2.2).trans hz; replace hX := (hk.block (rowT hX).2.2).trans hX; replace hY := (hk.block (rowT hY).2.2).trans hY; replace hP := (hk.block (rowT hP).2.2).trans hP; replace hQ := (hk.block (rowT hQ).2.2).trans hQ; replace HL10 := Lib.hid (HL10.out.calm hk); replace hu := hu.call hk; clear hk; obtain ⟨hx_0, hx_1, hx_s⟩ := rowT hx; obtain ⟨hy_0, hy_1, hy_2, hy_3, hy_4, hy_5, hy_s⟩ := row6 hy; obtain ⟨hz_0, hz_1, hz_2, hz_3, hz_4, hz_5, hz_s⟩ := row6 hz; obtain ⟨hX_0, hX_1, hX_s⟩ := rowT hX; obtain ⟨hY_0, hY_1, hY_s⟩ := rowT hY; obtain ⟨hP_0, hP_1, hP_s⟩ := rowT hP; obtain ⟨hQ_0, hQ_1, hQ_s⟩ := rowT hQ)
      | (go_at_call 16; (with_reducible refine (equal_self _ _ _ _ M _ hnn HL10.out HL11.out).mono ?_); rintro e w12 ⟨rfl, hk⟩; replace hu := hu.call hk; clear hk))
  go_ret
  exact ⟨rfl, hu⟩
theorem growOrders_walk (root : Int) (A : Option Addr) (c : Nat) (l : List Nd) (p o f m g : Int) (s : ByteArray) (p' o' f' m' g' : Int) (s' : ByteArray) (w : World) (h : TrAt w A l) (hcap : ∀ n ∈ l, NdCaps n) :
    Calls Try.prog 5 #[.agg #[.int .i64 root, .slice A l.length c], .agg #[.int .i64 p, .int .i64 o, .int .i64 f, .int .i64 m, .int .i64 g, .string s], .agg #[.int .i64 p', .int .i64 o', .int .i64 f', .int .i64 m', .int .i64 g', .string s']] w fun e w' => e = .returned (.bool true) ∧ Calm w w' := by
  by_cases hz : treeErr l root = 0
  rotate_left
  · exact go_bad root A c l p o f m g s p' o' f' m' g' s' w h hcap _ hz fun u hu => ins_wrong hu hcap rfl hz c p o f m g s
  have hh : HasL w root A l (allOf l root) := ⟨h, hcap, hz, rfl⟩
  by_cases hE : insR (allOf l root) ⟨p, o, f, m, g, s⟩ = 0
  rotate_left
  · exact go_bad root A c l p o f m g s p' o' f' m' g' s' w h hcap _ hE fun u hu => (HasL.mk hu hcap hz rfl).ins_bad c rfl hE
  by_cases hF : insR (allOf l root) ⟨p', o', f', m', g', s'⟩ = 0
  rotate_left
  · exact go_second root A c l p o f m g s p' o' f' m' g' s' w _ hh _ hF hE rfl
  by_cases h2 : insR (ins ⟨p, o, f, m, g, s⟩ (allOf l root)) ⟨p', o', f', m', g', s'⟩ = 0
  · exact go_both root A c l p o f m g s p' o' f' m' g' s' w _ hh hE hF h2
  · exact go_refused root A c l p o f m g s p' o' f' m' g' s' w _ hh _ h2 hE hF rfl
end Go.Proofs.Ytcphekcbllpllaa
