/- Texts of one kind in one file. -/
import Derived.Deep.DeepCutAuto
import Derived.OwnWalk
import Derived.Test.YtccfcloekjogkaaGreatPkShrinkSays7
set_option maxRecDepth 100000
namespace Go.Proofs.YtccfcloekjogkaaGreat
open Go.RowKit
set_option maxHeartbeats 16000000 in
theorem look_main (root : Int) (A : Option Addr) (c : Nat) (l : List Nd) (hok : NdsOk l) (m : Nat) (hm : m ≤ 11)
    (ih : ∀ (y : Int) (u : World), TrAt u A l → Calls Tryz.prog 16 #[.agg #[.int .i64 root, .slice A l.length c], .int .i64 y, .int .i64 (m : Int)] u (LookEnd l m y u))
    (X : Nat) (n : Nd) (hn : ndOf l (X : Int) = some n) (hk : n.kd ≠ 0) (w : World) (h : TrAt w A l) :
    Calls Tryz.prog 16 #[.agg #[.int .i64 root, .slice A l.length c], .int .i64 (X : Int), .int .i64 ((m + 1 : Nat) : Int)] w (LookEnd l (m + 1) (X : Int) w) := by
  obtain ⟨i1, i2, i3⟩ := nd_of_in hn
  rw [Int.toNat_natCast] at i3
  have hXl : X < l.length := by omega
  have hxi : (X : Int) < (l.length : Int) := by omega
  have hR : Hid (lookR l (m + 1) (X : Int) = lookUpto l n (X : Int) (lookR l m) n.K.length) := show _ = _ by rw [lookR, hn]; simp only; rw [if_neg hk]
  obtain ⟨b, q, kd, A1, A2, A3, A4, c1, c2, c3, c4, E, K, S, T, hA, hbb, HN, HA, n0, n1, n2, n3, n4⟩ := h.get hXl
  cases hA
  have hnd : n = ⟨kd, A1, A2, A3, A4, c1, c2, c3, c4, E, K, S, T⟩ := by
    have := HN.out
    rw [i3] at this
    exact Option.some.inj this
  subst hnd
  simp only at hk
  have hsz := nd_sizes (hok _ (List.mem_of_getElem? i3))
  simp only at hsz
  have HSZ := Lib.hid hsz
  clear hsz
  obtain ⟨M, hM⟩ : ∃ M : Nat, m + 1 = M := ⟨_, rfl⟩
  rw [hM] at hR ⊢
  have hmi : ((M : Int) == 0) = false := by rw [beq_eq_false_iff_ne]; omega
  have eM : IntKind.i64.wrap ((M : Int) - 1) = (m : Int) := by rw [IntWalk.i64_in _ (by omega)]; omega
  have d1 : decide ((X : Int) < 0) = false := by rw [decide_eq_false_iff_not]; omega
  have d2 : decide (l.length ≤ X) = false := by rw [decide_eq_false_iff_not]; omega
  have HMm := Lib.hid hM
  clear hM
  have hki : (kd == 0) = false := by rw [beq_eq_false_iff_ne]; exact hk
  have hx := heap_past (.cells bnZ 58) (heap_new w (.cells #[.int .i64 root, .slice (some ⟨b, q, none⟩) l.length c] 24))
  have hz := heap_new (w.alloc (.cells #[.int .i64 root, .slice (some ⟨b, q, none⟩) l.length c] 24)) (.cells bnZ 58)
  rw [World.size_alloc] at hz
  have hu := ((Calm.refl w).alloc (.cells #[.int .i64 root, .slice (some ⟨b, q, none⟩) l.length c] 24)).alloc (.cells bnZ 58)
  have hs1 : ((w.alloc (.cells #[.int .i64 root, .slice (some ⟨b, q, none⟩) l.length c] 24)).alloc (.cells bnZ 58)).heap.size = w.heap.size + 2 := by simp
  have HT := Lib.hid h
  unfold bnZ at hx hz hu hs1
  go_enter Tryz.func16, Tryz.ntmps16
  generalize hQ0 : bodyPost Tryz.prog Tryz.f16 (LookEnd l M (X : Int) w) = Q0
  have HRET : Hid (∀ a w', bodyPost Tryz.prog Tryz.f16 (LookEnd l M (X : Int) w) .ret a w' → Q0 .ret a w') := show ∀ _ _, _ → _ from fun a w' h => by rw [← hQ0]; exact h
  clear hQ0
  go_upto_region 1 with fail
  generalize (w.alloc (.cells #[.int .i64 root, .slice (some ⟨b, q, none⟩) l.length c] 24)).alloc (.cells #[.slice none 0 0, .slice none 0 0, .int .i64 0, .slice none 0 0] 58) = w1 at hx hz hu hs1 ⊢
  obtain ⟨x0, x1, hxs⟩ := rowT hx
  have hvc := hu.facts.1
  replace n0 := (hvc _ _ hbb).trans n0; replace n1 := (hvc _ _ hbb).trans n1; replace n2 := (hvc _ _ hbb).trans n2; replace n3 := (hvc _ _ hbb).trans n3; replace n4 := (hvc _ _ hbb).trans n4
  replace hbb : b < w1.heap.size := Nat.lt_of_lt_of_le hbb hu.size
  have HS1 := Lib.hid hs1
  clear hvc hs1
  go_upto_region 4 with fail
  have hnb := heap_new w1 (.cells #[.int .i64 kd, .slice A1 E.length c1, .slice A2 K.length c2, .slice A3 S.length c3, .slice A4 T.length c4] 55)
  have hc3 := (Calm.refl w1).alloc (.cells #[.int .i64 kd, .slice A1 E.length c1, .slice A2 K.length c2, .slice A3 S.length c3, .slice A4 T.length c4] 55)
  have hsz3 : (w1.alloc (.cells #[.int .i64 kd, .slice A1 E.length c1, .slice A2 K.length c2, .slice A3 S.length c3, .slice A4 T.length c4] 55)).heap.size = w1.heap.size + 1 := by simp
  have hnl : w1.heap.size < w1.heap.size + 1 := Nat.lt_succ_self _
  have hx3 := (hc3.block (rowT hx).2.2).trans hx
  have hz3 := (hc3.block (row4 hz).2.2.2.2).trans hz
  have hu3 := hu.call hc3
  have cCE := fun u (hu : Calm w u) => clone_any A1 c1 E u (by have := HSZ.out.1; omega) (HA.out.calm hu).e
  have cCS := fun u (hu : Calm w u) => cloneS_any A3 c3 S u (by have := HSZ.out.2.2.1; omega) (HA.out.calm hu).s
  generalize w1.alloc (.cells #[.int .i64 kd, .slice A1 E.length c1, .slice A2 K.length c2, .slice A3 S.length c3, .slice A4 T.length c4] 55) = w3 at hnb hsz3 hx3 hz3 hu3 ⊢
  rw [← hsz3] at hnl
  have HSZ3 := Lib.hid hsz3
  clear hsz3
  clear hc3 x0 x1 hxs n0 n1 n2 n3 n4 hbb
  have HU3 := Lib.hid hu3
  refine wp_region_stages [.val (.pointer (some ⟨w1.heap.size, 1, none⟩)), .val (.slice A1 E.length c1), .late, .val (.pointer (some ⟨w1.heap.size, 3, none⟩)), .val (.slice A3 S.length c3), .late, .val (.int .i64 (X : Int)), .late, .late [2, 5, 7], .late, .late [8, 9]] [2, 5, 7, 8, 9, 10]
    (St4 w3 w3.heap.size E S (X : Int)) (by kernel_rfl) (by kernel_rfl) (by kernel_rfl) St4.stay (fun Y => .inl ⟨_, _, _, _, _, rfl, (Pre4.start (Nat.le_refl _)).stay ((Calm.refl _).drew)⟩) (fun Y => ?_)
  refine planS_val (by kernel_rfl) (fun L u hb hS => ?_) ?_
  · go_simp
  simp only [Act.put, List.setIfInBounds_toArray, List.set_cons_zero, List.set_cons_succ, Nat.reduceAdd]
  refine planS_val (by kernel_rfl) (fun L u hb hS => ?_) ?_
  · obtain ⟨m0, m1, m2, m3, m4, hms⟩ := row5 ((hS.calm.block hnl).trans hnb)
    clear hS hb
    go_simp
  simp only [Act.put, List.setIfInBounds_toArray, List.set_cons_zero, List.set_cons_succ, Nat.reduceAdd]
  refine planS_late (fun L u hi hb hS => ?_) ?_
  · obtain ⟨h10, hP⟩ := hS.pre (by simp [hi])
    rw [hi] at hP
    have HP := Lib.hid hP
    have H10 := Lib.hid h10
    clear hS hP h10
    go_wp2_with (go_at_call 7; (with_reducible refine (cCE _ (HU3.out.call HP.out.calm)).mono ?_); rintro e w9 ⟨v, rfl, ho, hb9⟩)
    exact .inl ⟨true, L 5, L 7, L 8, L 9, by simp [updB, H10.out], HP.out.do2 ho hb9⟩
  simp only [Act.put, List.setIfInBounds_toArray, List.set_cons_zero, List.set_cons_succ, Nat.reduceAdd]
  refine planS_val (by kernel_rfl) (fun L u hb hS => ?_) ?_
  · go_simp
  simp only [Act.put, List.setIfInBounds_toArray, List.set_cons_zero, List.set_cons_succ, Nat.reduceAdd]
  refine planS_val (by kernel_rfl) (fun L u hb hS => ?_) ?_
  · obtain ⟨m0, m1, m2, m3, m4, hms⟩ := row5 ((hS.calm.block hnl).trans hnb)
    clear hS hb
    go_simp
  simp only [Act.put, List.setIfInBounds_toArray, List.set_cons_zero, List.set_cons_succ, Nat.reduceAdd]
  refine planS_late (fun L u hi hb hS => ?_) ?_
  · obtain ⟨h10, hP⟩ := hS.pre (by simp [hi])
    rw [hi] at hP
    have HP := Lib.hid hP
    have H10 := Lib.hid h10
    clear hS hP h10
    go_wp2_with (go_at_call 33; (with_reducible refine (cCS _ (HU3.out.call HP.out.calm)).mono ?_); rintro e w9 ⟨v, rfl, ho, hb9⟩)
    exact .inl ⟨L 2, true, L 7, L 8, L 9, by simp [updB, H10.out], HP.out.do5 ho hb9⟩
  simp only [Act.put, List.setIfInBounds_toArray, List.set_cons_zero, List.set_cons_succ, Nat.reduceAdd]
  refine planS_val (by kernel_rfl) (fun L u hb hS => ?_) ?_
  · go_simp
  simp only [Act.put, List.setIfInBounds_toArray, List.set_cons_zero, List.set_cons_succ, Nat.reduceAdd]
  refine planS_late (fun L u hi hb hS => ?_) ?_
  · obtain ⟨h10, hP⟩ := hS.pre (by simp [hi])
    rw [hi] at hP
    have HP := Lib.hid hP
    have H10 := Lib.hid h10
    clear hS hP h10
    go_wp2_with fail
    exact .inl ⟨L 2, L 5, true, L 8, L 9, by simp [updB, H10.out], HP.out.do7⟩
  simp only [Act.put, List.setIfInBounds_toArray, List.set_cons_zero, List.set_cons_succ, Nat.reduceAdd]
  refine planS_late (fun L u hi hb hS => ?_) ?_
  · obtain ⟨h10, hP⟩ := hS.pre (by simp [hi])
    rw [hi, hb 2 (by simp), hb 5 (by simp), hb 7 (by simp)] at hP
    have HP := Lib.hid hP
    have H10 := Lib.hid h10
    have H2 := Lib.hid (hb 2 (by simp))
    have H5 := Lib.hid (hb 5 (by simp))
    have H7 := Lib.hid (hb 7 (by simp))
    obtain ⟨a2, b2, e2⟩ := (hP.e rfl).slice
    obtain ⟨a5, b5, e5⟩ := (hP.s rfl).slice
    obtain ⟨a7, b7, e7⟩ := (hP.n rfl).slice
    have hQ := HP.out.do8
    rw [e2, e5, e7] at hQ ⊢
    have HQ := Lib.hid hQ
    clear hS hP h10 hb hQ e2 e5 e7
    go_wp2_with fail
    exact .inl ⟨true, true, true, true, L 9, by simp [updB, H10.out, H2.out, H5.out, H7.out], HQ.out⟩
  simp only [Act.put, List.setIfInBounds_toArray, List.set_cons_zero, List.set_cons_succ, Nat.reduceAdd]
  refine planS_late (fun L u hi hb hS => ?_) ?_
  · obtain ⟨h10, hP⟩ := hS.pre (by simp [hi])
    rw [hi] at hP
    have HP := Lib.hid hP
    have H10 := Lib.hid h10
    clear hS hP h10
    go_wp2_with fail
    exact .inl ⟨L 2, L 5, L 7, L 8, true, by simp [updB, H10.out], HP.out.do9⟩
  simp only [Act.put, List.setIfInBounds_toArray, List.set_cons_zero, List.set_cons_succ, Nat.reduceAdd]
  refine planS_late (fun L u hi hb hS => ?_) ?_
  · obtain ⟨h10, hP⟩ := hS.pre (by simp [hi])
    rw [hb 8 (by simp), hb 9 (by simp)] at hP
    obtain ⟨t2, t5, t7, e8⟩ := hP.a rfl
    rw [t2, t5, t7] at hP
    obtain ⟨g, e9, hBg, hg⟩ := hP.g rfl
    obtain ⟨a2, b2, e2⟩ := (hP.e rfl).slice
    obtain ⟨a5, b5, e5⟩ := (hP.s rfl).slice
    obtain ⟨a7, b7, e7⟩ := (hP.n rfl).slice
    have hQ := hP.do10 (Nat.le_refl _) e9 hBg hg
    have H := Lib.hid (show [2, 5, 7, 8, 9, 10].map (updB L 10) = [true, true, true, true, true, true] by simp [updB, t2, t5, t7, hb 8 (by simp), hb 9 (by simp)])
    have HQ : Hid (∀ y, St4 w3 w3.heap.size E S (X : Int) ([2, 5, 7, 8, 9, 10].map (updB L 10)) (updV Y 10 y) (World.four u g 0 (Y 2) (Y 5) (.int .i64 1) (Y 7))) := show ∀ _, _ from fun y => .inr ⟨H.out, hQ.1, g, e9, hQ.2⟩
    unfold bnZ at hg
    obtain ⟨z0, z1, z2, z3, hzs⟩ := row4 hg
    obtain ⟨f0, f1, f2, f3, f4, f5⟩ := free6 hg
    rw [e2, e5, e7] at HQ e8
    rw [e8, e9]
    clear hS hP h10 hb hQ e2 e5 e7 e8 H hg t2 t5 t7
    go_wp2_with fail
    exact ⟨undef, HQ.out undef⟩
  simp only [Act.put, Nat.reduceAdd]
  refine planS_end ?_
  intro w4 hS
  obtain ⟨hu4, g, e9, hO⟩ : Calm w3 w4 ∧ ∃ g, Y 9 = .pointer (some ⟨g, 0, none⟩) ∧ OutOk w3.heap.size w4 g (Y 2) (Y 5) (Y 7) 1 E S [(X : Int)] := by
    rcases hS with ⟨_, _, _, _, _, h1, -⟩ | ⟨-, h2⟩
    · simp at h1
    · exact h2
  rw [e9]
  generalize Y 2 = vE at hO ⊢
  generalize Y 5 = vS at hO ⊢
  generalize Y 7 = vN at hO ⊢
  generalize Y 8 = v8
  clear hS e9 Y
  have hnb4 := (hu4.block hnl).trans hnb
  obtain ⟨m0, m1, m2, m3, m4, hms⟩ := row5 hnb4
  have HU4 := Lib.hid hu4
  clear hu4 hnb4
  go_wp2_with fail
  go_loopw [60] (fun i wr => ∃ (k : Nat) (o : Bn) (vE vS vN : Value), k ≤ K.length ∧ i = .int .i64 k ∧ Hid (lookUpto l ⟨kd, A1, A2, A3, A4, c1, c2, c3, c4, E, K, S, T⟩ (X : Int) (lookR l m) k = some o) ∧ Hid (OutOk w3.heap.size wr g vE vS vN o.D o.E o.S o.N) ∧ Hid (Calm w3 wr)) (fun i _ => K.length - (intOf i).toNat)
  case atStart => exact ⟨0, ⟨E, S, 1, [(X : Int)]⟩, vE, vS, vN, Nat.zero_le _, rfl, (show _ = _ by rw [lookUpto]), hO, HU4⟩
  clear m0 m1 m2 m3 m4 hms hO HU4
  case round =>
    obtain ⟨k, o, vE, vS, vN, hkK, rfl, hL, hO, hv⟩ := hrel
    have hnbr := (hv.out.block hnl).trans hnb
    have hxr := (hv.out.block (rowT hx3).2.2).trans hx3
    have hzr := (hv.out.block (row4 hz3).2.2.2.2).trans hz3
    have hvw := Lib.hid (HU3.out.call hv.out)
    obtain ⟨x0, x1, hxs⟩ := rowT hxr
    obtain ⟨m0, m1, m2, m3, m4, hms⟩ := row5 hnbr
    obtain ⟨z0, z1, z2, z3, hzs⟩ := row4 hzr
    obtain ⟨f0, f1, f2, f3, f4, f5⟩ := free6 hzr
    obtain ⟨o0, o1, o2, o3, hos⟩ := row4 hO.out.box
    obtain ⟨M1, hM1⟩ : ∃ M1 : Nat, Hid (wr.heap.size = M1) := ⟨_, rfl⟩
    have hgM : Hid (g < M1 ∧ ∀ k, vE.ownBlock = some k ∨ vS.ownBlock = some k ∨ vN.ownBlock = some k → k < M1) := show _ ∧ _ from ⟨by rw [← hM1.out]; exact (Array.getElem?_eq_some_iff.1 hO.out.box).1, fun k hk => by
      rw [← hM1.out]
      rcases hk with hk | hk | hk
      · exact (hO.out.own.e.lt k hk).2
      · exact (rows_lt hO.out.own.s k hk).2
      · exact (hO.out.own.n.lt k hk).2⟩
    obtain ⟨a2, b2, e2⟩ := hO.out.own.e.slice
    obtain ⟨a5, b5, e5⟩ := hO.out.own.s.slice
    obtain ⟨a7, b7, e7⟩ := hO.out.own.n.slice
    subst e2; subst e5; subst e7
    by_cases hlt : k < K.length
    rotate_left
    · have hge : (K.length : Int) ≤ (k : Int) := by omega
      have hkk : k = K.length := by omega
      have hRR : Hid (lookR l M (X : Int) = some o) := show _ = _ by rw [hR.out, ← hL.out, hkk]
      have hw13 : w.heap.size + 1 < w3.heap.size := by have a := HSZ3.out; have b := HS1.out; omega
      have h4 := set4 hzr (.slice a2 o.E.length b2) (.slice a5 o.S.length b5) (.int .i64 o.D) (.slice a7 o.N.length b7)
      have hc4 := hvw.out.four (g := w.heap.size + 1) (by omega) 0 (.slice a2 o.E.length b2) (.slice a5 o.S.length b5) (.int .i64 o.D) (.slice a7 o.N.length b7)
      have hne : ∀ j, w3.heap.size ≤ j → (World.four wr (w.heap.size + 1) 0 (.slice a2 o.E.length b2) (.slice a5 o.S.length b5) (.int .i64 o.D) (.slice a7 o.N.length b7)).heap[j]? = wr.heap[j]? := fun j hj => four_other _ _ _ _ (by omega)
      have hown := hO.out.own
      have hle : w.heap.size ≤ w3.heap.size := by omega
      have hEnd : LookEnd l M (X : Int) w (.returned (.tuple #[.agg #[.slice a2 o.E.length b2, .slice a5 o.S.length b5, .int .i64 o.D, .slice a7 o.N.length b7], .bool true])) (World.four wr (w.heap.size + 1) 0 (.slice a2 o.E.length b2) (.slice a5 o.S.length b5) (.int .i64 o.D) (.slice a7 o.N.length b7)) :=
        ⟨hc4, .inr ⟨o, _, _, _, hRR.out, rfl, ⟨(OwnR.same hown.e fun j hj => hne j (hown.e.lt j hj).1).weaken hle, rows_weaken (rows_same hown.s fun j hj => hne j (rows_lt hown.s j hj).1) hle, rows_weaken (rows_same hown.n fun j hj => hne j (hown.n.lt j hj).1) hle, hown.es, hown.en, hown.sn⟩⟩⟩
      clear hkk hL hR hRR hne hown hc4
      go_wp2_with fail
      exact HRET.out _ _ (end_bn rfl rfl _ _ (w.heap.size + 1) _ _ _ (0, 0) rfl rfl rfl h4 rfl hEnd)
    obtain ⟨bk, qk, y, hAk, hbk, HY, cyk⟩ := (HA.out.calm hvw.out).k.get hlt
    subst hAk
    have hbad : Hid (lookUpto l ⟨kd, A1, some ⟨bk, qk, none⟩, A3, A4, c1, c2, c3, c4, E, K, S, T⟩ (X : Int) (lookR l m) (k + 1) = none → ∀ w', Calm w w' → LookEnd l M (X : Int) w (.returned (.tuple #[.agg #[.slice none 0 0, .slice none 0 0, .int .i64 0, .slice none 0 0], .bool false])) w') := show _ → ∀ _, _ from fun hno w' hc =>
      ⟨hc, .inl ⟨by rw [hR.out]; exact upto_none hno (show k + 1 ≤ K.length by omega), rfl⟩⟩
    have hstep : Hid (lookUpto l ⟨kd, A1, some ⟨bk, qk, none⟩, A3, A4, c1, c2, c3, c4, E, K, S, T⟩ (X : Int) (lookR l m) (k + 1) = match lookR l m y with
        | none => none
        | some b => open Classical in if kidOk l ⟨kd, A1, some ⟨bk, qk, none⟩, A3, A4, c1, c2, c3, c4, E, K, S, T⟩ k o b y ∧ (o.N ++ b.N).length ≤ 400 then some ⟨o.E ++ b.E, o.S ++ b.S, b.D + 1, o.N ++ b.N⟩ else none) := show _ = _ by
      rw [lookUpto, hL.out]; simp only [HY.out]; rfl
    have cI := fun u (hu : Calm wr u) => ih y u (HT.out.calm (hvw.out.call hu))
    cases hlk : lookR l m y with
    | none =>
      have hno : Hid (lookR l m y = none) := hlk
      have hzero := Lib.hid (hbad.out (by rw [hstep.out, hlk]))
      clear hlk hstep hbad ih
      go_upto_region 9 with (go_at_call 16; (with_reducible refine (cI _ (Calm.refl _)).mono ?_); rintro e w5 ⟨hc5, hcase⟩; obtain ⟨-, rfl⟩ : _ ∧ e = _ := (hcase.elim id fun ⟨b, _, _, _, h9, _⟩ => by rw [hno.out] at h9; cases h9); clear hcase; unfold bnZ)
      have hc6 := hc5.alloc (.cells #[.slice none 0 0, .slice none 0 0, .int .i64 0, .slice none 0 0] 58)
      refine wp_region_plan [.val (.bool false), .val (.bool true), .val (.bool true), .idle, .idle, .idle, .idle, .idle, .idle, .idle, .idle, .idle, .idle, .idle, .idle, .idle, .idle, .idle, .idle, .val (.bool true), .val (.bool true), .idle, .idle, .idle, .idle, .idle, .idle, .idle, .idle, .idle, .idle, .val (.bool true)] (by kernel_rfl) (by kernel_rfl) (by kernel_rfl) ?_
      intro X
      iterate 3
        refine plan_val (by kernel_rfl) (fun u hu => ?_) ?_
        · obtain ⟨hc, hf, hz⟩ := hu.of_drew.facts
          go_simp
        simp only [Act.put, List.setIfInBounds_toArray, List.set_cons_zero, List.set_cons_succ, Nat.reduceAdd]
      iterate 16
        refine plan_idle (by kernel_rfl) ?_
        simp only [Act.put, List.setIfInBounds_toArray, List.set_cons_zero, List.set_cons_succ, Nat.reduceAdd]
      iterate 2
        refine plan_val (by kernel_rfl) (fun u hu => ?_) ?_
        · obtain ⟨hc, hf, hz⟩ := hu.of_drew.facts
          go_simp
        simp only [Act.put, List.setIfInBounds_toArray, List.set_cons_zero, List.set_cons_succ, Nat.reduceAdd]
      iterate 10
        refine plan_idle (by kernel_rfl) ?_
        simp only [Act.put, List.setIfInBounds_toArray, List.set_cons_zero, List.set_cons_succ, Nat.reduceAdd]
      iterate 1
        refine plan_val (by kernel_rfl) (fun u hu => ?_) ?_
        · obtain ⟨hc, hf, hz⟩ := hu.of_drew.facts
          go_simp
        simp only [Act.put, List.setIfInBounds_toArray, List.set_cons_zero, List.set_cons_succ, Nat.reduceAdd]
      refine plan_end ?_
      intro w' hB
      have hk := hB.calm.of_drew
      clear hB
      have hc7 := hc6.call hk
      have hz6 := (hc7.block (row4 hzr).2.2.2.2).trans hzr
      have h4 := set4 hz6 (.slice none 0 0) (.slice none 0 0) (.int .i64 0) (.slice none 0 0)
      have hcf := (hvw.out.call hc7).four (g := w.heap.size + 1) (by omega) 0 (.slice none 0 0) (.slice none 0 0) (.int .i64 0) (.slice none 0 0)
      have hEnd := hzero.out _ hcf
      obtain ⟨z0, z1, z2, z3, hzs⟩ := row4 hz6
      obtain ⟨f0, f1, f2, f3, f4, f5⟩ := free6 hz6
      clear hcf
      go_wp2_with fail
      exact HRET.out _ _ (end_bn rfl rfl _ _ (w.heap.size + 1) _ _ _ (0, 0) rfl rfl rfl h4 rfl hEnd)
    | some bb =>
      have hbl := look_len hok hlk
      have HWF := Lib.hid (look_wf HT.out hok hlk)
      have HWS := Lib.hid (look_ws HT.out hok hlk)
      have hol := upto_len hok (n := ⟨kd, A1, some ⟨bk, qk, none⟩, A3, A4, c1, c2, c3, c4, E, K, S, T⟩) HSZ.out.1 HSZ.out.2.2.1 k o hL.out
      have hyn : ∃ nk, ndOf l y = some nk := by
        obtain ⟨d, hd0, -, hsb, -⟩ := of_look hok m y bb hlk
        cases d with
        | zero => exact absurd hsb id
        | succ d => obtain ⟨nk, hnk, -⟩ := hsb; exact ⟨nk, hnk⟩
      obtain ⟨nk, hnk⟩ := hyn
      obtain ⟨j1', j2', j3'⟩ := nd_of_in hnk
      obtain ⟨Y, rfl⟩ : ∃ Y : Nat, y = (Y : Int) := ⟨y.toNat, by omega⟩
      have hYl : Y < l.length := by omega
      have hno : Hid (lookR l m (Y : Int) = some bb) := hlk
      rw [hlk] at hstep
      simp only at hstep
      have HBL := Lib.hid hbl
      have HOL := Lib.hid hol
      clear hlk ih hbl hol j1' j2'
      go_upto_region 9 with (go_at_call 16; (with_reducible refine (cI _ (Calm.refl _)).mono ?_); rintro e w5 ⟨hc5, hcase⟩; obtain ⟨v1, v2, v3, rfl, hB⟩ : ∃ v1 v2 v3, e = .returned (.tuple #[.agg #[v1, v2, .int .i64 bb.D, v3], .bool true]) ∧ Own3 wr.heap.size w5 v1 v2 v3 bb.E bb.S bb.N := hcase.elim (fun h9 => absurd (h9.1.symm.trans hno.out) (by simp)) (fun ⟨b', v1, v2, v3, h9, h10, h11⟩ => ⟨v1, v2, v3, (by rw [Option.some.inj (h9.symm.trans hno.out)] at h10; exact h10), (by rw [Option.some.inj (h9.symm.trans hno.out)] at h11; exact h11)⟩); clear hcase; obtain ⟨p2, r2, g2⟩ := hB.e.slice; obtain ⟨p5, r5, g5⟩ := hB.s.slice; obtain ⟨p7, r7, g7⟩ := hB.n.slice; subst g2; subst g5; subst g7)
      have hc6 := hc5.alloc (.cells #[.slice p2 bb.E.length r2, .slice p5 bb.S.length r5, .int .i64 bb.D, .slice p7 bb.N.length r7] 58)
      have hbx := heap_new w5 (.cells #[.slice p2 bb.E.length r2, .slice p5 bb.S.length r5, .int .i64 bb.D, .slice p7 bb.N.length r7] 58)
      have hB6 := hB.calm ((Calm.refl w5).alloc (.cells #[.slice p2 bb.E.length r2, .slice p5 bb.S.length r5, .int .i64 bb.D, .slice p7 bb.N.length r7] 58))
      have hw5 : wr.heap.size ≤ w5.heap.size := hc5.size
      generalize w5.alloc (.cells #[.slice p2 bb.E.length r2, .slice p5 bb.S.length r5, .int .i64 bb.D, .slice p7 bb.N.length r7] 58) = w6 at hc6 hbx hB6 ⊢
      have HB6 : Hid (Own3 M1 w6 _ _ _ bb.E bb.S bb.N) := show Own3 _ _ _ _ _ _ _ _ from hM1.out ▸ hB6
      have hgx : Hid (M1 ≤ w5.heap.size) := show _ ≤ _ from hM1.out ▸ hw5
      have hx6 := (hc6.block (rowT hxr).2.2).trans hxr
      have hn6 := (hc6.block (row5 hnbr).2.2.2.2.2).trans hnbr
      have HO6 := Lib.hid (hO.out.calm hc6)
      obtain ⟨b', q', kd2, G1, G2, G3, G4, j1, j2, j3, j4, E2, K2, S2, T2, hA', hbb6, HN2, HA2, n0, n1, n2, n3, n4⟩ := (HT.out.calm (hvw.out.call hc6)).get hYl
      cases hA'
      have hsz2 := nd_sizes (hok _ (List.mem_of_getElem? HN2.out))
      simp only at hsz2
      have hso : Hid (sizeOf l (Y : Int) = E2.length + K2.length) := show _ = _ by unfold sizeOf; rw [Int.toNat_natCast, HN2.out]
      obtain ⟨s, hs⟩ : ∃ s : Nat, E2.length + K2.length = s := ⟨_, rfl⟩
      have e90 : IntKind.i64.wrap ((E2.length : Int) + (K2.length : Int)) = (s : Int) := by rw [IntWalk.i64_in _ (by omega)]; omega
      rw [hs] at hso
      have hs16 : s ≤ 16 := by omega
      clear x0 x1 hxs m0 m1 m2 m3 m4 hms o0 o1 o2 o3 hos z0 z1 z2 z3 hzs f0 f1 f2 f3 f4 f5 hB hB6 hs hsz2 cyk
      obtain ⟨x0, x1, hxs⟩ := rowT hx6
      obtain ⟨m0, m1, m2, m3, m4, hms⟩ := row5 hn6
      obtain ⟨o0, o1, o2, o3, hos⟩ := row4 HO6.out.box
      obtain ⟨t0, t1, t2, t3, hts⟩ := row4 hbx
      by_cases hs4 : s < 4
      · have hzero := Lib.hid (hbad.out (by rw [hstep.out, if_neg (fun h => by have := h.1.1; rw [hso.out] at this; omega)]))
        have hsi : (s : Int) < 4 := by omega
        clear hbad hstep
        refine wp_region_plan [.val (.bool true), .val (.bool false), .val (.bool false), .val (.pointer (some ⟨w.heap.size, 1, none⟩)), .val (.slice (some ⟨b, q, none⟩) l.length c), .val (.int .i64 (Y)), .val (.pointer (some ⟨b, q+Y*5, none⟩)), .val (.pointer (some ⟨b, q+Y*5+1, none⟩)), .val (.slice G1 E2.length j1), .val (.int .i64 (E2.length)), .val (.pointer (some ⟨w.heap.size, 1, none⟩)), .val (.slice (some ⟨b, q, none⟩) l.length c), .val (.int .i64 (Y)), .val (.pointer (some ⟨b, q+Y*5, none⟩)), .val (.pointer (some ⟨b, q+Y*5+2, none⟩)), .val (.slice G2 K2.length j2), .val (.int .i64 (K2.length)), .val (.int .i64 (s)), .val (.bool true), .val (.bool true), .val (.bool true), .idle, .idle, .idle, .idle, .idle, .idle, .idle, .idle, .idle, .idle, .val (.bool true)] (by kernel_rfl) (by kernel_rfl) (by kernel_rfl) ?_
        intro X
        iterate 21
          refine plan_val (by kernel_rfl) (fun u hu => ?_) ?_
          · obtain ⟨hc, hf, hz⟩ := hu.of_drew.facts
            go_simp
            all_goals first
              | (exact e90)
          simp only [Act.put, List.setIfInBounds_toArray, List.set_cons_zero, List.set_cons_succ, Nat.reduceAdd]
        iterate 10
          refine plan_idle (by kernel_rfl) ?_
          simp only [Act.put, List.setIfInBounds_toArray, List.set_cons_zero, List.set_cons_succ, Nat.reduceAdd]
        iterate 1
          refine plan_val (by kernel_rfl) (fun u hu => ?_) ?_
          · obtain ⟨hc, hf, hz⟩ := hu.of_drew.facts
            go_simp
            all_goals first
              | (exact e90)
          simp only [Act.put, List.setIfInBounds_toArray, List.set_cons_zero, List.set_cons_succ, Nat.reduceAdd]
        refine plan_end ?_
        intro w' hB
        have hk := hB.calm.of_drew
        clear hB
        have hc7 := hc6.call hk
        have hz6 := (hc7.block (row4 hzr).2.2.2.2).trans hzr
        have h4 := set4 hz6 (.slice none 0 0) (.slice none 0 0) (.int .i64 0) (.slice none 0 0)
        have hcf := (hvw.out.call hc7).four (g := w.heap.size + 1) (by omega) 0 (.slice none 0 0) (.slice none 0 0) (.int .i64 0) (.slice none 0 0)
        have hEnd := hzero.out _ hcf
        obtain ⟨z0, z1, z2, z3, hzs⟩ := row4 hz6
        obtain ⟨f0, f1, f2, f3, f4, f5⟩ := free6 hz6
        clear hcf
        go_wp2_with fail
        exact HRET.out _ _ (end_bn rfl rfl _ _ (w.heap.size + 1) _ _ _ (0, 0) rfl rfl rfl h4 rfl hEnd)
      have hsi : ¬ (s : Int) < 4 := by omega
      have hD1 : IntKind.i64.wrap (bb.D + 1) = bb.D + 1 := IntWalk.i64_in _ (by have a := HBL.out.d1; have b := HBL.out.d2; omega)
      by_cases hdd : 0 < k ∧ o.D ≠ bb.D + 1
      · have hzero := Lib.hid (hbad.out (by rw [hstep.out, if_neg (fun h => hdd.2 (h.1.2.1 hdd.1))]))
        have hkp : (k : Int) > 0 := by omega
        have hne : o.D ≠ bb.D + 1 := hdd.2
        clear hbad hstep
        refine wp_region_plan [.val (.bool true), .val (.bool false), .val (.bool false), .val (.pointer (some ⟨w.heap.size, 1, none⟩)), .val (.slice (some ⟨b, q, none⟩) l.length c), .val (.int .i64 (Y)), .val (.pointer (some ⟨b, q+Y*5, none⟩)), .val (.pointer (some ⟨b, q+Y*5+1, none⟩)), .val (.slice G1 E2.length j1), .val (.int .i64 (E2.length)), .val (.pointer (some ⟨w.heap.size, 1, none⟩)), .val (.slice (some ⟨b, q, none⟩) l.length c), .val (.int .i64 (Y)), .val (.pointer (some ⟨b, q+Y*5, none⟩)), .val (.pointer (some ⟨b, q+Y*5+2, none⟩)), .val (.slice G2 K2.length j2), .val (.int .i64 (K2.length)), .val (.int .i64 (s)), .val (.bool false), .val (.bool false), .val (.bool false), .val (.int .i64 (k)), .val (.bool true), .val (.bool true), .val (.pointer (some ⟨g, 2, none⟩)), .val (.int .i64 (o.D)), .val (.pointer (some ⟨w5.heap.size, 2, none⟩)), .val (.int .i64 (bb.D)), .val (.int .i64 (bb.D + 1)), .val (.bool true), .val (.bool true), .val (.bool true)] (by kernel_rfl) (by kernel_rfl) (by kernel_rfl) ?_
        intro X
        iterate 32
          refine plan_val (by kernel_rfl) (fun u hu => ?_) ?_
          · obtain ⟨hc, hf, hz⟩ := hu.of_drew.facts
            go_simp
            all_goals first
              | (exact e90)
              | (exact hD1)
          simp only [Act.put, List.setIfInBounds_toArray, List.set_cons_zero, List.set_cons_succ, Nat.reduceAdd]
        refine plan_end ?_
        intro w' hB
        have hk := hB.calm.of_drew
        clear hB
        have hc7 := hc6.call hk
        have hz6 := (hc7.block (row4 hzr).2.2.2.2).trans hzr
        have h4 := set4 hz6 (.slice none 0 0) (.slice none 0 0) (.int .i64 0) (.slice none 0 0)
        have hcf := (hvw.out.call hc7).four (g := w.heap.size + 1) (by omega) 0 (.slice none 0 0) (.slice none 0 0) (.int .i64 0) (.slice none 0 0)
        have hEnd := hzero.out _ hcf
        obtain ⟨z0, z1, z2, z3, hzs⟩ := row4 hz6
        obtain ⟨f0, f1, f2, f3, f4, f5⟩ := free6 hz6
        clear hcf
        go_wp2_with fail
        exact HRET.out _ _ (end_bn rfl rfl _ _ (w.heap.size + 1) _ _ _ (0, 0) rfl rfl rfl h4 rfl hEnd)
      have hde : 0 < k → o.D = bb.D + 1 := fun hk0 => Decidable.byContradiction fun h => hdd ⟨hk0, h⟩
      clear hdd
      go_cut [104] from 73 to 104 (fun s104 wx => s104 = .bool false ∧ Hid (Calm w6 wx))
      case first =>
        rcases Nat.lt_or_ge 0 k with hk0 | hk0
        · have hde1 := hde hk0
          have hkp : (k : Int) > 0 := by omega
          refine wp_region_plan [.val (.bool true), .val (.bool false), .val (.bool false), .val (.pointer (some ⟨w.heap.size, 1, none⟩)), .val (.slice (some ⟨b, q, none⟩) l.length c), .val (.int .i64 (Y)), .val (.pointer (some ⟨b, q+Y*5, none⟩)), .val (.pointer (some ⟨b, q+Y*5+1, none⟩)), .val (.slice G1 E2.length j1), .val (.int .i64 (E2.length)), .val (.pointer (some ⟨w.heap.size, 1, none⟩)), .val (.slice (some ⟨b, q, none⟩) l.length c), .val (.int .i64 (Y)), .val (.pointer (some ⟨b, q+Y*5, none⟩)), .val (.pointer (some ⟨b, q+Y*5+2, none⟩)), .val (.slice G2 K2.length j2), .val (.int .i64 (K2.length)), .val (.int .i64 (s)), .val (.bool false), .val (.bool false), .val (.bool false), .val (.int .i64 (k)), .val (.bool true), .val (.bool true), .val (.pointer (some ⟨g, 2, none⟩)), .val (.int .i64 (o.D)), .val (.pointer (some ⟨w5.heap.size, 2, none⟩)), .val (.int .i64 (bb.D)), .val (.int .i64 (bb.D + 1)), .val (.bool false), .val (.bool false), .val (.bool false)] (by kernel_rfl) (by kernel_rfl) (by kernel_rfl) ?_
          intro X
          iterate 32
            refine plan_val (by kernel_rfl) (fun u hu => ?_) ?_
            · obtain ⟨hc, hf, hz⟩ := hu.of_drew.facts
              go_simp
              all_goals first
                | (exact e90)
                | (exact hD1)
            simp only [Act.put, List.setIfInBounds_toArray, List.set_cons_zero, List.set_cons_succ, Nat.reduceAdd]
          refine plan_end ?_
          intro w' hB
          have hk := hB.calm.of_drew
          clear hB
          clear x0 x1 hxs m0 m1 m2 m3 m4 hms o0 o1 o2 o3 hos t0 t1 t2 t3 hts
          go_wp2_with fail
          go_meet
          exact ⟨rfl, hk⟩
        · have hkp : ¬ (k : Int) > 0 := by omega
          refine wp_region_plan [.val (.bool true), .val (.bool false), .val (.bool false), .val (.pointer (some ⟨w.heap.size, 1, none⟩)), .val (.slice (some ⟨b, q, none⟩) l.length c), .val (.int .i64 (Y)), .val (.pointer (some ⟨b, q+Y*5, none⟩)), .val (.pointer (some ⟨b, q+Y*5+1, none⟩)), .val (.slice G1 E2.length j1), .val (.int .i64 (E2.length)), .val (.pointer (some ⟨w.heap.size, 1, none⟩)), .val (.slice (some ⟨b, q, none⟩) l.length c), .val (.int .i64 (Y)), .val (.pointer (some ⟨b, q+Y*5, none⟩)), .val (.pointer (some ⟨b, q+Y*5+2, none⟩)), .val (.slice G2 K2.length j2), .val (.int .i64 (K2.length)), .val (.int .i64 (s)), .val (.bool false), .val (.bool false), .val (.bool false), .val (.int .i64 (k)), .val (.bool false), .val (.bool false), .idle, .idle, .idle, .idle, .idle, .idle, .val (.bool false), .val (.bool false)] (by kernel_rfl) (by kernel_rfl) (by kernel_rfl) ?_
          intro X
          iterate 24
            refine plan_val (by kernel_rfl) (fun u hu => ?_) ?_
            · obtain ⟨hc, hf, hz⟩ := hu.of_drew.facts
              go_simp
              all_goals first
                | (exact e90)
            simp only [Act.put, List.setIfInBounds_toArray, List.set_cons_zero, List.set_cons_succ, Nat.reduceAdd]
          iterate 6
            refine plan_idle (by kernel_rfl) ?_
            simp only [Act.put, List.setIfInBounds_toArray, List.set_cons_zero, List.set_cons_succ, Nat.reduceAdd]
          iterate 2
            refine plan_val (by kernel_rfl) (fun u hu => ?_) ?_
            · obtain ⟨hc, hf, hz⟩ := hu.of_drew.facts
              go_simp
              all_goals first
                | (exact e90)
            simp only [Act.put, List.setIfInBounds_toArray, List.set_cons_zero, List.set_cons_succ, Nat.reduceAdd]
          refine plan_end ?_
          intro w' hB
          have hk := hB.calm.of_drew
          clear hB
          clear x0 x1 hxs m0 m1 m2 m3 m4 hms o0 o1 o2 o3 hos t0 t1 t2 t3 hts
          go_wp2_with fail
          go_meet
          exact ⟨rfl, hk⟩
      case rest =>
        obtain ⟨rfl, HK⟩ := hcut
        have hc7 := hc6.call HK.out
        have hbx7 := (HK.out.block (row4 hbx).2.2.2.2).trans hbx
        have HB7 := Lib.hid (HB6.out.calm HK.out)
        clear x0 x1 hxs m0 m1 m2 m3 m4 hms o0 o1 o2 o3 hos t0 t1 t2 t3 hts
        obtain ⟨t0, t1, t2, t3, hts⟩ := row4 hbx7
        obtain ⟨A5, c5, e5, hL5⟩ := HB7.out.s.lies HWF.out.2
        injection e5 with e51 _ e52
        subst e51; subst e52
        have HL5 := Lib.hid hL5
        have HLE := Lib.hid (HB7.out.e.at_ HWF.out.1)
        clear hL5
        go_wp2_with (go_at_call 33; (with_reducible refine (cloneS_any _ _ bb.S _ (by have := HBL.out.s; omega) HL5.out).mono ?_); rintro e w8 ⟨v8, rfl, ho8, hb8⟩; have hbx8 := (hb8.block (row4 hbx7).2.2.2.2).trans hbx7; clear t0 t1 t2 t3 hts; obtain ⟨t0, t1, t2, t3, hts⟩ := row4 hbx8)
        have HO8 := Lib.hid ho8
        clear ho8
        go_loopw [14, 15, 112] (fun a v i wq => ∃ j : Nat, j ≤ bb.E.length ∧ i = .int .i64 j ∧ a = .int .i64 (lateOf (bb.E.take j)) ∧ Hid (OwnS wc.heap.size wq v (bb.S ++ (bb.E.take j).map El.sp)) ∧ Hid (Calm wc wq)) (fun _ _ i _ => bb.E.length - (intOf i).toNat)
        case atStart => exact ⟨0, Nat.zero_le _, rfl, rfl, (show OwnS _ _ _ _ by simpa using HO8.out), hb8⟩
        clear hb8 HO8 t0 t1 t2 t3 hts hbx8
        case round =>
          obtain ⟨j, hj, rfl, rfl, ho, hq⟩ := hrel
          by_cases hjl : j < bb.E.length
          rotate_left
          · have hjj : bb.E.take j = bb.E := List.take_of_length_le (by omega)
            rw [hjj] at ho
            rw [hjj]
            have hcw := Lib.hid (hc7.call hq.out)
            have hvn := Lib.hid (hvw.out.call hcw.out)
            have hkT : k < T.length := by have := HSZ.out.2.2.2.1; omega
            obtain ⟨bt, qt, t, hAt, hbt, HTT, cyt⟩ := (HA.out.calm hvn.out).t.get hkT
            subst hAt
            have hn9 := (hcw.out.block (row5 hnbr).2.2.2.2.2).trans hnbr
            have hz9 := (hcw.out.block (row4 hzr).2.2.2.2).trans hzr
            obtain ⟨m0, m1, m2, m3, m4, hms⟩ := row5 hn9
            obtain ⟨z0, z1, z2, z3, hzs⟩ := row4 hz9
            obtain ⟨f0, f1, f2, f3, f4, f5⟩ := free6 hz9
            obtain ⟨la, hla⟩ : ∃ la, lateOf bb.E = la := ⟨_, rfl⟩
            rw [hla]
            have HLA := Lib.hid hla
            clear hla hjj
            by_cases hlt9 : la = t
            rotate_left
            · have hzero := Lib.hid (hbad.out (by rw [hstep.out, if_neg (fun h => by have a := h.1.2.2.1; rw [HLA.out] at a; exact hlt9 (Option.some.inj (a.symm.trans HTT.out)))]))
              have h4 := set4 hz9 (.slice none 0 0) (.slice none 0 0) (.int .i64 0) (.slice none 0 0)
              have hcf := hvn.out.four (g := w.heap.size + 1) (by omega) 0 (.slice none 0 0) (.slice none 0 0) (.int .i64 0) (.slice none 0 0)
              have hEnd := hzero.out _ hcf
              clear hcf
              go_wp2_with fail
              exact HRET.out _ _ (end_bn rfl rfl _ _ (w.heap.size + 1) _ _ _ (0, 0) rfl rfl rfl h4 rfl hEnd)
            subst hlt9
            obtain ⟨LL, hLL⟩ : ∃ LL, bb.S ++ bb.E.map El.sp = LL := ⟨_, rfl⟩
            rw [hLL] at ho HWS
            have hLn : LL.length ≤ 6400 := by
              have a := HBL.out.s; have b := HBL.out.e
              rw [← hLL, List.length_append, List.length_map]; omega
            have HLL := Lib.hid hLL
            clear hLL
            obtain ⟨A9, c9, e9, hL9⟩ := ho.out.lies (HWS.out)
            subst e9
            have HL9 := Lib.hid hL9
            clear hL9
            go_wp2_with fail
            go_loopw [136] (fun i wx => ∃ j : Nat, j ≤ LL.length ∧ i = .int .i64 j ∧ Hid (∀ s ∈ LL.take j, betw S k s) ∧ Hid (Calm wr wx)) (fun i _ => LL.length - (intOf i).toNat)
            case atStart => exact ⟨0, Nat.zero_le _, rfl, (show ∀ _ ∈ _, _ by simp), Calm.refl _⟩
            clear m0 m1 m2 m3 m4 hms z0 z1 z2 z3 hzs f0 f1 f2 f3 f4 f5
            case round =>
              obtain ⟨j3, hj3, rfl, hbt3, hq3⟩ := hrel
              have hcx := Lib.hid (hcw.out.call hq3.out)
              have hvx := Lib.hid (hvw.out.call hcx.out)
              have hn3 := (hcx.out.block (row5 hnbr).2.2.2.2.2).trans hnbr
              have hz3x := (hcx.out.block (row4 hzr).2.2.2.2).trans hzr
              have HOx := Lib.hid (hO.out.calm hcx.out)
              have hbx9 := ((hq.out.call hq3.out).block (row4 hbx7).2.2.2.2).trans hbx7
              obtain ⟨m0, m1, m2, m3, m4, hms⟩ := row5 hn3
              obtain ⟨z0, z1, z2, z3, hzs⟩ := row4 hz3x
              obtain ⟨f0, f1, f2, f3, f4, f5⟩ := free6 hz3x
              obtain ⟨o0, o1, o2, o3, hos⟩ := row4 HOx.out.box
              obtain ⟨t0, t1, t2, t3, hts⟩ := row4 hbx9
              by_cases hjl3 : j3 < LL.length
              · obtain ⟨bx, qx, p, oo, f, mm, hAx, hbx2, HX, hmx, y0, y1, y2, y3⟩ := (HL9.out.calm hq3.out).get hjl3
                subst hAx
                have hbox := heap_new wr (.cells #[.int .i64 p, .int .i64 oo, .int .i64 f, .int .i64 mm] 28)
                have hal := (Calm.refl wr).alloc (.cells #[.int .i64 p, .int .i64 oo, .int .i64 f, .int .i64 mm] 28)
                have hbadS : Hid (¬ betw S k ⟨p, oo, f, mm⟩ → ∀ w', Calm w w' → LookEnd l M (X : Int) w (.returned (.tuple #[.agg #[.slice none 0 0, .slice none 0 0, .int .i64 0, .slice none 0 0], .bool false])) w') := show _ → _ from fun hn => hbad.out (by rw [hstep.out, if_neg (fun h => hn (h.1.2.2.2 _ (by rw [HLL.out]; exact List.mem_of_getElem? HX.out)))])
                have hgood : Hid (betw S k ⟨p, oo, f, mm⟩ → ∀ x ∈ LL.take (j3 + 1), betw S k x) := show _ → _ from fun hb => take_all hbt3.out HX.out hb
                go_upto_region 24 with fail
                generalize wr.alloc (.cells #[.int .i64 p, .int .i64 oo, .int .i64 f, .int .i64 mm] 28) = w9 at hbox hal ⊢
                have hn4 := (hal.block (row5 hn3).2.2.2.2.2).trans hn3
                have hSA : Hid (LiesS w9 A3 S) := (HA.out.calm (hvx.out.call hal)).s
                clear m0 m1 m2 m3 m4 hms o0 o1 o2 o3 hos t0 t1 t2 t3 hts y0 y1 y2 y3
                obtain ⟨m0, m1, m2, m3, m4, hms⟩ := row5 hn4
                obtain ⟨u0, u1, u2, u3, hus⟩ := row4 hbox
                rcases Nat.lt_or_ge 0 k with hk0 | hk0
                · have hkp : (k : Int) > 0 := by omega
                  have hkS1 : k - 1 < S.length := by have := HSZ.out.2.2.2.2.1; omega
                  obtain ⟨bs, qs, p8, o8, f8, m8, hAs, hbs, HS8, hm8, q0, q1, q2, q3⟩ := hSA.out.get hkS1
                  subst hAs
                  have hSl : Hid (LiesS w9 (some ⟨bs, qs, none⟩) S) := hSA
                  have eK1 : IntKind.i64.wrap ((k : Int) - 1) = ((k - 1 : Nat) : Int) := by have hk8 := HSZ.out.2.1; rw [IntWalk.i64_in _ (by omega)]; omega
                  have hkSi1 : ((k - 1 : Nat) : Int) < (S.length : Int) := by omega
                  obtain ⟨a8, ha8⟩ : ∃ a8, aheadS p oo f mm p8 o8 f8 m8 = a8 := ⟨_, rfl⟩
                  have cL : ∀ u, Calls Tryz.prog 35 #[.agg #[.int .i64 p, .int .i64 oo, .int .i64 f, .int .i64 mm], .agg #[.int .i64 p8, .int .i64 o8, .int .i64 f8, .int .i64 m8]] u fun e w' => e = .returned (.bool a8) ∧ Calm u w' := fun u => by rw [← ha8]; exact aheadSpot_any _ _ _ _ _ _ _ _ _
                  have HA8 := Lib.hid ha8
                  clear ha8
                  cases a8
                  rotate_left
                  · have hzero := Lib.hid (hbadS.out (betw_lo hk0 HS8.out HA8.out))
                    refine wp_region_plan [.val (.int .i64 (k)), .val (.bool true), .val (.bool true), .val (.agg #[.int .i64 p, .int .i64 oo, .int .i64 f, .int .i64 mm]), .val (.pointer (some ⟨w1.heap.size, 3, none⟩)), .val (.slice (some ⟨bs, qs, none⟩) S.length c3), .val (.int .i64 (k)), .val (.int .i64 (((k - 1 : Nat) : Int))), .val (.pointer (some ⟨bs, qs+(k-1)*4, none⟩)), .val (.agg #[.int .i64 p8, .int .i64 o8, .int .i64 f8, .int .i64 m8]), .val (.bool true), .val (.bool true), .val (.bool true), .idle, .idle, .idle, .idle, .idle, .idle, .idle, .idle, .idle, .idle, .idle, .idle, .idle, .idle, .idle, .val (.bool true)] (by kernel_rfl) (by kernel_rfl) (by kernel_rfl) ?_
                    intro X
                    iterate 13
                      refine plan_val (by kernel_rfl) (fun u hu => ?_) ?_
                      · obtain ⟨hc, hf, hz⟩ := hu.of_drew.facts
                        go_simp
                        all_goals first
                          | ((with_reducible exact eK1))
                          | ((go_at_call 35; with_reducible exact cL _))
                      simp only [Act.put, List.setIfInBounds_toArray, List.set_cons_zero, List.set_cons_succ, Nat.reduceAdd]
                    iterate 15
                      refine plan_idle (by kernel_rfl) ?_
                      simp only [Act.put, List.setIfInBounds_toArray, List.set_cons_zero, List.set_cons_succ, Nat.reduceAdd]
                    iterate 1
                      refine plan_val (by kernel_rfl) (fun u hu => ?_) ?_
                      · obtain ⟨hc, hf, hz⟩ := hu.of_drew.facts
                        go_simp
                        all_goals first
                          | ((with_reducible exact eK1))
                          | ((go_at_call 35; with_reducible exact cL _))
                      simp only [Act.put, List.setIfInBounds_toArray, List.set_cons_zero, List.set_cons_succ, Nat.reduceAdd]
                    refine plan_end ?_
                    intro w' hB
                    have hk := hB.calm.of_drew
                    clear hB
                    have hz5 := ((hal.call hk).block (row4 hz3x).2.2.2.2).trans hz3x
                    have h4 := set4 hz5 (.slice none 0 0) (.slice none 0 0) (.int .i64 0) (.slice none 0 0)
                    have hcf := (hvx.out.call (hal.call hk)).four (g := w.heap.size + 1) (by omega) 0 (.slice none 0 0) (.slice none 0 0) (.int .i64 0) (.slice none 0 0)
                    have hEnd := hzero.out _ hcf
                    clear z0 z1 z2 z3 hzs f0 f1 f2 f3 f4 f5
                    obtain ⟨z0, z1, z2, z3, hzs⟩ := row4 hz5
                    obtain ⟨f0, f1, f2, f3, f4, f5⟩ := free6 hz5
                    clear hcf
                    go_wp2_with fail
                    exact HRET.out _ _ (end_bn rfl rfl _ _ (w.heap.size + 1) _ _ _ (0, 0) rfl rfl rfl h4 rfl hEnd)
                  have HLO : Hid (loOk S k ⟨p, oo, f, mm⟩) := loOk_mk HS8.out HA8.out
                  by_cases hkS : k < S.length
                  · have hkSi : (k : Int) < (S.length : Int) := by omega
                    obtain ⟨p', o', f', m', HSs, hmsp, v0, v1, v2, v3⟩ := hSl.out.get2 hkS
                    obtain ⟨a9, ha9⟩ : ∃ a9, aheadS p oo f mm p' o' f' m' = a9 := ⟨_, rfl⟩
                    have cS : ∀ u, Calls Tryz.prog 35 #[.agg #[.int .i64 p, .int .i64 oo, .int .i64 f, .int .i64 mm], .agg #[.int .i64 p', .int .i64 o', .int .i64 f', .int .i64 m']] u fun e w' => e = .returned (.bool a9) ∧ Calm u w' := fun u => by rw [← ha9]; exact aheadSpot_any _ _ _ _ _ _ _ _ _
                    have HA9 := Lib.hid ha9
                    clear ha9
                    cases a9
                    · have hzero := Lib.hid (hbadS.out (betw_hi HSs.out HA9.out))
                      refine wp_region_plan [.val (.int .i64 (k)), .val (.bool true), .val (.bool true), .val (.agg #[.int .i64 p, .int .i64 oo, .int .i64 f, .int .i64 mm]), .val (.pointer (some ⟨w1.heap.size, 3, none⟩)), .val (.slice (some ⟨bs, qs, none⟩) S.length c3), .val (.int .i64 (k)), .val (.int .i64 (((k - 1 : Nat) : Int))), .val (.pointer (some ⟨bs, qs+(k-1)*4, none⟩)), .val (.agg #[.int .i64 p8, .int .i64 o8, .int .i64 f8, .int .i64 m8]), .val (.bool false), .val (.bool false), .val (.bool false), .val (.int .i64 (k)), .val (.pointer (some ⟨w1.heap.size, 3, none⟩)), .val (.slice (some ⟨bs, qs, none⟩) S.length c3), .val (.int .i64 (S.length)), .val (.bool true), .val (.bool true), .val (.agg #[.int .i64 p, .int .i64 oo, .int .i64 f, .int .i64 mm]), .val (.pointer (some ⟨w1.heap.size, 3, none⟩)), .val (.slice (some ⟨bs, qs, none⟩) S.length c3), .val (.int .i64 (k)), .val (.pointer (some ⟨bs, qs+k*4, none⟩)), .val (.agg #[.int .i64 p', .int .i64 o', .int .i64 f', .int .i64 m']), .val (.bool false), .val (.bool true), .val (.bool true), .val (.bool true)] (by kernel_rfl) (by kernel_rfl) (by kernel_rfl) ?_
                      intro X
                      iterate 29
                        refine plan_val (by kernel_rfl) (fun u hu => ?_) ?_
                        · obtain ⟨hc, hf, hz⟩ := hu.of_drew.facts
                          go_simp
                          all_goals first
                            | ((with_reducible exact eK1))
                            | ((go_at_call 35; first | (with_reducible exact cL _) | (with_reducible exact cS _)))
                        simp only [Act.put, List.setIfInBounds_toArray, List.set_cons_zero, List.set_cons_succ, Nat.reduceAdd]
                      refine plan_end ?_
                      intro w' hB
                      have hk := hB.calm.of_drew
                      clear hB
                      have hz5 := ((hal.call hk).block (row4 hz3x).2.2.2.2).trans hz3x
                      have h4 := set4 hz5 (.slice none 0 0) (.slice none 0 0) (.int .i64 0) (.slice none 0 0)
                      have hcf := (hvx.out.call (hal.call hk)).four (g := w.heap.size + 1) (by omega) 0 (.slice none 0 0) (.slice none 0 0) (.int .i64 0) (.slice none 0 0)
                      have hEnd := hzero.out _ hcf
                      clear z0 z1 z2 z3 hzs f0 f1 f2 f3 f4 f5
                      obtain ⟨z0, z1, z2, z3, hzs⟩ := row4 hz5
                      obtain ⟨f0, f1, f2, f3, f4, f5⟩ := free6 hz5
                      clear hcf
                      go_wp2_with fail
                      exact HRET.out _ _ (end_bn rfl rfl _ _ (w.heap.size + 1) _ _ _ (0, 0) rfl rfl rfl h4 rfl hEnd)
                    · have HBT := betw_mk HLO.out HSs.out HA9.out
                      have HBT := Lib.hid HBT
                      refine wp_region_plan [.val (.int .i64 (k)), .val (.bool true), .val (.bool true), .val (.agg #[.int .i64 p, .int .i64 oo, .int .i64 f, .int .i64 mm]), .val (.pointer (some ⟨w1.heap.size, 3, none⟩)), .val (.slice (some ⟨bs, qs, none⟩) S.length c3), .val (.int .i64 (k)), .val (.int .i64 (((k - 1 : Nat) : Int))), .val (.pointer (some ⟨bs, qs+(k-1)*4, none⟩)), .val (.agg #[.int .i64 p8, .int .i64 o8, .int .i64 f8, .int .i64 m8]), .val (.bool false), .val (.bool false), .val (.bool false), .val (.int .i64 (k)), .val (.pointer (some ⟨w1.heap.size, 3, none⟩)), .val (.slice (some ⟨bs, qs, none⟩) S.length c3), .val (.int .i64 (S.length)), .val (.bool true), .val (.bool true), .val (.agg #[.int .i64 p, .int .i64 oo, .int .i64 f, .int .i64 mm]), .val (.pointer (some ⟨w1.heap.size, 3, none⟩)), .val (.slice (some ⟨bs, qs, none⟩) S.length c3), .val (.int .i64 (k)), .val (.pointer (some ⟨bs, qs+k*4, none⟩)), .val (.agg #[.int .i64 p', .int .i64 o', .int .i64 f', .int .i64 m']), .val (.bool true), .val (.bool false), .val (.bool false), .val (.bool false)] (by kernel_rfl) (by kernel_rfl) (by kernel_rfl) ?_
                      intro X
                      iterate 29
                        refine plan_val (by kernel_rfl) (fun u hu => ?_) ?_
                        · obtain ⟨hc, hf, hz⟩ := hu.of_drew.facts
                          go_simp
                          all_goals first
                            | ((with_reducible exact eK1))
                            | ((go_at_call 35; first | (with_reducible exact cL _) | (with_reducible exact cS _)))
                        simp only [Act.put, List.setIfInBounds_toArray, List.set_cons_zero, List.set_cons_succ, Nat.reduceAdd]
                      refine plan_end ?_
                      intro w' hB
                      have hk := hB.calm.of_drew
                      clear hB
                      have hC := Lib.hid (hq3.out.call (hal.call hk))
                      have hB := Lib.hid (hgood.out HBT.out)
                      clear hk
                      go_wp2_with fail
                      go_roundw
                      case rel => exact ⟨j3 + 1, by omega, by go_num, hB, hC⟩
                      case measure => simp [intOf]; omega
                  · have hkSi : ¬ (k : Int) < (S.length : Int) := by omega
                    have HBT := Lib.hid (betw_end HLO.out hkS)
                    refine wp_region_plan [.val (.int .i64 (k)), .val (.bool true), .val (.bool true), .val (.agg #[.int .i64 p, .int .i64 oo, .int .i64 f, .int .i64 mm]), .val (.pointer (some ⟨w1.heap.size, 3, none⟩)), .val (.slice (some ⟨bs, qs, none⟩) S.length c3), .val (.int .i64 (k)), .val (.int .i64 (((k - 1 : Nat) : Int))), .val (.pointer (some ⟨bs, qs+(k-1)*4, none⟩)), .val (.agg #[.int .i64 p8, .int .i64 o8, .int .i64 f8, .int .i64 m8]), .val (.bool false), .val (.bool false), .val (.bool false), .val (.int .i64 (k)), .val (.pointer (some ⟨w1.heap.size, 3, none⟩)), .val (.slice (some ⟨bs, qs, none⟩) S.length c3), .val (.int .i64 (S.length)), .val (.bool false), .val (.bool false), .idle, .idle, .idle, .idle, .idle, .idle, .idle, .idle, .val (.bool false), .val (.bool false)] (by kernel_rfl) (by kernel_rfl) (by kernel_rfl) ?_
                    intro X
                    iterate 19
                      refine plan_val (by kernel_rfl) (fun u hu => ?_) ?_
                      · obtain ⟨hc, hf, hz⟩ := hu.of_drew.facts
                        go_simp
                        all_goals first
                          | ((with_reducible exact eK1))
                          | ((go_at_call 35; with_reducible exact cL _))
                      simp only [Act.put, List.setIfInBounds_toArray, List.set_cons_zero, List.set_cons_succ, Nat.reduceAdd]
                    iterate 8
                      refine plan_idle (by kernel_rfl) ?_
                      simp only [Act.put, List.setIfInBounds_toArray, List.set_cons_zero, List.set_cons_succ, Nat.reduceAdd]
                    iterate 2
                      refine plan_val (by kernel_rfl) (fun u hu => ?_) ?_
                      · obtain ⟨hc, hf, hz⟩ := hu.of_drew.facts
                        go_simp
                        all_goals first
                          | ((with_reducible exact eK1))
                          | ((go_at_call 35; with_reducible exact cL _))
                      simp only [Act.put, List.setIfInBounds_toArray, List.set_cons_zero, List.set_cons_succ, Nat.reduceAdd]
                    refine plan_end ?_
                    intro w' hB
                    have hk := hB.calm.of_drew
                    clear hB
                    have hC := Lib.hid (hq3.out.call (hal.call hk))
                    have hB := Lib.hid (hgood.out HBT.out)
                    clear hk
                    go_wp2_with fail
                    go_roundw
                    case rel => exact ⟨j3 + 1, by omega, by go_num, hB, hC⟩
                    case measure => simp [intOf]; omega
                · have hkp : ¬ (k : Int) > 0 := by omega
                  have HLO : Hid (loOk S k ⟨p, oo, f, mm⟩) := loOk_zero S _ (by omega)
                  by_cases hkS : k < S.length
                  · have hkSi : (k : Int) < (S.length : Int) := by omega
                    obtain ⟨bs, qs, p0, o0', f0', m0', hAs, hbs, -, -, -, -, -, -⟩ := hSA.out.get hkS
                    subst hAs
                    have hSl : Hid (LiesS w9 (some ⟨bs, qs, none⟩) S) := hSA
                    obtain ⟨p', o', f', m', HSs, hmsp, v0, v1, v2, v3⟩ := hSl.out.get2 hkS
                    obtain ⟨a9, ha9⟩ : ∃ a9, aheadS p oo f mm p' o' f' m' = a9 := ⟨_, rfl⟩
                    have cS : ∀ u, Calls Tryz.prog 35 #[.agg #[.int .i64 p, .int .i64 oo, .int .i64 f, .int .i64 mm], .agg #[.int .i64 p', .int .i64 o', .int .i64 f', .int .i64 m']] u fun e w' => e = .returned (.bool a9) ∧ Calm u w' := fun u => by rw [← ha9]; exact aheadSpot_any _ _ _ _ _ _ _ _ _
                    have HA9 := Lib.hid ha9
                    clear ha9
                    cases a9
                    · have hzero := Lib.hid (hbadS.out (betw_hi HSs.out HA9.out))
                      refine wp_region_plan [.val (.int .i64 (k)), .val (.bool false), .val (.bool false), .idle, .idle, .idle, .idle, .idle, .idle, .idle, .idle, .val (.bool false), .val (.bool false), .val (.int .i64 (k)), .val (.pointer (some ⟨w1.heap.size, 3, none⟩)), .val (.slice (some ⟨bs, qs, none⟩) S.length c3), .val (.int .i64 (S.length)), .val (.bool true), .val (.bool true), .val (.agg #[.int .i64 p, .int .i64 oo, .int .i64 f, .int .i64 mm]), .val (.pointer (some ⟨w1.heap.size, 3, none⟩)), .val (.slice (some ⟨bs, qs, none⟩) S.length c3), .val (.int .i64 (k)), .val (.pointer (some ⟨bs, qs+k*4, none⟩)), .val (.agg #[.int .i64 p', .int .i64 o', .int .i64 f', .int .i64 m']), .val (.bool false), .val (.bool true), .val (.bool true), .val (.bool true)] (by kernel_rfl) (by kernel_rfl) (by kernel_rfl) ?_
                      intro X
                      iterate 3
                        refine plan_val (by kernel_rfl) (fun u hu => ?_) ?_
                        · obtain ⟨hc, hf, hz⟩ := hu.of_drew.facts
                          go_simp
                          all_goals first
                            | ((go_at_call 35; with_reducible exact cS _))
                        simp only [Act.put, List.setIfInBounds_toArray, List.set_cons_zero, List.set_cons_succ, Nat.reduceAdd]
                      iterate 8
                        refine plan_idle (by kernel_rfl) ?_
                        simp only [Act.put, List.setIfInBounds_toArray, List.set_cons_zero, List.set_cons_succ, Nat.reduceAdd]
                      iterate 18
                        refine plan_val (by kernel_rfl) (fun u hu => ?_) ?_
                        · obtain ⟨hc, hf, hz⟩ := hu.of_drew.facts
                          go_simp
                          all_goals first
                            | ((go_at_call 35; with_reducible exact cS _))
                        simp only [Act.put, List.setIfInBounds_toArray, List.set_cons_zero, List.set_cons_succ, Nat.reduceAdd]
                      refine plan_end ?_
                      intro w' hB
                      have hk := hB.calm.of_drew
                      clear hB
                      have hz5 := ((hal.call hk).block (row4 hz3x).2.2.2.2).trans hz3x
                      have h4 := set4 hz5 (.slice none 0 0) (.slice none 0 0) (.int .i64 0) (.slice none 0 0)
                      have hcf := (hvx.out.call (hal.call hk)).four (g := w.heap.size + 1) (by omega) 0 (.slice none 0 0) (.slice none 0 0) (.int .i64 0) (.slice none 0 0)
                      have hEnd := hzero.out _ hcf
                      clear z0 z1 z2 z3 hzs f0 f1 f2 f3 f4 f5
                      obtain ⟨z0, z1, z2, z3, hzs⟩ := row4 hz5
                      obtain ⟨f0, f1, f2, f3, f4, f5⟩ := free6 hz5
                      clear hcf
                      go_wp2_with fail
                      exact HRET.out _ _ (end_bn rfl rfl _ _ (w.heap.size + 1) _ _ _ (0, 0) rfl rfl rfl h4 rfl hEnd)
                    · have HBT := betw_mk HLO.out HSs.out HA9.out
                      have HBT := Lib.hid HBT
                      refine wp_region_plan [.val (.int .i64 (k)), .val (.bool false), .val (.bool false), .idle, .idle, .idle, .idle, .idle, .idle, .idle, .idle, .val (.bool false), .val (.bool false), .val (.int .i64 (k)), .val (.pointer (some ⟨w1.heap.size, 3, none⟩)), .val (.slice (some ⟨bs, qs, none⟩) S.length c3), .val (.int .i64 (S.length)), .val (.bool true), .val (.bool true), .val (.agg #[.int .i64 p, .int .i64 oo, .int .i64 f, .int .i64 mm]), .val (.pointer (some ⟨w1.heap.size, 3, none⟩)), .val (.slice (some ⟨bs, qs, none⟩) S.length c3), .val (.int .i64 (k)), .val (.pointer (some ⟨bs, qs+k*4, none⟩)), .val (.agg #[.int .i64 p', .int .i64 o', .int .i64 f', .int .i64 m']), .val (.bool true), .val (.bool false), .val (.bool false), .val (.bool false)] (by kernel_rfl) (by kernel_rfl) (by kernel_rfl) ?_
                      intro X
                      iterate 3
                        refine plan_val (by kernel_rfl) (fun u hu => ?_) ?_
                        · obtain ⟨hc, hf, hz⟩ := hu.of_drew.facts
                          go_simp
                          all_goals first
                            | ((go_at_call 35; with_reducible exact cS _))
                        simp only [Act.put, List.setIfInBounds_toArray, List.set_cons_zero, List.set_cons_succ, Nat.reduceAdd]
                      iterate 8
                        refine plan_idle (by kernel_rfl) ?_
                        simp only [Act.put, List.setIfInBounds_toArray, List.set_cons_zero, List.set_cons_succ, Nat.reduceAdd]
                      iterate 18
                        refine plan_val (by kernel_rfl) (fun u hu => ?_) ?_
                        · obtain ⟨hc, hf, hz⟩ := hu.of_drew.facts
                          go_simp
                          all_goals first
                            | ((go_at_call 35; with_reducible exact cS _))
                        simp only [Act.put, List.setIfInBounds_toArray, List.set_cons_zero, List.set_cons_succ, Nat.reduceAdd]
                      refine plan_end ?_
                      intro w' hB
                      have hk := hB.calm.of_drew
                      clear hB
                      have hC := Lib.hid (hq3.out.call (hal.call hk))
                      have hB := Lib.hid (hgood.out HBT.out)
                      clear hk
                      go_wp2_with fail
                      go_roundw
                      case rel => exact ⟨j3 + 1, by omega, by go_num, hB, hC⟩
                      case measure => simp [intOf]; omega
                  · have hkSi : ¬ (k : Int) < (S.length : Int) := by omega
                    have HBT := Lib.hid (betw_end HLO.out hkS)
                    refine wp_region_plan [.val (.int .i64 (k)), .val (.bool false), .val (.bool false), .idle, .idle, .idle, .idle, .idle, .idle, .idle, .idle, .val (.bool false), .val (.bool false), .val (.int .i64 (k)), .val (.pointer (some ⟨w1.heap.size, 3, none⟩)), .val (.slice A3 S.length c3), .val (.int .i64 (S.length)), .val (.bool false), .val (.bool false), .idle, .idle, .idle, .idle, .idle, .idle, .idle, .idle, .val (.bool false), .val (.bool false)] (by kernel_rfl) (by kernel_rfl) (by kernel_rfl) ?_
                    intro X
                    iterate 3
                      refine plan_val (by kernel_rfl) (fun u hu => ?_) ?_
                      · obtain ⟨hc, hf, hz⟩ := hu.of_drew.facts
                        go_simp
                      simp only [Act.put, List.setIfInBounds_toArray, List.set_cons_zero, List.set_cons_succ, Nat.reduceAdd]
                    iterate 8
                      refine plan_idle (by kernel_rfl) ?_
                      simp only [Act.put, List.setIfInBounds_toArray, List.set_cons_zero, List.set_cons_succ, Nat.reduceAdd]
                    iterate 8
                      refine plan_val (by kernel_rfl) (fun u hu => ?_) ?_
                      · obtain ⟨hc, hf, hz⟩ := hu.of_drew.facts
                        go_simp
                      simp only [Act.put, List.setIfInBounds_toArray, List.set_cons_zero, List.set_cons_succ, Nat.reduceAdd]
                    iterate 8
                      refine plan_idle (by kernel_rfl) ?_
                      simp only [Act.put, List.setIfInBounds_toArray, List.set_cons_zero, List.set_cons_succ, Nat.reduceAdd]
                    iterate 2
                      refine plan_val (by kernel_rfl) (fun u hu => ?_) ?_
                      · obtain ⟨hc, hf, hz⟩ := hu.of_drew.facts
                        go_simp
                      simp only [Act.put, List.setIfInBounds_toArray, List.set_cons_zero, List.set_cons_succ, Nat.reduceAdd]
                    refine plan_end ?_
                    intro w' hB
                    have hk := hB.calm.of_drew
                    clear hB
                    have hC := Lib.hid (hq3.out.call (hal.call hk))
                    have hB := Lib.hid (hgood.out HBT.out)
                    clear hk
                    go_wp2_with fail
                    go_roundw
                    case rel => exact ⟨j3 + 1, by omega, by go_num, hB, hC⟩
                    case measure => simp [intOf]; omega
              have hall : LL.take j3 = LL := List.take_of_length_le (by omega)
              rw [hall] at hbt3
              clear hall
              obtain ⟨g0, g1, g2, g3, g4, g5⟩ := free6 HOx.out.box
              have hbx2 := hbx9
              have HBx := Lib.hid (HB7.out.calm (hq.out.call hq3.out))
              go_upto_region 28 with fail
              have HOd := Lib.hid (HOx.out.setD (bb.D + 1))
              have hvd : Hid (Calm w3 (wr.setCell ⟨g, 2, none⟩ (.int .i64 (bb.D + 1)))) := (hv.out.call hcx.out).setCell (p := ⟨g, 2, none⟩) HOx.out.ge _
              have HBd := Lib.hid (HBx.out.past hgM.out.1 2 (.int .i64 (bb.D + 1)))
              have hbd := (heap_setCell_other wr ⟨g, 2, none⟩ w5.heap.size (.int .i64 (bb.D + 1)) (fun e => by have a := hgM.out.1; have b := hgx.out; simp at e; omega)).trans hbx9
              have hgl : Hid (w5.heap.size < (wr.setCell ⟨g, 2, none⟩ (.int .i64 (bb.D + 1))).heap.size) := (Array.getElem?_eq_some_iff.1 hbd).1
              have hMl : Hid (M1 ≤ (wr.setCell ⟨g, 2, none⟩ (.int .i64 (bb.D + 1))).heap.size) := by have a := hgx.out; have b := hgl.out; exact (show _ ≤ _ by omega)
              clear m0 m1 m2 m3 m4 hms z0 z1 z2 z3 hzs f0 f1 f2 f3 f4 f5 o0 o1 o2 o3 hos t0 t1 t2 t3 hts g0 g1 g2 g3 g4 g5 hbx2 hbx9 hn3 hz3x HOx HBx
              generalize wr.setCell ⟨g, 2, none⟩ (.int .i64 (bb.D + 1)) = wd at HOd hvd HBd hbd hgl hMl ⊢
              have hlE : o.E.length + bb.E.length ≤ 1000000 := by have a := HOL.out.1; have b := HOL.out.2.2.1; have c := HBL.out.e; omega
              have hlS : o.S.length + bb.S.length ≤ 1000000 := by have a := HOL.out.2.1; have b := HOL.out.2.2.1; have c := HBL.out.s; omega
              have hlN : o.N.length + bb.N.length ≤ 1000000 := by have b := HOL.out.2.2.1; have c := HBL.out.n; omega
              refine wp_region_stages [.val (.pointer (some ⟨g, 0, none⟩)), .val (.slice a2 o.E.length b2) [4], .val (.pointer (some ⟨w5.heap.size, 0, none⟩)), .val (.slice p2 bb.E.length r2), .late,
                  .val (.pointer (some ⟨g, 1, none⟩)), .val (.slice a5 o.S.length b5) [9], .val (.pointer (some ⟨w5.heap.size, 1, none⟩)), .val (.slice p5 bb.S.length r5), .late [4],
                  .val (.pointer (some ⟨g, 3, none⟩)), .val (.slice a7 o.N.length b7) [14], .val (.pointer (some ⟨w5.heap.size, 3, none⟩)), .val (.slice p7 bb.N.length r7), .late [9],
                  .val (.pointer (some ⟨g, 0, none⟩)), .late [14], .val (.pointer (some ⟨g, 1, none⟩)), .late [16], .val (.pointer (some ⟨g, 3, none⟩)), .late [18]] [4, 9, 14, 16, 18, 20]
                  (ChainS 6 (ASs wd w3.heap.size M1 g (bb.D + 1) (.slice a2 o.E.length b2) (.slice a5 o.S.length b5) (.slice a7 o.N.length b7) o.E (o.E ++ bb.E) o.S (o.S ++ bb.S) o.N (o.N ++ bb.N))) (by kernel_rfl) (by kernel_rfl) (by kernel_rfl) (ChainS.stay ASs.calm)
                  (fun Y => ChainS.start (late := [4, 9, 14, 16, 18, 20]) ((AS.begin HOd.out hgM.out.1 hMl.out hgM.out.2).calm ((Calm.refl _).drew))) (fun Y => ?_)
              refine planS_val (by kernel_rfl) (fun L u hb hS => ?_) ?_
              · clear hS hb
                go_simp
              simp only [Act.put, List.setIfInBounds_toArray, List.set_cons_zero, List.set_cons_succ, Nat.reduceAdd]
              refine planS_val (by kernel_rfl) (fun L u hb hS => ?_) ?_
              · obtain ⟨m, hm, hA⟩ := ChainS.upto (late := [4, 9, 14, 16, 18, 20]) (m := 0) hS rfl (hb 4 (by simp))
                obtain ⟨y, z, hbb9⟩ := ASs.boxE (by omega) hA
                obtain ⟨x0, x1, x2, x3, hxs⟩ := row4 hbb9
                clear hS hA hb hbb9
                go_simp
              simp only [Act.put, List.setIfInBounds_toArray, List.set_cons_zero, List.set_cons_succ, Nat.reduceAdd]
              refine planS_val (by kernel_rfl) (fun L u hb hS => ?_) ?_
              · clear hS hb
                go_simp
              simp only [Act.put, List.setIfInBounds_toArray, List.set_cons_zero, List.set_cons_succ, Nat.reduceAdd]
              refine planS_val (by kernel_rfl) (fun L u hb hS => ?_) ?_
              · obtain ⟨m, hm, hA⟩ := ChainS.any (late := [4, 9, 14, 16, 18, 20]) hS
                obtain ⟨x0, x1, x2, x3, hxs⟩ := row4 ((ASs.high hA _ hgl.out hgx.out).trans hbd)
                clear hS hA hb
                go_simp
              simp only [Act.put, List.setIfInBounds_toArray, List.set_cons_zero, List.set_cons_succ, Nat.reduceAdd]
              refine planS_late (fun L u hi hb hS => ?_) ?_
              · obtain ⟨hA, hn⟩ := ChainS.step (late := [4, 9, 14, 16, 18, 20]) (m := 0) hS rfl hi (fun j h0 h => by exact absurd h0 (Nat.lt_irrefl _)) (by decide)
                clear hS hb hi
                have hA : AS _ _ _ _ _ _ _ _ _ _ _ _ _ _ _ := hA
                have hsr := hA.src HBd.out
                refine wpList_append_eL rfl _ _ rfl w3.heap.size _ _ rfl hA.own.e _ _ bb.E rfl (OwnR.at_ hsr.e HWF.out.1) (by omega) hA.base ?_
                intro v9 w9 ho9 hg9 hat9
                exact ⟨rfl, v9, rfl, hn v9 w9 (hA.appE ho9 hg9 hat9)⟩
              simp only [Act.put, List.setIfInBounds_toArray, List.set_cons_zero, List.set_cons_succ, Nat.reduceAdd]
              refine planS_val (by kernel_rfl) (fun L u hb hS => ?_) ?_
              · clear hS hb
                go_simp
              simp only [Act.put, List.setIfInBounds_toArray, List.set_cons_zero, List.set_cons_succ, Nat.reduceAdd]
              refine planS_val (by kernel_rfl) (fun L u hb hS => ?_) ?_
              · obtain ⟨m, hm, hA⟩ := ChainS.upto (late := [4, 9, 14, 16, 18, 20]) (m := 1) hS rfl (hb 9 (by simp))
                obtain ⟨y, z, hbb9⟩ := ASs.boxS (by omega) hA
                obtain ⟨x0, x1, x2, x3, hxs⟩ := row4 hbb9
                clear hS hA hb hbb9
                go_simp
              simp only [Act.put, List.setIfInBounds_toArray, List.set_cons_zero, List.set_cons_succ, Nat.reduceAdd]
              refine planS_val (by kernel_rfl) (fun L u hb hS => ?_) ?_
              · clear hS hb
                go_simp
              simp only [Act.put, List.setIfInBounds_toArray, List.set_cons_zero, List.set_cons_succ, Nat.reduceAdd]
              refine planS_val (by kernel_rfl) (fun L u hb hS => ?_) ?_
              · obtain ⟨m, hm, hA⟩ := ChainS.any (late := [4, 9, 14, 16, 18, 20]) hS
                obtain ⟨x0, x1, x2, x3, hxs⟩ := row4 ((ASs.high hA _ hgl.out hgx.out).trans hbd)
                clear hS hA hb
                go_simp
              simp only [Act.put, List.setIfInBounds_toArray, List.set_cons_zero, List.set_cons_succ, Nat.reduceAdd]
              refine planS_late (fun L u hi hb hS => ?_) ?_
              · obtain ⟨hA, hn⟩ := ChainS.step (late := [4, 9, 14, 16, 18, 20]) (m := 1) hS rfl hi (fun j _ h => by cases h; exact hb 4 (by simp)) (by decide)
                clear hS hb hi
                have hA : AS _ _ _ _ _ _ _ _ _ _ _ _ _ _ _ := hA
                have hsr := hA.src HBd.out
                refine wpList_append_sL rfl _ _ rfl w3.heap.size _ _ rfl hA.own.s _ _ bb.S rfl (OwnS.at_ hsr.s HWF.out.2) (by omega) hA.base ?_
                intro v9 w9 ho9 hg9 hat9
                exact ⟨rfl, v9, rfl, hn v9 w9 (hA.appS ho9 hg9 hat9)⟩
              simp only [Act.put, List.setIfInBounds_toArray, List.set_cons_zero, List.set_cons_succ, Nat.reduceAdd]
              refine planS_val (by kernel_rfl) (fun L u hb hS => ?_) ?_
              · clear hS hb
                go_simp
              simp only [Act.put, List.setIfInBounds_toArray, List.set_cons_zero, List.set_cons_succ, Nat.reduceAdd]
              refine planS_val (by kernel_rfl) (fun L u hb hS => ?_) ?_
              · obtain ⟨m, hm, hA⟩ := ChainS.upto (late := [4, 9, 14, 16, 18, 20]) (m := 2) hS rfl (hb 14 (by simp))
                obtain ⟨y, z, hbb9⟩ := ASs.boxN (by omega) hA
                obtain ⟨x0, x1, x2, x3, hxs⟩ := row4 hbb9
                clear hS hA hb hbb9
                go_simp
              simp only [Act.put, List.setIfInBounds_toArray, List.set_cons_zero, List.set_cons_succ, Nat.reduceAdd]
              refine planS_val (by kernel_rfl) (fun L u hb hS => ?_) ?_
              · clear hS hb
                go_simp
              simp only [Act.put, List.setIfInBounds_toArray, List.set_cons_zero, List.set_cons_succ, Nat.reduceAdd]
              refine planS_val (by kernel_rfl) (fun L u hb hS => ?_) ?_
              · obtain ⟨m, hm, hA⟩ := ChainS.any (late := [4, 9, 14, 16, 18, 20]) hS
                obtain ⟨x0, x1, x2, x3, hxs⟩ := row4 ((ASs.high hA _ hgl.out hgx.out).trans hbd)
                clear hS hA hb
                go_simp
              simp only [Act.put, List.setIfInBounds_toArray, List.set_cons_zero, List.set_cons_succ, Nat.reduceAdd]
              refine planS_late (fun L u hi hb hS => ?_) ?_
              · obtain ⟨hA, hn⟩ := ChainS.step (late := [4, 9, 14, 16, 18, 20]) (m := 2) hS rfl hi (fun j _ h => by cases h; exact hb 9 (by simp)) (by decide)
                clear hS hb hi
                have hA : AS _ _ _ _ _ _ _ _ _ _ _ _ _ _ _ := hA
                have hsr := hA.src HBd.out
                refine wpList_append_iLat rfl _ _ rfl w3.heap.size _ _ rfl hA.own.n _ _ bb.N rfl (OwnI.at_ hsr.n) (by omega) hA.base ?_
                intro v9 w9 ho9 hg9 hat9
                exact ⟨rfl, v9, rfl, hn v9 w9 (hA.appN ho9 hg9 hat9)⟩
              simp only [Act.put, List.setIfInBounds_toArray, List.set_cons_zero, List.set_cons_succ, Nat.reduceAdd]
              refine planS_val (by kernel_rfl) (fun L u hb hS => ?_) ?_
              · clear hS hb
                go_simp
              simp only [Act.put, List.setIfInBounds_toArray, List.set_cons_zero, List.set_cons_succ, Nat.reduceAdd]
              refine planS_late (fun L u hi hb hS => ?_) ?_
              · obtain ⟨hA, hn⟩ := ChainS.step (late := [4, 9, 14, 16, 18, 20]) (m := 3) hS rfl hi (fun j _ h => by cases h; exact hb 14 (by simp)) (by decide)
                clear hS hb hi
                have hA : AS _ _ _ _ _ _ _ _ _ _ _ _ _ _ _ := hA
                obtain ⟨A9, n9, c9, hy⟩ : ∃ A n c, Y 4 = .slice A n c := by obtain ⟨A, c, h⟩ := hA.own.e.slice; exact ⟨_, _, _, h⟩
                have h9 := hA.set 0 (.slice A9 n9 c9) rfl
                obtain ⟨x0, x1, x2, x3, hxs⟩ := row4 hA.box
                obtain ⟨f0, f1, f2, f3, f4, f5⟩ := free6 hA.box
                have hn9 := hn undef _ (by rw [← hy] at h9; exact h9)
                rw [hy]
                rw [hy] at hn9
                clear hA hn h9 hy
                go_wp2_with fail
                exact ⟨undef, hn9⟩
              simp only [Act.put, Nat.reduceAdd]
              refine planS_val (by kernel_rfl) (fun L u hb hS => ?_) ?_
              · clear hS hb
                go_simp
              simp only [Act.put, List.setIfInBounds_toArray, List.set_cons_zero, List.set_cons_succ, Nat.reduceAdd]
              refine planS_late (fun L u hi hb hS => ?_) ?_
              · obtain ⟨hA, hn⟩ := ChainS.step (late := [4, 9, 14, 16, 18, 20]) (m := 4) hS rfl hi (fun j _ h => by cases h; exact hb 16 (by simp)) (by decide)
                clear hS hb hi
                have hA : AS _ _ _ _ _ _ _ _ _ _ _ _ _ _ _ := hA
                obtain ⟨A9, n9, c9, hy⟩ : ∃ A n c, Y 9 = .slice A n c := by obtain ⟨A, c, h⟩ := hA.own.s.slice; exact ⟨_, _, _, h⟩
                have h9 := hA.set 1 (.slice A9 n9 c9) rfl
                obtain ⟨x0, x1, x2, x3, hxs⟩ := row4 hA.box
                obtain ⟨f0, f1, f2, f3, f4, f5⟩ := free6 hA.box
                have hn9 := hn undef _ (by rw [← hy] at h9; exact h9)
                rw [hy]
                rw [hy] at hn9
                clear hA hn h9 hy
                go_wp2_with fail
                exact ⟨undef, hn9⟩
              simp only [Act.put, Nat.reduceAdd]
              refine planS_val (by kernel_rfl) (fun L u hb hS => ?_) ?_
              · clear hS hb
                go_simp
              simp only [Act.put, List.setIfInBounds_toArray, List.set_cons_zero, List.set_cons_succ, Nat.reduceAdd]
              refine planS_late (fun L u hi hb hS => ?_) ?_
              · obtain ⟨hA, hn⟩ := ChainS.step (late := [4, 9, 14, 16, 18, 20]) (m := 5) hS rfl hi (fun j _ h => by cases h; exact hb 18 (by simp)) (by decide)
                clear hS hb hi
                have hA : AS _ _ _ _ _ _ _ _ _ _ _ _ _ _ _ := hA
                obtain ⟨A9, n9, c9, hy⟩ : ∃ A n c, Y 14 = .slice A n c := by obtain ⟨A, c, h⟩ := hA.own.n.slice; exact ⟨_, _, _, h⟩
                have h9 := hA.set 3 (.slice A9 n9 c9) rfl
                obtain ⟨x0, x1, x2, x3, hxs⟩ := row4 hA.box
                obtain ⟨f0, f1, f2, f3, f4, f5⟩ := free6 hA.box
                have hn9 := hn undef _ (by rw [← hy] at h9; exact h9)
                rw [hy]
                rw [hy] at hn9
                clear hA hn h9 hy
                go_wp2_with fail
                exact ⟨undef, hn9⟩
              simp only [Act.put, Nat.reduceAdd]
              refine planS_end ?_
              intro wz hS
              have hD7 : Hid (AS wd w3.heap.size M1 g (bb.D + 1) (Y 4) (Y 9) (Y 14) (Y 4) (Y 9) (Y 14) (o.E ++ bb.E) (o.S ++ bb.S) (o.N ++ bb.N) wz) := ChainS.done (late := [4, 9, 14, 16, 18, 20]) hS
              clear hS
              generalize Y 4 = v4 at hD7 ⊢
              generalize Y 9 = v9 at hD7 ⊢
              generalize Y 14 = v14 at hD7 ⊢
              obtain ⟨NN, hNN⟩ : ∃ NN, o.N ++ bb.N = NN := ⟨_, rfl⟩
              have HNN := Lib.hid hNN
              have HOz : Hid (OutOk w3.heap.size wz g v4 v9 v14 (bb.D + 1) (o.E ++ bb.E) (o.S ++ bb.S) (o.N ++ bb.N)) := hD7.out.ends
              have HCz : Hid (Calm w3 wz) := hD7.out.low_calm hvd.out (Nat.le_refl _)
              have HOy := HOz
              rw [hNN] at HOy
              clear hNN
              obtain ⟨A14, c14, e14⟩ := HOy.out.own.n.slice
              subst e14
              obtain ⟨o0, o1, o2, o3, hos⟩ := row4 HOy.out.box
              clear hD7 HOy
              by_cases h400 : NN.length > 400
              · have hzero := Lib.hid (hbad.out (by rw [hstep.out, if_neg (fun h => by have := h.2; rw [HNN.out] at this; omega)]))
                have h4i : (NN.length : Int) > 400 := by omega
                have hzz := (HCz.out.block (row4 hz3).2.2.2.2).trans hz3
                have h4 := set4 hzz (.slice none 0 0) (.slice none 0 0) (.int .i64 0) (.slice none 0 0)
                have hcf := (HU3.out.call HCz.out).four (g := w.heap.size + 1) (by omega) 0 (.slice none 0 0) (.slice none 0 0) (.int .i64 0) (.slice none 0 0)
                have hEnd := hzero.out _ hcf
                obtain ⟨z0, z1, z2, z3, hzs⟩ := row4 hzz
                obtain ⟨f0, f1, f2, f3, f4, f5⟩ := free6 hzz
                clear hcf
                go_wp2_with fail
                exact HRET.out _ _ (end_bn rfl rfl _ _ (w.heap.size + 1) _ _ _ (0, 0) rfl rfl rfl h4 rfl hEnd)
              have h4i : ¬ (NN.length : Int) > 400 := by omega
              have hL' : Hid (lookUpto l ⟨kd, A1, some ⟨bk, qk, none⟩, A3, some ⟨bt, qt, none⟩, c1, c2, c3, c4, E, K, S, T⟩ (X : Int) (lookR l m) (k + 1) = some ⟨o.E ++ bb.E, o.S ++ bb.S, bb.D + 1, o.N ++ bb.N⟩) := show _ = _ from hstep.out.trans (if_pos ⟨⟨by rw [hso.out]; omega, hde, by rw [HLA.out]; exact HTT.out, by rw [HLL.out]; exact hbt3.out⟩, by rw [HNN.out]; omega⟩)
              clear hstep hbad
              have hk8 := HSZ.out.2.1
              go_wp2_with fail
              go_roundw
              case rel => exact ⟨k + 1, ⟨o.E ++ bb.E, o.S ++ bb.S, bb.D + 1, o.N ++ bb.N⟩, v4, v9, _, by omega, by go_num, hL', HOz, HCz⟩
              case measure => simp [intOf]; omega
          obtain ⟨be, qe, p, oo, f, mm, gg, ss, hAe, hbe, HE, hme, y0, y1, y2, y3, y4, y5⟩ := (HLE.out.calm hq.out).get hjl
          subst hAe
          have HLA : Hid (lateOf (bb.E.take (j + 1)) = max (lateOf (bb.E.take j)) (lastOf mm gg)) := show _ = _ by unfold lateOf; rw [lasts_take HE.out, gMax_snoc]; rfl
          have HSP : Hid (bb.S ++ (bb.E.take (j + 1)).map El.sp = (bb.S ++ (bb.E.take j).map El.sp) ++ [⟨p, oo, f, mm⟩]) := show _ = _ by
            rw [List.take_succ_eq_append_getElem hjl, List.map_append, (List.getElem?_eq_some_iff.1 HE.out).2, List.append_assoc]; rfl
          have hE32 := HBL.out.e
          have hlen : (bb.S ++ (bb.E.take j).map El.sp).length ≤ 1000000 := by
            have a := HBL.out.s; have b := HBL.out.e
            rw [List.length_append, List.length_map, List.length_take]; omega
          have hz := (Calm.refl wr).alloc (.cells #[.int .i64 p, .int .i64 oo, .int .i64 f, .int .i64 mm, .int .i64 gg, .string ss] 37)
          have hxe := heap_new wr (.cells #[.int .i64 p, .int .i64 oo, .int .i64 f, .int .i64 mm, .int .i64 gg, .string ss] 37)
          generalize lateOf (bb.E.take j) = la at HLA ⊢
          go_wp2_with (first
            | (go_at_call 34; (with_reducible refine (refLast_any _ _ _ _ _ _ _).mono ?_); rintro e w1 ⟨rfl, hb1⟩; replace hz := hz.call hb1; replace hxe := (hb1.block (row6 hxe).2.2.2.2.2.2).trans hxe; clear hb1; obtain ⟨r0, r1, r2, r3, r4, r5, hrs⟩ := row6 hxe)
            | (go_at_call 9; (with_reducible refine (refSpot_any _ _ _ _ _ _ _).mono ?_); rintro e w2 ⟨rfl, hb2⟩; replace hz := hz.call hb2; clear hb2)
            | (at_builtin; refine wpList_append_sAt rfl _ _ rfl wc.heap.size _ _ rfl (rows_calm ho.out (hz.alloc _)) _ _ ⟨p, oo, f, mm⟩ _ rfl (heap_new _ _) hlen ((hq.out.call hz).alloc _).size ?_; intro v9 w9 ho9 hg9 hat9; have hC9 := Below.grown ((hq.out.call hz).alloc _) hg9 ((hq.out.call hz).alloc _).size (fun k hk => (rows_lt ho.out k hk).1); rw [← HSP.out] at ho9))
          have HO9 := Lib.hid ho9
          have HC9 := Lib.hid hC9
          clear ho9 hC9 hg9 hat9
          go_roundw
          case rel => exact ⟨j + 1, by omega, by go_num, by (rw [HLA.out, Int.max_def]) <;> (congr 1 <;> (split <;> split <;> omega)), HO9, HC9⟩
          case measure => simp [intOf]; omega
open Go.RowKit
theorem look_any (root : Int) (A : Option Addr) (c : Nat) (l : List Nd) (hok : NdsOk l) (hl4 : l.length ≤ 400) : ∀ (m : Nat) (_ : m ≤ 12) (x : Int) (w : World) (_ : TrAt w A l),
  Calls Tryz.prog 16 #[.agg #[.int .i64 root, .slice A l.length c], .int .i64 x, .int .i64 (m : Int)] w (LookEnd l m x w)
 | 0, _, x, w, h => look_bad root A c l 0 x w hl4 h (.inl rfl)
 |m + 1, hm, x, w, h => by
  cases hn : ndOf l x with
  |none => exact look_bad root A c l (m + 1) x w hl4 h (.inr (.inl hn))
  |some n =>
   by_cases hk : n.kd = 0
   ·exact look_bad root A c l (m + 1) x w hl4 h (.inr (.inr ⟨n, hn, hk⟩))
   ·obtain ⟨i1, -, -⟩ := nd_of_in hn
    obtain ⟨X, rfl⟩ : ∃ X : Nat, x = (X : Int) := ⟨x.toNat, by omega⟩
    exact look_main root A c l hok m (by omega) (fun y u hu => look_any root A c l hok hl4 m (by omega) y u hu) X n hn hk w h
def RefEnd (l : List Nd) (root : Int) (w : World) (e : Ending) (w' : World) : Prop :=
 ∃ v, e = .returned (.tuple #[v, .int .i64 (if treeErr l root = 0 then (depthOf l root : Int) else 0), .int .i64 (treeErr l root)]) ∧ OwnR w.heap.size w' v (if treeErr l root = 0 then allOf l root else []) ∧ Calm w w'
theorem RefEnd.bad {l : List Nd} {root : Int} {w w' : World} {E : Int} (h : treeErr l root = E) (h0 : E ≠ 0) (hc : Calm w w') : RefEnd l root w (.returned (.tuple #[.slice none 0 0, .int .i64 0, .int .i64 E])) w' := by
 have h1 : ¬ treeErr l root = 0 := by rw [h]; exact h0
 refine ⟨.slice none 0 0, by rw [if_neg h1, h], ?_, hc⟩
 rw [if_neg h1]; exact OwnR.nil _ _
theorem used_take {l : List Nd} {k : Nat} {n : Nd} (h : l[k]? = some n) : (l.take (k + 1)).countP (fun n => decide (n.kd ≠ 0)) = (l.take k).countP (fun n => decide (n.kd ≠ 0)) + (if n.kd ≠ 0 then 1 else 0) := by
 obtain ⟨hk, he⟩ := List.getElem?_eq_some_iff.1 h
 rw [List.take_succ_eq_append_getElem hk, List.countP_append, he, List.countP_singleton]
 simp
set_option maxHeartbeats 8000000 in
theorem refTree_any (root : Int) (A : Option Addr) (c : Nat) (l : List Nd) (w : World) (h : TrAt w A l) (hcap : ∀ n ∈ l, n.E.length ≤ n.c1) (hszd : ∀ n ∈ l, NdSized n) :
    Calls Tryz.prog 5 #[.agg #[.int .i64 root, .slice A l.length c]] w (RefEnd l root w) := by
  have hx := heap_new w (.cells #[.int .i64 root, .slice A l.length c] 24)
  have hu := (Calm.refl w).alloc (.cells #[.int .i64 root, .slice A l.length c] 24)
  have HT := Lib.hid h
  have hln := h.len
  have HC := Lib.hid hcap
  have HSZ := Lib.hid hszd
  clear h hcap hszd
  by_cases hlg : 400 < l.length
  · have hE : Hid (∀ w', Calm w w' → RefEnd l root w (.returned (.tuple #[.slice none 0 0, .int .i64 0, .int .i64 2])) w') := show ∀ _, _ from fun w' => RefEnd.bad (treeErr_large hlg) (by decide)
    have hli : (l.length : Int) > 400 := by omega
    go_enter Tryz.func5, Tryz.ntmps5
    go_wp2_with fail
    go_ret3
    exact hE.out _ hu
  have hli : ¬ (l.length : Int) > 400 := by omega
  have hlr : Hid (l.length ≤ 400) := show _ ≤ _ by omega
  clear hlg
  go_enter Tryz.func5, Tryz.ntmps5
  go_wp2_with fail
  go_loopw [5, 18] (fun u i wr => ∃ k : Nat, k ≤ l.length ∧ i = .int .i64 k ∧ u = .int .i64 (((l.take k).countP (fun n => decide (n.kd ≠ 0)) : Nat) : Int) ∧ Calm (w.alloc (.cells #[.int .i64 root, .slice A l.length c] 24)) wr ∧ Hid (∀ i, i < k → ndAtErr l i = 0)) (fun _ i _ => l.length - (intOf i).toNat)
  case atStart => exact ⟨0, Nat.zero_le _, rfl, rfl, Calm.refl _, show ∀ _, _ from fun i hi => absurd hi (Nat.not_lt_zero _)⟩
  case round =>
    obtain ⟨k, hk, rfl, rfl, hv, hN⟩ := hrel
    have hx1 := (hv.block (by simp)).trans hx
    have hv0 := hu.call hv
    have hT1 := Lib.hid (HT.out.calm hv0)
    obtain ⟨x0, x1, hxs⟩ := rowT hx1
    have hu4 : (l.take k).countP (fun n => decide (n.kd ≠ 0)) ≤ 400 := Nat.le_trans List.countP_le_length (by rw [List.length_take]; have := hlr.out; omega)
    by_cases hlt : k < l.length
    · obtain ⟨b, q, kd, A1, A2, A3, A4, c1, c2, c3, c4, E, K, S, T, hA, hb, HN, HA, n0, n1, n2, n3, n4⟩ := hT1.out.get hlt
      cases hA
      have hat : Hid (ndAtErr l k = ndErr kd E K S T) := by show _ = _; unfold ndAtErr; rw [HN.out]
      have hcp := HC.out _ (List.mem_of_getElem? HN.out)
      obtain ⟨s1, s2, s3, s4⟩ := HSZ.out _ (List.mem_of_getElem? HN.out)
      simp only at hcp s1 s2 s3 s4
      have hUT : Hid ((l.take (k + 1)).countP (fun n => decide (n.kd ≠ 0)) = (l.take k).countP (fun n => decide (n.kd ≠ 0)) + (if kd ≠ 0 then 1 else 0)) := used_take HN.out
      generalize (l.take k).countP (fun n => decide (n.kd ≠ 0)) = U at hu4 hUT ⊢
      have cN := fun u (hu : Calm wr u) => refNode_any kd A1 A2 A3 A4 c1 c2 c3 c4 E K S T u (HA.out.calm hu) hcp (by omega) (by omega) (by omega) (by omega)
      clear hcp s1 s2 s3 s4
      have hnb := heap_new wr (.cells #[.int .i64 kd, .slice A1 E.length c1, .slice A2 K.length c2, .slice A3 S.length c3, .slice A4 T.length c4] 55)
      by_cases hz : ndErr kd E K S T = 0
      · have hN1 : Hid (∀ i, i < k + 1 → ndAtErr l i = 0) := show ∀ _, _ from fun i hi => by
          rcases Nat.lt_or_ge i k with h2 | h2
          · exact hN.out i h2
          · obtain rfl : i = k := by omega
            rw [hat.out, hz]
        rw [hz] at cN
        clear hz hat
        by_cases hkd : kd = 0
        · subst hkd
          have hU1 : Hid (U = (l.take (k + 1)).countP (fun n => decide (n.kd ≠ 0))) := show _ = _ by rw [hUT.out]; simp
          go_wp2_with (go_at_call 15; (with_reducible refine (cN _ ((Calm.refl _).alloc _)).mono ?_); rintro e w1 ⟨rfl, hb1⟩; have hv1 := (hv.alloc _).call hb1; have hnb1 := (hb1.block (row5 hnb).2.2.2.2.2).trans hnb; obtain ⟨m0, m1, m2, m3, m4, hms⟩ := row5 hnb1; clear hb1)
          go_roundw
          case rel => exact ⟨k + 1, by omega, by go_num, by rw [← hU1.out], hv1, hN1⟩
          case measure => simp [intOf]; omega
        · have hkb : (kd != 0) = true := by rw [bne_iff_ne]; exact hkd
          have hU1 : Hid (U + 1 = (l.take (k + 1)).countP (fun n => decide (n.kd ≠ 0))) := show _ = _ by rw [hUT.out, if_pos hkd]
          go_wp2_with (go_at_call 15; (with_reducible refine (cN _ ((Calm.refl _).alloc _)).mono ?_); rintro e w1 ⟨rfl, hb1⟩; have hv1 := (hv.alloc _).call hb1; have hnb1 := (hb1.block (row5 hnb).2.2.2.2.2).trans hnb; obtain ⟨m0, m1, m2, m3, m4, hms⟩ := row5 hnb1; clear hb1)
          go_roundw
          case rel => exact ⟨k + 1, by omega, by go_num, by rw [← hU1.out]; go_num, hv1, hN1⟩
          case measure => simp [intOf]; omega
      · have hR : Hid (∀ w', Calm w w' → RefEnd l root w (.returned (.tuple #[.slice none 0 0, .int .i64 0, .int .i64 (ndErr kd E K S T)])) w') := show ∀ _, _ from fun w' => RefEnd.bad (by
          have e1 := firstErr_at (f := ndAtErr l) (n := l.length) hN.out (by rw [hat.out]; exact hz) hlt
          rw [hat.out] at e1
          have e2 : nodesErr l = ndErr kd E K S T := e1
          rw [treeErr_node hlr.out (by rw [e2]; exact hz), e2]) hz
        have b1 : (ndErr kd E K S T != 0) = true := by rw [bne_iff_ne]; exact hz
        generalize ndErr kd E K S T = R at cN hR b1
        clear hz hat
        go_wp2_with (go_at_call 15; (with_reducible refine (cN _ ((Calm.refl _).alloc _)).mono ?_); rintro e w1 ⟨rfl, hb1⟩; have hv1 := hu.call ((hv.alloc _).call hb1); clear hb1)
        go_ret3
        exact hR.out _ hv1
    have hkk : k = l.length := by omega
    have hUu : (l.take k).countP (fun n => decide (n.kd ≠ 0)) = usedOf l := by rw [hkk, List.take_length]; rfl
    rw [hUu] at hu4 ⊢
    clear hUu
    have hnz : Hid (nodesErr l = 0) := show nodesErr l = 0 from firstErr_zero.2 fun i hi => hN.out i (by omega)
    have hok : Hid (NdsOk l) := nodesErr_zero.1 hnz.out
    have hli2 : ¬ (k : Int) < (l.length : Int) := by omega
    have hform : Hid (treeErr l root ≠ 0 → ∀ w', Calm w w' → RefEnd l root w (.returned (.tuple #[.slice none 0 0, .int .i64 0, .int .i64 3])) w') := show _ → ∀ _, _ from fun h w' => RefEnd.bad (treeErr_form hlr.out hnz.out fun hG => h (treeErr_good hlr.out hnz.out hG)) (by decide)
    have hrg : Hid (treeErr l root = 0 → lookR l 12 root = some (beneathD l (depthOf l root) root) ∧ (nodesD l (depthOf l root) root).length = usedOf l ∧ (nodesD l (depthOf l root) root).Nodup) := show _ → _ from fun h => ref_good h
    have hgr : Hid (∀ b, lookR l 12 root = some b → b.N.length = usedOf l → b.N.Nodup → treeErr l root = 0) := show ∀ _, _ from fun b h1 h2 h3 => good_ref hlr.out hok.out h1 h2 h3
    have hll : Hid (∀ b, lookR l 12 root = some b → BnLe b 12) := show ∀ _, _ from fun b h1 => look_len hok.out h1
    have cL : ∀ u, Calm wr u → Calls Tryz.prog 16 #[.agg #[.int .i64 root, .slice A l.length c], .int .i64 root, .int .i64 12] u (LookEnd l 12 root u) := fun u hu => look_any root A c l hok.out hlr.out 12 (Nat.le_refl _) root u (hT1.out.calm hu)
    generalize usedOf l = U at hu4 hrg hgr ⊢
    clear hkk hlt
    cases hlk : lookR l 12 root with
    | none =>
      have hno := Lib.hid hlk
      have hend := Lib.hid (hform.out fun h0 => by have := (hrg.out h0).1; rw [hlk] at this; cases this)
      clear hlk hform hrg hgr hll
      go_upto_region 14 with (go_at_call 16; (with_reducible refine (cL _ (Calm.refl _)).mono ?_); rintro e w5 ⟨hc5, hcase⟩; obtain ⟨-, rfl⟩ : _ ∧ e = _ := (hcase.elim id fun ⟨b, _, _, _, h9, _⟩ => by rw [hno.out] at h9; cases h9); clear hcase; unfold bnZ)
      have hc7 := hv0.call (hc5.alloc (.cells #[.slice none 0 0, .slice none 0 0, .int .i64 0, .slice none 0 0] 58))
      go_wp2_with fail
      go_ret3
      exact hend.out _ hc7
    | some bb =>
      have hno := Lib.hid hlk
      have HBL := Lib.hid (hll.out bb hlk)
      clear hlk hll
      have hw0 : Hid (w.heap.size ≤ wr.heap.size) := hv0.size
      go_upto_region 14 with (go_at_call 16; (with_reducible refine (cL _ (Calm.refl _)).mono ?_); rintro e w5 ⟨hc5, hcase⟩; obtain ⟨v1, v2, v3, rfl, hB⟩ : ∃ v1 v2 v3, e = .returned (.tuple #[.agg #[v1, v2, .int .i64 bb.D, v3], .bool true]) ∧ Own3 wr.heap.size w5 v1 v2 v3 bb.E bb.S bb.N := hcase.elim (fun h9 => absurd (h9.1.symm.trans hno.out) (by simp)) (fun ⟨b', v1, v2, v3, h9, h10, h11⟩ => ⟨v1, v2, v3, (by rw [Option.some.inj (h9.symm.trans hno.out)] at h10; exact h10), (by rw [Option.some.inj (h9.symm.trans hno.out)] at h11; exact h11)⟩); clear hcase; obtain ⟨p2, r2, g2⟩ := hB.e.slice; obtain ⟨p5, r5, g5⟩ := hB.s.slice; obtain ⟨p7, r7, g7⟩ := hB.n.slice; subst g2; subst g5; subst g7)
      have hc6 := hc5.alloc (.cells #[.slice p2 bb.E.length r2, .slice p5 bb.S.length r5, .int .i64 bb.D, .slice p7 bb.N.length r7] 58)
      have hbx := heap_new w5 (.cells #[.slice p2 bb.E.length r2, .slice p5 bb.S.length r5, .int .i64 bb.D, .slice p7 bb.N.length r7] 58)
      have HB6 := Lib.hid (hB.calm ((Calm.refl w5).alloc (.cells #[.slice p2 bb.E.length r2, .slice p5 bb.S.length r5, .int .i64 bb.D, .slice p7 bb.N.length r7] 58)))
      have hn5 : Hid (∀ k, (Value.slice p7 bb.N.length r7).ownBlock = some k → wr.heap.size ≤ k ∧ k < w5.heap.size) := show ∀ _, _ from fun k hk => hB.n.lt k hk
      have hne : Hid ((Value.slice p7 bb.N.length r7).ownBlock ≠ some w5.heap.size) := show _ ≠ _ from fun hk => by have := (hn5.out _ hk).2; omega
      generalize w5.alloc (.cells #[.slice p2 bb.E.length r2, .slice p5 bb.S.length r5, .int .i64 bb.D, .slice p7 bb.N.length r7] 58) = w6 at hc6 hbx HB6 ⊢
      obtain ⟨t0, t1, t2, t3, hts⟩ := row4 hbx
      clear hB x0 x1 hxs
      by_cases hnu : bb.N.length = U
      rotate_left
      · have hend := Lib.hid (hform.out fun h0 => by
          obtain ⟨h1, h2, -⟩ := hrg.out h0
          have h3 := Option.some.inj (hno.out.symm.trans h1)
          exact hnu (by rw [h3]; exact h2))
        have hni : ((bb.N.length : Int) != (U : Int)) = true := by rw [bne_iff_ne]; omega
        clear hform hrg hgr
        have hc7 := hv0.call hc6
        go_wp2_with fail
        go_ret3
        exact hend.out _ hc7
      have hn1 : 0 < bb.N.length := by
        obtain ⟨d, h0, -, hs, h3, -⟩ := of_look hok.out 12 root bb hno.out
        cases d with
        | zero => omega
        | succ d =>
          obtain ⟨n, hn, -⟩ := hs
          have h4 : bb.N = nodesD l (d + 1) root := by rw [h3]; rfl
          rw [h4, nodesD, hn]
          simp
      subst hnu
      have hn4 := HBL.out.n
      have hn4' : bb.N.length ≤ 1000000 := by omega
      have hfin : Hid (bb.N.Nodup → ∀ w', OwnR w.heap.size w' (.slice p2 bb.E.length r2) bb.E → Calm w w' → RefEnd l root w (.returned (.tuple #[.slice p2 bb.E.length r2, .int .i64 bb.D, .int .i64 0])) w') := show _ → ∀ _, _ from fun hd w' ho hc => by
        have h0 := hgr.out bb hno.out rfl hd
        have hb := Option.some.inj (hno.out.symm.trans (hrg.out h0).1)
        refine ⟨.slice p2 bb.E.length r2, ?_, ?_, hc⟩
        · rw [if_pos h0, h0, show (depthOf l root : Int) = bb.D by rw [hb]; rfl]
        · rw [if_pos h0, show allOf l root = bb.E by rw [hb]; rfl]
          exact ho
      have hend : Hid (¬ bb.N.Nodup → ∀ w', Calm w w' → RefEnd l root w (.returned (.tuple #[.slice none 0 0, .int .i64 0, .int .i64 3])) w') := show _ → _ from fun hd => hform.out fun h0 => by
        obtain ⟨h1, -, h2⟩ := hrg.out h0
        have h3 := Option.some.inj (hno.out.symm.trans h1)
        exact hd (by rw [h3]; exact h2)
      clear hform hrg hgr
      have HX7 := Lib.hid hbx
      have cO := sort_any wr.heap.size (.slice p7 bb.N.length r7) bb.N w6 HB6.out.n hn1 hn4'
      clear hbx
      by_cases hcl : (Lib.compact (sortI bb.N)).length = bb.N.length
      · have HCL := Lib.hid hcl
        have hend := Lib.hid (hfin.out ((sortI_perm bb.N).nodup_iff.1 ((compact_len (sortI_sorted bb.N)).1 (by rw [sortI_len]; exact hcl))))
        clear hcl hfin
        go_wp2_with first
          | (go_at_call 17; (with_reducible refine cO.mono ?_); rintro e w8 ⟨rfl, hs8, hg8⟩; have HS8 := Lib.hid hs8; have HG8 := Lib.hid hg8; clear hs8 hg8 t0 t1 t2 t3 hts; have hbx8 := (HG8.out.block _ (Array.getElem?_eq_some_iff.1 HX7.out).1 (Ne.symm hne.out)).trans HX7.out; obtain ⟨t0, t1, t2, t3, hts⟩ := row4 hbx8; have HX8 := Lib.hid hbx8; clear hbx8; have cP := compact_any wr.heap.size (.slice p7 bb.N.length r7) (sortI bb.N) w8 HS8.out (by rw [sortI_len]; exact hn1) (by rw [sortI_len]; exact hn4'); rw [HCL.out] at cP)
          | (go_at_call 18; (with_reducible refine cP.mono ?_); rintro e w9 ⟨A9, c9, rfl, hg9⟩; have HG9 := Lib.hid hg9; clear hg9 t0 t1 t2 t3 hts; have hbx9 := (HG9.out.block _ (Array.getElem?_eq_some_iff.1 HX8.out).1 (Ne.symm hne.out)).trans HX8.out; obtain ⟨t0, t1, t2, t3, hts⟩ := row4 hbx9; have HX9 := Lib.hid hbx9; clear hbx9)
        have hc9 : Calm w w9 := (Below.grown (Below.grown (hv0.call hc6) HG8.out (Calm.size (hv0.call hc6)) (fun k hk => Nat.le_trans hw0.out (hn5.out k hk).1)) HG9.out (Nat.le_trans (Calm.size (hv0.call hc6)) HG8.out.size) (fun k hk => Nat.le_trans hw0.out (hn5.out k hk).1))
        have ho9 := (rows_away (rows_away HB6.out.e HG8.out HB6.out.en.symm) HG9.out HB6.out.en.symm)
        have HO9 : Hid (OwnR w.heap.size w9 (.slice p2 bb.E.length r2) bb.E) := show OwnR _ _ _ _ from rows_weaken ho9 hw0.out
        clear ho9
        go_upto_region 19 with fail
        refine wp_region_plan [.val (.pointer (some ⟨w5.heap.size, 0, none⟩)), .val (.slice p2 bb.E.length r2), .val (.pointer (some ⟨w5.heap.size, 2, none⟩)), .val (.int .i64 (bb.D)), .val (.slice p2 bb.E.length r2), .val (.int .i64 (bb.D)), .val (.int .i64 (0))] (by kernel_rfl) (by kernel_rfl) (by kernel_rfl) ?_
        intro X
        iterate 7
          refine plan_val (by kernel_rfl) (fun u hu => ?_) ?_
          · obtain ⟨hc, hf, hz⟩ := hu.of_drew.facts
            go_simp
          simp only [Act.put, List.setIfInBounds_toArray, List.set_cons_zero, List.set_cons_succ, Nat.reduceAdd]
        refine plan_end ?_
        intro w' hB
        have hk := hB.calm.of_drew
        clear hB
        go_wp2_with fail
        go_ret3
        exact hend.out _ (rows_calm HO9.out hk) (hc9.call hk)
      · have hnd : ¬ bb.N.Nodup := fun hd => hcl (by rw [(compact_len (sortI_sorted bb.N)).2 ((sortI_perm bb.N).nodup_iff.2 hd), sortI_len])
        have hend := Lib.hid (hend.out hnd)
        obtain ⟨Z, hZ⟩ : ∃ Z, (Lib.compact (sortI bb.N)).length = Z := ⟨_, rfl⟩
        have HCL := Lib.hid hZ
        have hni : ((Z : Int) != (bb.N.length : Int)) = true := by rw [bne_iff_ne]; omega
        clear hcl hfin hZ hnd
        go_wp2_with first
          | (go_at_call 17; (with_reducible refine cO.mono ?_); rintro e w8 ⟨rfl, hs8, hg8⟩; have HS8 := Lib.hid hs8; have HG8 := Lib.hid hg8; clear hs8 hg8 t0 t1 t2 t3 hts; have hbx8 := (HG8.out.block _ (Array.getElem?_eq_some_iff.1 HX7.out).1 (Ne.symm hne.out)).trans HX7.out; obtain ⟨t0, t1, t2, t3, hts⟩ := row4 hbx8; have HX8 := Lib.hid hbx8; clear hbx8; have cP := compact_any wr.heap.size (.slice p7 bb.N.length r7) (sortI bb.N) w8 HS8.out (by rw [sortI_len]; exact hn1) (by rw [sortI_len]; exact hn4'); rw [HCL.out] at cP)
          | (go_at_call 18; (with_reducible refine cP.mono ?_); rintro e w9 ⟨A9, c9, rfl, hg9⟩; have HG9 := Lib.hid hg9; clear hg9 t0 t1 t2 t3 hts; have hbx9 := (HG9.out.block _ (Array.getElem?_eq_some_iff.1 HX8.out).1 (Ne.symm hne.out)).trans HX8.out; obtain ⟨t0, t1, t2, t3, hts⟩ := row4 hbx9; have HX9 := Lib.hid hbx9; clear hbx9)
        have hc9 : Calm w w9 := (Below.grown (Below.grown (hv0.call hc6) HG8.out (Calm.size (hv0.call hc6)) (fun k hk => Nat.le_trans hw0.out (hn5.out k hk).1)) HG9.out (Nat.le_trans (Calm.size (hv0.call hc6)) HG8.out.size) (fun k hk => Nat.le_trans hw0.out (hn5.out k hk).1))
        go_ret3
        exact hend.out _ hc9
open Go.RowKit
theorem ok_sized {l : List Nd} (hok : NdsOk l) : ∀ n ∈ l, NdSized n := fun n hn => by
 obtain ⟨h1, h2, h3, h4, -, -⟩ := nd_sizes (hok n hn)
 unfold NdSized; omega
theorem TOwn.caps {B : Nat} {w : World} {v : Value} {l : List Nd} (h : TOwn B w v l) : ∀ n ∈ l, n.E.length ≤ n.c1 := fun n hn => by
 obtain ⟨i, hi⟩ := List.getElem?_of_mem hn
 have g := h.nd i n hi
 obtain ⟨A, c, e, h1, -⟩ := g.e.lies g.we
 injection e with _ _ e3
 rw [e3]; exact h1
theorem TreeIs.calm {l : List Nd} {root : Int} {A : Option Addr} {c : Nat} {D E : Int} {L : List El} {w w' : World} (h : TreeIs l root A c D E L w) (hb : Calm w w') : TreeIs l root A c D E L w' := fun u hu => h u (hb.call hu)
theorem TOwn.treeIs {B : Nat} {w : World} {A : Option Addr} {c : Nat} {l : List Nd} {root : Int} (h : TOwn B w (.slice A l.length c) l) (hz : treeErr l root = 0) : ∃ D, TreeIs l root A c D 0 (allOf l root) w := by
 have hg := tree_good hz
 refine ⟨(depthOf l root : Int), fun u hu => ?_⟩
 have h1 := refTree_any root A c l u ((h.at_ (by have := hg.1; omega)).calm hu) h.caps (ok_sized hg.2.1)
 refine h1.mono fun e w' he => ?_
 unfold RefEnd at he
 rw [if_pos hz, if_pos hz, hz] at he
 exact he
structure TreeOk (B : Nat) (w : World) (root : Int) (A : Option Addr) (c : Nat) (l : List Nd) (L : List El) : Prop where
 own : TOwn B w (.slice A l.length c) l
 err : treeErr l root = 0
 all : allOf l root = L
theorem TreeOk.is {B : Nat} {w : World} {root : Int} {A : Option Addr} {c : Nat} {l : List Nd} {L : List El} (h : TreeOk B w root A c l L) : ∃ D, TreeIs l root A c D 0 L w := by
 obtain ⟨D, hD⟩ := h.own.treeIs h.err
 rw [h.all] at hD
 exact ⟨D, hD⟩
theorem Calm.sixE {a w : World} (h : Calm a w) {g : Nat} (hg : a.heap.size ≤ g) (o : Nat) (b0 b1 b2 b3 b4 b5 : Value) : Calm a (World.sixE w g o b0 b1 b2 b3 b4 b5) :=
 (((((h.setCell (p := ⟨g, o, none⟩) hg b0).setCell (p := ⟨g, o + 1, none⟩) hg b1).setCell (p := ⟨g, o + 2, none⟩) hg b2).setCell (p := ⟨g, o + 3, none⟩) hg b3).setCell (p := ⟨g, o + 4, none⟩) hg b4).setCell (p := ⟨g, o + 5, none⟩) hg b5
open Go.RowKit
theorem zerosE_one (m : Nat) : ∀ u ∈ (Builtin.zeroCells #[Value.int .i64 0, .int .i64 0, .int .i64 0, .int .i64 0, .int .i64 0, .string { data := #[] }] m).toList, u.oneCell' = true := by
 intro u hu
 simp only [Builtin.zeroCells, Array.toList_map, List.mem_map] at hu
 obtain ⟨i, _, rfl⟩ := hu
 have h6 : i % 6 < 6 := Nat.mod_lt _ (by omega)
 show (#[Value.int .i64 0, .int .i64 0, .int .i64 0, .int .i64 0, .int .i64 0, .string { data := #[] }][i % 6]!).oneCell' = true
 generalize i % 6 = k at h6
 match k, h6 with
 | 0, _ => rfl
 | 1, _ => rfl
 | 2, _ => rfl
 | 3, _ => rfl
 | 4, _ => rfl
 | 5, _ => rfl
/-- clear(s[x:]) in a row. -/
theorem clear_els (w : World) (g o m : Nat) (cur : List Value) (hg : w.heap[g]? = some (.cells cur.toArray 37 (0, 0))) (hm : 0 < m) (hfit : o + m * 6 ≤ cur.length) :
    ∃ zs : List Value, zs.length = m * 6 ∧ ∀ ty c, (Builtin.clear_ #[32] ty #[.slice (some ⟨g, o, none⟩) m c]).run Tryz.prog w = .ok (.tuple #[]) (w.setRow g (spl cur o zs).toArray) := by
  obtain ⟨zs, hzs⟩ : ∃ zs, (Builtin.zeroCells (Value.agg #[Value.int .i64 0, .int .i64 0, .int .i64 0, .int .i64 0, .int .i64 0, .string { data := #[] }]).cells m).toList = zs := ⟨_, rfl⟩
  have hl : zs.length = m * 6 := by rw [← hzs]; show (Builtin.zeroCells #[Value.int .i64 0, .int .i64 0, .int .i64 0, .int .i64 0, .int .i64 0, .string { data := #[] }] m).toList.length = _; simp [Builtin.zeroCells]
  have h1 : ∀ u ∈ zs, u.oneCell' = true := by rw [← hzs]; exact zerosE_one m
  have hst := run_storeCells_at Tryz.prog g o 37 zs 0 cur.toArray w hg (by rw [hl]; simpa using hfit) h1
  refine ⟨zs, hl, fun ty c => ?_⟩
  obtain ⟨m', rfl⟩ : ∃ m', m = m' + 1 := ⟨m - 1, by omega⟩
  simp [Builtin.clear_, run_underlying Tryz.underlying32, hzs, hst, spl]
set_option maxHeartbeats 8000000 in
theorem deleteQ_any (base B : Nat) (v : Value) (l : List El) (p' o' f' m' : Int) (w0 w : World) (hl4 : l.length ≤ 100000) (hwf : ∀ e ∈ l, e.wf) (ho : OwnR base w v l) (h0 : w0.heap.size ≤ base) (hC : Calm w0 w) (hB : SBox B p' o' f' m' w0) :
    Calls Tryz.prog 6 #[v, .func (.func 8) #[] #[.pointer (some ⟨B, 0, none⟩)]] w fun e w' => ∃ v', e = .returned v' ∧ OwnR base w' v' (delQ l (isSp ⟨p', o', f', m'⟩)) ∧ Calm w0 w' := by
  obtain ⟨r, hF⟩ := FIQ_ex l (isSp ⟨p', o', f', m'⟩)
  obtain ⟨A, c, hv, hlc, hc63, hL⟩ := ho.lies hwf
  have cI := indexQ_any B A c l p' o' f' m' r w (by omega) hL (hB.calm hC) hF
  rw [← hv] at cI
  have HO := Lib.hid ho
  rcases hF with ⟨rfl, h2⟩ | ⟨i, hi, rfl, h1, hlt⟩
  · rw [delQ_none h2]
    clear h2 hv hL ho hwf
    go_enter Tryz.func6, Tryz.ntmps6
    go_wp2_with (go_at_call 19; refine cI.mono ?_; rintro e w1 ⟨rfl, hb1⟩)
    go_ret
    exact ⟨_, rfl, HO.out.calm hb1, hC.call hb1⟩
  have hD := DelsQ.first hi h1 hlt
  obtain ⟨g, cap, rfl⟩ := ho.some (by omega)
  have hcap : l.length ≤ cap := (ho.cell hi).2.2.2.2.2
  clear h1 hlt hv hL ho hlc
  have hii : (i : Int) < (l.length : Int) := by omega
  have hi1 : ((i : Int) == -1) = false := by rw [beq_eq_false_iff_ne]; omega
  have hcc : (cap : Int) ≤ 9223372036854775807 := by
    rcases HO.out.2 with ⟨h1, _⟩ | ⟨_, _, _, h1, _, _, _, h2, _⟩
    · cases h1
    · injection h1 with _ _ h3; subst h3; unfold maxLen at h2; omega
  go_enter Tryz.func6, Tryz.ntmps6
  go_wp2_with (go_at_call 19; refine cI.mono ?_; rintro e w1 ⟨rfl, hb1⟩)
  have HD := Lib.hid hD
  clear hD
  go_loopw [5, 6] (fun a b wr => ∃ (x y : Nat) (L : List El), x < y ∧ y ≤ l.length ∧ a = .int .i64 x ∧ b = .int .i64 y ∧ Calm w0 wr ∧ Hid (OwnR base wr (.slice (some ⟨g, 0, none⟩) l.length cap) L) ∧ Hid (DelsQ l (isSp ⟨p', o', f', m'⟩) x y L)) (fun _ b _ => l.length - (intOf b).toNat)
  case atStart => exact ⟨i, i + 1, l, by omega, by omega, rfl, by go_num, hC.call hb1, Lib.hid (HO.out.calm hb1), HD⟩
  case round =>
    obtain ⟨x, y, L, hxy, hy, rfl, rfl, hu, hO, hD⟩ := hrel
    by_cases hlt : y < l.length
    rotate_left
    · obtain rfl : l.length = y := by omega
      have hT := hD.out.end_
      have hxl := hD.out.1
      rcases id hO.out.2 with ⟨h, _⟩ | ⟨g', cap', cur0, hv, hbg, hg0, hnc, hcm, hcs, ht⟩
      · cases h
      injection hv with q1 q2 q3
      injection q1 with q1
      injection q1 with q1
      subst q1; subst q3
      obtain ⟨cur, rfl⟩ : ∃ cur : List Value, cur.toArray = cur0 := ⟨cur0.toList, by simp⟩
      simp only [List.size_toArray] at hcs ht
      obtain ⟨zs, hzl, hcl⟩ := clear_els wr g (x * 6) (l.length - x) cur hg0 (by omega) (by omega)
      have hfin : (wr.setRow g (spl cur (x * 6) zs).toArray).heap[g]? = some (.cells (spl cur (x * 6) zs).toArray 37 (0, 0)) := setRow_heap _ _ _ _ _ _ hg0
      have hdl : (delQ l (isSp ⟨p', o', f', m'⟩)).length = x := by rw [← hT, List.length_take]; omega
      have hE : OwnR base (wr.setRow g (spl cur (x * 6) zs).toArray) (.slice (some ⟨g, 0, none⟩) (delQ l (isSp ⟨p', o', f', m'⟩)).length cap) (delQ l (isSp ⟨p', o', f', m'⟩)) := by
        refine OwnR.row hbg hfin (by omega) hcm (by rw [spl_len (by rw [hzl]; omega)]; omega) ?_
        rw [hdl, ← hT, ← cellsOf_take (by omega), ← ht]
        unfold spl
        rw [List.append_assoc, List.take_append_of_le_length (by rw [List.length_take]; omega), List.take_take, List.take_take]
        congr 1
        omega
      rw [hdl] at hE
      have HE := Lib.hid hE
      have hu2 := hu.setRow (g := g) (by omega) (spl cur (x * 6) zs).toArray
      have hcx : ¬ cap = x := by omega
      have hxc : x ≤ cap := by omega
      have hxi : (x : Int) ≤ (cap : Int) := by omega
      have hxn : (x : Int) ≤ (l.length : Int) := by omega
      have hxn2 : x ≤ l.length := by omega
      clear hT hxl hD hO q2 hg0 hcs ht hzl hfin hdl hE
      go_wp2_with fail
      go_ret
      exact ⟨_, rfl, HE.out, hu2⟩
    obtain ⟨e, he⟩ : ∃ e, l[y]? = some e := ⟨_, List.getElem?_eq_getElem hlt⟩
    obtain ⟨p, o, f, m, gg, s⟩ := e
    have hLl := hD.out.1
    have hyL : y < L.length := by omega
    have hxL : x < L.length := by omega
    have hLy : L[y] = ⟨p, o, f, m, gg, s⟩ := by
      have := hD.out.at_
      rw [he, List.getElem?_eq_getElem hyL] at this
      exact Option.some.inj this
    obtain ⟨⟨c0, c1, c2, c3, c4, c5⟩, hfr, hgb, hgw, -, -⟩ := hO.out.cell hyL
    rw [hLy] at c0 c1 c2 c3 c4 c5
    simp only at c0 c1 c2 c3 c4 c5
    have hP := shrink1_any B p o f m gg s p' o' f' m' (wr.alloc (.cells #[.int .i64 p, .int .i64 o, .int .i64 f, .int .i64 m, .int .i64 gg, .string s] 37)) (hB.calm (hu.alloc _))
    have hP : Calls Tryz.prog 8 (#[.agg #[.int .i64 p, .int .i64 o, .int .i64 f, .int .i64 m, .int .i64 gg, .string s]] ++ #[.pointer (some ⟨B, 0, none⟩)]) (wr.alloc (.cells #[.int .i64 p, .int .i64 o, .int .i64 f, .int .i64 m, .int .i64 gg, .string s] 37)) _ := hP
    have hz := heap_new wr (.cells #[.int .i64 p, .int .i64 o, .int .i64 f, .int .i64 m, .int .i64 gg, .string s] 37)
    cases hk : isSp ⟨p', o', f', m'⟩ ⟨p, o, f, m, gg, s⟩
    · rw [hk] at hP
      have HD2 := Lib.hid (hD.out.keep (by omega) he hk)
      clear hfr hk he hLy hD hLl
      go_wp2_with (go_at_call 8; refine hP.mono ?_; rintro e w2 ⟨rfl, hb2⟩; replace hz := (hb2.block (row6 hz).2.2.2.2.2.2).trans hz; have hu2 := (hu.alloc _).call hb2; have hO2 := Lib.hid (hO.out.calm (((Calm.refl wr).alloc _).call hb2)); clear hb2; obtain ⟨z0, z1, z2, z3, z4, z5, hzs⟩ := row6 hz; obtain ⟨⟨d0, d1, d2, d3, d4, d5⟩, hfr, -, hgw2, -, -⟩ := hO2.out.cell hxL)
      have hO3 := Lib.hid (own_sixE hO2.out hxL ⟨p, o, f, m, gg, s⟩)
      have hu3 := hu2.sixE (g := g) (by omega) (x * 6) (.int .i64 p) (.int .i64 o) (.int .i64 f) (.int .i64 m) (.int .i64 gg) (.string s)
      unfold World.sixE at hO3 hu3
      go_roundw
      case rel => exact ⟨x + 1, y + 1, _, by omega, by omega, by go_num, by go_num, hu3, hO3, HD2⟩
      case measure => simp [intOf]; omega
    · rw [hk] at hP
      have HD2 := Lib.hid (hD.out.skip he hk)
      clear hfr hk he hLy hD hLl
      go_wp2_with (go_at_call 8; refine hP.mono ?_; rintro e w2 ⟨rfl, hb2⟩; have hu2 := (hu.alloc _).call hb2; have hO2 := Lib.hid (hO.out.calm (((Calm.refl wr).alloc _).call hb2)); clear hb2)
      go_roundw
      case rel => exact ⟨x, y + 1, L, by omega, by omega, rfl, by go_num, hu2, hO2, HD2⟩
      case measure => simp [intOf]; omega
open Go.RowKit
def delC (xs : List Value) (p N : Nat) : List Value := xs.take p ++ xs.drop (p + N)
theorem delC_len {xs : List Value} {p N : Nat} (h : p + N ≤ xs.length) : (delC xs p N).length = xs.length - N := by
 unfold delC; rw [List.length_append, List.length_take, List.length_drop]; omega
theorem del_row {cur xs z : List Value} {p q N : Nat} (hx : xs.length = q + N) (hc : cur.take (q + N) = xs) (hp : p ≤ q) (hz : z.length = N) (hs : q + N ≤ cur.length) :
    (spl (spl cur p (xs.drop (p + N))) q z).take q = delC xs p N ∧ (spl (spl cur p (xs.drop (p + N))) q z).length = cur.length := by
  have hl : (xs.drop (p + N)).length = q - p := by rw [List.length_drop]; omega
  have h1 : cur.take p = xs.take p := by rw [← hc, List.take_take]; congr 1; omega
  have hlt : (xs.take p).length = p := by rw [List.length_take]; omega
  have h3 : (spl cur p (xs.drop (p + N))).length = cur.length := spl_len (by omega)
  have h2 : (spl cur p (xs.drop (p + N))).take q = delC xs p N := by
    unfold spl
    rw [h1]
    exact List.take_left' (by rw [List.length_append, hlt, hl]; omega)
  generalize spl cur p (xs.drop (p + N)) = c1 at h2 h3 ⊢
  refine ⟨?_, by rw [spl_len (by omega)]; exact h3⟩
  rw [← h2]
  unfold spl
  rw [List.append_assoc]
  exact List.take_left' (by rw [List.length_take]; omega)
theorem delL_len' {α : Type} {l : List α} {i : Nat} (hi : i < l.length) : (delL l i).length = l.length - 1 := by
 unfold delL; rw [List.length_append, List.length_take, List.length_drop]; omega
theorem cellsOf_delC (l : List El) (i : Nat) (hi : i < l.length) : delC (cellsOf l) (i * 6) 6 = cellsOf (delL l i) := by
 unfold delC delL
 rw [cellsOf_take (by omega), show i * 6 + 6 = (i + 1) * 6 by omega, cellsOf_drop (by omega), cellsOf_app]
theorem iv_delC (l : List Int) (i : Nat) : delC (iv l) i 1 = iv (delL l i) := by
 unfold delC delL iv
 rw [List.map_append, List.map_take, List.map_drop]
theorem sv_delC (l : List Sp) (i : Nat) (hi : i < l.length) : delC (sv l) (i * 4) 4 = sv (delL l i) := by
 unfold delC delL
 rw [sv_take (by omega), show i * 4 + 4 = (i + 1) * 4 by omega, sv_drop (by omega), sv_app]
open Go.RowKit
theorem InsOk.rowE {B : Nat} {w w1 : World} {g gN cN : Nat} {root : Int} {vW : Value} {us : List Nd} {W : List Int} (h : InsOk B w g root (.slice (some ⟨gN, 0, none⟩) us.length cN) vW us W) {x : Nat} {n : Nd} (hx : us[x]? = some n) {m : Nat} {L : List El} {xs : List Value} {e : Ending}
    (hr : RowEnd B 37 6 w (.slice n.A1 n.E.length n.c1) m xs e w1) (hxs : xs = cellsOf L) (hm : L.length = m) (hl : m ≤ 1000000) (hw : ∀ e ∈ L, e.wf) :
    ∃ A c, e = .returned (.slice A m c) ∧ OwnN B w1 (.slice (some ⟨gN, 0, none⟩) us.length cN) us ∧ ∀ w2, Calm w1 w2 → Done B w (w2.setCell ⟨gN, x * 5 + (0 + 1), none⟩ (.slice A m c)) g (.slice (some ⟨gN, 0, none⟩) us.length cN) vW us root (.slice (some ⟨gN, 0, none⟩) us.length cN) vW (us.set x { n with A1 := A, c1 := c, E := L }) W := by
  obtain ⟨v', he, ho, hg, hfr⟩ := hr
  obtain ⟨A, c, rfl⟩ := rows_slice ho
  obtain ⟨hap, hout⟩ := h.apart hx
  subst hm
  rw [hxs] at ho
  have ho' : OwnR B w1 (.slice A L.length c) L := ho
  refine ⟨A, c, he, ?_⟩
  refine h.halfRow hx (j := 0) (by decide) hg (fun k hk => ?_) (fun j' hj' => ?_) (NdO.reE (h.t.nd x n hx) hap hg (fun j k hk => (hout j k hk).2.2.2) ho' hw hl) (by unfold Nd.cells; simp only [List.set_cons_zero, List.set_cons_succ])
  · have hk' : (Value.slice A L.length c).ownBlock = some k := hk
    rcases hfr with h4 | ⟨k', h4, h5⟩
    · exact .inl (h4.symm.trans hk')
    · rw [h4] at hk'; injection hk' with hk'; exact .inr (by omega)
  · match j', hj' with
    | 0, hj' => exact absurd rfl hj'
    | 1, hj' => rfl
    | 2, hj' => rfl
    | 3, hj' => rfl
    | j + 4, _ => rfl
theorem InsOk.rowK {B : Nat} {w w1 : World} {g gN cN : Nat} {root : Int} {vW : Value} {us : List Nd} {W : List Int} (h : InsOk B w g root (.slice (some ⟨gN, 0, none⟩) us.length cN) vW us W) {x : Nat} {n : Nd} (hx : us[x]? = some n) {m : Nat} {L : List Int} {xs : List Value} {e : Ending}
    (hr : RowEnd B 3 1 w (.slice n.A2 n.K.length n.c2) m xs e w1) (hxs : xs = iv L) (hm : L.length = m) (hl : m ≤ 1000000) :
    ∃ A c, e = .returned (.slice A m c) ∧ OwnN B w1 (.slice (some ⟨gN, 0, none⟩) us.length cN) us ∧ ∀ w2, Calm w1 w2 → Done B w (w2.setCell ⟨gN, x * 5 + (1 + 1), none⟩ (.slice A m c)) g (.slice (some ⟨gN, 0, none⟩) us.length cN) vW us root (.slice (some ⟨gN, 0, none⟩) us.length cN) vW (us.set x { n with A2 := A, c2 := c, K := L }) W := by
  obtain ⟨v', he, ho, hg, hfr⟩ := hr
  obtain ⟨A, c, rfl⟩ := rows_slice ho
  obtain ⟨hap, hout⟩ := h.apart hx
  subst hm
  rw [hxs] at ho
  have ho' : OwnI B w1 (.slice A L.length c) L := ho
  refine ⟨A, c, he, ?_⟩
  refine h.halfRow hx (j := 1) (by decide) hg (fun k hk => ?_) (fun j' hj' => ?_) (NdO.reK (h.t.nd x n hx) hap hg (fun j k hk => (hout j k hk).2.2.2) ho' hl) (by unfold Nd.cells; simp only [List.set_cons_zero, List.set_cons_succ])
  · have hk' : (Value.slice A L.length c).ownBlock = some k := hk
    rcases hfr with h4 | ⟨k', h4, h5⟩
    · exact .inl (h4.symm.trans hk')
    · rw [h4] at hk'; injection hk' with hk'; exact .inr (by omega)
  · match j', hj' with
    | 0, hj' => rfl
    | 1, hj' => exact absurd rfl hj'
    | 2, hj' => rfl
    | 3, hj' => rfl
    | j + 4, _ => rfl
theorem InsOk.rowS {B : Nat} {w w1 : World} {g gN cN : Nat} {root : Int} {vW : Value} {us : List Nd} {W : List Int} (h : InsOk B w g root (.slice (some ⟨gN, 0, none⟩) us.length cN) vW us W) {x : Nat} {n : Nd} (hx : us[x]? = some n) {m : Nat} {L : List Sp} {xs : List Value} {e : Ending}
    (hr : RowEnd B 28 4 w (.slice n.A3 n.S.length n.c3) m xs e w1) (hxs : xs = sv L) (hm : L.length = m) (hl : m ≤ 1000000) (hw : ∀ s ∈ L, -9223372036854775808 ≤ s.m) :
    ∃ A c, e = .returned (.slice A m c) ∧ OwnN B w1 (.slice (some ⟨gN, 0, none⟩) us.length cN) us ∧ ∀ w2, Calm w1 w2 → Done B w (w2.setCell ⟨gN, x * 5 + (2 + 1), none⟩ (.slice A m c)) g (.slice (some ⟨gN, 0, none⟩) us.length cN) vW us root (.slice (some ⟨gN, 0, none⟩) us.length cN) vW (us.set x { n with A3 := A, c3 := c, S := L }) W := by
  obtain ⟨v', he, ho, hg, hfr⟩ := hr
  obtain ⟨A, c, rfl⟩ := rows_slice ho
  obtain ⟨hap, hout⟩ := h.apart hx
  subst hm
  rw [hxs] at ho
  have ho' : OwnS B w1 (.slice A L.length c) L := ho
  refine ⟨A, c, he, ?_⟩
  refine h.halfRow hx (j := 2) (by decide) hg (fun k hk => ?_) (fun j' hj' => ?_) (NdO.reS (h.t.nd x n hx) hap hg (fun j k hk => (hout j k hk).2.2.2) ho' hw hl) (by unfold Nd.cells; simp only [List.set_cons_zero, List.set_cons_succ])
  · have hk' : (Value.slice A L.length c).ownBlock = some k := hk
    rcases hfr with h4 | ⟨k', h4, h5⟩
    · exact .inl (h4.symm.trans hk')
    · rw [h4] at hk'; injection hk' with hk'; exact .inr (by omega)
  · match j', hj' with
    | 0, hj' => rfl
    | 1, hj' => rfl
    | 2, hj' => exact absurd rfl hj'
    | 3, hj' => rfl
    | j + 4, _ => rfl
theorem InsOk.rowT {B : Nat} {w w1 : World} {g gN cN : Nat} {root : Int} {vW : Value} {us : List Nd} {W : List Int} (h : InsOk B w g root (.slice (some ⟨gN, 0, none⟩) us.length cN) vW us W) {x : Nat} {n : Nd} (hx : us[x]? = some n) {m : Nat} {L : List Int} {xs : List Value} {e : Ending}
    (hr : RowEnd B 3 1 w (.slice n.A4 n.T.length n.c4) m xs e w1) (hxs : xs = iv L) (hm : L.length = m) (hl : m ≤ 1000000) :
    ∃ A c, e = .returned (.slice A m c) ∧ OwnN B w1 (.slice (some ⟨gN, 0, none⟩) us.length cN) us ∧ ∀ w2, Calm w1 w2 → Done B w (w2.setCell ⟨gN, x * 5 + (3 + 1), none⟩ (.slice A m c)) g (.slice (some ⟨gN, 0, none⟩) us.length cN) vW us root (.slice (some ⟨gN, 0, none⟩) us.length cN) vW (us.set x { n with A4 := A, c4 := c, T := L }) W := by
  obtain ⟨v', he, ho, hg, hfr⟩ := hr
  obtain ⟨A, c, rfl⟩ := rows_slice ho
  obtain ⟨hap, hout⟩ := h.apart hx
  subst hm
  rw [hxs] at ho
  have ho' : OwnI B w1 (.slice A L.length c) L := ho
  refine ⟨A, c, he, ?_⟩
  refine h.halfRow hx (j := 3) (by decide) hg (fun k hk => ?_) (fun j' hj' => ?_) (NdO.reT (h.t.nd x n hx) hap hg (fun j k hk => (hout j k hk).2.2.2) ho' hl) (by unfold Nd.cells; simp only [List.set_cons_zero, List.set_cons_succ])
  · have hk' : (Value.slice A L.length c).ownBlock = some k := hk
    rcases hfr with h4 | ⟨k', h4, h5⟩
    · exact .inl (h4.symm.trans hk')
    · rw [h4] at hk'; injection hk' with hk'; exact .inr (by omega)
  · match j', hj' with
    | 0, hj' => rfl
    | 1, hj' => rfl
    | 2, hj' => rfl
    | 3, hj' => exact absurd rfl hj'
    | j + 4, _ => rfl
def HalfD (B : Nat) (w0 : World) (g : Nat) (root0 : Int) (v0 vW0 : Value) (us0 : List Nd) (gN cN : Nat) (us : List Nd) (vW : Value) (W : List Int) (p : Nat) (m : Nat) (f : Option Addr → Nat → List Nd) (v9 : Value) (u : World) : Prop :=
 ∃ A c, v9 = .slice A m c ∧ OwnN B u (.slice (some ⟨gN, 0, none⟩) us.length cN) us ∧ ∀ u2, Calm u u2 → Done B w0 (u2.setCell ⟨gN, p, none⟩ (.slice A m c)) g v0 vW0 us0 root0 (.slice (some ⟨gN, 0, none⟩) us.length cN) vW (f A c) W
def FullD (B : Nat) (w0 : World) (g : Nat) (root0 : Int) (v0 vW0 : Value) (us0 : List Nd) (gN cN : Nat) (us : List Nd) (vW : Value) (W : List Int) (m : Nat) (f : Option Addr → Nat → List Nd) (v9 : Value) (u : World) : Prop :=
 ∃ A c, v9 = .slice A m c ∧ Done B w0 u g v0 vW0 us0 root0 (.slice (some ⟨gN, 0, none⟩) us.length cN) vW (f A c) W
def RowS (i : Nat) (S0 : World → Prop) (S1 S2 : Value → World → Prop) : Nat → (Nat → Value) → World → Prop
 | 0, _, u => S0 u
 | 1, Y, u => S1 (Y i) u
 |_, Y, u => S2 (Y i) u
theorem HalfD.calm {B : Nat} {w0 : World} {g : Nat} {root0 : Int} {v0 vW0 : Value} {us0 : List Nd} {gN cN : Nat} {us : List Nd} {vW : Value} {W : List Int} {p m : Nat} {f : Option Addr → Nat → List Nd} {v9 : Value} {u u' : World} (h : HalfD B w0 g root0 v0 vW0 us0 gN cN us vW W p m f v9 u) (hb : Calm u u') : HalfD B w0 g root0 v0 vW0 us0 gN cN us vW W p m f v9 u' :=
 let ⟨A, c, h1, h2, h3⟩ := h
 ⟨A, c, h1, rows_calm h2 hb, fun u2 hu => h3 u2 (hb.call hu)⟩
theorem FullD.calm {B : Nat} {w0 : World} {g : Nat} {root0 : Int} {v0 vW0 : Value} {us0 : List Nd} {gN cN : Nat} {us : List Nd} {vW : Value} {W : List Int} {m : Nat} {f : Option Addr → Nat → List Nd} {v9 : Value} {u u' : World} (h : FullD B w0 g root0 v0 vW0 us0 gN cN us vW W m f v9 u) (hb : Calm u u') : FullD B w0 g root0 v0 vW0 us0 gN cN us vW W m f v9 u' :=
 let ⟨A, c, h1, h2⟩ := h
 ⟨A, c, h1, h2.call hb⟩
theorem rowS_stay {i : Nat} {S0 : World → Prop} {S1 S2 : Value → World → Prop} (h0 : ∀ u u', S0 u → Calm u u' → S0 u') (h1 : ∀ v u u', S1 v u → Calm u u' → S1 v u') (h2 : ∀ v u u', S2 v u → Calm u u' → S2 v u') : ∀ (k : Nat) (Y : Nat → Value) (u u' : World), RowS i S0 S1 S2 k Y u → Calm u u' → RowS i S0 S1 S2 k Y u'
 | 0, _, _, _, h, hb => h0 _ _ h hb
 | 1, _, _, _, h, hb => h1 _ _ _ h hb
 |_ + 2, _, _, _, h, hb => h2 _ _ _ h hb
def RowL (i k : Nat) (S0 : World → Prop) (cs : Array Value) (t : TypeId) (S1 S2 : Value → World → Prop) : Nat → (Nat → Value) → World → Prop
 | 0, _, u => S0 u
 | 1, Y, u => S0 u ∧ ∃ h, Y i = .slice (some ⟨h, 0, none⟩) 1 1 ∧ u.heap[h]? = some (.cells cs t (0, 0))
 | 2, Y, u => S1 (Y k) u
 |_, Y, u => S2 (Y k) u
theorem rowL_stay {i k : Nat} {S0 : World → Prop} {cs : Array Value} {t : TypeId} {S1 S2 : Value → World → Prop} (h0 : ∀ u u', S0 u → Calm u u' → S0 u') (h1 : ∀ v u u', S1 v u → Calm u u' → S1 v u') (h2 : ∀ v u u', S2 v u → Calm u u' → S2 v u') : ∀ (n : Nat) (Y : Nat → Value) (u u' : World), RowL i k S0 cs t S1 S2 n Y u → Calm u u' → RowL i k S0 cs t S1 S2 n Y u'
 | 0, _, _, _, h, hb => h0 _ _ h hb
 | 1, _, _, _, ⟨h, g, e, hh⟩, hb => ⟨h0 _ _ h hb, g, e, (hb.block (Array.getElem?_eq_some_iff.1 hh).1).trans hh⟩
 | 2, _, _, _, h, hb => h1 _ _ _ h hb
 |_ + 3, _, _, _, h, hb => h2 _ _ _ h hb
theorem rowL_low {i k : Nat} {S0 : World → Prop} {cs : Array Value} {t : TypeId} {S1 S2 : Value → World → Prop} : ∀ {n : Nat} {Y : Nat → Value} {u : World}, n ≤ 1 → RowL i k S0 cs t S1 S2 n Y u → S0 u
 | 0, _, _, _, h => h
 | 1, _, _, _, h => h.1
 |_ + 2, _, _, h, _ => absurd h (by omega)
theorem spot_at {w : World} {b : Nat} {l : List Sp} {k : Nat} {s : Sp} (h : LiesS w (some ⟨b, 0, none⟩) l) (hk : l[k]? = some s) : w.cell? ⟨b, k * 4, none⟩ = some (.int .i64 s.p) ∧ w.cell? ⟨b, k * 4 + 1, none⟩ = some (.int .i64 s.o) ∧ w.cell? ⟨b, k * 4 + 2, none⟩ = some (.int .i64 s.f) ∧ w.cell? ⟨b, k * 4 + 3, none⟩ = some (.int .i64 s.m) ∧ b < w.heap.size := by
 have hlt := (List.getElem?_eq_some_iff.1 hk).1
 obtain ⟨b', q, hA, hb, hg⟩ := h.2 (by omega)
 injection hA with hA
 injection hA with h1 h2
 subst h1; subst h2
 obtain ⟨g0, g1, g2, g3⟩ := hg k s hk
 rw [Nat.zero_add] at g0 g1 g2 g3
 exact ⟨g0, g1, g2, g3, hb⟩
open Go.RowKit
theorem InsOk.setWay {B : Nat} {w : World} {g b cW : Nat} {root : Int} {v : Value} {us : List Nd} {W : List Int} (h : InsOk B w g root v (.slice (some ⟨b, 0, none⟩) W.length cW) us W) (i : Nat) (t : Int) :
    Done B w (w.setCell ⟨b, i, none⟩ (.int .i64 t)) g v (.slice (some ⟨b, 0, none⟩) W.length cW) us root v (.slice (some ⟨b, 0, none⟩) W.length cW) us (W.set i t) := by
  have hcell : ∀ k, k ≠ b → (w.setCell ⟨b, i, none⟩ (.int .i64 t)).heap[k]? = w.heap[k]? := fun k hk => heap_setCell_other w ⟨b, i, none⟩ k _ (fun e => hk (by simpa using e))
  have hvb : (Value.slice (some ⟨b, 0, none⟩) W.length cW).ownBlock = some b := rfl
  have hgb : g ≠ b := fun e => h.ng (by rw [hvb, e])
  have hn := h.n
  unfold OwnI at hn
  have h9 := (World.ownsRow.stored hn i (.int .i64 t)).1
  refine ⟨⟨tag_of ((hcell g hgb).trans h.box), h.t.same fun k hk => hcell k fun e => h.tn k hk (by rw [hvb, e]), ?_, h.ge, h.tn, h.tg, h.ng⟩, (Mod.refl _ _).cell (.inl (.inr (.inr hvb))) _ _, fun k hk => .inl hk⟩
  unfold OwnI
  rw [List.length_set, show iv (W.set i t) = (iv W).set i (.int .i64 t) by unfold iv; rw [List.map_set]]
  exact h9
def ndFree : Nd := ⟨0, none, none, none, none, 0, 0, 0, 0, [], [], [], []⟩
theorem ndFree_ok : NdOk ndFree := by
 show ndErr 0 [] [] [] [] = 0
 unfold ndErr freeErr
 simp
theorem InsOk.free {B : Nat} {w : World} {g gN cN : Nat} {root : Int} {vW : Value} {us : List Nd} {W : List Int} (h : InsOk B w g root (.slice (some ⟨gN, 0, none⟩) us.length cN) vW us W) {x : Nat} {n : Nd} (hx : us[x]? = some n) :
    Done B w (World.fiveAt w gN (x * 5) (.int .i64 0) (.slice none 0 0) (.slice none 0 0) (.slice none 0 0) (.slice none 0 0)) g (.slice (some ⟨gN, 0, none⟩) us.length cN) vW us root (.slice (some ⟨gN, 0, none⟩) us.length cN) vW (us.set x ndFree) W := by
  have hb : ∀ j k, ndFree.blk j = some k → False := fun j k hk => by
    match j, hk with
    | 0, hk => cases hk
    | 1, hk => cases hk
    | 2, hk => cases hk
    | 3, hk => cases hk
    | j + 4, hk => cases hk
  refine ⟨h.putNew hx (M := B) (n' := ndFree) (NdOwn.zero _ _) (Nat.le_refl _) (fun j k hk => (hb j k hk).elim) (fun j j' k hk => (hb j k hk).elim), (Mod.refl _ _).five (.inl (.inr (.inl (.inl rfl)))) _ _ _ _ _ _, fun k hk => ?_⟩
  rcases hk.set_of with h1 | ⟨j, h1⟩
  · exact .inl h1
  · exact (hb j k h1).elim
open Go.RowKit
theorem Pair.three {M : List Nd} {s0 : Sp} {d : Nat} {x y : Int} {i a : Nat} {p c : Nd} (h : Pair M s0 d x y i p c) {lx rx : Int} {cl cr : Nd} (hl : p.K[a]? = some lx) (hr : p.K[a + 1]? = some rx) (wl : Wide M d lx cl) (wr : Wide M d rx cr) : x ≠ lx ∧ x ≠ rx ∧ lx ≠ rx := by
 have hN := h.nd
 rw [nodes_eq h.hp] at hN
 have hlm : lx ∈ nodesD M (d + 1) lx := by rw [nodes_eq wl.nd]; exact List.mem_cons_self
 have hrm : rx ∈ nodesD M (d + 1) rx := by rw [nodes_eq wr.nd]; exact List.mem_cons_self
 refine ⟨fun e => ?_, fun e => ?_, fun e => ?_⟩
 ·exact (List.nodup_cons.1 hN).1 (List.mem_flatMap.2 ⟨lx, mem_of_at hl, by rw [e]; exact hlm⟩)
 ·exact (List.nodup_cons.1 hN).1 (List.mem_flatMap.2 ⟨rx, mem_of_at hr, by rw [e]; exact hrm⟩)
 ·exact flat_disj (List.nodup_cons.1 hN).2 hr hl (by omega) lx hlm (by rw [e]; exact hrm)
/-- The lengths of a node's rows, of what it holds. -/
theorem shape_lens {n : Nd} (h : Shape n) : n.E.length ≤ n.size ∧ n.K.length ≤ n.size ∧ n.S.length ≤ n.size ∧ n.T.length ≤ n.size := by
 unfold Nd.size
 rcases h with ⟨-, h1, h2, h3, -⟩ | ⟨-, h1, h2, h3, -⟩
 ·rw [h1, h2, h3]; simp
 ·omega
structure JoinP (us : List Nd) (W : List Int) (j d X LX RX a : Nat) (p cl cr : Nd) (sep : Sp) : Prop where
 hj : W[j]? = some (X : Int)
 hj1 : j + 1 < W.length
 hW : W.length ≤ 1000000
 px : us[X]? = some p
 lx : us[LX]? = some cl
 rx : us[RX]? = some cr
 kl : p.K[a]? = some (LX : Int)
 kr : p.K[a + 1]? = some (RX : Int)
 ks : p.S[a]? = some sep
 n1 : X ≠ LX
 n2 : X ≠ RX
 n3 : LX ≠ RX
 ll : cl.E.length ≤ 100 ∧ cl.K.length ≤ 100 ∧ cl.S.length ≤ 100 ∧ cl.T.length ≤ 100
 lr : cr.E.length ≤ 100 ∧ cr.K.length ≤ 100 ∧ cr.S.length ≤ 100 ∧ cr.T.length ≤ 100
 lp : p.K.length ≤ 100 ∧ p.S.length + 1 = p.K.length ∧ p.T.length = p.K.length
 lm : -9223372036854775808 ≤ sep.m
theorem Pair.joinP {us : List Nd} {s0 : Sp} {d j : Nat} {W : List Int} {x y : Nat} {i : Nat} {p c : Nd} (hp : Pair us s0 d (x : Int) (y : Int) i p c) (hj : W[j]? = some (x : Int)) (hj1 : W[j + 1]? = some (y : Int)) (hW : W.length ≤ 1000000) (hK : 2 ≤ p.K.length) (hpK : p.K.length ≤ 100) (hc : c.size ≤ 100) :
    ∃ (LX RX : Nat) (cl cr : Nd) (sep : Sp), JoinP us W j d x LX RX (i - 1) p cl cr sep ∧ Wide us d (LX : Int) cl ∧ Wide us d (RX : Int) cr := by
  have hib : i < p.K.length := (List.getElem?_eq_some_iff.1 hp.hi).1
  have hal : i - 1 < p.K.length := by omega
  have har : i - 1 + 1 < p.K.length := by omega
  have hl := List.getElem?_eq_getElem hal
  have hr := List.getElem?_eq_getElem har
  rcases hp.hs with hh | ⟨-, hE, hSl, hTl, hKb, hTb, hSe, hSp⟩
  · have := hh.1; have := hp.hk; omega
  have has : i - 1 < p.S.length := by omega
  have hs := List.getElem?_eq_getElem has
  obtain ⟨cl, cr, wl, wr, -, -, -, hcase⟩ := hp.two rfl hl hr
  obtain ⟨n1, n2, n3⟩ := hp.three hl hr wl wr
  have b1 := hKb _ (mem_of_at hl)
  have b2 := hKb _ (mem_of_at hr)
  obtain ⟨LX, hLX⟩ : ∃ LX : Nat, (LX : Int) = p.K[i - 1] := ⟨(p.K[i - 1]).toNat, by omega⟩
  obtain ⟨RX, hRX⟩ : ∃ RX : Nat, (RX : Int) = p.K[i - 1 + 1] := ⟨(p.K[i - 1 + 1]).toNat, by omega⟩
  rw [← hLX] at hl n1 n3 wl
  rw [← hRX] at hr n2 n3 wr
  have g1 := shape_lens wl.sh
  have g2 := shape_lens wr.sh
  have hb : cl.size ≤ 100 ∧ cr.size ≤ 100 := by
    rcases hcase with ⟨-, -, e, h4, h8⟩ | ⟨-, -, e, h4, h8⟩
    · rw [e]; omega
    · rw [e]; omega
  have hsm : -9223372036854775808 ≤ (p.S[i - 1]).m := by
    have h9 := hSe _ (mem_of_at hs)
    have := err_wf h9
    exact this
  exact ⟨LX, RX, cl, cr, _, ⟨hj, (List.getElem?_eq_some_iff.1 hj1).1, hW, nd_at.1 hp.hp, nd_at.1 wl.nd, nd_at.1 wr.nd, hl, hr, hs, fun e => n1 (by rw [e]), fun e => n2 (by rw [e]), fun e => n3 (by rw [e]), by omega, by omega, by omega, hsm⟩, wl, wr⟩
structure JSt (us uk : List Nd) (X LX RX : Nat) (p l r : Nd) : Prop where
 len : uk.length = us.length
 px : uk[X]? = some p
 lx : uk[LX]? = some l
 rx : uk[RX]? = some r
 ot : ∀ t, t ≠ X → t ≠ LX → t ≠ RX → uk[t]? = us[t]?
section
variable {us uk : List Nd} {X LX RX : Nat} {p l r : Nd}
theorem set_self' {uk : List Nd} {x : Nat} {n m : Nd} (h : uk[x]? = some n) : (uk.set x m)[x]? = some m := by
 rw [List.getElem?_set, if_pos rfl, if_pos (List.getElem?_eq_some_iff.1 h).1]
theorem set_oth {uk : List Nd} {x t : Nat} {m : Nd} (h : t ≠ x) : (uk.set x m)[t]? = uk[t]? := by
 rw [List.getElem?_set, if_neg (fun e => h e.symm)]
theorem JSt.setL (h : JSt us uk X LX RX p l r) (h1 : X ≠ LX) (h3 : LX ≠ RX) (m : Nd) : JSt us (uk.set LX m) X LX RX p m r :=
 ⟨by rw [List.length_set]; exact h.len, by rw [set_oth h1]; exact h.px, set_self' h.lx, by rw [set_oth fun e => h3 e.symm]; exact h.rx, fun t a b c => by rw [set_oth b]; exact h.ot t a b c⟩
theorem JSt.setR (h : JSt us uk X LX RX p l r) (h2 : X ≠ RX) (h3 : LX ≠ RX) (m : Nd) : JSt us (uk.set RX m) X LX RX p l m :=
 ⟨by rw [List.length_set]; exact h.len, by rw [set_oth h2]; exact h.px, by rw [set_oth h3]; exact h.lx, set_self' h.rx, fun t a b c => by rw [set_oth c]; exact h.ot t a b c⟩
theorem JSt.setP (h : JSt us uk X LX RX p l r) (h1 : X ≠ LX) (h2 : X ≠ RX) (m : Nd) : JSt us (uk.set X m) X LX RX m l r :=
 ⟨by rw [List.length_set]; exact h.len, set_self' h.px, by rw [set_oth fun e => h1 e.symm]; exact h.lx, by rw [set_oth fun e => h2 e.symm]; exact h.rx, fun t a b c => by rw [set_oth a]; exact h.ot t a b c⟩
end
structure Joined2 (p cl cr : Nd) (a : Nat) (sep : Sp) (p' c' : Nd) : Prop where
 ekd : p'.kd = p.kd
 eE : p'.E = p.E
 eK : p'.K = delL p.K (a + 1)
 eS : p'.S = delL p.S a
 eT : p'.T = delL p.T (a + 1)
 ckd : c'.kd = cl.kd
 cE : c'.E = cl.E ++ cr.E
 cK : c'.K = cl.K ++ cr.K
 cS : c'.S = if cl.kd = 2 then cl.S ++ sep :: cr.S else cl.S ++ cr.S
 cT : c'.T = cl.T ++ cr.T
theorem lieI_at {w : World} {b : Nat} {l : List Int} {k : Nat} {x : Int} (h : LiesI w (some ⟨b, 0, none⟩) l) (hk : l[k]? = some x) : w.cell? ⟨b, k, none⟩ = some (.int .i64 x) ∧ b < w.heap.size := by
 have hlt := (List.getElem?_eq_some_iff.1 hk).1
 obtain ⟨b', q, hA, hb, hg⟩ := h (by omega)
 injection hA with hA
 injection hA with h1 h2
 subst h1; subst h2
 have := hg k x hk
 rw [Nat.zero_add] at this
 exact ⟨this, hb⟩
theorem own_some {B N n : Nat} {T : TypeId} {w : World} {A : Option Addr} {c : Nat} {xs : List Value} (h : w.ownsRow B T N (.slice A n c) n xs) (h0 : 0 < n) : ∃ b, A = some ⟨b, 0, none⟩ := by
 rcases h.2 with ⟨h1, h2⟩ | ⟨g', cap', cur, h1, -⟩
 ·omega
 ·exact ⟨g', by injection h1⟩
def JoinEnd (B g gN cN : Nat) (root : Int) (vW : Value) (us : List Nd) (W : List Int) (j X LX RX a : Nat) (p cl cr : Nd) (sep : Sp) (w : World) (e : Ending) (w' : World) : Prop := ∃ (us' : List Nd) (p' c' : Nd), e = .returned (.tuple #[]) ∧
 Done B w w' g (.slice (some ⟨gN, 0, none⟩) us.length cN) vW us root (.slice (some ⟨gN, 0, none⟩) us'.length cN) vW us' (W.set (j + 1) (LX : Int)) ∧ JSt us us' X LX RX p' c' ndFree ∧ Joined2 p cl cr a sep p' c'
open Go.RowKit
theorem Step.trans {M M1 M2 : List Nd} {d : Nat} {x : Int} (h : Step M M1 d x) (k : Step M1 M2 d x) : Step M M2 d x := by
 have hout : ∀ t, t ∉ nodesD M d x → Used M t → Used M1 t ∧ t ∉ nodesD M1 d x := fun t ht hu => by
  have e := h.out t ht hu
  refine ⟨by unfold Used at hu ⊢; rw [e]; exact hu, fun h1 => ?_⟩
  rcases h.sub t h1 with h2 | h2
  ·exact ht h2
  ·exact h2 hu
 refine ⟨fun t ht hu => ?_, fun t ht hu => ?_, k.nodup, fun t ht => ?_⟩
 ·obtain ⟨h1, h2⟩ := hout t ht hu
  rw [k.out t h2 h1, h.out t ht hu]
 ·refine k.all t ?_ hu
  by_cases h1 : Used M1 t
  ·exact .inl (h.all t ht h1)
  ·exact .inr h1
 ·rcases k.sub t ht with h1 | h1
  ·exact h.sub t h1
  ·by_cases h2 : t ∈ nodesD M d x
   ·exact .inl h2
   ·refine .inr fun h3 => h1 (hout t h2 h3).1
structure JoinOk (M M' : List Nd) (s0 : Sp) (d : Nat) (x : Int) (p c : Nd) (lx : Int) (a : Nat) (p' c' : Nd) : Prop where
 pair : Pair M' s0 d x lx a p' c'
 recs : recsD M' (d + 2) x = recsD M (d + 2) x
 spots : ∀ s ∈ spotsD M' (d + 2) x, s ∈ spotsD M (d + 2) x
 step : Step M M' (d + 2) x
 len : p'.K.length + 1 = p.K.length
 size : c.size + 4 ≤ c'.size ∧ c'.size ≤ c.size + 8
 mlen : M'.length = M.length
 free : ∀ n ∈ M', n.kd = 0 → n = ndFree ∨ n ∈ M
 room : ∃ q ∈ M', q.kd = 0
theorem nd_oth {us us' : List Nd} {X LX RX : Nat} {p' l' r' : Nd} (h : JSt us us' X LX RX p' l' r') : ∀ t : Int, t ≠ (X : Int) → t ≠ (LX : Int) → t ≠ (RX : Int) → ndOf us' t = ndOf us t := fun t h1 h2 h3 => by
 unfold ndOf
 split
 ·exact h.ot _ (fun e => h1 (by omega)) (fun e => h2 (by omega)) fun e => h3 (by omega)
 ·rfl
theorem joinOk_of {us us' : List Nd} {s0 : Sp} {d j X y LX RX i : Nat} {W : List Int} {p c cl cr p' c' : Nd} {sep : Sp} (hp : Pair us s0 d (X : Int) (y : Int) i p c) (hP : JoinP us W j d X LX RX (i - 1) p cl cr sep) (hs : JSt us us' X LX RX p' c' ndFree) (hJ : Joined2 p cl cr (i - 1) sep p' c') :
    JoinOk us us' s0 d (X : Int) p c (LX : Int) (i - 1) p' c' := by
  have hcl := nd_at.2 hP.lx
  have hcr := nd_at.2 hP.rx
  obtain ⟨cl', cr', wl, wr, -, -, -, hcase⟩ := hp.two rfl hP.kl hP.kr
  have ecl : cl' = cl := Option.some.inj (wl.nd.symm.trans hcl)
  have ecr : cr' = cr := Option.some.inj (wr.nd.symm.trans hcr)
  subst ecl; subst ecr
  have hpE : p.E = [] := by
    rcases hp.hs with hh | hh
    · have := hh.1; have := hp.hk; omega
    · exact hh.2.1
  have cS : c'.S = if cl'.kd = 2 then cl'.S ++ sep :: cr'.S else [] := by
    rw [hJ.cS]
    by_cases h2 : cl'.kd = 2
    · rw [if_pos h2, if_pos h2]
    · rw [if_neg h2, if_neg h2]
      have k1 : cl'.kd = 1 := by rcases wl.kd with h | h; exact h; exact absurd h h2
      have k2 : cr'.kd = 1 := by rw [wr.kd_d, ← wl.kd_d]; exact k1
      rw [(wl.leaf k1).2.2.1, (wr.leaf k2).2.2.1]; rfl
  obtain ⟨q1, q2, q3, q4, -⟩ := hp.join rfl hP.kl hP.kr hP.ks hcl hcr (nd_at.2 hs.px) (by rw [hJ.ekd]; exact hp.hk) (by rw [hJ.eE]; exact hpE) hJ.eK hJ.eS hJ.eT (nd_at.2 hs.lx) hJ.ckd hJ.cE hJ.cK cS hJ.cT (nd_at.2 hs.rx) rfl (nd_oth hs)
  have hK := (List.getElem?_eq_some_iff.1 hP.kr).1
  refine ⟨q1, q2, q3, q4, by rw [hJ.eK, delL_len' hK]; omega, ?_, hs.len, fun n hn h0 => ?_, ⟨ndFree, mem_of_at hs.rx, rfl⟩⟩
  · have hz : c'.size = cl'.size + cr'.size := by unfold Nd.size; rw [hJ.cE, hJ.cK, List.length_append, List.length_append]; omega
    rcases hcase with ⟨-, -, e, h4, h8⟩ | ⟨-, -, e, h4, h8⟩
    · rw [hz, e]; omega
    · rw [hz, e]; omega
  · obtain ⟨t, ht⟩ := mem_at hn
    by_cases h1 : t = X
    · subst h1
      rw [hs.px] at ht; injection ht with ht
      rw [← ht, hJ.ekd] at h0
      have := hp.hk; omega
    by_cases h2 : t = LX
    · subst h2
      rw [hs.lx] at ht; injection ht with ht
      rw [← ht, hJ.ckd] at h0
      have := wl.sh.used; omega
    by_cases h3 : t = RX
    · subst h3
      rw [hs.rx] at ht; injection ht with ht
      exact .inl ht.symm
    · rw [hs.ot t h1 h2 h3] at ht
      exact .inr (mem_of_at ht)
def WayDel (M : List Nd) (s0 : Sp) (ws : List Int) (root : Int) (D : Nat) (R : List El) (k : Nat) : Prop := ∃ (d : Nat) (y : Int) (c : Nd), (root :: ws)[k]? = some y ∧ D = d + k + 1 ∧ Mid M s0 (ws.take k) D root (d + 1) y ∧ Wide M d y c ∧ c.size ≤ 8 ∧ (0 < k → 3 ≤ c.size) ∧ (c.kd = 2 → 1 ≤ c.size) ∧ Glob M D root ∧ recsD M D root = R
theorem WayDel.pair {M : List Nd} {s0 : Sp} {ws : List Int} {root : Int} {D : Nat} {R : List El} {k : Nat} (h : WayDel M s0 ws root D R (k + 1)) : ∃ (d : Nat) (x y : Int) (i : Nat) (p c : Nd), (root :: ws)[k]? = some x ∧ (root :: ws)[k + 1]? = some y ∧ Pair M s0 d x y i p c ∧ 3 ≤ c.size ∧ c.size ≤ 8 ∧ 2 ≤ p.K.length ∧ p.K.length ≤ 8 ∧ M.length ≤ 400 ∧
    (∀ (M' : List Nd) (p' : Nd), Fitted M M' d x p' → p'.K.length = p.K.length → (∀ n ∈ M', n.kd = 0 → n ∈ M) → M'.length ≤ 400 → WayDel M' s0 ws root D R k) ∧
    (∀ (M1 M' : List Nd) (lx : Int) (a : Nat) (p1 c1 p' : Nd), JoinOk M M1 s0 d x p c lx a p1 c1 → Fitted M1 M' d x p' → p'.K.length = p1.K.length + (if 8 < c1.size then 1 else 0) → (∀ n ∈ M', n.kd = 0 → n ∈ M1) → M'.length ≤ 400 → WayDel M' s0 ws root D R k) := by
  obtain ⟨d, y, c, hy, hD, hm, hw, h9, h4, h2, hg, hr⟩ := h
  have hk : k < ws.length := by
    have := (List.getElem?_eq_some_iff.1 hy).1
    simp at this; omega
  have htk : ws.take (k + 1) = ws.take k ++ [ws[k]] := List.take_succ_eq_append_getElem hk
  rw [htk] at hm
  obtain ⟨hzy, x, p, i, m1, hp, hpk, hp4⟩ := hm.pair hw hg.nd
  have hx : (root :: ws)[k]? = some x := by rw [last_take root ws k (by omega), m1.last]
  have hpE : p.E = [] ∧ p.T.length = p.K.length := by
    rcases hp.hs with hh | hh
    · have := hh.1; have := hp.hk; omega
    · exact ⟨hh.2.1, hh.2.2.2.1⟩
  have hps : p.size = p.K.length := by unfold Nd.size; rw [hpE.1]; simp
  have hpz := shape_of hpk (by have := hp.hk; omega)
  have h2p := hpz.2.2 hp.hk
  have key : ∀ (M' : List Nd) (p' : Nd), Wide M' (d + 1) x p' → recsD M' (d + 2) x = recsD M (d + 2) x → (∀ s ∈ spotsD M' (d + 2) x, s ∈ spotsD M (d + 2) x) → Step M M' (d + 2) x → p'.K.length ≤ p.K.length → p.K.length ≤ p'.K.length + 1 → (∀ n ∈ M', n.kd = 0 → NdOk n) → M'.length ≤ 400 → WayDel M' s0 ws root D R k := fun M' p' hw' hr' hs' hst hl1 hl2 hfree hlen => by
    obtain ⟨l1, st, -, ⟨A, B, r1, r2⟩, -⟩ := m1.lift hg.nd hst fun s hs => .inl (hs' s hs)
    have hp'k : p'.kd = 2 := by rw [hw'.kd_d]; rfl
    have hp's : p'.size = p'.K.length := by
      unfold Nd.size
      rw [((hw'.inner hp'k).1).1]; simp
    refine ⟨d + 1, x, p', hx, by omega, l1, hw', by rw [hp's]; omega, fun h0 => ?_, fun _ => by rw [hp's]; omega, hg.step st hfree hlen, ?_⟩
    · have := hp4 (fun e => by rw [List.take_eq_nil_iff] at e; rcases e with e | e; omega; rw [e] at hk; simp at hk)
      rw [hp's]; omega
    · rw [r2, hr', ← r1]; exact hr
  refine ⟨d, x, y, i, p, c, hx, hy, hp, h4 (by omega), h9, by omega, by omega, hg.len, fun M' p' hf hl hfr hlen => ?_, fun M1 M' lx a p1 c1 p' hj hf hl hfr hlen => ?_⟩
  · exact key M' p' hf.wide hf.recs hf.spots hf.step (by omega) (by omega) (fun n hn h0 => hg.free n (hfr n hn h0) h0) hlen
  · have hl1 := hj.len
    refine key M' p' hf.wide (hf.recs.trans hj.recs) (fun s hs => hj.spots s (hf.spots s hs)) (hj.step.trans hf.step) (by split at hl <;> omega) (by split at hl <;> omega) (fun n hn h0 => ?_) hlen
    rcases hj.free n (hfr n hn h0) h0 with rfl | h1
    · exact ndFree_ok
    · exact hg.free n h1 h0
/-- The way up ends at the root. -/
theorem WayDel.root {M : List Nd} {s0 : Sp} {ws : List Int} {root : Int} {D : Nat} {R : List El} (h : WayDel M s0 ws root D R 0) : ∃ d c, D = d + 1 ∧ Wide M d root c ∧ c.size ≤ 8 ∧ Glob M (d + 1) root ∧ recsD M (d + 1) root = R ∧ (c.K.length ≠ 1 → treeErr M root = 0 ∧ allOf M root = R) := by
 obtain ⟨d, y, c, hy, hD, hm, hw, h9, -, h2, hg, hr⟩ := h
 obtain ⟨-, rfl⟩ : D = d + 1 ∧ root = y := hm
 have hD' : D = d + 1 := by omega
 subst hD'
 refine ⟨d, c, rfl, hw, h9, hg, hr, fun h1 => ?_⟩
 have h2' : c.kd = 2 → 2 ≤ c.size := fun hk => by
  have := h2 hk
  have hE := (hw.inner hk).1.1
  unfold Nd.size at this ⊢
  rw [hE] at this ⊢
  simp at this ⊢
  omega
 obtain ⟨q1, q2, -⟩ := wide_good hw (shape_ok hw.sh h9 h2') hg
 exact ⟨q1, q2.trans hr⟩
/-- Where the way up begins. -/
theorem WayDel.leaf {M M' : List Nd} {s0 : Sp} {ws : List Int} {root y : Int} {D : Nat} {c c' : Nd} (hm : Mid M s0 ws D root 1 y) (hD : D = ws.length + 1) (hw : Wide M 0 y c) (hg : Glob M D root)
    (hy : ndOf M' y = some c') (e1 : c'.kd = 1) (e2 : c'.K = []) (e3 : c'.S = []) (e4 : c'.T = []) (he : ∀ e ∈ c'.E, e.err = 0) (hp : c'.E.Pairwise Rise) (hs : ∀ e ∈ c'.E, e ∈ c.E) (hout : ∀ t, t ≠ y → ndOf M' t = ndOf M t)
    (hfr : ∀ n ∈ M', n.kd = 0 → n ∈ M) (hlen : M'.length ≤ 400) (h9 : c'.E.length ≤ 8) (h4 : ws ≠ [] → 3 ≤ c'.E.length) :
    ∃ A B, recsD M D root = A ++ c.E ++ B ∧ WayDel M' s0 ws root D (A ++ c'.E ++ B) ws.length := by
  obtain ⟨w', st, sp, q1, q2⟩ := leaf_step hw hy e1 e2 e3 e4 he hp (fun e h => .inl (hs e h)) hout
  obtain ⟨l1, st', -, ⟨A, B, r1, r2⟩, -⟩ := hm.lift hg.nd st sp
  rw [q2] at r1
  rw [q1] at r2
  have hsz : c'.size = c'.E.length := by unfold Nd.size; rw [e2]; simp
  refine ⟨A, B, r1, 0, y, c', ?_, by omega, by rw [List.take_length]; exact l1, w', by omega, fun h0 => by rw [hsz]; exact h4 (fun e => by rw [e] at h0; simp at h0), fun h => by omega, hg.step st' (fun n hn h0 => hg.free n (hfr n hn h0) h0) hlen, r2⟩
  rw [last_take root ws ws.length (Nat.le_refl _), List.take_length, hm.last]
/-- The only child of the root becomes the root. -/
theorem lower_good {M M' : List Nd} {d : Nat} {root y : Int} {n : Nd} {R : List El} (hw : Wide M d root n) (hg : Glob M (d + 1) root) (hr : recsD M (d + 1) root = R) (hK : n.K = [y]) (hz : ndOf M' root = some ndFree) (hout : ∀ t, t ≠ root → ndOf M' t = ndOf M t)
    (hfr : ∀ m ∈ M', m.kd = 0 → m = ndFree ∨ m ∈ M) (hl : M'.length ≤ 400) : treeErr M' y = 0 ∧ allOf M' y = R := by
  have hk : n.kd = 2 := by
    rcases hw.kd with h | h
    · rw [(hw.leaf h).2.1] at hK; cases hK
    · exact h
  obtain ⟨e, m, -, w', hmk, g', r'⟩ := lower_wide hw hk hg hK hz rfl hout (fun m hm h0 => by
    rcases hfr m hm h0 with rfl | h1
    · exact ndFree_ok
    · exact hg.free m h1 h0) hl
  obtain ⟨q1, q2, -⟩ := wide_good w' hmk g'
  exact ⟨q1, q2.trans (r'.trans hr)⟩
open Go.RowKit
/-- append(s[:i], s[j:]...) in a row with room for it, as a step of a region that draws. -/
theorem stepDelI {ops : Array Oper} {o : Oper} {a : Act} {w : World} {K : Act → World → Prop} {Q : Exit → Act → World → Prop} {E : Prop} (hgd : o.guard = none) (s x : Operand)
    (hop : o.op = Op.call { callee := Callee.builtin Builtin.append, args := #[s, x], argTypes := #[46, 46] })
    (g n cap : Nat) (hs : a.eval s = .slice (some ⟨g, 0, none⟩) n cap) (ad : Addr) (m c : Nat) (hx : a.eval x = .slice (some ad) m c) (cur : List Value) (hg : w.heap[g]? = some (.cells cur.toArray 3 (0, 0)))
    (news : List Value) (hl : news.length = m * 1) (hnews : ∀ j u, news[j]? = some u → w.cell? (ad.add j) = some u) (h1 : ∀ u ∈ news, u.oneCell' = true) (hroom : n + m ≤ cap) (hfit : n * 1 + news.length ≤ cur.length)
    (hK : K (a.put o.dst (.slice (some ⟨g, 0, none⟩) (n + m) cap)) (w.setRow g (spl cur (n * 1) news).toArray)) : if Region.wanted o (yielded ops a.tmps) = true then Oper.wp Tryz.prog o a w K Q else E := by
  have hw : Region.wanted o (yielded ops a.tmps) = true := by simp [Region.wanted, hgd]
  rw [if_pos hw]
  obtain ⟨i0, hi, hz0, hz1, hz2⟩ := info_parts infoInt
  have hr := run_append_room (P := Tryz.prog) w 46 o.type 3 i0 Tryz.underlying46 hi g n cap cur.toArray hg ad m c news (by rw [hz1]; exact hl) hnews h1 hroom (by rw [hz1]; simpa using hfit)
  rw [hz1] at hr
  unfold Oper.wp
  simp only [execOp, hop, resolve, invoke, builtin, Sem.run_bind, Sem.run_pure, Result.andThen_ok, List.map_toArray, List.map_cons, List.map_nil, hs, hx, hr]
  exact hK
def zeroDI : List Value := [.int .i64 0]
theorem clearDI (w : World) (ty : TypeId) (g o c : Nat) (cur : List Value) (hg : w.heap[g]? = some (.cells cur.toArray 3 (0, 0))) (hfit : o + 1 ≤ cur.length) :
    (Builtin.clear_ #[46] ty #[.slice (some ⟨g, o, none⟩) 1 c]).run Tryz.prog w = .ok (.tuple #[]) (w.setRow g (spl cur o zeroDI).toArray) := by
  have hzc : (Builtin.zeroCells (Value.cells (.int .i64 0)) 1).toList = zeroDI := by kernel_rfl
  have hzd : (Builtin.zeroCells (Value.cells (.int .i64 0)) 1).toList = zeroDI := hzc
  have hst := run_storeCells_at Tryz.prog g o 3 zeroDI 0 cur.toArray w hg (by simp [zeroDI]; omega) (by intro u hu; simp only [zeroDI, List.mem_cons, List.not_mem_nil, or_false] at hu; subst hu; rfl)
  simp [Builtin.clear_, run_underlying Tryz.underlying46, hzd, hst, spl]
set_option maxHeartbeats 8000000 in
theorem delI_own (base g i n cap : Nat) (xs : List Value) (w : World) (hi : i < n) (hn4 : n ≤ 400) (hx1 : ∀ u ∈ xs, u.oneCell' = true) (ho : w.ownsRow base 3 1 (.slice (some ⟨g, 0, none⟩) n cap) n xs) :
    Calls Tryz.prog 82 #[.slice (some ⟨g, 0, none⟩) n cap, .int .i64 i, .int .i64 ((i : Int) + 1)] w (RowEnd base 3 1 w (.slice (some ⟨g, 0, none⟩) n cap) (n - 1) (delC xs (i) 1)) := by
  have hxl := ho.1
  rcases id ho.2 with ⟨h, _⟩ | ⟨g', cap', cur0, hv, hbg, hg0, hnc, hcm, hcs, ht⟩
  · cases h
  injection hv with h1 h2 h3
  injection h1 with h1
  injection h1 with h1
  subst h1; subst h3
  clear ho h2
  obtain ⟨cur, rfl⟩ : ∃ cur : List Value, cur.toArray = cur0 := ⟨cur0.toList, by simp⟩
  simp only [List.size_toArray] at hcs ht
  have hc63 : cap ≤ 9223372036854775807 := by unfold maxLen at hcm; exact hcm
  have hdl : (xs.drop (i + 1)).length = (n - (i + 1)) * 1 := by rw [List.length_drop, hxl]; omega
  have hfit1 : i * 1 + (xs.drop (i + 1)).length ≤ cur.length := by omega
  obtain ⟨A, hA, hsrc⟩ : ∃ A : Addr, (if cap = i + 1 then some (⟨g, 0, none⟩ : Addr) else some ⟨g, (i + 1), none⟩) = some A ∧ Hid (∀ j u, (xs.drop (i + 1))[j]? = some u → w.drew.cell? (A.add j) = some u) := by
    by_cases h : cap = i + 1
    · refine ⟨⟨g, 0, none⟩, by simp [h], show ∀ _, _ from fun j u hu => ?_⟩
      have h0 : (xs.drop (i + 1)).length = 0 := by rw [hdl]; omega
      rw [List.eq_nil_of_length_eq_zero h0] at hu; simp at hu
    · refine ⟨⟨g, (i + 1), none⟩, by simp [h], show ∀ _, _ from fun j u hu => ?_⟩
      have hj : j < (n - (i + 1)) * 1 := by rw [← hdl]; exact (List.getElem?_eq_some_iff.1 hu).1
      rw [List.getElem?_drop, ← ht, List.getElem?_take, if_pos (by omega)] at hu
      rw [Addr.add_lit]
      show w.cell? _ = _
      rw [cell_of_row _ _ _ _ _ _ hg0, ← hu, List.getElem?_toArray]
      try (congr 1; omega)
  obtain ⟨c1, hc1⟩ : ∃ c1, c1 = spl cur (i) (xs.drop (i + 1)) := ⟨_, rfl⟩
  have hc1l : c1.length = cur.length := by rw [hc1]; exact spl_len (by omega)
  obtain ⟨W1, hW1⟩ : ∃ W1, W1 = w.drew.setRow g c1.toArray := ⟨_, rfl⟩
  have hWg : W1.heap[g]? = some (.cells c1.toArray 3 (0, 0)) := by rw [hW1]; exact setRow_heap _ _ _ _ _ _ hg0
  have hcl : ∀ ty c, (Builtin.clear_ #[46] ty #[.slice (some ⟨g, (n - 1), none⟩) (n - (n - 1)) c]).run Tryz.prog W1 = .ok (.tuple #[]) (W1.setRow g (spl c1 ((n - 1)) zeroDI).toArray) := fun ty c => by
    rw [show n - (n - 1) = 1 by omega]; exact clearDI W1 ty g _ c c1 hWg (by omega)
  have HEND : Hid (RowEnd base 3 1 w (.slice (some ⟨g, 0, none⟩) n cap) (n - 1) (delC xs (i) 1) (.returned (.slice (some ⟨g, 0, none⟩) (n - 1) cap)) (W1.setRow g (spl c1 ((n - 1)) zeroDI).toArray)) := show RowEnd _ _ _ _ _ _ _ _ _ from by
    have hfin : (W1.setRow g (spl c1 ((n - 1)) zeroDI).toArray).heap[g]? = some (.cells (spl c1 ((n - 1)) zeroDI).toArray 3 (0, 0)) := setRow_heap _ _ _ _ _ _ hWg
    obtain ⟨q1, q2⟩ := del_row (cur := cur) (xs := xs) (z := zeroDI) (p := i) (q := (n - 1)) (N := 1) (by omega) (by rw [← ht]; congr 1; omega) (by omega) rfl (by omega)
    rw [← hc1] at q1 q2
    refine ⟨_, rfl, ⟨by rw [delC_len (by omega)]; omega, .inr ⟨g, cap, _, rfl, hbg, hfin, by omega, hcm, by simp only [List.size_toArray]; omega, by simp only []; first | exact q1 | (rw [Nat.mul_one]; exact q1)⟩⟩, ⟨by rw [hW1]; rfl, by rw [hW1]; rfl, by rw [hW1]; rfl, by rw [hW1]; simp, fun k _ hne => ?_⟩, .inl rfl⟩
    have hkg : k ≠ g := fun e => hne (by rw [e]; rfl)
    rw [setRow_other _ _ _ _ hkg, hW1, setRow_other _ _ _ _ hkg]
    rfl
  have hW := Lib.hid hW1
  have HC := Lib.hid hc1
  have s1 := Lib.hid hdl
  have s2 : Hid (∀ u ∈ xs.drop (i + 1), u.oneCell' = true) := show ∀ u ∈ _, _ from fun u hu => hx1 u (List.mem_of_mem_drop hu)
  have s3 : Hid (w.drew.heap[g]? = some (.cells cur.toArray 3 (0, 0))) := hg0
  have s4 := Lib.hid hfit1
  have hic : i ≤ cap := by omega
  have hjc : i + 1 ≤ cap := by omega
  have hb5 : (i : Int) < (n : Int) := by omega
  have hb6 : (i : Int) + 1 ≤ (n : Int) := by omega
  have hb7 : ¬ ((i : Int) = (i : Int) + 1) := by omega
  have htn : ((i : Int) + 1).toNat = i + 1 := by omega
  have hb8 : (0 : Int) ≤ (i : Int) + 1 := by omega
  have hb9 : i + (n - (i + 1)) = n - 1 := by omega
  clear hW1 hWg hc1 hdl hfit1 hg0 hcs ht hc1l hxl hx1
  go_enter Tryz.func82, Tryz.ntmps82
  go_wp2_with fail
  go_region_law (refine stepDelI rfl (.tmp 22) (.tmp 25) rfl g i cap (by simp [Act.eval, Act.put]) A (n - (i + 1)) (cap - (i + 1)) (by simp [Act.eval, Act.put]) cur s3.out (xs.drop (i + 1)) s1.out hsrc.out s2.out (by omega) s4.out ?_; try simp only [Nat.mul_one]; rw [← HC.out, ← hW.out])
  go_wp2_with fail
  go_ret
  exact HEND.out
open Go.RowKit
/-- append(s[:i], s[j:]...) in a row with room for it, as a step of a region that draws. -/
theorem stepDelS {ops : Array Oper} {o : Oper} {a : Act} {w : World} {K : Act → World → Prop} {Q : Exit → Act → World → Prop} {E : Prop} (hgd : o.guard = none) (s x : Operand)
    (hop : o.op = Op.call { callee := Callee.builtin Builtin.append, args := #[s, x], argTypes := #[53, 53] })
    (g n cap : Nat) (hs : a.eval s = .slice (some ⟨g, 0, none⟩) n cap) (ad : Addr) (m c : Nat) (hx : a.eval x = .slice (some ad) m c) (cur : List Value) (hg : w.heap[g]? = some (.cells cur.toArray 28 (0, 0)))
    (news : List Value) (hl : news.length = m * 4) (hnews : ∀ j u, news[j]? = some u → w.cell? (ad.add j) = some u) (h1 : ∀ u ∈ news, u.oneCell' = true) (hroom : n + m ≤ cap) (hfit : n * 4 + news.length ≤ cur.length)
    (hK : K (a.put o.dst (.slice (some ⟨g, 0, none⟩) (n + m) cap)) (w.setRow g (spl cur (n * 4) news).toArray)) : if Region.wanted o (yielded ops a.tmps) = true then Oper.wp Tryz.prog o a w K Q else E := by
  have hw : Region.wanted o (yielded ops a.tmps) = true := by simp [Region.wanted, hgd]
  rw [if_pos hw]
  obtain ⟨i0, hi, hz0, hz1, hz2⟩ := info_parts infoSp
  have hr := run_append_room (P := Tryz.prog) w 53 o.type 28 i0 Tryz.underlying53 hi g n cap cur.toArray hg ad m c news (by rw [hz1]; exact hl) hnews h1 hroom (by rw [hz1]; simpa using hfit)
  rw [hz1] at hr
  unfold Oper.wp
  simp only [execOp, hop, resolve, invoke, builtin, Sem.run_bind, Sem.run_pure, Result.andThen_ok, List.map_toArray, List.map_cons, List.map_nil, hs, hx, hr]
  exact hK
def zeroDS : List Value := [.int .i64 0, .int .i64 0, .int .i64 0, .int .i64 0]
theorem clearDS (w : World) (ty : TypeId) (g o c : Nat) (cur : List Value) (hg : w.heap[g]? = some (.cells cur.toArray 28 (0, 0))) (hfit : o + 4 ≤ cur.length) :
    (Builtin.clear_ #[53] ty #[.slice (some ⟨g, o, none⟩) 1 c]).run Tryz.prog w = .ok (.tuple #[]) (w.setRow g (spl cur o zeroDS).toArray) := by
  have hzc : (Builtin.zeroCells (Value.cells (.agg #[.int .i64 0, .int .i64 0, .int .i64 0, .int .i64 0])) 1).toList = zeroDS := by kernel_rfl
  have hzd : (Builtin.zeroCells (Value.cells (.agg #[.int .i64 0, .int .i64 0, .int .i64 0, .int .i64 0])) 1).toList = zeroDS := hzc
  have hst := run_storeCells_at Tryz.prog g o 28 zeroDS 0 cur.toArray w hg (by simp [zeroDS]; omega) (by intro u hu; simp only [zeroDS, List.mem_cons, List.not_mem_nil, or_false] at hu; rcases hu with rfl | rfl | rfl | rfl <;> rfl)
  simp [Builtin.clear_, run_underlying Tryz.underlying53, hzd, hst, spl]
set_option maxHeartbeats 8000000 in
theorem delS_own (base g i n cap : Nat) (xs : List Value) (w : World) (hi : i < n) (hn4 : n ≤ 400) (hx1 : ∀ u ∈ xs, u.oneCell' = true) (ho : w.ownsRow base 28 4 (.slice (some ⟨g, 0, none⟩) n cap) n xs) :
    Calls Tryz.prog 83 #[.slice (some ⟨g, 0, none⟩) n cap, .int .i64 i, .int .i64 ((i : Int) + 1)] w (RowEnd base 28 4 w (.slice (some ⟨g, 0, none⟩) n cap) (n - 1) (delC xs (i * 4) 4)) := by
  have hxl := ho.1
  rcases id ho.2 with ⟨h, _⟩ | ⟨g', cap', cur0, hv, hbg, hg0, hnc, hcm, hcs, ht⟩
  · cases h
  injection hv with h1 h2 h3
  injection h1 with h1
  injection h1 with h1
  subst h1; subst h3
  clear ho h2
  obtain ⟨cur, rfl⟩ : ∃ cur : List Value, cur.toArray = cur0 := ⟨cur0.toList, by simp⟩
  simp only [List.size_toArray] at hcs ht
  have hc63 : cap ≤ 9223372036854775807 := by unfold maxLen at hcm; exact hcm
  have hdl : (xs.drop (i * 4 + 4)).length = (n - (i + 1)) * 4 := by rw [List.length_drop, hxl]; omega
  have hfit1 : i * 4 + (xs.drop (i * 4 + 4)).length ≤ cur.length := by omega
  obtain ⟨A, hA, hsrc⟩ : ∃ A : Addr, (if cap = i + 1 then some (⟨g, 0, none⟩ : Addr) else some ⟨g, (i + 1) * 4, none⟩) = some A ∧ Hid (∀ j u, (xs.drop (i * 4 + 4))[j]? = some u → w.drew.cell? (A.add j) = some u) := by
    by_cases h : cap = i + 1
    · refine ⟨⟨g, 0, none⟩, by simp [h], show ∀ _, _ from fun j u hu => ?_⟩
      have h0 : (xs.drop (i * 4 + 4)).length = 0 := by rw [hdl]; omega
      rw [List.eq_nil_of_length_eq_zero h0] at hu; simp at hu
    · refine ⟨⟨g, (i + 1) * 4, none⟩, by simp [h], show ∀ _, _ from fun j u hu => ?_⟩
      have hj : j < (n - (i + 1)) * 4 := by rw [← hdl]; exact (List.getElem?_eq_some_iff.1 hu).1
      rw [List.getElem?_drop, ← ht, List.getElem?_take, if_pos (by omega)] at hu
      rw [Addr.add_lit]
      show w.cell? _ = _
      rw [cell_of_row _ _ _ _ _ _ hg0, ← hu, List.getElem?_toArray]
      try (congr 1; omega)
  obtain ⟨c1, hc1⟩ : ∃ c1, c1 = spl cur (i * 4) (xs.drop (i * 4 + 4)) := ⟨_, rfl⟩
  have hc1l : c1.length = cur.length := by rw [hc1]; exact spl_len (by omega)
  obtain ⟨W1, hW1⟩ : ∃ W1, W1 = w.drew.setRow g c1.toArray := ⟨_, rfl⟩
  have hWg : W1.heap[g]? = some (.cells c1.toArray 28 (0, 0)) := by rw [hW1]; exact setRow_heap _ _ _ _ _ _ hg0
  have hcl : ∀ ty c, (Builtin.clear_ #[53] ty #[.slice (some ⟨g, (n - 1) * 4, none⟩) (n - (n - 1)) c]).run Tryz.prog W1 = .ok (.tuple #[]) (W1.setRow g (spl c1 ((n - 1) * 4) zeroDS).toArray) := fun ty c => by
    rw [show n - (n - 1) = 1 by omega]; exact clearDS W1 ty g _ c c1 hWg (by omega)
  have HEND : Hid (RowEnd base 28 4 w (.slice (some ⟨g, 0, none⟩) n cap) (n - 1) (delC xs (i * 4) 4) (.returned (.slice (some ⟨g, 0, none⟩) (n - 1) cap)) (W1.setRow g (spl c1 ((n - 1) * 4) zeroDS).toArray)) := show RowEnd _ _ _ _ _ _ _ _ _ from by
    have hfin : (W1.setRow g (spl c1 ((n - 1) * 4) zeroDS).toArray).heap[g]? = some (.cells (spl c1 ((n - 1) * 4) zeroDS).toArray 28 (0, 0)) := setRow_heap _ _ _ _ _ _ hWg
    obtain ⟨q1, q2⟩ := del_row (cur := cur) (xs := xs) (z := zeroDS) (p := i * 4) (q := (n - 1) * 4) (N := 4) (by omega) (by rw [← ht]; congr 1; omega) (by omega) rfl (by omega)
    rw [← hc1] at q1 q2
    refine ⟨_, rfl, ⟨by rw [delC_len (by omega)]; omega, .inr ⟨g, cap, _, rfl, hbg, hfin, by omega, hcm, by simp only [List.size_toArray]; omega, by simp only []; first | exact q1 | (rw [Nat.mul_one]; exact q1)⟩⟩, ⟨by rw [hW1]; rfl, by rw [hW1]; rfl, by rw [hW1]; rfl, by rw [hW1]; simp, fun k _ hne => ?_⟩, .inl rfl⟩
    have hkg : k ≠ g := fun e => hne (by rw [e]; rfl)
    rw [setRow_other _ _ _ _ hkg, hW1, setRow_other _ _ _ _ hkg]
    rfl
  have hW := Lib.hid hW1
  have HC := Lib.hid hc1
  have s1 := Lib.hid hdl
  have s2 : Hid (∀ u ∈ xs.drop (i * 4 + 4), u.oneCell' = true) := show ∀ u ∈ _, _ from fun u hu => hx1 u (List.mem_of_mem_drop hu)
  have s3 : Hid (w.drew.heap[g]? = some (.cells cur.toArray 28 (0, 0))) := hg0
  have s4 := Lib.hid hfit1
  have hic : i ≤ cap := by omega
  have hjc : i + 1 ≤ cap := by omega
  have hb5 : (i : Int) < (n : Int) := by omega
  have hb6 : (i : Int) + 1 ≤ (n : Int) := by omega
  have hb7 : ¬ ((i : Int) = (i : Int) + 1) := by omega
  have htn : ((i : Int) + 1).toNat = i + 1 := by omega
  have hb8 : (0 : Int) ≤ (i : Int) + 1 := by omega
  have hb9 : i + (n - (i + 1)) = n - 1 := by omega
  clear hW1 hWg hc1 hdl hfit1 hg0 hcs ht hc1l hxl hx1
  go_enter Tryz.func83, Tryz.ntmps83
  go_wp2_with fail
  go_region_law (refine stepDelS rfl (.tmp 22) (.tmp 25) rfl g i cap (by simp [Act.eval, Act.put]) A (n - (i + 1)) (cap - (i + 1)) (by simp [Act.eval, Act.put]) cur s3.out (xs.drop (i * 4 + 4)) s1.out hsrc.out s2.out (by omega) s4.out ?_; try simp only []; rw [← HC.out, ← hW.out])
  go_wp2_with fail
  go_ret
  exact HEND.out
end Go.Proofs.YtccfcloekjogkaaGreat
