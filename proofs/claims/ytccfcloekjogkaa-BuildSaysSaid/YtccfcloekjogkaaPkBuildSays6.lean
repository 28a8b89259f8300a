/- Texts of one kind in one file. -/
import Derived.Deep.DeepCutAuto
import Derived.OwnWalk
import Derived.SizedLaws
import Derived.Test.YtccfcloekjogkaaPkBuildSays5
set_option maxRecDepth 100000
namespace Go.Proofs.Ytccfcloekjogkaa
open Go.RowKit
set_option maxHeartbeats 16000000 in
theorem look_main (root : Int) (A : Option Addr) (c : Nat) (l : List Nd) (hok : NdsOk l) (m : Nat) (hm : m ≤ 11)
    (ih : ∀ (y : Int) (u : World), TrAt u A l → Calls Try.prog 55 #[.agg #[.int .i64 root, .slice A l.length c], .int .i64 y, .int .i64 (m : Int)] u (LookEnd l m y u))
    (X : Nat) (n : Nd) (hn : ndOf l (X : Int) = some n) (hk : n.kd ≠ 0) (w : World) (h : TrAt w A l) :
    Calls Try.prog 55 #[.agg #[.int .i64 root, .slice A l.length c], .int .i64 (X : Int), .int .i64 ((m + 1 : Nat) : Int)] w (LookEnd l (m + 1) (X : Int) w) := by
  obtain ⟨i1, i2, i3⟩ := nd_of_in hn
  rw [Int.toNat_natCast] at i3
  have hXl : X < l.length := by omega
  have hxi : (X : Int) < (l.length : Int) := by omega
  have hR : Hid (lookR l (m + 1) (X : Int) = lookUpto l n (X : Int) (lookR l m) n.K.length) := show _ = _ by rw [lookR, hn]; simp only; rw [if_neg hk]
  obtain ⟨b, q, kd, A1, A2, A3, A4, c1, c2, c3, c4, E, K, S, T, hA, hbb, HN, HA, n0, n1, n2, n3, n4⟩ := h.get hXl
  cases hA
  have hnd : n = ⟨kd, A1, A2, A3, A4, c1, c2, c3, c4, E, K, S, T⟩ := by
    have := HN.out
    rw [i3] at this
    exact Option.some.inj this
  subst hnd
  simp only at hk
  have hsz := nd_sizes (hok _ (List.mem_of_getElem? i3))
  simp only at hsz
  have HSZ := Lib.hid hsz
  clear hsz
  obtain ⟨M, hM⟩ : ∃ M : Nat, m + 1 = M := ⟨_, rfl⟩
  rw [hM] at hR ⊢
  have hmi : ((M : Int) == 0) = false := by rw [beq_eq_false_iff_ne]; omega
  have eM : IntKind.i64.wrap ((M : Int) - 1) = (m : Int) := by rw [IntWalk.i64_in _ (by omega)]; omega
  have d1 : decide ((X : Int) < 0) = false := by rw [decide_eq_false_iff_not]; omega
  have d2 : decide (l.length ≤ X) = false := by rw [decide_eq_false_iff_not]; omega
  have HMm := Lib.hid hM
  clear hM
  have hki : (kd == 0) = false := by rw [beq_eq_false_iff_ne]; exact hk
  have hx := heap_past (.cells bnZ 94) (heap_new w (.cells #[.int .i64 root, .slice (some ⟨b, q, none⟩) l.length c] 25))
  have hz := heap_new (w.alloc (.cells #[.int .i64 root, .slice (some ⟨b, q, none⟩) l.length c] 25)) (.cells bnZ 94)
  rw [World.size_alloc] at hz
  have hu := ((Calm.refl w).alloc (.cells #[.int .i64 root, .slice (some ⟨b, q, none⟩) l.length c] 25)).alloc (.cells bnZ 94)
  have hs1 : ((w.alloc (.cells #[.int .i64 root, .slice (some ⟨b, q, none⟩) l.length c] 25)).alloc (.cells bnZ 94)).heap.size = w.heap.size + 2 := by simp
  have HT := Lib.hid h
  unfold bnZ at hx hz hu hs1
  go_enter Try.func55, Try.ntmps55
  generalize hQ0 : bodyPost Try.prog Try.f55 (LookEnd l M (X : Int) w) = Q0
  have HRET : Hid (∀ a w', bodyPost Try.prog Try.f55 (LookEnd l M (X : Int) w) .ret a w' → Q0 .ret a w') := show ∀ _ _, _ → _ from fun a w' h => by rw [← hQ0]; exact h
  clear hQ0
  go_upto_region 1 with fail
  generalize (w.alloc (.cells #[.int .i64 root, .slice (some ⟨b, q, none⟩) l.length c] 25)).alloc (.cells #[.slice none 0 0, .slice none 0 0, .int .i64 0, .slice none 0 0] 94) = w1 at hx hz hu hs1 ⊢
  obtain ⟨x0, x1, hxs⟩ := rowT hx
  have hvc := hu.facts.1
  replace n0 := (hvc _ _ hbb).trans n0; replace n1 := (hvc _ _ hbb).trans n1; replace n2 := (hvc _ _ hbb).trans n2; replace n3 := (hvc _ _ hbb).trans n3; replace n4 := (hvc _ _ hbb).trans n4
  replace hbb : b < w1.heap.size := Nat.lt_of_lt_of_le hbb hu.size
  have HS1 := Lib.hid hs1
  clear hvc hs1
  go_upto_region 4 with fail
  have hnb := heap_new w1 (.cells #[.int .i64 kd, .slice A1 E.length c1, .slice A2 K.length c2, .slice A3 S.length c3, .slice A4 T.length c4] 59)
  have hc3 := (Calm.refl w1).alloc (.cells #[.int .i64 kd, .slice A1 E.length c1, .slice A2 K.length c2, .slice A3 S.length c3, .slice A4 T.length c4] 59)
  have hsz3 : (w1.alloc (.cells #[.int .i64 kd, .slice A1 E.length c1, .slice A2 K.length c2, .slice A3 S.length c3, .slice A4 T.length c4] 59)).heap.size = w1.heap.size + 1 := by simp
  have hnl : w1.heap.size < w1.heap.size + 1 := Nat.lt_succ_self _
  have hx3 := (hc3.block (rowT hx).2.2).trans hx
  have hz3 := (hc3.block (row4 hz).2.2.2.2).trans hz
  have hu3 := hu.call hc3
  have cCE := fun u (hu : Calm w u) => clone_any A1 c1 E u (by have := HSZ.out.1; omega) (HA.out.calm hu).e
  have cCS := fun u (hu : Calm w u) => cloneS_any A3 c3 S u (by have := HSZ.out.2.2.1; omega) (HA.out.calm hu).s
  generalize w1.alloc (.cells #[.int .i64 kd, .slice A1 E.length c1, .slice A2 K.length c2, .slice A3 S.length c3, .slice A4 T.length c4] 59) = w3 at hnb hsz3 hx3 hz3 hu3 ⊢
  rw [← hsz3] at hnl
  have HSZ3 := Lib.hid hsz3
  clear hsz3
  clear hc3 x0 x1 hxs n0 n1 n2 n3 n4 hbb
  have HU3 := Lib.hid hu3
  refine wp_region_stages [.val (.pointer (some ⟨w1.heap.size, 1, none⟩)), .val (.slice A1 E.length c1), .late, .val (.pointer (some ⟨w1.heap.size, 3, none⟩)), .val (.slice A3 S.length c3), .late, .val (.int .i64 (X : Int)), .late, .late [2, 5, 7], .late, .late [8, 9]] [2, 5, 7, 8, 9, 10]
    (St4 w3 w3.heap.size E S (X : Int)) (by kernel_rfl) (by kernel_rfl) (by kernel_rfl) St4.stay (fun Y => .inl ⟨_, _, _, _, _, rfl, (Pre4.start (Nat.le_refl _)).stay ((Calm.refl _).drew)⟩) (fun Y => ?_)
  refine planS_val (by kernel_rfl) (fun L u hb hS => ?_) ?_
  · go_simp
  simp only [Act.put, List.setIfInBounds_toArray, List.set_cons_zero, List.set_cons_succ, Nat.reduceAdd]
  refine planS_val (by kernel_rfl) (fun L u hb hS => ?_) ?_
  · obtain ⟨m0, m1, m2, m3, m4, hms⟩ := row5 ((hS.calm.block hnl).trans hnb)
    clear hS hb
    go_simp
  simp only [Act.put, List.setIfInBounds_toArray, List.set_cons_zero, List.set_cons_succ, Nat.reduceAdd]
  refine planS_late (fun L u hi hb hS => ?_) ?_
  · obtain ⟨h10, hP⟩ := hS.pre (by simp [hi])
    rw [hi] at hP
    have HP := Lib.hid hP
    have H10 := Lib.hid h10
    clear hS hP h10
    go_wp2_with (go_at_call 83; (with_reducible refine (cCE _ (HU3.out.call HP.out.calm)).mono ?_); rintro e w9 ⟨v, rfl, ho, hb9⟩)
    exact .inl ⟨true, L 5, L 7, L 8, L 9, by simp [updB, H10.out], HP.out.do2 ho hb9⟩
  simp only [Act.put, List.setIfInBounds_toArray, List.set_cons_zero, List.set_cons_succ, Nat.reduceAdd]
  refine planS_val (by kernel_rfl) (fun L u hb hS => ?_) ?_
  · go_simp
  simp only [Act.put, List.setIfInBounds_toArray, List.set_cons_zero, List.set_cons_succ, Nat.reduceAdd]
  refine planS_val (by kernel_rfl) (fun L u hb hS => ?_) ?_
  · obtain ⟨m0, m1, m2, m3, m4, hms⟩ := row5 ((hS.calm.block hnl).trans hnb)
    clear hS hb
    go_simp
  simp only [Act.put, List.setIfInBounds_toArray, List.set_cons_zero, List.set_cons_succ, Nat.reduceAdd]
  refine planS_late (fun L u hi hb hS => ?_) ?_
  · obtain ⟨h10, hP⟩ := hS.pre (by simp [hi])
    rw [hi] at hP
    have HP := Lib.hid hP
    have H10 := Lib.hid h10
    clear hS hP h10
    go_wp2_with (go_at_call 89; (with_reducible refine (cCS _ (HU3.out.call HP.out.calm)).mono ?_); rintro e w9 ⟨v, rfl, ho, hb9⟩)
    exact .inl ⟨L 2, true, L 7, L 8, L 9, by simp [updB, H10.out], HP.out.do5 ho hb9⟩
  simp only [Act.put, List.setIfInBounds_toArray, List.set_cons_zero, List.set_cons_succ, Nat.reduceAdd]
  refine planS_val (by kernel_rfl) (fun L u hb hS => ?_) ?_
  · go_simp
  simp only [Act.put, List.setIfInBounds_toArray, List.set_cons_zero, List.set_cons_succ, Nat.reduceAdd]
  refine planS_late (fun L u hi hb hS => ?_) ?_
  · obtain ⟨h10, hP⟩ := hS.pre (by simp [hi])
    rw [hi] at hP
    have HP := Lib.hid hP
    have H10 := Lib.hid h10
    clear hS hP h10
    go_wp2_with fail
    exact .inl ⟨L 2, L 5, true, L 8, L 9, by simp [updB, H10.out], HP.out.do7⟩
  simp only [Act.put, List.setIfInBounds_toArray, List.set_cons_zero, List.set_cons_succ, Nat.reduceAdd]
  refine planS_late (fun L u hi hb hS => ?_) ?_
  · obtain ⟨h10, hP⟩ := hS.pre (by simp [hi])
    rw [hi, hb 2 (by simp), hb 5 (by simp), hb 7 (by simp)] at hP
    have HP := Lib.hid hP
    have H10 := Lib.hid h10
    have H2 := Lib.hid (hb 2 (by simp))
    have H5 := Lib.hid (hb 5 (by simp))
    have H7 := Lib.hid (hb 7 (by simp))
    obtain ⟨a2, b2, e2⟩ := (hP.e rfl).slice
    obtain ⟨a5, b5, e5⟩ := (hP.s rfl).slice
    obtain ⟨a7, b7, e7⟩ := (hP.n rfl).slice
    have hQ := HP.out.do8
    rw [e2, e5, e7] at hQ ⊢
    have HQ := Lib.hid hQ
    clear hS hP h10 hb hQ e2 e5 e7
    go_wp2_with fail
    exact .inl ⟨true, true, true, true, L 9, by simp [updB, H10.out, H2.out, H5.out, H7.out], HQ.out⟩
  simp only [Act.put, List.setIfInBounds_toArray, List.set_cons_zero, List.set_cons_succ, Nat.reduceAdd]
  refine planS_late (fun L u hi hb hS => ?_) ?_
  · obtain ⟨h10, hP⟩ := hS.pre (by simp [hi])
    rw [hi] at hP
    have HP := Lib.hid hP
    have H10 := Lib.hid h10
    clear hS hP h10
    go_wp2_with fail
    exact .inl ⟨L 2, L 5, L 7, L 8, true, by simp [updB, H10.out], HP.out.do9⟩
  simp only [Act.put, List.setIfInBounds_toArray, List.set_cons_zero, List.set_cons_succ, Nat.reduceAdd]
  refine planS_late (fun L u hi hb hS => ?_) ?_
  · obtain ⟨h10, hP⟩ := hS.pre (by simp [hi])
    rw [hb 8 (by simp), hb 9 (by simp)] at hP
    obtain ⟨t2, t5, t7, e8⟩ := hP.a rfl
    rw [t2, t5, t7] at hP
    obtain ⟨g, e9, hBg, hg⟩ := hP.g rfl
    obtain ⟨a2, b2, e2⟩ := (hP.e rfl).slice
    obtain ⟨a5, b5, e5⟩ := (hP.s rfl).slice
    obtain ⟨a7, b7, e7⟩ := (hP.n rfl).slice
    have hQ := hP.do10 (Nat.le_refl _) e9 hBg hg
    have H := Lib.hid (show [2, 5, 7, 8, 9, 10].map (updB L 10) = [true, true, true, true, true, true] by simp [updB, t2, t5, t7, hb 8 (by simp), hb 9 (by simp)])
    have HQ : Hid (∀ y, St4 w3 w3.heap.size E S (X : Int) ([2, 5, 7, 8, 9, 10].map (updB L 10)) (updV Y 10 y) (World.four u g 0 (Y 2) (Y 5) (.int .i64 1) (Y 7))) := show ∀ _, _ from fun y => .inr ⟨H.out, hQ.1, g, e9, hQ.2⟩
    unfold bnZ at hg
    obtain ⟨z0, z1, z2, z3, hzs⟩ := row4 hg
    obtain ⟨f0, f1, f2, f3, f4, f5⟩ := free6 hg
    rw [e2, e5, e7] at HQ e8
    rw [e8, e9]
    clear hS hP h10 hb hQ e2 e5 e7 e8 H hg t2 t5 t7
    go_wp2_with fail
    exact ⟨undef, HQ.out undef⟩
  simp only [Act.put, Nat.reduceAdd]
  refine planS_end ?_
  intro w4 hS
  obtain ⟨hu4, g, e9, hO⟩ : Calm w3 w4 ∧ ∃ g, Y 9 = .pointer (some ⟨g, 0, none⟩) ∧ OutOk w3.heap.size w4 g (Y 2) (Y 5) (Y 7) 1 E S [(X : Int)] := by
    rcases hS with ⟨_, _, _, _, _, h1, -⟩ | ⟨-, h2⟩
    · simp at h1
    · exact h2
  rw [e9]
  generalize Y 2 = vE at hO ⊢
  generalize Y 5 = vS at hO ⊢
  generalize Y 7 = vN at hO ⊢
  generalize Y 8 = v8
  clear hS e9 Y
  have hnb4 := (hu4.block hnl).trans hnb
  obtain ⟨m0, m1, m2, m3, m4, hms⟩ := row5 hnb4
  have HU4 := Lib.hid hu4
  clear hu4 hnb4
  go_wp2_with fail
  go_loopw [60] (fun i wr => ∃ (k : Nat) (o : Bn) (vE vS vN : Value), k ≤ K.length ∧ i = .int .i64 k ∧ Hid (lookUpto l ⟨kd, A1, A2, A3, A4, c1, c2, c3, c4, E, K, S, T⟩ (X : Int) (lookR l m) k = some o) ∧ Hid (OutOk w3.heap.size wr g vE vS vN o.D o.E o.S o.N) ∧ Hid (Calm w3 wr)) (fun i _ => K.length - (intOf i).toNat)
  case atStart => exact ⟨0, ⟨E, S, 1, [(X : Int)]⟩, vE, vS, vN, Nat.zero_le _, rfl, (show _ = _ by rw [lookUpto]), hO, HU4⟩
  clear m0 m1 m2 m3 m4 hms hO HU4
  case round =>
    obtain ⟨k, o, vE, vS, vN, hkK, rfl, hL, hO, hv⟩ := hrel
    have hnbr := (hv.out.block hnl).trans hnb
    have hxr := (hv.out.block (rowT hx3).2.2).trans hx3
    have hzr := (hv.out.block (row4 hz3).2.2.2.2).trans hz3
    have hvw := Lib.hid (HU3.out.call hv.out)
    obtain ⟨x0, x1, hxs⟩ := rowT hxr
    obtain ⟨m0, m1, m2, m3, m4, hms⟩ := row5 hnbr
    obtain ⟨z0, z1, z2, z3, hzs⟩ := row4 hzr
    obtain ⟨f0, f1, f2, f3, f4, f5⟩ := free6 hzr
    obtain ⟨o0, o1, o2, o3, hos⟩ := row4 hO.out.box
    obtain ⟨M1, hM1⟩ : ∃ M1 : Nat, Hid (wr.heap.size = M1) := ⟨_, rfl⟩
    have hgM : Hid (g < M1 ∧ ∀ k, vE.ownBlock = some k ∨ vS.ownBlock = some k ∨ vN.ownBlock = some k → k < M1) := show _ ∧ _ from ⟨by rw [← hM1.out]; exact (Array.getElem?_eq_some_iff.1 hO.out.box).1, fun k hk => by
      rw [← hM1.out]
      rcases hk with hk | hk | hk
      · exact (hO.out.own.e.lt k hk).2
      · exact (rows_lt hO.out.own.s k hk).2
      · exact (hO.out.own.n.lt k hk).2⟩
    obtain ⟨a2, b2, e2⟩ := hO.out.own.e.slice
    obtain ⟨a5, b5, e5⟩ := hO.out.own.s.slice
    obtain ⟨a7, b7, e7⟩ := hO.out.own.n.slice
    subst e2; subst e5; subst e7
    by_cases hlt : k < K.length
    rotate_left
    · have hge : (K.length : Int) ≤ (k : Int) := by omega
      have hkk : k = K.length := by omega
      have hRR : Hid (lookR l M (X : Int) = some o) := show _ = _ by rw [hR.out, ← hL.out, hkk]
      have hw13 : w.heap.size + 1 < w3.heap.size := by have a := HSZ3.out; have b := HS1.out; omega
      have h4 := set4 hzr (.slice a2 o.E.length b2) (.slice a5 o.S.length b5) (.int .i64 o.D) (.slice a7 o.N.length b7)
      have hc4 := hvw.out.four (g := w.heap.size + 1) (by omega) 0 (.slice a2 o.E.length b2) (.slice a5 o.S.length b5) (.int .i64 o.D) (.slice a7 o.N.length b7)
      have hne : ∀ j, w3.heap.size ≤ j → (World.four wr (w.heap.size + 1) 0 (.slice a2 o.E.length b2) (.slice a5 o.S.length b5) (.int .i64 o.D) (.slice a7 o.N.length b7)).heap[j]? = wr.heap[j]? := fun j hj => four_other _ _ _ _ (by omega)
      have hown := hO.out.own
      have hle : w.heap.size ≤ w3.heap.size := by omega
      have hEnd : LookEnd l M (X : Int) w (.returned (.tuple #[.agg #[.slice a2 o.E.length b2, .slice a5 o.S.length b5, .int .i64 o.D, .slice a7 o.N.length b7], .bool true])) (World.four wr (w.heap.size + 1) 0 (.slice a2 o.E.length b2) (.slice a5 o.S.length b5) (.int .i64 o.D) (.slice a7 o.N.length b7)) :=
        ⟨hc4, .inr ⟨o, _, _, _, hRR.out, rfl, ⟨(OwnR.same hown.e fun j hj => hne j (hown.e.lt j hj).1).weaken hle, rows_weaken (rows_same hown.s fun j hj => hne j (rows_lt hown.s j hj).1) hle, rows_weaken (rows_same hown.n fun j hj => hne j (hown.n.lt j hj).1) hle, hown.es, hown.en, hown.sn⟩⟩⟩
      clear hkk hL hR hRR hne hown hc4
      go_wp2_with fail
      exact HRET.out _ _ (end_bn rfl rfl _ _ (w.heap.size + 1) _ _ _ (0, 0) rfl rfl rfl h4 rfl hEnd)
    obtain ⟨bk, qk, y, hAk, hbk, HY, cyk⟩ := (HA.out.calm hvw.out).k.get hlt
    subst hAk
    have hbad : Hid (lookUpto l ⟨kd, A1, some ⟨bk, qk, none⟩, A3, A4, c1, c2, c3, c4, E, K, S, T⟩ (X : Int) (lookR l m) (k + 1) = none → ∀ w', Calm w w' → LookEnd l M (X : Int) w (.returned (.tuple #[.agg #[.slice none 0 0, .slice none 0 0, .int .i64 0, .slice none 0 0], .bool false])) w') := show _ → ∀ _, _ from fun hno w' hc =>
      ⟨hc, .inl ⟨by rw [hR.out]; exact upto_none hno (show k + 1 ≤ K.length by omega), rfl⟩⟩
    have hstep : Hid (lookUpto l ⟨kd, A1, some ⟨bk, qk, none⟩, A3, A4, c1, c2, c3, c4, E, K, S, T⟩ (X : Int) (lookR l m) (k + 1) = match lookR l m y with
        | none => none
        | some b => open Classical in if kidOk l ⟨kd, A1, some ⟨bk, qk, none⟩, A3, A4, c1, c2, c3, c4, E, K, S, T⟩ k o b y ∧ (o.N ++ b.N).length ≤ 400 then some ⟨o.E ++ b.E, o.S ++ b.S, b.D + 1, o.N ++ b.N⟩ else none) := show _ = _ by
      rw [lookUpto, hL.out]; simp only [HY.out]; rfl
    have cI := fun u (hu : Calm wr u) => ih y u (HT.out.calm (hvw.out.call hu))
    cases hlk : lookR l m y with
    | none =>
      have hno : Hid (lookR l m y = none) := hlk
      have hzero := Lib.hid (hbad.out (by rw [hstep.out, hlk]))
      clear hlk hstep hbad ih
      go_upto_region 9 with (go_at_call 55; (with_reducible refine (cI _ (Calm.refl _)).mono ?_); rintro e w5 ⟨hc5, hcase⟩; obtain ⟨-, rfl⟩ : _ ∧ e = _ := (hcase.elim id fun ⟨b, _, _, _, h9, _⟩ => by rw [hno.out] at h9; cases h9); clear hcase; unfold bnZ)
      have hc6 := hc5.alloc (.cells #[.slice none 0 0, .slice none 0 0, .int .i64 0, .slice none 0 0] 94)
      refine wp_region_plan [.val (.bool false), .val (.bool true), .val (.bool true), .idle, .idle, .idle, .idle, .idle, .idle, .idle, .idle, .idle, .idle, .idle, .idle, .idle, .idle, .idle, .idle, .val (.bool true), .val (.bool true), .idle, .idle, .idle, .idle, .idle, .idle, .idle, .idle, .idle, .idle, .val (.bool true)] (by kernel_rfl) (by kernel_rfl) (by kernel_rfl) ?_
      intro X
      iterate 3
        refine plan_val (by kernel_rfl) (fun u hu => ?_) ?_
        · obtain ⟨hc, hf, hz⟩ := hu.of_drew.facts
          go_simp
        simp only [Act.put, List.setIfInBounds_toArray, List.set_cons_zero, List.set_cons_succ, Nat.reduceAdd]
      iterate 16
        refine plan_idle (by kernel_rfl) ?_
        simp only [Act.put, List.setIfInBounds_toArray, List.set_cons_zero, List.set_cons_succ, Nat.reduceAdd]
      iterate 2
        refine plan_val (by kernel_rfl) (fun u hu => ?_) ?_
        · obtain ⟨hc, hf, hz⟩ := hu.of_drew.facts
          go_simp
        simp only [Act.put, List.setIfInBounds_toArray, List.set_cons_zero, List.set_cons_succ, Nat.reduceAdd]
      iterate 10
        refine plan_idle (by kernel_rfl) ?_
        simp only [Act.put, List.setIfInBounds_toArray, List.set_cons_zero, List.set_cons_succ, Nat.reduceAdd]
      iterate 1
        refine plan_val (by kernel_rfl) (fun u hu => ?_) ?_
        · obtain ⟨hc, hf, hz⟩ := hu.of_drew.facts
          go_simp
        simp only [Act.put, List.setIfInBounds_toArray, List.set_cons_zero, List.set_cons_succ, Nat.reduceAdd]
      refine plan_end ?_
      intro w' hB
      have hk := hB.calm.of_drew
      clear hB
      have hc7 := hc6.call hk
      have hz6 := (hc7.block (row4 hzr).2.2.2.2).trans hzr
      have h4 := set4 hz6 (.slice none 0 0) (.slice none 0 0) (.int .i64 0) (.slice none 0 0)
      have hcf := (hvw.out.call hc7).four (g := w.heap.size + 1) (by omega) 0 (.slice none 0 0) (.slice none 0 0) (.int .i64 0) (.slice none 0 0)
      have hEnd := hzero.out _ hcf
      obtain ⟨z0, z1, z2, z3, hzs⟩ := row4 hz6
      obtain ⟨f0, f1, f2, f3, f4, f5⟩ := free6 hz6
      clear hcf
      go_wp2_with fail
      exact HRET.out _ _ (end_bn rfl rfl _ _ (w.heap.size + 1) _ _ _ (0, 0) rfl rfl rfl h4 rfl hEnd)
    | some bb =>
      have hbl := look_len hok hlk
      have HWF := Lib.hid (look_wf HT.out hok hlk)
      have HWS := Lib.hid (look_ws HT.out hok hlk)
      have hol := upto_len hok (n := ⟨kd, A1, some ⟨bk, qk, none⟩, A3, A4, c1, c2, c3, c4, E, K, S, T⟩) HSZ.out.1 HSZ.out.2.2.1 k o hL.out
      have hyn : ∃ nk, ndOf l y = some nk := by
        obtain ⟨d, hd0, -, hsb, -⟩ := of_look hok m y bb hlk
        cases d with
        | zero => exact absurd hsb id
        | succ d => obtain ⟨nk, hnk, -⟩ := hsb; exact ⟨nk, hnk⟩
      obtain ⟨nk, hnk⟩ := hyn
      obtain ⟨j1', j2', j3'⟩ := nd_of_in hnk
      obtain ⟨Y, rfl⟩ : ∃ Y : Nat, y = (Y : Int) := ⟨y.toNat, by omega⟩
      have hYl : Y < l.length := by omega
      have hno : Hid (lookR l m (Y : Int) = some bb) := hlk
      rw [hlk] at hstep
      simp only at hstep
      have HBL := Lib.hid hbl
      have HOL := Lib.hid hol
      clear hlk ih hbl hol j1' j2'
      go_upto_region 9 with (go_at_call 55; (with_reducible refine (cI _ (Calm.refl _)).mono ?_); rintro e w5 ⟨hc5, hcase⟩; obtain ⟨v1, v2, v3, rfl, hB⟩ : ∃ v1 v2 v3, e = .returned (.tuple #[.agg #[v1, v2, .int .i64 bb.D, v3], .bool true]) ∧ Own3 wr.heap.size w5 v1 v2 v3 bb.E bb.S bb.N := hcase.elim (fun h9 => absurd (h9.1.symm.trans hno.out) (by simp)) (fun ⟨b', v1, v2, v3, h9, h10, h11⟩ => ⟨v1, v2, v3, (by rw [Option.some.inj (h9.symm.trans hno.out)] at h10; exact h10), (by rw [Option.some.inj (h9.symm.trans hno.out)] at h11; exact h11)⟩); clear hcase; obtain ⟨p2, r2, g2⟩ := hB.e.slice; obtain ⟨p5, r5, g5⟩ := hB.s.slice; obtain ⟨p7, r7, g7⟩ := hB.n.slice; subst g2; subst g5; subst g7)
      have hc6 := hc5.alloc (.cells #[.slice p2 bb.E.length r2, .slice p5 bb.S.length r5, .int .i64 bb.D, .slice p7 bb.N.length r7] 94)
      have hbx := heap_new w5 (.cells #[.slice p2 bb.E.length r2, .slice p5 bb.S.length r5, .int .i64 bb.D, .slice p7 bb.N.length r7] 94)
      have hB6 := hB.calm ((Calm.refl w5).alloc (.cells #[.slice p2 bb.E.length r2, .slice p5 bb.S.length r5, .int .i64 bb.D, .slice p7 bb.N.length r7] 94))
      have hw5 : wr.heap.size ≤ w5.heap.size := hc5.size
      generalize w5.alloc (.cells #[.slice p2 bb.E.length r2, .slice p5 bb.S.length r5, .int .i64 bb.D, .slice p7 bb.N.length r7] 94) = w6 at hc6 hbx hB6 ⊢
      have HB6 : Hid (Own3 M1 w6 _ _ _ bb.E bb.S bb.N) := show Own3 _ _ _ _ _ _ _ _ from hM1.out ▸ hB6
      have hgx : Hid (M1 ≤ w5.heap.size) := show _ ≤ _ from hM1.out ▸ hw5
      have hx6 := (hc6.block (rowT hxr).2.2).trans hxr
      have hn6 := (hc6.block (row5 hnbr).2.2.2.2.2).trans hnbr
      have HO6 := Lib.hid (hO.out.calm hc6)
      obtain ⟨b', q', kd2, G1, G2, G3, G4, j1, j2, j3, j4, E2, K2, S2, T2, hA', hbb6, HN2, HA2, n0, n1, n2, n3, n4⟩ := (HT.out.calm (hvw.out.call hc6)).get hYl
      cases hA'
      have hsz2 := nd_sizes (hok _ (List.mem_of_getElem? HN2.out))
      simp only at hsz2
      have hso : Hid (sizeOf l (Y : Int) = E2.length + K2.length) := show _ = _ by unfold sizeOf; rw [Int.toNat_natCast, HN2.out]
      obtain ⟨s, hs⟩ : ∃ s : Nat, E2.length + K2.length = s := ⟨_, rfl⟩
      have e90 : IntKind.i64.wrap ((E2.length : Int) + (K2.length : Int)) = (s : Int) := by rw [IntWalk.i64_in _ (by omega)]; omega
      rw [hs] at hso
      have hs16 : s ≤ 16 := by omega
      clear x0 x1 hxs m0 m1 m2 m3 m4 hms o0 o1 o2 o3 hos z0 z1 z2 z3 hzs f0 f1 f2 f3 f4 f5 hB hB6 hs hsz2 cyk
      obtain ⟨x0, x1, hxs⟩ := rowT hx6
      obtain ⟨m0, m1, m2, m3, m4, hms⟩ := row5 hn6
      obtain ⟨o0, o1, o2, o3, hos⟩ := row4 HO6.out.box
      obtain ⟨t0, t1, t2, t3, hts⟩ := row4 hbx
      by_cases hs4 : s < 4
      · have hzero := Lib.hid (hbad.out (by rw [hstep.out, if_neg (fun h => by have := h.1.1; rw [hso.out] at this; omega)]))
        have hsi : (s : Int) < 4 := by omega
        clear hbad hstep
        refine wp_region_plan [.val (.bool true), .val (.bool false), .val (.bool false), .val (.pointer (some ⟨w.heap.size, 1, none⟩)), .val (.slice (some ⟨b, q, none⟩) l.length c), .val (.int .i64 (Y)), .val (.pointer (some ⟨b, q+Y*5, none⟩)), .val (.pointer (some ⟨b, q+Y*5+1, none⟩)), .val (.slice G1 E2.length j1), .val (.int .i64 (E2.length)), .val (.pointer (some ⟨w.heap.size, 1, none⟩)), .val (.slice (some ⟨b, q, none⟩) l.length c), .val (.int .i64 (Y)), .val (.pointer (some ⟨b, q+Y*5, none⟩)), .val (.pointer (some ⟨b, q+Y*5+2, none⟩)), .val (.slice G2 K2.length j2), .val (.int .i64 (K2.length)), .val (.int .i64 (s)), .val (.bool true), .val (.bool true), .val (.bool true), .idle, .idle, .idle, .idle, .idle, .idle, .idle, .idle, .idle, .idle, .val (.bool true)] (by kernel_rfl) (by kernel_rfl) (by kernel_rfl) ?_
        intro X
        iterate 21
          refine plan_val (by kernel_rfl) (fun u hu => ?_) ?_
          · obtain ⟨hc, hf, hz⟩ := hu.of_drew.facts
            go_simp
            all_goals first
              | (exact e90)
          simp only [Act.put, List.setIfInBounds_toArray, List.set_cons_zero, List.set_cons_succ, Nat.reduceAdd]
        iterate 10
          refine plan_idle (by kernel_rfl) ?_
          simp only [Act.put, List.setIfInBounds_toArray, List.set_cons_zero, List.set_cons_succ, Nat.reduceAdd]
        iterate 1
          refine plan_val (by kernel_rfl) (fun u hu => ?_) ?_
          · obtain ⟨hc, hf, hz⟩ := hu.of_drew.facts
            go_simp
            all_goals first
              | (exact e90)
          simp only [Act.put, List.setIfInBounds_toArray, List.set_cons_zero, List.set_cons_succ, Nat.reduceAdd]
        refine plan_end ?_
        intro w' hB
        have hk := hB.calm.of_drew
        clear hB
        have hc7 := hc6.call hk
        have hz6 := (hc7.block (row4 hzr).2.2.2.2).trans hzr
        have h4 := set4 hz6 (.slice none 0 0) (.slice none 0 0) (.int .i64 0) (.slice none 0 0)
        have hcf := (hvw.out.call hc7).four (g := w.heap.size + 1) (by omega) 0 (.slice none 0 0) (.slice none 0 0) (.int .i64 0) (.slice none 0 0)
        have hEnd := hzero.out _ hcf
        obtain ⟨z0, z1, z2, z3, hzs⟩ := row4 hz6
        obtain ⟨f0, f1, f2, f3, f4, f5⟩ := free6 hz6
        clear hcf
        go_wp2_with fail
        exact HRET.out _ _ (end_bn rfl rfl _ _ (w.heap.size + 1) _ _ _ (0, 0) rfl rfl rfl h4 rfl hEnd)
      have hsi : ¬ (s : Int) < 4 := by omega
      have hD1 : IntKind.i64.wrap (bb.D + 1) = bb.D + 1 := IntWalk.i64_in _ (by have a := HBL.out.d1; have b := HBL.out.d2; omega)
      by_cases hdd : 0 < k ∧ o.D ≠ bb.D + 1
      · have hzero := Lib.hid (hbad.out (by rw [hstep.out, if_neg (fun h => hdd.2 (h.1.2.1 hdd.1))]))
        have hkp : (k : Int) > 0 := by omega
        have hne : o.D ≠ bb.D + 1 := hdd.2
        clear hbad hstep
        refine wp_region_plan [.val (.bool true), .val (.bool false), .val (.bool false), .val (.pointer (some ⟨w.heap.size, 1, none⟩)), .val (.slice (some ⟨b, q, none⟩) l.length c), .val (.int .i64 (Y)), .val (.pointer (some ⟨b, q+Y*5, none⟩)), .val (.pointer (some ⟨b, q+Y*5+1, none⟩)), .val (.slice G1 E2.length j1), .val (.int .i64 (E2.length)), .val (.pointer (some ⟨w.heap.size, 1, none⟩)), .val (.slice (some ⟨b, q, none⟩) l.length c), .val (.int .i64 (Y)), .val (.pointer (some ⟨b, q+Y*5, none⟩)), .val (.pointer (some ⟨b, q+Y*5+2, none⟩)), .val (.slice G2 K2.length j2), .val (.int .i64 (K2.length)), .val (.int .i64 (s)), .val (.bool false), .val (.bool false), .val (.bool false), .val (.int .i64 (k)), .val (.bool true), .val (.bool true), .val (.pointer (some ⟨g, 2, none⟩)), .val (.int .i64 (o.D)), .val (.pointer (some ⟨w5.heap.size, 2, none⟩)), .val (.int .i64 (bb.D)), .val (.int .i64 (bb.D + 1)), .val (.bool true), .val (.bool true), .val (.bool true)] (by kernel_rfl) (by kernel_rfl) (by kernel_rfl) ?_
        intro X
        iterate 32
          refine plan_val (by kernel_rfl) (fun u hu => ?_) ?_
          · obtain ⟨hc, hf, hz⟩ := hu.of_drew.facts
            go_simp
            all_goals first
              | (exact e90)
              | (exact hD1)
          simp only [Act.put, List.setIfInBounds_toArray, List.set_cons_zero, List.set_cons_succ, Nat.reduceAdd]
        refine plan_end ?_
        intro w' hB
        have hk := hB.calm.of_drew
        clear hB
        have hc7 := hc6.call hk
        have hz6 := (hc7.block (row4 hzr).2.2.2.2).trans hzr
        have h4 := set4 hz6 (.slice none 0 0) (.slice none 0 0) (.int .i64 0) (.slice none 0 0)
        have hcf := (hvw.out.call hc7).four (g := w.heap.size + 1) (by omega) 0 (.slice none 0 0) (.slice none 0 0) (.int .i64 0) (.slice none 0 0)
        have hEnd := hzero.out _ hcf
        obtain ⟨z0, z1, z2, z3, hzs⟩ := row4 hz6
        obtain ⟨f0, f1, f2, f3, f4, f5⟩ := free6 hz6
        clear hcf
        go_wp2_with fail
        exact HRET.out _ _ (end_bn rfl rfl _ _ (w.heap.size + 1) _ _ _ (0, 0) rfl rfl rfl h4 rfl hEnd)
      have hde : 0 < k → o.D = bb.D + 1 := fun hk0 => Decidable.byContradiction fun h => hdd ⟨hk0, h⟩
      clear hdd
      go_cut [104] from 73 to 104 (fun s104 wx => s104 = .bool false ∧ Hid (Calm w6 wx))
      case first =>
        rcases Nat.lt_or_ge 0 k with hk0 | hk0
        · have hde1 := hde hk0
          have hkp : (k : Int) > 0 := by omega
          refine wp_region_plan [.val (.bool true), .val (.bool false), .val (.bool false), .val (.pointer (some ⟨w.heap.size, 1, none⟩)), .val (.slice (some ⟨b, q, none⟩) l.length c), .val (.int .i64 (Y)), .val (.pointer (some ⟨b, q+Y*5, none⟩)), .val (.pointer (some ⟨b, q+Y*5+1, none⟩)), .val (.slice G1 E2.length j1), .val (.int .i64 (E2.length)), .val (.pointer (some ⟨w.heap.size, 1, none⟩)), .val (.slice (some ⟨b, q, none⟩) l.length c), .val (.int .i64 (Y)), .val (.pointer (some ⟨b, q+Y*5, none⟩)), .val (.pointer (some ⟨b, q+Y*5+2, none⟩)), .val (.slice G2 K2.length j2), .val (.int .i64 (K2.length)), .val (.int .i64 (s)), .val (.bool false), .val (.bool false), .val (.bool false), .val (.int .i64 (k)), .val (.bool true), .val (.bool true), .val (.pointer (some ⟨g, 2, none⟩)), .val (.int .i64 (o.D)), .val (.pointer (some ⟨w5.heap.size, 2, none⟩)), .val (.int .i64 (bb.D)), .val (.int .i64 (bb.D + 1)), .val (.bool false), .val (.bool false), .val (.bool false)] (by kernel_rfl) (by kernel_rfl) (by kernel_rfl) ?_
          intro X
          iterate 32
            refine plan_val (by kernel_rfl) (fun u hu => ?_) ?_
            · obtain ⟨hc, hf, hz⟩ := hu.of_drew.facts
              go_simp
              all_goals first
                | (exact e90)
                | (exact hD1)
            simp only [Act.put, List.setIfInBounds_toArray, List.set_cons_zero, List.set_cons_succ, Nat.reduceAdd]
          refine plan_end ?_
          intro w' hB
          have hk := hB.calm.of_drew
          clear hB
          clear x0 x1 hxs m0 m1 m2 m3 m4 hms o0 o1 o2 o3 hos t0 t1 t2 t3 hts
          go_wp2_with fail
          go_meet
          exact ⟨rfl, hk⟩
        · have hkp : ¬ (k : Int) > 0 := by omega
          refine wp_region_plan [.val (.bool true), .val (.bool false), .val (.bool false), .val (.pointer (some ⟨w.heap.size, 1, none⟩)), .val (.slice (some ⟨b, q, none⟩) l.length c), .val (.int .i64 (Y)), .val (.pointer (some ⟨b, q+Y*5, none⟩)), .val (.pointer (some ⟨b, q+Y*5+1, none⟩)), .val (.slice G1 E2.length j1), .val (.int .i64 (E2.length)), .val (.pointer (some ⟨w.heap.size, 1, none⟩)), .val (.slice (some ⟨b, q, none⟩) l.length c), .val (.int .i64 (Y)), .val (.pointer (some ⟨b, q+Y*5, none⟩)), .val (.pointer (some ⟨b, q+Y*5+2, none⟩)), .val (.slice G2 K2.length j2), .val (.int .i64 (K2.length)), .val (.int .i64 (s)), .val (.bool false), .val (.bool false), .val (.bool false), .val (.int .i64 (k)), .val (.bool false), .val (.bool false), .idle, .idle, .idle, .idle, .idle, .idle, .val (.bool false), .val (.bool false)] (by kernel_rfl) (by kernel_rfl) (by kernel_rfl) ?_
          intro X
          iterate 24
            refine plan_val (by kernel_rfl) (fun u hu => ?_) ?_
            · obtain ⟨hc, hf, hz⟩ := hu.of_drew.facts
              go_simp
              all_goals first
                | (exact e90)
            simp only [Act.put, List.setIfInBounds_toArray, List.set_cons_zero, List.set_cons_succ, Nat.reduceAdd]
          iterate 6
            refine plan_idle (by kernel_rfl) ?_
            simp only [Act.put, List.setIfInBounds_toArray, List.set_cons_zero, List.set_cons_succ, Nat.reduceAdd]
          iterate 2
            refine plan_val (by kernel_rfl) (fun u hu => ?_) ?_
            · obtain ⟨hc, hf, hz⟩ := hu.of_drew.facts
              go_simp
              all_goals first
                | (exact e90)
            simp only [Act.put, List.setIfInBounds_toArray, List.set_cons_zero, List.set_cons_succ, Nat.reduceAdd]
          refine plan_end ?_
          intro w' hB
          have hk := hB.calm.of_drew
          clear hB
          clear x0 x1 hxs m0 m1 m2 m3 m4 hms o0 o1 o2 o3 hos t0 t1 t2 t3 hts
          go_wp2_with fail
          go_meet
          exact ⟨rfl, hk⟩
      case rest =>
        obtain ⟨rfl, HK⟩ := hcut
        have hc7 := hc6.call HK.out
        have hbx7 := (HK.out.block (row4 hbx).2.2.2.2).trans hbx
        have HB7 := Lib.hid (HB6.out.calm HK.out)
        clear x0 x1 hxs m0 m1 m2 m3 m4 hms o0 o1 o2 o3 hos t0 t1 t2 t3 hts
        obtain ⟨t0, t1, t2, t3, hts⟩ := row4 hbx7
        obtain ⟨A5, c5, e5, hL5⟩ := HB7.out.s.lies HWF.out.2
        injection e5 with e51 _ e52
        subst e51; subst e52
        have HL5 := Lib.hid hL5
        have HLE := Lib.hid (HB7.out.e.at_ HWF.out.1)
        clear hL5
        go_wp2_with (go_at_call 89; (with_reducible refine (cloneS_any _ _ bb.S _ (by have := HBL.out.s; omega) HL5.out).mono ?_); rintro e w8 ⟨v8, rfl, ho8, hb8⟩; have hbx8 := (hb8.block (row4 hbx7).2.2.2.2).trans hbx7; clear t0 t1 t2 t3 hts; obtain ⟨t0, t1, t2, t3, hts⟩ := row4 hbx8)
        have HO8 := Lib.hid ho8
        clear ho8
        go_loopw [14, 15, 112] (fun a v i wq => ∃ j : Nat, j ≤ bb.E.length ∧ i = .int .i64 j ∧ a = .int .i64 (lateOf (bb.E.take j)) ∧ Hid (OwnS wc.heap.size wq v (bb.S ++ (bb.E.take j).map El.sp)) ∧ Hid (Calm wc wq)) (fun _ _ i _ => bb.E.length - (intOf i).toNat)
        case atStart => exact ⟨0, Nat.zero_le _, rfl, rfl, (show OwnS _ _ _ _ by simpa using HO8.out), hb8⟩
        clear hb8 HO8 t0 t1 t2 t3 hts hbx8
        case round =>
          obtain ⟨j, hj, rfl, rfl, ho, hq⟩ := hrel
          by_cases hjl : j < bb.E.length
          rotate_left
          · have hjj : bb.E.take j = bb.E := List.take_of_length_le (by omega)
            rw [hjj] at ho
            rw [hjj]
            have hcw := Lib.hid (hc7.call hq.out)
            have hvn := Lib.hid (hvw.out.call hcw.out)
            have hkT : k < T.length := by have := HSZ.out.2.2.2.1; omega
            obtain ⟨bt, qt, t, hAt, hbt, HTT, cyt⟩ := (HA.out.calm hvn.out).t.get hkT
            subst hAt
            have hn9 := (hcw.out.block (row5 hnbr).2.2.2.2.2).trans hnbr
            have hz9 := (hcw.out.block (row4 hzr).2.2.2.2).trans hzr
            obtain ⟨m0, m1, m2, m3, m4, hms⟩ := row5 hn9
            obtain ⟨z0, z1, z2, z3, hzs⟩ := row4 hz9
            obtain ⟨f0, f1, f2, f3, f4, f5⟩ := free6 hz9
            obtain ⟨la, hla⟩ : ∃ la, lateOf bb.E = la := ⟨_, rfl⟩
            rw [hla]
            have HLA := Lib.hid hla
            clear hla hjj
            by_cases hlt9 : la = t
            rotate_left
            · have hzero := Lib.hid (hbad.out (by rw [hstep.out, if_neg (fun h => by have a := h.1.2.2.1; rw [HLA.out] at a; exact hlt9 (Option.some.inj (a.symm.trans HTT.out)))]))
              have h4 := set4 hz9 (.slice none 0 0) (.slice none 0 0) (.int .i64 0) (.slice none 0 0)
              have hcf := hvn.out.four (g := w.heap.size + 1) (by omega) 0 (.slice none 0 0) (.slice none 0 0) (.int .i64 0) (.slice none 0 0)
              have hEnd := hzero.out _ hcf
              clear hcf
              go_wp2_with fail
              exact HRET.out _ _ (end_bn rfl rfl _ _ (w.heap.size + 1) _ _ _ (0, 0) rfl rfl rfl h4 rfl hEnd)
            subst hlt9
            obtain ⟨LL, hLL⟩ : ∃ LL, bb.S ++ bb.E.map El.sp = LL := ⟨_, rfl⟩
            rw [hLL] at ho HWS
            have hLn : LL.length ≤ 6400 := by
              have a := HBL.out.s; have b := HBL.out.e
              rw [← hLL, List.length_append, List.length_map]; omega
            have HLL := Lib.hid hLL
            clear hLL
            obtain ⟨A9, c9, e9, hL9⟩ := ho.out.lies (HWS.out)
            subst e9
            have HL9 := Lib.hid hL9
            clear hL9
            go_wp2_with fail
            go_loopw [136] (fun i wx => ∃ j : Nat, j ≤ LL.length ∧ i = .int .i64 j ∧ Hid (∀ s ∈ LL.take j, betw S k s) ∧ Hid (Calm wr wx)) (fun i _ => LL.length - (intOf i).toNat)
            case atStart => exact ⟨0, Nat.zero_le _, rfl, (show ∀ _ ∈ _, _ by simp), Calm.refl _⟩
            clear m0 m1 m2 m3 m4 hms z0 z1 z2 z3 hzs f0 f1 f2 f3 f4 f5
            case round =>
              obtain ⟨j3, hj3, rfl, hbt3, hq3⟩ := hrel
              have hcx := Lib.hid (hcw.out.call hq3.out)
              have hvx := Lib.hid (hvw.out.call hcx.out)
              have hn3 := (hcx.out.block (row5 hnbr).2.2.2.2.2).trans hnbr
              have hz3x := (hcx.out.block (row4 hzr).2.2.2.2).trans hzr
              have HOx := Lib.hid (hO.out.calm hcx.out)
              have hbx9 := ((hq.out.call hq3.out).block (row4 hbx7).2.2.2.2).trans hbx7
              obtain ⟨m0, m1, m2, m3, m4, hms⟩ := row5 hn3
              obtain ⟨z0, z1, z2, z3, hzs⟩ := row4 hz3x
              obtain ⟨f0, f1, f2, f3, f4, f5⟩ := free6 hz3x
              obtain ⟨o0, o1, o2, o3, hos⟩ := row4 HOx.out.box
              obtain ⟨t0, t1, t2, t3, hts⟩ := row4 hbx9
              by_cases hjl3 : j3 < LL.length
              · obtain ⟨bx, qx, p, oo, f, mm, hAx, hbx2, HX, hmx, y0, y1, y2, y3⟩ := (HL9.out.calm hq3.out).get hjl3
                subst hAx
                have hbox := heap_new wr (.cells #[.int .i64 p, .int .i64 oo, .int .i64 f, .int .i64 mm] 47)
                have hal := (Calm.refl wr).alloc (.cells #[.int .i64 p, .int .i64 oo, .int .i64 f, .int .i64 mm] 47)
                have hbadS : Hid (¬ betw S k ⟨p, oo, f, mm⟩ → ∀ w', Calm w w' → LookEnd l M (X : Int) w (.returned (.tuple #[.agg #[.slice none 0 0, .slice none 0 0, .int .i64 0, .slice none 0 0], .bool false])) w') := show _ → _ from fun hn => hbad.out (by rw [hstep.out, if_neg (fun h => hn (h.1.2.2.2 _ (by rw [HLL.out]; exact List.mem_of_getElem? HX.out)))])
                have hgood : Hid (betw S k ⟨p, oo, f, mm⟩ → ∀ x ∈ LL.take (j3 + 1), betw S k x) := show _ → _ from fun hb => take_all hbt3.out HX.out hb
                go_upto_region 24 with fail
                generalize wr.alloc (.cells #[.int .i64 p, .int .i64 oo, .int .i64 f, .int .i64 mm] 47) = w9 at hbox hal ⊢
                have hn4 := (hal.block (row5 hn3).2.2.2.2.2).trans hn3
                have hSA : Hid (LiesS w9 A3 S) := (HA.out.calm (hvx.out.call hal)).s
                clear m0 m1 m2 m3 m4 hms o0 o1 o2 o3 hos t0 t1 t2 t3 hts y0 y1 y2 y3
                obtain ⟨m0, m1, m2, m3, m4, hms⟩ := row5 hn4
                obtain ⟨u0, u1, u2, u3, hus⟩ := row4 hbox
                rcases Nat.lt_or_ge 0 k with hk0 | hk0
                · have hkp : (k : Int) > 0 := by omega
                  have hkS1 : k - 1 < S.length := by have := HSZ.out.2.2.2.2.1; omega
                  obtain ⟨bs, qs, p8, o8, f8, m8, hAs, hbs, HS8, hm8, q0, q1, q2, q3⟩ := hSA.out.get hkS1
                  subst hAs
                  have hSl : Hid (LiesS w9 (some ⟨bs, qs, none⟩) S) := hSA
                  have eK1 : IntKind.i64.wrap ((k : Int) - 1) = ((k - 1 : Nat) : Int) := by have hk8 := HSZ.out.2.1; rw [IntWalk.i64_in _ (by omega)]; omega
                  have hkSi1 : ((k - 1 : Nat) : Int) < (S.length : Int) := by omega
                  obtain ⟨a8, ha8⟩ : ∃ a8, aheadS p oo f mm p8 o8 f8 m8 = a8 := ⟨_, rfl⟩
                  have cL : ∀ u, Calls Try.prog 52 #[.agg #[.int .i64 p, .int .i64 oo, .int .i64 f, .int .i64 mm], .agg #[.int .i64 p8, .int .i64 o8, .int .i64 f8, .int .i64 m8]] u fun e w' => e = .returned (.bool a8) ∧ Calm u w' := fun u => by rw [← ha8]; exact aheadSpot_any _ _ _ _ _ _ _ _ _
                  have HA8 := Lib.hid ha8
                  clear ha8
                  cases a8
                  rotate_left
                  · have hzero := Lib.hid (hbadS.out (betw_lo hk0 HS8.out HA8.out))
                    refine wp_region_plan [.val (.int .i64 (k)), .val (.bool true), .val (.bool true), .val (.agg #[.int .i64 p, .int .i64 oo, .int .i64 f, .int .i64 mm]), .val (.pointer (some ⟨w1.heap.size, 3, none⟩)), .val (.slice (some ⟨bs, qs, none⟩) S.length c3), .val (.int .i64 (k)), .val (.int .i64 (((k - 1 : Nat) : Int))), .val (.pointer (some ⟨bs, qs+(k-1)*4, none⟩)), .val (.agg #[.int .i64 p8, .int .i64 o8, .int .i64 f8, .int .i64 m8]), .val (.bool true), .val (.bool true), .val (.bool true), .idle, .idle, .idle, .idle, .idle, .idle, .idle, .idle, .idle, .idle, .idle, .idle, .idle, .idle, .idle, .val (.bool true)] (by kernel_rfl) (by kernel_rfl) (by kernel_rfl) ?_
                    intro X
                    iterate 13
                      refine plan_val (by kernel_rfl) (fun u hu => ?_) ?_
                      · obtain ⟨hc, hf, hz⟩ := hu.of_drew.facts
                        go_simp
                        all_goals first
                          | ((with_reducible exact eK1))
                          | ((go_at_call 52; with_reducible exact cL _))
                      simp only [Act.put, List.setIfInBounds_toArray, List.set_cons_zero, List.set_cons_succ, Nat.reduceAdd]
                    iterate 15
                      refine plan_idle (by kernel_rfl) ?_
                      simp only [Act.put, List.setIfInBounds_toArray, List.set_cons_zero, List.set_cons_succ, Nat.reduceAdd]
                    iterate 1
                      refine plan_val (by kernel_rfl) (fun u hu => ?_) ?_
                      · obtain ⟨hc, hf, hz⟩ := hu.of_drew.facts
                        go_simp
                        all_goals first
                          | ((with_reducible exact eK1))
                          | ((go_at_call 52; with_reducible exact cL _))
                      simp only [Act.put, List.setIfInBounds_toArray, List.set_cons_zero, List.set_cons_succ, Nat.reduceAdd]
                    refine plan_end ?_
                    intro w' hB
                    have hk := hB.calm.of_drew
                    clear hB
                    have hz5 := ((hal.call hk).block (row4 hz3x).2.2.2.2).trans hz3x
                    have h4 := set4 hz5 (.slice none 0 0) (.slice none 0 0) (.int .i64 0) (.slice none 0 0)
                    have hcf := (hvx.out.call (hal.call hk)).four (g := w.heap.size + 1) (by omega) 0 (.slice none 0 0) (.slice none 0 0) (.int .i64 0) (.slice none 0 0)
                    have hEnd := hzero.out _ hcf
                    clear z0 z1 z2 z3 hzs f0 f1 f2 f3 f4 f5
                    obtain ⟨z0, z1, z2, z3, hzs⟩ := row4 hz5
                    obtain ⟨f0, f1, f2, f3, f4, f5⟩ := free6 hz5
                    clear hcf
                    go_wp2_with fail
                    exact HRET.out _ _ (end_bn rfl rfl _ _ (w.heap.size + 1) _ _ _ (0, 0) rfl rfl rfl h4 rfl hEnd)
                  have HLO : Hid (loOk S k ⟨p, oo, f, mm⟩) := loOk_mk HS8.out HA8.out
                  by_cases hkS : k < S.length
                  · have hkSi : (k : Int) < (S.length : Int) := by omega
                    obtain ⟨p', o', f', m', HSs, hmsp, v0, v1, v2, v3⟩ := hSl.out.get2 hkS
                    obtain ⟨a9, ha9⟩ : ∃ a9, aheadS p oo f mm p' o' f' m' = a9 := ⟨_, rfl⟩
                    have cS : ∀ u, Calls Try.prog 52 #[.agg #[.int .i64 p, .int .i64 oo, .int .i64 f, .int .i64 mm], .agg #[.int .i64 p', .int .i64 o', .int .i64 f', .int .i64 m']] u fun e w' => e = .returned (.bool a9) ∧ Calm u w' := fun u => by rw [← ha9]; exact aheadSpot_any _ _ _ _ _ _ _ _ _
                    have HA9 := Lib.hid ha9
                    clear ha9
                    cases a9
                    · have hzero := Lib.hid (hbadS.out (betw_hi HSs.out HA9.out))
                      refine wp_region_plan [.val (.int .i64 (k)), .val (.bool true), .val (.bool true), .val (.agg #[.int .i64 p, .int .i64 oo, .int .i64 f, .int .i64 mm]), .val (.pointer (some ⟨w1.heap.size, 3, none⟩)), .val (.slice (some ⟨bs, qs, none⟩) S.length c3), .val (.int .i64 (k)), .val (.int .i64 (((k - 1 : Nat) : Int))), .val (.pointer (some ⟨bs, qs+(k-1)*4, none⟩)), .val (.agg #[.int .i64 p8, .int .i64 o8, .int .i64 f8, .int .i64 m8]), .val (.bool false), .val (.bool false), .val (.bool false), .val (.int .i64 (k)), .val (.pointer (some ⟨w1.heap.size, 3, none⟩)), .val (.slice (some ⟨bs, qs, none⟩) S.length c3), .val (.int .i64 (S.length)), .val (.bool true), .val (.bool true), .val (.agg #[.int .i64 p, .int .i64 oo, .int .i64 f, .int .i64 mm]), .val (.pointer (some ⟨w1.heap.size, 3, none⟩)), .val (.slice (some ⟨bs, qs, none⟩) S.length c3), .val (.int .i64 (k)), .val (.pointer (some ⟨bs, qs+k*4, none⟩)), .val (.agg #[.int .i64 p', .int .i64 o', .int .i64 f', .int .i64 m']), .val (.bool false), .val (.bool true), .val (.bool true), .val (.bool true)] (by kernel_rfl) (by kernel_rfl) (by kernel_rfl) ?_
                      intro X
                      iterate 29
                        refine plan_val (by kernel_rfl) (fun u hu => ?_) ?_
                        · obtain ⟨hc, hf, hz⟩ := hu.of_drew.facts
                          go_simp
                          all_goals first
                            | ((with_reducible exact eK1))
                            | ((go_at_call 52; first | (with_reducible exact cL _) | (with_reducible exact cS _)))
                        simp only [Act.put, List.setIfInBounds_toArray, List.set_cons_zero, List.set_cons_succ, Nat.reduceAdd]
                      refine plan_end ?_
                      intro w' hB
                      have hk := hB.calm.of_drew
                      clear hB
                      have hz5 := ((hal.call hk).block (row4 hz3x).2.2.2.2).trans hz3x
                      have h4 := set4 hz5 (.slice none 0 0) (.slice none 0 0) (.int .i64 0) (.slice none 0 0)
                      have hcf := (hvx.out.call (hal.call hk)).four (g := w.heap.size + 1) (by omega) 0 (.slice none 0 0) (.slice none 0 0) (.int .i64 0) (.slice none 0 0)
                      have hEnd := hzero.out _ hcf
                      clear z0 z1 z2 z3 hzs f0 f1 f2 f3 f4 f5
                      obtain ⟨z0, z1, z2, z3, hzs⟩ := row4 hz5
                      obtain ⟨f0, f1, f2, f3, f4, f5⟩ := free6 hz5
                      clear hcf
                      go_wp2_with fail
                      exact HRET.out _ _ (end_bn rfl rfl _ _ (w.heap.size + 1) _ _ _ (0, 0) rfl rfl rfl h4 rfl hEnd)
                    · have HBT := betw_mk HLO.out HSs.out HA9.out
                      have HBT := Lib.hid HBT
                      refine wp_region_plan [.val (.int .i64 (k)), .val (.bool true), .val (.bool true), .val (.agg #[.int .i64 p, .int .i64 oo, .int .i64 f, .int .i64 mm]), .val (.pointer (some ⟨w1.heap.size, 3, none⟩)), .val (.slice (some ⟨bs, qs, none⟩) S.length c3), .val (.int .i64 (k)), .val (.int .i64 (((k - 1 : Nat) : Int))), .val (.pointer (some ⟨bs, qs+(k-1)*4, none⟩)), .val (.agg #[.int .i64 p8, .int .i64 o8, .int .i64 f8, .int .i64 m8]), .val (.bool false), .val (.bool false), .val (.bool false), .val (.int .i64 (k)), .val (.pointer (some ⟨w1.heap.size, 3, none⟩)), .val (.slice (some ⟨bs, qs, none⟩) S.length c3), .val (.int .i64 (S.length)), .val (.bool true), .val (.bool true), .val (.agg #[.int .i64 p, .int .i64 oo, .int .i64 f, .int .i64 mm]), .val (.pointer (some ⟨w1.heap.size, 3, none⟩)), .val (.slice (some ⟨bs, qs, none⟩) S.length c3), .val (.int .i64 (k)), .val (.pointer (some ⟨bs, qs+k*4, none⟩)), .val (.agg #[.int .i64 p', .int .i64 o', .int .i64 f', .int .i64 m']), .val (.bool true), .val (.bool false), .val (.bool false), .val (.bool false)] (by kernel_rfl) (by kernel_rfl) (by kernel_rfl) ?_
                      intro X
                      iterate 29
                        refine plan_val (by kernel_rfl) (fun u hu => ?_) ?_
                        · obtain ⟨hc, hf, hz⟩ := hu.of_drew.facts
                          go_simp
                          all_goals first
                            | ((with_reducible exact eK1))
                            | ((go_at_call 52; first | (with_reducible exact cL _) | (with_reducible exact cS _)))
                        simp only [Act.put, List.setIfInBounds_toArray, List.set_cons_zero, List.set_cons_succ, Nat.reduceAdd]
                      refine plan_end ?_
                      intro w' hB
                      have hk := hB.calm.of_drew
                      clear hB
                      have hC := Lib.hid (hq3.out.call (hal.call hk))
                      have hB := Lib.hid (hgood.out HBT.out)
                      clear hk
                      go_wp2_with fail
                      go_roundw
                      case rel => exact ⟨j3 + 1, by omega, by go_num, hB, hC⟩
                      case measure => simp [intOf]; omega
                  · have hkSi : ¬ (k : Int) < (S.length : Int) := by omega
                    have HBT := Lib.hid (betw_end HLO.out hkS)
                    refine wp_region_plan [.val (.int .i64 (k)), .val (.bool true), .val (.bool true), .val (.agg #[.int .i64 p, .int .i64 oo, .int .i64 f, .int .i64 mm]), .val (.pointer (some ⟨w1.heap.size, 3, none⟩)), .val (.slice (some ⟨bs, qs, none⟩) S.length c3), .val (.int .i64 (k)), .val (.int .i64 (((k - 1 : Nat) : Int))), .val (.pointer (some ⟨bs, qs+(k-1)*4, none⟩)), .val (.agg #[.int .i64 p8, .int .i64 o8, .int .i64 f8, .int .i64 m8]), .val (.bool false), .val (.bool false), .val (.bool false), .val (.int .i64 (k)), .val (.pointer (some ⟨w1.heap.size, 3, none⟩)), .val (.slice (some ⟨bs, qs, none⟩) S.length c3), .val (.int .i64 (S.length)), .val (.bool false), .val (.bool false), .idle, .idle, .idle, .idle, .idle, .idle, .idle, .idle, .val (.bool false), .val (.bool false)] (by kernel_rfl) (by kernel_rfl) (by kernel_rfl) ?_
                    intro X
                    iterate 19
                      refine plan_val (by kernel_rfl) (fun u hu => ?_) ?_
                      · obtain ⟨hc, hf, hz⟩ := hu.of_drew.facts
                        go_simp
                        all_goals first
                          | ((with_reducible exact eK1))
                          | ((go_at_call 52; with_reducible exact cL _))
                      simp only [Act.put, List.setIfInBounds_toArray, List.set_cons_zero, List.set_cons_succ, Nat.reduceAdd]
                    iterate 8
                      refine plan_idle (by kernel_rfl) ?_
                      simp only [Act.put, List.setIfInBounds_toArray, List.set_cons_zero, List.set_cons_succ, Nat.reduceAdd]
                    iterate 2
                      refine plan_val (by kernel_rfl) (fun u hu => ?_) ?_
                      · obtain ⟨hc, hf, hz⟩ := hu.of_drew.facts
                        go_simp
                        all_goals first
                          | ((with_reducible exact eK1))
                          | ((go_at_call 52; with_reducible exact cL _))
                      simp only [Act.put, List.setIfInBounds_toArray, List.set_cons_zero, List.set_cons_succ, Nat.reduceAdd]
                    refine plan_end ?_
                    intro w' hB
                    have hk := hB.calm.of_drew
                    clear hB
                    have hC := Lib.hid (hq3.out.call (hal.call hk))
                    have hB := Lib.hid (hgood.out HBT.out)
                    clear hk
                    go_wp2_with fail
                    go_roundw
                    case rel => exact ⟨j3 + 1, by omega, by go_num, hB, hC⟩
                    case measure => simp [intOf]; omega
                · have hkp : ¬ (k : Int) > 0 := by omega
                  have HLO : Hid (loOk S k ⟨p, oo, f, mm⟩) := loOk_zero S _ (by omega)
                  by_cases hkS : k < S.length
                  · have hkSi : (k : Int) < (S.length : Int) := by omega
                    obtain ⟨bs, qs, p0, o0', f0', m0', hAs, hbs, -, -, -, -, -, -⟩ := hSA.out.get hkS
                    subst hAs
                    have hSl : Hid (LiesS w9 (some ⟨bs, qs, none⟩) S) := hSA
                    obtain ⟨p', o', f', m', HSs, hmsp, v0, v1, v2, v3⟩ := hSl.out.get2 hkS
                    obtain ⟨a9, ha9⟩ : ∃ a9, aheadS p oo f mm p' o' f' m' = a9 := ⟨_, rfl⟩
                    have cS : ∀ u, Calls Try.prog 52 #[.agg #[.int .i64 p, .int .i64 oo, .int .i64 f, .int .i64 mm], .agg #[.int .i64 p', .int .i64 o', .int .i64 f', .int .i64 m']] u fun e w' => e = .returned (.bool a9) ∧ Calm u w' := fun u => by rw [← ha9]; exact aheadSpot_any _ _ _ _ _ _ _ _ _
                    have HA9 := Lib.hid ha9
                    clear ha9
                    cases a9
                    · have hzero := Lib.hid (hbadS.out (betw_hi HSs.out HA9.out))
                      refine wp_region_plan [.val (.int .i64 (k)), .val (.bool false), .val (.bool false), .idle, .idle, .idle, .idle, .idle, .idle, .idle, .idle, .val (.bool false), .val (.bool false), .val (.int .i64 (k)), .val (.pointer (some ⟨w1.heap.size, 3, none⟩)), .val (.slice (some ⟨bs, qs, none⟩) S.length c3), .val (.int .i64 (S.length)), .val (.bool true), .val (.bool true), .val (.agg #[.int .i64 p, .int .i64 oo, .int .i64 f, .int .i64 mm]), .val (.pointer (some ⟨w1.heap.size, 3, none⟩)), .val (.slice (some ⟨bs, qs, none⟩) S.length c3), .val (.int .i64 (k)), .val (.pointer (some ⟨bs, qs+k*4, none⟩)), .val (.agg #[.int .i64 p', .int .i64 o', .int .i64 f', .int .i64 m']), .val (.bool false), .val (.bool true), .val (.bool true), .val (.bool true)] (by kernel_rfl) (by kernel_rfl) (by kernel_rfl) ?_
                      intro X
                      iterate 3
                        refine plan_val (by kernel_rfl) (fun u hu => ?_) ?_
                        · obtain ⟨hc, hf, hz⟩ := hu.of_drew.facts
                          go_simp
                          all_goals first
                            | ((go_at_call 52; with_reducible exact cS _))
                        simp only [Act.put, List.setIfInBounds_toArray, List.set_cons_zero, List.set_cons_succ, Nat.reduceAdd]
                      iterate 8
                        refine plan_idle (by kernel_rfl) ?_
                        simp only [Act.put, List.setIfInBounds_toArray, List.set_cons_zero, List.set_cons_succ, Nat.reduceAdd]
                      iterate 18
                        refine plan_val (by kernel_rfl) (fun u hu => ?_) ?_
                        · obtain ⟨hc, hf, hz⟩ := hu.of_drew.facts
                          go_simp
                          all_goals first
                            | ((go_at_call 52; with_reducible exact cS _))
                        simp only [Act.put, List.setIfInBounds_toArray, List.set_cons_zero, List.set_cons_succ, Nat.reduceAdd]
                      refine plan_end ?_
                      intro w' hB
                      have hk := hB.calm.of_drew
                      clear hB
                      have hz5 := ((hal.call hk).block (row4 hz3x).2.2.2.2).trans hz3x
                      have h4 := set4 hz5 (.slice none 0 0) (.slice none 0 0) (.int .i64 0) (.slice none 0 0)
                      have hcf := (hvx.out.call (hal.call hk)).four (g := w.heap.size + 1) (by omega) 0 (.slice none 0 0) (.slice none 0 0) (.int .i64 0) (.slice none 0 0)
                      have hEnd := hzero.out _ hcf
                      clear z0 z1 z2 z3 hzs f0 f1 f2 f3 f4 f5
                      obtain ⟨z0, z1, z2, z3, hzs⟩ := row4 hz5
                      obtain ⟨f0, f1, f2, f3, f4, f5⟩ := free6 hz5
                      clear hcf
                      go_wp2_with fail
                      exact HRET.out _ _ (end_bn rfl rfl _ _ (w.heap.size + 1) _ _ _ (0, 0) rfl rfl rfl h4 rfl hEnd)
                    · have HBT := betw_mk HLO.out HSs.out HA9.out
                      have HBT := Lib.hid HBT
                      refine wp_region_plan [.val (.int .i64 (k)), .val (.bool false), .val (.bool false), .idle, .idle, .idle, .idle, .idle, .idle, .idle, .idle, .val (.bool false), .val (.bool false), .val (.int .i64 (k)), .val (.pointer (some ⟨w1.heap.size, 3, none⟩)), .val (.slice (some ⟨bs, qs, none⟩) S.length c3), .val (.int .i64 (S.length)), .val (.bool true), .val (.bool true), .val (.agg #[.int .i64 p, .int .i64 oo, .int .i64 f, .int .i64 mm]), .val (.pointer (some ⟨w1.heap.size, 3, none⟩)), .val (.slice (some ⟨bs, qs, none⟩) S.length c3), .val (.int .i64 (k)), .val (.pointer (some ⟨bs, qs+k*4, none⟩)), .val (.agg #[.int .i64 p', .int .i64 o', .int .i64 f', .int .i64 m']), .val (.bool true), .val (.bool false), .val (.bool false), .val (.bool false)] (by kernel_rfl) (by kernel_rfl) (by kernel_rfl) ?_
                      intro X
                      iterate 3
                        refine plan_val (by kernel_rfl) (fun u hu => ?_) ?_
                        · obtain ⟨hc, hf, hz⟩ := hu.of_drew.facts
                          go_simp
                          all_goals first
                            | ((go_at_call 52; with_reducible exact cS _))
                        simp only [Act.put, List.setIfInBounds_toArray, List.set_cons_zero, List.set_cons_succ, Nat.reduceAdd]
                      iterate 8
                        refine plan_idle (by kernel_rfl) ?_
                        simp only [Act.put, List.setIfInBounds_toArray, List.set_cons_zero, List.set_cons_succ, Nat.reduceAdd]
                      iterate 18
                        refine plan_val (by kernel_rfl) (fun u hu => ?_) ?_
                        · obtain ⟨hc, hf, hz⟩ := hu.of_drew.facts
                          go_simp
                          all_goals first
                            | ((go_at_call 52; with_reducible exact cS _))
                        simp only [Act.put, List.setIfInBounds_toArray, List.set_cons_zero, List.set_cons_succ, Nat.reduceAdd]
                      refine plan_end ?_
                      intro w' hB
                      have hk := hB.calm.of_drew
                      clear hB
                      have hC := Lib.hid (hq3.out.call (hal.call hk))
                      have hB := Lib.hid (hgood.out HBT.out)
                      clear hk
                      go_wp2_with fail
                      go_roundw
                      case rel => exact ⟨j3 + 1, by omega, by go_num, hB, hC⟩
                      case measure => simp [intOf]; omega
                  · have hkSi : ¬ (k : Int) < (S.length : Int) := by omega
                    have HBT := Lib.hid (betw_end HLO.out hkS)
                    refine wp_region_plan [.val (.int .i64 (k)), .val (.bool false), .val (.bool false), .idle, .idle, .idle, .idle, .idle, .idle, .idle, .idle, .val (.bool false), .val (.bool false), .val (.int .i64 (k)), .val (.pointer (some ⟨w1.heap.size, 3, none⟩)), .val (.slice A3 S.length c3), .val (.int .i64 (S.length)), .val (.bool false), .val (.bool false), .idle, .idle, .idle, .idle, .idle, .idle, .idle, .idle, .val (.bool false), .val (.bool false)] (by kernel_rfl) (by kernel_rfl) (by kernel_rfl) ?_
                    intro X
                    iterate 3
                      refine plan_val (by kernel_rfl) (fun u hu => ?_) ?_
                      · obtain ⟨hc, hf, hz⟩ := hu.of_drew.facts
                        go_simp
                      simp only [Act.put, List.setIfInBounds_toArray, List.set_cons_zero, List.set_cons_succ, Nat.reduceAdd]
                    iterate 8
                      refine plan_idle (by kernel_rfl) ?_
                      simp only [Act.put, List.setIfInBounds_toArray, List.set_cons_zero, List.set_cons_succ, Nat.reduceAdd]
                    iterate 8
                      refine plan_val (by kernel_rfl) (fun u hu => ?_) ?_
                      · obtain ⟨hc, hf, hz⟩ := hu.of_drew.facts
                        go_simp
                      simp only [Act.put, List.setIfInBounds_toArray, List.set_cons_zero, List.set_cons_succ, Nat.reduceAdd]
                    iterate 8
                      refine plan_idle (by kernel_rfl) ?_
                      simp only [Act.put, List.setIfInBounds_toArray, List.set_cons_zero, List.set_cons_succ, Nat.reduceAdd]
                    iterate 2
                      refine plan_val (by kernel_rfl) (fun u hu => ?_) ?_
                      · obtain ⟨hc, hf, hz⟩ := hu.of_drew.facts
                        go_simp
                      simp only [Act.put, List.setIfInBounds_toArray, List.set_cons_zero, List.set_cons_succ, Nat.reduceAdd]
                    refine plan_end ?_
                    intro w' hB
                    have hk := hB.calm.of_drew
                    clear hB
                    have hC := Lib.hid (hq3.out.call (hal.call hk))
                    have hB := Lib.hid (hgood.out HBT.out)
                    clear hk
                    go_wp2_with fail
                    go_roundw
                    case rel => exact ⟨j3 + 1, by omega, by go_num, hB, hC⟩
                    case measure => simp [intOf]; omega
              have hall : LL.take j3 = LL := List.take_of_length_le (by omega)
              rw [hall] at hbt3
              clear hall
              obtain ⟨g0, g1, g2, g3, g4, g5⟩ := free6 HOx.out.box
              have hbx2 := hbx9
              have HBx := Lib.hid (HB7.out.calm (hq.out.call hq3.out))
              go_upto_region 28 with fail
              have HOd := Lib.hid (HOx.out.setD (bb.D + 1))
              have hvd : Hid (Calm w3 (wr.setCell ⟨g, 2, none⟩ (.int .i64 (bb.D + 1)))) := (hv.out.call hcx.out).setCell (p := ⟨g, 2, none⟩) HOx.out.ge _
              have HBd := Lib.hid (HBx.out.past hgM.out.1 2 (.int .i64 (bb.D + 1)))
              have hbd := (heap_setCell_other wr ⟨g, 2, none⟩ w5.heap.size (.int .i64 (bb.D + 1)) (fun e => by have a := hgM.out.1; have b := hgx.out; simp at e; omega)).trans hbx9
              have hgl : Hid (w5.heap.size < (wr.setCell ⟨g, 2, none⟩ (.int .i64 (bb.D + 1))).heap.size) := (Array.getElem?_eq_some_iff.1 hbd).1
              have hMl : Hid (M1 ≤ (wr.setCell ⟨g, 2, none⟩ (.int .i64 (bb.D + 1))).heap.size) := by have a := hgx.out; have b := hgl.out; exact (show _ ≤ _ by omega)
              clear m0 m1 m2 m3 m4 hms z0 z1 z2 z3 hzs f0 f1 f2 f3 f4 f5 o0 o1 o2 o3 hos t0 t1 t2 t3 hts g0 g1 g2 g3 g4 g5 hbx2 hbx9 hn3 hz3x HOx HBx
              generalize wr.setCell ⟨g, 2, none⟩ (.int .i64 (bb.D + 1)) = wd at HOd hvd HBd hbd hgl hMl ⊢
              have hlE : o.E.length + bb.E.length ≤ 1000000 := by have a := HOL.out.1; have b := HOL.out.2.2.1; have c := HBL.out.e; omega
              have hlS : o.S.length + bb.S.length ≤ 1000000 := by have a := HOL.out.2.1; have b := HOL.out.2.2.1; have c := HBL.out.s; omega
              have hlN : o.N.length + bb.N.length ≤ 1000000 := by have b := HOL.out.2.2.1; have c := HBL.out.n; omega
              refine wp_region_stages [.val (.pointer (some ⟨g, 0, none⟩)), .val (.slice a2 o.E.length b2) [4], .val (.pointer (some ⟨w5.heap.size, 0, none⟩)), .val (.slice p2 bb.E.length r2), .late,
                  .val (.pointer (some ⟨g, 1, none⟩)), .val (.slice a5 o.S.length b5) [9], .val (.pointer (some ⟨w5.heap.size, 1, none⟩)), .val (.slice p5 bb.S.length r5), .late [4],
                  .val (.pointer (some ⟨g, 3, none⟩)), .val (.slice a7 o.N.length b7) [14], .val (.pointer (some ⟨w5.heap.size, 3, none⟩)), .val (.slice p7 bb.N.length r7), .late [9],
                  .val (.pointer (some ⟨g, 0, none⟩)), .late [14], .val (.pointer (some ⟨g, 1, none⟩)), .late [16], .val (.pointer (some ⟨g, 3, none⟩)), .late [18]] [4, 9, 14, 16, 18, 20]
                  (ChainS 6 (ASs wd w3.heap.size M1 g (bb.D + 1) (.slice a2 o.E.length b2) (.slice a5 o.S.length b5) (.slice a7 o.N.length b7) o.E (o.E ++ bb.E) o.S (o.S ++ bb.S) o.N (o.N ++ bb.N))) (by kernel_rfl) (by kernel_rfl) (by kernel_rfl) (ChainS.stay ASs.calm)
                  (fun Y => ChainS.start (late := [4, 9, 14, 16, 18, 20]) ((AS.begin HOd.out hgM.out.1 hMl.out hgM.out.2).calm ((Calm.refl _).drew))) (fun Y => ?_)
              refine planS_val (by kernel_rfl) (fun L u hb hS => ?_) ?_
              · clear hS hb
                go_simp
              simp only [Act.put, List.setIfInBounds_toArray, List.set_cons_zero, List.set_cons_succ, Nat.reduceAdd]
              refine planS_val (by kernel_rfl) (fun L u hb hS => ?_) ?_
              · obtain ⟨m, hm, hA⟩ := ChainS.upto (late := [4, 9, 14, 16, 18, 20]) (m := 0) hS rfl (hb 4 (by simp))
                obtain ⟨y, z, hbb9⟩ := ASs.boxE (by omega) hA
                obtain ⟨x0, x1, x2, x3, hxs⟩ := row4 hbb9
                clear hS hA hb hbb9
                go_simp
              simp only [Act.put, List.setIfInBounds_toArray, List.set_cons_zero, List.set_cons_succ, Nat.reduceAdd]
              refine planS_val (by kernel_rfl) (fun L u hb hS => ?_) ?_
              · clear hS hb
                go_simp
              simp only [Act.put, List.setIfInBounds_toArray, List.set_cons_zero, List.set_cons_succ, Nat.reduceAdd]
              refine planS_val (by kernel_rfl) (fun L u hb hS => ?_) ?_
              · obtain ⟨m, hm, hA⟩ := ChainS.any (late := [4, 9, 14, 16, 18, 20]) hS
                obtain ⟨x0, x1, x2, x3, hxs⟩ := row4 ((ASs.high hA _ hgl.out hgx.out).trans hbd)
                clear hS hA hb
                go_simp
              simp only [Act.put, List.setIfInBounds_toArray, List.set_cons_zero, List.set_cons_succ, Nat.reduceAdd]
              refine planS_late (fun L u hi hb hS => ?_) ?_
              · obtain ⟨hA, hn⟩ := ChainS.step (late := [4, 9, 14, 16, 18, 20]) (m := 0) hS rfl hi (fun j h0 h => by exact absurd h0 (Nat.lt_irrefl _)) (by decide)
                clear hS hb hi
                have hA : AS _ _ _ _ _ _ _ _ _ _ _ _ _ _ _ := hA
                have hsr := hA.src HBd.out
                refine wpList_append_eL rfl _ _ rfl w3.heap.size _ _ rfl hA.own.e _ _ bb.E rfl (OwnR.at_ hsr.e HWF.out.1) (by omega) hA.base ?_
                intro v9 w9 ho9 hg9 hat9
                exact ⟨rfl, v9, rfl, hn v9 w9 (hA.appE ho9 hg9 hat9)⟩
              simp only [Act.put, List.setIfInBounds_toArray, List.set_cons_zero, List.set_cons_succ, Nat.reduceAdd]
              refine planS_val (by kernel_rfl) (fun L u hb hS => ?_) ?_
              · clear hS hb
                go_simp
              simp only [Act.put, List.setIfInBounds_toArray, List.set_cons_zero, List.set_cons_succ, Nat.reduceAdd]
              refine planS_val (by kernel_rfl) (fun L u hb hS => ?_) ?_
              · obtain ⟨m, hm, hA⟩ := ChainS.upto (late := [4, 9, 14, 16, 18, 20]) (m := 1) hS rfl (hb 9 (by simp))
                obtain ⟨y, z, hbb9⟩ := ASs.boxS (by omega) hA
                obtain ⟨x0, x1, x2, x3, hxs⟩ := row4 hbb9
                clear hS hA hb hbb9
                go_simp
              simp only [Act.put, List.setIfInBounds_toArray, List.set_cons_zero, List.set_cons_succ, Nat.reduceAdd]
              refine planS_val (by kernel_rfl) (fun L u hb hS => ?_) ?_
              · clear hS hb
                go_simp
              simp only [Act.put, List.setIfInBounds_toArray, List.set_cons_zero, List.set_cons_succ, Nat.reduceAdd]
              refine planS_val (by kernel_rfl) (fun L u hb hS => ?_) ?_
              · obtain ⟨m, hm, hA⟩ := ChainS.any (late := [4, 9, 14, 16, 18, 20]) hS
                obtain ⟨x0, x1, x2, x3, hxs⟩ := row4 ((ASs.high hA _ hgl.out hgx.out).trans hbd)
                clear hS hA hb
                go_simp
              simp only [Act.put, List.setIfInBounds_toArray, List.set_cons_zero, List.set_cons_succ, Nat.reduceAdd]
              refine planS_late (fun L u hi hb hS => ?_) ?_
              · obtain ⟨hA, hn⟩ := ChainS.step (late := [4, 9, 14, 16, 18, 20]) (m := 1) hS rfl hi (fun j _ h => by cases h; exact hb 4 (by simp)) (by decide)
                clear hS hb hi
                have hA : AS _ _ _ _ _ _ _ _ _ _ _ _ _ _ _ := hA
                have hsr := hA.src HBd.out
                refine wpList_append_sL rfl _ _ rfl w3.heap.size _ _ rfl hA.own.s _ _ bb.S rfl (OwnS.at_ hsr.s HWF.out.2) (by omega) hA.base ?_
                intro v9 w9 ho9 hg9 hat9
                exact ⟨rfl, v9, rfl, hn v9 w9 (hA.appS ho9 hg9 hat9)⟩
              simp only [Act.put, List.setIfInBounds_toArray, List.set_cons_zero, List.set_cons_succ, Nat.reduceAdd]
              refine planS_val (by kernel_rfl) (fun L u hb hS => ?_) ?_
              · clear hS hb
                go_simp
              simp only [Act.put, List.setIfInBounds_toArray, List.set_cons_zero, List.set_cons_succ, Nat.reduceAdd]
              refine planS_val (by kernel_rfl) (fun L u hb hS => ?_) ?_
              · obtain ⟨m, hm, hA⟩ := ChainS.upto (late := [4, 9, 14, 16, 18, 20]) (m := 2) hS rfl (hb 14 (by simp))
                obtain ⟨y, z, hbb9⟩ := ASs.boxN (by omega) hA
                obtain ⟨x0, x1, x2, x3, hxs⟩ := row4 hbb9
                clear hS hA hb hbb9
                go_simp
              simp only [Act.put, List.setIfInBounds_toArray, List.set_cons_zero, List.set_cons_succ, Nat.reduceAdd]
              refine planS_val (by kernel_rfl) (fun L u hb hS => ?_) ?_
              · clear hS hb
                go_simp
              simp only [Act.put, List.setIfInBounds_toArray, List.set_cons_zero, List.set_cons_succ, Nat.reduceAdd]
              refine planS_val (by kernel_rfl) (fun L u hb hS => ?_) ?_
              · obtain ⟨m, hm, hA⟩ := ChainS.any (late := [4, 9, 14, 16, 18, 20]) hS
                obtain ⟨x0, x1, x2, x3, hxs⟩ := row4 ((ASs.high hA _ hgl.out hgx.out).trans hbd)
                clear hS hA hb
                go_simp
              simp only [Act.put, List.setIfInBounds_toArray, List.set_cons_zero, List.set_cons_succ, Nat.reduceAdd]
              refine planS_late (fun L u hi hb hS => ?_) ?_
              · obtain ⟨hA, hn⟩ := ChainS.step (late := [4, 9, 14, 16, 18, 20]) (m := 2) hS rfl hi (fun j _ h => by cases h; exact hb 9 (by simp)) (by decide)
                clear hS hb hi
                have hA : AS _ _ _ _ _ _ _ _ _ _ _ _ _ _ _ := hA
                have hsr := hA.src HBd.out
                refine wpList_append_iLat rfl _ _ rfl w3.heap.size _ _ rfl hA.own.n _ _ bb.N rfl (OwnI.at_ hsr.n) (by omega) hA.base ?_
                intro v9 w9 ho9 hg9 hat9
                exact ⟨rfl, v9, rfl, hn v9 w9 (hA.appN ho9 hg9 hat9)⟩
              simp only [Act.put, List.setIfInBounds_toArray, List.set_cons_zero, List.set_cons_succ, Nat.reduceAdd]
              refine planS_val (by kernel_rfl) (fun L u hb hS => ?_) ?_
              · clear hS hb
                go_simp
              simp only [Act.put, List.setIfInBounds_toArray, List.set_cons_zero, List.set_cons_succ, Nat.reduceAdd]
              refine planS_late (fun L u hi hb hS => ?_) ?_
              · obtain ⟨hA, hn⟩ := ChainS.step (late := [4, 9, 14, 16, 18, 20]) (m := 3) hS rfl hi (fun j _ h => by cases h; exact hb 14 (by simp)) (by decide)
                clear hS hb hi
                have hA : AS _ _ _ _ _ _ _ _ _ _ _ _ _ _ _ := hA
                obtain ⟨A9, n9, c9, hy⟩ : ∃ A n c, Y 4 = .slice A n c := by obtain ⟨A, c, h⟩ := hA.own.e.slice; exact ⟨_, _, _, h⟩
                have h9 := hA.set 0 (.slice A9 n9 c9) rfl
                obtain ⟨x0, x1, x2, x3, hxs⟩ := row4 hA.box
                obtain ⟨f0, f1, f2, f3, f4, f5⟩ := free6 hA.box
                have hn9 := hn undef _ (by rw [← hy] at h9; exact h9)
                rw [hy]
                rw [hy] at hn9
                clear hA hn h9 hy
                go_wp2_with fail
                exact ⟨undef, hn9⟩
              simp only [Act.put, Nat.reduceAdd]
              refine planS_val (by kernel_rfl) (fun L u hb hS => ?_) ?_
              · clear hS hb
                go_simp
              simp only [Act.put, List.setIfInBounds_toArray, List.set_cons_zero, List.set_cons_succ, Nat.reduceAdd]
              refine planS_late (fun L u hi hb hS => ?_) ?_
              · obtain ⟨hA, hn⟩ := ChainS.step (late := [4, 9, 14, 16, 18, 20]) (m := 4) hS rfl hi (fun j _ h => by cases h; exact hb 16 (by simp)) (by decide)
                clear hS hb hi
                have hA : AS _ _ _ _ _ _ _ _ _ _ _ _ _ _ _ := hA
                obtain ⟨A9, n9, c9, hy⟩ : ∃ A n c, Y 9 = .slice A n c := by obtain ⟨A, c, h⟩ := hA.own.s.slice; exact ⟨_, _, _, h⟩
                have h9 := hA.set 1 (.slice A9 n9 c9) rfl
                obtain ⟨x0, x1, x2, x3, hxs⟩ := row4 hA.box
                obtain ⟨f0, f1, f2, f3, f4, f5⟩ := free6 hA.box
                have hn9 := hn undef _ (by rw [← hy] at h9; exact h9)
                rw [hy]
                rw [hy] at hn9
                clear hA hn h9 hy
                go_wp2_with fail
                exact ⟨undef, hn9⟩
              simp only [Act.put, Nat.reduceAdd]
              refine planS_val (by kernel_rfl) (fun L u hb hS => ?_) ?_
              · clear hS hb
                go_simp
              simp only [Act.put, List.setIfInBounds_toArray, List.set_cons_zero, List.set_cons_succ, Nat.reduceAdd]
              refine planS_late (fun L u hi hb hS => ?_) ?_
              · obtain ⟨hA, hn⟩ := ChainS.step (late := [4, 9, 14, 16, 18, 20]) (m := 5) hS rfl hi (fun j _ h => by cases h; exact hb 18 (by simp)) (by decide)
                clear hS hb hi
                have hA : AS _ _ _ _ _ _ _ _ _ _ _ _ _ _ _ := hA
                obtain ⟨A9, n9, c9, hy⟩ : ∃ A n c, Y 14 = .slice A n c := by obtain ⟨A, c, h⟩ := hA.own.n.slice; exact ⟨_, _, _, h⟩
                have h9 := hA.set 3 (.slice A9 n9 c9) rfl
                obtain ⟨x0, x1, x2, x3, hxs⟩ := row4 hA.box
                obtain ⟨f0, f1, f2, f3, f4, f5⟩ := free6 hA.box
                have hn9 := hn undef _ (by rw [← hy] at h9; exact h9)
                rw [hy]
                rw [hy] at hn9
                clear hA hn h9 hy
                go_wp2_with fail
                exact ⟨undef, hn9⟩
              simp only [Act.put, Nat.reduceAdd]
              refine planS_end ?_
              intro wz hS
              have hD7 : Hid (AS wd w3.heap.size M1 g (bb.D + 1) (Y 4) (Y 9) (Y 14) (Y 4) (Y 9) (Y 14) (o.E ++ bb.E) (o.S ++ bb.S) (o.N ++ bb.N) wz) := ChainS.done (late := [4, 9, 14, 16, 18, 20]) hS
              clear hS
              generalize Y 4 = v4 at hD7 ⊢
              generalize Y 9 = v9 at hD7 ⊢
              generalize Y 14 = v14 at hD7 ⊢
              obtain ⟨NN, hNN⟩ : ∃ NN, o.N ++ bb.N = NN := ⟨_, rfl⟩
              have HNN := Lib.hid hNN
              have HOz : Hid (OutOk w3.heap.size wz g v4 v9 v14 (bb.D + 1) (o.E ++ bb.E) (o.S ++ bb.S) (o.N ++ bb.N)) := hD7.out.ends
              have HCz : Hid (Calm w3 wz) := hD7.out.low_calm hvd.out (Nat.le_refl _)
              have HOy := HOz
              rw [hNN] at HOy
              clear hNN
              obtain ⟨A14, c14, e14⟩ := HOy.out.own.n.slice
              subst e14
              obtain ⟨o0, o1, o2, o3, hos⟩ := row4 HOy.out.box
              clear hD7 HOy
              by_cases h400 : NN.length > 400
              · have hzero := Lib.hid (hbad.out (by rw [hstep.out, if_neg (fun h => by have := h.2; rw [HNN.out] at this; omega)]))
                have h4i : (NN.length : Int) > 400 := by omega
                have hzz := (HCz.out.block (row4 hz3).2.2.2.2).trans hz3
                have h4 := set4 hzz (.slice none 0 0) (.slice none 0 0) (.int .i64 0) (.slice none 0 0)
                have hcf := (HU3.out.call HCz.out).four (g := w.heap.size + 1) (by omega) 0 (.slice none 0 0) (.slice none 0 0) (.int .i64 0) (.slice none 0 0)
                have hEnd := hzero.out _ hcf
                obtain ⟨z0, z1, z2, z3, hzs⟩ := row4 hzz
                obtain ⟨f0, f1, f2, f3, f4, f5⟩ := free6 hzz
                clear hcf
                go_wp2_with fail
                exact HRET.out _ _ (end_bn rfl rfl _ _ (w.heap.size + 1) _ _ _ (0, 0) rfl rfl rfl h4 rfl hEnd)
              have h4i : ¬ (NN.length : Int) > 400 := by omega
              have hL' : Hid (lookUpto l ⟨kd, A1, some ⟨bk, qk, none⟩, A3, some ⟨bt, qt, none⟩, c1, c2, c3, c4, E, K, S, T⟩ (X : Int) (lookR l m) (k + 1) = some ⟨o.E ++ bb.E, o.S ++ bb.S, bb.D + 1, o.N ++ bb.N⟩) := show _ = _ from hstep.out.trans (if_pos ⟨⟨by rw [hso.out]; omega, hde, by rw [HLA.out]; exact HTT.out, by rw [HLL.out]; exact hbt3.out⟩, by rw [HNN.out]; omega⟩)
              clear hstep hbad
              have hk8 := HSZ.out.2.1
              go_wp2_with fail
              go_roundw
              case rel => exact ⟨k + 1, ⟨o.E ++ bb.E, o.S ++ bb.S, bb.D + 1, o.N ++ bb.N⟩, v4, v9, _, by omega, by go_num, hL', HOz, HCz⟩
              case measure => simp [intOf]; omega
          obtain ⟨be, qe, p, oo, f, mm, gg, ss, hAe, hbe, HE, hme, y0, y1, y2, y3, y4, y5⟩ := (HLE.out.calm hq.out).get hjl
          subst hAe
          have HLA : Hid (lateOf (bb.E.take (j + 1)) = max (lateOf (bb.E.take j)) (lastOf mm gg)) := show _ = _ by unfold lateOf; rw [lasts_take HE.out, gMax_snoc]; rfl
          have HSP : Hid (bb.S ++ (bb.E.take (j + 1)).map El.sp = (bb.S ++ (bb.E.take j).map El.sp) ++ [⟨p, oo, f, mm⟩]) := show _ = _ by
            rw [List.take_succ_eq_append_getElem hjl, List.map_append, (List.getElem?_eq_some_iff.1 HE.out).2, List.append_assoc]; rfl
          have hE32 := HBL.out.e
          have hlen : (bb.S ++ (bb.E.take j).map El.sp).length ≤ 1000000 := by
            have a := HBL.out.s; have b := HBL.out.e
            rw [List.length_append, List.length_map, List.length_take]; omega
          have hz := (Calm.refl wr).alloc (.cells #[.int .i64 p, .int .i64 oo, .int .i64 f, .int .i64 mm, .int .i64 gg, .string ss] 33)
          have hxe := heap_new wr (.cells #[.int .i64 p, .int .i64 oo, .int .i64 f, .int .i64 mm, .int .i64 gg, .string ss] 33)
          generalize lateOf (bb.E.take j) = la at HLA ⊢
          go_wp2_with (first
            | (go_at_call 90; (with_reducible refine (refLast_any _ _ _ _ _ _ _).mono ?_); rintro e w1 ⟨rfl, hb1⟩; replace hz := hz.call hb1; replace hxe := (hb1.block (row6 hxe).2.2.2.2.2.2).trans hxe; clear hb1; obtain ⟨r0, r1, r2, r3, r4, r5, hrs⟩ := row6 hxe)
            | (go_at_call 53; (with_reducible refine (refSpot_any _ _ _ _ _ _ _).mono ?_); rintro e w2 ⟨rfl, hb2⟩; replace hz := hz.call hb2; clear hb2)
            | (at_builtin; refine wpList_append_sAt rfl _ _ rfl wc.heap.size _ _ rfl (rows_calm ho.out (hz.alloc _)) _ _ ⟨p, oo, f, mm⟩ _ rfl (heap_new _ _) hlen ((hq.out.call hz).alloc _).size ?_; intro v9 w9 ho9 hg9 hat9; have hC9 := Below.grown ((hq.out.call hz).alloc _) hg9 ((hq.out.call hz).alloc _).size (fun k hk => (rows_lt ho.out k hk).1); rw [← HSP.out] at ho9))
          have HO9 := Lib.hid ho9
          have HC9 := Lib.hid hC9
          clear ho9 hC9 hg9 hat9
          go_roundw
          case rel => exact ⟨j + 1, by omega, by go_num, by (rw [HLA.out, Int.max_def]) <;> (congr 1 <;> (split <;> split <;> omega)), HO9, HC9⟩
          case measure => simp [intOf]; omega
open Go.RowKit
theorem look_any (root : Int) (A : Option Addr) (c : Nat) (l : List Nd) (hok : NdsOk l) (hl4 : l.length ≤ 400) : ∀ (m : Nat) (_ : m ≤ 12) (x : Int) (w : World) (_ : TrAt w A l),
  Calls Try.prog 55 #[.agg #[.int .i64 root, .slice A l.length c], .int .i64 x, .int .i64 (m : Int)] w (LookEnd l m x w)
 | 0, _, x, w, h => look_bad root A c l 0 x w hl4 h (.inl rfl)
 |m + 1, hm, x, w, h => by
  cases hn : ndOf l x with
  |none => exact look_bad root A c l (m + 1) x w hl4 h (.inr (.inl hn))
  |some n =>
   by_cases hk : n.kd = 0
   ·exact look_bad root A c l (m + 1) x w hl4 h (.inr (.inr ⟨n, hn, hk⟩))
   ·obtain ⟨i1, -, -⟩ := nd_of_in hn
    obtain ⟨X, rfl⟩ : ∃ X : Nat, x = (X : Int) := ⟨x.toNat, by omega⟩
    exact look_main root A c l hok m (by omega) (fun y u hu => look_any root A c l hok hl4 m (by omega) y u hu) X n hn hk w h
def RefEnd (l : List Nd) (root : Int) (w : World) (e : Ending) (w' : World) : Prop :=
 ∃ v, e = .returned (.tuple #[v, .int .i64 (if treeErr l root = 0 then (depthOf l root : Int) else 0), .int .i64 (treeErr l root)]) ∧ OwnR w.heap.size w' v (if treeErr l root = 0 then allOf l root else []) ∧ Calm w w'
theorem RefEnd.bad {l : List Nd} {root : Int} {w w' : World} {E : Int} (h : treeErr l root = E) (h0 : E ≠ 0) (hc : Calm w w') : RefEnd l root w (.returned (.tuple #[.slice none 0 0, .int .i64 0, .int .i64 E])) w' := by
 have h1 : ¬ treeErr l root = 0 := by rw [h]; exact h0
 refine ⟨.slice none 0 0, by rw [if_neg h1, h], ?_, hc⟩
 rw [if_neg h1]; exact OwnR.nil _ _
theorem used_take {l : List Nd} {k : Nat} {n : Nd} (h : l[k]? = some n) : (l.take (k + 1)).countP (fun n => decide (n.kd ≠ 0)) = (l.take k).countP (fun n => decide (n.kd ≠ 0)) + (if n.kd ≠ 0 then 1 else 0) := by
 obtain ⟨hk, he⟩ := List.getElem?_eq_some_iff.1 h
 rw [List.take_succ_eq_append_getElem hk, List.countP_append, he, List.countP_singleton]
 simp
set_option maxHeartbeats 8000000 in
theorem refTree_any (root : Int) (A : Option Addr) (c : Nat) (l : List Nd) (w : World) (h : TrAt w A l) (hcap : ∀ n ∈ l, n.E.length ≤ n.c1) (hszd : ∀ n ∈ l, NdSized n) :
    Calls Try.prog 19 #[.agg #[.int .i64 root, .slice A l.length c]] w (RefEnd l root w) := by
  have hx := heap_new w (.cells #[.int .i64 root, .slice A l.length c] 25)
  have hu := (Calm.refl w).alloc (.cells #[.int .i64 root, .slice A l.length c] 25)
  have HT := Lib.hid h
  have hln := h.len
  have HC := Lib.hid hcap
  have HSZ := Lib.hid hszd
  clear h hcap hszd
  by_cases hlg : 400 < l.length
  · have hE : Hid (∀ w', Calm w w' → RefEnd l root w (.returned (.tuple #[.slice none 0 0, .int .i64 0, .int .i64 2])) w') := show ∀ _, _ from fun w' => RefEnd.bad (treeErr_large hlg) (by decide)
    have hli : (l.length : Int) > 400 := by omega
    go_enter Try.func19, Try.ntmps19
    go_wp2_with fail
    go_ret3
    exact hE.out _ hu
  have hli : ¬ (l.length : Int) > 400 := by omega
  have hlr : Hid (l.length ≤ 400) := show _ ≤ _ by omega
  clear hlg
  go_enter Try.func19, Try.ntmps19
  go_wp2_with fail
  go_loopw [5, 18] (fun u i wr => ∃ k : Nat, k ≤ l.length ∧ i = .int .i64 k ∧ u = .int .i64 (((l.take k).countP (fun n => decide (n.kd ≠ 0)) : Nat) : Int) ∧ Calm (w.alloc (.cells #[.int .i64 root, .slice A l.length c] 25)) wr ∧ Hid (∀ i, i < k → ndAtErr l i = 0)) (fun _ i _ => l.length - (intOf i).toNat)
  case atStart => exact ⟨0, Nat.zero_le _, rfl, rfl, Calm.refl _, show ∀ _, _ from fun i hi => absurd hi (Nat.not_lt_zero _)⟩
  case round =>
    obtain ⟨k, hk, rfl, rfl, hv, hN⟩ := hrel
    have hx1 := (hv.block (by simp)).trans hx
    have hv0 := hu.call hv
    have hT1 := Lib.hid (HT.out.calm hv0)
    obtain ⟨x0, x1, hxs⟩ := rowT hx1
    have hu4 : (l.take k).countP (fun n => decide (n.kd ≠ 0)) ≤ 400 := Nat.le_trans List.countP_le_length (by rw [List.length_take]; have := hlr.out; omega)
    by_cases hlt : k < l.length
    · obtain ⟨b, q, kd, A1, A2, A3, A4, c1, c2, c3, c4, E, K, S, T, hA, hb, HN, HA, n0, n1, n2, n3, n4⟩ := hT1.out.get hlt
      cases hA
      have hat : Hid (ndAtErr l k = ndErr kd E K S T) := by show _ = _; unfold ndAtErr; rw [HN.out]
      have hcp := HC.out _ (List.mem_of_getElem? HN.out)
      obtain ⟨s1, s2, s3, s4⟩ := HSZ.out _ (List.mem_of_getElem? HN.out)
      simp only at hcp s1 s2 s3 s4
      have hUT : Hid ((l.take (k + 1)).countP (fun n => decide (n.kd ≠ 0)) = (l.take k).countP (fun n => decide (n.kd ≠ 0)) + (if kd ≠ 0 then 1 else 0)) := used_take HN.out
      generalize (l.take k).countP (fun n => decide (n.kd ≠ 0)) = U at hu4 hUT ⊢
      have cN := fun u (hu : Calm wr u) => refNode_any kd A1 A2 A3 A4 c1 c2 c3 c4 E K S T u (HA.out.calm hu) hcp (by omega) (by omega) (by omega) (by omega)
      clear hcp s1 s2 s3 s4
      have hnb := heap_new wr (.cells #[.int .i64 kd, .slice A1 E.length c1, .slice A2 K.length c2, .slice A3 S.length c3, .slice A4 T.length c4] 59)
      by_cases hz : ndErr kd E K S T = 0
      · have hN1 : Hid (∀ i, i < k + 1 → ndAtErr l i = 0) := show ∀ _, _ from fun i hi => by
          rcases Nat.lt_or_ge i k with h2 | h2
          · exact hN.out i h2
          · obtain rfl : i = k := by omega
            rw [hat.out, hz]
        rw [hz] at cN
        clear hz hat
        by_cases hkd : kd = 0
        · subst hkd
          have hU1 : Hid (U = (l.take (k + 1)).countP (fun n => decide (n.kd ≠ 0))) := show _ = _ by rw [hUT.out]; simp
          go_wp2_with (go_at_call 54; (with_reducible refine (cN _ ((Calm.refl _).alloc _)).mono ?_); rintro e w1 ⟨rfl, hb1⟩; have hv1 := (hv.alloc _).call hb1; have hnb1 := (hb1.block (row5 hnb).2.2.2.2.2).trans hnb; obtain ⟨m0, m1, m2, m3, m4, hms⟩ := row5 hnb1; clear hb1)
          go_roundw
          case rel => exact ⟨k + 1, by omega, by go_num, by rw [← hU1.out], hv1, hN1⟩
          case measure => simp [intOf]; omega
        · have hkb : (kd != 0) = true := by rw [bne_iff_ne]; exact hkd
          have hU1 : Hid (U + 1 = (l.take (k + 1)).countP (fun n => decide (n.kd ≠ 0))) := show _ = _ by rw [hUT.out, if_pos hkd]
          go_wp2_with (go_at_call 54; (with_reducible refine (cN _ ((Calm.refl _).alloc _)).mono ?_); rintro e w1 ⟨rfl, hb1⟩; have hv1 := (hv.alloc _).call hb1; have hnb1 := (hb1.block (row5 hnb).2.2.2.2.2).trans hnb; obtain ⟨m0, m1, m2, m3, m4, hms⟩ := row5 hnb1; clear hb1)
          go_roundw
          case rel => exact ⟨k + 1, by omega, by go_num, by rw [← hU1.out]; go_num, hv1, hN1⟩
          case measure => simp [intOf]; omega
      · have hR : Hid (∀ w', Calm w w' → RefEnd l root w (.returned (.tuple #[.slice none 0 0, .int .i64 0, .int .i64 (ndErr kd E K S T)])) w') := show ∀ _, _ from fun w' => RefEnd.bad (by
          have e1 := firstErr_at (f := ndAtErr l) (n := l.length) hN.out (by rw [hat.out]; exact hz) hlt
          rw [hat.out] at e1
          have e2 : nodesErr l = ndErr kd E K S T := e1
          rw [treeErr_node hlr.out (by rw [e2]; exact hz), e2]) hz
        have b1 : (ndErr kd E K S T != 0) = true := by rw [bne_iff_ne]; exact hz
        generalize ndErr kd E K S T = R at cN hR b1
        clear hz hat
        go_wp2_with (go_at_call 54; (with_reducible refine (cN _ ((Calm.refl _).alloc _)).mono ?_); rintro e w1 ⟨rfl, hb1⟩; have hv1 := hu.call ((hv.alloc _).call hb1); clear hb1)
        go_ret3
        exact hR.out _ hv1
    have hkk : k = l.length := by omega
    have hUu : (l.take k).countP (fun n => decide (n.kd ≠ 0)) = usedOf l := by rw [hkk, List.take_length]; rfl
    rw [hUu] at hu4 ⊢
    clear hUu
    have hnz : Hid (nodesErr l = 0) := show nodesErr l = 0 from firstErr_zero.2 fun i hi => hN.out i (by omega)
    have hok : Hid (NdsOk l) := nodesErr_zero.1 hnz.out
    have hli2 : ¬ (k : Int) < (l.length : Int) := by omega
    have hform : Hid (treeErr l root ≠ 0 → ∀ w', Calm w w' → RefEnd l root w (.returned (.tuple #[.slice none 0 0, .int .i64 0, .int .i64 3])) w') := show _ → ∀ _, _ from fun h w' => RefEnd.bad (treeErr_form hlr.out hnz.out fun hG => h (treeErr_good hlr.out hnz.out hG)) (by decide)
    have hrg : Hid (treeErr l root = 0 → lookR l 12 root = some (beneathD l (depthOf l root) root) ∧ (nodesD l (depthOf l root) root).length = usedOf l ∧ (nodesD l (depthOf l root) root).Nodup) := show _ → _ from fun h => ref_good h
    have hgr : Hid (∀ b, lookR l 12 root = some b → b.N.length = usedOf l → b.N.Nodup → treeErr l root = 0) := show ∀ _, _ from fun b h1 h2 h3 => good_ref hlr.out hok.out h1 h2 h3
    have hll : Hid (∀ b, lookR l 12 root = some b → BnLe b 12) := show ∀ _, _ from fun b h1 => look_len hok.out h1
    have cL : ∀ u, Calm wr u → Calls Try.prog 55 #[.agg #[.int .i64 root, .slice A l.length c], .int .i64 root, .int .i64 12] u (LookEnd l 12 root u) := fun u hu => look_any root A c l hok.out hlr.out 12 (Nat.le_refl _) root u (hT1.out.calm hu)
    generalize usedOf l = U at hu4 hrg hgr ⊢
    clear hkk hlt
    cases hlk : lookR l 12 root with
    | none =>
      have hno := Lib.hid hlk
      have hend := Lib.hid (hform.out fun h0 => by have := (hrg.out h0).1; rw [hlk] at this; cases this)
      clear hlk hform hrg hgr hll
      go_upto_region 14 with (go_at_call 55; (with_reducible refine (cL _ (Calm.refl _)).mono ?_); rintro e w5 ⟨hc5, hcase⟩; obtain ⟨-, rfl⟩ : _ ∧ e = _ := (hcase.elim id fun ⟨b, _, _, _, h9, _⟩ => by rw [hno.out] at h9; cases h9); clear hcase; unfold bnZ)
      have hc7 := hv0.call (hc5.alloc (.cells #[.slice none 0 0, .slice none 0 0, .int .i64 0, .slice none 0 0] 94))
      go_wp2_with fail
      go_ret3
      exact hend.out _ hc7
    | some bb =>
      have hno := Lib.hid hlk
      have HBL := Lib.hid (hll.out bb hlk)
      clear hlk hll
      have hw0 : Hid (w.heap.size ≤ wr.heap.size) := hv0.size
      go_upto_region 14 with (go_at_call 55; (with_reducible refine (cL _ (Calm.refl _)).mono ?_); rintro e w5 ⟨hc5, hcase⟩; obtain ⟨v1, v2, v3, rfl, hB⟩ : ∃ v1 v2 v3, e = .returned (.tuple #[.agg #[v1, v2, .int .i64 bb.D, v3], .bool true]) ∧ Own3 wr.heap.size w5 v1 v2 v3 bb.E bb.S bb.N := hcase.elim (fun h9 => absurd (h9.1.symm.trans hno.out) (by simp)) (fun ⟨b', v1, v2, v3, h9, h10, h11⟩ => ⟨v1, v2, v3, (by rw [Option.some.inj (h9.symm.trans hno.out)] at h10; exact h10), (by rw [Option.some.inj (h9.symm.trans hno.out)] at h11; exact h11)⟩); clear hcase; obtain ⟨p2, r2, g2⟩ := hB.e.slice; obtain ⟨p5, r5, g5⟩ := hB.s.slice; obtain ⟨p7, r7, g7⟩ := hB.n.slice; subst g2; subst g5; subst g7)
      have hc6 := hc5.alloc (.cells #[.slice p2 bb.E.length r2, .slice p5 bb.S.length r5, .int .i64 bb.D, .slice p7 bb.N.length r7] 94)
      have hbx := heap_new w5 (.cells #[.slice p2 bb.E.length r2, .slice p5 bb.S.length r5, .int .i64 bb.D, .slice p7 bb.N.length r7] 94)
      have HB6 := Lib.hid (hB.calm ((Calm.refl w5).alloc (.cells #[.slice p2 bb.E.length r2, .slice p5 bb.S.length r5, .int .i64 bb.D, .slice p7 bb.N.length r7] 94)))
      have hn5 : Hid (∀ k, (Value.slice p7 bb.N.length r7).ownBlock = some k → wr.heap.size ≤ k ∧ k < w5.heap.size) := show ∀ _, _ from fun k hk => hB.n.lt k hk
      have hne : Hid ((Value.slice p7 bb.N.length r7).ownBlock ≠ some w5.heap.size) := show _ ≠ _ from fun hk => by have := (hn5.out _ hk).2; omega
      generalize w5.alloc (.cells #[.slice p2 bb.E.length r2, .slice p5 bb.S.length r5, .int .i64 bb.D, .slice p7 bb.N.length r7] 94) = w6 at hc6 hbx HB6 ⊢
      obtain ⟨t0, t1, t2, t3, hts⟩ := row4 hbx
      clear hB x0 x1 hxs
      by_cases hnu : bb.N.length = U
      rotate_left
      · have hend := Lib.hid (hform.out fun h0 => by
          obtain ⟨h1, h2, -⟩ := hrg.out h0
          have h3 := Option.some.inj (hno.out.symm.trans h1)
          exact hnu (by rw [h3]; exact h2))
        have hni : ((bb.N.length : Int) != (U : Int)) = true := by rw [bne_iff_ne]; omega
        clear hform hrg hgr
        have hc7 := hv0.call hc6
        go_wp2_with fail
        go_ret3
        exact hend.out _ hc7
      have hn1 : 0 < bb.N.length := by
        obtain ⟨d, h0, -, hs, h3, -⟩ := of_look hok.out 12 root bb hno.out
        cases d with
        | zero => omega
        | succ d =>
          obtain ⟨n, hn, -⟩ := hs
          have h4 : bb.N = nodesD l (d + 1) root := by rw [h3]; rfl
          rw [h4, nodesD, hn]
          simp
      subst hnu
      have hn4 := HBL.out.n
      have hn4' : bb.N.length ≤ 1000000 := by omega
      have hfin : Hid (bb.N.Nodup → ∀ w', OwnR w.heap.size w' (.slice p2 bb.E.length r2) bb.E → Calm w w' → RefEnd l root w (.returned (.tuple #[.slice p2 bb.E.length r2, .int .i64 bb.D, .int .i64 0])) w') := show _ → ∀ _, _ from fun hd w' ho hc => by
        have h0 := hgr.out bb hno.out rfl hd
        have hb := Option.some.inj (hno.out.symm.trans (hrg.out h0).1)
        refine ⟨.slice p2 bb.E.length r2, ?_, ?_, hc⟩
        · rw [if_pos h0, h0, show (depthOf l root : Int) = bb.D by rw [hb]; rfl]
        · rw [if_pos h0, show allOf l root = bb.E by rw [hb]; rfl]
          exact ho
      have hend : Hid (¬ bb.N.Nodup → ∀ w', Calm w w' → RefEnd l root w (.returned (.tuple #[.slice none 0 0, .int .i64 0, .int .i64 3])) w') := show _ → _ from fun hd => hform.out fun h0 => by
        obtain ⟨h1, -, h2⟩ := hrg.out h0
        have h3 := Option.some.inj (hno.out.symm.trans h1)
        exact hd (by rw [h3]; exact h2)
      clear hform hrg hgr
      have HX7 := Lib.hid hbx
      have cO := sort_any wr.heap.size (.slice p7 bb.N.length r7) bb.N w6 HB6.out.n hn1 hn4'
      clear hbx
      by_cases hcl : (Lib.compact (sortI bb.N)).length = bb.N.length
      · have HCL := Lib.hid hcl
        have hend := Lib.hid (hfin.out ((sortI_perm bb.N).nodup_iff.1 ((compact_len (sortI_sorted bb.N)).1 (by rw [sortI_len]; exact hcl))))
        clear hcl hfin
        go_wp2_with first
          | (go_at_call 56; (with_reducible refine cO.mono ?_); rintro e w8 ⟨rfl, hs8, hg8⟩; have HS8 := Lib.hid hs8; have HG8 := Lib.hid hg8; clear hs8 hg8 t0 t1 t2 t3 hts; have hbx8 := (HG8.out.block _ (Array.getElem?_eq_some_iff.1 HX7.out).1 (Ne.symm hne.out)).trans HX7.out; obtain ⟨t0, t1, t2, t3, hts⟩ := row4 hbx8; have HX8 := Lib.hid hbx8; clear hbx8; have cP := compact_any wr.heap.size (.slice p7 bb.N.length r7) (sortI bb.N) w8 HS8.out (by rw [sortI_len]; exact hn1) (by rw [sortI_len]; exact hn4'); rw [HCL.out] at cP)
          | (go_at_call 57; (with_reducible refine cP.mono ?_); rintro e w9 ⟨A9, c9, rfl, hg9⟩; have HG9 := Lib.hid hg9; clear hg9 t0 t1 t2 t3 hts; have hbx9 := (HG9.out.block _ (Array.getElem?_eq_some_iff.1 HX8.out).1 (Ne.symm hne.out)).trans HX8.out; obtain ⟨t0, t1, t2, t3, hts⟩ := row4 hbx9; have HX9 := Lib.hid hbx9; clear hbx9)
        have hc9 : Calm w w9 := (Below.grown (Below.grown (hv0.call hc6) HG8.out (Calm.size (hv0.call hc6)) (fun k hk => Nat.le_trans hw0.out (hn5.out k hk).1)) HG9.out (Nat.le_trans (Calm.size (hv0.call hc6)) HG8.out.size) (fun k hk => Nat.le_trans hw0.out (hn5.out k hk).1))
        have ho9 := (rows_away (rows_away HB6.out.e HG8.out HB6.out.en.symm) HG9.out HB6.out.en.symm)
        have HO9 : Hid (OwnR w.heap.size w9 (.slice p2 bb.E.length r2) bb.E) := show OwnR _ _ _ _ from rows_weaken ho9 hw0.out
        clear ho9
        go_upto_region 19 with fail
        refine wp_region_plan [.val (.pointer (some ⟨w5.heap.size, 0, none⟩)), .val (.slice p2 bb.E.length r2), .val (.pointer (some ⟨w5.heap.size, 2, none⟩)), .val (.int .i64 (bb.D)), .val (.slice p2 bb.E.length r2), .val (.int .i64 (bb.D)), .val (.int .i64 (0))] (by kernel_rfl) (by kernel_rfl) (by kernel_rfl) ?_
        intro X
        iterate 7
          refine plan_val (by kernel_rfl) (fun u hu => ?_) ?_
          · obtain ⟨hc, hf, hz⟩ := hu.of_drew.facts
            go_simp
          simp only [Act.put, List.setIfInBounds_toArray, List.set_cons_zero, List.set_cons_succ, Nat.reduceAdd]
        refine plan_end ?_
        intro w' hB
        have hk := hB.calm.of_drew
        clear hB
        go_wp2_with fail
        go_ret3
        exact hend.out _ (rows_calm HO9.out hk) (hc9.call hk)
      · have hnd : ¬ bb.N.Nodup := fun hd => hcl (by rw [(compact_len (sortI_sorted bb.N)).2 ((sortI_perm bb.N).nodup_iff.2 hd), sortI_len])
        have hend := Lib.hid (hend.out hnd)
        obtain ⟨Z, hZ⟩ : ∃ Z, (Lib.compact (sortI bb.N)).length = Z := ⟨_, rfl⟩
        have HCL := Lib.hid hZ
        have hni : ((Z : Int) != (bb.N.length : Int)) = true := by rw [bne_iff_ne]; omega
        clear hcl hfin hZ hnd
        go_wp2_with first
          | (go_at_call 56; (with_reducible refine cO.mono ?_); rintro e w8 ⟨rfl, hs8, hg8⟩; have HS8 := Lib.hid hs8; have HG8 := Lib.hid hg8; clear hs8 hg8 t0 t1 t2 t3 hts; have hbx8 := (HG8.out.block _ (Array.getElem?_eq_some_iff.1 HX7.out).1 (Ne.symm hne.out)).trans HX7.out; obtain ⟨t0, t1, t2, t3, hts⟩ := row4 hbx8; have HX8 := Lib.hid hbx8; clear hbx8; have cP := compact_any wr.heap.size (.slice p7 bb.N.length r7) (sortI bb.N) w8 HS8.out (by rw [sortI_len]; exact hn1) (by rw [sortI_len]; exact hn4'); rw [HCL.out] at cP)
          | (go_at_call 57; (with_reducible refine cP.mono ?_); rintro e w9 ⟨A9, c9, rfl, hg9⟩; have HG9 := Lib.hid hg9; clear hg9 t0 t1 t2 t3 hts; have hbx9 := (HG9.out.block _ (Array.getElem?_eq_some_iff.1 HX8.out).1 (Ne.symm hne.out)).trans HX8.out; obtain ⟨t0, t1, t2, t3, hts⟩ := row4 hbx9; have HX9 := Lib.hid hbx9; clear hbx9)
        have hc9 : Calm w w9 := (Below.grown (Below.grown (hv0.call hc6) HG8.out (Calm.size (hv0.call hc6)) (fun k hk => Nat.le_trans hw0.out (hn5.out k hk).1)) HG9.out (Nat.le_trans (Calm.size (hv0.call hc6)) HG8.out.size) (fun k hk => Nat.le_trans hw0.out (hn5.out k hk).1))
        go_ret3
        exact hend.out _ hc9
open Go.RowKit
def TreeIs (l : List Nd) (root : Int) (A : Option Addr) (c : Nat) (D E : Int) (L : List El) (w : World) : Prop := ∀ u, Calm w u → Calls Try.prog 19 #[.agg #[.int .i64 root, .slice A l.length c]] u fun e w' => ∃ v, e = .returned (.tuple #[v, .int .i64 D, .int .i64 E]) ∧ OwnR u.heap.size w' v L ∧ Calm u w'
set_option maxHeartbeats 4000000 in
theorem treed_of (root : Int) (A A' : Option Addr) (c c' : Nat) (l : List Nd) (L : List El) (D : Int) (w : World) (hR : TreeIs l root A c D 0 L w) (hw : ∀ e ∈ L, e.wf) (hn : L.length ≤ 1000000) (hL : Lies w A' L) :
    Calls Try.prog 16 #[.agg #[.int .i64 root, .slice A l.length c], .slice A' L.length c'] w fun e w' => e = .returned (.bool true) ∧ Calm w w' := by
  have hu := (Calm.refl w).alloc (.cells #[.int .i64 root, .slice A l.length c] 25)
  have hx := heap_new w (.cells #[.int .i64 root, .slice A l.length c] 25)
  obtain ⟨x0, x1, hxs⟩ := rowT hx
  unfold TreeIs at hR
  have HR := Lib.hid hR
  have HW := Lib.hid hw
  have HL := Lib.hid hL
  clear hR hw hL
  go_enter Try.func16, Try.ntmps16
  go_wp2_with first
    | (go_at_call 19; (with_reducible refine (HR.out _ hu).mono ?_); rintro e w1 ⟨v, rfl, ho, hb1⟩; obtain ⟨A1, c1, hv1, hn1, hn2, hl1⟩ := ho.lies HW.out; subst hv1; have HL1 := Lib.hid hl1; replace hu := hu.call hb1; clear hb1 ho hl1)
    | (go_at_call 23; (with_reducible refine (equal_self _ _ _ _ L _ (by omega) HL1.out (HL.out.calm hu)).mono ?_); rintro e w2 ⟨rfl, hb2⟩; replace hu := hu.call hb2)
  go_ret
  exact ⟨rfl, hu⟩
open Go.RowKit
set_option maxHeartbeats 4000000 in
theorem equalNodes_nil (w : World) : Calls Try.prog 79 #[.slice none 0 0, .slice none 0 0, .func (.func 80) #[] #[]] w fun e w' => e = .returned (.bool true) ∧ Calm w w' := by
 go_enter Try.func79, Try.ntmps79
 go_wp2_with fail
 go_loopw [17] (fun i wr => i = .int .i64 0 ∧ Calm w wr) (fun _ _ => 0)
 case atStart => exact ⟨rfl, Calm.refl _⟩
 case round =>
  obtain ⟨rfl, hu⟩ := hrel
  go_wp2_with fail
  go_ret
  exact ⟨rfl, hu⟩
set_option maxHeartbeats 4000000 in
theorem sameTree_zero (w : World) : Calls Try.prog 44 #[.agg #[.int .i64 0, .slice none 0 0], .agg #[.int .i64 0, .slice none 0 0]] w fun e w' => e = .returned (.bool true) ∧ Calm w w' := by
 go_enter Try.func44, Try.ntmps44
 go_wp2_with (go_at_call 79; (with_reducible refine (equalNodes_nil _).mono ?_); rintro e w1 ⟨rfl, hb1⟩)
 go_ret
 exact ⟨rfl, by repeat (first | (with_reducible exact Calm.refl _) | (with_reducible refine Calm.alloc ?_ _) | (with_reducible refine Calm.drew ?_) | (with_reducible refine Calm.drewN ?_ _) | (refine Calm.call ?_ (by with_reducible assumption)))⟩
set_option maxHeartbeats 4000000 in
theorem refused_zero (E : Int) (w : World) : Calls Try.prog 15 #[.agg #[.int .i64 0, .slice none 0 0], .int .i64 E, .int .i64 E] w fun e w' => e = .returned (.bool true) ∧ Calm w w' := by
 have hu := (Calm.refl w).alloc (.cells #[.int .i64 0, .slice none 0 0] 25)
 have hx := heap_new w (.cells #[.int .i64 0, .slice none 0 0] 25)
 obtain ⟨x0, x1, hxs⟩ := rowT hx
 go_enter Try.func15, Try.ntmps15
 go_wp2_with (go_at_call 44; (with_reducible refine (sameTree_zero _).mono ?_); rintro e w1 ⟨rfl, hb1⟩; replace hu := hu.call hb1)
 go_ret
 exact ⟨rfl, hu⟩
open Go.RowKit
structure BuiltOk (w : World) (r : Int) (A : Option Addr) (c : Nat) (us : List Nd) (L : List El) (w' : World) : Prop where
 own : TOwn w.heap.size w' (.slice A us.length c) us
 err : treeErr us r = 0
 all : allOf us r = L
 cnt : us.length = lvls L.length
theorem BuiltOk.treed {w w' wX : World} {r : Int} {A A' : Option Addr} {c c' : Nat} {us : List Nd} {L : List El} (h : BuiltOk w r A c us L w') (hw : ∀ e ∈ L, e.wf) (hn : L.length ≤ 1000000) (hc : Calm w' wX) (hL : Lies wX A' L) :
    ∀ u, Calm wX u → Calls Try.prog 16 #[.agg #[.int .i64 r, .slice A us.length c], .slice A' L.length c'] u fun e w' => e = .returned (.bool true) ∧ Calm u w' := fun u hu => by
  have hg := tree_good h.err
  refine treed_of r A A' c c' us L (depthOf us r : Int) u (fun u' hu' => ?_) hw hn (hL.calm hu)
  have hsz : ∀ n ∈ us, NdSized n := fun n hn => by
    obtain ⟨h1, h2, h3, h4, -, -⟩ := nd_sizes (hg.2.1 n hn)
    unfold NdSized; omega
  have h1 := refTree_any r A c us u' ((h.own.at_ (by have := hg.1; omega)).calm (hc.call (hu.call hu'))) (fun n hn => (h.own.ndcaps n hn).1) hsz
  refine h1.mono fun e w'' he => ?_
  unfold RefEnd at he
  rw [if_pos h.err, if_pos h.err, h.err, h.all] at he
  exact he
open Go.RowKit
set_option maxHeartbeats 16000000 in
theorem buildSays_big (root : Int) (A A0 : Option Addr) (c c0 : Nat) (l : List Nd) (L : List El) (w : World) (h : TrAt w A l) (hcap : ∀ n ∈ l, n.E.length ≤ n.c1) (hszd : ∀ n ∈ l, NdSized n) (hE : bErr L ≠ 0) (hbig : 400 < L.length) (hn : L.length ≤ 9223372036854775807) (hL : Lies w A0 L) (hc0 : L.length ≤ c0) :
    Calls Try.prog 3 #[.slice A0 L.length c0, .agg #[.int .i64 root, .slice A l.length c]] w fun e w' => e = .returned (.bool true) ∧ Calm w w' := by
  have hx := heap_new w (.cells #[.int .i64 root, .slice A l.length c] 25)
  have hv := (Calm.refl w).alloc (.cells #[.int .i64 root, .slice A l.length c] 25)
  have HT := Lib.hid h
  clear h
  have e2 : bErr L = 2 := by unfold bErr; rw [if_pos hbig]
  have cO : ∀ u, Calm w u → Calls Try.prog 12 #[.slice A0 L.length c0] u fun e w' => e = .returned (.tuple #[.agg #[.int .i64 0, .slice none 0 0], .int .i64 2]) ∧ Calm u w' := fun u hu => (buildOf_any A0 c0 L u hn (hL.calm hu) hc0).mono fun e w' he => by
    unfold OfEnd at he
    rcases he with ⟨-, h1, h2⟩ | ⟨h1, -⟩
    · exact ⟨by rw [h1, e2], h2⟩
    · exact absurd h1 hE
  have i1 : (400 : Int) < (L.length : Int) := by omega
  have i0 : (0 : Int) < (L.length : Int) := by omega
  have HN := Lib.hid hn
  clear hE e2 hL hc0
  go_enter Try.func3, Try.ntmps3
  go_upto_region 1 with fail
  generalize w.alloc (.cells #[.int .i64 root, .slice A l.length c] 25) = w0 at hx hv ⊢
  obtain ⟨x0, x1, hxs⟩ := rowT hx
  go_upto_region 3 with (go_at_call 12; (with_reducible refine (cO _ hv).mono ?_); rintro e w1 ⟨rfl, hb1⟩; have hy := heap_new w1 (.cells #[.int .i64 0, .slice none 0 0] 25); replace hx := heap_past (.cells #[.int .i64 0, .slice none 0 0] 25) ((hb1.block (rowT hx).2.2).trans hx); replace hv := (hv.call hb1).alloc (.cells #[.int .i64 0, .slice none 0 0] 25); clear hb1 cO; obtain ⟨x0, x1, hxs⟩ := rowT hx; obtain ⟨y0, y1, hys⟩ := rowT hy)
  clear hbig
  go_upto_region 6 with fail
  refine wp_loop_rounds 1 ?_
  rw [rounds_succ]
  go_upto_region 16 with (go_at_call 15; (with_reducible refine (refused_zero _ _).mono ?_); rintro e w7 ⟨rfl, hb1⟩; replace hx := (hb1.block (rowT hx).2.2).trans hx; obtain ⟨x0, x1, hxs⟩ := rowT hx; replace hv := hv.call hb1; clear hb1)
  have h := HT.out
  have cT := fun u (hu : Calm w u) => refTree_any root A c l u (h.calm hu) hcap hszd
  have cK0 := fun u (hu : Calm w u) => pack_any root A c l u (h.calm hu)
  unfold RefEnd at cT
  unfold PackEnd at cK0
  by_cases hz0 : treeErr l root = 0
  rotate_left
  · have cK : ∀ u, Calm w u → Calls Try.prog 18 #[.agg #[.int .i64 root, .slice A l.length c]] u fun e w' => e = .returned (.tuple #[.agg #[.int .i64 0, .slice none 0 0], .int .i64 (treeErr l root)]) ∧ Calm u w' := fun u hu => (cK0 u hu).mono fun e w' he => by
      rcases he with ⟨-, h1, h2⟩ | ⟨h1, -⟩
      · exact ⟨h1, h2⟩
      · exact absurd h1 hz0
    have b1 : (treeErr l root != 0) = true := by rw [bne_iff_ne]; exact hz0
    have b2 : (treeErr l root == 0) = false := by simpa using hz0
    simp only [if_neg hz0] at cT
    generalize treeErr l root = R at cT cK b1 b2
    clear h hz0 cK0 HT
    go_wp2_with (first
      | (go_at_call 18; (with_reducible refine (cK _ hv).mono ?_); rintro e w8 ⟨rfl, hb1⟩; have hz := heap_new w8 (.cells #[.int .i64 0, .slice none 0 0] 25); replace hx := heap_past (.cells #[.int .i64 0, .slice none 0 0] 25) ((hb1.block (rowT hx).2.2).trans hx); replace hv := (hv.call hb1).alloc (.cells #[.int .i64 0, .slice none 0 0] 25); clear hb1 cK; obtain ⟨x0, x1, hxs⟩ := rowT hx; obtain ⟨z0, z1, hzs⟩ := rowT hz)
      | (go_at_call 19; (with_reducible refine (cT _ hv).mono ?_); rintro e w9 ⟨v9, rfl, ho9, hb1⟩; obtain ⟨A9, c9, rfl, -, -, hL9⟩ := ho9.lies (by simp); have HL9 := Lib.hid hL9; replace hz := (hb1.block (rowT hz).2.2).trans hz; replace hx := (hb1.block (rowT hx).2.2).trans hx; obtain ⟨x0, x1, hxs⟩ := rowT hx; obtain ⟨z0, z1, hzs⟩ := rowT hz; replace hv := hv.call hb1; clear hb1 ho9 hL9 cT)
      | (go_at_call 15; (with_reducible refine (refused_zero _ _).mono ?_); rintro e w10 ⟨rfl, hb1⟩; replace hv := hv.call hb1; clear hb1))
    go_ret
    exact ⟨rfl, hv⟩
  have hwfT : ∀ e ∈ allOf l root, e.wf := by unfold allOf; exact recs_wf h _ _
  have hlT : (allOf l root).length ≤ 3200 := by
    obtain ⟨-, -, d, -, -, -, hl⟩ := tree_good hz0
    exact hl
  simp only [hz0, if_pos] at cT
  generalize depthOf l root = DD at cT
  by_cases h4 : 400 < (allOf l root).length
  · have cK : ∀ u, Calm w u → Calls Try.prog 18 #[.agg #[.int .i64 root, .slice A l.length c]] u fun e w' => e = .returned (.tuple #[.agg #[.int .i64 0, .slice none 0 0], .int .i64 2]) ∧ Calm u w' := fun u hu => (cK0 u hu).mono fun e w' he => by
      rcases he with ⟨h1, -⟩ | ⟨-, he⟩
      · exact absurd hz0 h1
      · have e4 : bErr (allOf l root) = 2 := by rw [bErr_all hz0, if_pos h4]
        unfold OfEnd at he
        rw [e4] at he
        rcases he with ⟨-, h1, h2⟩ | ⟨h1, -⟩
        · exact ⟨h1, h2⟩
        · exact absurd h1 (by decide)
    generalize allOf l root = M at cT hwfT hlT h4
    have i4 : (400 : Int) < (M.length : Int) := by omega
    clear h hz0 cK0 HT
    go_wp2_with (first
      | (go_at_call 18; (with_reducible refine (cK _ hv).mono ?_); rintro e w8 ⟨rfl, hb1⟩; have hz := heap_new w8 (.cells #[.int .i64 0, .slice none 0 0] 25); replace hx := heap_past (.cells #[.int .i64 0, .slice none 0 0] 25) ((hb1.block (rowT hx).2.2).trans hx); replace hv := (hv.call hb1).alloc (.cells #[.int .i64 0, .slice none 0 0] 25); clear hb1 cK; obtain ⟨x0, x1, hxs⟩ := rowT hx; obtain ⟨z0, z1, hzs⟩ := rowT hz)
      | (go_at_call 19; (with_reducible refine (cT _ hv).mono ?_); rintro e w9 ⟨v9, rfl, ho9, hb1⟩; obtain ⟨A9, c9, rfl, -, -, hL9⟩ := ho9.lies hwfT; have HL9 := Lib.hid hL9; replace hz := (hb1.block (rowT hz).2.2).trans hz; replace hx := (hb1.block (rowT hx).2.2).trans hx; obtain ⟨x0, x1, hxs⟩ := rowT hx; obtain ⟨z0, z1, hzs⟩ := rowT hz; replace hv := hv.call hb1; clear hb1 ho9 hL9 cT)
      | (go_at_call 15; (with_reducible refine (refused_zero _ _).mono ?_); rintro e w10 ⟨rfl, hb1⟩; replace hv := hv.call hb1; clear hb1))
    go_ret
    exact ⟨rfl, hv⟩
  have e4 : bErr (allOf l root) = 0 := by rw [bErr_all hz0, if_neg h4]
  have cK : ∀ u, Calm w u → Calls Try.prog 18 #[.agg #[.int .i64 root, .slice A l.length c]] u fun e w' => ∃ r3 A3 c3 us3, e = .returned (.tuple #[.agg #[.int .i64 r3, .slice A3 us3.length c3], .int .i64 0]) ∧ Hid (BuiltOk u r3 A3 c3 us3 (allOf l root) w') ∧ Calm u w' := fun u hu => (cK0 u hu).mono fun e w' he => by
    rcases he with ⟨h1, -⟩ | ⟨-, he⟩
    · exact absurd hz0 h1
    · unfold OfEnd at he
      rw [e4] at he
      rcases he with ⟨h1, -⟩ | ⟨-, r3, A3, c3, us3, h1, h2, h3, h5, h6, h7, h8⟩
      · exact absurd rfl h1
      · exact ⟨r3, A3, c3, us3, h1, ⟨h2, h3, h5, h7⟩, h8⟩
  generalize allOf l root = M at cT cK hwfT hlT h4
  have i4 : ¬ (400 : Int) < (M.length : Int) := by omega
  clear h hz0 cK0 HT e4
  go_upto_region 22 with (first
      | (go_at_call 18; (with_reducible refine (cK _ hv).mono ?_); rintro e w8 ⟨r3, A3, c3, us3, rfl, HB3, hb1⟩; have hz := heap_new w8 (.cells #[.int .i64 r3, .slice A3 us3.length c3] 25); replace hx := heap_past (.cells #[.int .i64 r3, .slice A3 us3.length c3] 25) ((hb1.block (rowT hx).2.2).trans hx); replace hv := (hv.call hb1).alloc (.cells #[.int .i64 r3, .slice A3 us3.length c3] 25); have hc3 := (Calm.refl w8).alloc (.cells #[.int .i64 r3, .slice A3 us3.length c3] 25); have hg8 := rfl (a := w8.heap.size); clear hb1 cK; obtain ⟨x0, x1, hxs⟩ := rowT hx; obtain ⟨z0, z1, hzs⟩ := rowT hz)
      | (go_at_call 19; (with_reducible refine (cT _ hv).mono ?_); rintro e w9 ⟨v9, rfl, ho9, hb1⟩; obtain ⟨A9, c9, rfl, -, -, hL9⟩ := ho9.lies hwfT; have HL9 := Lib.hid hL9; replace hz := (hb1.block (rowT hz).2.2).trans hz; replace hx := (hb1.block (rowT hx).2.2).trans hx; obtain ⟨x0, x1, hxs⟩ := rowT hx; obtain ⟨z0, z1, hzs⟩ := rowT hz; replace hv := hv.call hb1; replace hc3 := Lib.hid (hc3.call hb1); clear hb1 ho9 hL9 cT))
  have cTr := HB3.out.treed (c' := c9) hwfT (by omega) hc3.out HL9.out
  have cLv := levels_any M.length (by omega)
  rw [← HB3.out.cnt] at cLv
  have hcu := Calm.refl w9
  refine wp_region_plan [.val (.int .i64 (0)), .val (.bool true), .val (.bool true), .val (.agg #[.int .i64 r3, .slice A3 us3.length c3]), .val (.slice A9 M.length c9), .val (.bool true), .val (.bool true), .val (.bool true), .val (.pointer (some ⟨w8.heap.size, 1, none⟩)), .val (.slice A3 us3.length c3), .val (.int .i64 (us3.length)), .val (.slice A9 M.length c9), .val (.int .i64 (M.length)), .val (.int .i64 (us3.length)), .val (.bool true), .val (.bool true), .val (.bool true)] (by kernel_rfl) (by kernel_rfl) (by kernel_rfl) ?_
  intro X
  iterate 17
    refine plan_val (by kernel_rfl) (fun u hu => ?_) ?_
    · obtain ⟨hc, hf, hz⟩ := hu.of_drew.facts
      go_simp
      all_goals first
        | ((go_at_call 16; exact cTr _ hu.of_drew))
        | ((go_at_call 17; exact cLv _))
    simp only [Act.put, List.setIfInBounds_toArray, List.set_cons_zero, List.set_cons_succ, Nat.reduceAdd]
  refine plan_end ?_
  intro w' hB
  have hk := hB.calm.of_drew
  clear hB
  go_wp2_with fail
  go_ret
  exact ⟨rfl, hv.call hk⟩
open Go.RowKit
set_option maxHeartbeats 16000000 in
theorem buildSays_bad (root : Int) (A A0 : Option Addr) (c c0 : Nat) (l : List Nd) (L : List El) (w : World) (h : TrAt w A l) (hcap : ∀ n ∈ l, n.E.length ≤ n.c1) (hszd : ∀ n ∈ l, NdSized n) (hE : bErr L ≠ 0) (hbig : ¬ 400 < L.length) (hn : L.length ≤ 9223372036854775807) (hL : Lies w A0 L) (hc0 : L.length ≤ c0) :
    Calls Try.prog 3 #[.slice A0 L.length c0, .agg #[.int .i64 root, .slice A l.length c]] w fun e w' => e = .returned (.bool true) ∧ Calm w w' := by
  have hx := heap_new w (.cells #[.int .i64 root, .slice A l.length c] 25)
  have hv := (Calm.refl w).alloc (.cells #[.int .i64 root, .slice A l.length c] 25)
  have HT := Lib.hid h
  clear h
  have cO : ∀ u, Calm w u → Calls Try.prog 12 #[.slice A0 L.length c0] u fun e w' => e = .returned (.tuple #[.agg #[.int .i64 0, .slice none 0 0], .int .i64 (bErr L)]) ∧ Calm u w' := fun u hu => (buildOf_any A0 c0 L u hn (hL.calm hu) hc0).mono fun e w' he => by
    unfold OfEnd at he
    rcases he with ⟨-, h1, h2⟩ | ⟨h1, -⟩
    · exact ⟨h1, h2⟩
    · exact absurd h1 hE
  have i1 : ¬ (400 : Int) < (L.length : Int) := by omega
  have HBE : Hid (bErr L = elsErr L) := by show _ = _; unfold bErr; rw [if_neg hbig]
  have HE0 := Lib.hid hE
  have HL := Lib.hid hL
  clear hE hL hbig
  go_enter Try.func3, Try.ntmps3
  go_upto_region 1 with fail
  generalize w.alloc (.cells #[.int .i64 root, .slice A l.length c] 25) = w0 at hx hv ⊢
  obtain ⟨x0, x1, hxs⟩ := rowT hx
  go_upto_region 3 with (go_at_call 12; (with_reducible refine (cO _ hv).mono ?_); rintro e w1 ⟨rfl, hb1⟩; have hy := heap_new w1 (.cells #[.int .i64 0, .slice none 0 0] 25); replace hx := heap_past (.cells #[.int .i64 0, .slice none 0 0] 25) ((hb1.block (rowT hx).2.2).trans hx); replace hv := (hv.call hb1).alloc (.cells #[.int .i64 0, .slice none 0 0] 25); clear hb1 cO; obtain ⟨x0, x1, hxs⟩ := rowT hx; obtain ⟨y0, y1, hys⟩ := rowT hy)
  go_upto_region 6 with fail
  generalize w1.alloc (.cells #[.int .i64 0, .slice none 0 0] 25) = w2 at hx hy hv x0 x1 hxs y0 y1 hys ⊢
  have HX := Lib.hid hx
  have HY := Lib.hid hy
  have HV := Lib.hid hv
  clear hx hy hv x0 x1 hxs y0 y1 hys
  go_loopw [7, 8] (fun W i wr => ∃ (k : Nat) (X : Int), k ≤ L.length ∧ i = .int .i64 k ∧ W = .int .i64 X ∧ Calm w2 wr ∧ (X = 0 ∧ NoStep L k ∨ X ≠ 0 ∧ X = bErr L)) (fun _ i _ => L.length - (intOf i).toNat)
  case atStart => exact ⟨0, 0, Nat.zero_le _, rfl, rfl, Calm.refl _, .inl ⟨rfl, NoStep.zero L⟩⟩
  case round =>
    obtain ⟨k, X, hk, rfl, rfl, hq, hc⟩ := hrel
    rcases hc with ⟨rfl, hN⟩ | ⟨-, rfl⟩
    · by_cases hlt : k < L.length
      rotate_left
      · exact absurd (HBE.out.trans (hN.good (by omega)).symm) HE0.out
      obtain ⟨b, q, p, o, f, m, g, s, rfl, hb, HE, hm, e0, e1, e2, e3, e4, e5⟩ := (HL.out.calm (HV.out.call hq)).get hlt
      have hkc : (k : Int) + 1 ≤ (c0 : Int) := by omega
      have hkc2 : k + 1 ≤ c0 := by omega
      by_cases he : elemErr p o f m g s.size = 0
      rotate_left
      · have b1 : (elemErr p o f m g s.size == 0) = false := by simpa using he
        have K1 : Hid (elemErr p o f m g s.size = bErr L) := by
          have h1 := sStep_err HE.out (show El.err ⟨p, o, f, m, g, s⟩ ≠ 0 from he)
          show _ = _
          rw [HBE.out, ← hN.bad (by rw [h1]; exact he) hlt, h1]; rfl
        have HNE := Lib.hid he
        have cEl := fun u => refElem_any p o f m g s u hm
        clear he
        generalize elemErr p o f m g s.size = X at b1 K1 HNE cEl
        go_wp2_with (go_at_call 13; (with_reducible refine (cEl _).mono ?_); rintro e w5 ⟨rfl, hb1⟩; replace hq := hq.call hb1; clear hb1)
        go_roundw
        case rel => exact ⟨k + 1, X, by omega, by go_num, rfl, hq, .inr ⟨HNE.out, K1.out⟩⟩
        case measure => simp [intOf]; omega
      have b1 : (elemErr p o f m g s.size == 0) = true := by simpa using he
      have HZ := Lib.hid he
      rw [he] at b1
      have cEl := fun u => refElem_any p o f m g s u hm
      rw [he] at cEl
      clear he b1
      by_cases hk0 : k = 0
      · subst hk0
        have hN1 : NoStep L 1 := hN.succ (sStep_first HE.out HZ.out)
        simp only [Nat.zero_mul, Nat.add_zero] at e0 e1 e2 e3 e4 e5
        go_wp2_with (first
          | (go_at_call 13; (with_reducible refine (cEl _).mono ?_); rintro e w5 ⟨rfl, hb1⟩; replace hq := hq.call hb1; clear hb1)
          | (go_at_call 14; refine (rising1_any _ _ _).mono ?_; rintro e w6 ⟨rfl, hb1⟩; replace hq := hq.call hb1; clear hb1))
        go_roundw
        case rel => exact ⟨1, 0, by omega, by go_num, rfl, hq, .inl ⟨rfl, hN1⟩⟩
        case measure => simp [intOf]; omega
      obtain ⟨p', o', f', m', g', s', HE', hm', d0, d1, d2, d3, d4, d5⟩ := (HL.out.calm (HV.out.call hq)).get2 (k := k - 1) (by omega)
      have hS := sStep_form HE.out HZ.out (by omega) HE'.out
      have hk1 : 1 ≤ k := by omega
      have hge := ahead_rise p' o' f' m' g' s' p o f m g s
      have z1 : IntKind.i64.wrap ((k : Int) - 1) = (k : Int) - 1 := IntWalk.i64_in _ (by omega)
      have z2 : ((k : Int) - 1).toNat = k - 1 := by omega
      have z3 : 0 ≤ (k : Int) - 1 := by omega
      have z5 : 1 ≤ (k : Int) := by omega
      have zm : max (0 : Int) ((k : Int) - 1) = (k : Int) - 1 := by omega
      have P0 : ElAt wr b (q + (k - 1) * 6) ⟨p', o', f', m', g', s'⟩ := ⟨d0, d1, d2, d3, d4, d5⟩
      have P1 : ElAt wr b (q + k * 6) ⟨p, o, f, m, g, s⟩ := ⟨e0, e1, e2, e3, e4, e5⟩
      rw [show q + k * 6 = q + (k - 1) * 6 + 6 from by omega] at P1
      clear d0 d1 d2 d3 d4 d5
      by_cases hF : Rise ⟨p', o', f', m', g', s'⟩ ⟨p, o, f, m, g, s⟩
      · rw [if_pos hF] at hS
        rw [decide_eq_true hF] at hge
        have hN1 : NoStep L (k + 1) := hN.succ hS
        by_cases hk2 : k = 1
        · subst hk2
          simp only [Nat.sub_self, Nat.zero_mul, Nat.add_zero] at P0 P1
          clear hk0 hk1 z1 z2 z3 z5 zm hS hF
          go_wp2_with (first
            | (go_at_call 13; (with_reducible refine (cEl _).mono ?_); rintro e w5 ⟨rfl, hb1⟩; have hj := ((Calm.refl wr).call hb1); replace P0 := P0.calm hj hb; replace P1 := P1.calm hj hb; have hb2 := Nat.lt_of_lt_of_le hb hj.size; replace hq := hq.call hj; clear hb1 hj)
            | (go_at_call 14; skip; refine (rising2_any b q _ p' o' f' m' g' p o f m g s' s true _ hb2 hge P0 P1).mono ?_; rintro e w6 ⟨rfl, hb9⟩; replace hq := hq.call hb9; clear hb9))
          go_roundw
          case rel => exact ⟨2, 0, by omega, by go_num, rfl, hq, .inl ⟨rfl, hN1⟩⟩
          case measure => simp [intOf]; omega
        · have z6 : (0 : Int) < (k : Int) - 1 := by omega
          clear hk0 hS hF
          go_wp2_with (first
            | (go_at_call 13; (with_reducible refine (cEl _).mono ?_); rintro e w5 ⟨rfl, hb1⟩; have hj := ((Calm.refl wr).call hb1); replace P0 := P0.calm hj hb; replace P1 := P1.calm hj hb; have hb2 := Nat.lt_of_lt_of_le hb hj.size; replace hq := hq.call hj; clear hb1 hj)
            | (go_at_call 14; rw [show k + 1 - (k - 1) = 2 from by omega]; refine (rising2_any b (q + (k - 1) * 6) _ p' o' f' m' g' p o f m g s' s true _ hb2 hge P0 P1).mono ?_; rintro e w6 ⟨rfl, hb9⟩; replace hq := hq.call hb9; clear hb9))
          go_roundw
          case rel => exact ⟨k + 1, 0, by omega, by go_num, rfl, hq, .inl ⟨rfl, hN1⟩⟩
          case measure => simp [intOf]; omega
      rw [if_neg hF] at hS
      rw [decide_eq_false hF] at hge
      have K1 : Hid (3 = bErr L) := by
        show _ = _
        rw [HBE.out, ← hN.bad (by rw [hS]; decide) hlt, hS]
      by_cases hk2 : k = 1
      · subst hk2
        simp only [Nat.sub_self, Nat.zero_mul, Nat.add_zero] at P0 P1
        clear hk0 hk1 z1 z2 z3 z5 zm hS hF
        go_wp2_with (first
          | (go_at_call 13; (with_reducible refine (cEl _).mono ?_); rintro e w5 ⟨rfl, hb1⟩; have hj := ((Calm.refl wr).call hb1); replace P0 := P0.calm hj hb; replace P1 := P1.calm hj hb; have hb2 := Nat.lt_of_lt_of_le hb hj.size; replace hq := hq.call hj; clear hb1 hj)
          | (go_at_call 14; skip; refine (rising2_any b q _ p' o' f' m' g' p o f m g s' s false _ hb2 hge P0 P1).mono ?_; rintro e w6 ⟨rfl, hb9⟩; replace hq := hq.call hb9; clear hb9))
        go_roundw
        case rel => exact ⟨2, 3, by omega, by go_num, rfl, hq, .inr ⟨by decide, K1.out⟩⟩
        case measure => simp [intOf]; omega
      · have z6 : (0 : Int) < (k : Int) - 1 := by omega
        clear hk0 hS hF
        go_wp2_with (first
          | (go_at_call 13; (with_reducible refine (cEl _).mono ?_); rintro e w5 ⟨rfl, hb1⟩; have hj := ((Calm.refl wr).call hb1); replace P0 := P0.calm hj hb; replace P1 := P1.calm hj hb; have hb2 := Nat.lt_of_lt_of_le hb hj.size; replace hq := hq.call hj; clear hb1 hj)
          | (go_at_call 14; rw [show k + 1 - (k - 1) = 2 from by omega]; refine (rising2_any b (q + (k - 1) * 6) _ p' o' f' m' g' p o f m g s' s false _ hb2 hge P0 P1).mono ?_; rintro e w6 ⟨rfl, hb9⟩; replace hq := hq.call hb9; clear hb9))
        go_roundw
        case rel => exact ⟨k + 1, 3, by omega, by go_num, rfl, hq, .inr ⟨by decide, K1.out⟩⟩
        case measure => simp [intOf]; omega
    · have hx := (hq.block (rowT HX.out).2.2).trans HX.out
      have hy := (hq.block (rowT HY.out).2.2).trans HY.out
      have hv := HV.out.call hq
      obtain ⟨x0, x1, hxs⟩ := rowT hx
      obtain ⟨y0, y1, hys⟩ := rowT hy
      have b1 : (bErr L == 0) = false := by simpa using HE0.out
      have b2 : (bErr L != 0) = true := by simpa using HE0.out
      generalize bErr L = E at b1 b2
      by_cases hlt : (k : Int) < (L.length : Int)
      · go_upto_region 16 with (go_at_call 15; (with_reducible refine (refused_zero _ _).mono ?_); rintro e w7 ⟨rfl, hb1⟩; replace hx := (hb1.block (rowT hx).2.2).trans hx; obtain ⟨x0, x1, hxs⟩ := rowT hx; replace hv := hv.call hb1; clear hb1)
        have h := HT.out
        have cT := fun u (hu : Calm w u) => refTree_any root A c l u (h.calm hu) hcap hszd
        have cK0 := fun u (hu : Calm w u) => pack_any root A c l u (h.calm hu)
        unfold RefEnd at cT
        unfold PackEnd at cK0
        by_cases hz0 : treeErr l root = 0
        rotate_left
        · have cK : ∀ u, Calm w u → Calls Try.prog 18 #[.agg #[.int .i64 root, .slice A l.length c]] u fun e w' => e = .returned (.tuple #[.agg #[.int .i64 0, .slice none 0 0], .int .i64 (treeErr l root)]) ∧ Calm u w' := fun u hu => (cK0 u hu).mono fun e w' he => by
            rcases he with ⟨-, h1, h2⟩ | ⟨h1, -⟩
            · exact ⟨h1, h2⟩
            · exact absurd h1 hz0
          have b1 : (treeErr l root != 0) = true := by rw [bne_iff_ne]; exact hz0
          have b2 : (treeErr l root == 0) = false := by simpa using hz0
          simp only [if_neg hz0] at cT
          generalize treeErr l root = R at cT cK b1 b2
          clear h hz0 cK0 HT
          go_wp2_with (first
            | (go_at_call 18; (with_reducible refine (cK _ hv).mono ?_); rintro e w8 ⟨rfl, hb1⟩; have hz := heap_new w8 (.cells #[.int .i64 0, .slice none 0 0] 25); replace hx := heap_past (.cells #[.int .i64 0, .slice none 0 0] 25) ((hb1.block (rowT hx).2.2).trans hx); replace hv := (hv.call hb1).alloc (.cells #[.int .i64 0, .slice none 0 0] 25); clear hb1 cK; obtain ⟨x0, x1, hxs⟩ := rowT hx; obtain ⟨z0, z1, hzs⟩ := rowT hz)
            | (go_at_call 19; (with_reducible refine (cT _ hv).mono ?_); rintro e w9 ⟨v9, rfl, ho9, hb1⟩; obtain ⟨A9, c9, rfl, -, -, hL9⟩ := ho9.lies (by simp); have HL9 := Lib.hid hL9; replace hz := (hb1.block (rowT hz).2.2).trans hz; replace hx := (hb1.block (rowT hx).2.2).trans hx; obtain ⟨x0, x1, hxs⟩ := rowT hx; obtain ⟨z0, z1, hzs⟩ := rowT hz; replace hv := hv.call hb1; clear hb1 ho9 hL9 cT)
            | (go_at_call 15; (with_reducible refine (refused_zero _ _).mono ?_); rintro e w10 ⟨rfl, hb1⟩; replace hv := hv.call hb1; clear hb1))
          go_ret
          exact ⟨rfl, hv⟩
        have hwfT : ∀ e ∈ allOf l root, e.wf := by unfold allOf; exact recs_wf h _ _
        have hlT : (allOf l root).length ≤ 3200 := by
          obtain ⟨-, -, d, -, -, -, hl⟩ := tree_good hz0
          exact hl
        simp only [hz0, if_pos] at cT
        generalize depthOf l root = DD at cT
        by_cases h4 : 400 < (allOf l root).length
        · have cK : ∀ u, Calm w u → Calls Try.prog 18 #[.agg #[.int .i64 root, .slice A l.length c]] u fun e w' => e = .returned (.tuple #[.agg #[.int .i64 0, .slice none 0 0], .int .i64 2]) ∧ Calm u w' := fun u hu => (cK0 u hu).mono fun e w' he => by
            rcases he with ⟨h1, -⟩ | ⟨-, he⟩
            · exact absurd hz0 h1
            · have e4 : bErr (allOf l root) = 2 := by rw [bErr_all hz0, if_pos h4]
              unfold OfEnd at he
              rw [e4] at he
              rcases he with ⟨-, h1, h2⟩ | ⟨h1, -⟩
              · exact ⟨h1, h2⟩
              · exact absurd h1 (by decide)
          generalize allOf l root = M at cT hwfT hlT h4
          have i4 : (400 : Int) < (M.length : Int) := by omega
          clear h hz0 cK0 HT
          go_wp2_with (first
            | (go_at_call 18; (with_reducible refine (cK _ hv).mono ?_); rintro e w8 ⟨rfl, hb1⟩; have hz := heap_new w8 (.cells #[.int .i64 0, .slice none 0 0] 25); replace hx := heap_past (.cells #[.int .i64 0, .slice none 0 0] 25) ((hb1.block (rowT hx).2.2).trans hx); replace hv := (hv.call hb1).alloc (.cells #[.int .i64 0, .slice none 0 0] 25); clear hb1 cK; obtain ⟨x0, x1, hxs⟩ := rowT hx; obtain ⟨z0, z1, hzs⟩ := rowT hz)
            | (go_at_call 19; (with_reducible refine (cT _ hv).mono ?_); rintro e w9 ⟨v9, rfl, ho9, hb1⟩; obtain ⟨A9, c9, rfl, -, -, hL9⟩ := ho9.lies hwfT; have HL9 := Lib.hid hL9; replace hz := (hb1.block (rowT hz).2.2).trans hz; replace hx := (hb1.block (rowT hx).2.2).trans hx; obtain ⟨x0, x1, hxs⟩ := rowT hx; obtain ⟨z0, z1, hzs⟩ := rowT hz; replace hv := hv.call hb1; clear hb1 ho9 hL9 cT)
            | (go_at_call 15; (with_reducible refine (refused_zero _ _).mono ?_); rintro e w10 ⟨rfl, hb1⟩; replace hv := hv.call hb1; clear hb1))
          go_ret
          exact ⟨rfl, hv⟩
        have e4 : bErr (allOf l root) = 0 := by rw [bErr_all hz0, if_neg h4]
        have cK : ∀ u, Calm w u → Calls Try.prog 18 #[.agg #[.int .i64 root, .slice A l.length c]] u fun e w' => ∃ r3 A3 c3 us3, e = .returned (.tuple #[.agg #[.int .i64 r3, .slice A3 us3.length c3], .int .i64 0]) ∧ Hid (BuiltOk u r3 A3 c3 us3 (allOf l root) w') ∧ Calm u w' := fun u hu => (cK0 u hu).mono fun e w' he => by
          rcases he with ⟨h1, -⟩ | ⟨-, he⟩
          · exact absurd hz0 h1
          · unfold OfEnd at he
            rw [e4] at he
            rcases he with ⟨h1, -⟩ | ⟨-, r3, A3, c3, us3, h1, h2, h3, h5, h6, h7, h8⟩
            · exact absurd rfl h1
            · exact ⟨r3, A3, c3, us3, h1, ⟨h2, h3, h5, h7⟩, h8⟩
        generalize allOf l root = M at cT cK hwfT hlT h4
        have i4 : ¬ (400 : Int) < (M.length : Int) := by omega
        clear h hz0 cK0 HT e4
        go_upto_region 22 with (first
            | (go_at_call 18; (with_reducible refine (cK _ hv).mono ?_); rintro e w8 ⟨r3, A3, c3, us3, rfl, HB3, hb1⟩; have hz := heap_new w8 (.cells #[.int .i64 r3, .slice A3 us3.length c3] 25); replace hx := heap_past (.cells #[.int .i64 r3, .slice A3 us3.length c3] 25) ((hb1.block (rowT hx).2.2).trans hx); replace hv := (hv.call hb1).alloc (.cells #[.int .i64 r3, .slice A3 us3.length c3] 25); have hc3 := (Calm.refl w8).alloc (.cells #[.int .i64 r3, .slice A3 us3.length c3] 25); have hg8 := rfl (a := w8.heap.size); clear hb1 cK; obtain ⟨x0, x1, hxs⟩ := rowT hx; obtain ⟨z0, z1, hzs⟩ := rowT hz)
            | (go_at_call 19; (with_reducible refine (cT _ hv).mono ?_); rintro e w9 ⟨v9, rfl, ho9, hb1⟩; obtain ⟨A9, c9, rfl, -, -, hL9⟩ := ho9.lies hwfT; have HL9 := Lib.hid hL9; replace hz := (hb1.block (rowT hz).2.2).trans hz; replace hx := (hb1.block (rowT hx).2.2).trans hx; obtain ⟨x0, x1, hxs⟩ := rowT hx; obtain ⟨z0, z1, hzs⟩ := rowT hz; replace hv := hv.call hb1; replace hc3 := Lib.hid (hc3.call hb1); clear hb1 ho9 hL9 cT))
        have cTr := HB3.out.treed (c' := c9) hwfT (by omega) hc3.out HL9.out
        have cLv := levels_any M.length (by omega)
        rw [← HB3.out.cnt] at cLv
        have hcu := Calm.refl w9
        refine wp_region_plan [.val (.int .i64 (0)), .val (.bool true), .val (.bool true), .val (.agg #[.int .i64 r3, .slice A3 us3.length c3]), .val (.slice A9 M.length c9), .val (.bool true), .val (.bool true), .val (.bool true), .val (.pointer (some ⟨w8.heap.size, 1, none⟩)), .val (.slice A3 us3.length c3), .val (.int .i64 (us3.length)), .val (.slice A9 M.length c9), .val (.int .i64 (M.length)), .val (.int .i64 (us3.length)), .val (.bool true), .val (.bool true), .val (.bool true)] (by kernel_rfl) (by kernel_rfl) (by kernel_rfl) ?_
        intro X
        iterate 17
          refine plan_val (by kernel_rfl) (fun u hu => ?_) ?_
          · obtain ⟨hc, hf, hz⟩ := hu.of_drew.facts
            go_simp
            all_goals first
              | ((go_at_call 16; exact cTr _ hu.of_drew))
              | ((go_at_call 17; exact cLv _))
          simp only [Act.put, List.setIfInBounds_toArray, List.set_cons_zero, List.set_cons_succ, Nat.reduceAdd]
        refine plan_end ?_
        intro w' hB
        have hk := hB.calm.of_drew
        clear hB
        go_wp2_with fail
        go_ret
        exact ⟨rfl, hv.call hk⟩
      · go_upto_region 16 with (go_at_call 15; (with_reducible refine (refused_zero _ _).mono ?_); rintro e w7 ⟨rfl, hb1⟩; replace hx := (hb1.block (rowT hx).2.2).trans hx; obtain ⟨x0, x1, hxs⟩ := rowT hx; replace hv := hv.call hb1; clear hb1)
        have h := HT.out
        have cT := fun u (hu : Calm w u) => refTree_any root A c l u (h.calm hu) hcap hszd
        have cK0 := fun u (hu : Calm w u) => pack_any root A c l u (h.calm hu)
        unfold RefEnd at cT
        unfold PackEnd at cK0
        by_cases hz0 : treeErr l root = 0
        rotate_left
        · have cK : ∀ u, Calm w u → Calls Try.prog 18 #[.agg #[.int .i64 root, .slice A l.length c]] u fun e w' => e = .returned (.tuple #[.agg #[.int .i64 0, .slice none 0 0], .int .i64 (treeErr l root)]) ∧ Calm u w' := fun u hu => (cK0 u hu).mono fun e w' he => by
            rcases he with ⟨-, h1, h2⟩ | ⟨h1, -⟩
            · exact ⟨h1, h2⟩
            · exact absurd h1 hz0
          have b1 : (treeErr l root != 0) = true := by rw [bne_iff_ne]; exact hz0
          have b2 : (treeErr l root == 0) = false := by simpa using hz0
          simp only [if_neg hz0] at cT
          generalize treeErr l root = R at cT cK b1 b2
          clear h hz0 cK0 HT
          go_wp2_with (first
            | (go_at_call 18; (with_reducible refine (cK _ hv).mono ?_); rintro e w8 ⟨rfl, hb1⟩; have hz := heap_new w8 (.cells #[.int .i64 0, .slice none 0 0] 25); replace hx := heap_past (.cells #[.int .i64 0, .slice none 0 0] 25) ((hb1.block (rowT hx).2.2).trans hx); replace hv := (hv.call hb1).alloc (.cells #[.int .i64 0, .slice none 0 0] 25); clear hb1 cK; obtain ⟨x0, x1, hxs⟩ := rowT hx; obtain ⟨z0, z1, hzs⟩ := rowT hz)
            | (go_at_call 19; (with_reducible refine (cT _ hv).mono ?_); rintro e w9 ⟨v9, rfl, ho9, hb1⟩; obtain ⟨A9, c9, rfl, -, -, hL9⟩ := ho9.lies (by simp); have HL9 := Lib.hid hL9; replace hz := (hb1.block (rowT hz).2.2).trans hz; replace hx := (hb1.block (rowT hx).2.2).trans hx; obtain ⟨x0, x1, hxs⟩ := rowT hx; obtain ⟨z0, z1, hzs⟩ := rowT hz; replace hv := hv.call hb1; clear hb1 ho9 hL9 cT)
            | (go_at_call 15; (with_reducible refine (refused_zero _ _).mono ?_); rintro e w10 ⟨rfl, hb1⟩; replace hv := hv.call hb1; clear hb1))
          go_ret
          exact ⟨rfl, hv⟩
        have hwfT : ∀ e ∈ allOf l root, e.wf := by unfold allOf; exact recs_wf h _ _
        have hlT : (allOf l root).length ≤ 3200 := by
          obtain ⟨-, -, d, -, -, -, hl⟩ := tree_good hz0
          exact hl
        simp only [hz0, if_pos] at cT
        generalize depthOf l root = DD at cT
        by_cases h4 : 400 < (allOf l root).length
        · have cK : ∀ u, Calm w u → Calls Try.prog 18 #[.agg #[.int .i64 root, .slice A l.length c]] u fun e w' => e = .returned (.tuple #[.agg #[.int .i64 0, .slice none 0 0], .int .i64 2]) ∧ Calm u w' := fun u hu => (cK0 u hu).mono fun e w' he => by
            rcases he with ⟨h1, -⟩ | ⟨-, he⟩
            · exact absurd hz0 h1
            · have e4 : bErr (allOf l root) = 2 := by rw [bErr_all hz0, if_pos h4]
              unfold OfEnd at he
              rw [e4] at he
              rcases he with ⟨-, h1, h2⟩ | ⟨h1, -⟩
              · exact ⟨h1, h2⟩
              · exact absurd h1 (by decide)
          generalize allOf l root = M at cT hwfT hlT h4
          have i4 : (400 : Int) < (M.length : Int) := by omega
          clear h hz0 cK0 HT
          go_wp2_with (first
            | (go_at_call 18; (with_reducible refine (cK _ hv).mono ?_); rintro e w8 ⟨rfl, hb1⟩; have hz := heap_new w8 (.cells #[.int .i64 0, .slice none 0 0] 25); replace hx := heap_past (.cells #[.int .i64 0, .slice none 0 0] 25) ((hb1.block (rowT hx).2.2).trans hx); replace hv := (hv.call hb1).alloc (.cells #[.int .i64 0, .slice none 0 0] 25); clear hb1 cK; obtain ⟨x0, x1, hxs⟩ := rowT hx; obtain ⟨z0, z1, hzs⟩ := rowT hz)
            | (go_at_call 19; (with_reducible refine (cT _ hv).mono ?_); rintro e w9 ⟨v9, rfl, ho9, hb1⟩; obtain ⟨A9, c9, rfl, -, -, hL9⟩ := ho9.lies hwfT; have HL9 := Lib.hid hL9; replace hz := (hb1.block (rowT hz).2.2).trans hz; replace hx := (hb1.block (rowT hx).2.2).trans hx; obtain ⟨x0, x1, hxs⟩ := rowT hx; obtain ⟨z0, z1, hzs⟩ := rowT hz; replace hv := hv.call hb1; clear hb1 ho9 hL9 cT)
            | (go_at_call 15; (with_reducible refine (refused_zero _ _).mono ?_); rintro e w10 ⟨rfl, hb1⟩; replace hv := hv.call hb1; clear hb1))
          go_ret
          exact ⟨rfl, hv⟩
        have e4 : bErr (allOf l root) = 0 := by rw [bErr_all hz0, if_neg h4]
        have cK : ∀ u, Calm w u → Calls Try.prog 18 #[.agg #[.int .i64 root, .slice A l.length c]] u fun e w' => ∃ r3 A3 c3 us3, e = .returned (.tuple #[.agg #[.int .i64 r3, .slice A3 us3.length c3], .int .i64 0]) ∧ Hid (BuiltOk u r3 A3 c3 us3 (allOf l root) w') ∧ Calm u w' := fun u hu => (cK0 u hu).mono fun e w' he => by
          rcases he with ⟨h1, -⟩ | ⟨-, he⟩
          · exact absurd hz0 h1
          · unfold OfEnd at he
            rw [e4] at he
            rcases he with ⟨h1, -⟩ | ⟨-, r3, A3, c3, us3, h1, h2, h3, h5, h6, h7, h8⟩
            · exact absurd rfl h1
            · exact ⟨r3, A3, c3, us3, h1, ⟨h2, h3, h5, h7⟩, h8⟩
        generalize allOf l root = M at cT cK hwfT hlT h4
        have i4 : ¬ (400 : Int) < (M.length : Int) := by omega
        clear h hz0 cK0 HT e4
        go_upto_region 22 with (first
            | (go_at_call 18; (with_reducible refine (cK _ hv).mono ?_); rintro e w8 ⟨r3, A3, c3, us3, rfl, HB3, hb1⟩; have hz := heap_new w8 (.cells #[.int .i64 r3, .slice A3 us3.length c3] 25); replace hx := heap_past (.cells #[.int .i64 r3, .slice A3 us3.length c3] 25) ((hb1.block (rowT hx).2.2).trans hx); replace hv := (hv.call hb1).alloc (.cells #[.int .i64 r3, .slice A3 us3.length c3] 25); have hc3 := (Calm.refl w8).alloc (.cells #[.int .i64 r3, .slice A3 us3.length c3] 25); have hg8 := rfl (a := w8.heap.size); clear hb1 cK; obtain ⟨x0, x1, hxs⟩ := rowT hx; obtain ⟨z0, z1, hzs⟩ := rowT hz)
            | (go_at_call 19; (with_reducible refine (cT _ hv).mono ?_); rintro e w9 ⟨v9, rfl, ho9, hb1⟩; obtain ⟨A9, c9, rfl, -, -, hL9⟩ := ho9.lies hwfT; have HL9 := Lib.hid hL9; replace hz := (hb1.block (rowT hz).2.2).trans hz; replace hx := (hb1.block (rowT hx).2.2).trans hx; obtain ⟨x0, x1, hxs⟩ := rowT hx; obtain ⟨z0, z1, hzs⟩ := rowT hz; replace hv := hv.call hb1; replace hc3 := Lib.hid (hc3.call hb1); clear hb1 ho9 hL9 cT))
        have cTr := HB3.out.treed (c' := c9) hwfT (by omega) hc3.out HL9.out
        have cLv := levels_any M.length (by omega)
        rw [← HB3.out.cnt] at cLv
        have hcu := Calm.refl w9
        refine wp_region_plan [.val (.int .i64 (0)), .val (.bool true), .val (.bool true), .val (.agg #[.int .i64 r3, .slice A3 us3.length c3]), .val (.slice A9 M.length c9), .val (.bool true), .val (.bool true), .val (.bool true), .val (.pointer (some ⟨w8.heap.size, 1, none⟩)), .val (.slice A3 us3.length c3), .val (.int .i64 (us3.length)), .val (.slice A9 M.length c9), .val (.int .i64 (M.length)), .val (.int .i64 (us3.length)), .val (.bool true), .val (.bool true), .val (.bool true)] (by kernel_rfl) (by kernel_rfl) (by kernel_rfl) ?_
        intro X
        iterate 17
          refine plan_val (by kernel_rfl) (fun u hu => ?_) ?_
          · obtain ⟨hc, hf, hz⟩ := hu.of_drew.facts
            go_simp
            all_goals first
              | ((go_at_call 16; exact cTr _ hu.of_drew))
              | ((go_at_call 17; exact cLv _))
          simp only [Act.put, List.setIfInBounds_toArray, List.set_cons_zero, List.set_cons_succ, Nat.reduceAdd]
        refine plan_end ?_
        intro w' hB
        have hk := hB.calm.of_drew
        clear hB
        go_wp2_with fail
        go_ret
        exact ⟨rfl, hv.call hk⟩
open Go.RowKit
set_option maxHeartbeats 16000000 in
theorem buildSays_good (root : Int) (A A0 : Option Addr) (c c0 : Nat) (l : List Nd) (L : List El) (w : World) (h : TrAt w A l) (hcap : ∀ n ∈ l, n.E.length ≤ n.c1) (hszd : ∀ n ∈ l, NdSized n) (hE : bErr L = 0) (hn : L.length ≤ 9223372036854775807) (hL : Lies w A0 L) (hc0 : L.length ≤ c0) :
    Calls Try.prog 3 #[.slice A0 L.length c0, .agg #[.int .i64 root, .slice A l.length c]] w fun e w' => e = .returned (.bool true) ∧ Calm w w' := by
  have hx := heap_new w (.cells #[.int .i64 root, .slice A l.length c] 25)
  have hv := (Calm.refl w).alloc (.cells #[.int .i64 root, .slice A l.length c] 25)
  have HT := Lib.hid h
  clear h
  have cO : ∀ u, Calm w u → Calls Try.prog 12 #[.slice A0 L.length c0] u fun e w' => ∃ r2 A2 c2 us2, e = .returned (.tuple #[.agg #[.int .i64 r2, .slice A2 us2.length c2], .int .i64 0]) ∧ Hid (BuiltOk u r2 A2 c2 us2 L w') ∧ Calm u w' := fun u hu => (buildOf_any A0 c0 L u hn (hL.calm hu) hc0).mono fun e w' he => by
    unfold OfEnd at he
    rcases he with ⟨h1, -⟩ | ⟨-, r2, A2, c2, us2, h1, h2, h3, h5, h6, h7, h8⟩
    · exact absurd hE h1
    · exact ⟨r2, A2, c2, us2, h1, ⟨h2, h3, h5, h7⟩, h8⟩
  have hbig := (bErr_zero.1 hE).1
  have i1 : ¬ (400 : Int) < (L.length : Int) := by omega
  have HBE : Hid (bErr L = elsErr L) := by show _ = _; unfold bErr; rw [if_neg (by omega)]
  have HE0 := Lib.hid hE
  have HL := Lib.hid hL
  have hwfL : ∀ e ∈ L, e.wf := hL.1
  clear hE hL
  go_enter Try.func3, Try.ntmps3
  go_upto_region 1 with fail
  generalize w.alloc (.cells #[.int .i64 root, .slice A l.length c] 25) = w0 at hx hv ⊢
  obtain ⟨x0, x1, hxs⟩ := rowT hx
  go_upto_region 3 with (go_at_call 12; (with_reducible refine (cO _ hv).mono ?_); rintro e w1 ⟨r2, A2, c2, us2, rfl, HB2, hb1⟩; have hy := heap_new w1 (.cells #[.int .i64 r2, .slice A2 us2.length c2] 25); replace hx := heap_past (.cells #[.int .i64 r2, .slice A2 us2.length c2] 25) ((hb1.block (rowT hx).2.2).trans hx); replace hv := (hv.call hb1).alloc (.cells #[.int .i64 r2, .slice A2 us2.length c2] 25); have hcB := (Calm.refl w1).alloc (.cells #[.int .i64 r2, .slice A2 us2.length c2] 25); clear hb1 cO; obtain ⟨x0, x1, hxs⟩ := rowT hx; obtain ⟨y0, y1, hys⟩ := rowT hy)
  go_upto_region 6 with fail
  generalize w1.alloc (.cells #[.int .i64 r2, .slice A2 us2.length c2] 25) = w2 at hx hy hv hcB x0 x1 hxs y0 y1 hys ⊢
  have HX := Lib.hid hx
  have HY := Lib.hid hy
  have HV := Lib.hid hv
  have HCB := Lib.hid hcB
  clear hx hy hv hcB x0 x1 hxs y0 y1 hys
  go_loopw [7, 8] (fun W i wr => ∃ k : Nat, k ≤ L.length ∧ i = .int .i64 k ∧ W = .int .i64 0 ∧ Calm w2 wr ∧ NoStep L k) (fun _ i _ => L.length - (intOf i).toNat)
  case atStart => exact ⟨0, Nat.zero_le _, rfl, rfl, Calm.refl _, NoStep.zero L⟩
  case round =>
    obtain ⟨k, hk, rfl, rfl, hq, hN⟩ := hrel
    by_cases hlt : k < L.length
    · skip
      obtain ⟨b, q, p, o, f, m, g, s, rfl, hb, HE, hm, e0, e1, e2, e3, e4, e5⟩ := (HL.out.calm (HV.out.call hq)).get hlt
      have hkc : (k : Int) + 1 ≤ (c0 : Int) := by omega
      have hkc2 : k + 1 ≤ c0 := by omega
      by_cases he : elemErr p o f m g s.size = 0
      rotate_left
      · exfalso
        have h1 := sStep_err HE.out (show El.err ⟨p, o, f, m, g, s⟩ ≠ 0 from he)
        have h2 := hN.bad (by rw [h1]; exact he) hlt
        rw [h1, ← HBE.out, HE0.out] at h2
        exact he h2
      have b1 : (elemErr p o f m g s.size == 0) = true := by simpa using he
      have HZ := Lib.hid he
      rw [he] at b1
      have cEl := fun u => refElem_any p o f m g s u hm
      rw [he] at cEl
      clear he b1
      by_cases hk0 : k = 0
      · subst hk0
        have hN1 : NoStep L 1 := hN.succ (sStep_first HE.out HZ.out)
        simp only [Nat.zero_mul, Nat.add_zero] at e0 e1 e2 e3 e4 e5
        go_wp2_with (first
          | (go_at_call 13; (with_reducible refine (cEl _).mono ?_); rintro e w5 ⟨rfl, hb1⟩; replace hq := hq.call hb1; clear hb1)
          | (go_at_call 14; refine (rising1_any _ _ _).mono ?_; rintro e w6 ⟨rfl, hb1⟩; replace hq := hq.call hb1; clear hb1))
        go_roundw
        case rel => exact ⟨1, by omega, by go_num, rfl, hq, hN1⟩
        case measure => simp [intOf]; omega
      obtain ⟨p', o', f', m', g', s', HE', hm', d0, d1, d2, d3, d4, d5⟩ := (HL.out.calm (HV.out.call hq)).get2 (k := k - 1) (by omega)
      have hS := sStep_form HE.out HZ.out (by omega) HE'.out
      have hk1 : 1 ≤ k := by omega
      have hge := ahead_rise p' o' f' m' g' s' p o f m g s
      have z1 : IntKind.i64.wrap ((k : Int) - 1) = (k : Int) - 1 := IntWalk.i64_in _ (by omega)
      have z2 : ((k : Int) - 1).toNat = k - 1 := by omega
      have z3 : 0 ≤ (k : Int) - 1 := by omega
      have z5 : 1 ≤ (k : Int) := by omega
      have zm : max (0 : Int) ((k : Int) - 1) = (k : Int) - 1 := by omega
      have P0 : ElAt wr b (q + (k - 1) * 6) ⟨p', o', f', m', g', s'⟩ := ⟨d0, d1, d2, d3, d4, d5⟩
      have P1 : ElAt wr b (q + k * 6) ⟨p, o, f, m, g, s⟩ := ⟨e0, e1, e2, e3, e4, e5⟩
      rw [show q + k * 6 = q + (k - 1) * 6 + 6 from by omega] at P1
      clear d0 d1 d2 d3 d4 d5
      by_cases hF : Rise ⟨p', o', f', m', g', s'⟩ ⟨p, o, f, m, g, s⟩
      · rw [if_pos hF] at hS
        rw [decide_eq_true hF] at hge
        have hN1 : NoStep L (k + 1) := hN.succ hS
        by_cases hk2 : k = 1
        · subst hk2
          simp only [Nat.sub_self, Nat.zero_mul, Nat.add_zero] at P0 P1
          clear hk0 hk1 z1 z2 z3 z5 zm hS hF
          go_wp2_with (first
            | (go_at_call 13; (with_reducible refine (cEl _).mono ?_); rintro e w5 ⟨rfl, hb1⟩; have hj := ((Calm.refl wr).call hb1); replace P0 := P0.calm hj hb; replace P1 := P1.calm hj hb; have hb2 := Nat.lt_of_lt_of_le hb hj.size; replace hq := hq.call hj; clear hb1 hj)
            | (go_at_call 14; skip; refine (rising2_any b q _ p' o' f' m' g' p o f m g s' s true _ hb2 hge P0 P1).mono ?_; rintro e w6 ⟨rfl, hb9⟩; replace hq := hq.call hb9; clear hb9))
          go_roundw
          case rel => exact ⟨2, by omega, by go_num, rfl, hq, hN1⟩
          case measure => simp [intOf]; omega
        · have z6 : (0 : Int) < (k : Int) - 1 := by omega
          clear hk0 hS hF
          go_wp2_with (first
            | (go_at_call 13; (with_reducible refine (cEl _).mono ?_); rintro e w5 ⟨rfl, hb1⟩; have hj := ((Calm.refl wr).call hb1); replace P0 := P0.calm hj hb; replace P1 := P1.calm hj hb; have hb2 := Nat.lt_of_lt_of_le hb hj.size; replace hq := hq.call hj; clear hb1 hj)
            | (go_at_call 14; rw [show k + 1 - (k - 1) = 2 from by omega]; refine (rising2_any b (q + (k - 1) * 6) _ p' o' f' m' g' p o f m g s' s true _ hb2 hge P0 P1).mono ?_; rintro e w6 ⟨rfl, hb9⟩; replace hq := hq.call hb9; clear hb9))
          go_roundw
          case rel => exact ⟨k + 1, by omega, by go_num, rfl, hq, hN1⟩
          case measure => simp [intOf]; omega
      exfalso
      rw [if_neg hF] at hS
      have h2 := hN.bad (by rw [hS]; decide) hlt
      rw [hS, ← HBE.out, HE0.out] at h2
      exact absurd h2 (by decide)
    · have hx := (hq.block (rowT HX.out).2.2).trans HX.out
      have hy := (hq.block (rowT HY.out).2.2).trans HY.out
      have hv := HV.out.call hq
      obtain ⟨x0, x1, hxs⟩ := rowT hx
      obtain ⟨y0, y1, hys⟩ := rowT hy
      have hlt : ¬ (k : Int) < (L.length : Int) := by omega
      go_upto_region 14 with fail
      have cTr1 := HB2.out.treed (c' := c0) hwfL (by omega) (HCB.out.call hq) (HL.out.calm hv)
      have cLv1 := levels_any L.length hbig
      rw [← HB2.out.cnt] at cLv1
      refine wp_region_plan [.val (.int .i64 (0)), .val (.bool false), .val (.bool false), .val (.agg #[.int .i64 r2, .slice A2 us2.length c2]), .val (.slice A0 L.length c0), .val (.bool true), .val (.bool false), .val (.bool false), .val (.bool false), .val (.pointer (some ⟨w1.heap.size, 1, none⟩)), .val (.slice A2 us2.length c2), .val (.int .i64 (us2.length)), .val (.slice A0 L.length c0), .val (.int .i64 (L.length)), .val (.int .i64 (us2.length)), .val (.bool false), .val (.bool false)] (by kernel_rfl) (by kernel_rfl) (by kernel_rfl) ?_
      intro X
      iterate 17
        refine plan_val (by kernel_rfl) (fun u hu => ?_) ?_
        · obtain ⟨hc, hf, hz⟩ := hu.of_drew.facts
          go_simp
          all_goals first
            | ((go_at_call 16; exact cTr1 _ hu.of_drew))
            | ((go_at_call 17; exact cLv1 _))
        simp only [Act.put, List.setIfInBounds_toArray, List.set_cons_zero, List.set_cons_succ, Nat.reduceAdd]
      refine plan_end ?_
      intro w' hB
      have hk := hB.calm.of_drew
      clear hB
      replace hx := (hk.block (rowT hx).2.2).trans hx
      replace hv := hv.call hk
      clear hk hy x0 x1 hxs y0 y1 hys cTr1 cLv1
      obtain ⟨x0, x1, hxs⟩ := rowT hx
      go_upto_region 16 with fail
      have h := HT.out
      have cT := fun u (hu : Calm w u) => refTree_any root A c l u (h.calm hu) hcap hszd
      have cK0 := fun u (hu : Calm w u) => pack_any root A c l u (h.calm hu)
      unfold RefEnd at cT
      unfold PackEnd at cK0
      by_cases hz0 : treeErr l root = 0
      rotate_left
      · have cK : ∀ u, Calm w u → Calls Try.prog 18 #[.agg #[.int .i64 root, .slice A l.length c]] u fun e w' => e = .returned (.tuple #[.agg #[.int .i64 0, .slice none 0 0], .int .i64 (treeErr l root)]) ∧ Calm u w' := fun u hu => (cK0 u hu).mono fun e w' he => by
          rcases he with ⟨-, h1, h2⟩ | ⟨h1, -⟩
          · exact ⟨h1, h2⟩
          · exact absurd h1 hz0
        have b1 : (treeErr l root != 0) = true := by rw [bne_iff_ne]; exact hz0
        have b2 : (treeErr l root == 0) = false := by simpa using hz0
        simp only [if_neg hz0] at cT
        generalize treeErr l root = R at cT cK b1 b2
        clear h hz0 cK0 HT
        go_wp2_with (first
          | (go_at_call 18; (with_reducible refine (cK _ hv).mono ?_); rintro e w8 ⟨rfl, hb1⟩; have hz := heap_new w8 (.cells #[.int .i64 0, .slice none 0 0] 25); replace hx := heap_past (.cells #[.int .i64 0, .slice none 0 0] 25) ((hb1.block (rowT hx).2.2).trans hx); replace hv := (hv.call hb1).alloc (.cells #[.int .i64 0, .slice none 0 0] 25); clear hb1 cK; obtain ⟨x0, x1, hxs⟩ := rowT hx; obtain ⟨z0, z1, hzs⟩ := rowT hz)
          | (go_at_call 19; (with_reducible refine (cT _ hv).mono ?_); rintro e w9 ⟨v9, rfl, ho9, hb1⟩; obtain ⟨A9, c9, rfl, -, -, hL9⟩ := ho9.lies (by simp); have HL9 := Lib.hid hL9; replace hz := (hb1.block (rowT hz).2.2).trans hz; replace hx := (hb1.block (rowT hx).2.2).trans hx; obtain ⟨x0, x1, hxs⟩ := rowT hx; obtain ⟨z0, z1, hzs⟩ := rowT hz; replace hv := hv.call hb1; clear hb1 ho9 hL9 cT)
          | (go_at_call 15; (with_reducible refine (refused_zero _ _).mono ?_); rintro e w10 ⟨rfl, hb1⟩; replace hv := hv.call hb1; clear hb1))
        go_ret
        exact ⟨rfl, hv⟩
      have hwfT : ∀ e ∈ allOf l root, e.wf := by unfold allOf; exact recs_wf h _ _
      have hlT : (allOf l root).length ≤ 3200 := by
        obtain ⟨-, -, d, -, -, -, hl⟩ := tree_good hz0
        exact hl
      simp only [hz0, if_pos] at cT
      generalize depthOf l root = DD at cT
      by_cases h4 : 400 < (allOf l root).length
      · have cK : ∀ u, Calm w u → Calls Try.prog 18 #[.agg #[.int .i64 root, .slice A l.length c]] u fun e w' => e = .returned (.tuple #[.agg #[.int .i64 0, .slice none 0 0], .int .i64 2]) ∧ Calm u w' := fun u hu => (cK0 u hu).mono fun e w' he => by
          rcases he with ⟨h1, -⟩ | ⟨-, he⟩
          · exact absurd hz0 h1
          · have e4 : bErr (allOf l root) = 2 := by rw [bErr_all hz0, if_pos h4]
            unfold OfEnd at he
            rw [e4] at he
            rcases he with ⟨-, h1, h2⟩ | ⟨h1, -⟩
            · exact ⟨h1, h2⟩
            · exact absurd h1 (by decide)
        generalize allOf l root = M at cT hwfT hlT h4
        have i4 : (400 : Int) < (M.length : Int) := by omega
        clear h hz0 cK0 HT
        go_wp2_with (first
          | (go_at_call 18; (with_reducible refine (cK _ hv).mono ?_); rintro e w8 ⟨rfl, hb1⟩; have hz := heap_new w8 (.cells #[.int .i64 0, .slice none 0 0] 25); replace hx := heap_past (.cells #[.int .i64 0, .slice none 0 0] 25) ((hb1.block (rowT hx).2.2).trans hx); replace hv := (hv.call hb1).alloc (.cells #[.int .i64 0, .slice none 0 0] 25); clear hb1 cK; obtain ⟨x0, x1, hxs⟩ := rowT hx; obtain ⟨z0, z1, hzs⟩ := rowT hz)
          | (go_at_call 19; (with_reducible refine (cT _ hv).mono ?_); rintro e w9 ⟨v9, rfl, ho9, hb1⟩; obtain ⟨A9, c9, rfl, -, -, hL9⟩ := ho9.lies hwfT; have HL9 := Lib.hid hL9; replace hz := (hb1.block (rowT hz).2.2).trans hz; replace hx := (hb1.block (rowT hx).2.2).trans hx; obtain ⟨x0, x1, hxs⟩ := rowT hx; obtain ⟨z0, z1, hzs⟩ := rowT hz; replace hv := hv.call hb1; clear hb1 ho9 hL9 cT)
          | (go_at_call 15; (with_reducible refine (refused_zero _ _).mono ?_); rintro e w10 ⟨rfl, hb1⟩; replace hv := hv.call hb1; clear hb1))
        go_ret
        exact ⟨rfl, hv⟩
      have e4 : bErr (allOf l root) = 0 := by rw [bErr_all hz0, if_neg h4]
      have cK : ∀ u, Calm w u → Calls Try.prog 18 #[.agg #[.int .i64 root, .slice A l.length c]] u fun e w' => ∃ r3 A3 c3 us3, e = .returned (.tuple #[.agg #[.int .i64 r3, .slice A3 us3.length c3], .int .i64 0]) ∧ Hid (BuiltOk u r3 A3 c3 us3 (allOf l root) w') ∧ Calm u w' := fun u hu => (cK0 u hu).mono fun e w' he => by
        rcases he with ⟨h1, -⟩ | ⟨-, he⟩
        · exact absurd hz0 h1
        · unfold OfEnd at he
          rw [e4] at he
          rcases he with ⟨h1, -⟩ | ⟨-, r3, A3, c3, us3, h1, h2, h3, h5, h6, h7, h8⟩
          · exact absurd rfl h1
          · exact ⟨r3, A3, c3, us3, h1, ⟨h2, h3, h5, h7⟩, h8⟩
      generalize allOf l root = M at cT cK hwfT hlT h4
      have i4 : ¬ (400 : Int) < (M.length : Int) := by omega
      clear h hz0 cK0 HT e4
      go_upto_region 22 with (first
          | (go_at_call 18; (with_reducible refine (cK _ hv).mono ?_); rintro e w8 ⟨r3, A3, c3, us3, rfl, HB3, hb1⟩; have hz := heap_new w8 (.cells #[.int .i64 r3, .slice A3 us3.length c3] 25); replace hx := heap_past (.cells #[.int .i64 r3, .slice A3 us3.length c3] 25) ((hb1.block (rowT hx).2.2).trans hx); replace hv := (hv.call hb1).alloc (.cells #[.int .i64 r3, .slice A3 us3.length c3] 25); have hc3 := (Calm.refl w8).alloc (.cells #[.int .i64 r3, .slice A3 us3.length c3] 25); have hg8 := rfl (a := w8.heap.size); clear hb1 cK; obtain ⟨x0, x1, hxs⟩ := rowT hx; obtain ⟨z0, z1, hzs⟩ := rowT hz)
          | (go_at_call 19; (with_reducible refine (cT _ hv).mono ?_); rintro e w9 ⟨v9, rfl, ho9, hb1⟩; obtain ⟨A9, c9, rfl, -, -, hL9⟩ := ho9.lies hwfT; have HL9 := Lib.hid hL9; replace hz := (hb1.block (rowT hz).2.2).trans hz; replace hx := (hb1.block (rowT hx).2.2).trans hx; obtain ⟨x0, x1, hxs⟩ := rowT hx; obtain ⟨z0, z1, hzs⟩ := rowT hz; replace hv := hv.call hb1; replace hc3 := Lib.hid (hc3.call hb1); clear hb1 ho9 hL9 cT))
      have cTr := HB3.out.treed (c' := c9) hwfT (by omega) hc3.out HL9.out
      have cLv := levels_any M.length (by omega)
      rw [← HB3.out.cnt] at cLv
      have hcu := Calm.refl w9
      refine wp_region_plan [.val (.int .i64 (0)), .val (.bool true), .val (.bool true), .val (.agg #[.int .i64 r3, .slice A3 us3.length c3]), .val (.slice A9 M.length c9), .val (.bool true), .val (.bool true), .val (.bool true), .val (.pointer (some ⟨w8.heap.size, 1, none⟩)), .val (.slice A3 us3.length c3), .val (.int .i64 (us3.length)), .val (.slice A9 M.length c9), .val (.int .i64 (M.length)), .val (.int .i64 (us3.length)), .val (.bool true), .val (.bool true), .val (.bool true)] (by kernel_rfl) (by kernel_rfl) (by kernel_rfl) ?_
      intro X
      iterate 17
        refine plan_val (by kernel_rfl) (fun u hu => ?_) ?_
        · obtain ⟨hc, hf, hz⟩ := hu.of_drew.facts
          go_simp
          all_goals first
            | ((go_at_call 16; exact cTr _ hu.of_drew))
            | ((go_at_call 17; exact cLv _))
        simp only [Act.put, List.setIfInBounds_toArray, List.set_cons_zero, List.set_cons_succ, Nat.reduceAdd]
      refine plan_end ?_
      intro w' hB
      have hk := hB.calm.of_drew
      clear hB
      go_wp2_with fail
      go_ret
      exact ⟨rfl, hv.call hk⟩
open Go.RowKit
theorem buildSays_walk (A0 : Option Addr) (c0 : Nat) (L : List El) (root : Int) (A : Option Addr) (c : Nat) (l : List Nd) (w : World) (h : TrAt w A l) (hcap : ∀ n ∈ l, n.E.length ≤ n.c1) (hszd : ∀ n ∈ l, NdSized n) (hn : L.length ≤ 9223372036854775807) (hL : Lies w A0 L) (hc0 : L.length ≤ c0) :
    Calls Try.prog 3 #[.slice A0 L.length c0, .agg #[.int .i64 root, .slice A l.length c]] w fun e w' => e = .returned (.bool true) ∧ Calm w w' := by
  by_cases hE : bErr L = 0
  · exact buildSays_good root A A0 c c0 l L w h hcap hszd hE hn hL hc0
  · by_cases hb : 400 < L.length
    · exact buildSays_big root A A0 c c0 l L w h hcap hszd hE hb hn hL hc0
    · exact buildSays_bad root A A0 c c0 l L w h hcap hszd hE hb hn hL hc0
open Go.ChangeShapes Go.WideShapes Go.ChangeAt Go.RowKit
theorem bytesElem : Try.prog.bytesOf 33 = 56 := by kernel_rfl
theorem sized_elems {H : Type} {enc : TypeId × Value → H} {w : World} {base : Nat} {spare : Nat → Bool} {held : Bool} {ts : List TypeId} {ds : List (DataW H)} {d : DataW H} {ps : List MemPlace} {A : Option Addr} {n c : Nat} {j : Nat}
    (hsz : (DataW.weightsEach Try.prog ts ds).all (· ≤ reachBytes) = true) (ht : ts[j]? = some 22) (hd : ds[j]? = some d) (h : DataW.Trod enc Try.prog w base spare held 22 (.slice A n c) d ps) : n * 56 ≤ 140737488351232 := by
  obtain ⟨fuel, hf⟩ := h
  rcases Go.Deep.open_slice Try.underlying22 hf with ⟨h0, _⟩ | ⟨a, len', cap', m, k, D, Pl, hcs, _, hl, hm, hmm, hx, hi⟩
  · have h0' : Value.slice A n c = .slice none 0 0 := by simpa [Value.cells] using h0
    injection h0' with h1 h2 h3
    omega
  · have h0' : Value.slice A n c = .slice (some a) len' cap' := by simpa [Value.cells] using hcs
    injection h0' with h1 h2 h3
    simp only [Prod.mk.injEq] at hx
    rw [hx.1] at hd
    have := sized_slice hsz ht hd Try.underlying22
    rw [bytesElem] at this
    simp only [List.length_map, List.length_range, reachBytes] at this
    omega
theorem elems_cap {H : Type} {enc : TypeId × Value → H} {w : World} {base : Nat} {spare : Nat → Bool} {held : Bool} {d : DataW H} {ps : List MemPlace} {A : Option Addr} {n c : Nat} (h : DataW.Trod enc Try.prog w base spare held 22 (.slice A n c) d ps) : n ≤ c := by
 obtain ⟨fuel, hf⟩ := h
 rcases Go.Deep.open_slice Try.underlying22 hf with ⟨h0, _⟩ | ⟨a, len', cap', m, k, D, Pl, hcs, _, hl, hm, hmm, hx, hi⟩
 ·have h0' : Value.slice A n c = .slice none 0 0 := by simpa [Value.cells] using h0
  injection h0' with h1 h2 h3
  omega
 ·have h0' : Value.slice A n c = .slice (some a) len' cap' := by simpa [Value.cells] using hcs
  injection h0' with h1 h2 h3
  omega
end Go.Proofs.Ytccfcloekjogkaa
