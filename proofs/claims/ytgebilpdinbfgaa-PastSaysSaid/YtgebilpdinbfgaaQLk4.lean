/- look: the walk. -/
import Derived.Deep.DeepCutAuto
import Derived.Test.YtgebilpdinbfgaaML
namespace Go.Proofs.Ytgebilpdinbfgaa
open Go.RowKit

set_option maxRecDepth 100000 in
set_option maxHeartbeats 16000000 in
theorem look_main (root : Int) (A : Option Addr) (c : Nat) (l : List Nd) (hok : NdsOk l) (m : Nat) (hm : m ≤ 11)
    (ih : ∀ (y : Int) (u : World), TrAt u A l → Calls Try.prog 23 #[.agg #[.int .i64 root, .slice A l.length c], .int .i64 y, .int .i64 (m : Int)] u (LookEnd l m y u))
    (X : Nat) (n : Nd) (hn : ndOf l (X : Int) = some n) (hk : n.kd ≠ 0) (w : World) (h : TrAt w A l) :
    Calls Try.prog 23 #[.agg #[.int .i64 root, .slice A l.length c], .int .i64 (X : Int), .int .i64 ((m + 1 : Nat) : Int)] w (LookEnd l (m + 1) (X : Int) w) := by
  obtain ⟨i1, i2, i3⟩ := nd_of_in hn
  rw [Int.toNat_natCast] at i3
  have hXl : X < l.length := by omega
  have hxi : (X : Int) < (l.length : Int) := by omega
  have hR : Hid (lookR l (m + 1) (X : Int) = lookUpto l n (X : Int) (lookR l m) n.K.length) := show _ = _ by rw [lookR, hn]; simp only; rw [if_neg hk]
  obtain ⟨b, q, kd, A1, A2, A3, A4, c1, c2, c3, c4, E, K, S, T, hA, hbb, HN, HA, n0, n1, n2, n3, n4⟩ := h.get hXl
  cases hA
  have hnd : n = ⟨kd, A1, A2, A3, A4, c1, c2, c3, c4, E, K, S, T⟩ := by
    have := HN.out
    rw [i3] at this
    exact Option.some.inj this
  subst hnd
  simp only at hk
  have hsz := nd_sizes (hok _ (List.mem_of_getElem? i3))
  simp only at hsz
  have HSZ := Lib.hid hsz
  clear hsz
  obtain ⟨M, hM⟩ : ∃ M : Nat, m + 1 = M := ⟨_, rfl⟩
  rw [hM] at hR ⊢
  have hmi : ((M : Int) == 0) = false := by rw [beq_eq_false_iff_ne]; omega
  have eM : IntKind.i64.wrap ((M : Int) - 1) = (m : Int) := by rw [IntWalk.i64_in _ (by omega)]; omega
  have d1 : decide ((X : Int) < 0) = false := by rw [decide_eq_false_iff_not]; omega
  have d2 : decide (l.length ≤ X) = false := by rw [decide_eq_false_iff_not]; omega
  have HMm := Lib.hid hM
  clear hM
  have hki : (kd == 0) = false := by rw [beq_eq_false_iff_ne]; exact hk
  have hx := heap_past (.cells bnZ 63) (heap_new w (.cells #[.int .i64 root, .slice (some ⟨b, q, none⟩) l.length c] 24))
  have hz := heap_new (w.alloc (.cells #[.int .i64 root, .slice (some ⟨b, q, none⟩) l.length c] 24)) (.cells bnZ 63)
  rw [World.size_alloc] at hz
  have hu := ((Calm.refl w).alloc (.cells #[.int .i64 root, .slice (some ⟨b, q, none⟩) l.length c] 24)).alloc (.cells bnZ 63)
  have hs1 : ((w.alloc (.cells #[.int .i64 root, .slice (some ⟨b, q, none⟩) l.length c] 24)).alloc (.cells bnZ 63)).heap.size = w.heap.size + 2 := by simp
  have HT := Lib.hid h
  unfold bnZ at hx hz hu hs1
  go_enter Try.func23, Try.ntmps23
  generalize hQ0 : bodyPost Try.prog Try.f23 (LookEnd l M (X : Int) w) = Q0
  have HRET : Hid (∀ a w', bodyPost Try.prog Try.f23 (LookEnd l M (X : Int) w) .ret a w' → Q0 .ret a w') := show ∀ _ _, _ → _ from fun a w' h => by rw [← hQ0]; exact h
  clear hQ0
  go_upto_region 1 with fail
  generalize (w.alloc (.cells #[.int .i64 root, .slice (some ⟨b, q, none⟩) l.length c] 24)).alloc (.cells #[.slice none 0 0, .slice none 0 0, .int .i64 0, .slice none 0 0] 63) = w1 at hx hz hu hs1 ⊢
  obtain ⟨x0, x1, hxs⟩ := rowT hx
  have hvc := hu.facts.1
  replace n0 := (hvc _ _ hbb).trans n0; replace n1 := (hvc _ _ hbb).trans n1; replace n2 := (hvc _ _ hbb).trans n2; replace n3 := (hvc _ _ hbb).trans n3; replace n4 := (hvc _ _ hbb).trans n4
  replace hbb : b < w1.heap.size := Nat.lt_of_lt_of_le hbb hu.size
  have HS1 := Lib.hid hs1
  clear hvc hs1
  go_upto_region 4 with fail
  have hnb := heap_new w1 (.cells #[.int .i64 kd, .slice A1 E.length c1, .slice A2 K.length c2, .slice A3 S.length c3, .slice A4 T.length c4] 60)
  have hc3 := (Calm.refl w1).alloc (.cells #[.int .i64 kd, .slice A1 E.length c1, .slice A2 K.length c2, .slice A3 S.length c3, .slice A4 T.length c4] 60)
  have hsz3 : (w1.alloc (.cells #[.int .i64 kd, .slice A1 E.length c1, .slice A2 K.length c2, .slice A3 S.length c3, .slice A4 T.length c4] 60)).heap.size = w1.heap.size + 1 := by simp
  have hnl : w1.heap.size < w1.heap.size + 1 := Nat.lt_succ_self _
  have hx3 := (hc3.block (rowT hx).2.2).trans hx
  have hz3 := (hc3.block (row4 hz).2.2.2.2).trans hz
  have hu3 := hu.call hc3
  have cCE := fun u (hu : Calm w u) => clone_any A1 c1 E u (by have := HSZ.out.1; omega) (HA.out.calm hu).e
  have cCS := fun u (hu : Calm w u) => cloneS_any A3 c3 S u (by have := HSZ.out.2.2.1; omega) (HA.out.calm hu).s
  generalize w1.alloc (.cells #[.int .i64 kd, .slice A1 E.length c1, .slice A2 K.length c2, .slice A3 S.length c3, .slice A4 T.length c4] 60) = w3 at hnb hsz3 hx3 hz3 hu3 ⊢
  rw [← hsz3] at hnl
  have HSZ3 := Lib.hid hsz3
  clear hsz3
  clear hc3 x0 x1 hxs n0 n1 n2 n3 n4 hbb
  have HU3 := Lib.hid hu3
  refine wp_region_stages [.val (.pointer (some ⟨w1.heap.size, 1, none⟩)), .val (.slice A1 E.length c1), .late, .val (.pointer (some ⟨w1.heap.size, 3, none⟩)), .val (.slice A3 S.length c3), .late, .val (.int .i64 (X : Int)), .late, .late [2, 5, 7], .late, .late [8, 9]] [2, 5, 7, 8, 9, 10]
    (St4 w3 w3.heap.size E S (X : Int)) (by kernel_rfl) (by kernel_rfl) (by kernel_rfl) St4.stay (fun Y => .inl ⟨_, _, _, _, _, rfl, (Pre4.start (Nat.le_refl _)).stay ((Calm.refl _).drew)⟩) (fun Y => ?_)
  refine planS_val (by kernel_rfl) (fun L u hb hS => ?_) ?_
  · go_simp
  simp only [Act.put, List.setIfInBounds_toArray, List.set_cons_zero, List.set_cons_succ, Nat.reduceAdd]
  refine planS_val (by kernel_rfl) (fun L u hb hS => ?_) ?_
  · obtain ⟨m0, m1, m2, m3, m4, hms⟩ := row5 ((hS.calm.block hnl).trans hnb)
    clear hS hb
    go_simp
  simp only [Act.put, List.setIfInBounds_toArray, List.set_cons_zero, List.set_cons_succ, Nat.reduceAdd]
  refine planS_late (fun L u hi hb hS => ?_) ?_
  · obtain ⟨h10, hP⟩ := hS.pre (by simp [hi])
    rw [hi] at hP
    have HP := Lib.hid hP
    have H10 := Lib.hid h10
    clear hS hP h10
    go_wp2_with (go_at_call 50; (with_reducible refine (cCE _ (HU3.out.call HP.out.calm)).mono ?_); rintro e w9 ⟨v, rfl, ho, hb9⟩)
    exact .inl ⟨true, L 5, L 7, L 8, L 9, by simp [updB, H10.out], HP.out.do2 ho hb9⟩
  simp only [Act.put, List.setIfInBounds_toArray, List.set_cons_zero, List.set_cons_succ, Nat.reduceAdd]
  refine planS_val (by kernel_rfl) (fun L u hb hS => ?_) ?_
  · go_simp
  simp only [Act.put, List.setIfInBounds_toArray, List.set_cons_zero, List.set_cons_succ, Nat.reduceAdd]
  refine planS_val (by kernel_rfl) (fun L u hb hS => ?_) ?_
  · obtain ⟨m0, m1, m2, m3, m4, hms⟩ := row5 ((hS.calm.block hnl).trans hnb)
    clear hS hb
    go_simp
  simp only [Act.put, List.setIfInBounds_toArray, List.set_cons_zero, List.set_cons_succ, Nat.reduceAdd]
  refine planS_late (fun L u hi hb hS => ?_) ?_
  · obtain ⟨h10, hP⟩ := hS.pre (by simp [hi])
    rw [hi] at hP
    have HP := Lib.hid hP
    have H10 := Lib.hid h10
    clear hS hP h10
    go_wp2_with (go_at_call 51; (with_reducible refine (cCS _ (HU3.out.call HP.out.calm)).mono ?_); rintro e w9 ⟨v, rfl, ho, hb9⟩)
    exact .inl ⟨L 2, true, L 7, L 8, L 9, by simp [updB, H10.out], HP.out.do5 ho hb9⟩
  simp only [Act.put, List.setIfInBounds_toArray, List.set_cons_zero, List.set_cons_succ, Nat.reduceAdd]
  refine planS_val (by kernel_rfl) (fun L u hb hS => ?_) ?_
  · go_simp
  simp only [Act.put, List.setIfInBounds_toArray, List.set_cons_zero, List.set_cons_succ, Nat.reduceAdd]
  refine planS_late (fun L u hi hb hS => ?_) ?_
  · obtain ⟨h10, hP⟩ := hS.pre (by simp [hi])
    rw [hi] at hP
    have HP := Lib.hid hP
    have H10 := Lib.hid h10
    clear hS hP h10
    go_wp2_with fail
    exact .inl ⟨L 2, L 5, true, L 8, L 9, by simp [updB, H10.out], HP.out.do7⟩
  simp only [Act.put, List.setIfInBounds_toArray, List.set_cons_zero, List.set_cons_succ, Nat.reduceAdd]
  refine planS_late (fun L u hi hb hS => ?_) ?_
  · obtain ⟨h10, hP⟩ := hS.pre (by simp [hi])
    rw [hi, hb 2 (by simp), hb 5 (by simp), hb 7 (by simp)] at hP
    have HP := Lib.hid hP
    have H10 := Lib.hid h10
    have H2 := Lib.hid (hb 2 (by simp))
    have H5 := Lib.hid (hb 5 (by simp))
    have H7 := Lib.hid (hb 7 (by simp))
    obtain ⟨a2, b2, e2⟩ := (hP.e rfl).slice
    obtain ⟨a5, b5, e5⟩ := (hP.s rfl).slice
    obtain ⟨a7, b7, e7⟩ := (hP.n rfl).slice
    have hQ := HP.out.do8
    rw [e2, e5, e7] at hQ ⊢
    have HQ := Lib.hid hQ
    clear hS hP h10 hb hQ e2 e5 e7
    go_wp2_with fail
    exact .inl ⟨true, true, true, true, L 9, by simp [updB, H10.out, H2.out, H5.out, H7.out], HQ.out⟩
  simp only [Act.put, List.setIfInBounds_toArray, List.set_cons_zero, List.set_cons_succ, Nat.reduceAdd]
  refine planS_late (fun L u hi hb hS => ?_) ?_
  · obtain ⟨h10, hP⟩ := hS.pre (by simp [hi])
    rw [hi] at hP
    have HP := Lib.hid hP
    have H10 := Lib.hid h10
    clear hS hP h10
    go_wp2_with fail
    exact .inl ⟨L 2, L 5, L 7, L 8, true, by simp [updB, H10.out], HP.out.do9⟩
  simp only [Act.put, List.setIfInBounds_toArray, List.set_cons_zero, List.set_cons_succ, Nat.reduceAdd]
  refine planS_late (fun L u hi hb hS => ?_) ?_
  · obtain ⟨h10, hP⟩ := hS.pre (by simp [hi])
    rw [hb 8 (by simp), hb 9 (by simp)] at hP
    obtain ⟨t2, t5, t7, e8⟩ := hP.a rfl
    rw [t2, t5, t7] at hP
    obtain ⟨g, e9, hBg, hg⟩ := hP.g rfl
    obtain ⟨a2, b2, e2⟩ := (hP.e rfl).slice
    obtain ⟨a5, b5, e5⟩ := (hP.s rfl).slice
    obtain ⟨a7, b7, e7⟩ := (hP.n rfl).slice
    have hQ := hP.do10 (Nat.le_refl _) e9 hBg hg
    have H := Lib.hid (show [2, 5, 7, 8, 9, 10].map (updB L 10) = [true, true, true, true, true, true] by simp [updB, t2, t5, t7, hb 8 (by simp), hb 9 (by simp)])
    have HQ : Hid (∀ y, St4 w3 w3.heap.size E S (X : Int) ([2, 5, 7, 8, 9, 10].map (updB L 10)) (updV Y 10 y) (World.four u g 0 (Y 2) (Y 5) (.int .i64 1) (Y 7))) := show ∀ _, _ from fun y => .inr ⟨H.out, hQ.1, g, e9, hQ.2⟩
    unfold bnZ at hg
    obtain ⟨z0, z1, z2, z3, hzs⟩ := row4 hg
    obtain ⟨f0, f1, f2, f3, f4, f5⟩ := free6 hg
    rw [e2, e5, e7] at HQ e8
    rw [e8, e9]
    clear hS hP h10 hb hQ e2 e5 e7 e8 H hg t2 t5 t7
    go_wp2_with fail
    exact ⟨undef, HQ.out undef⟩
  simp only [Act.put, Nat.reduceAdd]
  refine planS_end ?_
  intro w4 hS
  obtain ⟨hu4, g, e9, hO⟩ : Calm w3 w4 ∧ ∃ g, Y 9 = .pointer (some ⟨g, 0, none⟩) ∧ OutOk w3.heap.size w4 g (Y 2) (Y 5) (Y 7) 1 E S [(X : Int)] := by
    rcases hS with ⟨_, _, _, _, _, h1, -⟩ | ⟨-, h2⟩
    · simp at h1
    · exact h2
  rw [e9]
  generalize Y 2 = vE at hO ⊢
  generalize Y 5 = vS at hO ⊢
  generalize Y 7 = vN at hO ⊢
  generalize Y 8 = v8
  clear hS e9 Y
  have hnb4 := (hu4.block hnl).trans hnb
  obtain ⟨m0, m1, m2, m3, m4, hms⟩ := row5 hnb4
  have HU4 := Lib.hid hu4
  clear hu4 hnb4
  go_wp2_with fail
  go_loopw [60] (fun i wr => ∃ (k : Nat) (o : Bn) (vE vS vN : Value), k ≤ K.length ∧ i = .int .i64 k ∧ Hid (lookUpto l ⟨kd, A1, A2, A3, A4, c1, c2, c3, c4, E, K, S, T⟩ (X : Int) (lookR l m) k = some o) ∧ Hid (OutOk w3.heap.size wr g vE vS vN o.D o.E o.S o.N) ∧ Hid (Calm w3 wr)) (fun i _ => K.length - (intOf i).toNat)
  case atStart => exact ⟨0, ⟨E, S, 1, [(X : Int)]⟩, vE, vS, vN, Nat.zero_le _, rfl, (show _ = _ by rw [lookUpto]), hO, HU4⟩
  clear m0 m1 m2 m3 m4 hms hO HU4
  case round =>
    obtain ⟨k, o, vE, vS, vN, hkK, rfl, hL, hO, hv⟩ := hrel
    have hnbr := (hv.out.block hnl).trans hnb
    have hxr := (hv.out.block (rowT hx3).2.2).trans hx3
    have hzr := (hv.out.block (row4 hz3).2.2.2.2).trans hz3
    have hvw := Lib.hid (HU3.out.call hv.out)
    obtain ⟨x0, x1, hxs⟩ := rowT hxr
    obtain ⟨m0, m1, m2, m3, m4, hms⟩ := row5 hnbr
    obtain ⟨z0, z1, z2, z3, hzs⟩ := row4 hzr
    obtain ⟨f0, f1, f2, f3, f4, f5⟩ := free6 hzr
    obtain ⟨o0, o1, o2, o3, hos⟩ := row4 hO.out.box
    obtain ⟨M1, hM1⟩ : ∃ M1 : Nat, Hid (wr.heap.size = M1) := ⟨_, rfl⟩
    have hgM : Hid (g < M1 ∧ ∀ k, vE.ownBlock = some k ∨ vS.ownBlock = some k ∨ vN.ownBlock = some k → k < M1) := show _ ∧ _ from ⟨by rw [← hM1.out]; exact (Array.getElem?_eq_some_iff.1 hO.out.box).1, fun k hk => by
      rw [← hM1.out]
      rcases hk with hk | hk | hk
      · exact (hO.out.own.e.lt k hk).2
      · exact (rows_lt hO.out.own.s k hk).2
      · exact (hO.out.own.n.lt k hk).2⟩
    obtain ⟨a2, b2, e2⟩ := hO.out.own.e.slice
    obtain ⟨a5, b5, e5⟩ := hO.out.own.s.slice
    obtain ⟨a7, b7, e7⟩ := hO.out.own.n.slice
    subst e2; subst e5; subst e7
    by_cases hlt : k < K.length
    rotate_left
    · have hge : (K.length : Int) ≤ (k : Int) := by omega
      have hkk : k = K.length := by omega
      have hRR : Hid (lookR l M (X : Int) = some o) := show _ = _ by rw [hR.out, ← hL.out, hkk]
      have hw13 : w.heap.size + 1 < w3.heap.size := by have a := HSZ3.out; have b := HS1.out; omega
      have h4 := set4 hzr (.slice a2 o.E.length b2) (.slice a5 o.S.length b5) (.int .i64 o.D) (.slice a7 o.N.length b7)
      have hc4 := hvw.out.four (g := w.heap.size + 1) (by omega) 0 (.slice a2 o.E.length b2) (.slice a5 o.S.length b5) (.int .i64 o.D) (.slice a7 o.N.length b7)
      have hne : ∀ j, w3.heap.size ≤ j → (World.four wr (w.heap.size + 1) 0 (.slice a2 o.E.length b2) (.slice a5 o.S.length b5) (.int .i64 o.D) (.slice a7 o.N.length b7)).heap[j]? = wr.heap[j]? := fun j hj => four_other _ _ _ _ (by omega)
      have hown := hO.out.own
      have hle : w.heap.size ≤ w3.heap.size := by omega
      have hEnd : LookEnd l M (X : Int) w (.returned (.tuple #[.agg #[.slice a2 o.E.length b2, .slice a5 o.S.length b5, .int .i64 o.D, .slice a7 o.N.length b7], .bool true])) (World.four wr (w.heap.size + 1) 0 (.slice a2 o.E.length b2) (.slice a5 o.S.length b5) (.int .i64 o.D) (.slice a7 o.N.length b7)) :=
        ⟨hc4, .inr ⟨o, _, _, _, hRR.out, rfl, ⟨(OwnR.same hown.e fun j hj => hne j (hown.e.lt j hj).1).weaken hle, rows_weaken (rows_same hown.s fun j hj => hne j (rows_lt hown.s j hj).1) hle, rows_weaken (rows_same hown.n fun j hj => hne j (hown.n.lt j hj).1) hle, hown.es, hown.en, hown.sn⟩⟩⟩
      clear hkk hL hR hRR hne hown hc4
      go_wp2_with fail
      exact HRET.out _ _ (end_bn rfl rfl _ _ (w.heap.size + 1) _ _ _ (0, 0) rfl rfl rfl h4 rfl hEnd)
    obtain ⟨bk, qk, y, hAk, hbk, HY, cyk⟩ := (HA.out.calm hvw.out).k.get hlt
    subst hAk
    have hbad : Hid (lookUpto l ⟨kd, A1, some ⟨bk, qk, none⟩, A3, A4, c1, c2, c3, c4, E, K, S, T⟩ (X : Int) (lookR l m) (k + 1) = none → ∀ w', Calm w w' → LookEnd l M (X : Int) w (.returned (.tuple #[.agg #[.slice none 0 0, .slice none 0 0, .int .i64 0, .slice none 0 0], .bool false])) w') := show _ → ∀ _, _ from fun hno w' hc =>
      ⟨hc, .inl ⟨by rw [hR.out]; exact upto_none hno (show k + 1 ≤ K.length by omega), rfl⟩⟩
    have hstep : Hid (lookUpto l ⟨kd, A1, some ⟨bk, qk, none⟩, A3, A4, c1, c2, c3, c4, E, K, S, T⟩ (X : Int) (lookR l m) (k + 1) = match lookR l m y with
        | none => none
        | some b => open Classical in if kidOk l ⟨kd, A1, some ⟨bk, qk, none⟩, A3, A4, c1, c2, c3, c4, E, K, S, T⟩ k o b y ∧ (o.N ++ b.N).length ≤ 400 then some ⟨o.E ++ b.E, o.S ++ b.S, b.D + 1, o.N ++ b.N⟩ else none) := show _ = _ by
      rw [lookUpto, hL.out]; simp only [HY.out]; rfl
    have cI := fun u (hu : Calm wr u) => ih y u (HT.out.calm (hvw.out.call hu))
    cases hlk : lookR l m y with
    | none =>
      have hno : Hid (lookR l m y = none) := hlk
      have hzero := Lib.hid (hbad.out (by rw [hstep.out, hlk]))
      clear hlk hstep hbad ih
      go_upto_region 9 with (go_at_call 23; (with_reducible refine (cI _ (Calm.refl _)).mono ?_); rintro e w5 ⟨hc5, hcase⟩; obtain ⟨-, rfl⟩ : _ ∧ e = _ := (hcase.elim id fun ⟨b, _, _, _, h9, _⟩ => by rw [hno.out] at h9; cases h9); clear hcase; unfold bnZ)
      have hc6 := hc5.alloc (.cells #[.slice none 0 0, .slice none 0 0, .int .i64 0, .slice none 0 0] 63)
      refine wp_region_plan [.val (.bool false), .val (.bool true), .val (.bool true), .idle, .idle, .idle, .idle, .idle, .idle, .idle, .idle, .idle, .idle, .idle, .idle, .idle, .idle, .idle, .idle, .val (.bool true), .val (.bool true), .idle, .idle, .idle, .idle, .idle, .idle, .idle, .idle, .idle, .idle, .val (.bool true)] (by kernel_rfl) (by kernel_rfl) (by kernel_rfl) ?_
      intro X
      iterate 3
        refine plan_val (by kernel_rfl) (fun u hu => ?_) ?_
        · obtain ⟨hc, hf, hz⟩ := hu.of_drew.facts
          go_simp
        simp only [Act.put, List.setIfInBounds_toArray, List.set_cons_zero, List.set_cons_succ, Nat.reduceAdd]
      iterate 16
        refine plan_idle (by kernel_rfl) ?_
        simp only [Act.put, List.setIfInBounds_toArray, List.set_cons_zero, List.set_cons_succ, Nat.reduceAdd]
      iterate 2
        refine plan_val (by kernel_rfl) (fun u hu => ?_) ?_
        · obtain ⟨hc, hf, hz⟩ := hu.of_drew.facts
          go_simp
        simp only [Act.put, List.setIfInBounds_toArray, List.set_cons_zero, List.set_cons_succ, Nat.reduceAdd]
      iterate 10
        refine plan_idle (by kernel_rfl) ?_
        simp only [Act.put, List.setIfInBounds_toArray, List.set_cons_zero, List.set_cons_succ, Nat.reduceAdd]
      iterate 1
        refine plan_val (by kernel_rfl) (fun u hu => ?_) ?_
        · obtain ⟨hc, hf, hz⟩ := hu.of_drew.facts
          go_simp
        simp only [Act.put, List.setIfInBounds_toArray, List.set_cons_zero, List.set_cons_succ, Nat.reduceAdd]
      refine plan_end ?_
      intro w' hB
      have hk := hB.calm.of_drew
      clear hB
      have hc7 := hc6.call hk
      have hz6 := (hc7.block (row4 hzr).2.2.2.2).trans hzr
      have h4 := set4 hz6 (.slice none 0 0) (.slice none 0 0) (.int .i64 0) (.slice none 0 0)
      have hcf := (hvw.out.call hc7).four (g := w.heap.size + 1) (by omega) 0 (.slice none 0 0) (.slice none 0 0) (.int .i64 0) (.slice none 0 0)
      have hEnd := hzero.out _ hcf
      obtain ⟨z0, z1, z2, z3, hzs⟩ := row4 hz6
      obtain ⟨f0, f1, f2, f3, f4, f5⟩ := free6 hz6
      clear hcf
      go_wp2_with fail
      exact HRET.out _ _ (end_bn rfl rfl _ _ (w.heap.size + 1) _ _ _ (0, 0) rfl rfl rfl h4 rfl hEnd)
    | some bb =>
      have hbl := look_len hok hlk
      have HWF := Lib.hid (look_wf HT.out hok hlk)
      have HWS := Lib.hid (look_ws HT.out hok hlk)
      have hol := upto_len hok (n := ⟨kd, A1, some ⟨bk, qk, none⟩, A3, A4, c1, c2, c3, c4, E, K, S, T⟩) HSZ.out.1 HSZ.out.2.2.1 k o hL.out
      have hyn : ∃ nk, ndOf l y = some nk := by
        obtain ⟨d, hd0, -, hsb, -⟩ := of_look hok m y bb hlk
        cases d with
        | zero => exact absurd hsb id
        | succ d => obtain ⟨nk, hnk, -⟩ := hsb; exact ⟨nk, hnk⟩
      obtain ⟨nk, hnk⟩ := hyn
      obtain ⟨j1', j2', j3'⟩ := nd_of_in hnk
      obtain ⟨Y, rfl⟩ : ∃ Y : Nat, y = (Y : Int) := ⟨y.toNat, by omega⟩
      have hYl : Y < l.length := by omega
      have hno : Hid (lookR l m (Y : Int) = some bb) := hlk
      rw [hlk] at hstep
      simp only at hstep
      have HBL := Lib.hid hbl
      have HOL := Lib.hid hol
      clear hlk ih hbl hol j1' j2'
      go_upto_region 9 with (go_at_call 23; (with_reducible refine (cI _ (Calm.refl _)).mono ?_); rintro e w5 ⟨hc5, hcase⟩; obtain ⟨v1, v2, v3, rfl, hB⟩ : ∃ v1 v2 v3, e = .returned (.tuple #[.agg #[v1, v2, .int .i64 bb.D, v3], .bool true]) ∧ Own3 wr.heap.size w5 v1 v2 v3 bb.E bb.S bb.N := hcase.elim (fun h9 => absurd (h9.1.symm.trans hno.out) (by simp)) (fun ⟨b', v1, v2, v3, h9, h10, h11⟩ => ⟨v1, v2, v3, (by rw [Option.some.inj (h9.symm.trans hno.out)] at h10; exact h10), (by rw [Option.some.inj (h9.symm.trans hno.out)] at h11; exact h11)⟩); clear hcase; obtain ⟨p2, r2, g2⟩ := hB.e.slice; obtain ⟨p5, r5, g5⟩ := hB.s.slice; obtain ⟨p7, r7, g7⟩ := hB.n.slice; subst g2; subst g5; subst g7)
      have hc6 := hc5.alloc (.cells #[.slice p2 bb.E.length r2, .slice p5 bb.S.length r5, .int .i64 bb.D, .slice p7 bb.N.length r7] 63)
      have hbx := heap_new w5 (.cells #[.slice p2 bb.E.length r2, .slice p5 bb.S.length r5, .int .i64 bb.D, .slice p7 bb.N.length r7] 63)
      have hB6 := hB.calm ((Calm.refl w5).alloc (.cells #[.slice p2 bb.E.length r2, .slice p5 bb.S.length r5, .int .i64 bb.D, .slice p7 bb.N.length r7] 63))
      have hw5 : wr.heap.size ≤ w5.heap.size := hc5.size
      generalize w5.alloc (.cells #[.slice p2 bb.E.length r2, .slice p5 bb.S.length r5, .int .i64 bb.D, .slice p7 bb.N.length r7] 63) = w6 at hc6 hbx hB6 ⊢
      have HB6 : Hid (Own3 M1 w6 _ _ _ bb.E bb.S bb.N) := show Own3 _ _ _ _ _ _ _ _ from hM1.out ▸ hB6
      have hgx : Hid (M1 ≤ w5.heap.size) := show _ ≤ _ from hM1.out ▸ hw5
      have hx6 := (hc6.block (rowT hxr).2.2).trans hxr
      have hn6 := (hc6.block (row5 hnbr).2.2.2.2.2).trans hnbr
      have HO6 := Lib.hid (hO.out.calm hc6)
      obtain ⟨b', q', kd2, G1, G2, G3, G4, j1, j2, j3, j4, E2, K2, S2, T2, hA', hbb6, HN2, HA2, n0, n1, n2, n3, n4⟩ := (HT.out.calm (hvw.out.call hc6)).get hYl
      cases hA'
      have hsz2 := nd_sizes (hok _ (List.mem_of_getElem? HN2.out))
      simp only at hsz2
      have hso : Hid (sizeOf l (Y : Int) = E2.length + K2.length) := show _ = _ by unfold sizeOf; rw [Int.toNat_natCast, HN2.out]
      obtain ⟨s, hs⟩ : ∃ s : Nat, E2.length + K2.length = s := ⟨_, rfl⟩
      have e90 : IntKind.i64.wrap ((E2.length : Int) + (K2.length : Int)) = (s : Int) := by rw [IntWalk.i64_in _ (by omega)]; omega
      rw [hs] at hso
      have hs16 : s ≤ 16 := by omega
      clear x0 x1 hxs m0 m1 m2 m3 m4 hms o0 o1 o2 o3 hos z0 z1 z2 z3 hzs f0 f1 f2 f3 f4 f5 hB hB6 hs hsz2 cyk
      obtain ⟨x0, x1, hxs⟩ := rowT hx6
      obtain ⟨m0, m1, m2, m3, m4, hms⟩ := row5 hn6
      obtain ⟨o0, o1, o2, o3, hos⟩ := row4 HO6.out.box
      obtain ⟨t0, t1, t2, t3, hts⟩ := row4 hbx
      by_cases hs4 : s < 4
      · have hzero := Lib.hid (hbad.out (by rw [hstep.out, if_neg (fun h => by have := h.1.1; rw [hso.out] at this; omega)]))
        have hsi : (s : Int) < 4 := by omega
        clear hbad hstep
        refine wp_region_plan [.val (.bool true), .val (.bool false), .val (.bool false), .val (.pointer (some ⟨w.heap.size, 1, none⟩)), .val (.slice (some ⟨b, q, none⟩) l.length c), .val (.int .i64 (Y)), .val (.pointer (some ⟨b, q+Y*5, none⟩)), .val (.pointer (some ⟨b, q+Y*5+1, none⟩)), .val (.slice G1 E2.length j1), .val (.int .i64 (E2.length)), .val (.pointer (some ⟨w.heap.size, 1, none⟩)), .val (.slice (some ⟨b, q, none⟩) l.length c), .val (.int .i64 (Y)), .val (.pointer (some ⟨b, q+Y*5, none⟩)), .val (.pointer (some ⟨b, q+Y*5+2, none⟩)), .val (.slice G2 K2.length j2), .val (.int .i64 (K2.length)), .val (.int .i64 (s)), .val (.bool true), .val (.bool true), .val (.bool true), .idle, .idle, .idle, .idle, .idle, .idle, .idle, .idle, .idle, .idle, .val (.bool true)] (by kernel_rfl) (by kernel_rfl) (by kernel_rfl) ?_
        intro X
        iterate 21
          refine plan_val (by kernel_rfl) (fun u hu => ?_) ?_
          · obtain ⟨hc, hf, hz⟩ := hu.of_drew.facts
            go_simp
            all_goals first
              | (exact e90)
          simp only [Act.put, List.setIfInBounds_toArray, List.set_cons_zero, List.set_cons_succ, Nat.reduceAdd]
        iterate 10
          refine plan_idle (by kernel_rfl) ?_
          simp only [Act.put, List.setIfInBounds_toArray, List.set_cons_zero, List.set_cons_succ, Nat.reduceAdd]
        iterate 1
          refine plan_val (by kernel_rfl) (fun u hu => ?_) ?_
          · obtain ⟨hc, hf, hz⟩ := hu.of_drew.facts
            go_simp
            all_goals first
              | (exact e90)
          simp only [Act.put, List.setIfInBounds_toArray, List.set_cons_zero, List.set_cons_succ, Nat.reduceAdd]
        refine plan_end ?_
        intro w' hB
        have hk := hB.calm.of_drew
        clear hB
        have hc7 := hc6.call hk
        have hz6 := (hc7.block (row4 hzr).2.2.2.2).trans hzr
        have h4 := set4 hz6 (.slice none 0 0) (.slice none 0 0) (.int .i64 0) (.slice none 0 0)
        have hcf := (hvw.out.call hc7).four (g := w.heap.size + 1) (by omega) 0 (.slice none 0 0) (.slice none 0 0) (.int .i64 0) (.slice none 0 0)
        have hEnd := hzero.out _ hcf
        obtain ⟨z0, z1, z2, z3, hzs⟩ := row4 hz6
        obtain ⟨f0, f1, f2, f3, f4, f5⟩ := free6 hz6
        clear hcf
        go_wp2_with fail
        exact HRET.out _ _ (end_bn rfl rfl _ _ (w.heap.size + 1) _ _ _ (0, 0) rfl rfl rfl h4 rfl hEnd)
      have hsi : ¬ (s : Int) < 4 := by omega
      have hD1 : IntKind.i64.wrap (bb.D + 1) = bb.D + 1 := IntWalk.i64_in _ (by have a := HBL.out.d1; have b := HBL.out.d2; omega)
      by_cases hdd : 0 < k ∧ o.D ≠ bb.D + 1
      · have hzero := Lib.hid (hbad.out (by rw [hstep.out, if_neg (fun h => hdd.2 (h.1.2.1 hdd.1))]))
        have hkp : (k : Int) > 0 := by omega
        have hne : o.D ≠ bb.D + 1 := hdd.2
        clear hbad hstep
        refine wp_region_plan [.val (.bool true), .val (.bool false), .val (.bool false), .val (.pointer (some ⟨w.heap.size, 1, none⟩)), .val (.slice (some ⟨b, q, none⟩) l.length c), .val (.int .i64 (Y)), .val (.pointer (some ⟨b, q+Y*5, none⟩)), .val (.pointer (some ⟨b, q+Y*5+1, none⟩)), .val (.slice G1 E2.length j1), .val (.int .i64 (E2.length)), .val (.pointer (some ⟨w.heap.size, 1, none⟩)), .val (.slice (some ⟨b, q, none⟩) l.length c), .val (.int .i64 (Y)), .val (.pointer (some ⟨b, q+Y*5, none⟩)), .val (.pointer (some ⟨b, q+Y*5+2, none⟩)), .val (.slice G2 K2.length j2), .val (.int .i64 (K2.length)), .val (.int .i64 (s)), .val (.bool false), .val (.bool false), .val (.bool false), .val (.int .i64 (k)), .val (.bool true), .val (.bool true), .val (.pointer (some ⟨g, 2, none⟩)), .val (.int .i64 (o.D)), .val (.pointer (some ⟨w5.heap.size, 2, none⟩)), .val (.int .i64 (bb.D)), .val (.int .i64 (bb.D + 1)), .val (.bool true), .val (.bool true), .val (.bool true)] (by kernel_rfl) (by kernel_rfl) (by kernel_rfl) ?_
        intro X
        iterate 32
          refine plan_val (by kernel_rfl) (fun u hu => ?_) ?_
          · obtain ⟨hc, hf, hz⟩ := hu.of_drew.facts
            go_simp
            all_goals first
              | (exact e90)
              | (exact hD1)
          simp only [Act.put, List.setIfInBounds_toArray, List.set_cons_zero, List.set_cons_succ, Nat.reduceAdd]
        refine plan_end ?_
        intro w' hB
        have hk := hB.calm.of_drew
        clear hB
        have hc7 := hc6.call hk
        have hz6 := (hc7.block (row4 hzr).2.2.2.2).trans hzr
        have h4 := set4 hz6 (.slice none 0 0) (.slice none 0 0) (.int .i64 0) (.slice none 0 0)
        have hcf := (hvw.out.call hc7).four (g := w.heap.size + 1) (by omega) 0 (.slice none 0 0) (.slice none 0 0) (.int .i64 0) (.slice none 0 0)
        have hEnd := hzero.out _ hcf
        obtain ⟨z0, z1, z2, z3, hzs⟩ := row4 hz6
        obtain ⟨f0, f1, f2, f3, f4, f5⟩ := free6 hz6
        clear hcf
        go_wp2_with fail
        exact HRET.out _ _ (end_bn rfl rfl _ _ (w.heap.size + 1) _ _ _ (0, 0) rfl rfl rfl h4 rfl hEnd)
      have hde : 0 < k → o.D = bb.D + 1 := fun hk0 => Decidable.byContradiction fun h => hdd ⟨hk0, h⟩
      clear hdd
      go_cut [104] from 73 to 104 (fun s104 wx => s104 = .bool false ∧ Hid (Calm w6 wx))
      case first =>
        rcases Nat.lt_or_ge 0 k with hk0 | hk0
        · have hde1 := hde hk0
          have hkp : (k : Int) > 0 := by omega
          refine wp_region_plan [.val (.bool true), .val (.bool false), .val (.bool false), .val (.pointer (some ⟨w.heap.size, 1, none⟩)), .val (.slice (some ⟨b, q, none⟩) l.length c), .val (.int .i64 (Y)), .val (.pointer (some ⟨b, q+Y*5, none⟩)), .val (.pointer (some ⟨b, q+Y*5+1, none⟩)), .val (.slice G1 E2.length j1), .val (.int .i64 (E2.length)), .val (.pointer (some ⟨w.heap.size, 1, none⟩)), .val (.slice (some ⟨b, q, none⟩) l.length c), .val (.int .i64 (Y)), .val (.pointer (some ⟨b, q+Y*5, none⟩)), .val (.pointer (some ⟨b, q+Y*5+2, none⟩)), .val (.slice G2 K2.length j2), .val (.int .i64 (K2.length)), .val (.int .i64 (s)), .val (.bool false), .val (.bool false), .val (.bool false), .val (.int .i64 (k)), .val (.bool true), .val (.bool true), .val (.pointer (some ⟨g, 2, none⟩)), .val (.int .i64 (o.D)), .val (.pointer (some ⟨w5.heap.size, 2, none⟩)), .val (.int .i64 (bb.D)), .val (.int .i64 (bb.D + 1)), .val (.bool false), .val (.bool false), .val (.bool false)] (by kernel_rfl) (by kernel_rfl) (by kernel_rfl) ?_
          intro X
          iterate 32
            refine plan_val (by kernel_rfl) (fun u hu => ?_) ?_
            · obtain ⟨hc, hf, hz⟩ := hu.of_drew.facts
              go_simp
              all_goals first
                | (exact e90)
                | (exact hD1)
            simp only [Act.put, List.setIfInBounds_toArray, List.set_cons_zero, List.set_cons_succ, Nat.reduceAdd]
          refine plan_end ?_
          intro w' hB
          have hk := hB.calm.of_drew
          clear hB
          clear x0 x1 hxs m0 m1 m2 m3 m4 hms o0 o1 o2 o3 hos t0 t1 t2 t3 hts
          go_wp2_with fail
          go_meet
          exact ⟨rfl, hk⟩
        · have hkp : ¬ (k : Int) > 0 := by omega
          refine wp_region_plan [.val (.bool true), .val (.bool false), .val (.bool false), .val (.pointer (some ⟨w.heap.size, 1, none⟩)), .val (.slice (some ⟨b, q, none⟩) l.length c), .val (.int .i64 (Y)), .val (.pointer (some ⟨b, q+Y*5, none⟩)), .val (.pointer (some ⟨b, q+Y*5+1, none⟩)), .val (.slice G1 E2.length j1), .val (.int .i64 (E2.length)), .val (.pointer (some ⟨w.heap.size, 1, none⟩)), .val (.slice (some ⟨b, q, none⟩) l.length c), .val (.int .i64 (Y)), .val (.pointer (some ⟨b, q+Y*5, none⟩)), .val (.pointer (some ⟨b, q+Y*5+2, none⟩)), .val (.slice G2 K2.length j2), .val (.int .i64 (K2.length)), .val (.int .i64 (s)), .val (.bool false), .val (.bool false), .val (.bool false), .val (.int .i64 (k)), .val (.bool false), .val (.bool false), .idle, .idle, .idle, .idle, .idle, .idle, .val (.bool false), .val (.bool false)] (by kernel_rfl) (by kernel_rfl) (by kernel_rfl) ?_
          intro X
          iterate 24
            refine plan_val (by kernel_rfl) (fun u hu => ?_) ?_
            · obtain ⟨hc, hf, hz⟩ := hu.of_drew.facts
              go_simp
              all_goals first
                | (exact e90)
            simp only [Act.put, List.setIfInBounds_toArray, List.set_cons_zero, List.set_cons_succ, Nat.reduceAdd]
          iterate 6
            refine plan_idle (by kernel_rfl) ?_
            simp only [Act.put, List.setIfInBounds_toArray, List.set_cons_zero, List.set_cons_succ, Nat.reduceAdd]
          iterate 2
            refine plan_val (by kernel_rfl) (fun u hu => ?_) ?_
            · obtain ⟨hc, hf, hz⟩ := hu.of_drew.facts
              go_simp
              all_goals first
                | (exact e90)
            simp only [Act.put, List.setIfInBounds_toArray, List.set_cons_zero, List.set_cons_succ, Nat.reduceAdd]
          refine plan_end ?_
          intro w' hB
          have hk := hB.calm.of_drew
          clear hB
          clear x0 x1 hxs m0 m1 m2 m3 m4 hms o0 o1 o2 o3 hos t0 t1 t2 t3 hts
          go_wp2_with fail
          go_meet
          exact ⟨rfl, hk⟩
      case rest =>
        obtain ⟨rfl, HK⟩ := hcut
        have hc7 := hc6.call HK.out
        have hbx7 := (HK.out.block (row4 hbx).2.2.2.2).trans hbx
        have HB7 := Lib.hid (HB6.out.calm HK.out)
        clear x0 x1 hxs m0 m1 m2 m3 m4 hms o0 o1 o2 o3 hos t0 t1 t2 t3 hts
        obtain ⟨t0, t1, t2, t3, hts⟩ := row4 hbx7
        obtain ⟨A5, c5, e5, hL5⟩ := HB7.out.s.lies HWF.out.2
        injection e5 with e51 _ e52
        subst e51; subst e52
        have HL5 := Lib.hid hL5
        have HLE := Lib.hid (HB7.out.e.at_ HWF.out.1)
        clear hL5
        go_wp2_with (go_at_call 51; (with_reducible refine (cloneS_any _ _ bb.S _ (by have := HBL.out.s; omega) HL5.out).mono ?_); rintro e w8 ⟨v8, rfl, ho8, hb8⟩; have hbx8 := (hb8.block (row4 hbx7).2.2.2.2).trans hbx7; clear t0 t1 t2 t3 hts; obtain ⟨t0, t1, t2, t3, hts⟩ := row4 hbx8)
        have HO8 := Lib.hid ho8
        clear ho8
        go_loopw [14, 15, 112] (fun a v i wq => ∃ j : Nat, j ≤ bb.E.length ∧ i = .int .i64 j ∧ a = .int .i64 (lateOf (bb.E.take j)) ∧ Hid (OwnS wc.heap.size wq v (bb.S ++ (bb.E.take j).map El.sp)) ∧ Hid (Calm wc wq)) (fun _ _ i _ => bb.E.length - (intOf i).toNat)
        case atStart => exact ⟨0, Nat.zero_le _, rfl, rfl, (show OwnS _ _ _ _ by simpa using HO8.out), hb8⟩
        clear hb8 HO8 t0 t1 t2 t3 hts hbx8
        case round =>
          obtain ⟨j, hj, rfl, rfl, ho, hq⟩ := hrel
          by_cases hjl : j < bb.E.length
          rotate_left
          · have hjj : bb.E.take j = bb.E := List.take_of_length_le (by omega)
            rw [hjj] at ho
            rw [hjj]
            have hcw := Lib.hid (hc7.call hq.out)
            have hvn := Lib.hid (hvw.out.call hcw.out)
            have hkT : k < T.length := by have := HSZ.out.2.2.2.1; omega
            obtain ⟨bt, qt, t, hAt, hbt, HTT, cyt⟩ := (HA.out.calm hvn.out).t.get hkT
            subst hAt
            have hn9 := (hcw.out.block (row5 hnbr).2.2.2.2.2).trans hnbr
            have hz9 := (hcw.out.block (row4 hzr).2.2.2.2).trans hzr
            obtain ⟨m0, m1, m2, m3, m4, hms⟩ := row5 hn9
            obtain ⟨z0, z1, z2, z3, hzs⟩ := row4 hz9
            obtain ⟨f0, f1, f2, f3, f4, f5⟩ := free6 hz9
            obtain ⟨la, hla⟩ : ∃ la, lateOf bb.E = la := ⟨_, rfl⟩
            rw [hla]
            have HLA := Lib.hid hla
            clear hla hjj
            by_cases hlt9 : la = t
            rotate_left
            · have hzero := Lib.hid (hbad.out (by rw [hstep.out, if_neg (fun h => by have a := h.1.2.2.1; rw [HLA.out] at a; exact hlt9 (Option.some.inj (a.symm.trans HTT.out)))]))
              have h4 := set4 hz9 (.slice none 0 0) (.slice none 0 0) (.int .i64 0) (.slice none 0 0)
              have hcf := hvn.out.four (g := w.heap.size + 1) (by omega) 0 (.slice none 0 0) (.slice none 0 0) (.int .i64 0) (.slice none 0 0)
              have hEnd := hzero.out _ hcf
              clear hcf
              go_wp2_with fail
              exact HRET.out _ _ (end_bn rfl rfl _ _ (w.heap.size + 1) _ _ _ (0, 0) rfl rfl rfl h4 rfl hEnd)
            subst hlt9
            obtain ⟨LL, hLL⟩ : ∃ LL, bb.S ++ bb.E.map El.sp = LL := ⟨_, rfl⟩
            rw [hLL] at ho HWS
            have hLn : LL.length ≤ 6400 := by
              have a := HBL.out.s; have b := HBL.out.e
              rw [← hLL, List.length_append, List.length_map]; omega
            have HLL := Lib.hid hLL
            clear hLL
            obtain ⟨A9, c9, e9, hL9⟩ := ho.out.lies (HWS.out)
            subst e9
            have HL9 := Lib.hid hL9
            clear hL9
            go_wp2_with fail
            go_loopw [136] (fun i wx => ∃ j : Nat, j ≤ LL.length ∧ i = .int .i64 j ∧ Hid (∀ s ∈ LL.take j, betw S k s) ∧ Hid (Calm wr wx)) (fun i _ => LL.length - (intOf i).toNat)
            case atStart => exact ⟨0, Nat.zero_le _, rfl, (show ∀ _ ∈ _, _ by simp), Calm.refl _⟩
            clear m0 m1 m2 m3 m4 hms z0 z1 z2 z3 hzs f0 f1 f2 f3 f4 f5
            case round =>
              obtain ⟨j3, hj3, rfl, hbt3, hq3⟩ := hrel
              have hcx := Lib.hid (hcw.out.call hq3.out)
              have hvx := Lib.hid (hvw.out.call hcx.out)
              have hn3 := (hcx.out.block (row5 hnbr).2.2.2.2.2).trans hnbr
              have hz3x := (hcx.out.block (row4 hzr).2.2.2.2).trans hzr
              have HOx := Lib.hid (hO.out.calm hcx.out)
              have hbx9 := ((hq.out.call hq3.out).block (row4 hbx7).2.2.2.2).trans hbx7
              obtain ⟨m0, m1, m2, m3, m4, hms⟩ := row5 hn3
              obtain ⟨z0, z1, z2, z3, hzs⟩ := row4 hz3x
              obtain ⟨f0, f1, f2, f3, f4, f5⟩ := free6 hz3x
              obtain ⟨o0, o1, o2, o3, hos⟩ := row4 HOx.out.box
              obtain ⟨t0, t1, t2, t3, hts⟩ := row4 hbx9
              by_cases hjl3 : j3 < LL.length
              · obtain ⟨bx, qx, p, oo, f, mm, hAx, hbx2, HX, hmx, y0, y1, y2, y3⟩ := (HL9.out.calm hq3.out).get hjl3
                subst hAx
                have hbox := heap_new wr (.cells #[.int .i64 p, .int .i64 oo, .int .i64 f, .int .i64 mm] 47)
                have hal := (Calm.refl wr).alloc (.cells #[.int .i64 p, .int .i64 oo, .int .i64 f, .int .i64 mm] 47)
                have hbadS : Hid (¬ betw S k ⟨p, oo, f, mm⟩ → ∀ w', Calm w w' → LookEnd l M (X : Int) w (.returned (.tuple #[.agg #[.slice none 0 0, .slice none 0 0, .int .i64 0, .slice none 0 0], .bool false])) w') := show _ → _ from fun hn => hbad.out (by rw [hstep.out, if_neg (fun h => hn (h.1.2.2.2 _ (by rw [HLL.out]; exact List.mem_of_getElem? HX.out)))])
                have hgood : Hid (betw S k ⟨p, oo, f, mm⟩ → ∀ x ∈ LL.take (j3 + 1), betw S k x) := show _ → _ from fun hb => take_all hbt3.out HX.out hb
                go_upto_region 24 with fail
                generalize wr.alloc (.cells #[.int .i64 p, .int .i64 oo, .int .i64 f, .int .i64 mm] 47) = w9 at hbox hal ⊢
                have hn4 := (hal.block (row5 hn3).2.2.2.2.2).trans hn3
                have hSA : Hid (LiesS w9 A3 S) := (HA.out.calm (hvx.out.call hal)).s
                clear m0 m1 m2 m3 m4 hms o0 o1 o2 o3 hos t0 t1 t2 t3 hts y0 y1 y2 y3
                obtain ⟨m0, m1, m2, m3, m4, hms⟩ := row5 hn4
                obtain ⟨u0, u1, u2, u3, hus⟩ := row4 hbox
                rcases Nat.lt_or_ge 0 k with hk0 | hk0
                · have hkp : (k : Int) > 0 := by omega
                  have hkS1 : k - 1 < S.length := by have := HSZ.out.2.2.2.2.1; omega
                  obtain ⟨bs, qs, p8, o8, f8, m8, hAs, hbs, HS8, hm8, q0, q1, q2, q3⟩ := hSA.out.get hkS1
                  subst hAs
                  have hSl : Hid (LiesS w9 (some ⟨bs, qs, none⟩) S) := hSA
                  have eK1 : IntKind.i64.wrap ((k : Int) - 1) = ((k - 1 : Nat) : Int) := by have hk8 := HSZ.out.2.1; rw [IntWalk.i64_in _ (by omega)]; omega
                  have hkSi1 : ((k - 1 : Nat) : Int) < (S.length : Int) := by omega
                  obtain ⟨a8, ha8⟩ : ∃ a8, aheadS p oo f mm p8 o8 f8 m8 = a8 := ⟨_, rfl⟩
                  have cL : ∀ u, Calls Try.prog 27 #[.agg #[.int .i64 p, .int .i64 oo, .int .i64 f, .int .i64 mm], .agg #[.int .i64 p8, .int .i64 o8, .int .i64 f8, .int .i64 m8]] u fun e w' => e = .returned (.bool a8) ∧ Calm u w' := fun u => by rw [← ha8]; exact aheadSpot_any _ _ _ _ _ _ _ _ _
                  have HA8 := Lib.hid ha8
                  clear ha8
                  cases a8
                  rotate_left
                  · have hzero := Lib.hid (hbadS.out (betw_lo hk0 HS8.out HA8.out))
                    refine wp_region_plan [.val (.int .i64 (k)), .val (.bool true), .val (.bool true), .val (.agg #[.int .i64 p, .int .i64 oo, .int .i64 f, .int .i64 mm]), .val (.pointer (some ⟨w1.heap.size, 3, none⟩)), .val (.slice (some ⟨bs, qs, none⟩) S.length c3), .val (.int .i64 (k)), .val (.int .i64 (((k - 1 : Nat) : Int))), .val (.pointer (some ⟨bs, qs+(k-1)*4, none⟩)), .val (.agg #[.int .i64 p8, .int .i64 o8, .int .i64 f8, .int .i64 m8]), .val (.bool true), .val (.bool true), .val (.bool true), .idle, .idle, .idle, .idle, .idle, .idle, .idle, .idle, .idle, .idle, .idle, .idle, .idle, .idle, .idle, .val (.bool true)] (by kernel_rfl) (by kernel_rfl) (by kernel_rfl) ?_
                    intro X
                    iterate 13
                      refine plan_val (by kernel_rfl) (fun u hu => ?_) ?_
                      · obtain ⟨hc, hf, hz⟩ := hu.of_drew.facts
                        go_simp
                        all_goals first
                          | ((with_reducible exact eK1))
                          | ((go_at_call 27; with_reducible exact cL _))
                      simp only [Act.put, List.setIfInBounds_toArray, List.set_cons_zero, List.set_cons_succ, Nat.reduceAdd]
                    iterate 15
                      refine plan_idle (by kernel_rfl) ?_
                      simp only [Act.put, List.setIfInBounds_toArray, List.set_cons_zero, List.set_cons_succ, Nat.reduceAdd]
                    iterate 1
                      refine plan_val (by kernel_rfl) (fun u hu => ?_) ?_
                      · obtain ⟨hc, hf, hz⟩ := hu.of_drew.facts
                        go_simp
                        all_goals first
                          | ((with_reducible exact eK1))
                          | ((go_at_call 27; with_reducible exact cL _))
                      simp only [Act.put, List.setIfInBounds_toArray, List.set_cons_zero, List.set_cons_succ, Nat.reduceAdd]
                    refine plan_end ?_
                    intro w' hB
                    have hk := hB.calm.of_drew
                    clear hB
                    have hz5 := ((hal.call hk).block (row4 hz3x).2.2.2.2).trans hz3x
                    have h4 := set4 hz5 (.slice none 0 0) (.slice none 0 0) (.int .i64 0) (.slice none 0 0)
                    have hcf := (hvx.out.call (hal.call hk)).four (g := w.heap.size + 1) (by omega) 0 (.slice none 0 0) (.slice none 0 0) (.int .i64 0) (.slice none 0 0)
                    have hEnd := hzero.out _ hcf
                    clear z0 z1 z2 z3 hzs f0 f1 f2 f3 f4 f5
                    obtain ⟨z0, z1, z2, z3, hzs⟩ := row4 hz5
                    obtain ⟨f0, f1, f2, f3, f4, f5⟩ := free6 hz5
                    clear hcf
                    go_wp2_with fail
                    exact HRET.out _ _ (end_bn rfl rfl _ _ (w.heap.size + 1) _ _ _ (0, 0) rfl rfl rfl h4 rfl hEnd)
                  have HLO : Hid (loOk S k ⟨p, oo, f, mm⟩) := loOk_mk HS8.out HA8.out
                  by_cases hkS : k < S.length
                  · have hkSi : (k : Int) < (S.length : Int) := by omega
                    obtain ⟨p', o', f', m', HSs, hmsp, v0, v1, v2, v3⟩ := hSl.out.get2 hkS
                    obtain ⟨a9, ha9⟩ : ∃ a9, aheadS p oo f mm p' o' f' m' = a9 := ⟨_, rfl⟩
                    have cS : ∀ u, Calls Try.prog 27 #[.agg #[.int .i64 p, .int .i64 oo, .int .i64 f, .int .i64 mm], .agg #[.int .i64 p', .int .i64 o', .int .i64 f', .int .i64 m']] u fun e w' => e = .returned (.bool a9) ∧ Calm u w' := fun u => by rw [← ha9]; exact aheadSpot_any _ _ _ _ _ _ _ _ _
                    have HA9 := Lib.hid ha9
                    clear ha9
                    cases a9
                    · have hzero := Lib.hid (hbadS.out (betw_hi HSs.out HA9.out))
                      refine wp_region_plan [.val (.int .i64 (k)), .val (.bool true), .val (.bool true), .val (.agg #[.int .i64 p, .int .i64 oo, .int .i64 f, .int .i64 mm]), .val (.pointer (some ⟨w1.heap.size, 3, none⟩)), .val (.slice (some ⟨bs, qs, none⟩) S.length c3), .val (.int .i64 (k)), .val (.int .i64 (((k - 1 : Nat) : Int))), .val (.pointer (some ⟨bs, qs+(k-1)*4, none⟩)), .val (.agg #[.int .i64 p8, .int .i64 o8, .int .i64 f8, .int .i64 m8]), .val (.bool false), .val (.bool false), .val (.bool false), .val (.int .i64 (k)), .val (.pointer (some ⟨w1.heap.size, 3, none⟩)), .val (.slice (some ⟨bs, qs, none⟩) S.length c3), .val (.int .i64 (S.length)), .val (.bool true), .val (.bool true), .val (.agg #[.int .i64 p, .int .i64 oo, .int .i64 f, .int .i64 mm]), .val (.pointer (some ⟨w1.heap.size, 3, none⟩)), .val (.slice (some ⟨bs, qs, none⟩) S.length c3), .val (.int .i64 (k)), .val (.pointer (some ⟨bs, qs+k*4, none⟩)), .val (.agg #[.int .i64 p', .int .i64 o', .int .i64 f', .int .i64 m']), .val (.bool false), .val (.bool true), .val (.bool true), .val (.bool true)] (by kernel_rfl) (by kernel_rfl) (by kernel_rfl) ?_
                      intro X
                      iterate 29
                        refine plan_val (by kernel_rfl) (fun u hu => ?_) ?_
                        · obtain ⟨hc, hf, hz⟩ := hu.of_drew.facts
                          go_simp
                          all_goals first
                            | ((with_reducible exact eK1))
                            | ((go_at_call 27; first | (with_reducible exact cL _) | (with_reducible exact cS _)))
                        simp only [Act.put, List.setIfInBounds_toArray, List.set_cons_zero, List.set_cons_succ, Nat.reduceAdd]
                      refine plan_end ?_
                      intro w' hB
                      have hk := hB.calm.of_drew
                      clear hB
                      have hz5 := ((hal.call hk).block (row4 hz3x).2.2.2.2).trans hz3x
                      have h4 := set4 hz5 (.slice none 0 0) (.slice none 0 0) (.int .i64 0) (.slice none 0 0)
                      have hcf := (hvx.out.call (hal.call hk)).four (g := w.heap.size + 1) (by omega) 0 (.slice none 0 0) (.slice none 0 0) (.int .i64 0) (.slice none 0 0)
                      have hEnd := hzero.out _ hcf
                      clear z0 z1 z2 z3 hzs f0 f1 f2 f3 f4 f5
                      obtain ⟨z0, z1, z2, z3, hzs⟩ := row4 hz5
                      obtain ⟨f0, f1, f2, f3, f4, f5⟩ := free6 hz5
                      clear hcf
                      go_wp2_with fail
                      exact HRET.out _ _ (end_bn rfl rfl _ _ (w.heap.size + 1) _ _ _ (0, 0) rfl rfl rfl h4 rfl hEnd)
                    · have HBT := betw_mk HLO.out HSs.out HA9.out
                      have HBT := Lib.hid HBT
                      refine wp_region_plan [.val (.int .i64 (k)), .val (.bool true), .val (.bool true), .val (.agg #[.int .i64 p, .int .i64 oo, .int .i64 f, .int .i64 mm]), .val (.pointer (some ⟨w1.heap.size, 3, none⟩)), .val (.slice (some ⟨bs, qs, none⟩) S.length c3), .val (.int .i64 (k)), .val (.int .i64 (((k - 1 : Nat) : Int))), .val (.pointer (some ⟨bs, qs+(k-1)*4, none⟩)), .val (.agg #[.int .i64 p8, .int .i64 o8, .int .i64 f8, .int .i64 m8]), .val (.bool false), .val (.bool false), .val (.bool false), .val (.int .i64 (k)), .val (.pointer (some ⟨w1.heap.size, 3, none⟩)), .val (.slice (some ⟨bs, qs, none⟩) S.length c3), .val (.int .i64 (S.length)), .val (.bool true), .val (.bool true), .val (.agg #[.int .i64 p, .int .i64 oo, .int .i64 f, .int .i64 mm]), .val (.pointer (some ⟨w1.heap.size, 3, none⟩)), .val (.slice (some ⟨bs, qs, none⟩) S.length c3), .val (.int .i64 (k)), .val (.pointer (some ⟨bs, qs+k*4, none⟩)), .val (.agg #[.int .i64 p', .int .i64 o', .int .i64 f', .int .i64 m']), .val (.bool true), .val (.bool false), .val (.bool false), .val (.bool false)] (by kernel_rfl) (by kernel_rfl) (by kernel_rfl) ?_
                      intro X
                      iterate 29
                        refine plan_val (by kernel_rfl) (fun u hu => ?_) ?_
                        · obtain ⟨hc, hf, hz⟩ := hu.of_drew.facts
                          go_simp
                          all_goals first
                            | ((with_reducible exact eK1))
                            | ((go_at_call 27; first | (with_reducible exact cL _) | (with_reducible exact cS _)))
                        simp only [Act.put, List.setIfInBounds_toArray, List.set_cons_zero, List.set_cons_succ, Nat.reduceAdd]
                      refine plan_end ?_
                      intro w' hB
                      have hk := hB.calm.of_drew
                      clear hB
                      have hC := Lib.hid (hq3.out.call (hal.call hk))
                      have hB := Lib.hid (hgood.out HBT.out)
                      clear hk
                      go_wp2_with fail
                      go_roundw
                      case rel => exact ⟨j3 + 1, by omega, by go_num, hB, hC⟩
                      case measure => simp [intOf]; omega
                  · have hkSi : ¬ (k : Int) < (S.length : Int) := by omega
                    have HBT := Lib.hid (betw_end HLO.out hkS)
                    refine wp_region_plan [.val (.int .i64 (k)), .val (.bool true), .val (.bool true), .val (.agg #[.int .i64 p, .int .i64 oo, .int .i64 f, .int .i64 mm]), .val (.pointer (some ⟨w1.heap.size, 3, none⟩)), .val (.slice (some ⟨bs, qs, none⟩) S.length c3), .val (.int .i64 (k)), .val (.int .i64 (((k - 1 : Nat) : Int))), .val (.pointer (some ⟨bs, qs+(k-1)*4, none⟩)), .val (.agg #[.int .i64 p8, .int .i64 o8, .int .i64 f8, .int .i64 m8]), .val (.bool false), .val (.bool false), .val (.bool false), .val (.int .i64 (k)), .val (.pointer (some ⟨w1.heap.size, 3, none⟩)), .val (.slice (some ⟨bs, qs, none⟩) S.length c3), .val (.int .i64 (S.length)), .val (.bool false), .val (.bool false), .idle, .idle, .idle, .idle, .idle, .idle, .idle, .idle, .val (.bool false), .val (.bool false)] (by kernel_rfl) (by kernel_rfl) (by kernel_rfl) ?_
                    intro X
                    iterate 19
                      refine plan_val (by kernel_rfl) (fun u hu => ?_) ?_
                      · obtain ⟨hc, hf, hz⟩ := hu.of_drew.facts
                        go_simp
                        all_goals first
                          | ((with_reducible exact eK1))
                          | ((go_at_call 27; with_reducible exact cL _))
                      simp only [Act.put, List.setIfInBounds_toArray, List.set_cons_zero, List.set_cons_succ, Nat.reduceAdd]
                    iterate 8
                      refine plan_idle (by kernel_rfl) ?_
                      simp only [Act.put, List.setIfInBounds_toArray, List.set_cons_zero, List.set_cons_succ, Nat.reduceAdd]
                    iterate 2
                      refine plan_val (by kernel_rfl) (fun u hu => ?_) ?_
                      · obtain ⟨hc, hf, hz⟩ := hu.of_drew.facts
                        go_simp
                        all_goals first
                          | ((with_reducible exact eK1))
                          | ((go_at_call 27; with_reducible exact cL _))
                      simp only [Act.put, List.setIfInBounds_toArray, List.set_cons_zero, List.set_cons_succ, Nat.reduceAdd]
                    refine plan_end ?_
                    intro w' hB
                    have hk := hB.calm.of_drew
                    clear hB
                    have hC := Lib.hid (hq3.out.call (hal.call hk))
                    have hB := Lib.hid (hgood.out HBT.out)
                    clear hk
                    go_wp2_with fail
                    go_roundw
                    case rel => exact ⟨j3 + 1, by omega, by go_num, hB, hC⟩
                    case measure => simp [intOf]; omega
                · have hkp : ¬ (k : Int) > 0 := by omega
                  have HLO : Hid (loOk S k ⟨p, oo, f, mm⟩) := loOk_zero S _ (by omega)
                  by_cases hkS : k < S.length
                  · have hkSi : (k : Int) < (S.length : Int) := by omega
                    obtain ⟨bs, qs, p0, o0', f0', m0', hAs, hbs, -, -, -, -, -, -⟩ := hSA.out.get hkS
                    subst hAs
                    have hSl : Hid (LiesS w9 (some ⟨bs, qs, none⟩) S) := hSA
                    obtain ⟨p', o', f', m', HSs, hmsp, v0, v1, v2, v3⟩ := hSl.out.get2 hkS
                    obtain ⟨a9, ha9⟩ : ∃ a9, aheadS p oo f mm p' o' f' m' = a9 := ⟨_, rfl⟩
                    have cS : ∀ u, Calls Try.prog 27 #[.agg #[.int .i64 p, .int .i64 oo, .int .i64 f, .int .i64 mm], .agg #[.int .i64 p', .int .i64 o', .int .i64 f', .int .i64 m']] u fun e w' => e = .returned (.bool a9) ∧ Calm u w' := fun u => by rw [← ha9]; exact aheadSpot_any _ _ _ _ _ _ _ _ _
                    have HA9 := Lib.hid ha9
                    clear ha9
                    cases a9
                    · have hzero := Lib.hid (hbadS.out (betw_hi HSs.out HA9.out))
                      refine wp_region_plan [.val (.int .i64 (k)), .val (.bool false), .val (.bool false), .idle, .idle, .idle, .idle, .idle, .idle, .idle, .idle, .val (.bool false), .val (.bool false), .val (.int .i64 (k)), .val (.pointer (some ⟨w1.heap.size, 3, none⟩)), .val (.slice (some ⟨bs, qs, none⟩) S.length c3), .val (.int .i64 (S.length)), .val (.bool true), .val (.bool true), .val (.agg #[.int .i64 p, .int .i64 oo, .int .i64 f, .int .i64 mm]), .val (.pointer (some ⟨w1.heap.size, 3, none⟩)), .val (.slice (some ⟨bs, qs, none⟩) S.length c3), .val (.int .i64 (k)), .val (.pointer (some ⟨bs, qs+k*4, none⟩)), .val (.agg #[.int .i64 p', .int .i64 o', .int .i64 f', .int .i64 m']), .val (.bool false), .val (.bool true), .val (.bool true), .val (.bool true)] (by kernel_rfl) (by kernel_rfl) (by kernel_rfl) ?_
                      intro X
                      iterate 3
                        refine plan_val (by kernel_rfl) (fun u hu => ?_) ?_
                        · obtain ⟨hc, hf, hz⟩ := hu.of_drew.facts
                          go_simp
                          all_goals first
                            | ((go_at_call 27; with_reducible exact cS _))
                        simp only [Act.put, List.setIfInBounds_toArray, List.set_cons_zero, List.set_cons_succ, Nat.reduceAdd]
                      iterate 8
                        refine plan_idle (by kernel_rfl) ?_
                        simp only [Act.put, List.setIfInBounds_toArray, List.set_cons_zero, List.set_cons_succ, Nat.reduceAdd]
                      iterate 18
                        refine plan_val (by kernel_rfl) (fun u hu => ?_) ?_
                        · obtain ⟨hc, hf, hz⟩ := hu.of_drew.facts
                          go_simp
                          all_goals first
                            | ((go_at_call 27; with_reducible exact cS _))
                        simp only [Act.put, List.setIfInBounds_toArray, List.set_cons_zero, List.set_cons_succ, Nat.reduceAdd]
                      refine plan_end ?_
                      intro w' hB
                      have hk := hB.calm.of_drew
                      clear hB
                      have hz5 := ((hal.call hk).block (row4 hz3x).2.2.2.2).trans hz3x
                      have h4 := set4 hz5 (.slice none 0 0) (.slice none 0 0) (.int .i64 0) (.slice none 0 0)
                      have hcf := (hvx.out.call (hal.call hk)).four (g := w.heap.size + 1) (by omega) 0 (.slice none 0 0) (.slice none 0 0) (.int .i64 0) (.slice none 0 0)
                      have hEnd := hzero.out _ hcf
                      clear z0 z1 z2 z3 hzs f0 f1 f2 f3 f4 f5
                      obtain ⟨z0, z1, z2, z3, hzs⟩ := row4 hz5
                      obtain ⟨f0, f1, f2, f3, f4, f5⟩ := free6 hz5
                      clear hcf
                      go_wp2_with fail
                      exact HRET.out _ _ (end_bn rfl rfl _ _ (w.heap.size + 1) _ _ _ (0, 0) rfl rfl rfl h4 rfl hEnd)
                    · have HBT := betw_mk HLO.out HSs.out HA9.out
                      have HBT := Lib.hid HBT
                      refine wp_region_plan [.val (.int .i64 (k)), .val (.bool false), .val (.bool false), .idle, .idle, .idle, .idle, .idle, .idle, .idle, .idle, .val (.bool false), .val (.bool false), .val (.int .i64 (k)), .val (.pointer (some ⟨w1.heap.size, 3, none⟩)), .val (.slice (some ⟨bs, qs, none⟩) S.length c3), .val (.int .i64 (S.length)), .val (.bool true), .val (.bool true), .val (.agg #[.int .i64 p, .int .i64 oo, .int .i64 f, .int .i64 mm]), .val (.pointer (some ⟨w1.heap.size, 3, none⟩)), .val (.slice (some ⟨bs, qs, none⟩) S.length c3), .val (.int .i64 (k)), .val (.pointer (some ⟨bs, qs+k*4, none⟩)), .val (.agg #[.int .i64 p', .int .i64 o', .int .i64 f', .int .i64 m']), .val (.bool true), .val (.bool false), .val (.bool false), .val (.bool false)] (by kernel_rfl) (by kernel_rfl) (by kernel_rfl) ?_
                      intro X
                      iterate 3
                        refine plan_val (by kernel_rfl) (fun u hu => ?_) ?_
                        · obtain ⟨hc, hf, hz⟩ := hu.of_drew.facts
                          go_simp
                          all_goals first
                            | ((go_at_call 27; with_reducible exact cS _))
                        simp only [Act.put, List.setIfInBounds_toArray, List.set_cons_zero, List.set_cons_succ, Nat.reduceAdd]
                      iterate 8
                        refine plan_idle (by kernel_rfl) ?_
                        simp only [Act.put, List.setIfInBounds_toArray, List.set_cons_zero, List.set_cons_succ, Nat.reduceAdd]
                      iterate 18
                        refine plan_val (by kernel_rfl) (fun u hu => ?_) ?_
                        · obtain ⟨hc, hf, hz⟩ := hu.of_drew.facts
                          go_simp
                          all_goals first
                            | ((go_at_call 27; with_reducible exact cS _))
                        simp only [Act.put, List.setIfInBounds_toArray, List.set_cons_zero, List.set_cons_succ, Nat.reduceAdd]
                      refine plan_end ?_
                      intro w' hB
                      have hk := hB.calm.of_drew
                      clear hB
                      have hC := Lib.hid (hq3.out.call (hal.call hk))
                      have hB := Lib.hid (hgood.out HBT.out)
                      clear hk
                      go_wp2_with fail
                      go_roundw
                      case rel => exact ⟨j3 + 1, by omega, by go_num, hB, hC⟩
                      case measure => simp [intOf]; omega
                  · have hkSi : ¬ (k : Int) < (S.length : Int) := by omega
                    have HBT := Lib.hid (betw_end HLO.out hkS)
                    refine wp_region_plan [.val (.int .i64 (k)), .val (.bool false), .val (.bool false), .idle, .idle, .idle, .idle, .idle, .idle, .idle, .idle, .val (.bool false), .val (.bool false), .val (.int .i64 (k)), .val (.pointer (some ⟨w1.heap.size, 3, none⟩)), .val (.slice A3 S.length c3), .val (.int .i64 (S.length)), .val (.bool false), .val (.bool false), .idle, .idle, .idle, .idle, .idle, .idle, .idle, .idle, .val (.bool false), .val (.bool false)] (by kernel_rfl) (by kernel_rfl) (by kernel_rfl) ?_
                    intro X
                    iterate 3
                      refine plan_val (by kernel_rfl) (fun u hu => ?_) ?_
                      · obtain ⟨hc, hf, hz⟩ := hu.of_drew.facts
                        go_simp
                      simp only [Act.put, List.setIfInBounds_toArray, List.set_cons_zero, List.set_cons_succ, Nat.reduceAdd]
                    iterate 8
                      refine plan_idle (by kernel_rfl) ?_
                      simp only [Act.put, List.setIfInBounds_toArray, List.set_cons_zero, List.set_cons_succ, Nat.reduceAdd]
                    iterate 8
                      refine plan_val (by kernel_rfl) (fun u hu => ?_) ?_
                      · obtain ⟨hc, hf, hz⟩ := hu.of_drew.facts
                        go_simp
                      simp only [Act.put, List.setIfInBounds_toArray, List.set_cons_zero, List.set_cons_succ, Nat.reduceAdd]
                    iterate 8
                      refine plan_idle (by kernel_rfl) ?_
                      simp only [Act.put, List.setIfInBounds_toArray, List.set_cons_zero, List.set_cons_succ, Nat.reduceAdd]
                    iterate 2
                      refine plan_val (by kernel_rfl) (fun u hu => ?_) ?_
                      · obtain ⟨hc, hf, hz⟩ := hu.of_drew.facts
                        go_simp
                      simp only [Act.put, List.setIfInBounds_toArray, List.set_cons_zero, List.set_cons_succ, Nat.reduceAdd]
                    refine plan_end ?_
                    intro w' hB
                    have hk := hB.calm.of_drew
                    clear hB
                    have hC := Lib.hid (hq3.out.call (hal.call hk))
                    have hB := Lib.hid (hgood.out HBT.out)
                    clear hk
                    go_wp2_with fail
                    go_roundw
                    case rel => exact ⟨j3 + 1, by omega, by go_num, hB, hC⟩
                    case measure => simp [intOf]; omega
              have hall : LL.take j3 = LL := List.take_of_length_le (by omega)
              rw [hall] at hbt3
              clear hall
              obtain ⟨g0, g1, g2, g3, g4, g5⟩ := free6 HOx.out.box
              have hbx2 := hbx9
              have HBx := Lib.hid (HB7.out.calm (hq.out.call hq3.out))
              go_upto_region 28 with fail
              have HOd := Lib.hid (HOx.out.setD (bb.D + 1))
              have hvd : Hid (Calm w3 (wr.setCell ⟨g, 2, none⟩ (.int .i64 (bb.D + 1)))) := (hv.out.call hcx.out).setCell (p := ⟨g, 2, none⟩) HOx.out.ge _
              have HBd := Lib.hid (HBx.out.past hgM.out.1 2 (.int .i64 (bb.D + 1)))
              have hbd := (heap_setCell_other wr ⟨g, 2, none⟩ w5.heap.size (.int .i64 (bb.D + 1)) (fun e => by have a := hgM.out.1; have b := hgx.out; simp at e; omega)).trans hbx9
              have hgl : Hid (w5.heap.size < (wr.setCell ⟨g, 2, none⟩ (.int .i64 (bb.D + 1))).heap.size) := (Array.getElem?_eq_some_iff.1 hbd).1
              have hMl : Hid (M1 ≤ (wr.setCell ⟨g, 2, none⟩ (.int .i64 (bb.D + 1))).heap.size) := by have a := hgx.out; have b := hgl.out; exact (show _ ≤ _ by omega)
              clear m0 m1 m2 m3 m4 hms z0 z1 z2 z3 hzs f0 f1 f2 f3 f4 f5 o0 o1 o2 o3 hos t0 t1 t2 t3 hts g0 g1 g2 g3 g4 g5 hbx2 hbx9 hn3 hz3x HOx HBx
              generalize wr.setCell ⟨g, 2, none⟩ (.int .i64 (bb.D + 1)) = wd at HOd hvd HBd hbd hgl hMl ⊢
              have hlE : o.E.length + bb.E.length ≤ 1000000 := by have a := HOL.out.1; have b := HOL.out.2.2.1; have c := HBL.out.e; omega
              have hlS : o.S.length + bb.S.length ≤ 1000000 := by have a := HOL.out.2.1; have b := HOL.out.2.2.1; have c := HBL.out.s; omega
              have hlN : o.N.length + bb.N.length ≤ 1000000 := by have b := HOL.out.2.2.1; have c := HBL.out.n; omega
              refine wp_region_stages [.val (.pointer (some ⟨g, 0, none⟩)), .val (.slice a2 o.E.length b2) [4], .val (.pointer (some ⟨w5.heap.size, 0, none⟩)), .val (.slice p2 bb.E.length r2), .late,
                  .val (.pointer (some ⟨g, 1, none⟩)), .val (.slice a5 o.S.length b5) [9], .val (.pointer (some ⟨w5.heap.size, 1, none⟩)), .val (.slice p5 bb.S.length r5), .late [4],
                  .val (.pointer (some ⟨g, 3, none⟩)), .val (.slice a7 o.N.length b7) [14], .val (.pointer (some ⟨w5.heap.size, 3, none⟩)), .val (.slice p7 bb.N.length r7), .late [9],
                  .val (.pointer (some ⟨g, 0, none⟩)), .late [14], .val (.pointer (some ⟨g, 1, none⟩)), .late [16], .val (.pointer (some ⟨g, 3, none⟩)), .late [18]] [4, 9, 14, 16, 18, 20]
                  (ChainS 6 (ASs wd w3.heap.size M1 g (bb.D + 1) (.slice a2 o.E.length b2) (.slice a5 o.S.length b5) (.slice a7 o.N.length b7) o.E (o.E ++ bb.E) o.S (o.S ++ bb.S) o.N (o.N ++ bb.N))) (by kernel_rfl) (by kernel_rfl) (by kernel_rfl) (ChainS.stay ASs.calm)
                  (fun Y => ChainS.start (late := [4, 9, 14, 16, 18, 20]) ((AS.begin HOd.out hgM.out.1 hMl.out hgM.out.2).calm ((Calm.refl _).drew))) (fun Y => ?_)
              refine planS_val (by kernel_rfl) (fun L u hb hS => ?_) ?_
              · clear hS hb
                go_simp
              simp only [Act.put, List.setIfInBounds_toArray, List.set_cons_zero, List.set_cons_succ, Nat.reduceAdd]
              refine planS_val (by kernel_rfl) (fun L u hb hS => ?_) ?_
              · obtain ⟨m, hm, hA⟩ := ChainS.upto (late := [4, 9, 14, 16, 18, 20]) (m := 0) hS rfl (hb 4 (by simp))
                obtain ⟨y, z, hbb9⟩ := ASs.boxE (by omega) hA
                obtain ⟨x0, x1, x2, x3, hxs⟩ := row4 hbb9
                clear hS hA hb hbb9
                go_simp
              simp only [Act.put, List.setIfInBounds_toArray, List.set_cons_zero, List.set_cons_succ, Nat.reduceAdd]
              refine planS_val (by kernel_rfl) (fun L u hb hS => ?_) ?_
              · clear hS hb
                go_simp
              simp only [Act.put, List.setIfInBounds_toArray, List.set_cons_zero, List.set_cons_succ, Nat.reduceAdd]
              refine planS_val (by kernel_rfl) (fun L u hb hS => ?_) ?_
              · obtain ⟨m, hm, hA⟩ := ChainS.any (late := [4, 9, 14, 16, 18, 20]) hS
                obtain ⟨x0, x1, x2, x3, hxs⟩ := row4 ((ASs.high hA _ hgl.out hgx.out).trans hbd)
                clear hS hA hb
                go_simp
              simp only [Act.put, List.setIfInBounds_toArray, List.set_cons_zero, List.set_cons_succ, Nat.reduceAdd]
              refine planS_late (fun L u hi hb hS => ?_) ?_
              · obtain ⟨hA, hn⟩ := ChainS.step (late := [4, 9, 14, 16, 18, 20]) (m := 0) hS rfl hi (fun j h0 h => by exact absurd h0 (Nat.lt_irrefl _)) (by decide)
                clear hS hb hi
                have hA : AS _ _ _ _ _ _ _ _ _ _ _ _ _ _ _ := hA
                have hsr := hA.src HBd.out
                refine wpList_append_eL rfl _ _ rfl w3.heap.size _ _ rfl hA.own.e _ _ bb.E rfl (OwnR.at_ hsr.e HWF.out.1) (by omega) hA.base ?_
                intro v9 w9 ho9 hg9 hat9
                exact ⟨rfl, v9, rfl, hn v9 w9 (hA.appE ho9 hg9 hat9)⟩
              simp only [Act.put, List.setIfInBounds_toArray, List.set_cons_zero, List.set_cons_succ, Nat.reduceAdd]
              refine planS_val (by kernel_rfl) (fun L u hb hS => ?_) ?_
              · clear hS hb
                go_simp
              simp only [Act.put, List.setIfInBounds_toArray, List.set_cons_zero, List.set_cons_succ, Nat.reduceAdd]
              refine planS_val (by kernel_rfl) (fun L u hb hS => ?_) ?_
              · obtain ⟨m, hm, hA⟩ := ChainS.upto (late := [4, 9, 14, 16, 18, 20]) (m := 1) hS rfl (hb 9 (by simp))
                obtain ⟨y, z, hbb9⟩ := ASs.boxS (by omega) hA
                obtain ⟨x0, x1, x2, x3, hxs⟩ := row4 hbb9
                clear hS hA hb hbb9
                go_simp
              simp only [Act.put, List.setIfInBounds_toArray, List.set_cons_zero, List.set_cons_succ, Nat.reduceAdd]
              refine planS_val (by kernel_rfl) (fun L u hb hS => ?_) ?_
              · clear hS hb
                go_simp
              simp only [Act.put, List.setIfInBounds_toArray, List.set_cons_zero, List.set_cons_succ, Nat.reduceAdd]
              refine planS_val (by kernel_rfl) (fun L u hb hS => ?_) ?_
              · obtain ⟨m, hm, hA⟩ := ChainS.any (late := [4, 9, 14, 16, 18, 20]) hS
                obtain ⟨x0, x1, x2, x3, hxs⟩ := row4 ((ASs.high hA _ hgl.out hgx.out).trans hbd)
                clear hS hA hb
                go_simp
              simp only [Act.put, List.setIfInBounds_toArray, List.set_cons_zero, List.set_cons_succ, Nat.reduceAdd]
              refine planS_late (fun L u hi hb hS => ?_) ?_
              · obtain ⟨hA, hn⟩ := ChainS.step (late := [4, 9, 14, 16, 18, 20]) (m := 1) hS rfl hi (fun j _ h => by cases h; exact hb 4 (by simp)) (by decide)
                clear hS hb hi
                have hA : AS _ _ _ _ _ _ _ _ _ _ _ _ _ _ _ := hA
                have hsr := hA.src HBd.out
                refine wpList_append_sL rfl _ _ rfl w3.heap.size _ _ rfl hA.own.s _ _ bb.S rfl (OwnS.at_ hsr.s HWF.out.2) (by omega) hA.base ?_
                intro v9 w9 ho9 hg9 hat9
                exact ⟨rfl, v9, rfl, hn v9 w9 (hA.appS ho9 hg9 hat9)⟩
              simp only [Act.put, List.setIfInBounds_toArray, List.set_cons_zero, List.set_cons_succ, Nat.reduceAdd]
              refine planS_val (by kernel_rfl) (fun L u hb hS => ?_) ?_
              · clear hS hb
                go_simp
              simp only [Act.put, List.setIfInBounds_toArray, List.set_cons_zero, List.set_cons_succ, Nat.reduceAdd]
              refine planS_val (by kernel_rfl) (fun L u hb hS => ?_) ?_
              · obtain ⟨m, hm, hA⟩ := ChainS.upto (late := [4, 9, 14, 16, 18, 20]) (m := 2) hS rfl (hb 14 (by simp))
                obtain ⟨y, z, hbb9⟩ := ASs.boxN (by omega) hA
                obtain ⟨x0, x1, x2, x3, hxs⟩ := row4 hbb9
                clear hS hA hb hbb9
                go_simp
              simp only [Act.put, List.setIfInBounds_toArray, List.set_cons_zero, List.set_cons_succ, Nat.reduceAdd]
              refine planS_val (by kernel_rfl) (fun L u hb hS => ?_) ?_
              · clear hS hb
                go_simp
              simp only [Act.put, List.setIfInBounds_toArray, List.set_cons_zero, List.set_cons_succ, Nat.reduceAdd]
              refine planS_val (by kernel_rfl) (fun L u hb hS => ?_) ?_
              · obtain ⟨m, hm, hA⟩ := ChainS.any (late := [4, 9, 14, 16, 18, 20]) hS
                obtain ⟨x0, x1, x2, x3, hxs⟩ := row4 ((ASs.high hA _ hgl.out hgx.out).trans hbd)
                clear hS hA hb
                go_simp
              simp only [Act.put, List.setIfInBounds_toArray, List.set_cons_zero, List.set_cons_succ, Nat.reduceAdd]
              refine planS_late (fun L u hi hb hS => ?_) ?_
              · obtain ⟨hA, hn⟩ := ChainS.step (late := [4, 9, 14, 16, 18, 20]) (m := 2) hS rfl hi (fun j _ h => by cases h; exact hb 9 (by simp)) (by decide)
                clear hS hb hi
                have hA : AS _ _ _ _ _ _ _ _ _ _ _ _ _ _ _ := hA
                have hsr := hA.src HBd.out
                refine wpList_append_iLat rfl _ _ rfl w3.heap.size _ _ rfl hA.own.n _ _ bb.N rfl (OwnI.at_ hsr.n) (by omega) hA.base ?_
                intro v9 w9 ho9 hg9 hat9
                exact ⟨rfl, v9, rfl, hn v9 w9 (hA.appN ho9 hg9 hat9)⟩
              simp only [Act.put, List.setIfInBounds_toArray, List.set_cons_zero, List.set_cons_succ, Nat.reduceAdd]
              refine planS_val (by kernel_rfl) (fun L u hb hS => ?_) ?_
              · clear hS hb
                go_simp
              simp only [Act.put, List.setIfInBounds_toArray, List.set_cons_zero, List.set_cons_succ, Nat.reduceAdd]
              refine planS_late (fun L u hi hb hS => ?_) ?_
              · obtain ⟨hA, hn⟩ := ChainS.step (late := [4, 9, 14, 16, 18, 20]) (m := 3) hS rfl hi (fun j _ h => by cases h; exact hb 14 (by simp)) (by decide)
                clear hS hb hi
                have hA : AS _ _ _ _ _ _ _ _ _ _ _ _ _ _ _ := hA
                obtain ⟨A9, n9, c9, hy⟩ : ∃ A n c, Y 4 = .slice A n c := by obtain ⟨A, c, h⟩ := hA.own.e.slice; exact ⟨_, _, _, h⟩
                have h9 := hA.set 0 (.slice A9 n9 c9) rfl
                obtain ⟨x0, x1, x2, x3, hxs⟩ := row4 hA.box
                obtain ⟨f0, f1, f2, f3, f4, f5⟩ := free6 hA.box
                have hn9 := hn undef _ (by rw [← hy] at h9; exact h9)
                rw [hy]
                rw [hy] at hn9
                clear hA hn h9 hy
                go_wp2_with fail
                exact ⟨undef, hn9⟩
              simp only [Act.put, Nat.reduceAdd]
              refine planS_val (by kernel_rfl) (fun L u hb hS => ?_) ?_
              · clear hS hb
                go_simp
              simp only [Act.put, List.setIfInBounds_toArray, List.set_cons_zero, List.set_cons_succ, Nat.reduceAdd]
              refine planS_late (fun L u hi hb hS => ?_) ?_
              · obtain ⟨hA, hn⟩ := ChainS.step (late := [4, 9, 14, 16, 18, 20]) (m := 4) hS rfl hi (fun j _ h => by cases h; exact hb 16 (by simp)) (by decide)
                clear hS hb hi
                have hA : AS _ _ _ _ _ _ _ _ _ _ _ _ _ _ _ := hA
                obtain ⟨A9, n9, c9, hy⟩ : ∃ A n c, Y 9 = .slice A n c := by obtain ⟨A, c, h⟩ := hA.own.s.slice; exact ⟨_, _, _, h⟩
                have h9 := hA.set 1 (.slice A9 n9 c9) rfl
                obtain ⟨x0, x1, x2, x3, hxs⟩ := row4 hA.box
                obtain ⟨f0, f1, f2, f3, f4, f5⟩ := free6 hA.box
                have hn9 := hn undef _ (by rw [← hy] at h9; exact h9)
                rw [hy]
                rw [hy] at hn9
                clear hA hn h9 hy
                go_wp2_with fail
                exact ⟨undef, hn9⟩
              simp only [Act.put, Nat.reduceAdd]
              refine planS_val (by kernel_rfl) (fun L u hb hS => ?_) ?_
              · clear hS hb
                go_simp
              simp only [Act.put, List.setIfInBounds_toArray, List.set_cons_zero, List.set_cons_succ, Nat.reduceAdd]
              refine planS_late (fun L u hi hb hS => ?_) ?_
              · obtain ⟨hA, hn⟩ := ChainS.step (late := [4, 9, 14, 16, 18, 20]) (m := 5) hS rfl hi (fun j _ h => by cases h; exact hb 18 (by simp)) (by decide)
                clear hS hb hi
                have hA : AS _ _ _ _ _ _ _ _ _ _ _ _ _ _ _ := hA
                obtain ⟨A9, n9, c9, hy⟩ : ∃ A n c, Y 14 = .slice A n c := by obtain ⟨A, c, h⟩ := hA.own.n.slice; exact ⟨_, _, _, h⟩
                have h9 := hA.set 3 (.slice A9 n9 c9) rfl
                obtain ⟨x0, x1, x2, x3, hxs⟩ := row4 hA.box
                obtain ⟨f0, f1, f2, f3, f4, f5⟩ := free6 hA.box
                have hn9 := hn undef _ (by rw [← hy] at h9; exact h9)
                rw [hy]
                rw [hy] at hn9
                clear hA hn h9 hy
                go_wp2_with fail
                exact ⟨undef, hn9⟩
              simp only [Act.put, Nat.reduceAdd]

              refine planS_end ?_
              intro wz hS
              have hD7 : Hid (AS wd w3.heap.size M1 g (bb.D + 1) (Y 4) (Y 9) (Y 14) (Y 4) (Y 9) (Y 14) (o.E ++ bb.E) (o.S ++ bb.S) (o.N ++ bb.N) wz) := ChainS.done (late := [4, 9, 14, 16, 18, 20]) hS
              clear hS
              generalize Y 4 = v4 at hD7 ⊢
              generalize Y 9 = v9 at hD7 ⊢
              generalize Y 14 = v14 at hD7 ⊢
              obtain ⟨NN, hNN⟩ : ∃ NN, o.N ++ bb.N = NN := ⟨_, rfl⟩
              have HNN := Lib.hid hNN
              have HOz : Hid (OutOk w3.heap.size wz g v4 v9 v14 (bb.D + 1) (o.E ++ bb.E) (o.S ++ bb.S) (o.N ++ bb.N)) := hD7.out.ends
              have HCz : Hid (Calm w3 wz) := hD7.out.low_calm hvd.out (Nat.le_refl _)
              have HOy := HOz
              rw [hNN] at HOy
              clear hNN
              obtain ⟨A14, c14, e14⟩ := HOy.out.own.n.slice
              subst e14
              obtain ⟨o0, o1, o2, o3, hos⟩ := row4 HOy.out.box
              clear hD7 HOy
              by_cases h400 : NN.length > 400
              · have hzero := Lib.hid (hbad.out (by rw [hstep.out, if_neg (fun h => by have := h.2; rw [HNN.out] at this; omega)]))
                have h4i : (NN.length : Int) > 400 := by omega
                have hzz := (HCz.out.block (row4 hz3).2.2.2.2).trans hz3
                have h4 := set4 hzz (.slice none 0 0) (.slice none 0 0) (.int .i64 0) (.slice none 0 0)
                have hcf := (HU3.out.call HCz.out).four (g := w.heap.size + 1) (by omega) 0 (.slice none 0 0) (.slice none 0 0) (.int .i64 0) (.slice none 0 0)
                have hEnd := hzero.out _ hcf
                obtain ⟨z0, z1, z2, z3, hzs⟩ := row4 hzz
                obtain ⟨f0, f1, f2, f3, f4, f5⟩ := free6 hzz
                clear hcf
                go_wp2_with fail
                exact HRET.out _ _ (end_bn rfl rfl _ _ (w.heap.size + 1) _ _ _ (0, 0) rfl rfl rfl h4 rfl hEnd)
              have h4i : ¬ (NN.length : Int) > 400 := by omega
              have hL' : Hid (lookUpto l ⟨kd, A1, some ⟨bk, qk, none⟩, A3, some ⟨bt, qt, none⟩, c1, c2, c3, c4, E, K, S, T⟩ (X : Int) (lookR l m) (k + 1) = some ⟨o.E ++ bb.E, o.S ++ bb.S, bb.D + 1, o.N ++ bb.N⟩) := show _ = _ from hstep.out.trans (if_pos ⟨⟨by rw [hso.out]; omega, hde, by rw [HLA.out]; exact HTT.out, by rw [HLL.out]; exact hbt3.out⟩, by rw [HNN.out]; omega⟩)
              clear hstep hbad
              have hk8 := HSZ.out.2.1
              go_wp2_with fail
              go_roundw
              case rel => exact ⟨k + 1, ⟨o.E ++ bb.E, o.S ++ bb.S, bb.D + 1, o.N ++ bb.N⟩, v4, v9, _, by omega, by go_num, hL', HOz, HCz⟩
              case measure => simp [intOf]; omega
          obtain ⟨be, qe, p, oo, f, mm, gg, ss, hAe, hbe, HE, hme, y0, y1, y2, y3, y4, y5⟩ := (HLE.out.calm hq.out).get hjl
          subst hAe
          have HLA : Hid (lateOf (bb.E.take (j + 1)) = max (lateOf (bb.E.take j)) (lastOf mm gg)) := show _ = _ by unfold lateOf; rw [lasts_take HE.out, gMax_snoc]; rfl
          have HSP : Hid (bb.S ++ (bb.E.take (j + 1)).map El.sp = (bb.S ++ (bb.E.take j).map El.sp) ++ [⟨p, oo, f, mm⟩]) := show _ = _ by
            rw [List.take_succ_eq_append_getElem hjl, List.map_append, (List.getElem?_eq_some_iff.1 HE.out).2, List.append_assoc]; rfl
          have hE32 := HBL.out.e
          have hlen : (bb.S ++ (bb.E.take j).map El.sp).length ≤ 1000000 := by
            have a := HBL.out.s; have b := HBL.out.e
            rw [List.length_append, List.length_map, List.length_take]; omega
          have hz := (Calm.refl wr).alloc (.cells #[.int .i64 p, .int .i64 oo, .int .i64 f, .int .i64 mm, .int .i64 gg, .string ss] 33)
          have hxe := heap_new wr (.cells #[.int .i64 p, .int .i64 oo, .int .i64 f, .int .i64 mm, .int .i64 gg, .string ss] 33)
          generalize lateOf (bb.E.take j) = la at HLA ⊢
          go_wp2_with (first
            | (go_at_call 52; (with_reducible refine (refLast_any _ _ _ _ _ _ _).mono ?_); rintro e w1 ⟨rfl, hb1⟩; replace hz := hz.call hb1; replace hxe := (hb1.block (row6 hxe).2.2.2.2.2.2).trans hxe; clear hb1; obtain ⟨r0, r1, r2, r3, r4, r5, hrs⟩ := row6 hxe)
            | (go_at_call 28; (with_reducible refine (refSpot_any _ _ _ _ _ _ _).mono ?_); rintro e w2 ⟨rfl, hb2⟩; replace hz := hz.call hb2; clear hb2)
            | (at_builtin; refine wpList_append_sAt rfl _ _ rfl wc.heap.size _ _ rfl (rows_calm ho.out (hz.alloc _)) _ _ ⟨p, oo, f, mm⟩ _ rfl (heap_new _ _) hlen ((hq.out.call hz).alloc _).size ?_; intro v9 w9 ho9 hg9 hat9; have hC9 := Below.grown ((hq.out.call hz).alloc _) hg9 ((hq.out.call hz).alloc _).size (fun k hk => (rows_lt ho.out k hk).1); rw [← HSP.out] at ho9))
          have HO9 := Lib.hid ho9
          have HC9 := Lib.hid hC9
          clear ho9 hC9 hg9 hat9
          go_roundw
          case rel => exact ⟨j + 1, by omega, by go_num, by rw [HLA.out, Int.max_def]; congr 1; split <;> split <;> omega, HO9, HC9⟩
          case measure => simp [intOf]; omega
end Go.Proofs.Ytgebilpdinbfgaa
