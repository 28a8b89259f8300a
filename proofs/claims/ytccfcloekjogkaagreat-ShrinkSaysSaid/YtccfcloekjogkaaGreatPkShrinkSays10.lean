/- Texts of one kind in one file. -/
import Derived.Test.YtccfcloekjogkaaGreatPkShrinkSays9
set_option maxRecDepth 100000
namespace Go.Proofs.YtccfcloekjogkaaGreat
open Go.RowKit
theorem delQ_mid {P Q : List El} {x : El} {s : Sp} (hp : (P ++ x :: Q).Pairwise Rise) (hx : x.sp = s) : delQ (P ++ x :: Q) (isSp s) = P ++ Q := by
 have h1 := List.pairwise_append.1 hp
 have h2 := List.pairwise_cons.1 h1.2.1
 have ha : ∀ a ∈ P, isSp s a = false := fun a ha => by
  rw [← Bool.not_eq_true, isSp_iff]
  intro h
  have h3 : sL a.sp x.sp := h1.2.2 a ha x List.mem_cons_self
  rw [h, hx] at h3
  exact sL_irrefl h3
 have hb : ∀ a ∈ Q, isSp s a = false := fun a ha => by
  rw [← Bool.not_eq_true, isSp_iff]
  intro h
  have h3 : sL x.sp a.sp := h2.1 a ha
  rw [h, hx] at h3
  exact sL_irrefl h3
 have hxs : isSp s x = true := isSp_iff.2 hx
 unfold delQ
 rw [List.filter_append, List.filter_cons, if_neg (by rw [hxs]; simp)]
 rw [List.filter_eq_self.2 fun a h => by rw [ha a h]; rfl, List.filter_eq_self.2 fun a h => by rw [hb a h]; rfl]
theorem delQ_at {A E B : List El} {i : Nat} {a : El} {s : Sp} (hp : (A ++ E ++ B).Pairwise Rise) (hi : E[i]? = some a) (ha : a.sp = s) : delQ (A ++ E ++ B) (isSp s) = A ++ delL E i ++ B := by
 have hE := split_at hi
 have e1 : A ++ E ++ B = (A ++ E.take i) ++ a :: (E.drop (i + 1) ++ B) := by
  conv => lhs; rw [hE]
  simp
 have e2 : A ++ delL E i ++ B = (A ++ E.take i) ++ (E.drop (i + 1) ++ B) := by unfold delL; simp
 rw [e1] at hp ⊢
 rw [e2]
 exact delQ_mid hp ha
/-- What is told where a record was removed. -/
theorem remvEnd_ok {l : List Nd} {root : Int} {s : Sp} {w w' : World} {e : Ending} (h : RemvEnd l root s w e w') (hE : spotErr l root s = 0) (hz : treeErr l root = 0) :
    ∃ root' A' c' us', e = .returned (.tuple #[.agg #[.int .i64 root', .slice A' us'.length c'], .int .i64 0]) ∧ TreeOk w.heap.size w' root' A' c' us' (delQ (allOf l root) (isSp s)) ∧ Calm w w' := by
  rcases h with ⟨h0, -⟩ | ⟨-, root', v, us', A0, E, B0, i, a, rfl, h1, h2, h3, h4, h5, h6, h7⟩
  · exact absurd hE h0
  · obtain ⟨A', c', rfl⟩ := h1.row.slice
    refine ⟨root', A', c', us', rfl, ⟨h1, h2, ?_⟩, h7⟩
    have hr := allOf_rise hz
    rw [h3] at hr
    rw [h6, h3, delQ_at hr h4 h5]
theorem remvEnd_bad {l : List Nd} {root : Int} {s : Sp} {w w' : World} {e : Ending} {E : Int} (h : RemvEnd l root s w e w') (hE : spotErr l root s = E) (h0 : E ≠ 0) : e = .returned (.tuple #[.agg #[.int .i64 0, .slice none 0 0], .int .i64 E]) ∧ Calm w w' := by
 rcases h with ⟨-, h2, h3⟩ | ⟨h1, -⟩
 ·rw [hE] at h2; exact ⟨h2, h3⟩
 ·rw [hE] at h1; exact absurd h1 h0
theorem delQ_same {L : List El} {s : Sp} (h : ∀ a ∈ L, a.sp ≠ s) : delQ L (isSp s) = L := delQ_none fun a ha => by rw [← Bool.not_eq_true, isSp_iff]; exact h a ha
theorem delQ_less {L : List El} {s : Sp} {a : El} (ha : a ∈ L) (hs : a.sp = s) : (delQ L (isSp s)).length < L.length := by
 unfold delQ
 refine List.length_filter_lt_length_iff_exists.2 ⟨a, ha, ?_⟩
 rw [isSp_iff.2 hs]; simp
theorem delQ_wf {L : List El} {k : El → Bool} (h : ∀ e ∈ L, e.wf) : ∀ e ∈ delQ L k, e.wf := fun e he => h e (List.mem_filter.1 he).1
set_option maxHeartbeats 16000000 in
/-- The law where something is wrong: E is the document's error. -/
theorem shrinkSays_bad (root : Int) (A : Option Addr) (c : Nat) (l : List Nd) (w : World) (h : TrAt w A l) (hcap : ∀ n ∈ l, NdCaps n) (D F : Int) (L : List El) (hR : TreeIs l root A c D F L w) (p o f m : Int) (E : Int) (hE : spotErr l root ⟨p, o, f, m⟩ = E) (h0 : E ≠ 0) (hl4 : L.length ≤ 100000) (hwf : ∀ e ∈ L, e.wf) (hF : F = 0 ∧ delQ L (isSp ⟨p, o, f, m⟩) = L ∧ E = 4 ∨ F ≠ 0 ∧ F = E) :
    Calls Tryz.prog 3 #[.agg #[.int .i64 root, .slice A l.length c], .agg #[.int .i64 p, .int .i64 o, .int .i64 f, .int .i64 m]] w fun e w' => e = .returned (.bool true) ∧ Calm w w' := by
  have hx := heap_past (.cells #[.int .i64 p, .int .i64 o, .int .i64 f, .int .i64 m] 28) (heap_new w (.cells #[.int .i64 root, .slice A l.length c] 24))
  have hy := heap_new (w.alloc (.cells #[.int .i64 root, .slice A l.length c] 24)) (.cells #[.int .i64 p, .int .i64 o, .int .i64 f, .int .i64 m] 28)
  rw [World.size_alloc] at hy
  have hu := ((Calm.refl w).alloc (.cells #[.int .i64 root, .slice A l.length c] 24)).alloc (.cells #[.int .i64 p, .int .i64 o, .int .i64 f, .int .i64 m] 28)
  unfold TreeIs at hR
  have cM := fun u (hu : Calm w u) => remove_any root A c l u (h.calm hu) hcap p o f m
  have HM := Lib.hid (fun (u u' : World) (e : Ending) (hh : RemvEnd l root ⟨p, o, f, m⟩ u e u') => remvEnd_bad hh hE h0)
  have HW := Lib.hid hwf
  have HWQ := Lib.hid (delQ_wf (k := isSp ⟨p, o, f, m⟩) hwf)
  have b9 : (E != 0) = true := by rw [bne_iff_ne]; exact h0
  have hqn : Hid ((delQ L (isSp ⟨p, o, f, m⟩)).length ≤ L.length) := List.length_filter_le _ _
  obtain ⟨x0, x1, hxs⟩ := rowT hx
  obtain ⟨y0, y1, y2, y3, hys⟩ := row4 hy
  have cQ := fun base B (v : Value) (w0 u : World) (ho : OwnR base u v L) (h0 : w0.heap.size ≤ base) (hC : Calm w0 u) (hB : SBox B p o f m w0) => deleteQ_any base B v L p o f m w0 u hl4 HW.out ho h0 hC hB
  rcases hF with ⟨rfl, hq, rfl⟩ | ⟨hF, rfl⟩
  · rw [hq] at cQ
    have q5 : ((L.length : Int) == (L.length : Int)) = true := by rw [beq_iff_eq]
    clear hE h0 hwf hq
    go_enter Tryz.func3, Tryz.ntmps3
    go_wp2_with first
      | (go_at_call 4; (with_reducible refine (cM _ hu).mono ?_); rintro e w1 hi; obtain ⟨rfl, hb1⟩ := HM.out _ _ _ hi; have hx1 := heap_past (.cells #[.int .i64 0, .slice none 0 0] 24) ((hb1.block (rowT hx).2.2).trans hx); have hy1 := heap_past (.cells #[.int .i64 0, .slice none 0 0] 24) ((hb1.block (row4 hy).2.2.2.2).trans hy); have ha1 := heap_new w1 (.cells #[.int .i64 0, .slice none 0 0] 24); have hu1 := (hu.call hb1).alloc (.cells #[.int .i64 0, .slice none 0 0] 24); clear hi hb1 x0 x1 hxs y0 y1 y2 y3 hys cM; obtain ⟨x0, x1, hxs⟩ := rowT hx1; obtain ⟨a0, a1, has⟩ := rowT ha1)
      | (go_at_call 5; (with_reducible refine (hR _ hu1).mono ?_); rintro e w3 ⟨v, rfl, ho, hb3⟩; obtain ⟨A3, c3, hv3, hq1, hq2, hl3⟩ := ho.lies HW.out; subst hv3; have HL := Lib.hid hl3; have hy3 := (hb3.block (row4 hy1).2.2.2.2).trans hy1; have ha3 := (hb3.block (rowT ha1).2.2).trans ha1; have hu3 := hu1.call hb3; clear ho hb3 hl3 x0 x1 hxs a0 a1 has; obtain ⟨a0, a1, has⟩ := rowT ha3)
      | (go_at_call 7; (with_reducible refine (clone_big _ c3 L _ (by omega) HL.out).mono ?_); rintro e w4 ⟨v4, rfl, ho4, hb4⟩; have HO4 := Lib.hid ho4; have HB4 := Lib.hid hb4; have cQ4 := cQ _ _ v4 _ _ ho4 (Nat.le_refl _) hb4 hy3; clear ho4 hb4 a0 a1 has)
      | (go_at_call 6; (with_reducible refine cQ4.mono ?_); rintro e w5 ⟨v5, rfl, ho5, hb5⟩; obtain ⟨A5, c5, hv5, -, -, -⟩ := ho5.lies HW.out; subst hv5; have ha5 := (hb5.block (rowT ha3).2.2).trans ha3; have hu5 := hu3.call hb5; clear ho5 hb5 cQ4; obtain ⟨a0, a1, has⟩ := rowT ha5)
      | (go_at_call 10; (with_reducible refine (refused_zero _ _).mono ?_); rintro e w6 ⟨rfl, hb6⟩; have hu6 := hu5.call hb6)
    go_ret
    exact ⟨rfl, hu6⟩
  · have b8 : (F == 0) = false := by rw [beq_eq_false_iff_ne]; exact hF
    obtain ⟨Q, hQ⟩ : ∃ Q, Q = delQ L (isSp ⟨p, o, f, m⟩) := ⟨_, rfl⟩
    rw [← hQ] at cQ HWQ
    clear hE h0 hwf hF hqn hQ
    go_enter Tryz.func3, Tryz.ntmps3
    go_wp2_with first
      | (go_at_call 4; (with_reducible refine (cM _ hu).mono ?_); rintro e w1 hi; obtain ⟨rfl, hb1⟩ := HM.out _ _ _ hi; have hx1 := heap_past (.cells #[.int .i64 0, .slice none 0 0] 24) ((hb1.block (rowT hx).2.2).trans hx); have hy1 := heap_past (.cells #[.int .i64 0, .slice none 0 0] 24) ((hb1.block (row4 hy).2.2.2.2).trans hy); have ha1 := heap_new w1 (.cells #[.int .i64 0, .slice none 0 0] 24); have hu1 := (hu.call hb1).alloc (.cells #[.int .i64 0, .slice none 0 0] 24); clear hi hb1 x0 x1 hxs y0 y1 y2 y3 hys cM; obtain ⟨x0, x1, hxs⟩ := rowT hx1; obtain ⟨a0, a1, has⟩ := rowT ha1)
      | (go_at_call 5; (with_reducible refine (hR _ hu1).mono ?_); rintro e w3 ⟨v, rfl, ho, hb3⟩; obtain ⟨A3, c3, hv3, hq1, hq2, hl3⟩ := ho.lies HW.out; subst hv3; have HL := Lib.hid hl3; have hy3 := (hb3.block (row4 hy1).2.2.2.2).trans hy1; have ha3 := (hb3.block (rowT ha1).2.2).trans ha1; have hu3 := hu1.call hb3; clear ho hb3 hl3 x0 x1 hxs a0 a1 has; obtain ⟨a0, a1, has⟩ := rowT ha3)
      | (go_at_call 7; (with_reducible refine (clone_big _ c3 L _ (by omega) HL.out).mono ?_); rintro e w4 ⟨v4, rfl, ho4, hb4⟩; have HO4 := Lib.hid ho4; have HB4 := Lib.hid hb4; have cQ4 := cQ _ _ v4 _ _ ho4 (Nat.le_refl _) hb4 hy3; clear ho4 hb4 a0 a1 has)
      | (go_at_call 6; (with_reducible refine cQ4.mono ?_); rintro e w5 ⟨v5, rfl, ho5, hb5⟩; obtain ⟨A5, c5, hv5, -, -, -⟩ := ho5.lies HWQ.out; subst hv5; have ha5 := (hb5.block (rowT ha3).2.2).trans ha3; have hu5 := hu3.call hb5; clear ho5 hb5 cQ4; obtain ⟨a0, a1, has⟩ := rowT ha5)
      | (go_at_call 10; (with_reducible refine (refused_zero _ _).mono ?_); rintro e w6 ⟨rfl, hb6⟩; have hu6 := hu5.call hb6)
    go_ret
    exact ⟨rfl, hu6⟩
set_option maxHeartbeats 16000000 in
/-- The law where the record is there. -/
theorem shrinkSays_ok (root : Int) (A : Option Addr) (c : Nat) (l : List Nd) (w : World) (h : TrAt w A l) (hcap : ∀ n ∈ l, NdCaps n) (D : Int) (hR : TreeIs l root A c D 0 (allOf l root) w) (p o f m : Int) (hE : spotErr l root ⟨p, o, f, m⟩ = 0) (hz : treeErr l root = 0) (hl4 : (allOf l root).length ≤ 100000) (hwf : ∀ e ∈ allOf l root, e.wf) (hlt : (delQ (allOf l root) (isSp ⟨p, o, f, m⟩)).length < (allOf l root).length) :
    Calls Tryz.prog 3 #[.agg #[.int .i64 root, .slice A l.length c], .agg #[.int .i64 p, .int .i64 o, .int .i64 f, .int .i64 m]] w fun e w' => e = .returned (.bool true) ∧ Calm w w' := by
  have hx := heap_past (.cells #[.int .i64 p, .int .i64 o, .int .i64 f, .int .i64 m] 28) (heap_new w (.cells #[.int .i64 root, .slice A l.length c] 24))
  have hy := heap_new (w.alloc (.cells #[.int .i64 root, .slice A l.length c] 24)) (.cells #[.int .i64 p, .int .i64 o, .int .i64 f, .int .i64 m] 28)
  rw [World.size_alloc] at hy
  have hu := ((Calm.refl w).alloc (.cells #[.int .i64 root, .slice A l.length c] 24)).alloc (.cells #[.int .i64 p, .int .i64 o, .int .i64 f, .int .i64 m] 28)
  unfold TreeIs at hR
  have cM := fun u (hu : Calm w u) => remove_any root A c l u (h.calm hu) hcap p o f m
  have HM := Lib.hid (fun (u u' : World) (e : Ending) (hh : RemvEnd l root ⟨p, o, f, m⟩ u e u') => remvEnd_ok hh hE hz)
  have HW := Lib.hid hwf
  have HWQ := Lib.hid (delQ_wf (k := isSp ⟨p, o, f, m⟩) hwf)
  have cQ := fun base B (v : Value) (w0 u : World) (ho : OwnR base u v (allOf l root)) (h0 : w0.heap.size ≤ base) (hC : Calm w0 u) (hB : SBox B p o f m w0) => deleteQ_any base B v (allOf l root) p o f m w0 u hl4 HW.out ho h0 hC hB
  obtain ⟨x0, x1, hxs⟩ := rowT hx
  obtain ⟨y0, y1, y2, y3, hys⟩ := row4 hy
  obtain ⟨Q, hQ⟩ : ∃ Q, Q = delQ (allOf l root) (isSp ⟨p, o, f, m⟩) := ⟨_, rfl⟩
  rw [← hQ] at cQ HWQ HM hlt
  have hne : ((Q.length : Int) == ((allOf l root).length : Int)) = false := by rw [beq_eq_false_iff_ne]; omega
  have hQ4 : Q.length ≤ 1000000 := by omega
  clear hE hwf hQ hlt hz
  generalize allOf l root = L at hR HW cQ hne hl4
  go_enter Tryz.func3, Tryz.ntmps3
  go_wp2_with first
      | (go_at_call 4; (with_reducible refine (cM _ hu).mono ?_); rintro e w1 hi; obtain ⟨root', A', c', us', rfl, hok, hb1⟩ := HM.out _ _ _ hi; obtain ⟨D', hT⟩ := hok.is; have HT := Lib.hid (hT.calm ((Calm.refl w1).alloc (.cells #[.int .i64 root', .slice A' us'.length c'] 24))); have hx1 := heap_past (.cells #[.int .i64 root', .slice A' us'.length c'] 24) ((hb1.block (rowT hx).2.2).trans hx); have hy1 := heap_past (.cells #[.int .i64 root', .slice A' us'.length c'] 24) ((hb1.block (row4 hy).2.2.2.2).trans hy); have ha1 := heap_new w1 (.cells #[.int .i64 root', .slice A' us'.length c'] 24); have hu1 := (hu.call hb1).alloc (.cells #[.int .i64 root', .slice A' us'.length c'] 24); clear hi hb1 hok hT x0 x1 hxs y0 y1 y2 y3 hys cM; obtain ⟨x0, x1, hxs⟩ := rowT hx1; obtain ⟨a0, a1, has⟩ := rowT ha1)
      | (go_at_call 5; (with_reducible refine (hR _ hu1).mono ?_); rintro e w3 ⟨v, rfl, ho, hb3⟩; obtain ⟨A3, c3, hv3, hq1, hq2, hl3⟩ := ho.lies HW.out; subst hv3; have HL := Lib.hid hl3; have HT3 := Lib.hid (HT.out.calm hb3); have hy3 := (hb3.block (row4 hy1).2.2.2.2).trans hy1; have ha3 := (hb3.block (rowT ha1).2.2).trans ha1; have hu3 := hu1.call hb3; clear ho hb3 hl3 x0 x1 hxs a0 a1 has; obtain ⟨a0, a1, has⟩ := rowT ha3)
      | (go_at_call 7; (with_reducible refine (clone_big _ c3 L _ (by omega) HL.out).mono ?_); rintro e w4 ⟨v4, rfl, ho4, hb4⟩; have cQ4 := cQ _ _ v4 _ _ ho4 (Nat.le_refl _) hb4 hy3; clear ho4 hb4 a0 a1 has)
      | (go_at_call 6; (with_reducible refine cQ4.mono ?_); rintro e w5 ⟨v5, rfl, ho5, hb5⟩; obtain ⟨A5, c5, hv5, -, -, hl5⟩ := ho5.lies HWQ.out; subst hv5; have cT5 := treed_of root' A' A5 c' c5 us' Q D' w5 (HT3.out.calm hb5) HWQ.out hQ4 hl5; have ha5 := (hb5.block (rowT ha3).2.2).trans ha3; have hu5 := hu3.call hb5; clear ho5 hb5 cQ4 hl5; obtain ⟨a0, a1, has⟩ := rowT ha5)
      | (go_at_call 11; (with_reducible refine cT5.mono ?_); rintro e w6 ⟨rfl, hb6⟩; have hu6 := hu5.call hb6)
  go_ret
  exact ⟨rfl, hu6⟩
theorem shrinkSays_walk (root : Int) (A : Option Addr) (c : Nat) (l : List Nd) (p o f m : Int) (w : World) (h : TrAt w A l) (hcap : ∀ n ∈ l, NdCaps n) (hszd : ∀ n ∈ l, NdSized n) :
    Calls Tryz.prog 3 #[.agg #[.int .i64 root, .slice A l.length c], .agg #[.int .i64 p, .int .i64 o, .int .i64 f, .int .i64 m]] w fun e w' => e = .returned (.bool true) ∧ Calm w w' := by
  have hR : ∃ D, TreeIs l root A c D (treeErr l root) (if treeErr l root = 0 then allOf l root else []) w := ⟨_, fun u hu => refTree_any root A c l u (h.calm hu) (fun n hn => (hcap n hn).1) hszd⟩
  obtain ⟨D, hR⟩ := hR
  by_cases hz : treeErr l root = 0
  rotate_left
  · have hE : spotErr l root ⟨p, o, f, m⟩ = treeErr l root := by unfold spotErr; rw [if_pos hz]
    rw [if_neg hz] at hR
    exact shrinkSays_bad root A c l w h hcap D _ [] hR p o f m _ hE hz (by simp) (by simp) (.inr ⟨hz, rfl⟩)
  rw [if_pos hz, hz] at hR
  have hl4 : (allOf l root).length ≤ 100000 := by
    obtain ⟨-, -, d, -, -, -, hl⟩ := tree_good hz
    omega
  have hwf : ∀ e ∈ allOf l root, e.wf := fun e he => recs_wf h _ _ e he
  have hse : spotErr l root ⟨p, o, f, m⟩ = if (spotAt (allOf l root) ⟨p, o, f, m⟩).isSome then 0 else 4 := by unfold spotErr; rw [if_neg (by simpa using hz)]
  cases hq : (spotAt (allOf l root) ⟨p, o, f, m⟩).isSome with
  | true =>
    obtain ⟨a, ha, has⟩ := spot_in hq
    rw [hq] at hse
    exact shrinkSays_ok root A c l w h hcap D hR p o f m hse hz hl4 hwf (delQ_less ha has)
  | false =>
    rw [hq] at hse
    exact shrinkSays_bad root A c l w h hcap D 0 _ hR p o f m 4 hse (by decide) hl4 hwf (.inl ⟨rfl, delQ_same (spot_out hq), rfl⟩)
end Go.Proofs.YtccfcloekjogkaaGreat
