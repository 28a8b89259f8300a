/- annalref.Tree: the walk. -/
import Derived.Test.YtgebilpdinbfgaaQSortI
import Derived.Test.YtgebilpdinbfgaaQLk4
import Derived.OwnWalk
import Derived.Test.YtgebilpdinbfgaaMC
namespace Go.Proofs.Ytgebilpdinbfgaa
open Go.RowKit

set_option maxRecDepth 100000 in
theorem look_any (root : Int) (A : Option Addr) (c : Nat) (l : List Nd) (hok : NdsOk l) (hl4 : l.length ≤ 400) : ∀ (m : Nat) (_ : m ≤ 12) (x : Int) (w : World) (_ : TrAt w A l),
    Calls Try.prog 23 #[.agg #[.int .i64 root, .slice A l.length c], .int .i64 x, .int .i64 (m : Int)] w (LookEnd l m x w)
  | 0, _, x, w, h => look_bad root A c l 0 x w hl4 h (.inl rfl)
  | m + 1, hm, x, w, h => by
    cases hn : ndOf l x with
    | none => exact look_bad root A c l (m + 1) x w hl4 h (.inr (.inl hn))
    | some n =>
      by_cases hk : n.kd = 0
      · exact look_bad root A c l (m + 1) x w hl4 h (.inr (.inr ⟨n, hn, hk⟩))
      · obtain ⟨i1, -, -⟩ := nd_of_in hn
        obtain ⟨X, rfl⟩ : ∃ X : Nat, x = (X : Int) := ⟨x.toNat, by omega⟩
        exact look_main root A c l hok m (by omega) (fun y u hu => look_any root A c l hok hl4 m (by omega) y u hu) X n hn hk w h
/-- What the reference answers of a tree. -/
def RefEnd (l : List Nd) (root : Int) (w : World) (e : Ending) (w' : World) : Prop :=
  ∃ v, e = .returned (.tuple #[v, .int .i64 (if treeErr l root = 0 then (depthOf l root : Int) else 0), .int .i64 (treeErr l root)]) ∧ OwnR w.heap.size w' v (if treeErr l root = 0 then allOf l root else []) ∧ Calm w w'
set_option maxRecDepth 100000 in
theorem RefEnd.bad {l : List Nd} {root : Int} {w w' : World} {E : Int} (h : treeErr l root = E) (h0 : E ≠ 0) (hc : Calm w w') : RefEnd l root w (.returned (.tuple #[.slice none 0 0, .int .i64 0, .int .i64 E])) w' := by
  have h1 : ¬ treeErr l root = 0 := by rw [h]; exact h0
  refine ⟨.slice none 0 0, by rw [if_neg h1, h], ?_, hc⟩
  rw [if_neg h1]; exact OwnR.nil _ _
set_option maxRecDepth 100000 in
theorem used_take {l : List Nd} {k : Nat} {n : Nd} (h : l[k]? = some n) : (l.take (k + 1)).countP (fun n => decide (n.kd ≠ 0)) = (l.take k).countP (fun n => decide (n.kd ≠ 0)) + (if n.kd ≠ 0 then 1 else 0) := by
  obtain ⟨hk, he⟩ := List.getElem?_eq_some_iff.1 h
  rw [List.take_succ_eq_append_getElem hk, List.countP_append, he, List.countP_singleton]
  simp
set_option maxRecDepth 100000 in
set_option maxHeartbeats 8000000 in
theorem refTree_any (root : Int) (A : Option Addr) (c : Nat) (l : List Nd) (w : World) (h : TrAt w A l) (hcap : ∀ n ∈ l, n.E.length ≤ n.c1) (hszd : ∀ n ∈ l, NdSized n) :
    Calls Try.prog 5 #[.agg #[.int .i64 root, .slice A l.length c]] w (RefEnd l root w) := by
  have hx := heap_new w (.cells #[.int .i64 root, .slice A l.length c] 24)
  have hu := (Calm.refl w).alloc (.cells #[.int .i64 root, .slice A l.length c] 24)
  have HT := Lib.hid h
  have hln := h.len
  have HC := Lib.hid hcap
  have HSZ := Lib.hid hszd
  clear h hcap hszd
  by_cases hlg : 400 < l.length
  · have hE : Hid (∀ w', Calm w w' → RefEnd l root w (.returned (.tuple #[.slice none 0 0, .int .i64 0, .int .i64 2])) w') := show ∀ _, _ from fun w' => RefEnd.bad (treeErr_large hlg) (by decide)
    have hli : (l.length : Int) > 400 := by omega
    go_enter Try.func5, Try.ntmps5
    go_wp2_with fail
    go_ret3
    exact hE.out _ hu
  have hli : ¬ (l.length : Int) > 400 := by omega
  have hlr : Hid (l.length ≤ 400) := show _ ≤ _ by omega
  clear hlg
  go_enter Try.func5, Try.ntmps5
  go_wp2_with fail
  go_loopw [5, 18] (fun u i wr => ∃ k : Nat, k ≤ l.length ∧ i = .int .i64 k ∧ u = .int .i64 (((l.take k).countP (fun n => decide (n.kd ≠ 0)) : Nat) : Int) ∧ Calm (w.alloc (.cells #[.int .i64 root, .slice A l.length c] 24)) wr ∧ Hid (∀ i, i < k → ndAtErr l i = 0)) (fun _ i _ => l.length - (intOf i).toNat)
  case atStart => exact ⟨0, Nat.zero_le _, rfl, rfl, Calm.refl _, show ∀ _, _ from fun i hi => absurd hi (Nat.not_lt_zero _)⟩
  case round =>
    obtain ⟨k, hk, rfl, rfl, hv, hN⟩ := hrel
    have hx1 := (hv.block (by simp)).trans hx
    have hv0 := hu.call hv
    have hT1 := Lib.hid (HT.out.calm hv0)
    obtain ⟨x0, x1, hxs⟩ := rowT hx1
    have hu4 : (l.take k).countP (fun n => decide (n.kd ≠ 0)) ≤ 400 := Nat.le_trans List.countP_le_length (by rw [List.length_take]; have := hlr.out; omega)
    by_cases hlt : k < l.length
    · obtain ⟨b, q, kd, A1, A2, A3, A4, c1, c2, c3, c4, E, K, S, T, hA, hb, HN, HA, n0, n1, n2, n3, n4⟩ := hT1.out.get hlt
      cases hA
      have hat : Hid (ndAtErr l k = ndErr kd E K S T) := by show _ = _; unfold ndAtErr; rw [HN.out]
      have hcp := HC.out _ (List.mem_of_getElem? HN.out)
      obtain ⟨s1, s2, s3, s4⟩ := HSZ.out _ (List.mem_of_getElem? HN.out)
      simp only at hcp s1 s2 s3 s4
      have hUT : Hid ((l.take (k + 1)).countP (fun n => decide (n.kd ≠ 0)) = (l.take k).countP (fun n => decide (n.kd ≠ 0)) + (if kd ≠ 0 then 1 else 0)) := used_take HN.out
      generalize (l.take k).countP (fun n => decide (n.kd ≠ 0)) = U at hu4 hUT ⊢
      have cN := fun u (hu : Calm wr u) => refNode_any kd A1 A2 A3 A4 c1 c2 c3 c4 E K S T u (HA.out.calm hu) hcp (by omega) (by omega) (by omega) (by omega)
      clear hcp s1 s2 s3 s4
      have hnb := heap_new wr (.cells #[.int .i64 kd, .slice A1 E.length c1, .slice A2 K.length c2, .slice A3 S.length c3, .slice A4 T.length c4] 60)
      by_cases hz : ndErr kd E K S T = 0
      · have hN1 : Hid (∀ i, i < k + 1 → ndAtErr l i = 0) := show ∀ _, _ from fun i hi => by
          rcases Nat.lt_or_ge i k with h2 | h2
          · exact hN.out i h2
          · obtain rfl : i = k := by omega
            rw [hat.out, hz]
        rw [hz] at cN
        clear hz hat
        by_cases hkd : kd = 0
        · subst hkd
          have hU1 : Hid (U = (l.take (k + 1)).countP (fun n => decide (n.kd ≠ 0))) := show _ = _ by rw [hUT.out]; simp
          go_wp2_with (go_at_call 22; (with_reducible refine (cN _ ((Calm.refl _).alloc _)).mono ?_); rintro e w1 ⟨rfl, hb1⟩; have hv1 := (hv.alloc _).call hb1; have hnb1 := (hb1.block (row5 hnb).2.2.2.2.2).trans hnb; obtain ⟨m0, m1, m2, m3, m4, hms⟩ := row5 hnb1; clear hb1)
          go_roundw
          case rel => exact ⟨k + 1, by omega, by go_num, by rw [← hU1.out], hv1, hN1⟩
          case measure => simp [intOf]; omega
        · have hkb : (kd != 0) = true := by rw [bne_iff_ne]; exact hkd
          have hU1 : Hid (U + 1 = (l.take (k + 1)).countP (fun n => decide (n.kd ≠ 0))) := show _ = _ by rw [hUT.out, if_pos hkd]
          go_wp2_with (go_at_call 22; (with_reducible refine (cN _ ((Calm.refl _).alloc _)).mono ?_); rintro e w1 ⟨rfl, hb1⟩; have hv1 := (hv.alloc _).call hb1; have hnb1 := (hb1.block (row5 hnb).2.2.2.2.2).trans hnb; obtain ⟨m0, m1, m2, m3, m4, hms⟩ := row5 hnb1; clear hb1)
          go_roundw
          case rel => exact ⟨k + 1, by omega, by go_num, by rw [← hU1.out]; go_num, hv1, hN1⟩
          case measure => simp [intOf]; omega
      · have hR : Hid (∀ w', Calm w w' → RefEnd l root w (.returned (.tuple #[.slice none 0 0, .int .i64 0, .int .i64 (ndErr kd E K S T)])) w') := show ∀ _, _ from fun w' => RefEnd.bad (by
          have e1 := firstErr_at (f := ndAtErr l) (n := l.length) hN.out (by rw [hat.out]; exact hz) hlt
          rw [hat.out] at e1
          have e2 : nodesErr l = ndErr kd E K S T := e1
          rw [treeErr_node hlr.out (by rw [e2]; exact hz), e2]) hz
        have b1 : (ndErr kd E K S T != 0) = true := by rw [bne_iff_ne]; exact hz
        generalize ndErr kd E K S T = R at cN hR b1
        clear hz hat
        go_wp2_with (go_at_call 22; (with_reducible refine (cN _ ((Calm.refl _).alloc _)).mono ?_); rintro e w1 ⟨rfl, hb1⟩; have hv1 := hu.call ((hv.alloc _).call hb1); clear hb1)
        go_ret3
        exact hR.out _ hv1
    have hkk : k = l.length := by omega
    have hUu : (l.take k).countP (fun n => decide (n.kd ≠ 0)) = usedOf l := by rw [hkk, List.take_length]; rfl
    rw [hUu] at hu4 ⊢
    clear hUu
    have hnz : Hid (nodesErr l = 0) := show nodesErr l = 0 from firstErr_zero.2 fun i hi => hN.out i (by omega)
    have hok : Hid (NdsOk l) := nodesErr_zero.1 hnz.out
    have hli2 : ¬ (k : Int) < (l.length : Int) := by omega
    have hform : Hid (treeErr l root ≠ 0 → ∀ w', Calm w w' → RefEnd l root w (.returned (.tuple #[.slice none 0 0, .int .i64 0, .int .i64 3])) w') := show _ → ∀ _, _ from fun h w' => RefEnd.bad (treeErr_form hlr.out hnz.out fun hG => h (treeErr_good hlr.out hnz.out hG)) (by decide)
    have hrg : Hid (treeErr l root = 0 → lookR l 12 root = some (beneathD l (depthOf l root) root) ∧ (nodesD l (depthOf l root) root).length = usedOf l ∧ (nodesD l (depthOf l root) root).Nodup) := show _ → _ from fun h => ref_good h
    have hgr : Hid (∀ b, lookR l 12 root = some b → b.N.length = usedOf l → b.N.Nodup → treeErr l root = 0) := show ∀ _, _ from fun b h1 h2 h3 => good_ref hlr.out hok.out h1 h2 h3
    have hll : Hid (∀ b, lookR l 12 root = some b → BnLe b 12) := show ∀ _, _ from fun b h1 => look_len hok.out h1
    have cL : ∀ u, Calm wr u → Calls Try.prog 23 #[.agg #[.int .i64 root, .slice A l.length c], .int .i64 root, .int .i64 12] u (LookEnd l 12 root u) := fun u hu => look_any root A c l hok.out hlr.out 12 (Nat.le_refl _) root u (hT1.out.calm hu)
    generalize usedOf l = U at hu4 hrg hgr ⊢
    clear hkk hlt
    cases hlk : lookR l 12 root with
    | none =>
      have hno := Lib.hid hlk
      have hend := Lib.hid (hform.out fun h0 => by have := (hrg.out h0).1; rw [hlk] at this; cases this)
      clear hlk hform hrg hgr hll
      go_upto_region 14 with (go_at_call 23; (with_reducible refine (cL _ (Calm.refl _)).mono ?_); rintro e w5 ⟨hc5, hcase⟩; obtain ⟨-, rfl⟩ : _ ∧ e = _ := (hcase.elim id fun ⟨b, _, _, _, h9, _⟩ => by rw [hno.out] at h9; cases h9); clear hcase; unfold bnZ)
      have hc7 := hv0.call (hc5.alloc (.cells #[.slice none 0 0, .slice none 0 0, .int .i64 0, .slice none 0 0] 63))
      go_wp2_with fail
      go_ret3
      exact hend.out _ hc7
    | some bb =>
      have hno := Lib.hid hlk
      have HBL := Lib.hid (hll.out bb hlk)
      clear hlk hll
      have hw0 : Hid (w.heap.size ≤ wr.heap.size) := hv0.size
      go_upto_region 14 with (go_at_call 23; (with_reducible refine (cL _ (Calm.refl _)).mono ?_); rintro e w5 ⟨hc5, hcase⟩; obtain ⟨v1, v2, v3, rfl, hB⟩ : ∃ v1 v2 v3, e = .returned (.tuple #[.agg #[v1, v2, .int .i64 bb.D, v3], .bool true]) ∧ Own3 wr.heap.size w5 v1 v2 v3 bb.E bb.S bb.N := hcase.elim (fun h9 => absurd (h9.1.symm.trans hno.out) (by simp)) (fun ⟨b', v1, v2, v3, h9, h10, h11⟩ => ⟨v1, v2, v3, (by rw [Option.some.inj (h9.symm.trans hno.out)] at h10; exact h10), (by rw [Option.some.inj (h9.symm.trans hno.out)] at h11; exact h11)⟩); clear hcase; obtain ⟨p2, r2, g2⟩ := hB.e.slice; obtain ⟨p5, r5, g5⟩ := hB.s.slice; obtain ⟨p7, r7, g7⟩ := hB.n.slice; subst g2; subst g5; subst g7)
      have hc6 := hc5.alloc (.cells #[.slice p2 bb.E.length r2, .slice p5 bb.S.length r5, .int .i64 bb.D, .slice p7 bb.N.length r7] 63)
      have hbx := heap_new w5 (.cells #[.slice p2 bb.E.length r2, .slice p5 bb.S.length r5, .int .i64 bb.D, .slice p7 bb.N.length r7] 63)
      have HB6 := Lib.hid (hB.calm ((Calm.refl w5).alloc (.cells #[.slice p2 bb.E.length r2, .slice p5 bb.S.length r5, .int .i64 bb.D, .slice p7 bb.N.length r7] 63)))
      have hn5 : Hid (∀ k, (Value.slice p7 bb.N.length r7).ownBlock = some k → wr.heap.size ≤ k ∧ k < w5.heap.size) := show ∀ _, _ from fun k hk => hB.n.lt k hk
      have hne : Hid ((Value.slice p7 bb.N.length r7).ownBlock ≠ some w5.heap.size) := show _ ≠ _ from fun hk => by have := (hn5.out _ hk).2; omega
      generalize w5.alloc (.cells #[.slice p2 bb.E.length r2, .slice p5 bb.S.length r5, .int .i64 bb.D, .slice p7 bb.N.length r7] 63) = w6 at hc6 hbx HB6 ⊢
      obtain ⟨t0, t1, t2, t3, hts⟩ := row4 hbx
      clear hB x0 x1 hxs
      by_cases hnu : bb.N.length = U
      rotate_left
      · have hend := Lib.hid (hform.out fun h0 => by
          obtain ⟨h1, h2, -⟩ := hrg.out h0
          have h3 := Option.some.inj (hno.out.symm.trans h1)
          exact hnu (by rw [h3]; exact h2))
        have hni : ((bb.N.length : Int) != (U : Int)) = true := by rw [bne_iff_ne]; omega
        clear hform hrg hgr
        have hc7 := hv0.call hc6
        go_wp2_with fail
        go_ret3
        exact hend.out _ hc7
      have hn1 : 0 < bb.N.length := by
        obtain ⟨d, h0, -, hs, h3, -⟩ := of_look hok.out 12 root bb hno.out
        cases d with
        | zero => omega
        | succ d =>
          obtain ⟨n, hn, -⟩ := hs
          have h4 : bb.N = nodesD l (d + 1) root := by rw [h3]; rfl
          rw [h4, nodesD, hn]
          simp
      subst hnu
      have hn4 := HBL.out.n
      have hn4' : bb.N.length ≤ 1000000 := by omega
      have hfin : Hid (bb.N.Nodup → ∀ w', OwnR w.heap.size w' (.slice p2 bb.E.length r2) bb.E → Calm w w' → RefEnd l root w (.returned (.tuple #[.slice p2 bb.E.length r2, .int .i64 bb.D, .int .i64 0])) w') := show _ → ∀ _, _ from fun hd w' ho hc => by
        have h0 := hgr.out bb hno.out rfl hd
        have hb := Option.some.inj (hno.out.symm.trans (hrg.out h0).1)
        refine ⟨.slice p2 bb.E.length r2, ?_, ?_, hc⟩
        · rw [if_pos h0, h0, show (depthOf l root : Int) = bb.D by rw [hb]; rfl]
        · rw [if_pos h0, show allOf l root = bb.E by rw [hb]; rfl]
          exact ho
      have hend : Hid (¬ bb.N.Nodup → ∀ w', Calm w w' → RefEnd l root w (.returned (.tuple #[.slice none 0 0, .int .i64 0, .int .i64 3])) w') := show _ → _ from fun hd => hform.out fun h0 => by
        obtain ⟨h1, -, h2⟩ := hrg.out h0
        have h3 := Option.some.inj (hno.out.symm.trans h1)
        exact hd (by rw [h3]; exact h2)
      clear hform hrg hgr
      have HX7 := Lib.hid hbx
      have cO := sort_any wr.heap.size (.slice p7 bb.N.length r7) bb.N w6 HB6.out.n hn1 hn4'
      clear hbx
      by_cases hcl : (Lib.compact (sortI bb.N)).length = bb.N.length
      · have HCL := Lib.hid hcl
        have hend := Lib.hid (hfin.out ((sortI_perm bb.N).nodup_iff.1 ((compact_len (sortI_sorted bb.N)).1 (by rw [sortI_len]; exact hcl))))
        clear hcl hfin
        go_wp2_with first
          | (go_at_call 24; (with_reducible refine cO.mono ?_); rintro e w8 ⟨rfl, hs8, hg8⟩; have HS8 := Lib.hid hs8; have HG8 := Lib.hid hg8; clear hs8 hg8 t0 t1 t2 t3 hts; have hbx8 := (HG8.out.block _ (Array.getElem?_eq_some_iff.1 HX7.out).1 (Ne.symm hne.out)).trans HX7.out; obtain ⟨t0, t1, t2, t3, hts⟩ := row4 hbx8; have HX8 := Lib.hid hbx8; clear hbx8; have cP := compact_any wr.heap.size (.slice p7 bb.N.length r7) (sortI bb.N) w8 HS8.out (by rw [sortI_len]; exact hn1) (by rw [sortI_len]; exact hn4'); rw [HCL.out] at cP)
          | (go_at_call 25; (with_reducible refine cP.mono ?_); rintro e w9 ⟨A9, c9, rfl, hg9⟩; have HG9 := Lib.hid hg9; clear hg9 t0 t1 t2 t3 hts; have hbx9 := (HG9.out.block _ (Array.getElem?_eq_some_iff.1 HX8.out).1 (Ne.symm hne.out)).trans HX8.out; obtain ⟨t0, t1, t2, t3, hts⟩ := row4 hbx9; have HX9 := Lib.hid hbx9; clear hbx9)
        have hc9 : Calm w w9 := (Below.grown (Below.grown (hv0.call hc6) HG8.out (Calm.size (hv0.call hc6)) (fun k hk => Nat.le_trans hw0.out (hn5.out k hk).1)) HG9.out (Nat.le_trans (Calm.size (hv0.call hc6)) HG8.out.size) (fun k hk => Nat.le_trans hw0.out (hn5.out k hk).1))
        have ho9 := (rows_away (rows_away HB6.out.e HG8.out HB6.out.en.symm) HG9.out HB6.out.en.symm)
        have HO9 : Hid (OwnR w.heap.size w9 (.slice p2 bb.E.length r2) bb.E) := show OwnR _ _ _ _ from rows_weaken ho9 hw0.out
        clear ho9
        go_upto_region 19 with fail
        refine wp_region_plan [.val (.pointer (some ⟨w5.heap.size, 0, none⟩)), .val (.slice p2 bb.E.length r2), .val (.pointer (some ⟨w5.heap.size, 2, none⟩)), .val (.int .i64 (bb.D)), .val (.slice p2 bb.E.length r2), .val (.int .i64 (bb.D)), .val (.int .i64 (0))] (by kernel_rfl) (by kernel_rfl) (by kernel_rfl) ?_
        intro X
        iterate 7
          refine plan_val (by kernel_rfl) (fun u hu => ?_) ?_
          · obtain ⟨hc, hf, hz⟩ := hu.of_drew.facts
            go_simp
          simp only [Act.put, List.setIfInBounds_toArray, List.set_cons_zero, List.set_cons_succ, Nat.reduceAdd]
        refine plan_end ?_
        intro w' hB
        have hk := hB.calm.of_drew
        clear hB
        go_wp2_with fail
        go_ret3
        exact hend.out _ (rows_calm HO9.out hk) (hc9.call hk)
      · have hnd : ¬ bb.N.Nodup := fun hd => hcl (by rw [(compact_len (sortI_sorted bb.N)).2 ((sortI_perm bb.N).nodup_iff.2 hd), sortI_len])
        have hend := Lib.hid (hend.out hnd)
        obtain ⟨Z, hZ⟩ : ∃ Z, (Lib.compact (sortI bb.N)).length = Z := ⟨_, rfl⟩
        have HCL := Lib.hid hZ
        have hni : ((Z : Int) != (bb.N.length : Int)) = true := by rw [bne_iff_ne]; omega
        clear hcl hfin hZ hnd
        go_wp2_with first
          | (go_at_call 24; (with_reducible refine cO.mono ?_); rintro e w8 ⟨rfl, hs8, hg8⟩; have HS8 := Lib.hid hs8; have HG8 := Lib.hid hg8; clear hs8 hg8 t0 t1 t2 t3 hts; have hbx8 := (HG8.out.block _ (Array.getElem?_eq_some_iff.1 HX7.out).1 (Ne.symm hne.out)).trans HX7.out; obtain ⟨t0, t1, t2, t3, hts⟩ := row4 hbx8; have HX8 := Lib.hid hbx8; clear hbx8; have cP := compact_any wr.heap.size (.slice p7 bb.N.length r7) (sortI bb.N) w8 HS8.out (by rw [sortI_len]; exact hn1) (by rw [sortI_len]; exact hn4'); rw [HCL.out] at cP)
          | (go_at_call 25; (with_reducible refine cP.mono ?_); rintro e w9 ⟨A9, c9, rfl, hg9⟩; have HG9 := Lib.hid hg9; clear hg9 t0 t1 t2 t3 hts; have hbx9 := (HG9.out.block _ (Array.getElem?_eq_some_iff.1 HX8.out).1 (Ne.symm hne.out)).trans HX8.out; obtain ⟨t0, t1, t2, t3, hts⟩ := row4 hbx9; have HX9 := Lib.hid hbx9; clear hbx9)
        have hc9 : Calm w w9 := (Below.grown (Below.grown (hv0.call hc6) HG8.out (Calm.size (hv0.call hc6)) (fun k hk => Nat.le_trans hw0.out (hn5.out k hk).1)) HG9.out (Nat.le_trans (Calm.size (hv0.call hc6)) HG8.out.size) (fun k hk => Nat.le_trans hw0.out (hn5.out k hk).1))
        go_ret3
        exact hend.out _ hc9
end Go.Proofs.Ytgebilpdinbfgaa
