/- Texts of one kind in one file. -/
import Derived.Test.YtnhlcpneflllgaaPkFileSays2
set_option maxRecDepth 100000
namespace Go.Proofs.Ytnhlcpneflllgaa
open Go.RowKit
set_option maxHeartbeats 16000000 in
theorem runPut_any (A : Option Addr) (d : Nat) (l : List El) (p' o' f' : Int) (s' : ByteArray) (t : Int) (w : World) (hn : l.length ≤ 9223372036854775807) (hL : Lies w A l) :
    Calls Try.prog 37 #[.slice A l.length d, .agg #[.int .i64 p', .int .i64 o', .int .i64 f'], .string s', .int .i64 t] w (SlEnd (if putErr l (p', o', f') s' t = 0 then putR l (p', o', f') s' t else []) (putErr l (p', o', f') s' t) w) := by
  have hy : ((w.alloc (.cells #[.int .i64 p', .int .i64 o', .int .i64 f'] 33)).alloc (.cells #[.int .i64 p', .int .i64 o', .int .i64 f', .int .i64 t, .int .i64 0, .string s'] 35)).heap[w.heap.size]? = some (.cells #[.int .i64 p', .int .i64 o', .int .i64 f'] 33 (0, 0)) := heap_past _ (heap_new _ _)
  have hz : ((w.alloc (.cells #[.int .i64 p', .int .i64 o', .int .i64 f'] 33)).alloc (.cells #[.int .i64 p', .int .i64 o', .int .i64 f', .int .i64 t, .int .i64 0, .string s'] 35)).heap[w.heap.size + 1]? = some (.cells #[.int .i64 p', .int .i64 o', .int .i64 f', .int .i64 t, .int .i64 0, .string s'] 35 (0, 0)) := by simpa using heap_new (w.alloc (.cells #[.int .i64 p', .int .i64 o', .int .i64 f'] 33)) (.cells #[.int .i64 p', .int .i64 o', .int .i64 f', .int .i64 t, .int .i64 0, .string s'] 35)
  have hu := ((Calm.refl w).alloc (.cells #[.int .i64 p', .int .i64 o', .int .i64 f'] 33)).alloc (.cells #[.int .i64 p', .int .i64 o', .int .i64 f', .int .i64 t, .int .i64 0, .string s'] 35)
  have cW : ∀ u, Calm w u → Calls Try.prog 72 #[.slice A l.length d, .agg #[.int .i64 p', .int .i64 o', .int .i64 f', .int .i64 t, .int .i64 0, .string s']] u fun e w' => e = .returned (.int .i64 (wrErr l (fresh (p', o', f') s' t))) ∧ Calm u w' := fun u hu => checkWrite_any A d l p' o' f' t 0 s' u hn (hL.calm hu)
  by_cases he : wrErr l (fresh (p', o', f') s' t) = 0
  rotate_left
  · have e1 : putErr l (p', o', f') s' t = wrErr l (fresh (p', o', f') s' t) := by unfold putErr; rw [if_neg he]
    rw [e1, if_neg he]
    have b1 : (wrErr l (fresh (p', o', f') s' t) != 0) = true := by simpa using he
    generalize wrErr l (fresh (p', o', f') s' t) = x at b1 cW
    clear he e1 hL
    go_enter Try.func37, Try.ntmps37
    go_wp2_with (go_at_call 72; refine (cW _ hu).mono ?_; rintro e w1 ⟨rfl, hb1⟩; replace hy := (hb1.block (row3 hy).2.2.2).trans hy; replace hz := (hb1.block (row6 hz).2.2.2.2.2.2).trans hz; replace hu := hu.call hb1; clear hb1; obtain ⟨y0, y1, y2, hys⟩ := row3 hy; obtain ⟨z0, z1, z2, z3, z4, z5, hzs⟩ := row6 hz)
    go_ret2
    exact ⟨_, rfl, Sl.nil _ _ _, hu⟩
  rw [he] at cW
  have hgood := fun hp : putErr l (p', o', f') s' t = 0 => put_good he hp
  obtain ⟨hG, hx, hlt⟩ := wrErr_zero.1 he
  obtain ⟨q1, q2, q3⟩ := sizes he
  have hpe : putErr l (p', o', f') s' t = if l.any (isSame (p', o', f') t) then 0 else if 400 ≤ l.length then 8 else 0 := by unfold putErr; rw [if_pos he]
  have hlt' : latest l ≤ t := hlt
  have hn4 := hG.1
  have cV : ∀ u, Calm w u → Calls Try.prog 46 #[.slice A l.length d, .agg #[.int .i64 p', .int .i64 o', .int .i64 f'], .int .i64 t] u fun e w' => e = .returned (.tuple #[.int .i64 (if hitB l (pos l (p', o', f') t) (p', o', f') t then (pos l (p', o', f') t : Int) - 1 else 0), .bool (hitB l (pos l (p', o', f') t) (p', o', f') t)]) ∧ Calm u w' :=
    fun u hu => liveRun_any A d l p' o' f' t u hn4 (hL.calm hu) hG.2.2
  have cC : ∀ u, Calm w u → Calls Try.prog 36 #[.slice A l.length d] u fun e w' => ∃ v, e = .returned v ∧ OwnR u.heap.size w' v l ∧ Calm u w' := fun u hu => clone_any A d l u hn4 (hL.calm hu)
  rcases hit_open hG (p', o', f') hlt' with ⟨h1, h2, hi, h3, h4⟩ | ⟨h1, h2⟩
  · rw [h1, if_pos rfl, show (pos l (p', o', f') t : Int) - 1 = ((pos l (p', o', f') t - 1 : Nat) : Int) by omega] at cV
    have hpos : pos l (p', o', f') t = (pos l (p', o', f') t - 1) + 1 := by omega
    by_cases hm : l[pos l (p', o', f') t - 1].m = t
    · obtain ⟨e1, e2⟩ := put_same (s := s') hi h3 h4 hm
      have e3 : putErr l (p', o', f') s' t = 0 := by rw [hpe, e1]; rfl
      have hgd := hgood e3
      rw [e3, if_pos rfl]
      rw [e2] at hgd ⊢
      generalize pos l (p', o', f') t - 1 = j at hi hm hgd cV ⊢
      clear e1 e2 e3 h1 h2 h3 h4 hpe hgood hpos hlt' hlt hx he hG
      have hwf := hgd.wf
      obtain ⟨b, q, p, o, f, m, g, s, rfl, hb, HE, hm', c0, c1, c2, c3, c4, c5⟩ := hL.get hi
      have e4 : l[j] = ⟨p, o, f, m, g, s⟩ := (List.getElem?_eq_some_iff.1 HE.out).2
      rw [e4] at hm
      simp only at hm
      subst hm
      have hC3 : ∀ u, Calm w u → u.cell? ⟨b, q + j * 6 + 3, none⟩ = some (.int .i64 m) := fun u hu => (hu.facts.1 _ _ hb).trans c3
      have hjz : (j : Int) < (l.length : Int) := by omega
      have E4 := Lib.hid e4
      clear c0 c1 c2 c3 c4 c5 HE e4 hL
      go_enter Try.func37, Try.ntmps37
      go_wp2_with (first
        | (go_at_call 72; refine (cW _ hu).mono ?_; rintro e w1 ⟨rfl, hb1⟩; replace hy := (hb1.block (row3 hy).2.2.2).trans hy; replace hz := (hb1.block (row6 hz).2.2.2.2.2.2).trans hz; replace hu := hu.call hb1; clear hb1; obtain ⟨y0, y1, y2, hys⟩ := row3 hy; obtain ⟨z0, z1, z2, z3, z4, z5, hzs⟩ := row6 hz; clear cW)
        | (go_at_call 46; refine (cV _ hu).mono ?_; rintro e w1 ⟨rfl, hb1⟩; replace hy := (hb1.block (row3 hy).2.2.2).trans hy; replace hz := (hb1.block (row6 hz).2.2.2.2.2.2).trans hz; replace hu := hu.call hb1; clear hb1; obtain ⟨y0, y1, y2, hys⟩ := row3 hy; obtain ⟨z0, z1, z2, z3, z4, z5, hzs⟩ := row6 hz; have c3 := hC3 _ hu; clear cV hC3)
        | (go_at_call 36; refine (cC _ hu).mono ?_; rintro e w2 ⟨v, rfl, ho, hb1⟩; obtain ⟨g', cap, rfl⟩ := ho.some (by omega); have HO := Lib.hid ho; obtain ⟨⟨d0, d1, d2, d3, d4, d5⟩, hfz, hbg, hgl, _, hcn⟩ := ho.cell hi; have hfz5 := hfz (j * 6 + 5); have hu2 := hu.call hb1; have hbw := Nat.le_trans hu.size hbg; clear cC ho hfz))
      go_ret2
      exact ⟨_, rfl, (HO.out.set (x := { l[j] with s := s' }) hi (by omega) (by rw [E4.out]; rfl)).sl hwf, hu2.setCell hbw _⟩
    · obtain ⟨e1, e2, e3, e4⟩ := put_new (s := s') hG hi h3 h4 hm hlt' q2 q1
      have hpe2 : putErr l (p', o', f') s' t = if 400 ≤ l.length then 8 else 0 := by rw [hpe, e1]; rfl
      have hm2 : ¬ (l[pos l (p', o', f') t - 1].m = t) := hm
      obtain ⟨b, q, p, o, f, m, g, s, rfl, hb, HE, hm', c0, c1, c2, c3, c4, c5⟩ := hL.get hi
      have e5 : l[pos l (p', o', f') t - 1] = ⟨p, o, f, m, g, s⟩ := (List.getElem?_eq_some_iff.1 HE.out).2
      rw [e5] at hm2
      simp only at hm2
      have hC3 : ∀ u, Calm w u → u.cell? ⟨b, q + (pos l (p', o', f') t - 1) * 6 + 3, none⟩ = some (.int .i64 m) := fun u hu => (hu.facts.1 _ _ hb).trans c3
      have E5 := Lib.hid e5
      clear c0 c1 c2 c3 c4 c5 HE e5 hL
      by_cases hfull : 400 ≤ l.length
      · rw [if_pos hfull] at hpe2
        rw [hpe2, if_neg (by decide)]
        have hl4 : (l.length : Int) = 400 := by omega
        have hjz : ((pos l (p', o', f') t - 1 : Nat) : Int) < (l.length : Int) := by omega
        generalize pos l (p', o', f') t - 1 = j at *
        clear hgood hpe hpe2 e1 e2 e3 e4 h1 h2 h3 h4 hpos hlt hlt' hx he hG hm
        clear hfull hn4
        go_enter Try.func37, Try.ntmps37
        go_wp2_with (first
          | (go_at_call 72; refine (cW _ hu).mono ?_; rintro e w1 ⟨rfl, hb1⟩; replace hy := (hb1.block (row3 hy).2.2.2).trans hy; replace hz := (hb1.block (row6 hz).2.2.2.2.2.2).trans hz; replace hu := hu.call hb1; clear hb1; obtain ⟨y0, y1, y2, hys⟩ := row3 hy; obtain ⟨z0, z1, z2, z3, z4, z5, hzs⟩ := row6 hz; clear cW)
          | (go_at_call 46; refine (cV _ hu).mono ?_; rintro e w1 ⟨rfl, hb1⟩; replace hy := (hb1.block (row3 hy).2.2.2).trans hy; replace hz := (hb1.block (row6 hz).2.2.2.2.2.2).trans hz; replace hu := hu.call hb1; clear hb1; obtain ⟨y0, y1, y2, hys⟩ := row3 hy; obtain ⟨z0, z1, z2, z3, z4, z5, hzs⟩ := row6 hz; have c3 := hC3 _ hu; clear cV hC3))
        go_ret2
        exact ⟨_, rfl, Sl.nil _ _ _, hu⟩
      · rw [if_neg hfull] at hpe2
        have hgd := hgood hpe2
        rw [hpe2, if_pos rfl]
        rw [e4] at hgd ⊢
        have hl4 : ¬ ((l.length : Int) = 400) := by omega
        have hpl := pos_le l (p', o', f') t
        have HP := Lib.hid hpos
        clear hgood hpe hpe2 e1 e4 h1 h2 h3 h4 hpos hlt hlt' hx he hG hm
        generalize hpj : pos l (p', o', f') t - 1 = j at *
        have hjz : (j : Int) < (l.length : Int) := by omega
        have hq : (l.set j { l[j] with g := t }) = l.set j ⟨p, o, f, m, t, s⟩ := by rw [E5.out]
        rw [hq] at hgd e2 e3 ⊢
        clear hq hpj
        go_enter Try.func37, Try.ntmps37
        go_upto_region 15 with (first
          | (go_at_call 72; refine (cW _ hu).mono ?_; rintro e w1 ⟨rfl, hb1⟩; replace hy := (hb1.block (row3 hy).2.2.2).trans hy; replace hz := (hb1.block (row6 hz).2.2.2.2.2.2).trans hz; replace hu := hu.call hb1; clear hb1; obtain ⟨y0, y1, y2, hys⟩ := row3 hy; obtain ⟨z0, z1, z2, z3, z4, z5, hzs⟩ := row6 hz; clear cW)
          | (go_at_call 46; refine (cV _ hu).mono ?_; rintro e w1 ⟨rfl, hb1⟩; replace hy := (hb1.block (row3 hy).2.2.2).trans hy; replace hz := (hb1.block (row6 hz).2.2.2.2.2.2).trans hz; replace hu := hu.call hb1; clear hb1; obtain ⟨y0, y1, y2, hys⟩ := row3 hy; obtain ⟨z0, z1, z2, z3, z4, z5, hzs⟩ := row6 hz; have c3 := hC3 _ hu; clear cV hC3)
          | (go_at_call 36; refine (cC _ hu).mono ?_; rintro e w2 ⟨v, rfl, ho, hb1⟩; obtain ⟨g', cap, rfl⟩ := ho.some (by omega); have HO := Lib.hid ho; obtain ⟨⟨d0, d1, d2, d3, d4, d5⟩, hfz, hbg, hgl, _, hcn⟩ := ho.cell hi; have hfz4 := hfz (j * 6 + 4); have hz2 := (hb1.block (row6 hz).2.2.2.2.2.2).trans hz; have hu2 := hu.call hb1; have hbw := Nat.le_trans hu.size hbg; clear cC ho hfz))
        have HO2 := Lib.hid (HO.out.set (x := ⟨p, o, f, m, t, s⟩) hi (by omega : 4 < 6) (by rw [E5.out]; rfl : _ = l[j].cells.set 4 (.int .i64 t)))
        have hz3 := (Below.heap_setCell w2 ⟨g', j * 6 + 4, none⟩ (.int .i64 t) (w.heap.size + 1) (by show _ ≠ g'; omega)).trans hz2
        have hu3 := hu2.setCell (p := ⟨g', j * 6 + 4, none⟩) hbw (.int .i64 t)
        have hwl : w1.heap.size ≤ (w2.setCell ⟨g', j * 6 + 4, none⟩ (.int .i64 t)).heap.size := by simp; omega
        generalize w2.setCell ⟨g', j * 6 + 4, none⟩ (.int .i64 t) = w3 at HO2 hz3 hu3 hwl ⊢
        have hwf := e2.wf
        have hL1 := (HO2.out.reads hwf).2
        have cF : ∀ u, Calm w3 u → Calls Try.prog 74 #[.slice (some ⟨g', 0, none⟩) l.length cap, .agg #[.int .i64 p', .int .i64 o', .int .i64 f', .int .i64 t]] u fun e w' => e = .returned (.int .i64 (pos l (p', o', f') t)) ∧ Calm u w' := fun u hu => by
          have h := after_any (some ⟨g', 0, none⟩) cap (l.set j ⟨p, o, f, m, t, s⟩) p' o' f' t u (by rw [List.length_set]; exact hn4) (hL1.calm hu) e2.2.2
          rw [List.length_set, show pos (l.set j ⟨p, o, f, m, t, s⟩) (p', o', f') t = pos l (p', o', f') t from by rw [← E5.out] at *; exact e3] at h
          exact h
        have cI : ∀ u h, Calm w3 u → w3.drew.heap.size ≤ h → u.heap[h]? = some (.cells #[.int .i64 p', .int .i64 o', .int .i64 f', .int .i64 t, .int .i64 0, .string s'] 35 (0, 0)) → Calls Try.prog 73 #[.slice (some ⟨g', 0, none⟩) l.length cap, .int .i64 (pos l (p', o', f') t), .slice (some ⟨h, 0, none⟩) 1 1] u (OwnEnd w1.heap.size (insAt (l.set j ⟨p, o, f, m, t, s⟩) (pos l (p', o', f') t) (fresh (p', o', f') s' t)) u) := fun u h hv hgh0 hh =>
          have hgh : g' < h := Nat.lt_of_lt_of_le (HO2.out.lt g' rfl).2 hgh0
          insert_any w1.heap.size h (pos l (p', o', f') t) _ (l.set j ⟨p, o, f, m, t, s⟩) p' o' f' t 0 s' u (by rw [List.length_set]; exact hpl) (by rw [List.length_set]; exact hn4) (HO2.out.calm hv) (Nat.le_trans hwl hv.size) hh (fun e => Nat.ne_of_lt hgh (by simpa [Value.ownBlock] using e))
        have hwf2 := Lib.hid hgd.wf
        have hw1 := hu.size
        clear hgd e2 e3 HP hpl E5 HO HO2 hL1 hwf d0 d1 d2 d3 d4 d5 hfz4 hz2 hu2 hwl y0 y1 y2 hys z0 z1 z2 z3 z4 z5 hzs hy hz c3
        generalize pos l (p', o', f') t = P at *
        generalize insAt (l.set j ⟨p, o, f, m, t, s⟩) P (fresh (p', o', f') s' t) = R at *
        obtain ⟨z0, z1, z2, z3, z4, z5, hzs⟩ := row6 hz3
        have HW1 := Lib.hid hw1
        clear hw1 q1 q2 q3 hn hn4 hm2 hb hm' hfull hl4 hjz hi hb1 hbg hgl hcn hbw hz3
        refine wp_region_plan_tail 7 [.val (.slice (some ⟨g', 0, none⟩) l.length cap), .val (.slice (some ⟨g', 0, none⟩) l.length cap), .val (.agg #[.int .i64 p', .int .i64 o', .int .i64 f', .int .i64 t, .int .i64 0, .string s']), .val (.agg #[.int .i64 p', .int .i64 o', .int .i64 f', .int .i64 t]), .val (.int .i64 P), .val (.agg #[.int .i64 p', .int .i64 o', .int .i64 f', .int .i64 t, .int .i64 0, .string s']), .new #[.int .i64 p', .int .i64 o', .int .i64 f', .int .i64 t, .int .i64 0, .string s'] 35 (some 1)] (by kernel_rfl) (by kernel_rfl) (by kernel_rfl) (by kernel_rfl) ?_
        intro X
        simp only [List.take_succ_cons, List.take_zero, List.drop_succ_cons, List.drop_zero]
        iterate 6
          refine plan_val (by kernel_rfl) (fun u hu => ?_) ?_
          · obtain ⟨hc, hf, hz⟩ := hu.of_drew.facts
            go_simp
            all_goals first
              | (go_at_call 75; exact spot_any _ _ _ _ _ _ _)
              | (go_at_call 74; exact cF _ hu.of_drew)
          simp only [Act.put, List.setIfInBounds_toArray, List.set_cons_zero, List.set_cons_succ, Nat.reduceAdd]
        refine plan_lit (by kernel_rfl) (fun u => ?_) ?_
        · go_simp
        simp only [Act.put, List.setIfInBounds_toArray, List.set_cons_zero, List.set_cons_succ, Nat.reduceAdd]
        refine plan_end ?_
        intro w' hB
        have hr6 := hB.row 6 _ _ rfl
        have hk := hB.calm.of_drew
        clear hB
        have hI := cI w' (X 6) hk hr6.1 hr6.2
        clear hr6 cI cF
        go_wp2_with (go_at_call 73; refine hI.mono ?_; rintro e w9 ⟨v9, rfl, ho9, hk9⟩; have HO9 := Lib.hid ho9; have hu9 := hk9 w HW1.out (hu3.call hk); clear ho9 hk9)
        go_ret2
        exact ⟨_, rfl, HO9.out.sl hwf2.out, hu9⟩
  · rw [h1] at cV
    simp only [Bool.false_eq_true, if_false] at cV
    obtain ⟨e1, e2⟩ := put_none (s := s') (t := t) hG h2
    have hpe2 : putErr l (p', o', f') s' t = if 400 ≤ l.length then 8 else 0 := by rw [hpe, e1]; rfl
    by_cases hfull : 400 ≤ l.length
    · rw [if_pos hfull] at hpe2
      rw [hpe2, if_neg (by decide)]
      have hl4 : (l.length : Int) = 400 := by omega
      clear hgood hpe hpe2 e1 e2 h1 h2 hlt hlt' hx he hG hL hfull hn4
      go_enter Try.func37, Try.ntmps37
      go_wp2_with (first
        | (go_at_call 72; refine (cW _ hu).mono ?_; rintro e w1 ⟨rfl, hb1⟩; replace hy := (hb1.block (row3 hy).2.2.2).trans hy; replace hz := (hb1.block (row6 hz).2.2.2.2.2.2).trans hz; replace hu := hu.call hb1; clear hb1; obtain ⟨y0, y1, y2, hys⟩ := row3 hy; obtain ⟨z0, z1, z2, z3, z4, z5, hzs⟩ := row6 hz; clear cW)
        | (go_at_call 46; refine (cV _ hu).mono ?_; rintro e w1 ⟨rfl, hb1⟩; replace hy := (hb1.block (row3 hy).2.2.2).trans hy; replace hz := (hb1.block (row6 hz).2.2.2.2.2.2).trans hz; replace hu := hu.call hb1; clear hb1; obtain ⟨y0, y1, y2, hys⟩ := row3 hy; obtain ⟨z0, z1, z2, z3, z4, z5, hzs⟩ := row6 hz; clear cV))
      go_ret2
      exact ⟨_, rfl, Sl.nil _ _ _, hu⟩
    · rw [if_neg hfull] at hpe2
      have hgd := hgood hpe2
      rw [hpe2, if_pos rfl]
      rw [e2] at hgd ⊢
      have hl4 : ¬ ((l.length : Int) = 400) := by omega
      have hpl := pos_le l (p', o', f') t
      have HG := Lib.hid hG
      clear hgood hpe hpe2 e1 e2 h1 h2 hlt hlt' hx he hG hL
      go_enter Try.func37, Try.ntmps37
      go_upto_region 15 with (first
        | (go_at_call 72; refine (cW _ hu).mono ?_; rintro e w1 ⟨rfl, hb1⟩; replace hy := (hb1.block (row3 hy).2.2.2).trans hy; replace hz := (hb1.block (row6 hz).2.2.2.2.2.2).trans hz; replace hu := hu.call hb1; clear hb1; obtain ⟨y0, y1, y2, hys⟩ := row3 hy; obtain ⟨z0, z1, z2, z3, z4, z5, hzs⟩ := row6 hz; clear cW)
        | (go_at_call 46; refine (cV _ hu).mono ?_; rintro e w1 ⟨rfl, hb1⟩; replace hy := (hb1.block (row3 hy).2.2.2).trans hy; replace hz := (hb1.block (row6 hz).2.2.2.2.2.2).trans hz; replace hu := hu.call hb1; clear hb1; obtain ⟨y0, y1, y2, hys⟩ := row3 hy; obtain ⟨z0, z1, z2, z3, z4, z5, hzs⟩ := row6 hz; clear cV)
        | (go_at_call 36; refine (cC _ hu).mono ?_; rintro e w3 ⟨v, rfl, ho, hb1⟩; obtain ⟨A1, c1, rfl, _, _, hL1⟩ := ho.lies HG.out.wf; have HO2 := Lib.hid ho; have hz3 := (hb1.block (row6 hz).2.2.2.2.2.2).trans hz; have hu3 := hu.call hb1; have hwl := hb1.size; have hw1 := hu.size; clear cC ho))
      have cF : ∀ u, Calm w3 u → Calls Try.prog 74 #[.slice A1 l.length c1, .agg #[.int .i64 p', .int .i64 o', .int .i64 f', .int .i64 t]] u fun e w' => e = .returned (.int .i64 (pos l (p', o', f') t)) ∧ Calm u w' := fun u hu =>
        after_any A1 c1 l p' o' f' t u hn4 (hL1.calm hu) HG.out.2.2
      have cI : ∀ u h, Calm w3 u → w3.drew.heap.size ≤ h → u.heap[h]? = some (.cells #[.int .i64 p', .int .i64 o', .int .i64 f', .int .i64 t, .int .i64 0, .string s'] 35 (0, 0)) → Calls Try.prog 73 #[.slice A1 l.length c1, .int .i64 (pos l (p', o', f') t), .slice (some ⟨h, 0, none⟩) 1 1] u (OwnEnd w1.heap.size (insAt l (pos l (p', o', f') t) (fresh (p', o', f') s' t)) u) := fun u h hv hgh0 hh =>
        insert_any w1.heap.size h (pos l (p', o', f') t) _ l p' o' f' t 0 s' u hpl hn4 (HO2.out.calm hv) (Nat.le_trans hwl hv.size) hh (fun e => by have h9 := (HO2.out.lt h e).2; exact absurd hgh0 (Nat.not_le.2 h9))
      have hwf2 := Lib.hid hgd.wf
      clear hgd hpl HG HO2 hL1 hwl y0 y1 y2 hys z0 z1 z2 z3 z4 z5 hzs hy hz
      generalize pos l (p', o', f') t = P at *
      generalize insAt l P (fresh (p', o', f') s' t) = R at *
      obtain ⟨z0, z1, z2, z3, z4, z5, hzs⟩ := row6 hz3
      have HW1 := Lib.hid hw1
      clear hw1 q1 q2 q3 hn hn4 hfull hl4 hb1 hz3
      refine wp_region_plan_tail 7 [.val (.slice A1 l.length c1), .val (.slice A1 l.length c1), .val (.agg #[.int .i64 p', .int .i64 o', .int .i64 f', .int .i64 t, .int .i64 0, .string s']), .val (.agg #[.int .i64 p', .int .i64 o', .int .i64 f', .int .i64 t]), .val (.int .i64 P), .val (.agg #[.int .i64 p', .int .i64 o', .int .i64 f', .int .i64 t, .int .i64 0, .string s']), .new #[.int .i64 p', .int .i64 o', .int .i64 f', .int .i64 t, .int .i64 0, .string s'] 35 (some 1)] (by kernel_rfl) (by kernel_rfl) (by kernel_rfl) (by kernel_rfl) ?_
      intro X
      simp only [List.take_succ_cons, List.take_zero, List.drop_succ_cons, List.drop_zero]
      iterate 6
        refine plan_val (by kernel_rfl) (fun u hu => ?_) ?_
        · obtain ⟨hc, hf, hz⟩ := hu.of_drew.facts
          go_simp
          all_goals first
            | (go_at_call 75; exact spot_any _ _ _ _ _ _ _)
            | (go_at_call 74; exact cF _ hu.of_drew)
        simp only [Act.put, List.setIfInBounds_toArray, List.set_cons_zero, List.set_cons_succ, Nat.reduceAdd]
      refine plan_lit (by kernel_rfl) (fun u => ?_) ?_
      · go_simp
      simp only [Act.put, List.setIfInBounds_toArray, List.set_cons_zero, List.set_cons_succ, Nat.reduceAdd]
      refine plan_end ?_
      intro w' hB
      have hr6 := hB.row 6 _ _ rfl
      have hk := hB.calm.of_drew
      clear hB
      have hI := cI w' (X 6) hk hr6.1 hr6.2
      clear hr6 cI cF
      go_wp2_with (go_at_call 73; refine hI.mono ?_; rintro e w9 ⟨v9, rfl, ho9, hk9⟩; have HO9 := Lib.hid ho9; have hu9 := hk9 w HW1.out (hu3.call hk); clear ho9 hk9)
      go_ret2
      exact ⟨_, rfl, HO9.out.sl hwf2.out, hu9⟩
open Go.RowKit
theorem delAt_len {l : List El} {i : Nat} (hi : i < l.length) : (delAt l i).length = l.length - 1 := by
 unfold delAt; rw [List.length_append, List.length_take, List.length_drop]; omega
theorem row_del {cur : List Value} {l : List El} {i : Nat} (z : List Value) (hi : i < l.length) (hc : cur.take (l.length * 6) = cellsOf l) (hs : l.length * 6 ≤ cur.length) :
    (spl (spl cur (i * 6) (cellsOf (l.drop (i + 1)))) ((l.length - 1) * 6) z).take ((l.length - 1) * 6) = cellsOf (delAt l i) := by
  have hl1 : (cellsOf (l.take i)).length = i * 6 := by rw [cellsOf_len, List.length_take]; congr 1; omega
  have hl2 : (cellsOf (l.drop (i + 1))).length = (l.length - (i + 1)) * 6 := by rw [cellsOf_len, List.length_drop]
  have h1 : cur.take (i * 6) = cellsOf (l.take i) := by
    rw [← cellsOf_take (by omega), ← hc, List.take_take]; congr 1; omega
  have h2 : (spl cur (i * 6) (cellsOf (l.drop (i + 1)))).take ((l.length - 1) * 6) = cellsOf (l.take i) ++ cellsOf (l.drop (i + 1)) := by
    unfold spl
    rw [h1]
    exact List.take_left' (by rw [List.length_append, hl1, hl2]; omega)
  have h3 : (l.length - 1) * 6 ≤ (spl cur (i * 6) (cellsOf (l.drop (i + 1)))).length := by rw [spl_len (by rw [hl2]; omega)]; omega
  generalize spl cur (i * 6) (cellsOf (l.drop (i + 1))) = c1 at h2 h3 ⊢
  have h4 : (spl c1 ((l.length - 1) * 6) z).take ((l.length - 1) * 6) = c1.take ((l.length - 1) * 6) := by
    unfold spl
    rw [List.append_assoc]
    exact List.take_left' (by rw [List.length_take]; omega)
  rw [h4, h2]
  unfold delAt
  rw [cellsOf_app]
/-- append(s[:i], s[j:]...) in a row with room for it, as a step of a region that draws. -/
theorem step_append_row {ops : Array Oper} {o : Oper} {a : Act} {w : World} {K : Act → World → Prop} {Q : Exit → Act → World → Prop} {E : Prop} (hgd : o.guard = none) (s x : Operand)
    (hop : o.op = Op.call { callee := Callee.builtin Builtin.append, args := #[s, x], argTypes := #[22, 22] })
    (g n cap : Nat) (hs : a.eval s = .slice (some ⟨g, 0, none⟩) n cap) (ad : Addr) (m c : Nat) (hx : a.eval x = .slice (some ad) m c) (cur : List Value) (hg : w.heap[g]? = some (.cells cur.toArray 35 (0, 0)))
    (news : List Value) (hl : news.length = m * 6) (hnews : ∀ j u, news[j]? = some u → w.cell? (ad.add j) = some u) (h1 : ∀ u ∈ news, u.oneCell' = true) (hroom : n + m ≤ cap) (hfit : n * 6 + news.length ≤ cur.length)
    (hK : K (a.put o.dst (.slice (some ⟨g, 0, none⟩) (n + m) cap)) (w.setRow g (spl cur (n * 6) news).toArray)) : if Region.wanted o (yielded ops a.tmps) = true then Oper.wp Try.prog o a w K Q else E := by
  have hw : Region.wanted o (yielded ops a.tmps) = true := by simp [Region.wanted, hgd]
  rw [if_pos hw]
  obtain ⟨i0, hi, hz0, hz1, hz2⟩ := info_parts infoElem
  have hr := run_append_room (P := Try.prog) w 22 o.type 35 i0 Try.underlying22 hi g n cap cur.toArray hg ad m c news (by rw [hz1]; exact hl) hnews h1 hroom (by rw [hz1]; simpa using hfit)
  rw [hz1] at hr
  unfold Oper.wp
  simp only [execOp, hop, resolve, invoke, builtin, Sem.run_bind, Sem.run_pure, Result.andThen_ok, List.map_toArray, List.map_cons, List.map_nil, hs, hx, hr]
  exact hK
def zeroVals : List Value := [.int .i64 0, .int .i64 0, .int .i64 0, .int .i64 0, .int .i64 0, .string ByteArray.empty]
theorem zeroElem : ∀ w, (zeroValue 35).run Try.prog w = .ok (.agg #[.int .i64 0, .int .i64 0, .int .i64 0, .int .i64 0, .int .i64 0, .string ByteArray.empty]) w := fun _ => by kernel_rfl
theorem run_clear_el (w : World) (ty : TypeId) (g o c : Nat) (cur : List Value) (hg : w.heap[g]? = some (.cells cur.toArray 35 (0, 0))) (hfit : o + 6 ≤ cur.length) :
    (Builtin.clear_ #[22] ty #[.slice (some ⟨g, o, none⟩) 1 c]).run Try.prog w = .ok (.tuple #[]) (w.setRow g (spl cur o zeroVals).toArray) := by
  have hzc : (Builtin.zeroCells (Value.agg #[.int .i64 0, .int .i64 0, .int .i64 0, .int .i64 0, .int .i64 0, .string ByteArray.empty]).cells 1).toList = zeroVals := by kernel_rfl
  have hzd : (Builtin.zeroCells (Value.agg #[.int .i64 0, .int .i64 0, .int .i64 0, .int .i64 0, .int .i64 0, .string { data := #[] }]).cells 1).toList = zeroVals := hzc
  have hst := run_storeCells_at Try.prog g o 35 zeroVals 0 cur.toArray w hg (by simp [zeroVals]; omega) (by intro u hu; simp only [zeroVals, List.mem_cons, List.not_mem_nil, or_false] at hu; rcases hu with rfl | rfl | rfl | rfl | rfl | rfl <;> rfl)
  simp [Builtin.clear_, run_underlying Try.underlying22, zeroElem, hzd, hst, spl]
set_option maxHeartbeats 8000000 in
theorem delete_any (base g i n cap : Nat) (l : List El) (w : World) (hn : n = l.length) (hi : i < n) (hn4 : n ≤ 400) (ho : OwnR base w (.slice (some ⟨g, 0, none⟩) n cap) l) :
    Calls Try.prog 76 #[.slice (some ⟨g, 0, none⟩) n cap, .int .i64 i, .int .i64 ((i : Int) + 1)] w (OwnEnd base (delAt l i) w) := by
  rcases id ho.2 with ⟨h, _⟩ | ⟨g', cap', cur0, hv, hbg, hg0, hnc, hcm, hcs, ht⟩
  · cases h
  injection hv with h1 h2 h3
  injection h1 with h1
  injection h1 with h1
  subst h1; subst h3
  clear ho h2
  obtain ⟨cur, rfl⟩ : ∃ cur : List Value, cur.toArray = cur0 := ⟨cur0.toList, by simp⟩
  simp only [List.size_toArray] at hcs ht
  rw [← hn] at hnc ht
  have hc63 : cap ≤ 9223372036854775807 := by unfold maxLen at hcm; exact hcm
  have hdl : (cellsOf (l.drop (i + 1))).length = (n - (i + 1)) * 6 := by rw [cellsOf_len, List.length_drop, hn]
  have hfit1 : i * 6 + (cellsOf (l.drop (i + 1))).length ≤ cur.length := by omega
  obtain ⟨A, hA, hsrc⟩ : ∃ A : Addr, (if cap = i + 1 then some (⟨g, 0, none⟩ : Addr) else some ⟨g, (i + 1) * 6, none⟩) = some A ∧ Hid (∀ j u, (cellsOf (l.drop (i + 1)))[j]? = some u → w.drew.cell? (A.add j) = some u) := by
    by_cases h : cap = i + 1
    · refine ⟨⟨g, 0, none⟩, by simp [h], show ∀ _, _ from fun j u hu => ?_⟩
      have h0 : (cellsOf (l.drop (i + 1))).length = 0 := by rw [hdl]; omega
      rw [List.eq_nil_of_length_eq_zero h0] at hu; simp at hu
    · refine ⟨⟨g, (i + 1) * 6, none⟩, by simp [h], show ∀ _, _ from fun j u hu => ?_⟩
      have hj : j < (n - (i + 1)) * 6 := by rw [← hdl]; exact (List.getElem?_eq_some_iff.1 hu).1
      rw [← cellsOf_drop (by omega), List.getElem?_drop, ← ht, List.getElem?_take, if_pos (by omega)] at hu
      rw [Addr.add_lit]
      show w.cell? _ = _
      rw [cell_of_row _ _ _ _ _ _ hg0, ← hu, List.getElem?_toArray]
  obtain ⟨c1, hc1⟩ : ∃ c1, c1 = spl cur (i * 6) (cellsOf (l.drop (i + 1))) := ⟨_, rfl⟩
  have hc1l : c1.length = cur.length := by rw [hc1]; exact spl_len hfit1
  obtain ⟨W1, hW1⟩ : ∃ W1, W1 = w.drew.setRow g c1.toArray := ⟨_, rfl⟩
  have hWg : W1.heap[g]? = some (.cells c1.toArray 35 (0, 0)) := by rw [hW1]; exact setRow_heap _ _ _ _ _ _ hg0
  have hcl : ∀ ty c, (Builtin.clear_ #[22] ty #[.slice (some ⟨g, (n - 1) * 6, none⟩) (n - (n - 1)) c]).run Try.prog W1 = .ok (.tuple #[]) (W1.setRow g (spl c1 ((n - 1) * 6) zeroVals).toArray) := fun ty c => by
    rw [show n - (n - 1) = 1 by omega]; exact run_clear_el W1 ty g _ c c1 hWg (by omega)
  have hdn := delAt_len (l := l) (i := i) (by omega)
  have HEND : Hid (OwnEnd base (delAt l i) w (.returned (.slice (some ⟨g, 0, none⟩) (n - 1) cap)) (W1.setRow g (spl c1 ((n - 1) * 6) zeroVals).toArray)) := by
    refine ⟨_, rfl, ?_, fun w0 h0 hc => ?_⟩
    · have hfin : (W1.setRow g (spl c1 ((n - 1) * 6) zeroVals).toArray).heap[g]? = some (.cells (spl c1 ((n - 1) * 6) zeroVals).toArray 35 (0, 0)) := setRow_heap _ _ _ _ _ _ hWg
      rw [hn, ← hdn] at hfin ⊢
      refine OwnR.row hbg hfin (by omega) hcm (by rw [spl_len (by show _ + 6 ≤ _; omega)]; omega) ?_
      rw [hdn, hc1]
      exact row_del _ (by omega) (by rw [← hn]; exact ht) (by omega)
    · rw [hW1]
      exact ((hc.drew.setRow (by omega) _).setRow (by omega) _)
  have hW := Lib.hid hW1
  have HC := Lib.hid hc1
  have s1 := Lib.hid hdl
  have s2 : Hid (∀ u ∈ cellsOf (l.drop (i + 1)), u.oneCell' = true) := cellsOf_one _
  have s3 : Hid (w.drew.heap[g]? = some (.cells cur.toArray 35 (0, 0))) := hg0
  have s4 := Lib.hid hfit1
  have hic : i ≤ cap := by omega
  have hjc : i + 1 ≤ cap := by omega
  have hb5 : (i : Int) < (n : Int) := by omega
  have hb6 : (i : Int) + 1 ≤ (n : Int) := by omega
  have hb7 : ¬ ((i : Int) = (i : Int) + 1) := by omega
  have htn : ((i : Int) + 1).toNat = i + 1 := by omega
  have hb8 : (0 : Int) ≤ (i : Int) + 1 := by omega
  have hb9 : i + (n - (i + 1)) = n - 1 := by omega
  clear hW1 hWg hc1 hdl hfit1 hg0 hcs ht hdn hc1l hn
  go_enter Try.func76, Try.ntmps76
  go_wp2_with fail
  go_region_law (refine step_append_row rfl (.tmp 22) (.tmp 25) rfl g i cap (by simp [Act.eval, Act.put]) A (n - (i + 1)) (cap - (i + 1)) (by simp [Act.eval, Act.put]) cur s3.out (cellsOf (l.drop (i + 1))) s1.out hsrc.out s2.out (by omega) s4.out ?_; rw [← HC.out, ← hW.out])
  go_wp2_with fail
  go_ret
  exact HEND.out
open Go.RowKit
theorem cutErr_eq {l : List El} {k : Int × Int × Int} {t : Int} (h : wrErr l (fresh k { data := #[] } t) = 0) : cutErr l k t = if l.any (isOpen k) then 0 else 4 := by
 unfold cutErr; rw [if_pos h]
set_option maxHeartbeats 16000000 in
theorem runCut_any (A : Option Addr) (d : Nat) (l : List El) (p' o' f' : Int) (t : Int) (w : World) (hn : l.length ≤ 9223372036854775807) (hL : Lies w A l) :
    Calls Try.prog 39 #[.slice A l.length d, .agg #[.int .i64 p', .int .i64 o', .int .i64 f'], .int .i64 t] w (SlEnd (if cutErr l (p', o', f') t = 0 then cutR l (p', o', f') t else []) (cutErr l (p', o', f') t) w) := by
  have hy := heap_new w (.cells #[.int .i64 p', .int .i64 o', .int .i64 f'] 33)
  have hu := (Calm.refl w).alloc (.cells #[.int .i64 p', .int .i64 o', .int .i64 f'] 33)
  have cW : ∀ u, Calm w u → Calls Try.prog 72 #[.slice A l.length d, .agg #[.int .i64 p', .int .i64 o', .int .i64 f', .int .i64 t, .int .i64 0, .string { data := #[] }]] u fun e w' => e = .returned (.int .i64 (wrErr l (fresh (p', o', f') { data := #[] } t))) ∧ Calm u w' := fun u hu => checkWrite_any A d l p' o' f' t 0 { data := #[] } u hn (hL.calm hu)
  by_cases he : wrErr l (fresh (p', o', f') { data := #[] } t) = 0
  rotate_left
  · have e1 : cutErr l (p', o', f') t = wrErr l (fresh (p', o', f') { data := #[] } t) := by unfold cutErr; rw [if_neg he]
    rw [e1, if_neg he]
    have b1 : (wrErr l (fresh (p', o', f') { data := #[] } t) != 0) = true := by simpa using he
    generalize wrErr l (fresh (p', o', f') { data := #[] } t) = x at b1 cW
    clear he e1 hL
    go_enter Try.func39, Try.ntmps39
    go_wp2_with (go_at_call 72; refine (cW _ hu).mono ?_; rintro e w1 ⟨rfl, hb1⟩; replace hy := (hb1.block (row3 hy).2.2.2).trans hy; replace hu := hu.call hb1; clear hb1; obtain ⟨y0, y1, y2, hys⟩ := row3 hy)
    go_ret2
    exact ⟨_, rfl, Sl.nil _ _ _, hu⟩
  rw [he] at cW
  have hgood := cut_good he
  obtain ⟨hG, hx, hlt⟩ := wrErr_zero.1 he
  have hlt' : latest l ≤ t := hlt
  have hpe := cutErr_eq he
  have hn4 := hG.1
  have cV : ∀ u, Calm w u → Calls Try.prog 46 #[.slice A l.length d, .agg #[.int .i64 p', .int .i64 o', .int .i64 f'], .int .i64 t] u fun e w' => e = .returned (.tuple #[.int .i64 (if hitB l (pos l (p', o', f') t) (p', o', f') t then (pos l (p', o', f') t : Int) - 1 else 0), .bool (hitB l (pos l (p', o', f') t) (p', o', f') t)]) ∧ Calm u w' :=
    fun u hu => liveRun_any A d l p' o' f' t u hn4 (hL.calm hu) hG.2.2
  have cC : ∀ u, Calm w u → Calls Try.prog 36 #[.slice A l.length d] u fun e w' => ∃ v, e = .returned v ∧ OwnR u.heap.size w' v l ∧ Calm u w' := fun u hu => clone_any A d l u hn4 (hL.calm hu)
  rcases hit_open hG (p', o', f') hlt' with ⟨h1, h2, hi, h3, h4⟩ | ⟨h1, h2⟩
  rotate_left
  · rw [h1] at cV
    simp only [Bool.false_eq_true, if_false] at cV
    have e1 : cutErr l (p', o', f') t = 4 := by rw [hpe, open_no h2]; rfl
    rw [e1, if_neg (by decide)]
    clear hgood hpe e1 h1 h2 hlt hlt' hx he hG hL
    go_enter Try.func39, Try.ntmps39
    go_wp2_with (first
      | (go_at_call 72; refine (cW _ hu).mono ?_; rintro e w1 ⟨rfl, hb1⟩; replace hy := (hb1.block (row3 hy).2.2.2).trans hy; replace hu := hu.call hb1; clear hb1; obtain ⟨y0, y1, y2, hys⟩ := row3 hy; clear cW)
      | (go_at_call 46; refine (cV _ hu).mono ?_; rintro e w1 ⟨rfl, hb1⟩; replace hy := (hb1.block (row3 hy).2.2.2).trans hy; replace hu := hu.call hb1; clear hb1; obtain ⟨y0, y1, y2, hys⟩ := row3 hy; clear cV))
    go_ret2
    exact ⟨_, rfl, Sl.nil _ _ _, hu⟩
  rw [h1, if_pos rfl, show (pos l (p', o', f') t : Int) - 1 = ((pos l (p', o', f') t - 1 : Nat) : Int) by omega] at cV
  have e1 : cutErr l (p', o', f') t = 0 := by rw [hpe, open_any hi h3]; rfl
  have e2 := cut_at (t := t) hi h3 h4
  rw [e1, if_pos rfl]
  rw [e2] at hgood ⊢
  generalize pos l (p', o', f') t - 1 = j at hi e2 hgood cV ⊢
  clear e1 e2 h1 h2 h3 h4 hpe hlt' hlt hx he hG
  obtain ⟨p, o, f, m, g, s, e4⟩ : ∃ p o f m g s, l[j] = ⟨p, o, f, m, g, s⟩ := ⟨_, _, _, _, _, _, rfl⟩
  have hjz : (j : Int) < (l.length : Int) := by omega
  have hj1 : (j : Int) + 1 ≤ 401 := by omega
  by_cases hm : m = t
  · rw [if_pos (by rw [e4]; exact hm)] at hgood ⊢
    have hwf := Lib.hid hgood.wf
    have E4 := Lib.hid e4
    clear hgood hL e4
    subst hm
    go_enter Try.func39, Try.ntmps39
    go_wp2_with (first
      | (go_at_call 72; refine (cW _ hu).mono ?_; rintro e w1 ⟨rfl, hb1⟩; replace hy := (hb1.block (row3 hy).2.2.2).trans hy; replace hu := hu.call hb1; clear hb1; obtain ⟨y0, y1, y2, hys⟩ := row3 hy; clear cW)
      | (go_at_call 46; refine (cV _ hu).mono ?_; rintro e w1 ⟨rfl, hb1⟩; replace hy := (hb1.block (row3 hy).2.2.2).trans hy; replace hu := hu.call hb1; clear hb1; obtain ⟨y0, y1, y2, hys⟩ := row3 hy; clear cV)
      | (go_at_call 36; refine (cC _ hu).mono ?_; rintro e w2 ⟨v, rfl, ho, hb1⟩; obtain ⟨g', cap, rfl⟩ := ho.some (by omega); have HO := Lib.hid ho; obtain ⟨⟨d0, d1, d2, d3, d4, d5⟩, hfz, hbg, hgl, _, hcn⟩ := ho.cell hi; rw [E4.out] at d3; have hu2 := hu.call hb1; have hw1 := Lib.hid hu.size; clear cC ho hfz d0 d1 d2 d4 d5 hb1)
      | (go_at_call 76; refine (delete_any _ g' j l.length cap l _ rfl hi hn4 HO.out).mono ?_; rintro e w3 ⟨v, rfl, ho9, hk9⟩; have HO9 := Lib.hid ho9; have hu9 := hk9 w hw1.out hu2; clear ho9 hk9))
    go_ret2
    exact ⟨_, rfl, HO9.out.sl hwf.out, hu9⟩
  · rw [if_neg (by rw [e4]; exact hm)] at hgood ⊢
    have hwf := Lib.hid hgood.wf
    have E4 := Lib.hid e4
    clear hgood hL e4
    go_enter Try.func39, Try.ntmps39
    go_wp2_with (first
      | (go_at_call 72; refine (cW _ hu).mono ?_; rintro e w1 ⟨rfl, hb1⟩; replace hy := (hb1.block (row3 hy).2.2.2).trans hy; replace hu := hu.call hb1; clear hb1; obtain ⟨y0, y1, y2, hys⟩ := row3 hy; clear cW)
      | (go_at_call 46; refine (cV _ hu).mono ?_; rintro e w1 ⟨rfl, hb1⟩; replace hy := (hb1.block (row3 hy).2.2.2).trans hy; replace hu := hu.call hb1; clear hb1; obtain ⟨y0, y1, y2, hys⟩ := row3 hy; clear cV)
      | (go_at_call 36; refine (cC _ hu).mono ?_; rintro e w2 ⟨v, rfl, ho, hb1⟩; obtain ⟨g', cap, rfl⟩ := ho.some (by omega); have HO := Lib.hid ho; obtain ⟨⟨d0, d1, d2, d3, d4, d5⟩, hfz, hbg, hgl, _, hcn⟩ := ho.cell hi; rw [E4.out] at d3; have hfz4 := hfz (j * 6 + 4); have hu2 := hu.call hb1; have hbw := Nat.le_trans hu.size hbg; clear cC ho hfz d0 d1 d2 d5 hb1))
    go_ret2
    exact ⟨_, rfl, (HO.out.set (x := { l[j] with g := t }) hi (by omega) (by rw [E4.out]; rfl)).sl hwf.out, hu2.setCell hbw _⟩
open Go.RowKit Go.Maps
theorem emp_ne {x : ByteArray} (h : x ≠ { data := #[] }) : x.toList.isEmpty = false := by
 have h1 := str_ne h
 cases hT : x.toList with
 |nil => rw [hT, ByteArray.toList_eq] at h1; exact absurd h1 (by decide)
 |cons a l => rfl
theorem stS_stop {l : List El} {P O t : Int} {S : List UInt8} {j : Nat} (h : (stS l P O S t j).1 ≠ 0) : ∀ n, stS l P O S t (j + n) = stS l P O S t j
 | 0 => rfl
 |n + 1 => by
  rw [← Nat.add_assoc, stS_succ, stS_stop h n]
  unfold stpR
  rw [if_neg h]
structure Steps (old fr : Nat → Option ByteArray) (P O t : Int) (F : Nat → Int × List El) (E : Int) (RES : List El) : Prop where
 good : ∀ (j : Nat) M, j ≤ 20 → F j = (0, M) → Good M
 was : ∀ (j : Nat) M, j < 20 → F j = (0, M) → sV M (P, O, (j : Int) + 1) 2147483647 = old j
 same : ∀ (j : Nat) M, j < 20 → F j = (0, M) → old j = fr j → F (j + 1) = (0, M)
 put : ∀ (j : Nat) M s, j < 20 → F j = (0, M) → old j ≠ fr j → fr j = some s → (putErr M (P, O, (j : Int) + 1) s t = 0 ∧ F (j + 1) = (0, putR M (P, O, (j : Int) + 1) s t)) ∨ (putErr M (P, O, (j : Int) + 1) s t = 8 ∧ E = 8 ∧ RES = [])
 cut : ∀ (j : Nat) M s, j < 20 → F j = (0, M) → old j = some s → fr j = none → cutErr M (P, O, (j : Int) + 1) t = 0 ∧ F (j + 1) = (0, cutR M (P, O, (j : Int) + 1) t)
 fin : ∀ M, F 20 = (0, M) → E = 0 ∧ RES = M
theorem stS_steps {l : List El} {P O t : Int} (S : List UInt8) (hG : Good l) (hk : kErr (P, O, 0) = 0) (h1 : 1 ≤ t) (h2 : t ≤ 2147483647) (hl : latest l ≤ t) :
    Steps (fun j => sV l (bkK P O j) 2147483647) (frV S) P O t (stS l P O S t) (stS l P O S t 20).1 (if (stS l P O S t 20).1 = 0 then (stS l P O S t 20).2 else []) := by
  have hI := stS_inv S hG hk h1 h2 hl
  have inv : ∀ j M, j ≤ 20 → stS l P O S t j = (0, M) → FInv l M P O S t j := fun j M hj he => by
    rcases hI j hj with ⟨_, h⟩ | ⟨h, _⟩
    · rw [he] at h; exact h
    · rw [he] at h; simp at h
  refine ⟨fun j M hj he => (inv j M hj he).good, fun j M hj he => ?_, fun j M hj he hs => ?_, fun j M s hj he hs hf => ?_, fun j M s hj he ho hf => ?_, fun M he => ?_⟩
  · show (atR M (bkK P O j) _).map _ = _
    rw [(inv j M (by omega) he).other _ (fun i hi => bkK_ne (by omega))]; rfl
  · rw [stS_succ, he]
    unfold stpR
    rw [if_pos rfl, if_pos hs]
  · have I := inv j M (by omega) he
    have hw : wrErr M (fresh (bkK P O j) s t) = 0 := wr_of I.good hk h1 h2 I.late (by omega) (by have := frV_size hf; omega)
    have hstep : stS l P O S t (j + 1) = (putErr M (bkK P O j) s t, if putErr M (bkK P O j) s t = 0 then putR M (bkK P O j) s t else []) := by
      rw [stS_succ, he]
      unfold stpR
      rw [if_pos rfl, if_neg hs, hf]
    rcases put8 hw with hp | hp
    · left
      rw [hp, if_pos rfl] at hstep
      exact ⟨hp, hstep⟩
    · right
      rw [hp, if_neg (by decide)] at hstep
      have h9 := stS_stop (l := l) (P := P) (O := O) (t := t) (S := S) (j := j + 1) (by rw [hstep]; decide) (20 - (j + 1))
      rw [show j + 1 + (20 - (j + 1)) = 20 by omega, hstep] at h9
      rw [h9]
      exact ⟨hp, rfl, if_neg (by decide)⟩
  · have I := inv j M (by omega) he
    have hw : wrErr M (fresh (bkK P O j) { data := #[] } t) = 0 := wr_of I.good hk h1 h2 I.late (by omega) (by decide)
    have hm : sV M (bkK P O j) 2147483647 = some s := by
      rw [← ho]
      show (atR M (bkK P O j) _).map _ = _
      rw [I.other _ (fun i hi => bkK_ne (by omega))]; rfl
    have hc := cut0 hw hm
    refine ⟨hc, ?_⟩
    rw [stS_succ, he]
    unfold stpR
    rw [if_pos rfl, if_neg (by rw [ho, hf]; exact fun h => by cases h), hf]
    show (cutErr M (bkK P O j) t, if cutErr M (bkK P O j) t = 0 then cutR M (bkK P O j) t else []) = _
    rw [hc, if_pos rfl]; rfl
  · rw [he]; exact ⟨rfl, if_pos rfl⟩
set_option maxHeartbeats 4000000 in
theorem fileSet_any (A : Option Addr) (d : Nat) (l : List El) (P O : Int) (S : ByteArray) (t : Int) (w : World) (hn : l.length ≤ 9223372036854775807) (hL : Lies w A l) :
    Calls Try.prog 14 #[.slice A l.length d, .int .i64 P, .int .i64 O, .string S, .int .i64 t] w (SlEnd (setR l P O S.data.toList t) (setE l P O S.data.toList t) w) := by
  have cS := stored_any A d l P O 2147483647 w hn hL
  unfold StoEnd at cS
  have hSl : S.data.toList.length = S.size := by simp
  by_cases hE : objErr l P O = 0
  rotate_left
  · have e1 : setE l P O S.data.toList t = objErr l P O := by unfold setE; rw [if_neg hE]
    have e2 : setR l P O S.data.toList t = [] := by unfold setR; rw [e1, if_neg hE]
    rw [e1, e2]
    simp only [if_neg hE] at cS
    have b1 : (objErr l P O != 0) = true := by simpa using hE
    generalize objErr l P O = E at *
    clear e1 e2
    go_enter Try.func14, Try.ntmps14
    go_wp2_with (go_at_call 28; refine cS.mono ?_; rintro e w1 ⟨hb1, rfl⟩)
    go_ret2
    exact ⟨_, rfl, Sl.nil _ _ _, hb1⟩
  simp only [if_pos hE] at cS
  obtain ⟨hG, hk⟩ := objErr_zero hE
  by_cases h320 : 320 < S.size
  · have e1 : setE l P O S.data.toList t = 2 := by unfold setE; rw [if_pos hE, if_pos (by omega)]
    have e2 : setR l P O S.data.toList t = [] := by unfold setR; rw [e1, if_neg (by decide)]
    rw [e1, e2]
    have hz : (320 : Int) < (S.size : Int) := by omega
    clear e1 e2 hSl
    go_enter Try.func14, Try.ntmps14
    go_wp2_with (go_at_call 28; refine cS.mono ?_; rintro e w1 ⟨hb1, b, rfl, hbw, hmp⟩)
    go_ret2
    exact ⟨_, rfl, Sl.nil _ _ _, hb1⟩
  have cT := fun u (hu : Calm w u) => checkTime_any A d l t u hn (hL.calm hu) hG
  unfold timeE at cT
  have hz : ¬ (320 : Int) < (S.size : Int) := by omega
  by_cases ht : 1 ≤ t ∧ t ≤ 2147483647 ∧ latest l ≤ t
  rotate_left
  · have e1 : setE l P O S.data.toList t = 9 := by unfold setE; rw [if_pos hE, if_neg (by omega), if_neg ht]
    have e2 : setR l P O S.data.toList t = [] := by unfold setR; rw [e1, if_neg (by decide)]
    rw [e1, e2]
    rw [if_neg ht] at cT
    clear e1 e2 hSl ht
    go_enter Try.func14, Try.ntmps14
    go_wp2_with (first
      | (go_at_call 28; refine cS.mono ?_; rintro e w1 ⟨hb1, b, rfl, hbw, hmp⟩)
      | (go_at_call 34; refine (cT _ hb1).mono ?_; rintro e w2 ⟨rfl, hb2⟩))
    go_ret2
    exact ⟨_, rfl, Sl.nil _ _ _, hb1.call hb2⟩
  rw [if_pos ht] at cT
  have hSt := stS_steps S.data.toList hG hk ht.1 ht.2.1 ht.2.2
  have e1 : setE l P O S.data.toList t = (stS l P O S.data.toList t 20).1 := by unfold setE; rw [if_pos hE, if_neg (by omega), if_pos ht]
  have e2 : setR l P O S.data.toList t = if (stS l P O S.data.toList t 20).1 = 0 then (stS l P O S.data.toList t 20).2 else [] := by unfold setR; rw [e1]
  rw [e1, e2]
  have hF0 : stS l P O S.data.toList t 0 = (0, l) := rfl
  have cSp := fun u => split_any S (by omega) u
  have cCl := fun u (hu : Calm w u) => clone_any A d l u hG.1 (hL.calm hu)
  have hwf := hG.wf
  obtain ⟨old, hold⟩ : ∃ old : Nat → Option ByteArray, old = fun j => sV l (bkK P O j) 2147483647 := ⟨_, rfl⟩
  have hMo : ∀ j : Nat, j < 20 → mL (rangeR l (P, O, 1) (P, O, 20) 2147483647) ((j : Int) + 1) = old j := fun j hj => by rw [hold]; exact mL_range hG P O _ hj
  rw [← hold] at hSt
  have hMf : ∀ j : Nat, j < 20 → frM S.data.toList 20 ((j : Int) + 1) = frV S.data.toList j := fun j hj => frM_at hj
  have hfz : ∀ j s, frV S.data.toList j = some s → s ≠ { data := #[] } := fun j s h e => by
    subst e
    by_cases hj : 16 * j < S.data.toList.length
    · unfold frV at h
      rw [if_pos hj] at h
      injection h with h
      have := congrArg ByteArray.size h
      rw [bytes_size, List.length_take, List.length_drop] at this
      have h0 : (({ data := #[] } : ByteArray)).size = 0 := rfl
      omega
    · unfold frV at h
      rw [if_neg hj] at h
      cases h
  have HST := Lib.hid hSt
  have HF0 := Lib.hid hF0
  have HMO := Lib.hid hMo
  have HMF := Lib.hid hMf
  have HFZ := Lib.hid hfz
  clear e1 e2 hSl h320 hE hk ht hSt hF0 hMo hMf hfz hold hG
  generalize (if (stS l P O S.data.toList t 20).1 = 0 then (stS l P O S.data.toList t 20).2 else []) = RES at *
  generalize (stS l P O S.data.toList t 20).1 = E at *
  generalize stS l P O S.data.toList t = F at *
  generalize mL (rangeR l (P, O, 1) (P, O, 20) 2147483647) = MO at *
  generalize frM S.data.toList 20 = MF at *
  generalize frV S.data.toList = fr at *
  go_enter Try.func14, Try.ntmps14
  go_wp2_with (first
    | (go_at_call 28; refine cS.mono ?_; rintro e w1 ⟨hb1, bo, rfl, hbw, hmp⟩; have HA := Lib.hid hmp; replace hu := hb1; clear hmp hb1)
    | (go_at_call 34; refine (cT _ hu).mono ?_; rintro e w2 ⟨rfl, hb2⟩; replace HA := Lib.hid (HA.out.calm hb2); replace hu := hu.call hb2; clear hb2)
    | (go_at_call 35; refine (cSp _).mono ?_; rintro e w3 ⟨bf, rfl, hbf, hmf, hb3⟩; replace HA := Lib.hid (HA.out.calm hb3); have HB := Lib.hid hmf; replace hu := hu.call hb3; clear hb3 hmf)
    | (go_at_call 36; refine (cCl _ hu).mono ?_; rintro e w4 ⟨v, rfl, ho, hb4⟩; obtain ⟨A1, c1, hv, hlc, _, hl1⟩ := ho.lies hwf; subst hv; have HL1 := Lib.hid hl1; replace HA := Lib.hid (HA.out.calm hb4); replace HB := Lib.hid (HB.out.calm hb4); replace hu := hu.call hb4; clear hb4 ho hl1))
  clear cS cT cSp cCl
  go_loopw [16, 17] (fun mv iv wr => ∃ (j : Nat) (A' : Option Addr) (c' : Nat) (M : List El) (y : Int), mv = .slice A' M.length c' ∧ iv = .int .i64 y ∧ Hid (y = (j : Int) + 1) ∧ 1 ≤ y ∧ y ≤ 21 ∧ j ≤ 20 ∧ Calm w4 wr ∧ Hid (F j = (0, M)) ∧ Hid (Lies wr A' M)) (fun _ iv _ => 21 - (intOf iv).toNat)
  case atStart => exact ⟨0, A1, c1, l, 1, rfl, rfl, show (1 : Int) = _ from rfl, by omega, by omega, by omega, Calm.refl _, HF0, HL1⟩
  case round =>
    obtain ⟨j, A', c', M, y, rfl, rfl, HY, hy1, hy2, hj, hur, HF, HL⟩ := hrel
    have hMg : M.length ≤ 400 := (HST.out.good j M hj HF.out).1
    by_cases hlt9 : y ≤ 20
    rotate_left
    · obtain rfl : j = 20 := by have := HY.out; omega
      obtain ⟨rfl, rfl⟩ := HST.out.fin M HF.out
      go_wp2_with fail
      go_ret2
      exact ⟨_, rfl, ⟨A', c', rfl, by omega, HL.out⟩, hu.call hur⟩
    have hlt : j < 20 := by have := HY.out; omega
    have HA1 := Lib.hid (HA.out.calm hur)
    have HB1 := Lib.hid (HB.out.calm hur)
    have HW := Lib.hid (wf_small (k := y) (by omega) (by omega))
    have q1 := HMO.out j hlt
    have q2 := HMF.out j hlt
    have HS1 := Lib.hid (HST.out.same j M hlt HF.out)
    have HS2 := Lib.hid (fun s => HST.out.put j M s hlt HF.out)
    have HS3 := Lib.hid (fun s => HST.out.cut j M s hlt HF.out)
    have HNZ := Lib.hid (HFZ.out j)
    simp only [← HY.out] at q1 q2 HS2 HS3
    generalize old j = O1 at *
    generalize fr j = R1 at *
    have cB := fun u => block_any P O y u
    have cP := fun s u (hl : Lies u A' M) => runPut_any A' c' M P O y s t u (by omega) hl
    have cC := fun u (hl : Lies u A' M) => runCut_any A' c' M P O y t u (by omega) hl
    by_cases hs : O1 = R1
    · subst hs
      have HF1 := Lib.hid (HS1.out rfl)
      have hs1 : (MO y).getD { data := #[] } = O1.getD { data := #[] } := by rw [q1]
      have hz1 : (MO y).isSome = O1.isSome := by rw [q1]
      have hs2 : (MF y).getD { data := #[] } = O1.getD { data := #[] } := by rw [q2]
      have hz2 : (MF y).isSome = O1.isSome := by rw [q2]
      generalize O1.getD { data := #[] } = s at *
      have hzz : O1.isSome = true ∨ O1.isSome = false := by cases O1.isSome <;> simp
      generalize O1.isSome = z at *
      have G1 := Lib.hid hs1
      have G2 := Lib.hid hz1
      have G3 := Lib.hid hs2
      have G4 := Lib.hid hz2
      clear q1 q2 hs1 hz1 hs2 hz2 HS1 HS2 HS3 HNZ cB cP cC
      rcases hzz with rfl | rfl
      all_goals
        go_wp2_with (first
          | (at_lookup; refine wpList_map_ok rfl _ _ rfl bo 400 MO rfl HA1.out y s _ rfl HW.out G1.out G2.out ?_)
          | (at_lookup; refine wpList_map_ok rfl _ _ rfl bf 20 MF rfl HB1.out y s _ rfl HW.out G3.out G4.out ?_))
        go_roundw
        case rel => exact ⟨j + 1, A', c', M, y + 1, rfl, by go_num, show y + 1 = _ from (by have := HY.out; omega), by omega, by omega, by omega, hur, HF1, HL⟩
        case measure => simp [intOf]; omega
    cases R1 with
    | some s =>
      have hs1 : (MO y).getD { data := #[] } = O1.getD { data := #[] } := by rw [q1]
      have hz1 : (MO y).isSome = O1.isSome := by rw [q1]
      have hs2 : (MF y).getD { data := #[] } = s := by rw [q2]; rfl
      have hz2 : (MF y).isSome = true := by rw [q2]; rfl
      have hne : O1.getD { data := #[] } ≠ s := by
        cases O1 with
        | none => exact fun h => HNZ.out s rfl h.symm
        | some x => exact fun h => hs (by rw [show x = s from h])
      have hP := HS2.out s hs rfl
      generalize O1.getD { data := #[] } = x at *
      generalize O1.isSome = z at *
      have bne := str_ne hne
      have G1 := Lib.hid hs1
      have G2 := Lib.hid hz1
      have G3 := Lib.hid hs2
      have G4 := Lib.hid hz2
      replace cP := cP s
      clear q1 q2 hs1 hz1 hs2 hz2 HS1 HS2 HS3 HNZ cC hne hs
      rcases hP with ⟨hp, hF⟩ | ⟨hp, rfl, rfl⟩
      · rw [hp, if_pos rfl] at cP
        have HF1 := Lib.hid hF
        clear hp hF
        generalize putR M (P, O, y) s t = M2 at *
        go_wp2_with (first
          | (at_lookup; refine wpList_map_ok rfl _ _ rfl bo 400 MO rfl HA1.out y x z rfl HW.out G1.out G2.out ?_)
          | (at_lookup; refine wpList_map_ok rfl _ _ rfl bf 20 MF rfl HB1.out y s true rfl HW.out G3.out G4.out ?_)
          | (go_at_call 38; refine (cB _).mono ?_; rintro e w5 ⟨rfl, hb5⟩; have hu5 := hur.call hb5; have HL5 := Lib.hid (HL.out.calm hb5); clear hb5)
          | (go_at_call 37; refine (cP _ HL5.out).mono ?_; rintro e w6 ⟨v, rfl, ⟨A2, c2, rfl, _, hl2⟩, hb6⟩; have HL6 := Lib.hid hl2; have hu6 := hu5.call hb6; clear hl2 hb6))
        go_roundw
        case rel => exact ⟨j + 1, A2, c2, M2, y + 1, rfl, by go_num, show y + 1 = _ from (by have := HY.out; omega), by omega, by omega, by omega, hu6, HF1, HL6⟩
        case measure => simp [intOf]; omega
      · rw [hp, if_neg (by decide)] at cP
        clear hp
        go_wp2_with (first
          | (at_lookup; refine wpList_map_ok rfl _ _ rfl bo 400 MO rfl HA1.out y x z rfl HW.out G1.out G2.out ?_)
          | (at_lookup; refine wpList_map_ok rfl _ _ rfl bf 20 MF rfl HB1.out y s true rfl HW.out G3.out G4.out ?_)
          | (go_at_call 38; refine (cB _).mono ?_; rintro e w5 ⟨rfl, hb5⟩; have hu5 := hur.call hb5; have HL5 := Lib.hid (HL.out.calm hb5); clear hb5)
          | (go_at_call 37; refine (cP _ HL5.out).mono ?_; rintro e w6 ⟨v, rfl, ⟨A2, c2, rfl, _, hl2⟩, hb6⟩; have hu6 := hu5.call hb6; clear hl2 hb6))
        go_ret2
        exact ⟨_, rfl, Sl.nil _ _ _, hu.call hu6⟩
    | none =>
      cases O1 with
      | none => exact absurd rfl hs
      | some x =>
        have hs1 : (MO y).getD { data := #[] } = x := by rw [q1]; rfl
        have hz1 : (MO y).isSome = true := by rw [q1]; rfl
        have hs2 : (MF y).getD { data := #[] } = { data := #[] } := by rw [q2]; rfl
        have hz2 : (MF y).isSome = false := by rw [q2]; rfl
        obtain ⟨hp, hF⟩ := HS3.out x rfl rfl
        rw [hp, if_pos rfl] at cC
        have HF1 := Lib.hid hF
        have G1 := Lib.hid hs1
        have G2 := Lib.hid hz1
        have G3 := Lib.hid hs2
        have G4 := Lib.hid hz2
        clear q1 q2 hs1 hz1 hs2 hz2 HS1 HS2 HS3 HNZ cP hs hp hF
        generalize cutR M (P, O, y) t = M2 at *
        have hxx : x = { data := #[] } ∨ x.toList.isEmpty = false := by
          by_cases h : x = { data := #[] }
          · exact .inl h
          · exact .inr (emp_ne h)
        rcases hxx with rfl | bne
        all_goals
          go_wp2_with (first
            | (at_lookup; refine wpList_map_ok rfl _ _ rfl bo 400 MO rfl HA1.out y _ true rfl HW.out G1.out G2.out ?_)
            | (at_lookup; refine wpList_map_ok rfl _ _ rfl bf 20 MF rfl HB1.out y { data := #[] } false rfl HW.out G3.out G4.out ?_)
            | (go_at_call 38; refine (cB _).mono ?_; rintro e w5 ⟨rfl, hb5⟩; have hu5 := hur.call hb5; have HL5 := Lib.hid (HL.out.calm hb5); clear hb5)
            | (go_at_call 39; refine (cC _ HL5.out).mono ?_; rintro e w6 ⟨v, rfl, ⟨A2, c2, rfl, _, hl2⟩, hb6⟩; have HL6 := Lib.hid hl2; have hu6 := hu5.call hb6; clear hl2 hb6))
          go_roundw
          case rel => exact ⟨j + 1, A2, c2, M2, y + 1, rfl, by go_num, show y + 1 = _ from (by have := HY.out; omega), by omega, by omega, by omega, hu6, HF1, HL6⟩
          case measure => simp [intOf]; omega
open Go.RowKit
def FreeS (late : List Nat) (F : Nat → Value → World → Prop) (w1 : World) : Stages := fun bs Y u => Calm w1 u ∧ ∃ L : Nat → Bool, bs = late.map L ∧ ∀ i ∈ late, L i = true → F i (Y i) u
section
variable {late : List Nat} {F : Nat → Value → World → Prop} {w1 u u' : World} {Y : Nat → Value} {L : Nat → Bool}
theorem FreeS.stay (hF : ∀ i y u u', F i y u → Calm u u' → F i y u') : ∀ bs Y u u', FreeS late F w1 bs Y u → Calm u u' → FreeS late F w1 bs Y u' := fun _ _ _ _ ⟨h, L, e, hL⟩ hb => ⟨h.call hb, L, e, fun i hi hl => hF i _ _ _ (hL i hi hl) hb⟩
theorem FreeS.start (h : Calm w1 u) : FreeS late F w1 (late.map fun _ => false) Y u := ⟨h, _, rfl, fun _ _ h => by cases h⟩
theorem FreeS.get (h : FreeS late F w1 (late.map L) Y u) {i : Nat} (hi : i ∈ late) (hl : L i = true) : F i (Y i) u := by
 obtain ⟨-, M, e, hM⟩ := h
 have : L i = M i := List.map_inj_left.1 e i hi
 exact hM i hi (this ▸ hl)
theorem FreeS.do (hF : ∀ i y u u', F i y u → Calm u u' → F i y u') (h : FreeS late F w1 (late.map L) Y u) (hb : Calm u u') {i : Nat} {y : Value} (hn : F i y u') : FreeS late F w1 (late.map (updB L i)) (updV Y i y) u' := by
 refine ⟨h.1.call hb, _, rfl, fun j hj hl => ?_⟩
 by_cases e : j = i
 ·subst e; rw [show updV Y j y j = y by simp [updV]]; exact hn
 ·rw [show updV Y i y j = Y j by simp [updV, e]]; exact hF _ _ _ _ (h.get hj (by simpa [updB, e] using hl)) hb
end
open Go.RowKit
def patS (T : List UInt8) (k : Nat) (S : List UInt8) : List UInt8 := T.take k ++ S ++ T.drop (k + S.length)
def patE (l : List El) (P O at' : Int) (S : List UInt8) (t : Int) : Int :=
 if objErr l P O = 0 then (if 0 ≤ at' ∧ at' ≤ (txtL l P O 2147483647).length then setE l P O (patS (txtL l P O 2147483647) at'.toNat S) t else 1) else objErr l P O
def patR (l : List El) (P O at' : Int) (S : List UInt8) (t : Int) : List El := if patE l P O at' S t = 0 then setR l P O (patS (txtL l P O 2147483647) at'.toNat S) t else []
theorem ext_take (R : ByteArray) (N : Nat) : (R.extract 0 N).data.toList = R.data.toList.take N := by
 rw [part_extract, part, List.drop_zero, Nat.sub_zero]
theorem ext_rest (R : ByteArray) (N : Nat) : (R.extract N R.size).data.toList = R.data.toList.drop N := by
 rw [part_extract, part, List.take_of_length_le (by rw [List.length_drop, bytes_len]; omega)]
theorem app_list (a b : ByteArray) : (a ++ b).data.toList = a.data.toList ++ b.data.toList := by simp
theorem app_size (a b : ByteArray) : (a ++ b).size = a.size + b.size := by simp
def PaF (R : List El) (E : Int) (i : Nat) (y : Value) (u : World) : Prop := match i with
 | 13 => ∃ A c, y = .tuple #[.slice A R.length c, .int .i64 E] ∧ Lies u A R
 | 14 => ∃ A c, y = .slice A R.length c ∧ Lies u A R
 | 16 => ∃ A c, y = .slice A R.length c ∧ Lies u A R
 |_ => y = .int .i64 E
theorem paF_stay {R : List El} {E : Int} (i : Nat) (y : Value) (u u' : World) (h : PaF R E i y u) (hb : Calm u u') : PaF R E i y u' := by
 unfold PaF at h ⊢
 split at h
 ·obtain ⟨A, c, e, h1⟩ := h; exact ⟨A, c, e, h1.calm hb⟩
 ·obtain ⟨A, c, e, h1⟩ := h; exact ⟨A, c, e, h1.calm hb⟩
 ·obtain ⟨A, c, e, h1⟩ := h; exact ⟨A, c, e, h1.calm hb⟩
 ·exact h
theorem setR_if {l : List El} {P O t : Int} {S : List UInt8} : (if setE l P O S t = 0 then setR l P O S t else []) = setR l P O S t := by
 by_cases h : setE l P O S t = 0
 ·rw [if_pos h]
 ·rw [if_neg h]; unfold setR; rw [if_neg h]
theorem setR_len (l : List El) (P O t : Int) (S : List UInt8) : (setR l P O S t).length ≤ 9223372036854775807 := by
 by_cases h : setE l P O S t = 0
 ·have := (setE_zero h).2.2.2.2.2.2.good.1; omega
 ·unfold setR; rw [if_neg h]; simp
set_option maxHeartbeats 8000000 in
theorem filePatch_any (A : Option Addr) (d : Nat) (l : List El) (P O at' : Int) (S : ByteArray) (t : Int) (w : World) (hn : l.length ≤ 9223372036854775807) (hL : Lies w A l) (hS : S.size ≤ 140737488351232) :
    Calls Try.prog 16 #[.slice A l.length d, .int .i64 P, .int .i64 O, .int .i64 at', .string S, .int .i64 t] w (SlEnd (patR l P O at' S.data.toList t) (patE l P O at' S.data.toList t) w) := by
  have cG := fileGet_any A d l P O 2147483647 w hn hL
  unfold getTxt at cG
  by_cases hE : objErr l P O = 0
  rotate_left
  · have e1 : patE l P O at' S.data.toList t = objErr l P O := by unfold patE; rw [if_neg hE]
    have e2 : patR l P O at' S.data.toList t = [] := by unfold patR; rw [e1, if_neg hE]
    rw [e1, e2]
    rw [if_neg hE] at cG
    have b1 : (objErr l P O != 0) = true := by simpa using hE
    generalize objErr l P O = E at *
    clear e1 e2
    go_enter Try.func16, Try.ntmps16
    go_wp2_with (go_at_call 11; refine cG.mono ?_; rintro e w1 ⟨rfl, hb1⟩)
    go_ret2
    exact ⟨_, rfl, Sl.nil _ _ _, hb1⟩
  rw [if_pos hE, hE] at cG
  obtain ⟨hG, hk⟩ := objErr_zero hE
  have hTl := txtL_len hG P O 2147483647
  obtain ⟨T, hT⟩ : ∃ T : ByteArray, T = ⟨(txtL l P O 2147483647).toArray⟩ := ⟨_, rfl⟩
  have hT1 : txtL l P O 2147483647 = T.data.toList := by rw [hT, bytes_list]
  have hTs : T.size ≤ 800 := by rw [hT, bytes_size]; exact hTl
  rw [← hT] at cG
  unfold patR patE
  rw [if_pos hE, hT1, bytes_len]
  clear hT hT1 hTl
  by_cases ha : 0 ≤ at' ∧ at' ≤ (T.size : Int)
  rotate_left
  · rw [if_neg ha, if_neg (by decide)]
    have hcs : at' < 0 ∨ (¬ at' < 0 ∧ (T.size : Int) < at') := by omega
    rcases hcs with h1 | ⟨h0, h1⟩
    all_goals
      clear ha
      go_enter Try.func16, Try.ntmps16
      go_wp2_with (go_at_call 11; refine cG.mono ?_; rintro e w1 ⟨rfl, hb1⟩)
      go_ret2
      exact ⟨_, rfl, Sl.nil _ _ _, hb1⟩
  rw [if_pos ha]
  obtain ⟨k, rfl⟩ : ∃ k : Nat, at' = k := ⟨at'.toNat, by omega⟩
  rw [Int.toNat_natCast]
  have hk0 : (0 : Int) ≤ (k : Int) := by omega
  have hk1 : (k : Int) ≤ (T.size : Int) := ha.2
  obtain ⟨e, he⟩ : ∃ e : Nat, e = k + min S.size (T.size - k) := ⟨_, rfl⟩
  have hw1 : IntKind.i64.wrap ((T.size : Int) - (k : Int)) = (T.size : Int) - (k : Int) := IntWalk.i64_in _ (by omega)
  have hmn : min (S.size : Int) ((T.size : Int) - (k : Int)) = (e : Int) - (k : Int) := by omega
  have hw2 : IntKind.i64.wrap ((k : Int) + ((e : Int) - (k : Int))) = (e : Int) := by rw [IntWalk.i64_in _ (by omega)]; omega
  have he0 : (0 : Int) ≤ (e : Int) := by omega
  have he1 : (e : Int) ≤ (T.size : Int) := by omega
  have hN : (((T.extract 0 k ++ S) ++ T.extract e T.size).data.toList) = patS T.data.toList k S.data.toList := by
    rw [app_list, app_list, ext_take, ext_rest]
    unfold patS
    congr 1
    rw [bytes_len, he]
    by_cases h : S.size ≤ T.size - k
    · rw [Nat.min_eq_left h]
    · rw [List.drop_eq_nil_of_le (by rw [bytes_len]; omega), List.drop_eq_nil_of_le (by rw [bytes_len]; omega)]
  have cS := fun u (hu : Calm w u) => fileSet_any A d l P O ((T.extract 0 k ++ S) ++ T.extract e T.size) t u hn (hL.calm hu)
  rw [hN] at cS
  have hz1 : (T.extract 0 k).size = k := by rw [ByteArray.size_extract]; omega
  have hz2 : (T.extract e T.size).size = T.size - e := by rw [ByteArray.size_extract]; omega
  have hz3 : (T.extract 0 k ++ S).size = k + S.size := by rw [app_size, hz1]
  have HZ1 := Lib.hid hz1
  have HZ2 := Lib.hid hz2
  have HZ3 := Lib.hid hz3
  have HSZ := Lib.hid hS
  have HTS := Lib.hid hTs
  have HE := Lib.hid he
  rw [setR_if]
  have HR4 := Lib.hid (setR_len l P O t (patS T.data.toList k S.data.toList))
  generalize setR l P O (patS T.data.toList k S.data.toList) t = R at *
  generalize setE l P O (patS T.data.toList k S.data.toList) t = E at *
  clear hN hz1 hz2 hz3 hS hTs he ha hG hk hE
  have hb1 := Calm.refl w
  go_enter Try.func16, Try.ntmps16
  go_upto_region 7 with (go_at_call 11; refine cG.mono ?_; rintro e w1 ⟨rfl, hb1⟩)
  clear cG hw1 hmn hw2
  refine wp_region_stages [.val (.slice A l.length d), .val (.int .i64 P), .val (.int .i64 O), .val (.string T), .val (.int .i64 k), .val (.string (T.extract 0 k)), .val (.string S), .val (.string (T.extract 0 k ++ S)), .val (.string T), .val (.int .i64 e), .val (.string (T.extract e T.size)), .val (.string (T.extract 0 k ++ S ++ T.extract e T.size)), .val (.int .i64 t), .late, .late [13], .late [13], .late [14], .late [15]] [13, 14, 15, 16, 17]
    (FreeS [13, 14, 15, 16, 17] (PaF R E) w1) (by kernel_rfl) (by kernel_rfl) (by kernel_rfl) (FreeS.stay paF_stay) (fun Y => FreeS.start (Calm.refl _).drew) (fun Y => ?_)
  iterate 5
    refine planS_val (by kernel_rfl) (fun L9 u hb hS => ?_) ?_
    · clear hS hb
      go_simp
    simp only [Act.put, List.setIfInBounds_toArray, List.set_cons_zero, List.set_cons_succ, Nat.reduceAdd]
  refine planS_val (by kernel_rfl) (fun L9 u hb hS => ?_) ?_
  · clear hS hb
    go_simp
  simp only [Act.put, List.setIfInBounds_toArray, List.set_cons_zero, List.set_cons_succ, Nat.reduceAdd]
  refine planS_val (by kernel_rfl) (fun L9 u hb hS => ?_) ?_
  · clear hS hb
    go_simp
  simp only [Act.put, List.setIfInBounds_toArray, List.set_cons_zero, List.set_cons_succ, Nat.reduceAdd]
  refine planS_val (by kernel_rfl) (fun L9 u hb hS => ?_) ?_
  · clear hS hb
    have g1 := HZ1.out
    have q1 : ¬ 9223372036854775807 < k + S.size := by have g2 := HSZ.out; have g3 := HTS.out; omega
    go_simp
  simp only [Act.put, List.setIfInBounds_toArray, List.set_cons_zero, List.set_cons_succ, Nat.reduceAdd]
  iterate 2
    refine planS_val (by kernel_rfl) (fun L9 u hb hS => ?_) ?_
    · clear hS hb
      go_simp
    simp only [Act.put, List.setIfInBounds_toArray, List.set_cons_zero, List.set_cons_succ, Nat.reduceAdd]
  refine planS_val (by kernel_rfl) (fun L9 u hb hS => ?_) ?_
  · clear hS hb
    go_simp
  simp only [Act.put, List.setIfInBounds_toArray, List.set_cons_zero, List.set_cons_succ, Nat.reduceAdd]
  refine planS_val (by kernel_rfl) (fun L9 u hb hS => ?_) ?_
  · clear hS hb
    have q1 : ¬ 9223372036854775807 < min k T.size + S.size + (T.size - e) := by have g2 := HSZ.out; have g3 := HTS.out; omega
    go_simp
  simp only [Act.put, List.setIfInBounds_toArray, List.set_cons_zero, List.set_cons_succ, Nat.reduceAdd]
  refine planS_val (by kernel_rfl) (fun L9 u hb hS => ?_) ?_
  · clear hS hb
    go_simp
  simp only [Act.put, List.setIfInBounds_toArray, List.set_cons_zero, List.set_cons_succ, Nat.reduceAdd]
  refine planS_late (fun L9 u hi hb hS => ?_) ?_
  · have hc := hS.1
    have H := Lib.hid (fun (y : Value) (u' : World) (hb' : Calm u u') (hn : ∃ A c, y = .tuple #[.slice A R.length c, .int .i64 E] ∧ Lies u' A R) => (FreeS.do paF_stay hS hb' (i := 13) (show PaF R E 13 y u' from hn) : FreeS [13, 14, 15, 16, 17] (PaF R E) w1 ([13, 14, 15, 16, 17].map (updB L9 13)) (updV Y 13 y) u'))
    have c1 := cS u (hb1.call hc)
    clear hS hb hi hc
    go_wp2_with (go_at_call 14; (with_reducible refine c1.mono ?_); rintro e w9 ⟨v, rfl, ⟨A1, c1, rfl, _, h1⟩, hk⟩; have H1 := Lib.hid h1; have HK := Lib.hid hk; clear h1 hk)
    exact H.out _ w9 HK.out ⟨A1, c1, rfl, H1.out⟩
  simp only [Act.put, List.setIfInBounds_toArray, List.set_cons_zero, List.set_cons_succ, Nat.reduceAdd]
  refine planS_late (fun L9 u hi hb hS => ?_) ?_
  · have hc := hS.1
    have H := Lib.hid (fun (y : Value) (u' : World) (hb' : Calm u u') (hn : ∃ A c, y = .slice A R.length c ∧ Lies u' A R) => (FreeS.do paF_stay hS hb' (i := 14) (show PaF R E 14 y u' from hn) : FreeS [13, 14, 15, 16, 17] (PaF R E) w1 ([13, 14, 15, 16, 17].map (updB L9 14)) (updV Y 14 y) u'))
    obtain ⟨A1, c1, e1, h1⟩ := (show ∃ A c, Y 13 = .tuple #[.slice A R.length c, .int .i64 E] ∧ Lies u A R from FreeS.get hS (i := 13) (by decide) (hb 13 (by simp)))
    rw [e1]
    clear e1
    have H1 := Lib.hid h1
    clear h1
    clear hS hb hi hc
    go_wp2_with fail
    exact H.out _ u (Calm.refl _) ⟨A1, c1, rfl, H1.out⟩
  simp only [Act.put, List.setIfInBounds_toArray, List.set_cons_zero, List.set_cons_succ, Nat.reduceAdd]
  refine planS_late (fun L9 u hi hb hS => ?_) ?_
  · have hc := hS.1
    have H := Lib.hid (fun (y : Value) (u' : World) (hb' : Calm u u') (hn : y = .int .i64 E) => (FreeS.do paF_stay hS hb' (i := 15) (show PaF R E 15 y u' from hn) : FreeS [13, 14, 15, 16, 17] (PaF R E) w1 ([13, 14, 15, 16, 17].map (updB L9 15)) (updV Y 15 y) u'))
    obtain ⟨A1, c1, e1, h1⟩ := (show ∃ A c, Y 13 = .tuple #[.slice A R.length c, .int .i64 E] ∧ Lies u A R from FreeS.get hS (i := 13) (by decide) (hb 13 (by simp)))
    rw [e1]
    clear e1
    clear h1
    clear hS hb hi hc
    go_wp2_with fail
    exact H.out _ u (Calm.refl _) rfl
  simp only [Act.put, List.setIfInBounds_toArray, List.set_cons_zero, List.set_cons_succ, Nat.reduceAdd]
  refine planS_late (fun L9 u hi hb hS => ?_) ?_
  · have hc := hS.1
    have H := Lib.hid (fun (y : Value) (u' : World) (hb' : Calm u u') (hn : ∃ A c, y = .slice A R.length c ∧ Lies u' A R) => (FreeS.do paF_stay hS hb' (i := 16) (show PaF R E 16 y u' from hn) : FreeS [13, 14, 15, 16, 17] (PaF R E) w1 ([13, 14, 15, 16, 17].map (updB L9 16)) (updV Y 16 y) u'))
    obtain ⟨A1, c1, e1, h1⟩ := (show ∃ A c, Y 14 = .slice A R.length c ∧ Lies u A R from FreeS.get hS (i := 14) (by decide) (hb 14 (by simp)))
    rw [e1]
    clear e1
    have H1 := Lib.hid h1
    clear h1
    clear hS hb hi hc
    go_wp2_with fail
    exact H.out _ u (Calm.refl _) ⟨A1, c1, rfl, H1.out⟩
  simp only [Act.put, List.setIfInBounds_toArray, List.set_cons_zero, List.set_cons_succ, Nat.reduceAdd]
  refine planS_late (fun L9 u hi hb hS => ?_) ?_
  · have hc := hS.1
    have H := Lib.hid (fun (y : Value) (u' : World) (hb' : Calm u u') (hn : y = .int .i64 E) => (FreeS.do paF_stay hS hb' (i := 17) (show PaF R E 17 y u' from hn) : FreeS [13, 14, 15, 16, 17] (PaF R E) w1 ([13, 14, 15, 16, 17].map (updB L9 17)) (updV Y 17 y) u'))
    have e1 := (show Y 15 = .int .i64 E from FreeS.get hS (i := 15) (by decide) (hb 15 (by simp)))
    rw [e1]
    clear e1
    clear hS hb hi hc
    go_wp2_with fail
    exact H.out _ u (Calm.refl _) rfl
  simp only [Act.put, List.setIfInBounds_toArray, List.set_cons_zero, List.set_cons_succ, Nat.reduceAdd]
  try simp only [Act.put, Nat.reduceAdd]
  refine planS_end ?_
  intro w7 hS
  have hc7 := hS.1
  obtain ⟨A9, c9, e9, h9⟩ := (show ∃ A c, Y 16 = .slice A R.length c ∧ Lies w7 A R from FreeS.get (L := fun _ => true) hS (i := 16) (by decide) rfl)
  have e8 := (show Y 17 = .int .i64 E from FreeS.get (L := fun _ => true) hS (i := 17) (by decide) rfl)
  have H9 := Lib.hid h9
  rw [e9, e8]
  clear hS e9 e8 h9
  go_wp2_with fail
  go_ret2
  exact ⟨_, rfl, ⟨A9, c9, rfl, HR4.out, H9.out⟩, hb1.call hc7⟩
open Go.RowKit
theorem aheadS_Fol {p o f m p' o' f' m' : Int} : aheadS p' o' f' m' p o f m = true ↔ sLt (p', o', f') m' (p, o, f) m := by
 have h := scmp_sLt (a := ⟨p', o', f', m', 0, ByteArray.empty⟩) (b := ⟨p, o, f, m, 0, ByteArray.empty⟩)
 simp only [El.key] at h
 unfold aheadS; rw [decide_eq_true_eq, h]
set_option maxHeartbeats 8000000 in
theorem refRun_any (A : Option Addr) (c : Nat) (l : List El) (w : World) (hn : l.length ≤ 9223372036854775807) (hL : Lies w A l) :
    Calls Try.prog 31 #[.slice A l.length c] w fun e w' => e = .returned (.int .i64 (runErr l)) ∧ Calm w w' := by
  by_cases hbig : 400 < l.length
  · have K : Hid (2 = runErr l) := by show _ = _; unfold runErr; rw [if_pos hbig]
    go_enter Try.func31, Try.ntmps31
    go_wp2_with fail
    go_ret
    exact ⟨ret_int K.out, Calm.refl _⟩
  go_enter Try.func31, Try.ntmps31
  go_wp2_with fail
  go_loopw [12] (fun i wr => ∃ k : Nat, k ≤ l.length ∧ i = .int .i64 k ∧ Calm w wr ∧ NoErr l k) (fun i _ => l.length - (intOf i).toNat)
  case atStart => exact ⟨0, Nat.zero_le _, rfl, Calm.refl _, fun j hj => absurd hj (Nat.not_lt_zero _)⟩
  case round =>
    obtain ⟨k, hk, rfl, hu, hN⟩ := hrel
    by_cases hlt : k < l.length
    rotate_left
    · have hkl : k = l.length := by omega
      have K : Hid (0 = runErr l) := runErr_good hbig (by rw [← hkl]; exact hN)
      clear hkl
      go_wp2_with fail
      go_ret
      exact ⟨ret_int K.out, hu⟩
    obtain ⟨b, q, p, o, f, m, g, s, rfl, hb, HE, hm, c0, c1, c2, c3, c4, c5⟩ := (hL.calm hu).get hlt
    by_cases he : elemErr p o f m g s.size = 0
    rotate_left
    · have b1 : (elemErr p o f m g s.size != 0) = true := by simpa using he
      have K : Hid (elemErr p o f m g s.size = runErr l) := by
        have h1 := stepErr_err HE.out (show El.err ⟨p, o, f, m, g, s⟩ ≠ 0 from he)
        rw [← runErr_at hbig hN (by rw [h1]; exact he) hlt, h1]; rfl
      clear he
      go_wp2_with (go_at_call 65; refine (refElem_any _ _ _ _ _ _ _ hm).mono ?_; rintro e w1 ⟨rfl, hb1⟩)
      go_ret
      exact ⟨ret_int K.out, by repeat (first | (with_reducible exact Calm.refl _) | (with_reducible refine Calm.alloc ?_ _) | (with_reducible refine Calm.drew ?_) | (with_reducible refine Calm.drewN ?_ _) | (refine Calm.call ?_ (by with_reducible assumption)))⟩
    have b1 : (elemErr p o f m g s.size != 0) = false := by simpa using he
    have HE0 : Hid (elemErr p o f m g s.size = 0) := he
    clear he
    by_cases hk0 : k = 0
    · subst hk0
      have hN1 : NoErr l 1 := fun j hj => by
        have : j = 0 := by omega
        subst this
        exact stepErr_first HE.out HE0.out
      simp only [Nat.zero_mul, Nat.add_zero] at c0 c1 c2 c3 c4 c5
      go_wp2_with (go_at_call 65; refine (refElem_any _ _ _ _ _ _ _ hm).mono ?_; rintro e w1 ⟨rfl, hb1⟩)
      exact ⟨⟨1, by omega, rfl, (hu.alloc _).call hb1, hN1⟩, by simp [intOf]; omega⟩
    obtain ⟨p', o', f', m', g', s', HE', hm', d0, d1, d2, d3, d4, d5⟩ := (hL.calm hu).get2 (k := k - 1) (by omega)
    have hS := stepErr_form HE.out HE0.out (by omega) HE'.out
    have hg' : g' = 0 ∨ 0 < g' := by
      have h1 := ((stepErr_zero (l := l) (i := k - 1) (by omega)).1 (hN (k - 1) (by omega))).1
      rw [(List.getElem?_eq_some_iff.1 HE'.out).2] at h1
      have h2 := err_time h1
      unfold timeOk at h2; simp only at h2; omega
    have z0 : 0 < k := by omega
    have z1 : IntKind.i64.wrap ((k : Int) - 1) = (k : Int) - 1 := IntWalk.i64_in _ (by omega)
    have z2 : ((k : Int) - 1).toNat = k - 1 := by omega
    have z3 : 0 ≤ (k : Int) - 1 := by omega
    have z4 : (k : Int) - 1 < l.length := by omega
    have z5 : 1 ≤ (k : Int) := by omega
    have hLR : Calm w wr ∧ k < l.length ∧ NoErr l k ∧ ¬ 400 < l.length := ⟨hu, hlt, hN, hbig⟩
    have HS : Hid (stepErr l k = if Fol ⟨p', o', f', m', g', s'⟩ ⟨p, o, f, m, g, s⟩ then 0 else 3) := hS
    clear hS
    go_upto_region 11 with (go_at_call 65; refine (refElem_any _ _ _ _ _ _ _ hm).mono ?_; rintro e w1 ⟨rfl, hb1⟩; have hx1 := (hb1.block (k := wr.heap.size) (by simp)).trans (heap_new wr _); have hv := ((Calm.refl wr).alloc _).call hb1; have hb2 : b < w1.heap.size := Nat.lt_of_lt_of_le hb hv.size; have hvc := hv.facts.1; replace d0 := (hvc _ _ hb).trans d0; replace d1 := (hvc _ _ hb).trans d1; replace d2 := (hvc _ _ hb).trans d2; replace d3 := (hvc _ _ hb).trans d3; replace d4 := (hvc _ _ hb).trans d4; replace d5 := (hvc _ _ hb).trans d5; clear hvc hb1 c0 c1 c2 c3 c4 c5 hL)
    clear b1 z0 z1 z2 z3 z4 z5 d0 d1 d2 d3 d4 d5
    have hx := heap_past (.cells #[.int .i64 p', .int .i64 o', .int .i64 f', .int .i64 m', .int .i64 g', .string s'] 35) hx1
    have hy := heap_new w1 (.cells #[.int .i64 p', .int .i64 o', .int .i64 f', .int .i64 m', .int .i64 g', .string s'] 35)
    have hv1 := (hu.call hv).alloc (.cells #[.int .i64 p', .int .i64 o', .int .i64 f', .int .i64 m', .int .i64 g', .string s'] 35)
    have hne : wr.heap.size ≠ w1.heap.size := by have := (Array.getElem?_eq_some_iff.1 hx1).1; omega
    generalize w1.alloc (.cells #[.int .i64 p', .int .i64 o', .int .i64 f', .int .i64 m', .int .i64 g', .string s'] 35) = wc at hx hy hv1 ⊢
    obtain ⟨x0, x1, x2, x3, x4, x5, hxs⟩ := row6 hx
    obtain ⟨y0, y1, y2, y3, y4, y5, hys⟩ := row6 hy
    clear hv hb2 hx1 hx hy
    generalize wr.heap.size = X0 at *
    generalize w1.heap.size = Y0 at *
    have hFA : Fol ⟨p', o', f', m', g', s'⟩ ⟨p, o, f, m, g, s⟩ ↔ aheadS p' o' f' m' p o f m = true ∧ ((p', o', f') = (p, o, f) → g' ≠ 0 ∧ g' ≤ m) := by rw [aheadS_Fol]; exact Iff.rfl
    clear hN hbig hlt hk0 HE HE0 HE' hu hm hm'
    have hN := hLR.2.2.1
    have hlt := hLR.2.1
    cases hA : aheadS p' o' f' m' p o f m
    · have hF : ¬ Fol ⟨p', o', f', m', g', s'⟩ ⟨p, o, f, m, g, s⟩ := fun h => by rw [hFA, hA] at h; exact absurd h.1 (by simp)
      have K : Hid (3 = runErr l) := by
        have h := HS.out
        rw [if_neg hF] at h
        exact h.symm.trans (runErr_at hLR.2.2.2 hLR.2.2.1 (by rw [h]; decide) hLR.2.1)
      clear hF HS
      have cS : ∀ u, Calls Try.prog 66 #[.agg #[.int .i64 p', .int .i64 o', .int .i64 f', .int .i64 m'], .agg #[.int .i64 p, .int .i64 o, .int .i64 f, .int .i64 m]] u fun e w' => e = .returned (.bool false) ∧ Calm u w' := fun u => by rw [← hA]; exact aheadSpot_any _ _ _ _ _ _ _ _ _
      clear hA hFA
      refine wp_region_plan [.val (.agg #[.int .i64 p', .int .i64 o', .int .i64 f', .int .i64 m', .int .i64 g', .string s']), .val (.agg #[.int .i64 p', .int .i64 o', .int .i64 f', .int .i64 m']), .val (.agg #[.int .i64 p, .int .i64 o, .int .i64 f, .int .i64 m, .int .i64 g, .string s]), .val (.agg #[.int .i64 p, .int .i64 o, .int .i64 f, .int .i64 m]), .val (.bool false), .val (.bool true), .val (.bool true), .idle, .idle, .idle, .idle, .idle, .idle, .idle, .idle, .idle, .idle, .idle, .idle, .idle, .idle, .idle, .idle, .idle, .idle, .val (.bool true)] (by kernel_rfl) (by kernel_rfl) (by kernel_rfl) ?_
      intro X
      iterate 7
        refine plan_val (by kernel_rfl) (fun u hu => ?_) ?_
        · obtain ⟨hc, hf, hz⟩ := hu.of_drew.facts
          go_simp
          all_goals first
            | (go_at_call 67; exact refSpot_any _ _ _ _ _ _ _)
            | (go_at_call 66; exact cS _)
        simp only [Act.put, List.setIfInBounds_toArray, List.set_cons_zero, List.set_cons_succ, Nat.reduceAdd]
      iterate 18
        refine plan_idle (by kernel_rfl) ?_
        simp only [Act.put, List.setIfInBounds_toArray, List.set_cons_zero, List.set_cons_succ, Nat.reduceAdd]
      iterate 1
        refine plan_val (by kernel_rfl) (fun u hu => ?_) ?_
        · obtain ⟨hc, hf, hz⟩ := hu.of_drew.facts
          go_simp
          all_goals first
            | (go_at_call 67; exact refSpot_any _ _ _ _ _ _ _)
            | (go_at_call 66; exact cS _)
        simp only [Act.put, List.setIfInBounds_toArray, List.set_cons_zero, List.set_cons_succ, Nat.reduceAdd]
      refine plan_end ?_
      intro w' hB
      have hk := hB.calm.of_drew
      clear hB cS
      go_wp2_with fail
      go_ret
      exact ⟨ret_int K.out, hv1.call hk⟩
    by_cases hK : (p', o', f') = (p, o, f)
    rotate_left
    · have hF : Fol ⟨p', o', f', m', g', s'⟩ ⟨p, o, f, m, g, s⟩ := hFA.2 ⟨hA, fun h => absurd h hK⟩
      have hN1 : NoErr l (k + 1) := fun j hj => by
        rcases Nat.lt_or_ge j k with h | h
        · exact hN j h
        · rw [show j = k by omega]; have h := HS.out; rw [if_pos hF] at h; exact h
      clear hF HS
      have cS : ∀ u, Calls Try.prog 66 #[.agg #[.int .i64 p', .int .i64 o', .int .i64 f', .int .i64 m'], .agg #[.int .i64 p, .int .i64 o, .int .i64 f, .int .i64 m]] u fun e w' => e = .returned (.bool true) ∧ Calm u w' := fun u => by rw [← hA]; exact aheadSpot_any _ _ _ _ _ _ _ _ _
      clear hA hFA
      have h3 : ¬ p' = p ∨ (p' = p ∧ ¬ o' = o) ∨ (p' = p ∧ o' = o ∧ ¬ f' = f) := by simp only [Prod.mk.injEq] at hK; omega
      clear hK
      rcases h3 with h3 | ⟨h3, h4⟩ | ⟨h3, h4, h5⟩
      · skip
        refine wp_region_plan [.val (.agg #[.int .i64 p', .int .i64 o', .int .i64 f', .int .i64 m', .int .i64 g', .string s']), .val (.agg #[.int .i64 p', .int .i64 o', .int .i64 f', .int .i64 m']), .val (.agg #[.int .i64 p, .int .i64 o, .int .i64 f, .int .i64 m, .int .i64 g, .string s]), .val (.agg #[.int .i64 p, .int .i64 o, .int .i64 f, .int .i64 m]), .val (.bool true), .val (.bool false), .val (.bool false), .val (.pointer (some ⟨Y0, 0, none⟩)), .val (.agg #[.int .i64 p', .int .i64 o', .int .i64 f']), .val (.pointer (some ⟨X0, 0, none⟩)), .val (.agg #[.int .i64 p, .int .i64 o, .int .i64 f]), .val (.bool false), .val (.bool false), .idle, .idle, .idle, .idle, .idle, .idle, .idle, .idle, .idle, .idle, .idle, .val (.bool false), .val (.bool false)] (by kernel_rfl) (by kernel_rfl) (by kernel_rfl) ?_
        intro X
        iterate 13
          refine plan_val (by kernel_rfl) (fun u hu => ?_) ?_
          · obtain ⟨hc, hf, hz⟩ := hu.of_drew.facts
            go_simp
            all_goals first
              | (go_at_call 67; exact refSpot_any _ _ _ _ _ _ _)
              | (go_at_call 66; exact cS _)
          simp only [Act.put, List.setIfInBounds_toArray, List.set_cons_zero, List.set_cons_succ, Nat.reduceAdd]
        iterate 11
          refine plan_idle (by kernel_rfl) ?_
          simp only [Act.put, List.setIfInBounds_toArray, List.set_cons_zero, List.set_cons_succ, Nat.reduceAdd]
        iterate 2
          refine plan_val (by kernel_rfl) (fun u hu => ?_) ?_
          · obtain ⟨hc, hf, hz⟩ := hu.of_drew.facts
            go_simp
            all_goals first
              | (go_at_call 67; exact refSpot_any _ _ _ _ _ _ _)
              | (go_at_call 66; exact cS _)
          simp only [Act.put, List.setIfInBounds_toArray, List.set_cons_zero, List.set_cons_succ, Nat.reduceAdd]
        refine plan_end ?_
        intro w' hB
        have hk := hB.calm.of_drew
        clear hB cS
        go_wp2_with fail
        go_roundw
        case rel => exact ⟨k + 1, by omega, by go_num, hv1.call hk, hN1⟩
        case measure => simp [intOf]; omega
      · skip
        subst h3
        refine wp_region_plan [.val (.agg #[.int .i64 p', .int .i64 o', .int .i64 f', .int .i64 m', .int .i64 g', .string s']), .val (.agg #[.int .i64 p', .int .i64 o', .int .i64 f', .int .i64 m']), .val (.agg #[.int .i64 p', .int .i64 o, .int .i64 f, .int .i64 m, .int .i64 g, .string s]), .val (.agg #[.int .i64 p', .int .i64 o, .int .i64 f, .int .i64 m]), .val (.bool true), .val (.bool false), .val (.bool false), .val (.pointer (some ⟨Y0, 0, none⟩)), .val (.agg #[.int .i64 p', .int .i64 o', .int .i64 f']), .val (.pointer (some ⟨X0, 0, none⟩)), .val (.agg #[.int .i64 p', .int .i64 o, .int .i64 f]), .val (.bool false), .val (.bool false), .idle, .idle, .idle, .idle, .idle, .idle, .idle, .idle, .idle, .idle, .idle, .val (.bool false), .val (.bool false)] (by kernel_rfl) (by kernel_rfl) (by kernel_rfl) ?_
        intro X
        iterate 13
          refine plan_val (by kernel_rfl) (fun u hu => ?_) ?_
          · obtain ⟨hc, hf, hz⟩ := hu.of_drew.facts
            go_simp
            all_goals first
              | (go_at_call 67; exact refSpot_any _ _ _ _ _ _ _)
              | (go_at_call 66; exact cS _)
          simp only [Act.put, List.setIfInBounds_toArray, List.set_cons_zero, List.set_cons_succ, Nat.reduceAdd]
        iterate 11
          refine plan_idle (by kernel_rfl) ?_
          simp only [Act.put, List.setIfInBounds_toArray, List.set_cons_zero, List.set_cons_succ, Nat.reduceAdd]
        iterate 2
          refine plan_val (by kernel_rfl) (fun u hu => ?_) ?_
          · obtain ⟨hc, hf, hz⟩ := hu.of_drew.facts
            go_simp
            all_goals first
              | (go_at_call 67; exact refSpot_any _ _ _ _ _ _ _)
              | (go_at_call 66; exact cS _)
          simp only [Act.put, List.setIfInBounds_toArray, List.set_cons_zero, List.set_cons_succ, Nat.reduceAdd]
        refine plan_end ?_
        intro w' hB
        have hk := hB.calm.of_drew
        clear hB cS
        go_wp2_with fail
        go_roundw
        case rel => exact ⟨k + 1, by omega, by go_num, hv1.call hk, hN1⟩
        case measure => simp [intOf]; omega
      · skip
        subst h3
        subst h4
        refine wp_region_plan [.val (.agg #[.int .i64 p', .int .i64 o', .int .i64 f', .int .i64 m', .int .i64 g', .string s']), .val (.agg #[.int .i64 p', .int .i64 o', .int .i64 f', .int .i64 m']), .val (.agg #[.int .i64 p', .int .i64 o', .int .i64 f, .int .i64 m, .int .i64 g, .string s]), .val (.agg #[.int .i64 p', .int .i64 o', .int .i64 f, .int .i64 m]), .val (.bool true), .val (.bool false), .val (.bool false), .val (.pointer (some ⟨Y0, 0, none⟩)), .val (.agg #[.int .i64 p', .int .i64 o', .int .i64 f']), .val (.pointer (some ⟨X0, 0, none⟩)), .val (.agg #[.int .i64 p', .int .i64 o', .int .i64 f]), .val (.bool false), .val (.bool false), .idle, .idle, .idle, .idle, .idle, .idle, .idle, .idle, .idle, .idle, .idle, .val (.bool false), .val (.bool false)] (by kernel_rfl) (by kernel_rfl) (by kernel_rfl) ?_
        intro X
        iterate 13
          refine plan_val (by kernel_rfl) (fun u hu => ?_) ?_
          · obtain ⟨hc, hf, hz⟩ := hu.of_drew.facts
            go_simp
            all_goals first
              | (go_at_call 67; exact refSpot_any _ _ _ _ _ _ _)
              | (go_at_call 66; exact cS _)
          simp only [Act.put, List.setIfInBounds_toArray, List.set_cons_zero, List.set_cons_succ, Nat.reduceAdd]
        iterate 11
          refine plan_idle (by kernel_rfl) ?_
          simp only [Act.put, List.setIfInBounds_toArray, List.set_cons_zero, List.set_cons_succ, Nat.reduceAdd]
        iterate 2
          refine plan_val (by kernel_rfl) (fun u hu => ?_) ?_
          · obtain ⟨hc, hf, hz⟩ := hu.of_drew.facts
            go_simp
            all_goals first
              | (go_at_call 67; exact refSpot_any _ _ _ _ _ _ _)
              | (go_at_call 66; exact cS _)
          simp only [Act.put, List.setIfInBounds_toArray, List.set_cons_zero, List.set_cons_succ, Nat.reduceAdd]
        refine plan_end ?_
        intro w' hB
        have hk := hB.calm.of_drew
        clear hB cS
        go_wp2_with fail
        go_roundw
        case rel => exact ⟨k + 1, by omega, by go_num, hv1.call hk, hN1⟩
        case measure => simp [intOf]; omega
    simp only [Prod.mk.injEq] at hK
    obtain ⟨rfl, rfl, rfl⟩ := hK
    by_cases hg0 : 0 < g'
    rotate_left
    · have hF : ¬ Fol ⟨p', o', f', m', g', s'⟩ ⟨p', o', f', m, g, s⟩ := fun h => by have := ((hFA.1 h).2 rfl).1; omega
      have K : Hid (3 = runErr l) := by
        have h := HS.out
        rw [if_neg hF] at h
        exact h.symm.trans (runErr_at hLR.2.2.2 hLR.2.2.1 (by rw [h]; decide) hLR.2.1)
      clear hF HS
      have cS : ∀ u, Calls Try.prog 66 #[.agg #[.int .i64 p', .int .i64 o', .int .i64 f', .int .i64 m'], .agg #[.int .i64 p', .int .i64 o', .int .i64 f', .int .i64 m]] u fun e w' => e = .returned (.bool true) ∧ Calm u w' := fun u => by rw [← hA]; exact aheadSpot_any _ _ _ _ _ _ _ _ _
      clear hA hFA hg'
      refine wp_region_plan [.val (.agg #[.int .i64 p', .int .i64 o', .int .i64 f', .int .i64 m', .int .i64 g', .string s']), .val (.agg #[.int .i64 p', .int .i64 o', .int .i64 f', .int .i64 m']), .val (.agg #[.int .i64 p', .int .i64 o', .int .i64 f', .int .i64 m, .int .i64 g, .string s]), .val (.agg #[.int .i64 p', .int .i64 o', .int .i64 f', .int .i64 m]), .val (.bool true), .val (.bool false), .val (.bool false), .val (.pointer (some ⟨Y0, 0, none⟩)), .val (.agg #[.int .i64 p', .int .i64 o', .int .i64 f']), .val (.pointer (some ⟨X0, 0, none⟩)), .val (.agg #[.int .i64 p', .int .i64 o', .int .i64 f']), .val (.bool true), .val (.bool true), .val (.pointer (some ⟨Y0, 4, none⟩)), .val (.int .i64 g'), .val (.bool false), .val (.bool false), .idle, .idle, .idle, .idle, .idle, .val (.bool false), .val (.bool true), .val (.bool true), .val (.bool true)] (by kernel_rfl) (by kernel_rfl) (by kernel_rfl) ?_
      intro X
      iterate 17
        refine plan_val (by kernel_rfl) (fun u hu => ?_) ?_
        · obtain ⟨hc, hf, hz⟩ := hu.of_drew.facts
          go_simp
          all_goals first
            | (go_at_call 67; exact refSpot_any _ _ _ _ _ _ _)
            | (go_at_call 66; exact cS _)
        simp only [Act.put, List.setIfInBounds_toArray, List.set_cons_zero, List.set_cons_succ, Nat.reduceAdd]
      iterate 5
        refine plan_idle (by kernel_rfl) ?_
        simp only [Act.put, List.setIfInBounds_toArray, List.set_cons_zero, List.set_cons_succ, Nat.reduceAdd]
      iterate 4
        refine plan_val (by kernel_rfl) (fun u hu => ?_) ?_
        · obtain ⟨hc, hf, hz⟩ := hu.of_drew.facts
          go_simp
          all_goals first
            | (go_at_call 67; exact refSpot_any _ _ _ _ _ _ _)
            | (go_at_call 66; exact cS _)
        simp only [Act.put, List.setIfInBounds_toArray, List.set_cons_zero, List.set_cons_succ, Nat.reduceAdd]
      refine plan_end ?_
      intro w' hB
      have hk := hB.calm.of_drew
      clear hB cS
      go_wp2_with fail
      go_ret
      exact ⟨ret_int K.out, hv1.call hk⟩
    by_cases hgm : g' ≤ m
    · have hF : Fol ⟨p', o', f', m', g', s'⟩ ⟨p', o', f', m, g, s⟩ := hFA.2 ⟨hA, fun _ => ⟨by omega, hgm⟩⟩
      have hN1 : NoErr l (k + 1) := fun j hj => by
        rcases Nat.lt_or_ge j k with h | h
        · exact hN j h
        · rw [show j = k by omega]; have h := HS.out; rw [if_pos hF] at h; exact h
      clear hF HS
      have cS : ∀ u, Calls Try.prog 66 #[.agg #[.int .i64 p', .int .i64 o', .int .i64 f', .int .i64 m'], .agg #[.int .i64 p', .int .i64 o', .int .i64 f', .int .i64 m]] u fun e w' => e = .returned (.bool true) ∧ Calm u w' := fun u => by rw [← hA]; exact aheadSpot_any _ _ _ _ _ _ _ _ _
      clear hA hFA hg'
      refine wp_region_plan [.val (.agg #[.int .i64 p', .int .i64 o', .int .i64 f', .int .i64 m', .int .i64 g', .string s']), .val (.agg #[.int .i64 p', .int .i64 o', .int .i64 f', .int .i64 m']), .val (.agg #[.int .i64 p', .int .i64 o', .int .i64 f', .int .i64 m, .int .i64 g, .string s]), .val (.agg #[.int .i64 p', .int .i64 o', .int .i64 f', .int .i64 m]), .val (.bool true), .val (.bool false), .val (.bool false), .val (.pointer (some ⟨Y0, 0, none⟩)), .val (.agg #[.int .i64 p', .int .i64 o', .int .i64 f']), .val (.pointer (some ⟨X0, 0, none⟩)), .val (.agg #[.int .i64 p', .int .i64 o', .int .i64 f']), .val (.bool true), .val (.bool true), .val (.pointer (some ⟨Y0, 4, none⟩)), .val (.int .i64 g'), .val (.bool true), .val (.bool true), .val (.pointer (some ⟨Y0, 4, none⟩)), .val (.int .i64 g'), .val (.pointer (some ⟨X0, 3, none⟩)), .val (.int .i64 m), .val (.bool true), .val (.bool true), .val (.bool false), .val (.bool false), .val (.bool false)] (by kernel_rfl) (by kernel_rfl) (by kernel_rfl) ?_
      intro X
      iterate 26
        refine plan_val (by kernel_rfl) (fun u hu => ?_) ?_
        · obtain ⟨hc, hf, hz⟩ := hu.of_drew.facts
          go_simp
          all_goals first
            | (go_at_call 67; exact refSpot_any _ _ _ _ _ _ _)
            | (go_at_call 66; exact cS _)
        simp only [Act.put, List.setIfInBounds_toArray, List.set_cons_zero, List.set_cons_succ, Nat.reduceAdd]
      refine plan_end ?_
      intro w' hB
      have hk := hB.calm.of_drew
      clear hB cS
      go_wp2_with fail
      go_roundw
      case rel => exact ⟨k + 1, by omega, by go_num, hv1.call hk, hN1⟩
      case measure => simp [intOf]; omega
    · have hF : ¬ Fol ⟨p', o', f', m', g', s'⟩ ⟨p', o', f', m, g, s⟩ := fun h => by have := ((hFA.1 h).2 rfl).2; omega
      have K : Hid (3 = runErr l) := by
        have h := HS.out
        rw [if_neg hF] at h
        exact h.symm.trans (runErr_at hLR.2.2.2 hLR.2.2.1 (by rw [h]; decide) hLR.2.1)
      clear hF HS
      have cS : ∀ u, Calls Try.prog 66 #[.agg #[.int .i64 p', .int .i64 o', .int .i64 f', .int .i64 m'], .agg #[.int .i64 p', .int .i64 o', .int .i64 f', .int .i64 m]] u fun e w' => e = .returned (.bool true) ∧ Calm u w' := fun u => by rw [← hA]; exact aheadSpot_any _ _ _ _ _ _ _ _ _
      clear hA hFA hg'
      refine wp_region_plan [.val (.agg #[.int .i64 p', .int .i64 o', .int .i64 f', .int .i64 m', .int .i64 g', .string s']), .val (.agg #[.int .i64 p', .int .i64 o', .int .i64 f', .int .i64 m']), .val (.agg #[.int .i64 p', .int .i64 o', .int .i64 f', .int .i64 m, .int .i64 g, .string s]), .val (.agg #[.int .i64 p', .int .i64 o', .int .i64 f', .int .i64 m]), .val (.bool true), .val (.bool false), .val (.bool false), .val (.pointer (some ⟨Y0, 0, none⟩)), .val (.agg #[.int .i64 p', .int .i64 o', .int .i64 f']), .val (.pointer (some ⟨X0, 0, none⟩)), .val (.agg #[.int .i64 p', .int .i64 o', .int .i64 f']), .val (.bool true), .val (.bool true), .val (.pointer (some ⟨Y0, 4, none⟩)), .val (.int .i64 g'), .val (.bool true), .val (.bool true), .val (.pointer (some ⟨Y0, 4, none⟩)), .val (.int .i64 g'), .val (.pointer (some ⟨X0, 3, none⟩)), .val (.int .i64 m), .val (.bool false), .val (.bool false), .val (.bool true), .val (.bool true), .val (.bool true)] (by kernel_rfl) (by kernel_rfl) (by kernel_rfl) ?_
      intro X
      iterate 26
        refine plan_val (by kernel_rfl) (fun u hu => ?_) ?_
        · obtain ⟨hc, hf, hz⟩ := hu.of_drew.facts
          go_simp
          all_goals first
            | (go_at_call 67; exact refSpot_any _ _ _ _ _ _ _)
            | (go_at_call 66; exact cS _)
        simp only [Act.put, List.setIfInBounds_toArray, List.set_cons_zero, List.set_cons_succ, Nat.reduceAdd]
      refine plan_end ?_
      intro w' hB
      have hk := hB.calm.of_drew
      clear hB cS
      go_wp2_with fail
      go_ret
      exact ⟨ret_int K.out, hv1.call hk⟩
open Go.RowKit
def El.val (e : El) : Value := .agg #[.int .i64 e.p, .int .i64 e.o, .int .i64 e.f, .int .i64 e.m, .int .i64 e.g, .string e.s]
open Go.RowKit
def KBox (B1 B2 : Nat) (p o f t : Int) (w : World) : Prop :=
 w.heap[B1]? = some (.cells #[.int .i64 p, .int .i64 o, .int .i64 f] 33 (0, 0)) ∧ w.heap[B2]? = some (.cells #[.int .i64 t] 3 (0, 0))
theorem KBox.calm {B1 B2 : Nat} {p o f t : Int} {w w' : World} (h : KBox B1 B2 p o f t w) (hb : Calm w w') : KBox B1 B2 p o f t w' :=
 ⟨(hb.block (Array.getElem?_eq_some_iff.1 h.1).1).trans h.1, (hb.block (Array.getElem?_eq_some_iff.1 h.2).1).trans h.2⟩
set_option maxHeartbeats 4000000 in
theorem at1_any (B1 B2 : Nat) (p o f m g : Int) (s : ByteArray) (p' o' f' t : Int) (w : World) (hB : KBox B1 B2 p' o' f' t w) :
    Calls Try.prog 79 #[.agg #[.int .i64 p, .int .i64 o, .int .i64 f, .int .i64 m, .int .i64 g, .string s], .pointer (some ⟨B1, 0, none⟩), .pointer (some ⟨B2, 0, none⟩)] w fun e w' => e = .returned (.bool (isAt (p', o', f') t ⟨p, o, f, m, g, s⟩)) ∧ Calm w w' := by
  obtain ⟨hx, hy⟩ := hB
  obtain ⟨x0, x1, x2, hxs⟩ := row3 hx
  have y0 := cell_of_row _ _ 0 _ _ _ hy
  simp only [List.getElem?_toArray, List.getElem?_cons_zero] at y0
  have hys := (Array.getElem?_eq_some_iff.1 hy).1
  have hH : Hid (isAt (p', o', f') t ⟨p, o, f, m, g, s⟩ = decide ((p = p' ∧ o = o' ∧ f = f') ∧ liveP m g t)) := by
    show _ = _
    unfold isAt; simp only [El.key, El.live, Prod.mk.injEq]
  generalize isAt (p', o', f') t ⟨p, o, f, m, g, s⟩ = r at hH ⊢
  clear hx hy
  go_enter Try.func79, Try.ntmps79
  go_wp2_with (go_at_call 69; refine (refLive_any _ _ _ _ _ _ _ _).mono ?_; rintro e w1 ⟨rfl, hb1⟩)
  all_goals
    go_ret
    exact ⟨ret_bool (by rw [hH.out]; simp [*]), by repeat (first | (with_reducible exact Calm.refl _) | (with_reducible refine Calm.alloc ?_ _) | (with_reducible refine Calm.drew ?_) | (with_reducible refine Calm.drewN ?_ _) | (refine Calm.call ?_ (by with_reducible assumption)))⟩
def FI (l : List El) (k : Int × Int × Int) (t r : Int) : Prop := (r = -1 ∧ ∀ e ∈ l, isAt k t e = false) ∨ (∃ (i : Nat) (h : i < l.length), r = i ∧ isAt k t l[i] = true ∧ ∀ j (hj : j < l.length), j < i → isAt k t l[j] = false)
theorem FI_ex (l : List El) (k : Int × Int × Int) (t : Int) : ∃ r, FI l k t r := by
 have E : ∀ n, n ≤ l.length → (∃ (i : Nat) (h : i < l.length), isAt k t l[i] = true ∧ ∀ j (hj : j < l.length), j < i → isAt k t l[j] = false) ∨ ∀ j (hj : j < l.length), j < n → isAt k t l[j] = false := fun n => by
  induction n with
  |zero => intro _; right; intro j hj h0; omega
  |succ n ih =>
   intro hn
   rcases ih (by omega) with h | h
   ·exact .inl h
   ·cases hp : isAt k t l[n]
    ·right; intro j hj h1
     rcases Nat.lt_or_ge j n with h2 | h2
     ·exact h j hj h2
     ·rw [show l[j] = l[n] from by congr 1; omega]; exact hp
    ·exact .inl ⟨n, by omega, hp, h⟩
 rcases E l.length (Nat.le_refl _) with ⟨i, h, h1, h2⟩ | h
 ·exact ⟨i, .inr ⟨i, h, rfl, h1, h2⟩⟩
 ·exact ⟨-1, .inl ⟨rfl, fun e he => by obtain ⟨j, hj, rfl⟩ := List.getElem_of_mem he; exact h j hj hj⟩⟩
set_option maxHeartbeats 4000000 in
theorem indexFunc_any (B1 B2 : Nat) (A : Option Addr) (c : Nat) (l : List El) (p' o' f' t r : Int) (w : World) (hn : l.length ≤ 9223372036854775807) (hL : Lies w A l) (hB : KBox B1 B2 p' o' f' t w) (hF : FI l (p', o', f') t r) :
    Calls Try.prog 78 #[.slice A l.length c, .func (.func 79) #[] #[.pointer (some ⟨B1, 0, none⟩), .pointer (some ⟨B2, 0, none⟩)]] w fun e w' => e = .returned (.int .i64 r) ∧ Calm w w' := by
  have HF := Lib.hid hF
  have C : ∀ (u : World) (p o f m g : Int) (s : ByteArray), Calm w u → Calls Try.prog 79 (#[.agg #[.int .i64 p, .int .i64 o, .int .i64 f, .int .i64 m, .int .i64 g, .string s]] ++ #[.pointer (some ⟨B1, 0, none⟩), .pointer (some ⟨B2, 0, none⟩)]) u fun e w' => e = .returned (.bool (isAt (p', o', f') t ⟨p, o, f, m, g, s⟩)) ∧ Calm u w' := fun u p o f m g s hu => at1_any B1 B2 p o f m g s p' o' f' t u (hB.calm hu)
  clear hF hB
  go_enter Try.func78, Try.ntmps78
  go_wp2_with fail
  go_loopw [8] (fun i wr => ∃ k : Nat, k ≤ l.length ∧ i = .int .i64 k ∧ Calm w wr ∧ Hid (∀ j (hj : j < l.length), j < k → isAt (p', o', f') t l[j] = false)) (fun i _ => l.length - (intOf i).toNat)
  case atStart => exact ⟨0, Nat.zero_le _, rfl, Calm.refl _, show ∀ _, _ from fun j hj h => absurd h (Nat.not_lt_zero _)⟩
  case round =>
    obtain ⟨k, hk, rfl, hu, hN⟩ := hrel
    by_cases hlt : k < l.length
    rotate_left
    · have K : Hid (r = -1) := by
        rcases HF.out with h | ⟨i, hi, _, h2, _⟩
        · exact h.1
        · rw [hN.out i hi (by omega)] at h2; cases h2
      clear C
      go_wp2_with fail
      go_ret
      exact ⟨by rw [K.out]; rfl, hu⟩
    obtain ⟨b, q, p, o, f, m, g, s, rfl, hb, HE, hm, c0, c1, c2, c3, c4, c5⟩ := (hL.calm hu).get hlt
    have HE2 := (List.getElem?_eq_some_iff.1 HE.out).2
    have hc := C wr p o f m g s hu
    cases hp : isAt (p', o', f') t ⟨p, o, f, m, g, s⟩
    · rw [hp] at hc
      have hN2 : Hid (∀ j (hj : j < l.length), j < k + 1 → isAt (p', o', f') t l[j] = false) := show ∀ _, _ from fun j hj h => by
        rcases Nat.lt_or_ge j k with h2 | h2
        · exact hN.out j hj h2
        · rw [show l[j] = l[k] from by congr 1; omega, HE2]; exact hp
      clear hp C HE2
      go_wp2_with (go_at_call 79; refine hc.mono ?_; rintro e w1 ⟨rfl, hb1⟩)
      go_roundw
      case rel => exact ⟨k + 1, by omega, by go_num, hu.call hb1, hN2⟩
      case measure => simp [intOf]; omega
    · rw [hp] at hc
      have K : Hid (r = k) := by
        rcases HF.out with h | ⟨i, hi, hr, h2, h3⟩
        · have := h.2 _ (List.getElem_mem hlt); rw [HE2, hp] at this; cases this
        · rw [hr]
          rcases Nat.lt_trichotomy i k with h4 | h4 | h4
          · rw [hN.out i hi h4] at h2; cases h2
          · show _ = _; rw [h4]
          · have := h3 k hlt h4; rw [HE2, hp] at this; cases this
      clear hp C HE2
      go_wp2_with (go_at_call 79; refine hc.mono ?_; rintro e w1 ⟨rfl, hb1⟩)
      go_ret
      exact ⟨by rw [K.out]; rfl, hu.call hb1⟩
def RefAtEnd (x : El) (b : Bool) (w : World) (e : Ending) (w' : World) : Prop := e = .returned (.tuple #[x.val, .bool b]) ∧ Calm w w'
set_option maxHeartbeats 4000000 in
theorem refAt_any (A : Option Addr) (d : Nat) (l : List El) (p' o' f' t : Int) (w : World) (hn : l.length ≤ 9223372036854775807) (hL : Lies w A l) :
    Calls Try.prog 41 #[.slice A l.length d, .agg #[.int .i64 p', .int .i64 o', .int .i64 f'], .int .i64 t] w (RefAtEnd ((atR l (p', o', f') t).getD zeroEl) (atR l (p', o', f') t).isSome w) := by
  obtain ⟨r, hF⟩ := FI_ex l (p', o', f') t
  have hz : (((w.alloc (.cells #[.int .i64 p', .int .i64 o', .int .i64 f'] 33)).alloc (.cells #[.int .i64 t] 3)).alloc (.cells #[.int .i64 0, .int .i64 0, .int .i64 0, .int .i64 0, .int .i64 0, .string { data := #[] }] 35)).heap[w.heap.size + 1 + 1]? = some (.cells #[.int .i64 0, .int .i64 0, .int .i64 0, .int .i64 0, .int .i64 0, .string { data := #[] }] 35 (0, 0)) := by simpa using heap_new ((w.alloc (.cells #[.int .i64 p', .int .i64 o', .int .i64 f'] 33)).alloc (.cells #[.int .i64 t] 3)) (.cells #[.int .i64 0, .int .i64 0, .int .i64 0, .int .i64 0, .int .i64 0, .string { data := #[] }] 35)
  have hu := (((Calm.refl w).alloc (.cells #[.int .i64 p', .int .i64 o', .int .i64 f'] 33)).alloc (.cells #[.int .i64 t] 3)).alloc (.cells #[.int .i64 0, .int .i64 0, .int .i64 0, .int .i64 0, .int .i64 0, .string { data := #[] }] 35)
  have hB : KBox w.heap.size (w.heap.size + 1) p' o' f' t (((w.alloc (.cells #[.int .i64 p', .int .i64 o', .int .i64 f'] 33)).alloc (.cells #[.int .i64 t] 3)).alloc (.cells #[.int .i64 0, .int .i64 0, .int .i64 0, .int .i64 0, .int .i64 0, .string { data := #[] }] 35)) := ⟨heap_past _ (heap_past _ (heap_new _ _)), heap_past _ (by simpa using heap_new (w.alloc (.cells #[.int .i64 p', .int .i64 o', .int .i64 f'] 33)) (.cells #[.int .i64 t] 3))⟩
  have cI := indexFunc_any w.heap.size (w.heap.size + 1) A d l p' o' f' t r _ hn (hL.calm hu) hB hF
  clear hB
  rcases hF with ⟨rfl, h2⟩ | ⟨i, hi, rfl, h2, h3⟩
  · rw [find_none h2]
    clear h2 hL
    go_enter Try.func41, Try.ntmps41
    go_wp2_with (go_at_call 78; refine cI.mono ?_; rintro e w1 ⟨rfl, hb1⟩; replace hz := (hb1.block (row6 hz).2.2.2.2.2.2).trans hz; replace hu := hu.call hb1; clear hb1; obtain ⟨z0, z1, z2, z3, z4, z5, hzs⟩ := row6 hz; obtain ⟨f0, f1, f2, f3, f4, f5⟩ := free6 hz)
    have hr := set6 hz (.int .i64 0) (.int .i64 0) (.int .i64 0) (.int .i64 0) (.int .i64 0) (.string { data := #[] })
    have hu2 := hu.six (g := w.heap.size + 1 + 1) (by omega) (.int .i64 0) (.int .i64 0) (.int .i64 0) (.int .i64 0) (.int .i64 0) (.string { data := #[] })
    unfold World.six at hr hu2
    exact end_two rfl rfl _ _ _ _ _ _ _ rfl rfl rfl hr rfl ⟨rfl, hu2⟩
  · have e0 : atR l (p', o', f') t = some l[i] := by
      unfold atR
      rw [List.find?_eq_some_iff_getElem]
      exact ⟨h2, i, hi, rfl, fun j hj => by rw [h3 j (by omega) hj]; rfl⟩
    rw [e0]
    clear h2 h3 e0
    obtain ⟨b, q, p, o, f, m, g, s, rfl, hb, HE, hm, c0, c1, c2, c3, c4, c5⟩ := hL.get hi
    have e3 : Hid (l[i] = ⟨p, o, f, m, g, s⟩) := (List.getElem?_eq_some_iff.1 HE.out).2
    have hC : ∀ u, Calm w u → u.cell? ⟨b, q + i * 6, none⟩ = some (.int .i64 p) ∧ u.cell? ⟨b, q + i * 6 + 1, none⟩ = some (.int .i64 o) ∧ u.cell? ⟨b, q + i * 6 + 2, none⟩ = some (.int .i64 f) ∧ u.cell? ⟨b, q + i * 6 + 3, none⟩ = some (.int .i64 m) ∧ u.cell? ⟨b, q + i * 6 + 4, none⟩ = some (.int .i64 g) ∧ u.cell? ⟨b, q + i * 6 + 5, none⟩ = some (.string s) := fun u hu =>
      have hc := hu.facts.1
      ⟨(hc _ _ hb).trans c0, (hc _ _ hb).trans c1, (hc _ _ hb).trans c2, (hc _ _ hb).trans c3, (hc _ _ hb).trans c4, (hc _ _ hb).trans c5⟩
    have hiz : (i : Int) < (l.length : Int) := by omega
    clear hL HE c0 c1 c2 c3 c4 c5
    go_enter Try.func41, Try.ntmps41
    go_wp2_with (go_at_call 78; refine cI.mono ?_; rintro e w1 ⟨rfl, hb1⟩; replace hz := (hb1.block (row6 hz).2.2.2.2.2.2).trans hz; replace hu := hu.call hb1; clear hb1; obtain ⟨z0, z1, z2, z3, z4, z5, hzs⟩ := row6 hz; obtain ⟨f0, f1, f2, f3, f4, f5⟩ := free6 hz; obtain ⟨c0, c1, c2, c3, c4, c5⟩ := hC _ hu)
    have hr := set6 hz (.int .i64 p) (.int .i64 o) (.int .i64 f) (.int .i64 m) (.int .i64 g) (.string s)
    have hu2 := hu.six (g := w.heap.size + 1 + 1) (by omega) (.int .i64 p) (.int .i64 o) (.int .i64 f) (.int .i64 m) (.int .i64 g) (.string s)
    unfold World.six at hr hu2
    exact end_two rfl rfl _ _ _ _ _ _ _ rfl rfl rfl hr rfl ⟨by rw [Option.getD_some, e3.out]; rfl, hu2⟩
open Go.RowKit
theorem inR_ahead (p o f m g : Int) (s : ByteArray) (p' o' f' p2 o2 f2 t : Int) : inR (p', o', f') (p2, o2, f2) t ⟨p, o, f, m, g, s⟩ = true ↔ aheadB p o f p' o' f' = false ∧ aheadB p2 o2 f2 p o f = false ∧ liveP m g t := by
 unfold inR aheadB
 rw [decide_eq_true_eq, decide_eq_false_iff_not, decide_eq_false_iff_not, kcmp_kLt, kcmp_kLt]
 exact Iff.rfl
set_option maxHeartbeats 8000000 in
theorem refRange_any (A : Option Addr) (d : Nat) (l : List El) (p' o' f' p2 o2 f2 t : Int) (w : World) (hn4 : l.length ≤ 400) (hL : Lies w A l) :
    Calls Try.prog 33 #[.slice A l.length d, .agg #[.int .i64 p', .int .i64 o', .int .i64 f'], .agg #[.int .i64 p2, .int .i64 o2, .int .i64 f2], .int .i64 t] w (Sl1End (rangeR l (p', o', f') (p2, o2, f2) t) w) := by
  have hx : ((w.alloc (.cells #[.int .i64 p', .int .i64 o', .int .i64 f'] 33)).alloc (.cells #[.int .i64 p2, .int .i64 o2, .int .i64 f2] 33)).heap[w.heap.size]? = some (.cells #[.int .i64 p', .int .i64 o', .int .i64 f'] 33 (0, 0)) := heap_past _ (heap_new _ _)
  have hy : ((w.alloc (.cells #[.int .i64 p', .int .i64 o', .int .i64 f'] 33)).alloc (.cells #[.int .i64 p2, .int .i64 o2, .int .i64 f2] 33)).heap[w.heap.size + 1]? = some (.cells #[.int .i64 p2, .int .i64 o2, .int .i64 f2] 33 (0, 0)) := by simpa using heap_new (w.alloc (.cells #[.int .i64 p', .int .i64 o', .int .i64 f'] 33)) (.cells #[.int .i64 p2, .int .i64 o2, .int .i64 f2] 33)
  have hu := ((Calm.refl w).alloc (.cells #[.int .i64 p', .int .i64 o', .int .i64 f'] 33)).alloc (.cells #[.int .i64 p2, .int .i64 o2, .int .i64 f2] 33)
  have hwz : ((w.alloc (.cells #[.int .i64 p', .int .i64 o', .int .i64 f'] 33)).alloc (.cells #[.int .i64 p2, .int .i64 o2, .int .i64 f2] 33)).heap.size = w.heap.size + 1 + 1 := by simp
  go_enter Try.func33, Try.ntmps33
  go_wp2_with fail
  generalize ((w.alloc (.cells #[.int .i64 p', .int .i64 o', .int .i64 f'] 33)).alloc (.cells #[.int .i64 p2, .int .i64 o2, .int .i64 f2] 33)) = w1 at hx hy hu hwz ⊢
  have hRL : ∀ k, (rangeR (l.take k) (p', o', f') (p2, o2, f2) t).length ≤ 400 := fun k => by
    have h1 := rangeR_le (l.take k) (p', o', f') (p2, o2, f2) t
    have h2 : (l.take k).length ≤ l.length := List.length_take_le' _ _
    omega
  replace hL := hL.calm hu
  obtain ⟨w3, hw3⟩ : ∃ w3 : World, w3 = w1 := ⟨_, rfl⟩
  subst hw3
  go_loopw [9, 14] (fun v i wr => ∃ k : Nat, k ≤ l.length ∧ i = .int .i64 k ∧ Calm w3 wr ∧ Hid (OwnR w3.heap.size wr v (rangeR (l.take k) (p', o', f') (p2, o2, f2) t))) (fun _ i _ => l.length - (intOf i).toNat)
  case atStart => exact ⟨0, Nat.zero_le _, rfl, Calm.refl _, show OwnR _ _ _ _ from OwnR.nil _ _⟩
  case round =>
    obtain ⟨k, hk, rfl, hur, ho⟩ := hrel
    by_cases hlt : k < l.length
    rotate_left
    · have K : Hid (rangeR (l.take k) (p', o', f') (p2, o2, f2) t = rangeR l (p', o', f') (p2, o2, f2) t) := by show _ = _; rw [List.take_of_length_le (by omega)]
      rw [K.out] at ho
      have hS := ho.out.sl fun e he => hL.1 e (List.mem_filter.1 he).1
      replace hur := hu.call hur
      clear K ho
      go_wp2_with fail
      go_ret
      exact ⟨_, rfl, hS, hur⟩
    replace hx := (hur.block (row3 hx).2.2.2).trans hx
    replace hy := (hur.block (row3 hy).2.2.2).trans hy
    obtain ⟨b, q, p, o, f, m, g, s, rfl, hb, HE, hm, c0, c1, c2, c3, c4, c5⟩ := (hL.calm hur).get hlt
    have hT := rangeR_take HE.out (p', o', f') (p2, o2, f2) t
    have hI := inR_ahead p o f m g s p' o' f' p2 o2 f2 t
    have hz : (wr.alloc (.cells #[.int .i64 p, .int .i64 o, .int .i64 f, .int .i64 m, .int .i64 g, .string s] 35)).heap[wr.heap.size]? = some (.cells #[.int .i64 p, .int .i64 o, .int .i64 f, .int .i64 m, .int .i64 g, .string s] 35 (0, 0)) := heap_new _ _
    replace hx := heap_past (.cells #[.int .i64 p, .int .i64 o, .int .i64 f, .int .i64 m, .int .i64 g, .string s] 35) hx
    replace hy := heap_past (.cells #[.int .i64 p, .int .i64 o, .int .i64 f, .int .i64 m, .int .i64 g, .string s] 35) hy
    replace ho := Lib.hid (ho.out.calm ((Calm.refl wr).alloc (.cells #[.int .i64 p, .int .i64 o, .int .i64 f, .int .i64 m, .int .i64 g, .string s] 35)))
    replace hur := hur.alloc (.cells #[.int .i64 p, .int .i64 o, .int .i64 f, .int .i64 m, .int .i64 g, .string s] 35)
    have hRk := hRL k
    obtain ⟨x0, x1, x2, hxs⟩ := row3 hx
    obtain ⟨y0, y1, y2, hys⟩ := row3 hy
    obtain ⟨z0, z1, z2, z3, z4, z5, hzs⟩ := row6 hz
    clear HE hRL hL
    have cA := ahead_any p o f p' o' f'
    have cB := ahead_any p2 o2 f2 p o f
    have cL := refLive_any p o f m g t s
    generalize aheadB p o f p' o' f' = k1 at cA hI
    generalize aheadB p2 o2 f2 p o f = k2 at cB hI
    by_cases hin : inR (p', o', f') (p2, o2, f2) t ⟨p, o, f, m, g, s⟩ = true
    · rw [if_pos hin] at hT
      obtain ⟨rfl, rfl, h3⟩ := hI.1 hin
      rw [decide_eq_true h3] at cL
      have HT := Lib.hid hT
      clear hI hin h3 hT
      go_wp2_with (first
        | (go_at_call 70; refine (cA _).mono ?_; rintro e w1 ⟨rfl, hb1⟩; replace hx := (hb1.block (row3 hx).2.2.2).trans hx; replace hy := (hb1.block (row3 hy).2.2.2).trans hy; replace hz := (hb1.block (row6 hz).2.2.2.2.2.2).trans hz; replace ho := Lib.hid (ho.out.calm hb1); replace hur := hur.call hb1; clear hb1; obtain ⟨x0, x1, x2, hxs⟩ := row3 hx; obtain ⟨y0, y1, y2, hys⟩ := row3 hy; obtain ⟨z0, z1, z2, z3, z4, z5, hzs⟩ := row6 hz; clear cA)
        | (go_at_call 70; refine (cB _).mono ?_; rintro e w1 ⟨rfl, hb1⟩; replace hx := (hb1.block (row3 hx).2.2.2).trans hx; replace hy := (hb1.block (row3 hy).2.2.2).trans hy; replace hz := (hb1.block (row6 hz).2.2.2.2.2.2).trans hz; replace ho := Lib.hid (ho.out.calm hb1); replace hur := hur.call hb1; clear hb1; obtain ⟨x0, x1, x2, hxs⟩ := row3 hx; obtain ⟨y0, y1, y2, hys⟩ := row3 hy; obtain ⟨z0, z1, z2, z3, z4, z5, hzs⟩ := row6 hz; clear cB)
        | (go_at_call 69; refine (cL _).mono ?_; rintro e w1 ⟨rfl, hb1⟩; replace hx := (hb1.block (row3 hx).2.2.2).trans hx; replace hy := (hb1.block (row3 hy).2.2.2).trans hy; replace hz := (hb1.block (row6 hz).2.2.2.2.2.2).trans hz; replace ho := Lib.hid (ho.out.calm hb1); replace hur := hur.call hb1; clear hb1; obtain ⟨x0, x1, x2, hxs⟩ := row3 hx; obtain ⟨y0, y1, y2, hys⟩ := row3 hy; obtain ⟨z0, z1, z2, z3, z4, z5, hzs⟩ := row6 hz)
        | (at_builtin; refine wpList_append_el rfl _ _ rfl _ _ _ rfl (ho.out.calm ((Calm.refl _).alloc _)) _ _ p o f m g s _ rfl (heap_new _ _) (by omega) (by simp; exact Nat.le_succ_of_le hur.size) ?_; intro v' w9 ho9 hc9; have hur9 := hc9 _ (Nat.le_refl _) (hur.alloc _); rw [← HT.out] at ho9))
      have HO := Lib.hid ho9
      clear ho9 HT hc9
      go_roundw
      case rel => exact ⟨k + 1, by omega, by go_num, hur9, HO⟩
      case measure => simp [intOf]; omega
    · rw [if_neg hin, List.append_nil] at hT
      rw [← hT] at ho
      clear hT
      have hc : liveP m g t ∧ k1 = true ∨ (liveP m g t ∧ k1 = false ∧ k2 = true) ∨ ¬ liveP m g t := by
        by_cases a3 : liveP m g t
        · cases k1
          · cases k2
            · exact absurd (hI.2 ⟨rfl, rfl, a3⟩) hin
            · exact .inr (.inl ⟨a3, rfl, rfl⟩)
          · exact .inl ⟨a3, rfl⟩
        · exact .inr (.inr a3)
      clear hI hin
      rcases hc with ⟨h3, rfl⟩ | ⟨h3, rfl, rfl⟩ | h3
      all_goals
        first | rw [decide_eq_false h3] at cL | rw [decide_eq_true h3] at cL
        clear h3
        go_wp2_with (first
          | (go_at_call 70; refine (cA _).mono ?_; rintro e w1 ⟨rfl, hb1⟩; replace hx := (hb1.block (row3 hx).2.2.2).trans hx; replace hy := (hb1.block (row3 hy).2.2.2).trans hy; replace hz := (hb1.block (row6 hz).2.2.2.2.2.2).trans hz; replace ho := Lib.hid (ho.out.calm hb1); replace hur := hur.call hb1; clear hb1; obtain ⟨x0, x1, x2, hxs⟩ := row3 hx; obtain ⟨y0, y1, y2, hys⟩ := row3 hy; obtain ⟨z0, z1, z2, z3, z4, z5, hzs⟩ := row6 hz; clear cA)
          | (go_at_call 70; refine (cB _).mono ?_; rintro e w1 ⟨rfl, hb1⟩; replace hx := (hb1.block (row3 hx).2.2.2).trans hx; replace hy := (hb1.block (row3 hy).2.2.2).trans hy; replace hz := (hb1.block (row6 hz).2.2.2.2.2.2).trans hz; replace ho := Lib.hid (ho.out.calm hb1); replace hur := hur.call hb1; clear hb1; obtain ⟨x0, x1, x2, hxs⟩ := row3 hx; obtain ⟨y0, y1, y2, hys⟩ := row3 hy; obtain ⟨z0, z1, z2, z3, z4, z5, hzs⟩ := row6 hz; clear cB)
          | (go_at_call 69; refine (cL _).mono ?_; rintro e w1 ⟨rfl, hb1⟩; replace hx := (hb1.block (row3 hx).2.2.2).trans hx; replace hy := (hb1.block (row3 hy).2.2.2).trans hy; replace hz := (hb1.block (row6 hz).2.2.2.2.2.2).trans hz; replace ho := Lib.hid (ho.out.calm hb1); replace hur := hur.call hb1; clear hb1; obtain ⟨x0, x1, x2, hxs⟩ := row3 hx; obtain ⟨y0, y1, y2, hys⟩ := row3 hy; obtain ⟨z0, z1, z2, z3, z4, z5, hzs⟩ := row6 hz))
        go_roundw
        case rel => exact ⟨k + 1, by omega, by go_num, hur, ho⟩
        case measure => simp [intOf]; omega
open Go.RowKit
/-- The same append, and what it leaves of all other blocks. -/
theorem wpList_append_el2 {ops : Array Oper} {rest : List Oper} {o : Oper} {a : Act} {w : World} {Q : Exit → Act → World → Prop} (hgd : o.guard = none) (s x : Operand)
    (ho : o.op = .call { callee := .builtin .append, args := #[s, x], argTypes := #[22, 22] })
    (base : Nat) (v : Value) (l : List El) (hs : a.eval s = v) (hown : OwnR base w v l) (g t : Nat) (p o' f m gg : Int) (sv : ByteArray) (fr : Nat × Nat)
    (hx : a.eval x = .slice (some ⟨g, 0, none⟩) 1 1) (hg : w.heap[g]? = some (.cells #[.int .i64 p, .int .i64 o', .int .i64 f, .int .i64 m, .int .i64 gg, .string sv] t fr)) (hl : l.length ≤ 1000000) (hbase : base ≤ w.heap.size)
    (h : ∀ v' w', OwnR base w' v' (l ++ [⟨p, o', f, m, gg, sv⟩]) → (∀ w0 : World, w0.heap.size ≤ base → Calm w0 w → Calm w0 w') → w.grownBy w' v.ownBlock → wpList Try.prog ops Q rest (a.put o.dst v') w') : wpList Try.prog ops Q (o :: rest) a w := by
  obtain ⟨i0, hi, hz0, hz1, hz2⟩ := info_parts infoElem
  refine wpList_append_own w hgd s x _ ho base 35 i0 _ 6 56 Try.underlying22 hi hz0 hz1 hz2 rfl (by decide) v _ _ hs hown ⟨g, 0, none⟩ 1 1 (El.cells ⟨p, o', f, m, gg, sv⟩) hx rfl (fun j u hj => ?_) (cells_one _) (by unfold maxLen; omega) (by omega) hbase fun v' w' h1 h2 _ => ?_
  · have : (⟨g, 0, none⟩ : Addr).add j = ⟨g, j, none⟩ := by unfold Addr.add; split <;> simp_all
    rw [this, cell_of_row w g j _ t fr hg, ← hj]
    simp [El.cells]
  · refine h v' w' ?_ (fun w0 h0 hc => hc.grown h0 hown h2) h2
    unfold OwnR
    rw [List.length_append, cellsOf_snoc]
    exact h1
def sortUp (x : El) (l : List El) (k : Nat) : List El := if (l.take k).any (beyond x) then ins x (l.take k) else l.take k
theorem sortUp_len (x : El) (l : List El) (k : Nat) (hk : k ≤ l.length) : (sortUp x l k).length ≤ k + 1 := by
 unfold sortUp
 split
 ·rename_i h
  have : ∀ a : List El, (ins x a).length = a.length + 1 := fun a => by
   induction a with
   |nil => rfl
   |cons y a ih => unfold ins; split <;> simp [ih]
  rw [this, List.length_take]; omega
 ·rw [List.length_take]; omega
set_option maxHeartbeats 8000000 in
theorem sorted_any (A : Option Addr) (d : Nat) (l : List El) (p' o' f' m' g' : Int) (s' : ByteArray) (w : World) (hn4 : l.length ≤ 400) (hL : Lies w A l) (hxw : El.wf ⟨p', o', f', m', g', s'⟩) :
    Calls Try.prog 80 #[.slice A l.length d, .agg #[.int .i64 p', .int .i64 o', .int .i64 f', .int .i64 m', .int .i64 g', .string s']] w (Sl1End (ins ⟨p', o', f', m', g', s'⟩ l) w) := by
  have hx := heap_new w (.cells #[.int .i64 p', .int .i64 o', .int .i64 f', .int .i64 m', .int .i64 g', .string s'] 35)
  have hu := (Calm.refl w).alloc (.cells #[.int .i64 p', .int .i64 o', .int .i64 f', .int .i64 m', .int .i64 g', .string s'] 35)
  have hwf : ∀ e ∈ ins ⟨p', o', f', m', g', s'⟩ l, e.wf := fun e he => by
    rcases ins_mem he with h | h
    · rw [h]; exact hxw
    · exact hL.1 e h
  have HWF := Lib.hid hwf
  replace hL := hL.calm hu
  have hwz : (w.alloc (.cells #[.int .i64 p', .int .i64 o', .int .i64 f', .int .i64 m', .int .i64 g', .string s'] 35)).heap.size = w.heap.size + 1 := by simp
  clear hwf hxw
  go_enter Try.func80, Try.ntmps80
  go_wp2_with fail
  generalize (w.alloc (.cells #[.int .i64 p', .int .i64 o', .int .i64 f', .int .i64 m', .int .i64 g', .string s'] 35)) = w3 at hx hu hL hwz ⊢
  go_loopw [5, 6, 11] (fun v b i wr => ∃ k : Nat, k ≤ l.length ∧ i = .int .i64 k ∧ b = .bool ((l.take k).any (beyond ⟨p', o', f', m', g', s'⟩)) ∧ Calm w3 wr ∧ Hid (OwnR w3.heap.size wr v (sortUp ⟨p', o', f', m', g', s'⟩ l k))) (fun _ _ i _ => l.length - (intOf i).toNat)
  case atStart => exact ⟨0, Nat.zero_le _, rfl, rfl, Calm.refl _, show OwnR _ _ _ _ from OwnR.nil _ _⟩
  case round =>
    obtain ⟨k, hk, rfl, rfl, hur, ho⟩ := hrel
    have hlen := sortUp_len ⟨p', o', f', m', g', s'⟩ l k hk
    replace hx := (hur.block (row6 hx).2.2.2.2.2.2).trans hx
    by_cases hlt : k < l.length
    rotate_left
    · have hkl : l.take k = l := List.take_of_length_le (by omega)
      unfold sortUp at ho hlen
      rw [hkl] at ho hlen ⊢
      cases hb : l.any (beyond ⟨p', o', f', m', g', s'⟩)
      · rw [hb] at ho hlen
        simp only [Bool.false_eq_true, if_false] at ho hlen
        have e1 : ins ⟨p', o', f', m', g', s'⟩ l = l ++ [⟨p', o', f', m', g', s'⟩] := ins_none (any_not hb)
        have E1 := Lib.hid e1
        rw [e1] at HWF
        obtain ⟨x0, x1, x2, x3, x4, x5, hxs⟩ := row6 hx
        clear hb hkl e1
        go_wp2_with (at_builtin; refine wpList_append_el rfl _ _ rfl _ _ _ rfl (ho.out.calm ((Calm.refl _).alloc _)) _ _ p' o' f' m' g' s' _ rfl (heap_new _ _) (by omega) (by simp; exact Nat.le_succ_of_le hur.size) ?_; intro v' w9 ho9 hc9)
        have hS := Lib.hid (ho9.sl HWF.out)
        have hur9 := hu.call (hc9 _ (Nat.le_refl _) (hur.alloc _))
        clear ho9 hc9
        go_wp2_with fail
        go_ret
        exact ⟨_, rfl, by rw [E1.out]; exact hS.out, hur9⟩
      · rw [hb] at ho
        simp only [if_true] at ho
        have hS := Lib.hid (ho.out.sl HWF.out)
        have hur9 := hu.call hur
        clear hb hkl ho hx
        go_wp2_with fail
        go_ret
        exact ⟨_, rfl, hS.out, hur9⟩
    obtain ⟨b, q, p, o, f, m, g, s, rfl, hb, HE, hm, c0, c1, c2, c3, c4, c5⟩ := (hL.calm hur).get hlt
    have hT := take_snoc3 HE.out
    have hz := heap_new wr (.cells #[.int .i64 p, .int .i64 o, .int .i64 f, .int .i64 m, .int .i64 g, .string s] 35)
    have hne0 := ho.out.lt
    replace hx := heap_past (.cells #[.int .i64 p, .int .i64 o, .int .i64 f, .int .i64 m, .int .i64 g, .string s] 35) hx
    replace ho := Lib.hid (ho.out.calm ((Calm.refl wr).alloc (.cells #[.int .i64 p, .int .i64 o, .int .i64 f, .int .i64 m, .int .i64 g, .string s] 35)))
    have hbey : beyond ⟨p', o', f', m', g', s'⟩ ⟨p, o, f, m, g, s⟩ = aheadS p' o' f' m' p o f m := by
      unfold beyond aheadS
      rw [Bool.eq_iff_iff, decide_eq_true_eq, decide_eq_true_eq]
      exact (scmp_sLt (a := ⟨p', o', f', m', g', s'⟩) (b := ⟨p, o, f, m, g, s⟩)).symm
    have hany : (l.take (k + 1)).any (beyond ⟨p', o', f', m', g', s'⟩) = ((l.take k).any (beyond ⟨p', o', f', m', g', s'⟩) || aheadS p' o' f' m' p o f m) := by
      rw [hT, List.any_append, List.any_cons, List.any_nil, Bool.or_false, hbey]
    have hso : sortUp ⟨p', o', f', m', g', s'⟩ l (k + 1) = if (l.take k).any (beyond ⟨p', o', f', m', g', s'⟩) then sortUp ⟨p', o', f', m', g', s'⟩ l k ++ [⟨p, o, f, m, g, s⟩] else if aheadS p' o' f' m' p o f m then sortUp ⟨p', o', f', m', g', s'⟩ l k ++ [⟨p', o', f', m', g', s'⟩] ++ [⟨p, o, f, m, g, s⟩] else sortUp ⟨p', o', f', m', g', s'⟩ l k ++ [⟨p, o, f, m, g, s⟩] := by
      unfold sortUp
      rw [hany, hT]
      cases h1 : (l.take k).any (beyond ⟨p', o', f', m', g', s'⟩)
      · cases h2 : aheadS p' o' f' m' p o f m
        · simp
        · simp only [Bool.false_or, if_true, Bool.false_eq_true, if_false]
          exact ins_first (any_not h1) (by rw [hbey]; exact h2)
      · simp only [Bool.true_or, if_true]
        exact ins_some _ h1
    have HS := Lib.hid hso
    have HA := Lib.hid hany
    obtain ⟨x0, x1, x2, x3, x4, x5, hxs⟩ := row6 hx
    obtain ⟨z0, z1, z2, z3, z4, z5, hzs⟩ := row6 hz
    have cA := aheadSpot_any p' o' f' m' p o f m
    clear hso hany hbey hT HE
    replace hur := hur.alloc (.cells #[.int .i64 p, .int .i64 o, .int .i64 f, .int .i64 m, .int .i64 g, .string s] 35)
    generalize hbb : (l.take k).any (beyond ⟨p', o', f', m', g', s'⟩) = bb at HA HS ⊢
    generalize aheadS p' o' f' m' p o f m = aa at cA HA HS
    clear hbb
    go_upto_region 6 with fail
    generalize (wr.alloc (.cells #[.int .i64 p, .int .i64 o, .int .i64 f, .int .i64 m, .int .i64 g, .string s] 35)) = wc at *
    cases bb
    rotate_left
    · have HS' : Hid (sortUp ⟨p', o', f', m', g', s'⟩ l (k + 1) = sortUp ⟨p', o', f', m', g', s'⟩ l k ++ [⟨p, o, f, m, g, s⟩]) := HS.out
      have HA' : Hid ((l.take (k + 1)).any (beyond ⟨p', o', f', m', g', s'⟩) = true) := HA.out
      refine wp_region_plan [.val (.bool true), .val (.bool false), .val (.bool false), .idle, .idle, .idle, .idle, .idle, .val (.bool false)] (by kernel_rfl) (by kernel_rfl) (by kernel_rfl) ?_
      intro X
      iterate 3
        refine plan_val (by kernel_rfl) (fun u hu => ?_) ?_
        · obtain ⟨hc, hf, hz⟩ := hu.of_drew.facts
          go_simp
        simp only [Act.put, List.setIfInBounds_toArray, List.set_cons_zero, List.set_cons_succ, Nat.reduceAdd]
      iterate 5
        refine plan_idle (by kernel_rfl) ?_
        simp only [Act.put, List.setIfInBounds_toArray, List.set_cons_zero, List.set_cons_succ, Nat.reduceAdd]
      iterate 1
        refine plan_val (by kernel_rfl) (fun u hu => ?_) ?_
        · obtain ⟨hc, hf, hz⟩ := hu.of_drew.facts
          go_simp
        simp only [Act.put, List.setIfInBounds_toArray, List.set_cons_zero, List.set_cons_succ, Nat.reduceAdd]
      refine plan_end ?_
      intro w' hB
      have hk := hB.calm.of_drew
      clear hB
      replace ho := Lib.hid (ho.out.calm hk)
      replace hz := (hk.block hzs).trans hz
      replace hur := hur.call hk
      clear z0 z1 z2 z3 z4 z5 hzs x0 x1 x2 x3 x4 x5 hxs hx HS HA cA
      obtain ⟨z0, z1, z2, z3, z4, z5, hzs⟩ := row6 hz
      go_wp2_with (at_builtin; refine wpList_append_el rfl _ _ rfl _ _ _ rfl (ho.out.calm ((Calm.refl _).alloc _)) _ _ p o f m g s _ rfl (heap_new _ _) (by omega) (by simp; exact Nat.le_succ_of_le hur.size) ?_; intro v' w9 ho9 hc9)
      rw [← HS'.out] at ho9
      have HO9 := Lib.hid ho9
      have hur9 := hc9 _ (Nat.le_refl _) (hur.alloc _)
      clear ho9 hc9 HS'
      go_roundw
      case rel => exact ⟨k + 1, by omega, by go_num, by rw [HA'.out], hur9, HO9⟩
      case measure => simp [intOf]; omega
    cases aa
    · have HS' : Hid (sortUp ⟨p', o', f', m', g', s'⟩ l (k + 1) = sortUp ⟨p', o', f', m', g', s'⟩ l k ++ [⟨p, o, f, m, g, s⟩]) := HS.out
      have HA' : Hid ((l.take (k + 1)).any (beyond ⟨p', o', f', m', g', s'⟩) = false) := HA.out
      refine wp_region_plan [.val (.bool false), .val (.bool true), .val (.bool true), .val (.agg #[.int .i64 p', .int .i64 o', .int .i64 f', .int .i64 m', .int .i64 g', .string s']), .val (.agg #[.int .i64 p', .int .i64 o', .int .i64 f', .int .i64 m']), .val (.agg #[.int .i64 p, .int .i64 o, .int .i64 f, .int .i64 m, .int .i64 g, .string s]), .val (.agg #[.int .i64 p, .int .i64 o, .int .i64 f, .int .i64 m]), .val (.bool false), .val (.bool false)] (by kernel_rfl) (by kernel_rfl) (by kernel_rfl) ?_
      intro X
      iterate 9
        refine plan_val (by kernel_rfl) (fun u hu => ?_) ?_
        · obtain ⟨hc, hf, hz⟩ := hu.of_drew.facts
          go_simp
          all_goals first
            | (go_at_call 67; exact refSpot_any _ _ _ _ _ _ _)
            | (go_at_call 66; exact cA _ _)
        simp only [Act.put, List.setIfInBounds_toArray, List.set_cons_zero, List.set_cons_succ, Nat.reduceAdd]
      refine plan_end ?_
      intro w' hB
      have hk := hB.calm.of_drew
      clear hB
      replace ho := Lib.hid (ho.out.calm hk)
      replace hz := (hk.block hzs).trans hz
      replace hur := hur.call hk
      clear z0 z1 z2 z3 z4 z5 hzs x0 x1 x2 x3 x4 x5 hxs hx HS HA cA
      obtain ⟨z0, z1, z2, z3, z4, z5, hzs⟩ := row6 hz
      go_wp2_with (at_builtin; refine wpList_append_el rfl _ _ rfl _ _ _ rfl (ho.out.calm ((Calm.refl _).alloc _)) _ _ p o f m g s _ rfl (heap_new _ _) (by omega) (by simp; exact Nat.le_succ_of_le hur.size) ?_; intro v' w9 ho9 hc9)
      rw [← HS'.out] at ho9
      have HO9 := Lib.hid ho9
      have hur9 := hc9 _ (Nat.le_refl _) (hur.alloc _)
      clear ho9 hc9 HS'
      go_roundw
      case rel => exact ⟨k + 1, by omega, by go_num, by rw [HA'.out], hur9, HO9⟩
      case measure => simp [intOf]; omega
    · have HS' : Hid (sortUp ⟨p', o', f', m', g', s'⟩ l (k + 1) = sortUp ⟨p', o', f', m', g', s'⟩ l k ++ [⟨p', o', f', m', g', s'⟩] ++ [⟨p, o, f, m, g, s⟩]) := HS.out
      have HA' : Hid ((l.take (k + 1)).any (beyond ⟨p', o', f', m', g', s'⟩) = true) := HA.out
      refine wp_region_plan [.val (.bool false), .val (.bool true), .val (.bool true), .val (.agg #[.int .i64 p', .int .i64 o', .int .i64 f', .int .i64 m', .int .i64 g', .string s']), .val (.agg #[.int .i64 p', .int .i64 o', .int .i64 f', .int .i64 m']), .val (.agg #[.int .i64 p, .int .i64 o, .int .i64 f, .int .i64 m, .int .i64 g, .string s]), .val (.agg #[.int .i64 p, .int .i64 o, .int .i64 f, .int .i64 m]), .val (.bool true), .val (.bool true)] (by kernel_rfl) (by kernel_rfl) (by kernel_rfl) ?_
      intro X
      iterate 9
        refine plan_val (by kernel_rfl) (fun u hu => ?_) ?_
        · obtain ⟨hc, hf, hz⟩ := hu.of_drew.facts
          go_simp
          all_goals first
            | (go_at_call 67; exact refSpot_any _ _ _ _ _ _ _)
            | (go_at_call 66; exact cA _ _)
        simp only [Act.put, List.setIfInBounds_toArray, List.set_cons_zero, List.set_cons_succ, Nat.reduceAdd]
      refine plan_end ?_
      intro w' hB
      have hk := hB.calm.of_drew
      clear hB
      replace ho := Lib.hid (ho.out.calm hk)
      replace hz := (hk.block hzs).trans hz
      replace hx := (hk.block hxs).trans hx
      replace hur := hur.call hk
      clear z0 z1 z2 z3 z4 z5 hzs x0 x1 x2 x3 x4 x5 hxs HS HA cA
      obtain ⟨z0, z1, z2, z3, z4, z5, hzs⟩ := row6 hz
      obtain ⟨x0, x1, x2, x3, x4, x5, hxs⟩ := row6 hx
      have hlen2 : (sortUp ⟨p', o', f', m', g', s'⟩ l k ++ ([⟨p', o', f', m', g', s'⟩] : List El)).length ≤ 1000000 := by rw [List.length_append]; simp; omega
      go_wp2_with (first
        | (at_builtin; refine wpList_append_el2 rfl (.tmp 24) _ rfl _ _ _ rfl (ho.out.calm ((Calm.refl _).alloc _)) _ _ p' o' f' m' g' s' _ rfl (heap_new _ _) (by omega) (by simp; exact Nat.le_succ_of_le hur.size) ?_; intro v' w9 ho9 hc9 hg9; have hz9 := (hg9.block _ (by simp; omega) (fun e => by have := (hne0 _ e.symm).2; omega)).trans (heap_past _ hz); have hur8 := hc9 _ (Nat.le_refl _) (hur.alloc _); clear hc9 hg9 hz x0 x1 x2 x3 x4 x5 hxs hx; obtain ⟨z0, z1, z2, z3, z4, z5, hzs⟩ := row6 hz9)
        | (at_builtin; refine wpList_append_el rfl (.tmp 28) _ rfl _ _ _ rfl (ho9.calm ((Calm.refl _).alloc _)) _ _ p o f m g s _ rfl (heap_new _ _) hlen2 (by simp; exact Nat.le_succ_of_le hur8.size) ?_; intro v' w10 ho10 hc10))
      rw [← HS'.out] at ho10
      have HO9 := Lib.hid ho10
      have hur9 := hc10 _ (Nat.le_refl _) (hur8.alloc _)
      clear ho10 hc10 HS' ho9
      go_roundw
      case rel => exact ⟨k + 1, by omega, by go_num, by rw [HA'.out], hur9, HO9⟩
      case measure => simp [intOf]; omega
open Go.RowKit
theorem any_take {l : List El} {k : Nat} {e : El} (h : l[k]? = some e) (q : El → Bool) : (l.take (k + 1)).any q = ((l.take k).any q || q e) := by
 rw [take_snoc3 h, List.any_append, List.any_cons, List.any_nil, Bool.or_false]
theorem map_take {l : List El} {k : Nat} {e : El} (h : l[k]? = some e) (q : El → El) : (l.take (k + 1)).map q = (l.take k).map q ++ [q e] := by
 rw [take_snoc3 h, List.map_append]; rfl
set_option maxHeartbeats 16000000 in
theorem refPut_any (A : Option Addr) (d : Nat) (l : List El) (p' o' f' : Int) (s' : ByteArray) (t : Int) (w : World) (hn : l.length ≤ 9223372036854775807) (ht0 : -9223372036854775808 ≤ t) (hL : Lies w A l) :
    Calls Try.prog 43 #[.slice A l.length d, .agg #[.int .i64 p', .int .i64 o', .int .i64 f'], .string s', .int .i64 t] w (SlEnd (if putErr l (p', o', f') s' t = 0 then putR l (p', o', f') s' t else []) (putErr l (p', o', f') s' t) w) := by
  have hy := heap_new w (.cells #[.int .i64 p', .int .i64 o', .int .i64 f'] 33)
  have hu := (Calm.refl w).alloc (.cells #[.int .i64 p', .int .i64 o', .int .i64 f'] 33)
  have cR : ∀ u, Calm w u → Calls Try.prog 31 #[.slice A l.length d] u fun e w' => e = .returned (.int .i64 (runErr l)) ∧ Calm u w' := fun u hu => refRun_any A d l u hn (hL.calm hu)
  have cE := fun u => refElem_any p' o' f' t 0 s' u ht0
  have cT : ∀ u, Calm w u → Calls Try.prog 40 #[.slice A l.length d] u fun e w' => e = .returned (.int .i64 (latest l)) ∧ Calm u w' := fun u hu => refLatest_any A d l u hn (hL.calm hu)
  by_cases he : runErr l = 0
  rotate_left
  · have e1 : putErr l (p', o', f') s' t = runErr l := by simp [putErr, wrErr, he]
    rw [e1, if_neg he]
    have b1 : (runErr l != 0) = true := by simpa using he
    clear he e1 hL
    go_enter Try.func43, Try.ntmps43
    go_wp2_with (go_at_call 31; refine (cR _ hu).mono ?_; rintro e w1 ⟨rfl, hb1⟩; replace hy := (hb1.block (row3 hy).2.2.2).trans hy; replace hu := hu.call hb1; clear hb1; obtain ⟨y0, y1, y2, hys⟩ := row3 hy)
    go_ret2
    exact ⟨_, rfl, Sl.nil _ _ _, hu⟩
  have hG := runErr_zero.1 he
  by_cases h2 : elemErr p' o' f' t 0 s'.size = 0
  rotate_left
  · have hx : (fresh (p', o', f') s' t).err = elemErr p' o' f' t 0 s'.size := rfl
    have e1 : putErr l (p', o', f') s' t = elemErr p' o' f' t 0 s'.size := by simp [putErr, wrErr, he, hx, h2]
    rw [e1, if_neg h2]
    rw [he] at cR
    have b1 : (elemErr p' o' f' t 0 s'.size != 0) = true := by simpa using h2
    clear he e1 hL hx h2 hG
    go_enter Try.func43, Try.ntmps43
    go_wp2_with (first
      | (go_at_call 31; refine (cR _ hu).mono ?_; rintro e w1 ⟨rfl, hb1⟩; replace hy := (hb1.block (row3 hy).2.2.2).trans hy; replace hu := hu.call hb1; clear hb1; obtain ⟨y0, y1, y2, hys⟩ := row3 hy)
      | (go_at_call 65; refine (cE _).mono ?_; rintro e w1 ⟨rfl, hb1⟩; have hz := (hb1.block (by simp)).trans (heap_new _ _); replace hy := (hb1.block (row3 (heap_past _ hy)).2.2.2).trans (heap_past _ hy); replace hu := (hu.alloc _).call hb1; clear hb1; obtain ⟨y0, y1, y2, hys⟩ := row3 hy; obtain ⟨z0, z1, z2, z3, z4, z5, hzs⟩ := row6 hz))
    go_ret2
    exact ⟨_, rfl, Sl.nil _ _ _, hu⟩
  have hx : (fresh (p', o', f') s' t).err = 0 := h2
  rw [he] at cR
  rw [h2] at cE
  by_cases h3 : t < latest l
  · have e1 : putErr l (p', o', f') s' t = 9 := by
      have : (fresh (p', o', f') s' t).m = t := rfl
      simp [putErr, wrErr, he, hx, this, h3]
    rw [e1, if_neg (by decide)]
    generalize latest l = t1 at cT h3
    clear he e1 hL hx h2 hG
    go_enter Try.func43, Try.ntmps43
    go_wp2_with (first
      | (go_at_call 31; refine (cR _ hu).mono ?_; rintro e w1 ⟨rfl, hb1⟩; replace hy := (hb1.block (row3 hy).2.2.2).trans hy; replace hu := hu.call hb1; clear hb1; obtain ⟨y0, y1, y2, hys⟩ := row3 hy)
      | (go_at_call 65; refine (cE _).mono ?_; rintro e w1 ⟨rfl, hb1⟩; have hz := (hb1.block (by simp)).trans (heap_new _ _); replace hy := (hb1.block (row3 (heap_past _ hy)).2.2.2).trans (heap_past _ hy); replace hu := (hu.alloc _).call hb1; clear hb1; obtain ⟨y0, y1, y2, hys⟩ := row3 hy; obtain ⟨z0, z1, z2, z3, z4, z5, hzs⟩ := row6 hz)
      | (go_at_call 40; refine (cT _ hu).mono ?_; rintro e w1 ⟨rfl, hb1⟩; replace hz := (hb1.block (row6 hz).2.2.2.2.2.2).trans hz; replace hy := (hb1.block (row3 hy).2.2.2).trans hy; replace hu := hu.call hb1; clear hb1; obtain ⟨y0, y1, y2, hys⟩ := row3 hy; obtain ⟨z0, z1, z2, z3, z4, z5, hzs⟩ := row6 hz))
    go_ret2
    exact ⟨_, rfl, Sl.nil _ _ _, hu⟩
  have hw : wrErr l (fresh (p', o', f') s' t) = 0 := wrErr_zero.2 ⟨hG, hx, by show latest l ≤ t; omega⟩
  have hgood := fun hp : putErr l (p', o', f') s' t = 0 => put_good hw hp
  have hpe : putErr l (p', o', f') s' t = if l.any (isSame (p', o', f') t) then 0 else if 400 ≤ l.length then 8 else 0 := by unfold putErr; rw [if_pos hw]
  have hn4 := hG.1
  have HG := Lib.hid hG
  have HW := Lib.hid hw
  generalize latest l = t1 at cT h3
  clear he hx h2 hw hG
  generalize hPE : putErr l (p', o', f') s' t = pe at hgood hpe ⊢
  generalize hPR : (if pe = 0 then putR l (p', o', f') s' t else []) = pr
  have HPR := Lib.hid hPR
  have HGD := Lib.hid hgood
  have HPE := Lib.hid hpe
  clear hPE hPR hgood hpe
  go_enter Try.func43, Try.ntmps43
  go_wp2_with (first
    | (go_at_call 31; refine (cR _ hu).mono ?_; rintro e w1 ⟨rfl, hb1⟩; replace hy := (hb1.block (row3 hy).2.2.2).trans hy; replace hu := hu.call hb1; clear hb1; obtain ⟨y0, y1, y2, hys⟩ := row3 hy; clear cR)
    | (go_at_call 65; refine (cE _).mono ?_; rintro e w1 ⟨rfl, hb1⟩; have hz := (hb1.block (by simp)).trans (heap_new _ _); replace hy := (hb1.block (row3 (heap_past _ hy)).2.2.2).trans (heap_past _ hy); replace hu := (hu.alloc _).call hb1; clear hb1; obtain ⟨y0, y1, y2, hys⟩ := row3 hy; obtain ⟨z0, z1, z2, z3, z4, z5, hzs⟩ := row6 hz; clear cE)
    | (go_at_call 40; refine (cT _ hu).mono ?_; rintro e w1 ⟨rfl, hb1⟩; replace hz := (hb1.block (row6 hz).2.2.2.2.2.2).trans hz; replace hy := (hb1.block (row3 hy).2.2.2).trans hy; replace hu := hu.call hb1; clear hb1; obtain ⟨y0, y1, y2, hys⟩ := row3 hy; obtain ⟨z0, z1, z2, z3, z4, z5, hzs⟩ := row6 hz; clear cT))
  replace hL := hL.calm hu
  clear z0 z1 z2 z3 z4 z5 hzs y0 y1 y2 hys h3
  obtain ⟨w3, hw3⟩ : ∃ w3 : World, w3 = w1 := ⟨_, rfl⟩
  subst hw3
  go_loopw [13, 14, 37] (fun v b i wr => ∃ k : Nat, k ≤ l.length ∧ i = .int .i64 k ∧ b = .bool ((l.take k).any (isSame (p', o', f') t)) ∧ Calm w3 wr ∧ Hid (OwnR w3.heap.size wr v ((l.take k).map (upd (p', o', f') s' t)))) (fun _ _ i _ => l.length - (intOf i).toNat)
  case atStart => exact ⟨0, Nat.zero_le _, rfl, rfl, Calm.refl _, show OwnR _ _ _ _ from OwnR.nil _ _⟩
  case round =>
    obtain ⟨k, hk, rfl, rfl, hur, ho⟩ := hrel
    replace hy := (hur.block (row3 hy).2.2.2).trans hy
    replace hz := (hur.block (row6 hz).2.2.2.2.2.2).trans hz
    by_cases hlt : k < l.length
    rotate_left
    · have hkl : l.take k = l := List.take_of_length_le (by omega)
      rw [hkl] at ho ⊢
      have hlm : (l.map (upd (p', o', f') s' t)).length = l.length := List.length_map _
      cases hsm : l.any (isSame (p', o', f') t)
      · by_cases hfull : 400 ≤ l.length
        · have e3 : pe = 8 := by rw [HPE.out, hsm, if_pos hfull]; rfl
          subst e3
          have e4 : Hid (pr = []) := HPR.out.symm.trans (if_neg (by decide))
          have hl4 : (400 : Int) ≤ (l.length : Int) := by omega
          replace hur := hu.call hur
          clear ho hy hz hsm hkl HPR HPE HGD HG HW hlm
          go_wp2_with fail
          go_ret2
          exact ⟨_, rfl, by rw [e4.out]; exact Sl.nil _ _ _, hur⟩
        · have e3 : pe = 0 := by rw [HPE.out, hsm, if_neg hfull]; rfl
          subst e3
          have hR : pr = ins (fresh (p', o', f') s' t) (l.map (upd (p', o', f') s' t)) := by
            rw [← HPR.out, if_pos rfl]; unfold putR; rw [hsm]; rfl
          have hgd := HGD.out rfl
          have hwm : ∀ e ∈ l.map (upd (p', o', f') s' t), e.wf := fun e he => by
            obtain ⟨x, hx, rfl⟩ := List.mem_map.1 he
            unfold El.wf; rw [upd_m]; exact HG.out.wf x hx
          have hwf2 : Hid (El.wf (fresh (p', o', f') s' t)) := ht0
          obtain ⟨A9, c9, hv9, _, _, hL9⟩ := ho.out.lies hwm
          rw [hlm] at hv9
          subst hv9
          have hl4 : ¬ ((400 : Int) ≤ (l.length : Int)) := by omega
          have cS := sorted_any A9 c9 (l.map (upd (p', o', f') s' t)) p' o' f' t 0 s' wr (by rw [hlm]; exact hn4) hL9 hwf2.out
          rw [hlm] at cS
          have HR := Lib.hid hR
          obtain ⟨z0, z1, z2, z3, z4, z5, hzs⟩ := row6 hz
          replace hur := hu.call hur
          clear ho hy hz hsm hkl HPR HPE HGD HG HW hlm hR hgd hwm hL9 hfull
          go_wp2_with (go_at_call 80; refine cS.mono ?_; rintro e w9 ⟨v9, rfl, hS9, hb9⟩; have HS9 := Lib.hid hS9; replace hur := hur.call hb9; clear hS9 hb9)
          go_ret2
          exact ⟨_, rfl, by rw [HR.out]; exact HS9.out, hur⟩
      · have e3 : pe = 0 := by rw [HPE.out, hsm]; rfl
        subst e3
        have hR : pr = l.map (upd (p', o', f') s' t) := by
          rw [← HPR.out, if_pos rfl]; unfold putR; rw [hsm]; rfl
        have hwm : ∀ e ∈ l.map (upd (p', o', f') s' t), e.wf := fun e he => by
          obtain ⟨x, hx, rfl⟩ := List.mem_map.1 he
          unfold El.wf; rw [upd_m]; exact HG.out.wf x hx
        have HS := Lib.hid (ho.out.sl hwm)
        have HR := Lib.hid hR
        replace hur := hu.call hur
        clear ho hy hz hsm hkl HPR HPE HGD HG HW hlm hR hwm
        go_wp2_with fail
        go_ret2
        exact ⟨_, rfl, by rw [HR.out]; exact HS.out, hur⟩
    obtain ⟨b, q, p, o, f, m, g, s, rfl, hb, HE, hm, c0, c1, c2, c3, c4, c5⟩ := (hL.calm hur).get hlt
    have hmt := map_take HE.out (upd (p', o', f') s' t)
    have hat := any_take HE.out (isSame (p', o', f') t)
    have hlk : ((l.take k).map (upd (p', o', f') s' t)).length ≤ 400 := by rw [List.length_map, List.length_take]; omega
    replace hy := heap_past (.cells #[.int .i64 p, .int .i64 o, .int .i64 f, .int .i64 m, .int .i64 g, .string s] 35) hy
    replace hz := heap_past (.cells #[.int .i64 p, .int .i64 o, .int .i64 f, .int .i64 m, .int .i64 g, .string s] 35) hz
    obtain ⟨y0, y1, y2, hys⟩ := row3 hy
    clear HE hL HPR HGD HPE HG HW
    generalize (l.take k).map (upd (p', o', f') s' t) = pre at ho hmt hlk ⊢
    generalize (l.take k).any (isSame (p', o', f') t) = sm at hat ⊢
    by_cases hK : p = p' ∧ o = o' ∧ f = f'
    · obtain ⟨rfl, rfl, rfl⟩ := hK
      by_cases hg0 : g = 0
      · subst hg0
        by_cases hmt2 : m = t
        · subst hmt2
          have e1 : upd (p, o, f) s' m ⟨p, o, f, m, 0, s⟩ = ⟨p, o, f, m, 0, s'⟩ := by simp [upd, El.key]
          have e2 : isSame (p, o, f) m ⟨p, o, f, m, 0, s⟩ = true := by simp [isSame, El.key]
          rw [e1] at hmt
          rw [e2, Bool.or_true] at hat
          have HS := Lib.hid hmt
          have HA := Lib.hid hat
          clear e1 e2 hmt hat
          go_wp2_with (at_builtin; refine wpList_append_el rfl _ _ rfl _ _ _ rfl (ho.out.calm (((Calm.refl _).alloc _).alloc _)) _ _ p o f m 0 s' _ rfl (heap_alloc2_new _ _ _) (by omega) (by have := hur.size; simp; omega) ?_; intro v' w9 ho9 hc9)
          rw [← HS.out] at ho9
          have HO9 := Lib.hid ho9
          have hur9 := hc9 _ (Nat.le_refl _) ((hur.alloc _).alloc _)
          clear ho9 hc9 HS
          go_roundw
          case rel => exact ⟨k + 1, by omega, by go_num, by rw [HA.out], hur9, HO9⟩
          case measure => simp [intOf]; omega
        · have e1 : upd (p, o, f) s' t ⟨p, o, f, m, 0, s⟩ = ⟨p, o, f, m, t, s⟩ := by simp [upd, El.key, hmt2]
          have e2 : isSame (p, o, f) t ⟨p, o, f, m, 0, s⟩ = false := by simp [isSame, El.key, hmt2]
          rw [e1] at hmt
          rw [e2, Bool.or_false] at hat
          have HS := Lib.hid hmt
          have HA := Lib.hid hat
          clear e1 e2 hmt hat
          go_wp2_with (at_builtin; refine wpList_append_el rfl _ _ rfl _ _ _ rfl (ho.out.calm (((Calm.refl _).alloc _).alloc _)) _ _ p o f m t s _ rfl (heap_alloc2_new _ _ _) (by omega) (by have := hur.size; simp; omega) ?_; intro v' w9 ho9 hc9)
          rw [← HS.out] at ho9
          have HO9 := Lib.hid ho9
          have hur9 := hc9 _ (Nat.le_refl _) ((hur.alloc _).alloc _)
          clear ho9 hc9 HS
          go_roundw
          case rel => exact ⟨k + 1, by omega, by go_num, by rw [HA.out], hur9, HO9⟩
          case measure => simp [intOf]; omega
      · have e1 : upd (p, o, f) s' t ⟨p, o, f, m, g, s⟩ = ⟨p, o, f, m, g, s⟩ := by simp [upd, El.key, hg0]
        have e2 : isSame (p, o, f) t ⟨p, o, f, m, g, s⟩ = false := by simp [isSame, El.key, hg0]
        rw [e1] at hmt
        rw [e2, Bool.or_false] at hat
        have HS := Lib.hid hmt
        have HA := Lib.hid hat
        clear e1 e2 hmt hat
        go_wp2_with (at_builtin; refine wpList_append_el rfl _ _ rfl _ _ _ rfl (ho.out.calm (((Calm.refl _).alloc _).alloc _)) _ _ p o f m g s _ rfl (heap_alloc2_new _ _ _) (by omega) (by have := hur.size; simp; omega) ?_; intro v' w9 ho9 hc9)
        rw [← HS.out] at ho9
        have HO9 := Lib.hid ho9
        have hur9 := hc9 _ (Nat.le_refl _) ((hur.alloc _).alloc _)
        clear ho9 hc9 HS
        go_roundw
        case rel => exact ⟨k + 1, by omega, by go_num, by rw [HA.out], hur9, HO9⟩
        case measure => simp [intOf]; omega
    · have e1 : upd (p', o', f') s' t ⟨p, o, f, m, g, s⟩ = ⟨p, o, f, m, g, s⟩ := by
        unfold upd; rw [if_neg (fun h => hK (by simpa [El.key] using h.1))]
      have e2 : isSame (p', o', f') t ⟨p, o, f, m, g, s⟩ = false := by
        unfold isSame; rw [decide_eq_false_iff_not]; exact fun h => hK (by simpa [El.key] using h.1)
      rw [e1] at hmt
      rw [e2, Bool.or_false] at hat
      have HS := Lib.hid hmt
      have HA := Lib.hid hat
      have h3 : ¬ p = p' ∨ (p = p' ∧ ¬ o = o') ∨ (p = p' ∧ o = o' ∧ ¬ f = f') := by omega
      clear e1 e2 hmt hat hK
      rcases h3 with h3 | ⟨h3, h4⟩ | ⟨h3, h4, h5⟩
      · go_wp2_with (at_builtin; refine wpList_append_el rfl _ _ rfl _ _ _ rfl (ho.out.calm (((Calm.refl _).alloc _).alloc _)) _ _ p o f m g s _ rfl (heap_alloc2_new _ _ _) (by omega) (by have := hur.size; simp; omega) ?_; intro v' w9 ho9 hc9)
        rw [← HS.out] at ho9
        have HO9 := Lib.hid ho9
        have hur9 := hc9 _ (Nat.le_refl _) ((hur.alloc _).alloc _)
        clear ho9 hc9 HS
        go_roundw
        case rel => exact ⟨k + 1, by omega, by go_num, by rw [HA.out], hur9, HO9⟩
        case measure => simp [intOf]; omega
      · subst h3
        go_wp2_with (at_builtin; refine wpList_append_el rfl _ _ rfl _ _ _ rfl (ho.out.calm (((Calm.refl _).alloc _).alloc _)) _ _ p o f m g s _ rfl (heap_alloc2_new _ _ _) (by omega) (by have := hur.size; simp; omega) ?_; intro v' w9 ho9 hc9)
        rw [← HS.out] at ho9
        have HO9 := Lib.hid ho9
        have hur9 := hc9 _ (Nat.le_refl _) ((hur.alloc _).alloc _)
        clear ho9 hc9 HS
        go_roundw
        case rel => exact ⟨k + 1, by omega, by go_num, by rw [HA.out], hur9, HO9⟩
        case measure => simp [intOf]; omega
      · subst h3
        subst h4
        go_wp2_with (at_builtin; refine wpList_append_el rfl _ _ rfl _ _ _ rfl (ho.out.calm (((Calm.refl _).alloc _).alloc _)) _ _ p o f m g s _ rfl (heap_alloc2_new _ _ _) (by omega) (by have := hur.size; simp; omega) ?_; intro v' w9 ho9 hc9)
        rw [← HS.out] at ho9
        have HO9 := Lib.hid ho9
        have hur9 := hc9 _ (Nat.le_refl _) ((hur.alloc _).alloc _)
        clear ho9 hc9 HS
        go_roundw
        case rel => exact ⟨k + 1, by omega, by go_num, by rw [HA.out], hur9, HO9⟩
        case measure => simp [intOf]; omega
open Go.RowKit
theorem cut_take {l : List El} {k : Nat} {e : El} (h : l[k]? = some e) (q : El → Option El) : (l.take (k + 1)).filterMap q = (l.take k).filterMap q ++ (match q e with | some x => [x] | none => []) := by
 rw [take_snoc3 h, List.filterMap_append]
 congr 1
 rw [List.filterMap_cons]
 cases q e <;> rfl
theorem cutStep_mem {l : List El} {k : Int × Int × Int} {t : Int} {e : El} (h : e ∈ l.filterMap (cutStep k t)) : ∃ x ∈ l, x.m = e.m := by
 obtain ⟨x, hx, h2⟩ := List.mem_filterMap.1 h
 refine ⟨x, hx, ?_⟩
 unfold cutStep at h2
 split at h2
 ·split at h2
  ·cases h2
  ·injection h2 with h2; subst h2; rfl
 ·injection h2 with h2; subst h2; rfl
set_option maxHeartbeats 16000000 in
theorem refCut_any (A : Option Addr) (d : Nat) (l : List El) (p' o' f' : Int) (t : Int) (w : World) (hn : l.length ≤ 9223372036854775807) (hL : Lies w A l) :
    Calls Try.prog 42 #[.slice A l.length d, .agg #[.int .i64 p', .int .i64 o', .int .i64 f'], .int .i64 t] w (SlEnd (if cutErr l (p', o', f') t = 0 then cutR l (p', o', f') t else []) (cutErr l (p', o', f') t) w) := by
  have hy := heap_new w (.cells #[.int .i64 p', .int .i64 o', .int .i64 f'] 33)
  have hu := (Calm.refl w).alloc (.cells #[.int .i64 p', .int .i64 o', .int .i64 f'] 33)
  have cR : ∀ u, Calm w u → Calls Try.prog 31 #[.slice A l.length d] u fun e w' => e = .returned (.int .i64 (runErr l)) ∧ Calm u w' := fun u hu => refRun_any A d l u hn (hL.calm hu)
  have cE := refKey_any p' o' f'
  have cT : ∀ u, Calm w u → Calls Try.prog 40 #[.slice A l.length d] u fun e w' => e = .returned (.int .i64 (latest l)) ∧ Calm u w' := fun u hu => refLatest_any A d l u hn (hL.calm hu)
  have hxe : (fresh (p', o', f') { data := #[] } t).err = elemErr p' o' f' t 0 0 := rfl
  by_cases he : runErr l = 0
  rotate_left
  · have e1 : cutErr l (p', o', f') t = runErr l := by simp [cutErr, wrErr, he]
    rw [e1, if_neg he]
    have b1 : (runErr l != 0) = true := by simpa using he
    clear he e1 hL
    go_enter Try.func42, Try.ntmps42
    go_wp2_with (go_at_call 31; refine (cR _ hu).mono ?_; rintro e w1 ⟨rfl, hb1⟩; replace hy := (hb1.block (row3 hy).2.2.2).trans hy; replace hu := hu.call hb1; clear hb1; obtain ⟨y0, y1, y2, hys⟩ := row3 hy)
    go_ret2
    exact ⟨_, rfl, Sl.nil _ _ _, hu⟩
  have hG := runErr_zero.1 he
  rw [he] at cR
  by_cases h2 : keyErr p' o' f' = 0
  rotate_left
  · have e1 : cutErr l (p', o', f') t = keyErr p' o' f' := by
      have h3 : elemErr p' o' f' t 0 0 = keyErr p' o' f' := elemErr_key h2
      simp [cutErr, wrErr, he, hxe, h3, h2]
    rw [e1, if_neg h2]
    have b1 : (keyErr p' o' f' != 0) = true := by simpa using h2
    clear he e1 hL hxe h2 hG
    go_enter Try.func42, Try.ntmps42
    go_wp2_with (first
      | (go_at_call 31; refine (cR _ hu).mono ?_; rintro e w1 ⟨rfl, hb1⟩; replace hy := (hb1.block (row3 hy).2.2.2).trans hy; replace hu := hu.call hb1; clear hb1; obtain ⟨y0, y1, y2, hys⟩ := row3 hy)
      | (go_at_call 32; refine (cE _).mono ?_; rintro e w1 ⟨rfl, hb1⟩; replace hy := (hb1.block (row3 hy).2.2.2).trans hy; replace hu := hu.call hb1; clear hb1; obtain ⟨y0, y1, y2, hys⟩ := row3 hy))
    go_ret2
    exact ⟨_, rfl, Sl.nil _ _ _, hu⟩
  rw [h2] at cE
  by_cases h3 : 1 ≤ t ∧ t ≤ 2147483647
  rotate_left
  · have e1 : cutErr l (p', o', f') t = 9 := by
      have h4 : elemErr p' o' f' t 0 0 = 9 := elemErr_time h2 (by unfold timeOk; omega)
      simp [cutErr, wrErr, he, hxe, h4]
    rw [e1, if_neg (by decide)]
    have h5 : t < 1 ∨ (1 ≤ t ∧ 2147483647 < t) := by omega
    clear he e1 hL hxe h2 hG h3
    rcases h5 with h5 | ⟨h5, h6⟩
    all_goals
      go_enter Try.func42, Try.ntmps42
      go_wp2_with (first
        | (go_at_call 31; refine (cR _ hu).mono ?_; rintro e w1 ⟨rfl, hb1⟩; replace hy := (hb1.block (row3 hy).2.2.2).trans hy; replace hu := hu.call hb1; clear hb1; obtain ⟨y0, y1, y2, hys⟩ := row3 hy)
        | (go_at_call 32; refine (cE _).mono ?_; rintro e w1 ⟨rfl, hb1⟩; replace hy := (hb1.block (row3 hy).2.2.2).trans hy; replace hu := hu.call hb1; clear hb1; obtain ⟨y0, y1, y2, hys⟩ := row3 hy))
      go_ret2
      exact ⟨_, rfl, Sl.nil _ _ _, hu⟩
  obtain ⟨h3, h4⟩ := h3
  have hxz : elemErr p' o' f' t 0 0 = 0 := elemErr_ok h2 (by unfold timeOk; omega) (by omega)
  by_cases h5 : t < latest l
  · have e1 : cutErr l (p', o', f') t = 9 := by
      have : (fresh (p', o', f') { data := #[] } t).m = t := rfl
      simp [cutErr, wrErr, he, hxe, hxz, this, h5]
    rw [e1, if_neg (by decide)]
    generalize latest l = t1 at cT h5
    clear he e1 hL hxe h2 hG hxz
    go_enter Try.func42, Try.ntmps42
    go_wp2_with (first
      | (go_at_call 31; refine (cR _ hu).mono ?_; rintro e w1 ⟨rfl, hb1⟩; replace hy := (hb1.block (row3 hy).2.2.2).trans hy; replace hu := hu.call hb1; clear hb1; obtain ⟨y0, y1, y2, hys⟩ := row3 hy)
      | (go_at_call 32; refine (cE _).mono ?_; rintro e w1 ⟨rfl, hb1⟩; replace hy := (hb1.block (row3 hy).2.2.2).trans hy; replace hu := hu.call hb1; clear hb1; obtain ⟨y0, y1, y2, hys⟩ := row3 hy)
      | (go_at_call 40; refine (cT _ hu).mono ?_; rintro e w1 ⟨rfl, hb1⟩; replace hy := (hb1.block (row3 hy).2.2.2).trans hy; replace hu := hu.call hb1; clear hb1; obtain ⟨y0, y1, y2, hys⟩ := row3 hy))
    go_ret2
    exact ⟨_, rfl, Sl.nil _ _ _, hu⟩
  have hw : wrErr l (fresh (p', o', f') { data := #[] } t) = 0 := wrErr_zero.2 ⟨hG, by rw [hxe]; exact hxz, by show latest l ≤ t; omega⟩
  have hpe : cutErr l (p', o', f') t = if l.any (isOpen (p', o', f')) then 0 else 4 := by unfold cutErr; rw [if_pos hw]
  have hn4 := hG.1
  have HG := Lib.hid hG
  generalize latest l = t1 at cT h5
  clear he h2 hw hG hxe hxz
  generalize hPE : cutErr l (p', o', f') t = pe at hpe ⊢
  generalize hPR : (if pe = 0 then cutR l (p', o', f') t else []) = pr
  have HPR := Lib.hid hPR
  have HPE := Lib.hid hpe
  clear hPE hPR hpe
  go_enter Try.func42, Try.ntmps42
  go_wp2_with (first
    | (go_at_call 31; refine (cR _ hu).mono ?_; rintro e w1 ⟨rfl, hb1⟩; replace hy := (hb1.block (row3 hy).2.2.2).trans hy; replace hu := hu.call hb1; clear hb1; obtain ⟨y0, y1, y2, hys⟩ := row3 hy; clear cR)
    | (go_at_call 32; refine (cE _).mono ?_; rintro e w1 ⟨rfl, hb1⟩; replace hy := (hb1.block (row3 hy).2.2.2).trans hy; replace hu := hu.call hb1; clear hb1; obtain ⟨y0, y1, y2, hys⟩ := row3 hy; clear cE)
    | (go_at_call 40; refine (cT _ hu).mono ?_; rintro e w1 ⟨rfl, hb1⟩; replace hy := (hb1.block (row3 hy).2.2.2).trans hy; replace hu := hu.call hb1; clear hb1; obtain ⟨y0, y1, y2, hys⟩ := row3 hy; clear cT))
  replace hL := hL.calm hu
  clear y0 y1 y2 hys h5
  obtain ⟨w3, hw3⟩ : ∃ w3 : World, w3 = w1 := ⟨_, rfl⟩
  subst hw3
  go_loopw [10, 11, 38] (fun v b i wr => ∃ k : Nat, k ≤ l.length ∧ i = .int .i64 k ∧ b = .bool ((l.take k).any (isOpen (p', o', f'))) ∧ Calm w3 wr ∧ Hid (OwnR w3.heap.size wr v ((l.take k).filterMap (cutStep (p', o', f') t)))) (fun _ _ i _ => l.length - (intOf i).toNat)
  case atStart => exact ⟨0, Nat.zero_le _, rfl, rfl, Calm.refl _, show OwnR _ _ _ _ from OwnR.nil _ _⟩
  case round =>
    obtain ⟨k, hk, rfl, rfl, hur, ho⟩ := hrel
    replace hy := (hur.block (row3 hy).2.2.2).trans hy
    by_cases hlt : k < l.length
    rotate_left
    · have hkl : l.take k = l := List.take_of_length_le (by omega)
      rw [hkl] at ho ⊢
      cases hsm : l.any (isOpen (p', o', f'))
      · have e3 : pe = 4 := by rw [HPE.out, hsm]; rfl
        subst e3
        have e4 : Hid (pr = []) := HPR.out.symm.trans (if_neg (by decide))
        replace hur := hu.call hur
        clear ho hy hsm hkl HPR HPE HG
        go_wp2_with fail
        go_ret2
        exact ⟨_, rfl, by rw [e4.out]; exact Sl.nil _ _ _, hur⟩
      · have e3 : pe = 0 := by rw [HPE.out, hsm]; rfl
        subst e3
        have hR : pr = l.filterMap (cutStep (p', o', f') t) := by rw [← HPR.out, if_pos rfl]; rfl
        have hwm : ∀ e ∈ l.filterMap (cutStep (p', o', f') t), e.wf := fun e he => by
          obtain ⟨x, hx, h9⟩ := cutStep_mem he
          unfold El.wf; rw [← h9]; exact HG.out.wf x hx
        have HS := Lib.hid (ho.out.sl hwm)
        have HR := Lib.hid hR
        replace hur := hu.call hur
        clear ho hy hsm hkl HPR HPE HG hR hwm
        go_wp2_with fail
        go_ret2
        exact ⟨_, rfl, by rw [HR.out]; exact HS.out, hur⟩
    obtain ⟨b, q, p, o, f, m, g, s, rfl, hb, HE, hm, c0, c1, c2, c3, c4, c5⟩ := (hL.calm hur).get hlt
    have hmt := cut_take HE.out (cutStep (p', o', f') t)
    have hat := any_take HE.out (isOpen (p', o', f'))
    have hlk : ((l.take k).filterMap (cutStep (p', o', f') t)).length ≤ 400 := Nat.le_trans (List.length_filterMap_le _ _) (by rw [List.length_take]; omega)
    replace hy := heap_past (.cells #[.int .i64 p, .int .i64 o, .int .i64 f, .int .i64 m, .int .i64 g, .string s] 35) hy
    obtain ⟨y0, y1, y2, hys⟩ := row3 hy
    clear HE hL HPR HPE HG
    generalize (l.take k).filterMap (cutStep (p', o', f') t) = pre at ho hmt hlk ⊢
    generalize (l.take k).any (isOpen (p', o', f')) = sm at hat ⊢
    by_cases hK : p = p' ∧ o = o' ∧ f = f'
    · obtain ⟨rfl, rfl, rfl⟩ := hK
      by_cases hg0 : g = 0
      · subst hg0
        have e2 : isOpen (p, o, f) ⟨p, o, f, m, 0, s⟩ = true := by simp [isOpen, El.key]
        rw [e2, Bool.or_true] at hat
        have HA := Lib.hid hat
        by_cases hmt2 : m = t
        · subst hmt2
          have e1 : cutStep (p, o, f) m ⟨p, o, f, m, 0, s⟩ = none := by simp [cutStep, El.key]
          rw [e1, List.append_nil] at hmt
          have ho8 := ho.out.calm ((Calm.refl wr).alloc (.cells #[.int .i64 p, .int .i64 o, .int .i64 f, .int .i64 m, .int .i64 0, .string s] 35))
          rw [← hmt] at ho8
          have HO9 := Lib.hid ho8
          clear ho8
          clear e1 e2 hmt hat ho
          go_wp2_with fail
          go_roundw
          case rel => exact ⟨k + 1, by omega, by go_num, by rw [HA.out], hur.alloc _, HO9⟩
          case measure => simp [intOf]; omega
        · have e1 : cutStep (p, o, f) t ⟨p, o, f, m, 0, s⟩ = some ⟨p, o, f, m, t, s⟩ := by simp [cutStep, El.key, hmt2]
          rw [e1] at hmt
          have HS := Lib.hid hmt
          clear e1 e2 hmt hat
          go_wp2_with (at_builtin; refine wpList_append_el rfl _ _ rfl _ _ _ rfl (ho.out.calm (((Calm.refl _).alloc _).alloc _)) _ _ p o f m t s _ rfl (heap_alloc2_new _ _ _) (by omega) (by have := hur.size; simp; omega) ?_; intro v' w9 ho9 hc9)
          rw [← HS.out] at ho9
          have HO9 := Lib.hid ho9
          have hur9 := hc9 _ (Nat.le_refl _) ((hur.alloc _).alloc _)
          clear ho9 hc9 HS
          go_roundw
          case rel => exact ⟨k + 1, by omega, by go_num, by rw [HA.out], hur9, HO9⟩
          case measure => simp [intOf]; omega
      · have e1 : cutStep (p, o, f) t ⟨p, o, f, m, g, s⟩ = some ⟨p, o, f, m, g, s⟩ := by simp [cutStep, El.key, hg0]
        have e2 : isOpen (p, o, f) ⟨p, o, f, m, g, s⟩ = false := by simp [isOpen, El.key, hg0]
        rw [e1] at hmt
        rw [e2, Bool.or_false] at hat
        have HS := Lib.hid hmt
        have HA := Lib.hid hat
        clear e1 e2 hmt hat
        go_wp2_with (at_builtin; refine wpList_append_el rfl _ _ rfl _ _ _ rfl (ho.out.calm (((Calm.refl _).alloc _).alloc _)) _ _ p o f m g s _ rfl (heap_alloc2_new _ _ _) (by omega) (by have := hur.size; simp; omega) ?_; intro v' w9 ho9 hc9)
        rw [← HS.out] at ho9
        have HO9 := Lib.hid ho9
        have hur9 := hc9 _ (Nat.le_refl _) ((hur.alloc _).alloc _)
        clear ho9 hc9 HS
        go_roundw
        case rel => exact ⟨k + 1, by omega, by go_num, by rw [HA.out], hur9, HO9⟩
        case measure => simp [intOf]; omega
    · have e1 : cutStep (p', o', f') t ⟨p, o, f, m, g, s⟩ = some ⟨p, o, f, m, g, s⟩ := by
        unfold cutStep; rw [if_neg (fun h => hK (by simpa [El.key] using h.1))]
      have e2 : isOpen (p', o', f') ⟨p, o, f, m, g, s⟩ = false := by
        unfold isOpen; rw [decide_eq_false_iff_not]; exact fun h => hK (by simpa [El.key] using h.1)
      rw [e1] at hmt
      rw [e2, Bool.or_false] at hat
      have HS := Lib.hid hmt
      have HA := Lib.hid hat
      have h3 : ¬ p = p' ∨ (p = p' ∧ ¬ o = o') ∨ (p = p' ∧ o = o' ∧ ¬ f = f') := by omega
      clear e1 e2 hmt hat hK
      rcases h3 with h3 | ⟨h3, h4⟩ | ⟨h3, h4, h5⟩
      · go_wp2_with (at_builtin; refine wpList_append_el rfl _ _ rfl _ _ _ rfl (ho.out.calm (((Calm.refl _).alloc _).alloc _)) _ _ p o f m g s _ rfl (heap_alloc2_new _ _ _) (by omega) (by have := hur.size; simp; omega) ?_; intro v' w9 ho9 hc9)
        rw [← HS.out] at ho9
        have HO9 := Lib.hid ho9
        have hur9 := hc9 _ (Nat.le_refl _) ((hur.alloc _).alloc _)
        clear ho9 hc9 HS
        go_roundw
        case rel => exact ⟨k + 1, by omega, by go_num, by rw [HA.out], hur9, HO9⟩
        case measure => simp [intOf]; omega
      · subst h3
        go_wp2_with (at_builtin; refine wpList_append_el rfl _ _ rfl _ _ _ rfl (ho.out.calm (((Calm.refl _).alloc _).alloc _)) _ _ p o f m g s _ rfl (heap_alloc2_new _ _ _) (by omega) (by have := hur.size; simp; omega) ?_; intro v' w9 ho9 hc9)
        rw [← HS.out] at ho9
        have HO9 := Lib.hid ho9
        have hur9 := hc9 _ (Nat.le_refl _) ((hur.alloc _).alloc _)
        clear ho9 hc9 HS
        go_roundw
        case rel => exact ⟨k + 1, by omega, by go_num, by rw [HA.out], hur9, HO9⟩
        case measure => simp [intOf]; omega
      · subst h3
        subst h4
        go_wp2_with (at_builtin; refine wpList_append_el rfl _ _ rfl _ _ _ rfl (ho.out.calm (((Calm.refl _).alloc _).alloc _)) _ _ p o f m g s _ rfl (heap_alloc2_new _ _ _) (by omega) (by have := hur.size; simp; omega) ?_; intro v' w9 ho9 hc9)
        rw [← HS.out] at ho9
        have HO9 := Lib.hid ho9
        have hur9 := hc9 _ (Nat.le_refl _) ((hur.alloc _).alloc _)
        clear ho9 hc9 HS
        go_roundw
        case rel => exact ⟨k + 1, by omega, by go_num, by rw [HA.out], hur9, HO9⟩
        case measure => simp [intOf]; omega
end Go.Proofs.Ytnhlcpneflllgaa
