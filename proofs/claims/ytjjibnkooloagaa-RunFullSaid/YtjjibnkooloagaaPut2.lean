/- run.Put. -/
import Derived.Test.YtjjibnkooloagaaPut
namespace Go.Proofs.Ytjjibnkooloagaa
open Go.RowKit

set_option maxRecDepth 100000 in
set_option maxHeartbeats 16000000 in
theorem runPut_any (A : Option Addr) (d : Nat) (l : List El) (p' o' f' : Int) (s' : ByteArray) (t : Int) (w : World) (hn : l.length ≤ 9223372036854775807) (hL : Lies w A l) :
    Calls Try.prog 25 #[.slice A l.length d, .agg #[.int .i64 p', .int .i64 o', .int .i64 f'], .string s', .int .i64 t] w (SlEnd (if putErr l (p', o', f') s' t = 0 then putR l (p', o', f') s' t else []) (putErr l (p', o', f') s' t) w) := by
  have hy : ((w.alloc (.cells #[.int .i64 p', .int .i64 o', .int .i64 f'] 30)).alloc (.cells #[.int .i64 p', .int .i64 o', .int .i64 f', .int .i64 t, .int .i64 0, .string s'] 32)).heap[w.heap.size]? = some (.cells #[.int .i64 p', .int .i64 o', .int .i64 f'] 30 (0, 0)) := heap_past _ (heap_new _ _)
  have hz : ((w.alloc (.cells #[.int .i64 p', .int .i64 o', .int .i64 f'] 30)).alloc (.cells #[.int .i64 p', .int .i64 o', .int .i64 f', .int .i64 t, .int .i64 0, .string s'] 32)).heap[w.heap.size + 1]? = some (.cells #[.int .i64 p', .int .i64 o', .int .i64 f', .int .i64 t, .int .i64 0, .string s'] 32 (0, 0)) := by simpa using heap_new (w.alloc (.cells #[.int .i64 p', .int .i64 o', .int .i64 f'] 30)) (.cells #[.int .i64 p', .int .i64 o', .int .i64 f', .int .i64 t, .int .i64 0, .string s'] 32)
  have hu := ((Calm.refl w).alloc (.cells #[.int .i64 p', .int .i64 o', .int .i64 f'] 30)).alloc (.cells #[.int .i64 p', .int .i64 o', .int .i64 f', .int .i64 t, .int .i64 0, .string s'] 32)
  have cW : ∀ u, Calm w u → Calls Try.prog 53 #[.slice A l.length d, .agg #[.int .i64 p', .int .i64 o', .int .i64 f', .int .i64 t, .int .i64 0, .string s']] u fun e w' => e = .returned (.int .i64 (wrErr l (fresh (p', o', f') s' t))) ∧ Calm u w' := fun u hu => checkWrite_any A d l p' o' f' t 0 s' u hn (hL.calm hu)
  by_cases he : wrErr l (fresh (p', o', f') s' t) = 0
  rotate_left
  · have e1 : putErr l (p', o', f') s' t = wrErr l (fresh (p', o', f') s' t) := by unfold putErr; rw [if_neg he]
    rw [e1, if_neg he]
    have b1 : (wrErr l (fresh (p', o', f') s' t) != 0) = true := by simpa using he
    generalize wrErr l (fresh (p', o', f') s' t) = x at b1 cW
    clear he e1 hL
    go_enter Try.func25, Try.ntmps25
    go_wp2_with (go_at_call 53; refine (cW _ hu).mono ?_; rintro e w1 ⟨rfl, hb1⟩; replace hy := (hb1.block (row3 hy).2.2.2).trans hy; replace hz := (hb1.block (row6 hz).2.2.2.2.2.2).trans hz; replace hu := hu.call hb1; clear hb1; obtain ⟨y0, y1, y2, hys⟩ := row3 hy; obtain ⟨z0, z1, z2, z3, z4, z5, hzs⟩ := row6 hz)
    go_ret2
    exact ⟨_, rfl, Sl.nil _ _ _, hu⟩
  rw [he] at cW
  have hgood := fun hp : putErr l (p', o', f') s' t = 0 => put_good he hp
  obtain ⟨hG, hx, hlt⟩ := wrErr_zero.1 he
  obtain ⟨q1, q2, q3⟩ := sizes he
  have hpe : putErr l (p', o', f') s' t = if l.any (isSame (p', o', f') t) then 0 else if 400 ≤ l.length then 8 else 0 := by unfold putErr; rw [if_pos he]
  have hlt' : latest l ≤ t := hlt
  have hn4 := hG.1
  have cV : ∀ u, Calm w u → Calls Try.prog 46 #[.slice A l.length d, .agg #[.int .i64 p', .int .i64 o', .int .i64 f'], .int .i64 t] u fun e w' => e = .returned (.tuple #[.int .i64 (if hitB l (pos l (p', o', f') t) (p', o', f') t then (pos l (p', o', f') t : Int) - 1 else 0), .bool (hitB l (pos l (p', o', f') t) (p', o', f') t)]) ∧ Calm u w' :=
    fun u hu => liveRun_any A d l p' o' f' t u hn4 (hL.calm hu) hG.2.2
  have cC : ∀ u, Calm w u → Calls Try.prog 35 #[.slice A l.length d] u fun e w' => ∃ v, e = .returned v ∧ OwnR u.heap.size w' v l ∧ Calm u w' := fun u hu => clone_any A d l u hn4 (hL.calm hu)
  rcases hit_open hG (p', o', f') hlt' with ⟨h1, h2, hi, h3, h4⟩ | ⟨h1, h2⟩
  · rw [h1, if_pos rfl, show (pos l (p', o', f') t : Int) - 1 = ((pos l (p', o', f') t - 1 : Nat) : Int) by omega] at cV
    have hpos : pos l (p', o', f') t = (pos l (p', o', f') t - 1) + 1 := by omega
    by_cases hm : l[pos l (p', o', f') t - 1].m = t
    · obtain ⟨e1, e2⟩ := put_same (s := s') hi h3 h4 hm
      have e3 : putErr l (p', o', f') s' t = 0 := by rw [hpe, e1]; rfl
      have hgd := hgood e3
      rw [e3, if_pos rfl]
      rw [e2] at hgd ⊢
      generalize pos l (p', o', f') t - 1 = j at hi hm hgd cV ⊢
      clear e1 e2 e3 h1 h2 h3 h4 hpe hgood hpos hlt' hlt hx he hG
      have hwf := hgd.wf
      obtain ⟨b, q, p, o, f, m, g, s, rfl, hb, HE, hm', c0, c1, c2, c3, c4, c5⟩ := hL.get hi
      have e4 : l[j] = ⟨p, o, f, m, g, s⟩ := (List.getElem?_eq_some_iff.1 HE.out).2
      rw [e4] at hm
      simp only at hm
      subst hm
      have hC3 : ∀ u, Calm w u → u.cell? ⟨b, q + j * 6 + 3, none⟩ = some (.int .i64 m) := fun u hu => (hu.facts.1 _ _ hb).trans c3
      have hjz : (j : Int) < (l.length : Int) := by omega
      have E4 := Lib.hid e4
      clear c0 c1 c2 c3 c4 c5 HE e4 hL
      go_enter Try.func25, Try.ntmps25
      go_wp2_with (first
        | (go_at_call 53; refine (cW _ hu).mono ?_; rintro e w1 ⟨rfl, hb1⟩; replace hy := (hb1.block (row3 hy).2.2.2).trans hy; replace hz := (hb1.block (row6 hz).2.2.2.2.2.2).trans hz; replace hu := hu.call hb1; clear hb1; obtain ⟨y0, y1, y2, hys⟩ := row3 hy; obtain ⟨z0, z1, z2, z3, z4, z5, hzs⟩ := row6 hz; clear cW)
        | (go_at_call 46; refine (cV _ hu).mono ?_; rintro e w1 ⟨rfl, hb1⟩; replace hy := (hb1.block (row3 hy).2.2.2).trans hy; replace hz := (hb1.block (row6 hz).2.2.2.2.2.2).trans hz; replace hu := hu.call hb1; clear hb1; obtain ⟨y0, y1, y2, hys⟩ := row3 hy; obtain ⟨z0, z1, z2, z3, z4, z5, hzs⟩ := row6 hz; have c3 := hC3 _ hu; clear cV hC3)
        | (go_at_call 35; refine (cC _ hu).mono ?_; rintro e w2 ⟨v, rfl, ho, hb1⟩; obtain ⟨g', cap, rfl⟩ := ho.some (by omega); have HO := Lib.hid ho; obtain ⟨⟨d0, d1, d2, d3, d4, d5⟩, hfz, hbg, hgl, _, hcn⟩ := ho.cell hi; have hfz5 := hfz (j * 6 + 5); have hu2 := hu.call hb1; have hbw := Nat.le_trans hu.size hbg; clear cC ho hfz))
      go_ret2
      exact ⟨_, rfl, (HO.out.set (x := { l[j] with s := s' }) hi (by omega) (by rw [E4.out]; rfl)).sl hwf, hu2.setCell hbw _⟩
    · obtain ⟨e1, e2, e3, e4⟩ := put_new (s := s') hG hi h3 h4 hm hlt' q2 q1
      have hpe2 : putErr l (p', o', f') s' t = if 400 ≤ l.length then 8 else 0 := by rw [hpe, e1]; rfl
      have hm2 : ¬ (l[pos l (p', o', f') t - 1].m = t) := hm
      obtain ⟨b, q, p, o, f, m, g, s, rfl, hb, HE, hm', c0, c1, c2, c3, c4, c5⟩ := hL.get hi
      have e5 : l[pos l (p', o', f') t - 1] = ⟨p, o, f, m, g, s⟩ := (List.getElem?_eq_some_iff.1 HE.out).2
      rw [e5] at hm2
      simp only at hm2
      have hC3 : ∀ u, Calm w u → u.cell? ⟨b, q + (pos l (p', o', f') t - 1) * 6 + 3, none⟩ = some (.int .i64 m) := fun u hu => (hu.facts.1 _ _ hb).trans c3
      have E5 := Lib.hid e5
      clear c0 c1 c2 c3 c4 c5 HE e5 hL
      by_cases hfull : 400 ≤ l.length
      · rw [if_pos hfull] at hpe2
        rw [hpe2, if_neg (by decide)]
        have hl4 : (l.length : Int) = 400 := by omega
        have hjz : ((pos l (p', o', f') t - 1 : Nat) : Int) < (l.length : Int) := by omega
        generalize pos l (p', o', f') t - 1 = j at *
        clear hgood hpe hpe2 e1 e2 e3 e4 h1 h2 h3 h4 hpos hlt hlt' hx he hG hm
        clear hfull hn4
        go_enter Try.func25, Try.ntmps25
        go_wp2_with (first
          | (go_at_call 53; refine (cW _ hu).mono ?_; rintro e w1 ⟨rfl, hb1⟩; replace hy := (hb1.block (row3 hy).2.2.2).trans hy; replace hz := (hb1.block (row6 hz).2.2.2.2.2.2).trans hz; replace hu := hu.call hb1; clear hb1; obtain ⟨y0, y1, y2, hys⟩ := row3 hy; obtain ⟨z0, z1, z2, z3, z4, z5, hzs⟩ := row6 hz; clear cW)
          | (go_at_call 46; refine (cV _ hu).mono ?_; rintro e w1 ⟨rfl, hb1⟩; replace hy := (hb1.block (row3 hy).2.2.2).trans hy; replace hz := (hb1.block (row6 hz).2.2.2.2.2.2).trans hz; replace hu := hu.call hb1; clear hb1; obtain ⟨y0, y1, y2, hys⟩ := row3 hy; obtain ⟨z0, z1, z2, z3, z4, z5, hzs⟩ := row6 hz; have c3 := hC3 _ hu; clear cV hC3))
        go_ret2
        exact ⟨_, rfl, Sl.nil _ _ _, hu⟩
      · rw [if_neg hfull] at hpe2
        have hgd := hgood hpe2
        rw [hpe2, if_pos rfl]
        rw [e4] at hgd ⊢
        have hl4 : ¬ ((l.length : Int) = 400) := by omega
        have hpl := pos_le l (p', o', f') t
        have HP := Lib.hid hpos
        clear hgood hpe hpe2 e1 e4 h1 h2 h3 h4 hpos hlt hlt' hx he hG hm
        generalize hpj : pos l (p', o', f') t - 1 = j at *
        have hjz : (j : Int) < (l.length : Int) := by omega
        have hq : (l.set j { l[j] with g := t }) = l.set j ⟨p, o, f, m, t, s⟩ := by rw [E5.out]
        rw [hq] at hgd e2 e3 ⊢
        clear hq hpj
        go_enter Try.func25, Try.ntmps25
        go_upto_region 15 with (first
          | (go_at_call 53; refine (cW _ hu).mono ?_; rintro e w1 ⟨rfl, hb1⟩; replace hy := (hb1.block (row3 hy).2.2.2).trans hy; replace hz := (hb1.block (row6 hz).2.2.2.2.2.2).trans hz; replace hu := hu.call hb1; clear hb1; obtain ⟨y0, y1, y2, hys⟩ := row3 hy; obtain ⟨z0, z1, z2, z3, z4, z5, hzs⟩ := row6 hz; clear cW)
          | (go_at_call 46; refine (cV _ hu).mono ?_; rintro e w1 ⟨rfl, hb1⟩; replace hy := (hb1.block (row3 hy).2.2.2).trans hy; replace hz := (hb1.block (row6 hz).2.2.2.2.2.2).trans hz; replace hu := hu.call hb1; clear hb1; obtain ⟨y0, y1, y2, hys⟩ := row3 hy; obtain ⟨z0, z1, z2, z3, z4, z5, hzs⟩ := row6 hz; have c3 := hC3 _ hu; clear cV hC3)
          | (go_at_call 35; refine (cC _ hu).mono ?_; rintro e w2 ⟨v, rfl, ho, hb1⟩; obtain ⟨g', cap, rfl⟩ := ho.some (by omega); have HO := Lib.hid ho; obtain ⟨⟨d0, d1, d2, d3, d4, d5⟩, hfz, hbg, hgl, _, hcn⟩ := ho.cell hi; have hfz4 := hfz (j * 6 + 4); have hz2 := (hb1.block (row6 hz).2.2.2.2.2.2).trans hz; have hu2 := hu.call hb1; have hbw := Nat.le_trans hu.size hbg; clear cC ho hfz))
        have HO2 := Lib.hid (HO.out.set (x := ⟨p, o, f, m, t, s⟩) hi (by omega : 4 < 6) (by rw [E5.out]; rfl : _ = l[j].cells.set 4 (.int .i64 t)))
        have hz3 := (Below.heap_setCell w2 ⟨g', j * 6 + 4, none⟩ (.int .i64 t) (w.heap.size + 1) (by show _ ≠ g'; omega)).trans hz2
        have hu3 := hu2.setCell (p := ⟨g', j * 6 + 4, none⟩) hbw (.int .i64 t)
        have hwl : w1.heap.size ≤ (w2.setCell ⟨g', j * 6 + 4, none⟩ (.int .i64 t)).heap.size := by simp; omega
        generalize w2.setCell ⟨g', j * 6 + 4, none⟩ (.int .i64 t) = w3 at HO2 hz3 hu3 hwl ⊢
        have hwf := e2.wf
        have hL1 := (HO2.out.reads hwf).2
        have cF : ∀ u, Calm w3 u → Calls Try.prog 55 #[.slice (some ⟨g', 0, none⟩) l.length cap, .agg #[.int .i64 p', .int .i64 o', .int .i64 f', .int .i64 t]] u fun e w' => e = .returned (.int .i64 (pos l (p', o', f') t)) ∧ Calm u w' := fun u hu => by
          have h := after_any (some ⟨g', 0, none⟩) cap (l.set j ⟨p, o, f, m, t, s⟩) p' o' f' t u (by rw [List.length_set]; exact hn4) (hL1.calm hu) e2.2.2
          rw [List.length_set, show pos (l.set j ⟨p, o, f, m, t, s⟩) (p', o', f') t = pos l (p', o', f') t from by rw [← E5.out] at *; exact e3] at h
          exact h
        have cI : ∀ u h, Calm w3 u → w3.drew.heap.size ≤ h → u.heap[h]? = some (.cells #[.int .i64 p', .int .i64 o', .int .i64 f', .int .i64 t, .int .i64 0, .string s'] 32 (0, 0)) → Calls Try.prog 54 #[.slice (some ⟨g', 0, none⟩) l.length cap, .int .i64 (pos l (p', o', f') t), .slice (some ⟨h, 0, none⟩) 1 1] u (OwnEnd w1.heap.size (insAt (l.set j ⟨p, o, f, m, t, s⟩) (pos l (p', o', f') t) (fresh (p', o', f') s' t)) u) := fun u h hv hgh0 hh =>
          have hgh : g' < h := Nat.lt_of_lt_of_le (HO2.out.lt g' rfl).2 hgh0
          insert_any w1.heap.size h (pos l (p', o', f') t) _ (l.set j ⟨p, o, f, m, t, s⟩) p' o' f' t 0 s' u (by rw [List.length_set]; exact hpl) (by rw [List.length_set]; exact hn4) (HO2.out.calm hv) (Nat.le_trans hwl hv.size) hh (fun e => Nat.ne_of_lt hgh (by simpa [Value.ownBlock] using e))
        have hwf2 := Lib.hid hgd.wf
        have hw1 := hu.size
        clear hgd e2 e3 HP hpl E5 HO HO2 hL1 hwf d0 d1 d2 d3 d4 d5 hfz4 hz2 hu2 hwl y0 y1 y2 hys z0 z1 z2 z3 z4 z5 hzs hy hz c3
        generalize pos l (p', o', f') t = P at *
        generalize insAt (l.set j ⟨p, o, f, m, t, s⟩) P (fresh (p', o', f') s' t) = R at *
        obtain ⟨z0, z1, z2, z3, z4, z5, hzs⟩ := row6 hz3
        have HW1 := Lib.hid hw1
        clear hw1 q1 q2 q3 hn hn4 hm2 hb hm' hfull hl4 hjz hi hb1 hbg hgl hcn hbw hz3
        refine wp_region_plan_tail 7 [.val (.slice (some ⟨g', 0, none⟩) l.length cap), .val (.slice (some ⟨g', 0, none⟩) l.length cap), .val (.agg #[.int .i64 p', .int .i64 o', .int .i64 f', .int .i64 t, .int .i64 0, .string s']), .val (.agg #[.int .i64 p', .int .i64 o', .int .i64 f', .int .i64 t]), .val (.int .i64 P), .val (.agg #[.int .i64 p', .int .i64 o', .int .i64 f', .int .i64 t, .int .i64 0, .string s']), .new #[.int .i64 p', .int .i64 o', .int .i64 f', .int .i64 t, .int .i64 0, .string s'] 32 (some 1)] (by kernel_rfl) (by kernel_rfl) (by kernel_rfl) (by kernel_rfl) ?_
        intro X
        simp only [List.take_succ_cons, List.take_zero, List.drop_succ_cons, List.drop_zero]
        iterate 6
          refine plan_val (by kernel_rfl) (fun u hu => ?_) ?_
          · obtain ⟨hc, hf, hz⟩ := hu.of_drew.facts
            go_simp
            all_goals first
              | (go_at_call 56; exact spot_any _ _ _ _ _ _ _)
              | (go_at_call 55; exact cF _ hu.of_drew)
          simp only [Act.put, List.setIfInBounds_toArray, List.set_cons_zero, List.set_cons_succ, Nat.reduceAdd]
        refine plan_lit (by kernel_rfl) (fun u => ?_) ?_
        · go_simp
        simp only [Act.put, List.setIfInBounds_toArray, List.set_cons_zero, List.set_cons_succ, Nat.reduceAdd]
        refine plan_end ?_
        intro w' hB
        have hr6 := hB.row 6 _ _ rfl
        have hk := hB.calm.of_drew
        clear hB
        have hI := cI w' (X 6) hk hr6.1 hr6.2
        clear hr6 cI cF
        go_wp2_with (go_at_call 54; refine hI.mono ?_; rintro e w9 ⟨v9, rfl, ho9, hk9⟩; have HO9 := Lib.hid ho9; have hu9 := hk9 w HW1.out (hu3.call hk); clear ho9 hk9)
        go_ret2
        exact ⟨_, rfl, HO9.out.sl hwf2.out, hu9⟩
  · rw [h1] at cV
    simp only [Bool.false_eq_true, if_false] at cV
    obtain ⟨e1, e2⟩ := put_none (s := s') (t := t) hG h2
    have hpe2 : putErr l (p', o', f') s' t = if 400 ≤ l.length then 8 else 0 := by rw [hpe, e1]; rfl
    by_cases hfull : 400 ≤ l.length
    · rw [if_pos hfull] at hpe2
      rw [hpe2, if_neg (by decide)]
      have hl4 : (l.length : Int) = 400 := by omega
      clear hgood hpe hpe2 e1 e2 h1 h2 hlt hlt' hx he hG hL hfull hn4
      go_enter Try.func25, Try.ntmps25
      go_wp2_with (first
        | (go_at_call 53; refine (cW _ hu).mono ?_; rintro e w1 ⟨rfl, hb1⟩; replace hy := (hb1.block (row3 hy).2.2.2).trans hy; replace hz := (hb1.block (row6 hz).2.2.2.2.2.2).trans hz; replace hu := hu.call hb1; clear hb1; obtain ⟨y0, y1, y2, hys⟩ := row3 hy; obtain ⟨z0, z1, z2, z3, z4, z5, hzs⟩ := row6 hz; clear cW)
        | (go_at_call 46; refine (cV _ hu).mono ?_; rintro e w1 ⟨rfl, hb1⟩; replace hy := (hb1.block (row3 hy).2.2.2).trans hy; replace hz := (hb1.block (row6 hz).2.2.2.2.2.2).trans hz; replace hu := hu.call hb1; clear hb1; obtain ⟨y0, y1, y2, hys⟩ := row3 hy; obtain ⟨z0, z1, z2, z3, z4, z5, hzs⟩ := row6 hz; clear cV))
      go_ret2
      exact ⟨_, rfl, Sl.nil _ _ _, hu⟩
    · rw [if_neg hfull] at hpe2
      have hgd := hgood hpe2
      rw [hpe2, if_pos rfl]
      rw [e2] at hgd ⊢
      have hl4 : ¬ ((l.length : Int) = 400) := by omega
      have hpl := pos_le l (p', o', f') t
      have HG := Lib.hid hG
      clear hgood hpe hpe2 e1 e2 h1 h2 hlt hlt' hx he hG hL
      go_enter Try.func25, Try.ntmps25
      go_upto_region 15 with (first
        | (go_at_call 53; refine (cW _ hu).mono ?_; rintro e w1 ⟨rfl, hb1⟩; replace hy := (hb1.block (row3 hy).2.2.2).trans hy; replace hz := (hb1.block (row6 hz).2.2.2.2.2.2).trans hz; replace hu := hu.call hb1; clear hb1; obtain ⟨y0, y1, y2, hys⟩ := row3 hy; obtain ⟨z0, z1, z2, z3, z4, z5, hzs⟩ := row6 hz; clear cW)
        | (go_at_call 46; refine (cV _ hu).mono ?_; rintro e w1 ⟨rfl, hb1⟩; replace hy := (hb1.block (row3 hy).2.2.2).trans hy; replace hz := (hb1.block (row6 hz).2.2.2.2.2.2).trans hz; replace hu := hu.call hb1; clear hb1; obtain ⟨y0, y1, y2, hys⟩ := row3 hy; obtain ⟨z0, z1, z2, z3, z4, z5, hzs⟩ := row6 hz; clear cV)
        | (go_at_call 35; refine (cC _ hu).mono ?_; rintro e w3 ⟨v, rfl, ho, hb1⟩; obtain ⟨A1, c1, rfl, _, _, hL1⟩ := ho.lies HG.out.wf; have HO2 := Lib.hid ho; have hz3 := (hb1.block (row6 hz).2.2.2.2.2.2).trans hz; have hu3 := hu.call hb1; have hwl := hb1.size; have hw1 := hu.size; clear cC ho))
      have cF : ∀ u, Calm w3 u → Calls Try.prog 55 #[.slice A1 l.length c1, .agg #[.int .i64 p', .int .i64 o', .int .i64 f', .int .i64 t]] u fun e w' => e = .returned (.int .i64 (pos l (p', o', f') t)) ∧ Calm u w' := fun u hu =>
        after_any A1 c1 l p' o' f' t u hn4 (hL1.calm hu) HG.out.2.2
      have cI : ∀ u h, Calm w3 u → w3.drew.heap.size ≤ h → u.heap[h]? = some (.cells #[.int .i64 p', .int .i64 o', .int .i64 f', .int .i64 t, .int .i64 0, .string s'] 32 (0, 0)) → Calls Try.prog 54 #[.slice A1 l.length c1, .int .i64 (pos l (p', o', f') t), .slice (some ⟨h, 0, none⟩) 1 1] u (OwnEnd w1.heap.size (insAt l (pos l (p', o', f') t) (fresh (p', o', f') s' t)) u) := fun u h hv hgh0 hh =>
        insert_any w1.heap.size h (pos l (p', o', f') t) _ l p' o' f' t 0 s' u hpl hn4 (HO2.out.calm hv) (Nat.le_trans hwl hv.size) hh (fun e => by have h9 := (HO2.out.lt h e).2; exact absurd hgh0 (Nat.not_le.2 h9))
      have hwf2 := Lib.hid hgd.wf
      clear hgd hpl HG HO2 hL1 hwl y0 y1 y2 hys z0 z1 z2 z3 z4 z5 hzs hy hz
      generalize pos l (p', o', f') t = P at *
      generalize insAt l P (fresh (p', o', f') s' t) = R at *
      obtain ⟨z0, z1, z2, z3, z4, z5, hzs⟩ := row6 hz3
      have HW1 := Lib.hid hw1
      clear hw1 q1 q2 q3 hn hn4 hfull hl4 hb1 hz3
      refine wp_region_plan_tail 7 [.val (.slice A1 l.length c1), .val (.slice A1 l.length c1), .val (.agg #[.int .i64 p', .int .i64 o', .int .i64 f', .int .i64 t, .int .i64 0, .string s']), .val (.agg #[.int .i64 p', .int .i64 o', .int .i64 f', .int .i64 t]), .val (.int .i64 P), .val (.agg #[.int .i64 p', .int .i64 o', .int .i64 f', .int .i64 t, .int .i64 0, .string s']), .new #[.int .i64 p', .int .i64 o', .int .i64 f', .int .i64 t, .int .i64 0, .string s'] 32 (some 1)] (by kernel_rfl) (by kernel_rfl) (by kernel_rfl) (by kernel_rfl) ?_
      intro X
      simp only [List.take_succ_cons, List.take_zero, List.drop_succ_cons, List.drop_zero]
      iterate 6
        refine plan_val (by kernel_rfl) (fun u hu => ?_) ?_
        · obtain ⟨hc, hf, hz⟩ := hu.of_drew.facts
          go_simp
          all_goals first
            | (go_at_call 56; exact spot_any _ _ _ _ _ _ _)
            | (go_at_call 55; exact cF _ hu.of_drew)
        simp only [Act.put, List.setIfInBounds_toArray, List.set_cons_zero, List.set_cons_succ, Nat.reduceAdd]
      refine plan_lit (by kernel_rfl) (fun u => ?_) ?_
      · go_simp
      simp only [Act.put, List.setIfInBounds_toArray, List.set_cons_zero, List.set_cons_succ, Nat.reduceAdd]
      refine plan_end ?_
      intro w' hB
      have hr6 := hB.row 6 _ _ rfl
      have hk := hB.calm.of_drew
      clear hB
      have hI := cI w' (X 6) hk hr6.1 hr6.2
      clear hr6 cI cF
      go_wp2_with (go_at_call 54; refine hI.mono ?_; rintro e w9 ⟨v9, rfl, ho9, hk9⟩; have HO9 := Lib.hid ho9; have hu9 := hk9 w HW1.out (hu3.call hk); clear ho9 hk9)
      go_ret2
      exact ⟨_, rfl, HO9.out.sl hwf2.out, hu9⟩
end Go.Proofs.Ytjjibnkooloagaa
