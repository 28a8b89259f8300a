/- Texts of one kind in one file. -/
import Derived.Test.YthfjanmihfbjoaaPkChangeSays2
set_option maxRecDepth 100000
namespace Go.Proofs.Ythfjanmihfbjoaa
open Go.ChangeShapes Go.WideShapes Go.ChangeAt Go.RowKit
theorem ch_err2 {c : Chg} (h : keyErr c.p c.o c.f = 0) (h2 : ¬ (c.ws.size ≤ 40 ∧ c.vs.size ≤ 40)) : c.err = 2 := by unfold Chg.err; rw [if_pos h, if_neg h2]
theorem ch_err3 {c : Chg} (h : keyErr c.p c.o c.f = 0) (h2 : c.ws.size ≤ 40 ∧ c.vs.size ≤ 40) (h3 : ¬ (fitS c.bef ∧ fitS c.aft ∧ c.bef ≠ c.aft)) : c.err = 3 := by unfold Chg.err; rw [if_pos h, if_pos h2, if_neg h3]
set_option maxHeartbeats 64000000 in
theorem refChanges_any (A : Option Addr) (c : Nat) (l : List Chg) (w : World) (hn : l.length ≤ 9223372036854775807) (hL : LiesC w A l) :
    Calls Try.prog 16 #[.slice A l.length c] w fun e w' => e = .returned (.int .i64 (chErr l)) ∧ Calm w w' := by
  by_cases hbig : 400 < l.length
  · have K : Hid (2 = chErr l) := by show _ = _; unfold chErr; rw [if_pos hbig]
    go_enter Try.func16, Try.ntmps16
    go_wp2_with fail
    go_ret
    exact ⟨ret_int K.out, Calm.refl _⟩
  go_enter Try.func16, Try.ntmps16
  go_wp2_with fail
  go_loopw [12] (fun i wr => ∃ k : Nat, k ≤ l.length ∧ i = .int .i64 k ∧ Calm w wr ∧ NoErrC l k) (fun i _ => l.length - (intOf i).toNat)
  case atStart => exact ⟨0, Nat.zero_le _, rfl, Calm.refl _, fun j hj => absurd hj (Nat.not_lt_zero _)⟩
  case round =>
    obtain ⟨k, hk, rfl, hu, hN⟩ := hrel
    by_cases hlt : k < l.length
    rotate_left
    · have hkl : k = l.length := by omega
      have K : Hid (0 = chErr l) := chErr_good hbig (by rw [← hkl]; exact hN)
      clear hkl
      go_wp2_with fail
      go_ret
      exact ⟨ret_int K.out, hu⟩
    obtain ⟨b, q, p, o, f, hd, hs, ws, vs, rfl, hb, HE, c0, c1, c2, c3, c4, c5, c6⟩ := chg_get (hL.calm hu) hlt
    have cK := fun u => refKey_any p o f u
    have KE : ∀ n, Chg.err ⟨p, o, f, hd, hs, ws, vs⟩ = n → n ≠ 0 → Hid (n = chErr l) := fun n h1 h2 => by
      have h3 := stepC_err HE.out (by rw [h1]; exact h2)
      show _ = _
      rw [← chErr_at hbig hN (by rw [h3, h1]; exact h2) hlt, h3, h1]
    by_cases hk0 : keyErr p o f = 0
    rotate_left
    · have K := KE (keyErr p o f) (by unfold Chg.err; rw [if_neg hk0]) hk0
      have b1 : (keyErr p o f != 0) = true := by simpa using hk0
      generalize keyErr p o f = E at cK b1 K
      clear hk0 KE hN
      go_wp2_with (go_at_call 35; refine (cK _).mono ?_; rintro e w1 ⟨rfl, hb1⟩; have hx := (hb1.block (k := wr.heap.size) (by simp)).trans (heap_new wr (.cells #[.int .i64 p, .int .i64 o, .int .i64 f, .bool hd, .bool hs, .string ws, .string vs] 33 (0, 0))); obtain ⟨x0, x1, x2, x3, x4, x5, x6, hxs⟩ := row7 hx; have hv := ((Calm.refl wr).alloc (.cells #[.int .i64 p, .int .i64 o, .int .i64 f, .bool hd, .bool hs, .string ws, .string vs] 33 (0, 0))).call hb1; clear hb1 hx)
      go_ret
      exact ⟨ret_int K.out, hu.call hv⟩
    rw [hk0] at cK
    by_cases hz : ws.size ≤ 40 ∧ vs.size ≤ 40
    rotate_left
    · have K := KE 2 (ch_err2 hk0 hz) (by decide)
      clear hk0 KE hN
      by_cases h1 : ws.size < vs.size
      · have h2 : 40 < vs.size := by omega
        clear hz
        go_wp2_with (go_at_call 35; refine (cK _).mono ?_; rintro e w1 ⟨rfl, hb1⟩; have hx := (hb1.block (k := wr.heap.size) (by simp)).trans (heap_new wr (.cells #[.int .i64 p, .int .i64 o, .int .i64 f, .bool hd, .bool hs, .string ws, .string vs] 33 (0, 0))); obtain ⟨x0, x1, x2, x3, x4, x5, x6, hxs⟩ := row7 hx; have hv := ((Calm.refl wr).alloc (.cells #[.int .i64 p, .int .i64 o, .int .i64 f, .bool hd, .bool hs, .string ws, .string vs] 33 (0, 0))).call hb1; clear hb1 hx)
        go_ret
        exact ⟨ret_int K.out, hu.call hv⟩
      · have h2 : 40 < ws.size := by omega
        have h3 : vs.size ≤ ws.size := by omega
        clear hz h1
        go_wp2_with (go_at_call 35; refine (cK _).mono ?_; rintro e w1 ⟨rfl, hb1⟩; have hx := (hb1.block (k := wr.heap.size) (by simp)).trans (heap_new wr (.cells #[.int .i64 p, .int .i64 o, .int .i64 f, .bool hd, .bool hs, .string ws, .string vs] 33 (0, 0))); obtain ⟨x0, x1, x2, x3, x4, x5, x6, hxs⟩ := row7 hx; have hv := ((Calm.refl wr).alloc (.cells #[.int .i64 p, .int .i64 o, .int .i64 f, .bool hd, .bool hs, .string ws, .string vs] 33 (0, 0))).call hb1; clear hb1 hx)
        go_ret
        exact ⟨ret_int K.out, hu.call hv⟩
    have hz1 := hz.1
    have hz2 := hz.2
    by_cases hsame : hd = hs ∧ ws = vs
    · obtain ⟨rfl, rfl⟩ := hsame
      have K := KE 3 (ch_err3 hk0 hz fun h => h.2.2 rfl) (by decide)
      clear KE hN
      go_upto_region 12 with (go_at_call 35; refine (cK _).mono ?_; rintro e w1 ⟨rfl, hb1⟩; have hx := (hb1.block (k := wr.heap.size) (by simp)).trans (heap_new wr (.cells #[.int .i64 p, .int .i64 o, .int .i64 f, .bool hd, .bool hd, .string ws, .string ws] 33 (0, 0))); obtain ⟨x0, x1, x2, x3, x4, x5, x6, hxs⟩ := row7 hx; have hv := ((Calm.refl wr).alloc (.cells #[.int .i64 p, .int .i64 o, .int .i64 f, .bool hd, .bool hd, .string ws, .string ws] 33 (0, 0))).call hb1; clear hb1 hx)
      refine wp_region_plan [.val (.bool true), .val (.bool true), .idle, .idle, .idle, .idle, .idle, .idle, .idle, .idle, .idle, .val (.bool true), .val (.bool true), .idle, .idle, .idle, .idle, .idle, .idle, .idle, .idle, .idle, .val (.bool true), .val (.bool true), .idle, .idle, .idle, .idle, .idle, .idle, .idle, .idle, .idle, .idle, .idle, .idle, .idle, .idle, .val (.bool true)] (by kernel_rfl) (by kernel_rfl) (by kernel_rfl) ?_
      intro X
      iterate 2
        refine plan_val (by kernel_rfl) (fun u hu => ?_) ?_
        · obtain ⟨hc, hf, hz⟩ := hu.of_drew.facts
          go_simp
        simp only [Act.put, List.setIfInBounds_toArray, List.set_cons_zero, List.set_cons_succ, Nat.reduceAdd]
      iterate 9
        refine plan_idle (by kernel_rfl) ?_
        simp only [Act.put, List.setIfInBounds_toArray, List.set_cons_zero, List.set_cons_succ, Nat.reduceAdd]
      iterate 2
        refine plan_val (by kernel_rfl) (fun u hu => ?_) ?_
        · obtain ⟨hc, hf, hz⟩ := hu.of_drew.facts
          go_simp
        simp only [Act.put, List.setIfInBounds_toArray, List.set_cons_zero, List.set_cons_succ, Nat.reduceAdd]
      iterate 9
        refine plan_idle (by kernel_rfl) ?_
        simp only [Act.put, List.setIfInBounds_toArray, List.set_cons_zero, List.set_cons_succ, Nat.reduceAdd]
      iterate 2
        refine plan_val (by kernel_rfl) (fun u hu => ?_) ?_
        · obtain ⟨hc, hf, hz⟩ := hu.of_drew.facts
          go_simp
        simp only [Act.put, List.setIfInBounds_toArray, List.set_cons_zero, List.set_cons_succ, Nat.reduceAdd]
      iterate 14
        refine plan_idle (by kernel_rfl) ?_
        simp only [Act.put, List.setIfInBounds_toArray, List.set_cons_zero, List.set_cons_succ, Nat.reduceAdd]
      iterate 1
        refine plan_val (by kernel_rfl) (fun u hu => ?_) ?_
        · obtain ⟨hc, hf, hz⟩ := hu.of_drew.facts
          go_simp
        simp only [Act.put, List.setIfInBounds_toArray, List.set_cons_zero, List.set_cons_succ, Nat.reduceAdd]
      refine plan_end ?_
      intro w' hB
      have hk := hB.calm.of_drew
      clear hB
      go_wp2_with fail
      all_goals
        go_ret
        exact ⟨ret_int K.out, (hu.call hv).call hk⟩
    cases hd <;> cases hs
    · skip
      have e1 : (ws.toList == vs.toList) = false := str_ne fun h => hsame ⟨rfl, h⟩
      by_cases hw0 : 0 < ws.size
      · skip
        have K := KE 3 (ch_err3 hk0 hz fun h => by rcases h.1 with h | h; cases h; exact absurd h (by show ¬ ws.size = 0; omega)) (by decide)
        clear KE hN
        go_upto_region 12 with (go_at_call 35; refine (cK _).mono ?_; rintro e w1 ⟨rfl, hb1⟩; have hx := (hb1.block (k := wr.heap.size) (by simp)).trans (heap_new wr (.cells #[.int .i64 p, .int .i64 o, .int .i64 f, .bool false, .bool false, .string ws, .string vs] 33 (0, 0))); obtain ⟨x0, x1, x2, x3, x4, x5, x6, hxs⟩ := row7 hx; have hv := ((Calm.refl wr).alloc (.cells #[.int .i64 p, .int .i64 o, .int .i64 f, .bool false, .bool false, .string ws, .string vs] 33 (0, 0))).call hb1; clear hb1 hx)
        refine wp_region_plan [.val (.bool false), .val (.bool false), .val (.pointer (some ⟨wr.heap.size, 5, none⟩)), .val (.string ws), .val (.int .i64 ((ws.size : Int))), .val (.bool true), .val (.bool true), .val (.pointer (some ⟨wr.heap.size, 3, none⟩)), .val (.bool false), .val (.bool true), .val (.bool true), .val (.bool true), .val (.bool true), .idle, .idle, .idle, .idle, .idle, .idle, .idle, .idle, .idle, .val (.bool true), .val (.bool true), .idle, .idle, .idle, .idle, .idle, .idle, .idle, .idle, .idle, .idle, .idle, .idle, .idle, .idle, .val (.bool true)] (by kernel_rfl) (by kernel_rfl) (by kernel_rfl) ?_
        intro X
        iterate 13
          refine plan_val (by kernel_rfl) (fun u hu => ?_) ?_
          · obtain ⟨hc, hf, hz⟩ := hu.of_drew.facts
            go_simp
          simp only [Act.put, List.setIfInBounds_toArray, List.set_cons_zero, List.set_cons_succ, Nat.reduceAdd]
        iterate 9
          refine plan_idle (by kernel_rfl) ?_
          simp only [Act.put, List.setIfInBounds_toArray, List.set_cons_zero, List.set_cons_succ, Nat.reduceAdd]
        iterate 2
          refine plan_val (by kernel_rfl) (fun u hu => ?_) ?_
          · obtain ⟨hc, hf, hz⟩ := hu.of_drew.facts
            go_simp
          simp only [Act.put, List.setIfInBounds_toArray, List.set_cons_zero, List.set_cons_succ, Nat.reduceAdd]
        iterate 14
          refine plan_idle (by kernel_rfl) ?_
          simp only [Act.put, List.setIfInBounds_toArray, List.set_cons_zero, List.set_cons_succ, Nat.reduceAdd]
        iterate 1
          refine plan_val (by kernel_rfl) (fun u hu => ?_) ?_
          · obtain ⟨hc, hf, hz⟩ := hu.of_drew.facts
            go_simp
          simp only [Act.put, List.setIfInBounds_toArray, List.set_cons_zero, List.set_cons_succ, Nat.reduceAdd]
        refine plan_end ?_
        intro w' hB
        have hk := hB.calm.of_drew
        clear hB
        go_wp2_with fail
        all_goals
          go_ret
          exact ⟨ret_int K.out, (hu.call hv).call hk⟩
      have hw1 : ws.size = 0 := by omega
      by_cases hv0 : 0 < vs.size
      · skip
        have K := KE 3 (ch_err3 hk0 hz fun h => by rcases h.2.1 with h | h; cases h; exact absurd h (by show ¬ vs.size = 0; omega)) (by decide)
        clear KE hN
        go_upto_region 12 with (go_at_call 35; refine (cK _).mono ?_; rintro e w1 ⟨rfl, hb1⟩; have hx := (hb1.block (k := wr.heap.size) (by simp)).trans (heap_new wr (.cells #[.int .i64 p, .int .i64 o, .int .i64 f, .bool false, .bool false, .string ws, .string vs] 33 (0, 0))); obtain ⟨x0, x1, x2, x3, x4, x5, x6, hxs⟩ := row7 hx; have hv := ((Calm.refl wr).alloc (.cells #[.int .i64 p, .int .i64 o, .int .i64 f, .bool false, .bool false, .string ws, .string vs] 33 (0, 0))).call hb1; clear hb1 hx)
        refine wp_region_plan [.val (.bool false), .val (.bool false), .val (.pointer (some ⟨wr.heap.size, 5, none⟩)), .val (.string ws), .val (.int .i64 ((ws.size : Int))), .val (.bool false), .val (.bool false), .idle, .idle, .idle, .val (.bool false), .val (.bool false), .val (.bool false), .val (.pointer (some ⟨wr.heap.size, 6, none⟩)), .val (.string vs), .val (.int .i64 ((vs.size : Int))), .val (.bool true), .val (.bool true), .val (.pointer (some ⟨wr.heap.size, 4, none⟩)), .val (.bool false), .val (.bool true), .val (.bool true), .val (.bool true), .val (.bool true), .idle, .idle, .idle, .idle, .idle, .idle, .idle, .idle, .idle, .idle, .idle, .idle, .idle, .idle, .val (.bool true)] (by kernel_rfl) (by kernel_rfl) (by kernel_rfl) ?_
        intro X
        iterate 7
          refine plan_val (by kernel_rfl) (fun u hu => ?_) ?_
          · obtain ⟨hc, hf, hz⟩ := hu.of_drew.facts
            go_simp
          simp only [Act.put, List.setIfInBounds_toArray, List.set_cons_zero, List.set_cons_succ, Nat.reduceAdd]
        iterate 3
          refine plan_idle (by kernel_rfl) ?_
          simp only [Act.put, List.setIfInBounds_toArray, List.set_cons_zero, List.set_cons_succ, Nat.reduceAdd]
        iterate 14
          refine plan_val (by kernel_rfl) (fun u hu => ?_) ?_
          · obtain ⟨hc, hf, hz⟩ := hu.of_drew.facts
            go_simp
          simp only [Act.put, List.setIfInBounds_toArray, List.set_cons_zero, List.set_cons_succ, Nat.reduceAdd]
        iterate 14
          refine plan_idle (by kernel_rfl) ?_
          simp only [Act.put, List.setIfInBounds_toArray, List.set_cons_zero, List.set_cons_succ, Nat.reduceAdd]
        iterate 1
          refine plan_val (by kernel_rfl) (fun u hu => ?_) ?_
          · obtain ⟨hc, hf, hz⟩ := hu.of_drew.facts
            go_simp
          simp only [Act.put, List.setIfInBounds_toArray, List.set_cons_zero, List.set_cons_succ, Nat.reduceAdd]
        refine plan_end ?_
        intro w' hB
        have hk := hB.calm.of_drew
        clear hB
        go_wp2_with fail
        all_goals
          go_ret
          exact ⟨ret_int K.out, (hu.call hv).call hk⟩
      exact absurd ⟨rfl, by rw [size_zero hw1, size_zero (by omega : vs.size = 0)]⟩ hsame
    · skip
      by_cases hw0 : 0 < ws.size
      · skip
        have K := KE 3 (ch_err3 hk0 hz fun h => by rcases h.1 with h | h; cases h; exact absurd h (by show ¬ ws.size = 0; omega)) (by decide)
        clear KE hN
        go_upto_region 12 with (go_at_call 35; refine (cK _).mono ?_; rintro e w1 ⟨rfl, hb1⟩; have hx := (hb1.block (k := wr.heap.size) (by simp)).trans (heap_new wr (.cells #[.int .i64 p, .int .i64 o, .int .i64 f, .bool false, .bool true, .string ws, .string vs] 33 (0, 0))); obtain ⟨x0, x1, x2, x3, x4, x5, x6, hxs⟩ := row7 hx; have hv := ((Calm.refl wr).alloc (.cells #[.int .i64 p, .int .i64 o, .int .i64 f, .bool false, .bool true, .string ws, .string vs] 33 (0, 0))).call hb1; clear hb1 hx)
        refine wp_region_plan [.val (.bool false), .val (.bool false), .val (.pointer (some ⟨wr.heap.size, 5, none⟩)), .val (.string ws), .val (.int .i64 ((ws.size : Int))), .val (.bool true), .val (.bool true), .val (.pointer (some ⟨wr.heap.size, 3, none⟩)), .val (.bool false), .val (.bool true), .val (.bool true), .val (.bool true), .val (.bool true), .idle, .idle, .idle, .idle, .idle, .idle, .idle, .idle, .idle, .val (.bool true), .val (.bool true), .idle, .idle, .idle, .idle, .idle, .idle, .idle, .idle, .idle, .idle, .idle, .idle, .idle, .idle, .val (.bool true)] (by kernel_rfl) (by kernel_rfl) (by kernel_rfl) ?_
        intro X
        iterate 13
          refine plan_val (by kernel_rfl) (fun u hu => ?_) ?_
          · obtain ⟨hc, hf, hz⟩ := hu.of_drew.facts
            go_simp
          simp only [Act.put, List.setIfInBounds_toArray, List.set_cons_zero, List.set_cons_succ, Nat.reduceAdd]
        iterate 9
          refine plan_idle (by kernel_rfl) ?_
          simp only [Act.put, List.setIfInBounds_toArray, List.set_cons_zero, List.set_cons_succ, Nat.reduceAdd]
        iterate 2
          refine plan_val (by kernel_rfl) (fun u hu => ?_) ?_
          · obtain ⟨hc, hf, hz⟩ := hu.of_drew.facts
            go_simp
          simp only [Act.put, List.setIfInBounds_toArray, List.set_cons_zero, List.set_cons_succ, Nat.reduceAdd]
        iterate 14
          refine plan_idle (by kernel_rfl) ?_
          simp only [Act.put, List.setIfInBounds_toArray, List.set_cons_zero, List.set_cons_succ, Nat.reduceAdd]
        iterate 1
          refine plan_val (by kernel_rfl) (fun u hu => ?_) ?_
          · obtain ⟨hc, hf, hz⟩ := hu.of_drew.facts
            go_simp
          simp only [Act.put, List.setIfInBounds_toArray, List.set_cons_zero, List.set_cons_succ, Nat.reduceAdd]
        refine plan_end ?_
        intro w' hB
        have hk := hB.calm.of_drew
        clear hB
        go_wp2_with fail
        all_goals
          go_ret
          exact ⟨ret_int K.out, (hu.call hv).call hk⟩
      have hw1 : ws.size = 0 := by omega
      by_cases hv0 : 0 < vs.size
      · skip
        have HE0 : Hid (Chg.err ⟨p, o, f, false, true, ws, vs⟩ = 0) := show _ = _ from Chg.err_zero.2 ⟨hk0, hz1, hz2, .inr hw1, .inl rfl, fun e => hsame ⟨(St.ext_iff'.1 e).1, (St.ext_iff'.1 e).2⟩⟩
        clear KE
        by_cases hk1 : k = 0
        · subst hk1
          have hN1 : NoErrC l 1 := fun j hj => by
            have : j = 0 := by omega
            subst this
            exact stepC_first HE.out HE0.out
          simp only [Nat.zero_mul, Nat.add_zero] at c0 c1 c2 c3 c4 c5 c6
          go_upto_region 12 with (go_at_call 35; refine (cK _).mono ?_; rintro e w1 ⟨rfl, hb1⟩; have hx := (hb1.block (k := wr.heap.size) (by simp)).trans (heap_new wr (.cells #[.int .i64 p, .int .i64 o, .int .i64 f, .bool false, .bool true, .string ws, .string vs] 33 (0, 0))); obtain ⟨x0, x1, x2, x3, x4, x5, x6, hxs⟩ := row7 hx; have hv := ((Calm.refl wr).alloc (.cells #[.int .i64 p, .int .i64 o, .int .i64 f, .bool false, .bool true, .string ws, .string vs] 33 (0, 0))).call hb1; clear hb1 hx)
          refine wp_region_plan [.val (.bool false), .val (.bool false), .val (.pointer (some ⟨wr.heap.size, 5, none⟩)), .val (.string ws), .val (.int .i64 ((ws.size : Int))), .val (.bool false), .val (.bool false), .idle, .idle, .idle, .val (.bool false), .val (.bool false), .val (.bool false), .val (.pointer (some ⟨wr.heap.size, 6, none⟩)), .val (.string vs), .val (.int .i64 ((vs.size : Int))), .val (.bool true), .val (.bool true), .val (.pointer (some ⟨wr.heap.size, 4, none⟩)), .val (.bool true), .val (.bool false), .val (.bool false), .val (.bool false), .val (.bool false), .val (.int .i64 (0)), .val (.bool false), .val (.bool false), .idle, .idle, .idle, .idle, .idle, .idle, .idle, .idle, .idle, .idle, .val (.bool false), .val (.bool false)] (by kernel_rfl) (by kernel_rfl) (by kernel_rfl) ?_
          intro X
          iterate 7
            refine plan_val (by kernel_rfl) (fun u hu => ?_) ?_
            · obtain ⟨hc, hf, hz⟩ := hu.of_drew.facts
              go_simp
            simp only [Act.put, List.setIfInBounds_toArray, List.set_cons_zero, List.set_cons_succ, Nat.reduceAdd]
          iterate 3
            refine plan_idle (by kernel_rfl) ?_
            simp only [Act.put, List.setIfInBounds_toArray, List.set_cons_zero, List.set_cons_succ, Nat.reduceAdd]
          iterate 17
            refine plan_val (by kernel_rfl) (fun u hu => ?_) ?_
            · obtain ⟨hc, hf, hz⟩ := hu.of_drew.facts
              go_simp
            simp only [Act.put, List.setIfInBounds_toArray, List.set_cons_zero, List.set_cons_succ, Nat.reduceAdd]
          iterate 10
            refine plan_idle (by kernel_rfl) ?_
            simp only [Act.put, List.setIfInBounds_toArray, List.set_cons_zero, List.set_cons_succ, Nat.reduceAdd]
          iterate 2
            refine plan_val (by kernel_rfl) (fun u hu => ?_) ?_
            · obtain ⟨hc, hf, hz⟩ := hu.of_drew.facts
              go_simp
            simp only [Act.put, List.setIfInBounds_toArray, List.set_cons_zero, List.set_cons_succ, Nat.reduceAdd]
          refine plan_end ?_
          intro w' hB
          have hk := hB.calm.of_drew
          clear hB
          go_wp2_with fail
          all_goals exact ⟨⟨1, by omega, rfl, (hu.call hv).call hk, hN1⟩, by simp [intOf]; omega⟩
        obtain ⟨p', o', f', hd', hs', ws', vs', HE', d0, d1, d2, d3, d4, d5, d6⟩ := chg_get2 (hL.calm hu) (k := k - 1) (by omega)
        have hS := stepC_form HE.out HE0.out (by omega) HE'.out
        have hk2 : 1 ≤ k := by omega
        clear hk1
        have cM := fun u => ahead_any p' o' f' p o f u
        have z1 : IntKind.i64.wrap ((k : Int) - 1) = (k : Int) - 1 := IntWalk.i64_in _ (by omega)
        have z2 : ((k : Int) - 1).toNat = k - 1 := by omega
        have z3 : 0 ≤ (k : Int) - 1 := by omega
        have z4 : (k : Int) - 1 < l.length := by omega
        have z5 : 1 ≤ (k : Int) := by omega
        have z0 : 0 < k := hk2
        by_cases hF : kLt (p', o', f') (p, o, f)
        · rw [if_pos (show kLt (Chg.key ⟨p', o', f', hd', hs', ws', vs'⟩) (Chg.key ⟨p, o, f, false, true, ws, vs⟩) from hF)] at hS
          rw [show aheadB p' o' f' p o f = true from by unfold aheadB; rw [decide_eq_true_eq]; exact kcmp_kLt.2 hF] at cM
          have hN1 : NoErrC l (k + 1) := fun j hj => by
            rcases Nat.lt_or_ge j k with h | h
            · exact hN j h
            · rw [show j = k by omega]; exact hS
          clear hS hF HE0 HE HE' hL
          go_upto_region 12 with (go_at_call 35; refine (cK _).mono ?_; rintro e w1 ⟨rfl, hb1⟩; have hx := (hb1.block (k := wr.heap.size) (by simp)).trans (heap_new wr (.cells #[.int .i64 p, .int .i64 o, .int .i64 f, .bool false, .bool true, .string ws, .string vs] 33 (0, 0))); obtain ⟨x0, x1, x2, x3, x4, x5, x6, hxs⟩ := row7 hx; have hv := ((Calm.refl wr).alloc (.cells #[.int .i64 p, .int .i64 o, .int .i64 f, .bool false, .bool true, .string ws, .string vs] 33 (0, 0))).call hb1; have hb2 : b < w1.heap.size := Nat.lt_of_lt_of_le hb hv.size; have hvc := hv.facts.1; replace d0 := (hvc _ _ hb).trans d0; replace d1 := (hvc _ _ hb).trans d1; replace d2 := (hvc _ _ hb).trans d2; clear hvc hb1 hx c0 c1 c2 c3 c4 c5 c6 d3 d4 d5 d6)
          refine wp_region_plan [.val (.bool false), .val (.bool false), .val (.pointer (some ⟨wr.heap.size, 5, none⟩)), .val (.string ws), .val (.int .i64 ((ws.size : Int))), .val (.bool false), .val (.bool false), .idle, .idle, .idle, .val (.bool false), .val (.bool false), .val (.bool false), .val (.pointer (some ⟨wr.heap.size, 6, none⟩)), .val (.string vs), .val (.int .i64 ((vs.size : Int))), .val (.bool true), .val (.bool true), .val (.pointer (some ⟨wr.heap.size, 4, none⟩)), .val (.bool true), .val (.bool false), .val (.bool false), .val (.bool false), .val (.bool false), .val (.int .i64 ((k : Int))), .val (.bool true), .val (.bool true), .val (.slice (some ⟨b, q, none⟩) l.length c), .val (.int .i64 ((k : Int))), .val (.int .i64 ((k : Int) - 1)), .val (.pointer (some ⟨b, q + (k - 1) * 7, none⟩)), .val (.pointer (some ⟨b, q + (k - 1) * 7, none⟩)), .val (.agg #[.int .i64 p', .int .i64 o', .int .i64 f']), .val (.pointer (some ⟨wr.heap.size, 0, none⟩)), .val (.agg #[.int .i64 p, .int .i64 o, .int .i64 f]), .val (.bool true), .val (.bool false), .val (.bool false), .val (.bool false)] (by kernel_rfl) (by kernel_rfl) (by kernel_rfl) ?_
          intro X
          iterate 7
            refine plan_val (by kernel_rfl) (fun u hu => ?_) ?_
            · obtain ⟨hc, hf, hz⟩ := hu.of_drew.facts
              go_simp
              all_goals first
                | (go_at_call 36; exact cM _)
            simp only [Act.put, List.setIfInBounds_toArray, List.set_cons_zero, List.set_cons_succ, Nat.reduceAdd]
          iterate 3
            refine plan_idle (by kernel_rfl) ?_
            simp only [Act.put, List.setIfInBounds_toArray, List.set_cons_zero, List.set_cons_succ, Nat.reduceAdd]
          iterate 29
            refine plan_val (by kernel_rfl) (fun u hu => ?_) ?_
            · obtain ⟨hc, hf, hz⟩ := hu.of_drew.facts
              go_simp
              all_goals first
                | (go_at_call 36; exact cM _)
            simp only [Act.put, List.setIfInBounds_toArray, List.set_cons_zero, List.set_cons_succ, Nat.reduceAdd]
          refine plan_end ?_
          intro w' hB
          have hk := hB.calm.of_drew
          clear hB
          clear z0 z1 z2 z3 z4 z5
          go_wp2_with fail
          all_goals
            go_roundw
            case rel => exact ⟨k + 1, by omega, by go_num, (hu.call hv).call hk, hN1⟩
          case measure => simp [intOf]; omega
        · rw [if_neg (show ¬ kLt (Chg.key ⟨p', o', f', hd', hs', ws', vs'⟩) (Chg.key ⟨p, o, f, false, true, ws, vs⟩) from hF)] at hS
          rw [show aheadB p' o' f' p o f = false from by unfold aheadB; rw [decide_eq_false_iff_not]; exact fun h => hF (kcmp_kLt.1 h)] at cM
          have K : Hid (3 = chErr l) := hS.symm.trans (chErr_at hbig hN (by rw [hS]; decide) hlt)
          clear hS hF HE0 HE HE' hL
          go_upto_region 12 with (go_at_call 35; refine (cK _).mono ?_; rintro e w1 ⟨rfl, hb1⟩; have hx := (hb1.block (k := wr.heap.size) (by simp)).trans (heap_new wr (.cells #[.int .i64 p, .int .i64 o, .int .i64 f, .bool false, .bool true, .string ws, .string vs] 33 (0, 0))); obtain ⟨x0, x1, x2, x3, x4, x5, x6, hxs⟩ := row7 hx; have hv := ((Calm.refl wr).alloc (.cells #[.int .i64 p, .int .i64 o, .int .i64 f, .bool false, .bool true, .string ws, .string vs] 33 (0, 0))).call hb1; have hb2 : b < w1.heap.size := Nat.lt_of_lt_of_le hb hv.size; have hvc := hv.facts.1; replace d0 := (hvc _ _ hb).trans d0; replace d1 := (hvc _ _ hb).trans d1; replace d2 := (hvc _ _ hb).trans d2; clear hvc hb1 hx c0 c1 c2 c3 c4 c5 c6 d3 d4 d5 d6)
          refine wp_region_plan [.val (.bool false), .val (.bool false), .val (.pointer (some ⟨wr.heap.size, 5, none⟩)), .val (.string ws), .val (.int .i64 ((ws.size : Int))), .val (.bool false), .val (.bool false), .idle, .idle, .idle, .val (.bool false), .val (.bool false), .val (.bool false), .val (.pointer (some ⟨wr.heap.size, 6, none⟩)), .val (.string vs), .val (.int .i64 ((vs.size : Int))), .val (.bool true), .val (.bool true), .val (.pointer (some ⟨wr.heap.size, 4, none⟩)), .val (.bool true), .val (.bool false), .val (.bool false), .val (.bool false), .val (.bool false), .val (.int .i64 ((k : Int))), .val (.bool true), .val (.bool true), .val (.slice (some ⟨b, q, none⟩) l.length c), .val (.int .i64 ((k : Int))), .val (.int .i64 ((k : Int) - 1)), .val (.pointer (some ⟨b, q + (k - 1) * 7, none⟩)), .val (.pointer (some ⟨b, q + (k - 1) * 7, none⟩)), .val (.agg #[.int .i64 p', .int .i64 o', .int .i64 f']), .val (.pointer (some ⟨wr.heap.size, 0, none⟩)), .val (.agg #[.int .i64 p, .int .i64 o, .int .i64 f]), .val (.bool false), .val (.bool true), .val (.bool true), .val (.bool true)] (by kernel_rfl) (by kernel_rfl) (by kernel_rfl) ?_
          intro X
          iterate 7
            refine plan_val (by kernel_rfl) (fun u hu => ?_) ?_
            · obtain ⟨hc, hf, hz⟩ := hu.of_drew.facts
              go_simp
              all_goals first
                | (go_at_call 36; exact cM _)
            simp only [Act.put, List.setIfInBounds_toArray, List.set_cons_zero, List.set_cons_succ, Nat.reduceAdd]
          iterate 3
            refine plan_idle (by kernel_rfl) ?_
            simp only [Act.put, List.setIfInBounds_toArray, List.set_cons_zero, List.set_cons_succ, Nat.reduceAdd]
          iterate 29
            refine plan_val (by kernel_rfl) (fun u hu => ?_) ?_
            · obtain ⟨hc, hf, hz⟩ := hu.of_drew.facts
              go_simp
              all_goals first
                | (go_at_call 36; exact cM _)
            simp only [Act.put, List.setIfInBounds_toArray, List.set_cons_zero, List.set_cons_succ, Nat.reduceAdd]
          refine plan_end ?_
          intro w' hB
          have hk := hB.calm.of_drew
          clear hB
          clear z0 z1 z2 z3 z4 z5
          go_wp2_with fail
          all_goals
            go_ret
            exact ⟨ret_int K.out, (hu.call hv).call hk⟩
      have hv1 : vs.size = 0 := by omega
      have HE0 : Hid (Chg.err ⟨p, o, f, false, true, ws, vs⟩ = 0) := show _ = _ from Chg.err_zero.2 ⟨hk0, hz1, hz2, .inr hw1, .inl rfl, fun e => hsame ⟨(St.ext_iff'.1 e).1, (St.ext_iff'.1 e).2⟩⟩
      clear KE
      by_cases hk1 : k = 0
      · subst hk1
        have hN1 : NoErrC l 1 := fun j hj => by
          have : j = 0 := by omega
          subst this
          exact stepC_first HE.out HE0.out
        simp only [Nat.zero_mul, Nat.add_zero] at c0 c1 c2 c3 c4 c5 c6
        go_upto_region 12 with (go_at_call 35; refine (cK _).mono ?_; rintro e w1 ⟨rfl, hb1⟩; have hx := (hb1.block (k := wr.heap.size) (by simp)).trans (heap_new wr (.cells #[.int .i64 p, .int .i64 o, .int .i64 f, .bool false, .bool true, .string ws, .string vs] 33 (0, 0))); obtain ⟨x0, x1, x2, x3, x4, x5, x6, hxs⟩ := row7 hx; have hv := ((Calm.refl wr).alloc (.cells #[.int .i64 p, .int .i64 o, .int .i64 f, .bool false, .bool true, .string ws, .string vs] 33 (0, 0))).call hb1; clear hb1 hx)
        refine wp_region_plan [.val (.bool false), .val (.bool false), .val (.pointer (some ⟨wr.heap.size, 5, none⟩)), .val (.string ws), .val (.int .i64 ((ws.size : Int))), .val (.bool false), .val (.bool false), .idle, .idle, .idle, .val (.bool false), .val (.bool false), .val (.bool false), .val (.pointer (some ⟨wr.heap.size, 6, none⟩)), .val (.string vs), .val (.int .i64 ((vs.size : Int))), .val (.bool false), .val (.bool false), .idle, .idle, .idle, .val (.bool false), .val (.bool false), .val (.bool false), .val (.int .i64 (0)), .val (.bool false), .val (.bool false), .idle, .idle, .idle, .idle, .idle, .idle, .idle, .idle, .idle, .idle, .val (.bool false), .val (.bool false)] (by kernel_rfl) (by kernel_rfl) (by kernel_rfl) ?_
        intro X
        iterate 7
          refine plan_val (by kernel_rfl) (fun u hu => ?_) ?_
          · obtain ⟨hc, hf, hz⟩ := hu.of_drew.facts
            go_simp
          simp only [Act.put, List.setIfInBounds_toArray, List.set_cons_zero, List.set_cons_succ, Nat.reduceAdd]
        iterate 3
          refine plan_idle (by kernel_rfl) ?_
          simp only [Act.put, List.setIfInBounds_toArray, List.set_cons_zero, List.set_cons_succ, Nat.reduceAdd]
        iterate 8
          refine plan_val (by kernel_rfl) (fun u hu => ?_) ?_
          · obtain ⟨hc, hf, hz⟩ := hu.of_drew.facts
            go_simp
          simp only [Act.put, List.setIfInBounds_toArray, List.set_cons_zero, List.set_cons_succ, Nat.reduceAdd]
        iterate 3
          refine plan_idle (by kernel_rfl) ?_
          simp only [Act.put, List.setIfInBounds_toArray, List.set_cons_zero, List.set_cons_succ, Nat.reduceAdd]
        iterate 6
          refine plan_val (by kernel_rfl) (fun u hu => ?_) ?_
          · obtain ⟨hc, hf, hz⟩ := hu.of_drew.facts
            go_simp
          simp only [Act.put, List.setIfInBounds_toArray, List.set_cons_zero, List.set_cons_succ, Nat.reduceAdd]
        iterate 10
          refine plan_idle (by kernel_rfl) ?_
          simp only [Act.put, List.setIfInBounds_toArray, List.set_cons_zero, List.set_cons_succ, Nat.reduceAdd]
        iterate 2
          refine plan_val (by kernel_rfl) (fun u hu => ?_) ?_
          · obtain ⟨hc, hf, hz⟩ := hu.of_drew.facts
            go_simp
          simp only [Act.put, List.setIfInBounds_toArray, List.set_cons_zero, List.set_cons_succ, Nat.reduceAdd]
        refine plan_end ?_
        intro w' hB
        have hk := hB.calm.of_drew
        clear hB
        go_wp2_with fail
        all_goals exact ⟨⟨1, by omega, rfl, (hu.call hv).call hk, hN1⟩, by simp [intOf]; omega⟩
      obtain ⟨p', o', f', hd', hs', ws', vs', HE', d0, d1, d2, d3, d4, d5, d6⟩ := chg_get2 (hL.calm hu) (k := k - 1) (by omega)
      have hS := stepC_form HE.out HE0.out (by omega) HE'.out
      have hk2 : 1 ≤ k := by omega
      clear hk1
      have cM := fun u => ahead_any p' o' f' p o f u
      have z1 : IntKind.i64.wrap ((k : Int) - 1) = (k : Int) - 1 := IntWalk.i64_in _ (by omega)
      have z2 : ((k : Int) - 1).toNat = k - 1 := by omega
      have z3 : 0 ≤ (k : Int) - 1 := by omega
      have z4 : (k : Int) - 1 < l.length := by omega
      have z5 : 1 ≤ (k : Int) := by omega
      have z0 : 0 < k := hk2
      by_cases hF : kLt (p', o', f') (p, o, f)
      · rw [if_pos (show kLt (Chg.key ⟨p', o', f', hd', hs', ws', vs'⟩) (Chg.key ⟨p, o, f, false, true, ws, vs⟩) from hF)] at hS
        rw [show aheadB p' o' f' p o f = true from by unfold aheadB; rw [decide_eq_true_eq]; exact kcmp_kLt.2 hF] at cM
        have hN1 : NoErrC l (k + 1) := fun j hj => by
          rcases Nat.lt_or_ge j k with h | h
          · exact hN j h
          · rw [show j = k by omega]; exact hS
        clear hS hF HE0 HE HE' hL
        go_upto_region 12 with (go_at_call 35; refine (cK _).mono ?_; rintro e w1 ⟨rfl, hb1⟩; have hx := (hb1.block (k := wr.heap.size) (by simp)).trans (heap_new wr (.cells #[.int .i64 p, .int .i64 o, .int .i64 f, .bool false, .bool true, .string ws, .string vs] 33 (0, 0))); obtain ⟨x0, x1, x2, x3, x4, x5, x6, hxs⟩ := row7 hx; have hv := ((Calm.refl wr).alloc (.cells #[.int .i64 p, .int .i64 o, .int .i64 f, .bool false, .bool true, .string ws, .string vs] 33 (0, 0))).call hb1; have hb2 : b < w1.heap.size := Nat.lt_of_lt_of_le hb hv.size; have hvc := hv.facts.1; replace d0 := (hvc _ _ hb).trans d0; replace d1 := (hvc _ _ hb).trans d1; replace d2 := (hvc _ _ hb).trans d2; clear hvc hb1 hx c0 c1 c2 c3 c4 c5 c6 d3 d4 d5 d6)
        refine wp_region_plan [.val (.bool false), .val (.bool false), .val (.pointer (some ⟨wr.heap.size, 5, none⟩)), .val (.string ws), .val (.int .i64 ((ws.size : Int))), .val (.bool false), .val (.bool false), .idle, .idle, .idle, .val (.bool false), .val (.bool false), .val (.bool false), .val (.pointer (some ⟨wr.heap.size, 6, none⟩)), .val (.string vs), .val (.int .i64 ((vs.size : Int))), .val (.bool false), .val (.bool false), .idle, .idle, .idle, .val (.bool false), .val (.bool false), .val (.bool false), .val (.int .i64 ((k : Int))), .val (.bool true), .val (.bool true), .val (.slice (some ⟨b, q, none⟩) l.length c), .val (.int .i64 ((k : Int))), .val (.int .i64 ((k : Int) - 1)), .val (.pointer (some ⟨b, q + (k - 1) * 7, none⟩)), .val (.pointer (some ⟨b, q + (k - 1) * 7, none⟩)), .val (.agg #[.int .i64 p', .int .i64 o', .int .i64 f']), .val (.pointer (some ⟨wr.heap.size, 0, none⟩)), .val (.agg #[.int .i64 p, .int .i64 o, .int .i64 f]), .val (.bool true), .val (.bool false), .val (.bool false), .val (.bool false)] (by kernel_rfl) (by kernel_rfl) (by kernel_rfl) ?_
        intro X
        iterate 7
          refine plan_val (by kernel_rfl) (fun u hu => ?_) ?_
          · obtain ⟨hc, hf, hz⟩ := hu.of_drew.facts
            go_simp
            all_goals first
              | (go_at_call 36; exact cM _)
          simp only [Act.put, List.setIfInBounds_toArray, List.set_cons_zero, List.set_cons_succ, Nat.reduceAdd]
        iterate 3
          refine plan_idle (by kernel_rfl) ?_
          simp only [Act.put, List.setIfInBounds_toArray, List.set_cons_zero, List.set_cons_succ, Nat.reduceAdd]
        iterate 8
          refine plan_val (by kernel_rfl) (fun u hu => ?_) ?_
          · obtain ⟨hc, hf, hz⟩ := hu.of_drew.facts
            go_simp
            all_goals first
              | (go_at_call 36; exact cM _)
          simp only [Act.put, List.setIfInBounds_toArray, List.set_cons_zero, List.set_cons_succ, Nat.reduceAdd]
        iterate 3
          refine plan_idle (by kernel_rfl) ?_
          simp only [Act.put, List.setIfInBounds_toArray, List.set_cons_zero, List.set_cons_succ, Nat.reduceAdd]
        iterate 18
          refine plan_val (by kernel_rfl) (fun u hu => ?_) ?_
          · obtain ⟨hc, hf, hz⟩ := hu.of_drew.facts
            go_simp
            all_goals first
              | (go_at_call 36; exact cM _)
          simp only [Act.put, List.setIfInBounds_toArray, List.set_cons_zero, List.set_cons_succ, Nat.reduceAdd]
        refine plan_end ?_
        intro w' hB
        have hk := hB.calm.of_drew
        clear hB
        clear z0 z1 z2 z3 z4 z5
        go_wp2_with fail
        all_goals
          go_roundw
          case rel => exact ⟨k + 1, by omega, by go_num, (hu.call hv).call hk, hN1⟩
        case measure => simp [intOf]; omega
      · rw [if_neg (show ¬ kLt (Chg.key ⟨p', o', f', hd', hs', ws', vs'⟩) (Chg.key ⟨p, o, f, false, true, ws, vs⟩) from hF)] at hS
        rw [show aheadB p' o' f' p o f = false from by unfold aheadB; rw [decide_eq_false_iff_not]; exact fun h => hF (kcmp_kLt.1 h)] at cM
        have K : Hid (3 = chErr l) := hS.symm.trans (chErr_at hbig hN (by rw [hS]; decide) hlt)
        clear hS hF HE0 HE HE' hL
        go_upto_region 12 with (go_at_call 35; refine (cK _).mono ?_; rintro e w1 ⟨rfl, hb1⟩; have hx := (hb1.block (k := wr.heap.size) (by simp)).trans (heap_new wr (.cells #[.int .i64 p, .int .i64 o, .int .i64 f, .bool false, .bool true, .string ws, .string vs] 33 (0, 0))); obtain ⟨x0, x1, x2, x3, x4, x5, x6, hxs⟩ := row7 hx; have hv := ((Calm.refl wr).alloc (.cells #[.int .i64 p, .int .i64 o, .int .i64 f, .bool false, .bool true, .string ws, .string vs] 33 (0, 0))).call hb1; have hb2 : b < w1.heap.size := Nat.lt_of_lt_of_le hb hv.size; have hvc := hv.facts.1; replace d0 := (hvc _ _ hb).trans d0; replace d1 := (hvc _ _ hb).trans d1; replace d2 := (hvc _ _ hb).trans d2; clear hvc hb1 hx c0 c1 c2 c3 c4 c5 c6 d3 d4 d5 d6)
        refine wp_region_plan [.val (.bool false), .val (.bool false), .val (.pointer (some ⟨wr.heap.size, 5, none⟩)), .val (.string ws), .val (.int .i64 ((ws.size : Int))), .val (.bool false), .val (.bool false), .idle, .idle, .idle, .val (.bool false), .val (.bool false), .val (.bool false), .val (.pointer (some ⟨wr.heap.size, 6, none⟩)), .val (.string vs), .val (.int .i64 ((vs.size : Int))), .val (.bool false), .val (.bool false), .idle, .idle, .idle, .val (.bool false), .val (.bool false), .val (.bool false), .val (.int .i64 ((k : Int))), .val (.bool true), .val (.bool true), .val (.slice (some ⟨b, q, none⟩) l.length c), .val (.int .i64 ((k : Int))), .val (.int .i64 ((k : Int) - 1)), .val (.pointer (some ⟨b, q + (k - 1) * 7, none⟩)), .val (.pointer (some ⟨b, q + (k - 1) * 7, none⟩)), .val (.agg #[.int .i64 p', .int .i64 o', .int .i64 f']), .val (.pointer (some ⟨wr.heap.size, 0, none⟩)), .val (.agg #[.int .i64 p, .int .i64 o, .int .i64 f]), .val (.bool false), .val (.bool true), .val (.bool true), .val (.bool true)] (by kernel_rfl) (by kernel_rfl) (by kernel_rfl) ?_
        intro X
        iterate 7
          refine plan_val (by kernel_rfl) (fun u hu => ?_) ?_
          · obtain ⟨hc, hf, hz⟩ := hu.of_drew.facts
            go_simp
            all_goals first
              | (go_at_call 36; exact cM _)
          simp only [Act.put, List.setIfInBounds_toArray, List.set_cons_zero, List.set_cons_succ, Nat.reduceAdd]
        iterate 3
          refine plan_idle (by kernel_rfl) ?_
          simp only [Act.put, List.setIfInBounds_toArray, List.set_cons_zero, List.set_cons_succ, Nat.reduceAdd]
        iterate 8
          refine plan_val (by kernel_rfl) (fun u hu => ?_) ?_
          · obtain ⟨hc, hf, hz⟩ := hu.of_drew.facts
            go_simp
            all_goals first
              | (go_at_call 36; exact cM _)
          simp only [Act.put, List.setIfInBounds_toArray, List.set_cons_zero, List.set_cons_succ, Nat.reduceAdd]
        iterate 3
          refine plan_idle (by kernel_rfl) ?_
          simp only [Act.put, List.setIfInBounds_toArray, List.set_cons_zero, List.set_cons_succ, Nat.reduceAdd]
        iterate 18
          refine plan_val (by kernel_rfl) (fun u hu => ?_) ?_
          · obtain ⟨hc, hf, hz⟩ := hu.of_drew.facts
            go_simp
            all_goals first
              | (go_at_call 36; exact cM _)
          simp only [Act.put, List.setIfInBounds_toArray, List.set_cons_zero, List.set_cons_succ, Nat.reduceAdd]
        refine plan_end ?_
        intro w' hB
        have hk := hB.calm.of_drew
        clear hB
        clear z0 z1 z2 z3 z4 z5
        go_wp2_with fail
        all_goals
          go_ret
          exact ⟨ret_int K.out, (hu.call hv).call hk⟩
    · skip
      by_cases hw0 : 0 < ws.size
      · skip
        by_cases hv0 : 0 < vs.size
        · skip
          have K := KE 3 (ch_err3 hk0 hz fun h => by rcases h.2.1 with h | h; cases h; exact absurd h (by show ¬ vs.size = 0; omega)) (by decide)
          clear KE hN
          go_upto_region 12 with (go_at_call 35; refine (cK _).mono ?_; rintro e w1 ⟨rfl, hb1⟩; have hx := (hb1.block (k := wr.heap.size) (by simp)).trans (heap_new wr (.cells #[.int .i64 p, .int .i64 o, .int .i64 f, .bool true, .bool false, .string ws, .string vs] 33 (0, 0))); obtain ⟨x0, x1, x2, x3, x4, x5, x6, hxs⟩ := row7 hx; have hv := ((Calm.refl wr).alloc (.cells #[.int .i64 p, .int .i64 o, .int .i64 f, .bool true, .bool false, .string ws, .string vs] 33 (0, 0))).call hb1; clear hb1 hx)
          refine wp_region_plan [.val (.bool false), .val (.bool false), .val (.pointer (some ⟨wr.heap.size, 5, none⟩)), .val (.string ws), .val (.int .i64 ((ws.size : Int))), .val (.bool true), .val (.bool true), .val (.pointer (some ⟨wr.heap.size, 3, none⟩)), .val (.bool true), .val (.bool false), .val (.bool false), .val (.bool false), .val (.bool false), .val (.pointer (some ⟨wr.heap.size, 6, none⟩)), .val (.string vs), .val (.int .i64 ((vs.size : Int))), .val (.bool true), .val (.bool true), .val (.pointer (some ⟨wr.heap.size, 4, none⟩)), .val (.bool false), .val (.bool true), .val (.bool true), .val (.bool true), .val (.bool true), .idle, .idle, .idle, .idle, .idle, .idle, .idle, .idle, .idle, .idle, .idle, .idle, .idle, .idle, .val (.bool true)] (by kernel_rfl) (by kernel_rfl) (by kernel_rfl) ?_
          intro X
          iterate 24
            refine plan_val (by kernel_rfl) (fun u hu => ?_) ?_
            · obtain ⟨hc, hf, hz⟩ := hu.of_drew.facts
              go_simp
            simp only [Act.put, List.setIfInBounds_toArray, List.set_cons_zero, List.set_cons_succ, Nat.reduceAdd]
          iterate 14
            refine plan_idle (by kernel_rfl) ?_
            simp only [Act.put, List.setIfInBounds_toArray, List.set_cons_zero, List.set_cons_succ, Nat.reduceAdd]
          iterate 1
            refine plan_val (by kernel_rfl) (fun u hu => ?_) ?_
            · obtain ⟨hc, hf, hz⟩ := hu.of_drew.facts
              go_simp
            simp only [Act.put, List.setIfInBounds_toArray, List.set_cons_zero, List.set_cons_succ, Nat.reduceAdd]
          refine plan_end ?_
          intro w' hB
          have hk := hB.calm.of_drew
          clear hB
          go_wp2_with fail
          all_goals
            go_ret
            exact ⟨ret_int K.out, (hu.call hv).call hk⟩
        have hv1 : vs.size = 0 := by omega
        have HE0 : Hid (Chg.err ⟨p, o, f, true, false, ws, vs⟩ = 0) := show _ = _ from Chg.err_zero.2 ⟨hk0, hz1, hz2, .inl rfl, .inr hv1, fun e => hsame ⟨(St.ext_iff'.1 e).1, (St.ext_iff'.1 e).2⟩⟩
        clear KE
        by_cases hk1 : k = 0
        · subst hk1
          have hN1 : NoErrC l 1 := fun j hj => by
            have : j = 0 := by omega
            subst this
            exact stepC_first HE.out HE0.out
          simp only [Nat.zero_mul, Nat.add_zero] at c0 c1 c2 c3 c4 c5 c6
          go_upto_region 12 with (go_at_call 35; refine (cK _).mono ?_; rintro e w1 ⟨rfl, hb1⟩; have hx := (hb1.block (k := wr.heap.size) (by simp)).trans (heap_new wr (.cells #[.int .i64 p, .int .i64 o, .int .i64 f, .bool true, .bool false, .string ws, .string vs] 33 (0, 0))); obtain ⟨x0, x1, x2, x3, x4, x5, x6, hxs⟩ := row7 hx; have hv := ((Calm.refl wr).alloc (.cells #[.int .i64 p, .int .i64 o, .int .i64 f, .bool true, .bool false, .string ws, .string vs] 33 (0, 0))).call hb1; clear hb1 hx)
          refine wp_region_plan [.val (.bool false), .val (.bool false), .val (.pointer (some ⟨wr.heap.size, 5, none⟩)), .val (.string ws), .val (.int .i64 ((ws.size : Int))), .val (.bool true), .val (.bool true), .val (.pointer (some ⟨wr.heap.size, 3, none⟩)), .val (.bool true), .val (.bool false), .val (.bool false), .val (.bool false), .val (.bool false), .val (.pointer (some ⟨wr.heap.size, 6, none⟩)), .val (.string vs), .val (.int .i64 ((vs.size : Int))), .val (.bool false), .val (.bool false), .idle, .idle, .idle, .val (.bool false), .val (.bool false), .val (.bool false), .val (.int .i64 (0)), .val (.bool false), .val (.bool false), .idle, .idle, .idle, .idle, .idle, .idle, .idle, .idle, .idle, .idle, .val (.bool false), .val (.bool false)] (by kernel_rfl) (by kernel_rfl) (by kernel_rfl) ?_
          intro X
          iterate 18
            refine plan_val (by kernel_rfl) (fun u hu => ?_) ?_
            · obtain ⟨hc, hf, hz⟩ := hu.of_drew.facts
              go_simp
            simp only [Act.put, List.setIfInBounds_toArray, List.set_cons_zero, List.set_cons_succ, Nat.reduceAdd]
          iterate 3
            refine plan_idle (by kernel_rfl) ?_
            simp only [Act.put, List.setIfInBounds_toArray, List.set_cons_zero, List.set_cons_succ, Nat.reduceAdd]
          iterate 6
            refine plan_val (by kernel_rfl) (fun u hu => ?_) ?_
            · obtain ⟨hc, hf, hz⟩ := hu.of_drew.facts
              go_simp
            simp only [Act.put, List.setIfInBounds_toArray, List.set_cons_zero, List.set_cons_succ, Nat.reduceAdd]
          iterate 10
            refine plan_idle (by kernel_rfl) ?_
            simp only [Act.put, List.setIfInBounds_toArray, List.set_cons_zero, List.set_cons_succ, Nat.reduceAdd]
          iterate 2
            refine plan_val (by kernel_rfl) (fun u hu => ?_) ?_
            · obtain ⟨hc, hf, hz⟩ := hu.of_drew.facts
              go_simp
            simp only [Act.put, List.setIfInBounds_toArray, List.set_cons_zero, List.set_cons_succ, Nat.reduceAdd]
          refine plan_end ?_
          intro w' hB
          have hk := hB.calm.of_drew
          clear hB
          go_wp2_with fail
          all_goals exact ⟨⟨1, by omega, rfl, (hu.call hv).call hk, hN1⟩, by simp [intOf]; omega⟩
        obtain ⟨p', o', f', hd', hs', ws', vs', HE', d0, d1, d2, d3, d4, d5, d6⟩ := chg_get2 (hL.calm hu) (k := k - 1) (by omega)
        have hS := stepC_form HE.out HE0.out (by omega) HE'.out
        have hk2 : 1 ≤ k := by omega
        clear hk1
        have cM := fun u => ahead_any p' o' f' p o f u
        have z1 : IntKind.i64.wrap ((k : Int) - 1) = (k : Int) - 1 := IntWalk.i64_in _ (by omega)
        have z2 : ((k : Int) - 1).toNat = k - 1 := by omega
        have z3 : 0 ≤ (k : Int) - 1 := by omega
        have z4 : (k : Int) - 1 < l.length := by omega
        have z5 : 1 ≤ (k : Int) := by omega
        have z0 : 0 < k := hk2
        by_cases hF : kLt (p', o', f') (p, o, f)
        · rw [if_pos (show kLt (Chg.key ⟨p', o', f', hd', hs', ws', vs'⟩) (Chg.key ⟨p, o, f, true, false, ws, vs⟩) from hF)] at hS
          rw [show aheadB p' o' f' p o f = true from by unfold aheadB; rw [decide_eq_true_eq]; exact kcmp_kLt.2 hF] at cM
          have hN1 : NoErrC l (k + 1) := fun j hj => by
            rcases Nat.lt_or_ge j k with h | h
            · exact hN j h
            · rw [show j = k by omega]; exact hS
          clear hS hF HE0 HE HE' hL
          go_upto_region 12 with (go_at_call 35; refine (cK _).mono ?_; rintro e w1 ⟨rfl, hb1⟩; have hx := (hb1.block (k := wr.heap.size) (by simp)).trans (heap_new wr (.cells #[.int .i64 p, .int .i64 o, .int .i64 f, .bool true, .bool false, .string ws, .string vs] 33 (0, 0))); obtain ⟨x0, x1, x2, x3, x4, x5, x6, hxs⟩ := row7 hx; have hv := ((Calm.refl wr).alloc (.cells #[.int .i64 p, .int .i64 o, .int .i64 f, .bool true, .bool false, .string ws, .string vs] 33 (0, 0))).call hb1; have hb2 : b < w1.heap.size := Nat.lt_of_lt_of_le hb hv.size; have hvc := hv.facts.1; replace d0 := (hvc _ _ hb).trans d0; replace d1 := (hvc _ _ hb).trans d1; replace d2 := (hvc _ _ hb).trans d2; clear hvc hb1 hx c0 c1 c2 c3 c4 c5 c6 d3 d4 d5 d6)
          refine wp_region_plan [.val (.bool false), .val (.bool false), .val (.pointer (some ⟨wr.heap.size, 5, none⟩)), .val (.string ws), .val (.int .i64 ((ws.size : Int))), .val (.bool true), .val (.bool true), .val (.pointer (some ⟨wr.heap.size, 3, none⟩)), .val (.bool true), .val (.bool false), .val (.bool false), .val (.bool false), .val (.bool false), .val (.pointer (some ⟨wr.heap.size, 6, none⟩)), .val (.string vs), .val (.int .i64 ((vs.size : Int))), .val (.bool false), .val (.bool false), .idle, .idle, .idle, .val (.bool false), .val (.bool false), .val (.bool false), .val (.int .i64 ((k : Int))), .val (.bool true), .val (.bool true), .val (.slice (some ⟨b, q, none⟩) l.length c), .val (.int .i64 ((k : Int))), .val (.int .i64 ((k : Int) - 1)), .val (.pointer (some ⟨b, q + (k - 1) * 7, none⟩)), .val (.pointer (some ⟨b, q + (k - 1) * 7, none⟩)), .val (.agg #[.int .i64 p', .int .i64 o', .int .i64 f']), .val (.pointer (some ⟨wr.heap.size, 0, none⟩)), .val (.agg #[.int .i64 p, .int .i64 o, .int .i64 f]), .val (.bool true), .val (.bool false), .val (.bool false), .val (.bool false)] (by kernel_rfl) (by kernel_rfl) (by kernel_rfl) ?_
          intro X
          iterate 18
            refine plan_val (by kernel_rfl) (fun u hu => ?_) ?_
            · obtain ⟨hc, hf, hz⟩ := hu.of_drew.facts
              go_simp
              all_goals first
                | (go_at_call 36; exact cM _)
            simp only [Act.put, List.setIfInBounds_toArray, List.set_cons_zero, List.set_cons_succ, Nat.reduceAdd]
          iterate 3
            refine plan_idle (by kernel_rfl) ?_
            simp only [Act.put, List.setIfInBounds_toArray, List.set_cons_zero, List.set_cons_succ, Nat.reduceAdd]
          iterate 18
            refine plan_val (by kernel_rfl) (fun u hu => ?_) ?_
            · obtain ⟨hc, hf, hz⟩ := hu.of_drew.facts
              go_simp
              all_goals first
                | (go_at_call 36; exact cM _)
            simp only [Act.put, List.setIfInBounds_toArray, List.set_cons_zero, List.set_cons_succ, Nat.reduceAdd]
          refine plan_end ?_
          intro w' hB
          have hk := hB.calm.of_drew
          clear hB
          clear z0 z1 z2 z3 z4 z5
          go_wp2_with fail
          all_goals
            go_roundw
            case rel => exact ⟨k + 1, by omega, by go_num, (hu.call hv).call hk, hN1⟩
          case measure => simp [intOf]; omega
        · rw [if_neg (show ¬ kLt (Chg.key ⟨p', o', f', hd', hs', ws', vs'⟩) (Chg.key ⟨p, o, f, true, false, ws, vs⟩) from hF)] at hS
          rw [show aheadB p' o' f' p o f = false from by unfold aheadB; rw [decide_eq_false_iff_not]; exact fun h => hF (kcmp_kLt.1 h)] at cM
          have K : Hid (3 = chErr l) := hS.symm.trans (chErr_at hbig hN (by rw [hS]; decide) hlt)
          clear hS hF HE0 HE HE' hL
          go_upto_region 12 with (go_at_call 35; refine (cK _).mono ?_; rintro e w1 ⟨rfl, hb1⟩; have hx := (hb1.block (k := wr.heap.size) (by simp)).trans (heap_new wr (.cells #[.int .i64 p, .int .i64 o, .int .i64 f, .bool true, .bool false, .string ws, .string vs] 33 (0, 0))); obtain ⟨x0, x1, x2, x3, x4, x5, x6, hxs⟩ := row7 hx; have hv := ((Calm.refl wr).alloc (.cells #[.int .i64 p, .int .i64 o, .int .i64 f, .bool true, .bool false, .string ws, .string vs] 33 (0, 0))).call hb1; have hb2 : b < w1.heap.size := Nat.lt_of_lt_of_le hb hv.size; have hvc := hv.facts.1; replace d0 := (hvc _ _ hb).trans d0; replace d1 := (hvc _ _ hb).trans d1; replace d2 := (hvc _ _ hb).trans d2; clear hvc hb1 hx c0 c1 c2 c3 c4 c5 c6 d3 d4 d5 d6)
          refine wp_region_plan [.val (.bool false), .val (.bool false), .val (.pointer (some ⟨wr.heap.size, 5, none⟩)), .val (.string ws), .val (.int .i64 ((ws.size : Int))), .val (.bool true), .val (.bool true), .val (.pointer (some ⟨wr.heap.size, 3, none⟩)), .val (.bool true), .val (.bool false), .val (.bool false), .val (.bool false), .val (.bool false), .val (.pointer (some ⟨wr.heap.size, 6, none⟩)), .val (.string vs), .val (.int .i64 ((vs.size : Int))), .val (.bool false), .val (.bool false), .idle, .idle, .idle, .val (.bool false), .val (.bool false), .val (.bool false), .val (.int .i64 ((k : Int))), .val (.bool true), .val (.bool true), .val (.slice (some ⟨b, q, none⟩) l.length c), .val (.int .i64 ((k : Int))), .val (.int .i64 ((k : Int) - 1)), .val (.pointer (some ⟨b, q + (k - 1) * 7, none⟩)), .val (.pointer (some ⟨b, q + (k - 1) * 7, none⟩)), .val (.agg #[.int .i64 p', .int .i64 o', .int .i64 f']), .val (.pointer (some ⟨wr.heap.size, 0, none⟩)), .val (.agg #[.int .i64 p, .int .i64 o, .int .i64 f]), .val (.bool false), .val (.bool true), .val (.bool true), .val (.bool true)] (by kernel_rfl) (by kernel_rfl) (by kernel_rfl) ?_
          intro X
          iterate 18
            refine plan_val (by kernel_rfl) (fun u hu => ?_) ?_
            · obtain ⟨hc, hf, hz⟩ := hu.of_drew.facts
              go_simp
              all_goals first
                | (go_at_call 36; exact cM _)
            simp only [Act.put, List.setIfInBounds_toArray, List.set_cons_zero, List.set_cons_succ, Nat.reduceAdd]
          iterate 3
            refine plan_idle (by kernel_rfl) ?_
            simp only [Act.put, List.setIfInBounds_toArray, List.set_cons_zero, List.set_cons_succ, Nat.reduceAdd]
          iterate 18
            refine plan_val (by kernel_rfl) (fun u hu => ?_) ?_
            · obtain ⟨hc, hf, hz⟩ := hu.of_drew.facts
              go_simp
              all_goals first
                | (go_at_call 36; exact cM _)
            simp only [Act.put, List.setIfInBounds_toArray, List.set_cons_zero, List.set_cons_succ, Nat.reduceAdd]
          refine plan_end ?_
          intro w' hB
          have hk := hB.calm.of_drew
          clear hB
          clear z0 z1 z2 z3 z4 z5
          go_wp2_with fail
          all_goals
            go_ret
            exact ⟨ret_int K.out, (hu.call hv).call hk⟩
      have hw1 : ws.size = 0 := by omega
      by_cases hv0 : 0 < vs.size
      · skip
        have K := KE 3 (ch_err3 hk0 hz fun h => by rcases h.2.1 with h | h; cases h; exact absurd h (by show ¬ vs.size = 0; omega)) (by decide)
        clear KE hN
        go_upto_region 12 with (go_at_call 35; refine (cK _).mono ?_; rintro e w1 ⟨rfl, hb1⟩; have hx := (hb1.block (k := wr.heap.size) (by simp)).trans (heap_new wr (.cells #[.int .i64 p, .int .i64 o, .int .i64 f, .bool true, .bool false, .string ws, .string vs] 33 (0, 0))); obtain ⟨x0, x1, x2, x3, x4, x5, x6, hxs⟩ := row7 hx; have hv := ((Calm.refl wr).alloc (.cells #[.int .i64 p, .int .i64 o, .int .i64 f, .bool true, .bool false, .string ws, .string vs] 33 (0, 0))).call hb1; clear hb1 hx)
        refine wp_region_plan [.val (.bool false), .val (.bool false), .val (.pointer (some ⟨wr.heap.size, 5, none⟩)), .val (.string ws), .val (.int .i64 ((ws.size : Int))), .val (.bool false), .val (.bool false), .idle, .idle, .idle, .val (.bool false), .val (.bool false), .val (.bool false), .val (.pointer (some ⟨wr.heap.size, 6, none⟩)), .val (.string vs), .val (.int .i64 ((vs.size : Int))), .val (.bool true), .val (.bool true), .val (.pointer (some ⟨wr.heap.size, 4, none⟩)), .val (.bool false), .val (.bool true), .val (.bool true), .val (.bool true), .val (.bool true), .idle, .idle, .idle, .idle, .idle, .idle, .idle, .idle, .idle, .idle, .idle, .idle, .idle, .idle, .val (.bool true)] (by kernel_rfl) (by kernel_rfl) (by kernel_rfl) ?_
        intro X
        iterate 7
          refine plan_val (by kernel_rfl) (fun u hu => ?_) ?_
          · obtain ⟨hc, hf, hz⟩ := hu.of_drew.facts
            go_simp
          simp only [Act.put, List.setIfInBounds_toArray, List.set_cons_zero, List.set_cons_succ, Nat.reduceAdd]
        iterate 3
          refine plan_idle (by kernel_rfl) ?_
          simp only [Act.put, List.setIfInBounds_toArray, List.set_cons_zero, List.set_cons_succ, Nat.reduceAdd]
        iterate 14
          refine plan_val (by kernel_rfl) (fun u hu => ?_) ?_
          · obtain ⟨hc, hf, hz⟩ := hu.of_drew.facts
            go_simp
          simp only [Act.put, List.setIfInBounds_toArray, List.set_cons_zero, List.set_cons_succ, Nat.reduceAdd]
        iterate 14
          refine plan_idle (by kernel_rfl) ?_
          simp only [Act.put, List.setIfInBounds_toArray, List.set_cons_zero, List.set_cons_succ, Nat.reduceAdd]
        iterate 1
          refine plan_val (by kernel_rfl) (fun u hu => ?_) ?_
          · obtain ⟨hc, hf, hz⟩ := hu.of_drew.facts
            go_simp
          simp only [Act.put, List.setIfInBounds_toArray, List.set_cons_zero, List.set_cons_succ, Nat.reduceAdd]
        refine plan_end ?_
        intro w' hB
        have hk := hB.calm.of_drew
        clear hB
        go_wp2_with fail
        all_goals
          go_ret
          exact ⟨ret_int K.out, (hu.call hv).call hk⟩
      have hv1 : vs.size = 0 := by omega
      have HE0 : Hid (Chg.err ⟨p, o, f, true, false, ws, vs⟩ = 0) := show _ = _ from Chg.err_zero.2 ⟨hk0, hz1, hz2, .inl rfl, .inr hv1, fun e => hsame ⟨(St.ext_iff'.1 e).1, (St.ext_iff'.1 e).2⟩⟩
      clear KE
      by_cases hk1 : k = 0
      · subst hk1
        have hN1 : NoErrC l 1 := fun j hj => by
          have : j = 0 := by omega
          subst this
          exact stepC_first HE.out HE0.out
        simp only [Nat.zero_mul, Nat.add_zero] at c0 c1 c2 c3 c4 c5 c6
        go_upto_region 12 with (go_at_call 35; refine (cK _).mono ?_; rintro e w1 ⟨rfl, hb1⟩; have hx := (hb1.block (k := wr.heap.size) (by simp)).trans (heap_new wr (.cells #[.int .i64 p, .int .i64 o, .int .i64 f, .bool true, .bool false, .string ws, .string vs] 33 (0, 0))); obtain ⟨x0, x1, x2, x3, x4, x5, x6, hxs⟩ := row7 hx; have hv := ((Calm.refl wr).alloc (.cells #[.int .i64 p, .int .i64 o, .int .i64 f, .bool true, .bool false, .string ws, .string vs] 33 (0, 0))).call hb1; clear hb1 hx)
        refine wp_region_plan [.val (.bool false), .val (.bool false), .val (.pointer (some ⟨wr.heap.size, 5, none⟩)), .val (.string ws), .val (.int .i64 ((ws.size : Int))), .val (.bool false), .val (.bool false), .idle, .idle, .idle, .val (.bool false), .val (.bool false), .val (.bool false), .val (.pointer (some ⟨wr.heap.size, 6, none⟩)), .val (.string vs), .val (.int .i64 ((vs.size : Int))), .val (.bool false), .val (.bool false), .idle, .idle, .idle, .val (.bool false), .val (.bool false), .val (.bool false), .val (.int .i64 (0)), .val (.bool false), .val (.bool false), .idle, .idle, .idle, .idle, .idle, .idle, .idle, .idle, .idle, .idle, .val (.bool false), .val (.bool false)] (by kernel_rfl) (by kernel_rfl) (by kernel_rfl) ?_
        intro X
        iterate 7
          refine plan_val (by kernel_rfl) (fun u hu => ?_) ?_
          · obtain ⟨hc, hf, hz⟩ := hu.of_drew.facts
            go_simp
          simp only [Act.put, List.setIfInBounds_toArray, List.set_cons_zero, List.set_cons_succ, Nat.reduceAdd]
        iterate 3
          refine plan_idle (by kernel_rfl) ?_
          simp only [Act.put, List.setIfInBounds_toArray, List.set_cons_zero, List.set_cons_succ, Nat.reduceAdd]
        iterate 8
          refine plan_val (by kernel_rfl) (fun u hu => ?_) ?_
          · obtain ⟨hc, hf, hz⟩ := hu.of_drew.facts
            go_simp
          simp only [Act.put, List.setIfInBounds_toArray, List.set_cons_zero, List.set_cons_succ, Nat.reduceAdd]
        iterate 3
          refine plan_idle (by kernel_rfl) ?_
          simp only [Act.put, List.setIfInBounds_toArray, List.set_cons_zero, List.set_cons_succ, Nat.reduceAdd]
        iterate 6
          refine plan_val (by kernel_rfl) (fun u hu => ?_) ?_
          · obtain ⟨hc, hf, hz⟩ := hu.of_drew.facts
            go_simp
          simp only [Act.put, List.setIfInBounds_toArray, List.set_cons_zero, List.set_cons_succ, Nat.reduceAdd]
        iterate 10
          refine plan_idle (by kernel_rfl) ?_
          simp only [Act.put, List.setIfInBounds_toArray, List.set_cons_zero, List.set_cons_succ, Nat.reduceAdd]
        iterate 2
          refine plan_val (by kernel_rfl) (fun u hu => ?_) ?_
          · obtain ⟨hc, hf, hz⟩ := hu.of_drew.facts
            go_simp
          simp only [Act.put, List.setIfInBounds_toArray, List.set_cons_zero, List.set_cons_succ, Nat.reduceAdd]
        refine plan_end ?_
        intro w' hB
        have hk := hB.calm.of_drew
        clear hB
        go_wp2_with fail
        all_goals exact ⟨⟨1, by omega, rfl, (hu.call hv).call hk, hN1⟩, by simp [intOf]; omega⟩
      obtain ⟨p', o', f', hd', hs', ws', vs', HE', d0, d1, d2, d3, d4, d5, d6⟩ := chg_get2 (hL.calm hu) (k := k - 1) (by omega)
      have hS := stepC_form HE.out HE0.out (by omega) HE'.out
      have hk2 : 1 ≤ k := by omega
      clear hk1
      have cM := fun u => ahead_any p' o' f' p o f u
      have z1 : IntKind.i64.wrap ((k : Int) - 1) = (k : Int) - 1 := IntWalk.i64_in _ (by omega)
      have z2 : ((k : Int) - 1).toNat = k - 1 := by omega
      have z3 : 0 ≤ (k : Int) - 1 := by omega
      have z4 : (k : Int) - 1 < l.length := by omega
      have z5 : 1 ≤ (k : Int) := by omega
      have z0 : 0 < k := hk2
      by_cases hF : kLt (p', o', f') (p, o, f)
      · rw [if_pos (show kLt (Chg.key ⟨p', o', f', hd', hs', ws', vs'⟩) (Chg.key ⟨p, o, f, true, false, ws, vs⟩) from hF)] at hS
        rw [show aheadB p' o' f' p o f = true from by unfold aheadB; rw [decide_eq_true_eq]; exact kcmp_kLt.2 hF] at cM
        have hN1 : NoErrC l (k + 1) := fun j hj => by
          rcases Nat.lt_or_ge j k with h | h
          · exact hN j h
          · rw [show j = k by omega]; exact hS
        clear hS hF HE0 HE HE' hL
        go_upto_region 12 with (go_at_call 35; refine (cK _).mono ?_; rintro e w1 ⟨rfl, hb1⟩; have hx := (hb1.block (k := wr.heap.size) (by simp)).trans (heap_new wr (.cells #[.int .i64 p, .int .i64 o, .int .i64 f, .bool true, .bool false, .string ws, .string vs] 33 (0, 0))); obtain ⟨x0, x1, x2, x3, x4, x5, x6, hxs⟩ := row7 hx; have hv := ((Calm.refl wr).alloc (.cells #[.int .i64 p, .int .i64 o, .int .i64 f, .bool true, .bool false, .string ws, .string vs] 33 (0, 0))).call hb1; have hb2 : b < w1.heap.size := Nat.lt_of_lt_of_le hb hv.size; have hvc := hv.facts.1; replace d0 := (hvc _ _ hb).trans d0; replace d1 := (hvc _ _ hb).trans d1; replace d2 := (hvc _ _ hb).trans d2; clear hvc hb1 hx c0 c1 c2 c3 c4 c5 c6 d3 d4 d5 d6)
        refine wp_region_plan [.val (.bool false), .val (.bool false), .val (.pointer (some ⟨wr.heap.size, 5, none⟩)), .val (.string ws), .val (.int .i64 ((ws.size : Int))), .val (.bool false), .val (.bool false), .idle, .idle, .idle, .val (.bool false), .val (.bool false), .val (.bool false), .val (.pointer (some ⟨wr.heap.size, 6, none⟩)), .val (.string vs), .val (.int .i64 ((vs.size : Int))), .val (.bool false), .val (.bool false), .idle, .idle, .idle, .val (.bool false), .val (.bool false), .val (.bool false), .val (.int .i64 ((k : Int))), .val (.bool true), .val (.bool true), .val (.slice (some ⟨b, q, none⟩) l.length c), .val (.int .i64 ((k : Int))), .val (.int .i64 ((k : Int) - 1)), .val (.pointer (some ⟨b, q + (k - 1) * 7, none⟩)), .val (.pointer (some ⟨b, q + (k - 1) * 7, none⟩)), .val (.agg #[.int .i64 p', .int .i64 o', .int .i64 f']), .val (.pointer (some ⟨wr.heap.size, 0, none⟩)), .val (.agg #[.int .i64 p, .int .i64 o, .int .i64 f]), .val (.bool true), .val (.bool false), .val (.bool false), .val (.bool false)] (by kernel_rfl) (by kernel_rfl) (by kernel_rfl) ?_
        intro X
        iterate 7
          refine plan_val (by kernel_rfl) (fun u hu => ?_) ?_
          · obtain ⟨hc, hf, hz⟩ := hu.of_drew.facts
            go_simp
            all_goals first
              | (go_at_call 36; exact cM _)
          simp only [Act.put, List.setIfInBounds_toArray, List.set_cons_zero, List.set_cons_succ, Nat.reduceAdd]
        iterate 3
          refine plan_idle (by kernel_rfl) ?_
          simp only [Act.put, List.setIfInBounds_toArray, List.set_cons_zero, List.set_cons_succ, Nat.reduceAdd]
        iterate 8
          refine plan_val (by kernel_rfl) (fun u hu => ?_) ?_
          · obtain ⟨hc, hf, hz⟩ := hu.of_drew.facts
            go_simp
            all_goals first
              | (go_at_call 36; exact cM _)
          simp only [Act.put, List.setIfInBounds_toArray, List.set_cons_zero, List.set_cons_succ, Nat.reduceAdd]
        iterate 3
          refine plan_idle (by kernel_rfl) ?_
          simp only [Act.put, List.setIfInBounds_toArray, List.set_cons_zero, List.set_cons_succ, Nat.reduceAdd]
        iterate 18
          refine plan_val (by kernel_rfl) (fun u hu => ?_) ?_
          · obtain ⟨hc, hf, hz⟩ := hu.of_drew.facts
            go_simp
            all_goals first
              | (go_at_call 36; exact cM _)
          simp only [Act.put, List.setIfInBounds_toArray, List.set_cons_zero, List.set_cons_succ, Nat.reduceAdd]
        refine plan_end ?_
        intro w' hB
        have hk := hB.calm.of_drew
        clear hB
        clear z0 z1 z2 z3 z4 z5
        go_wp2_with fail
        all_goals
          go_roundw
          case rel => exact ⟨k + 1, by omega, by go_num, (hu.call hv).call hk, hN1⟩
        case measure => simp [intOf]; omega
      · rw [if_neg (show ¬ kLt (Chg.key ⟨p', o', f', hd', hs', ws', vs'⟩) (Chg.key ⟨p, o, f, true, false, ws, vs⟩) from hF)] at hS
        rw [show aheadB p' o' f' p o f = false from by unfold aheadB; rw [decide_eq_false_iff_not]; exact fun h => hF (kcmp_kLt.1 h)] at cM
        have K : Hid (3 = chErr l) := hS.symm.trans (chErr_at hbig hN (by rw [hS]; decide) hlt)
        clear hS hF HE0 HE HE' hL
        go_upto_region 12 with (go_at_call 35; refine (cK _).mono ?_; rintro e w1 ⟨rfl, hb1⟩; have hx := (hb1.block (k := wr.heap.size) (by simp)).trans (heap_new wr (.cells #[.int .i64 p, .int .i64 o, .int .i64 f, .bool true, .bool false, .string ws, .string vs] 33 (0, 0))); obtain ⟨x0, x1, x2, x3, x4, x5, x6, hxs⟩ := row7 hx; have hv := ((Calm.refl wr).alloc (.cells #[.int .i64 p, .int .i64 o, .int .i64 f, .bool true, .bool false, .string ws, .string vs] 33 (0, 0))).call hb1; have hb2 : b < w1.heap.size := Nat.lt_of_lt_of_le hb hv.size; have hvc := hv.facts.1; replace d0 := (hvc _ _ hb).trans d0; replace d1 := (hvc _ _ hb).trans d1; replace d2 := (hvc _ _ hb).trans d2; clear hvc hb1 hx c0 c1 c2 c3 c4 c5 c6 d3 d4 d5 d6)
        refine wp_region_plan [.val (.bool false), .val (.bool false), .val (.pointer (some ⟨wr.heap.size, 5, none⟩)), .val (.string ws), .val (.int .i64 ((ws.size : Int))), .val (.bool false), .val (.bool false), .idle, .idle, .idle, .val (.bool false), .val (.bool false), .val (.bool false), .val (.pointer (some ⟨wr.heap.size, 6, none⟩)), .val (.string vs), .val (.int .i64 ((vs.size : Int))), .val (.bool false), .val (.bool false), .idle, .idle, .idle, .val (.bool false), .val (.bool false), .val (.bool false), .val (.int .i64 ((k : Int))), .val (.bool true), .val (.bool true), .val (.slice (some ⟨b, q, none⟩) l.length c), .val (.int .i64 ((k : Int))), .val (.int .i64 ((k : Int) - 1)), .val (.pointer (some ⟨b, q + (k - 1) * 7, none⟩)), .val (.pointer (some ⟨b, q + (k - 1) * 7, none⟩)), .val (.agg #[.int .i64 p', .int .i64 o', .int .i64 f']), .val (.pointer (some ⟨wr.heap.size, 0, none⟩)), .val (.agg #[.int .i64 p, .int .i64 o, .int .i64 f]), .val (.bool false), .val (.bool true), .val (.bool true), .val (.bool true)] (by kernel_rfl) (by kernel_rfl) (by kernel_rfl) ?_
        intro X
        iterate 7
          refine plan_val (by kernel_rfl) (fun u hu => ?_) ?_
          · obtain ⟨hc, hf, hz⟩ := hu.of_drew.facts
            go_simp
            all_goals first
              | (go_at_call 36; exact cM _)
          simp only [Act.put, List.setIfInBounds_toArray, List.set_cons_zero, List.set_cons_succ, Nat.reduceAdd]
        iterate 3
          refine plan_idle (by kernel_rfl) ?_
          simp only [Act.put, List.setIfInBounds_toArray, List.set_cons_zero, List.set_cons_succ, Nat.reduceAdd]
        iterate 8
          refine plan_val (by kernel_rfl) (fun u hu => ?_) ?_
          · obtain ⟨hc, hf, hz⟩ := hu.of_drew.facts
            go_simp
            all_goals first
              | (go_at_call 36; exact cM _)
          simp only [Act.put, List.setIfInBounds_toArray, List.set_cons_zero, List.set_cons_succ, Nat.reduceAdd]
        iterate 3
          refine plan_idle (by kernel_rfl) ?_
          simp only [Act.put, List.setIfInBounds_toArray, List.set_cons_zero, List.set_cons_succ, Nat.reduceAdd]
        iterate 18
          refine plan_val (by kernel_rfl) (fun u hu => ?_) ?_
          · obtain ⟨hc, hf, hz⟩ := hu.of_drew.facts
            go_simp
            all_goals first
              | (go_at_call 36; exact cM _)
          simp only [Act.put, List.setIfInBounds_toArray, List.set_cons_zero, List.set_cons_succ, Nat.reduceAdd]
        refine plan_end ?_
        intro w' hB
        have hk := hB.calm.of_drew
        clear hB
        clear z0 z1 z2 z3 z4 z5
        go_wp2_with fail
        all_goals
          go_ret
          exact ⟨ret_int K.out, (hu.call hv).call hk⟩
    · skip
      have e1 : (ws.toList == vs.toList) = false := str_ne fun h => hsame ⟨rfl, h⟩
      by_cases hw0 : 0 < ws.size
      · skip
        by_cases hv0 : 0 < vs.size
        · skip
          have HE0 : Hid (Chg.err ⟨p, o, f, true, true, ws, vs⟩ = 0) := show _ = _ from Chg.err_zero.2 ⟨hk0, hz1, hz2, .inl rfl, .inl rfl, fun e => hsame ⟨(St.ext_iff'.1 e).1, (St.ext_iff'.1 e).2⟩⟩
          clear KE
          by_cases hk1 : k = 0
          · subst hk1
            have hN1 : NoErrC l 1 := fun j hj => by
              have : j = 0 := by omega
              subst this
              exact stepC_first HE.out HE0.out
            simp only [Nat.zero_mul, Nat.add_zero] at c0 c1 c2 c3 c4 c5 c6
            go_upto_region 12 with (go_at_call 35; refine (cK _).mono ?_; rintro e w1 ⟨rfl, hb1⟩; have hx := (hb1.block (k := wr.heap.size) (by simp)).trans (heap_new wr (.cells #[.int .i64 p, .int .i64 o, .int .i64 f, .bool true, .bool true, .string ws, .string vs] 33 (0, 0))); obtain ⟨x0, x1, x2, x3, x4, x5, x6, hxs⟩ := row7 hx; have hv := ((Calm.refl wr).alloc (.cells #[.int .i64 p, .int .i64 o, .int .i64 f, .bool true, .bool true, .string ws, .string vs] 33 (0, 0))).call hb1; clear hb1 hx)
            refine wp_region_plan [.val (.bool false), .val (.bool false), .val (.pointer (some ⟨wr.heap.size, 5, none⟩)), .val (.string ws), .val (.int .i64 ((ws.size : Int))), .val (.bool true), .val (.bool true), .val (.pointer (some ⟨wr.heap.size, 3, none⟩)), .val (.bool true), .val (.bool false), .val (.bool false), .val (.bool false), .val (.bool false), .val (.pointer (some ⟨wr.heap.size, 6, none⟩)), .val (.string vs), .val (.int .i64 ((vs.size : Int))), .val (.bool true), .val (.bool true), .val (.pointer (some ⟨wr.heap.size, 4, none⟩)), .val (.bool true), .val (.bool false), .val (.bool false), .val (.bool false), .val (.bool false), .val (.int .i64 (0)), .val (.bool false), .val (.bool false), .idle, .idle, .idle, .idle, .idle, .idle, .idle, .idle, .idle, .idle, .val (.bool false), .val (.bool false)] (by kernel_rfl) (by kernel_rfl) (by kernel_rfl) ?_
            intro X
            iterate 27
              refine plan_val (by kernel_rfl) (fun u hu => ?_) ?_
              · obtain ⟨hc, hf, hz⟩ := hu.of_drew.facts
                go_simp
              simp only [Act.put, List.setIfInBounds_toArray, List.set_cons_zero, List.set_cons_succ, Nat.reduceAdd]
            iterate 10
              refine plan_idle (by kernel_rfl) ?_
              simp only [Act.put, List.setIfInBounds_toArray, List.set_cons_zero, List.set_cons_succ, Nat.reduceAdd]
            iterate 2
              refine plan_val (by kernel_rfl) (fun u hu => ?_) ?_
              · obtain ⟨hc, hf, hz⟩ := hu.of_drew.facts
                go_simp
              simp only [Act.put, List.setIfInBounds_toArray, List.set_cons_zero, List.set_cons_succ, Nat.reduceAdd]
            refine plan_end ?_
            intro w' hB
            have hk := hB.calm.of_drew
            clear hB
            go_wp2_with fail
            all_goals exact ⟨⟨1, by omega, rfl, (hu.call hv).call hk, hN1⟩, by simp [intOf]; omega⟩
          obtain ⟨p', o', f', hd', hs', ws', vs', HE', d0, d1, d2, d3, d4, d5, d6⟩ := chg_get2 (hL.calm hu) (k := k - 1) (by omega)
          have hS := stepC_form HE.out HE0.out (by omega) HE'.out
          have hk2 : 1 ≤ k := by omega
          clear hk1
          have cM := fun u => ahead_any p' o' f' p o f u
          have z1 : IntKind.i64.wrap ((k : Int) - 1) = (k : Int) - 1 := IntWalk.i64_in _ (by omega)
          have z2 : ((k : Int) - 1).toNat = k - 1 := by omega
          have z3 : 0 ≤ (k : Int) - 1 := by omega
          have z4 : (k : Int) - 1 < l.length := by omega
          have z5 : 1 ≤ (k : Int) := by omega
          have z0 : 0 < k := hk2
          by_cases hF : kLt (p', o', f') (p, o, f)
          · rw [if_pos (show kLt (Chg.key ⟨p', o', f', hd', hs', ws', vs'⟩) (Chg.key ⟨p, o, f, true, true, ws, vs⟩) from hF)] at hS
            rw [show aheadB p' o' f' p o f = true from by unfold aheadB; rw [decide_eq_true_eq]; exact kcmp_kLt.2 hF] at cM
            have hN1 : NoErrC l (k + 1) := fun j hj => by
              rcases Nat.lt_or_ge j k with h | h
              · exact hN j h
              · rw [show j = k by omega]; exact hS
            clear hS hF HE0 HE HE' hL
            go_upto_region 12 with (go_at_call 35; refine (cK _).mono ?_; rintro e w1 ⟨rfl, hb1⟩; have hx := (hb1.block (k := wr.heap.size) (by simp)).trans (heap_new wr (.cells #[.int .i64 p, .int .i64 o, .int .i64 f, .bool true, .bool true, .string ws, .string vs] 33 (0, 0))); obtain ⟨x0, x1, x2, x3, x4, x5, x6, hxs⟩ := row7 hx; have hv := ((Calm.refl wr).alloc (.cells #[.int .i64 p, .int .i64 o, .int .i64 f, .bool true, .bool true, .string ws, .string vs] 33 (0, 0))).call hb1; have hb2 : b < w1.heap.size := Nat.lt_of_lt_of_le hb hv.size; have hvc := hv.facts.1; replace d0 := (hvc _ _ hb).trans d0; replace d1 := (hvc _ _ hb).trans d1; replace d2 := (hvc _ _ hb).trans d2; clear hvc hb1 hx c0 c1 c2 c3 c4 c5 c6 d3 d4 d5 d6)
            refine wp_region_plan [.val (.bool false), .val (.bool false), .val (.pointer (some ⟨wr.heap.size, 5, none⟩)), .val (.string ws), .val (.int .i64 ((ws.size : Int))), .val (.bool true), .val (.bool true), .val (.pointer (some ⟨wr.heap.size, 3, none⟩)), .val (.bool true), .val (.bool false), .val (.bool false), .val (.bool false), .val (.bool false), .val (.pointer (some ⟨wr.heap.size, 6, none⟩)), .val (.string vs), .val (.int .i64 ((vs.size : Int))), .val (.bool true), .val (.bool true), .val (.pointer (some ⟨wr.heap.size, 4, none⟩)), .val (.bool true), .val (.bool false), .val (.bool false), .val (.bool false), .val (.bool false), .val (.int .i64 ((k : Int))), .val (.bool true), .val (.bool true), .val (.slice (some ⟨b, q, none⟩) l.length c), .val (.int .i64 ((k : Int))), .val (.int .i64 ((k : Int) - 1)), .val (.pointer (some ⟨b, q + (k - 1) * 7, none⟩)), .val (.pointer (some ⟨b, q + (k - 1) * 7, none⟩)), .val (.agg #[.int .i64 p', .int .i64 o', .int .i64 f']), .val (.pointer (some ⟨wr.heap.size, 0, none⟩)), .val (.agg #[.int .i64 p, .int .i64 o, .int .i64 f]), .val (.bool true), .val (.bool false), .val (.bool false), .val (.bool false)] (by kernel_rfl) (by kernel_rfl) (by kernel_rfl) ?_
            intro X
            iterate 39
              refine plan_val (by kernel_rfl) (fun u hu => ?_) ?_
              · obtain ⟨hc, hf, hz⟩ := hu.of_drew.facts
                go_simp
                all_goals first
                  | (go_at_call 36; exact cM _)
              simp only [Act.put, List.setIfInBounds_toArray, List.set_cons_zero, List.set_cons_succ, Nat.reduceAdd]
            refine plan_end ?_
            intro w' hB
            have hk := hB.calm.of_drew
            clear hB
            clear z0 z1 z2 z3 z4 z5
            go_wp2_with fail
            all_goals
              go_roundw
              case rel => exact ⟨k + 1, by omega, by go_num, (hu.call hv).call hk, hN1⟩
            case measure => simp [intOf]; omega
          · rw [if_neg (show ¬ kLt (Chg.key ⟨p', o', f', hd', hs', ws', vs'⟩) (Chg.key ⟨p, o, f, true, true, ws, vs⟩) from hF)] at hS
            rw [show aheadB p' o' f' p o f = false from by unfold aheadB; rw [decide_eq_false_iff_not]; exact fun h => hF (kcmp_kLt.1 h)] at cM
            have K : Hid (3 = chErr l) := hS.symm.trans (chErr_at hbig hN (by rw [hS]; decide) hlt)
            clear hS hF HE0 HE HE' hL
            go_upto_region 12 with (go_at_call 35; refine (cK _).mono ?_; rintro e w1 ⟨rfl, hb1⟩; have hx := (hb1.block (k := wr.heap.size) (by simp)).trans (heap_new wr (.cells #[.int .i64 p, .int .i64 o, .int .i64 f, .bool true, .bool true, .string ws, .string vs] 33 (0, 0))); obtain ⟨x0, x1, x2, x3, x4, x5, x6, hxs⟩ := row7 hx; have hv := ((Calm.refl wr).alloc (.cells #[.int .i64 p, .int .i64 o, .int .i64 f, .bool true, .bool true, .string ws, .string vs] 33 (0, 0))).call hb1; have hb2 : b < w1.heap.size := Nat.lt_of_lt_of_le hb hv.size; have hvc := hv.facts.1; replace d0 := (hvc _ _ hb).trans d0; replace d1 := (hvc _ _ hb).trans d1; replace d2 := (hvc _ _ hb).trans d2; clear hvc hb1 hx c0 c1 c2 c3 c4 c5 c6 d3 d4 d5 d6)
            refine wp_region_plan [.val (.bool false), .val (.bool false), .val (.pointer (some ⟨wr.heap.size, 5, none⟩)), .val (.string ws), .val (.int .i64 ((ws.size : Int))), .val (.bool true), .val (.bool true), .val (.pointer (some ⟨wr.heap.size, 3, none⟩)), .val (.bool true), .val (.bool false), .val (.bool false), .val (.bool false), .val (.bool false), .val (.pointer (some ⟨wr.heap.size, 6, none⟩)), .val (.string vs), .val (.int .i64 ((vs.size : Int))), .val (.bool true), .val (.bool true), .val (.pointer (some ⟨wr.heap.size, 4, none⟩)), .val (.bool true), .val (.bool false), .val (.bool false), .val (.bool false), .val (.bool false), .val (.int .i64 ((k : Int))), .val (.bool true), .val (.bool true), .val (.slice (some ⟨b, q, none⟩) l.length c), .val (.int .i64 ((k : Int))), .val (.int .i64 ((k : Int) - 1)), .val (.pointer (some ⟨b, q + (k - 1) * 7, none⟩)), .val (.pointer (some ⟨b, q + (k - 1) * 7, none⟩)), .val (.agg #[.int .i64 p', .int .i64 o', .int .i64 f']), .val (.pointer (some ⟨wr.heap.size, 0, none⟩)), .val (.agg #[.int .i64 p, .int .i64 o, .int .i64 f]), .val (.bool false), .val (.bool true), .val (.bool true), .val (.bool true)] (by kernel_rfl) (by kernel_rfl) (by kernel_rfl) ?_
            intro X
            iterate 39
              refine plan_val (by kernel_rfl) (fun u hu => ?_) ?_
              · obtain ⟨hc, hf, hz⟩ := hu.of_drew.facts
                go_simp
                all_goals first
                  | (go_at_call 36; exact cM _)
              simp only [Act.put, List.setIfInBounds_toArray, List.set_cons_zero, List.set_cons_succ, Nat.reduceAdd]
            refine plan_end ?_
            intro w' hB
            have hk := hB.calm.of_drew
            clear hB
            clear z0 z1 z2 z3 z4 z5
            go_wp2_with fail
            all_goals
              go_ret
              exact ⟨ret_int K.out, (hu.call hv).call hk⟩
        have hv1 : vs.size = 0 := by omega
        have HE0 : Hid (Chg.err ⟨p, o, f, true, true, ws, vs⟩ = 0) := show _ = _ from Chg.err_zero.2 ⟨hk0, hz1, hz2, .inl rfl, .inl rfl, fun e => hsame ⟨(St.ext_iff'.1 e).1, (St.ext_iff'.1 e).2⟩⟩
        clear KE
        by_cases hk1 : k = 0
        · subst hk1
          have hN1 : NoErrC l 1 := fun j hj => by
            have : j = 0 := by omega
            subst this
            exact stepC_first HE.out HE0.out
          simp only [Nat.zero_mul, Nat.add_zero] at c0 c1 c2 c3 c4 c5 c6
          go_upto_region 12 with (go_at_call 35; refine (cK _).mono ?_; rintro e w1 ⟨rfl, hb1⟩; have hx := (hb1.block (k := wr.heap.size) (by simp)).trans (heap_new wr (.cells #[.int .i64 p, .int .i64 o, .int .i64 f, .bool true, .bool true, .string ws, .string vs] 33 (0, 0))); obtain ⟨x0, x1, x2, x3, x4, x5, x6, hxs⟩ := row7 hx; have hv := ((Calm.refl wr).alloc (.cells #[.int .i64 p, .int .i64 o, .int .i64 f, .bool true, .bool true, .string ws, .string vs] 33 (0, 0))).call hb1; clear hb1 hx)
          refine wp_region_plan [.val (.bool false), .val (.bool false), .val (.pointer (some ⟨wr.heap.size, 5, none⟩)), .val (.string ws), .val (.int .i64 ((ws.size : Int))), .val (.bool true), .val (.bool true), .val (.pointer (some ⟨wr.heap.size, 3, none⟩)), .val (.bool true), .val (.bool false), .val (.bool false), .val (.bool false), .val (.bool false), .val (.pointer (some ⟨wr.heap.size, 6, none⟩)), .val (.string vs), .val (.int .i64 ((vs.size : Int))), .val (.bool false), .val (.bool false), .idle, .idle, .idle, .val (.bool false), .val (.bool false), .val (.bool false), .val (.int .i64 (0)), .val (.bool false), .val (.bool false), .idle, .idle, .idle, .idle, .idle, .idle, .idle, .idle, .idle, .idle, .val (.bool false), .val (.bool false)] (by kernel_rfl) (by kernel_rfl) (by kernel_rfl) ?_
          intro X
          iterate 18
            refine plan_val (by kernel_rfl) (fun u hu => ?_) ?_
            · obtain ⟨hc, hf, hz⟩ := hu.of_drew.facts
              go_simp
            simp only [Act.put, List.setIfInBounds_toArray, List.set_cons_zero, List.set_cons_succ, Nat.reduceAdd]
          iterate 3
            refine plan_idle (by kernel_rfl) ?_
            simp only [Act.put, List.setIfInBounds_toArray, List.set_cons_zero, List.set_cons_succ, Nat.reduceAdd]
          iterate 6
            refine plan_val (by kernel_rfl) (fun u hu => ?_) ?_
            · obtain ⟨hc, hf, hz⟩ := hu.of_drew.facts
              go_simp
            simp only [Act.put, List.setIfInBounds_toArray, List.set_cons_zero, List.set_cons_succ, Nat.reduceAdd]
          iterate 10
            refine plan_idle (by kernel_rfl) ?_
            simp only [Act.put, List.setIfInBounds_toArray, List.set_cons_zero, List.set_cons_succ, Nat.reduceAdd]
          iterate 2
            refine plan_val (by kernel_rfl) (fun u hu => ?_) ?_
            · obtain ⟨hc, hf, hz⟩ := hu.of_drew.facts
              go_simp
            simp only [Act.put, List.setIfInBounds_toArray, List.set_cons_zero, List.set_cons_succ, Nat.reduceAdd]
          refine plan_end ?_
          intro w' hB
          have hk := hB.calm.of_drew
          clear hB
          go_wp2_with fail
          all_goals exact ⟨⟨1, by omega, rfl, (hu.call hv).call hk, hN1⟩, by simp [intOf]; omega⟩
        obtain ⟨p', o', f', hd', hs', ws', vs', HE', d0, d1, d2, d3, d4, d5, d6⟩ := chg_get2 (hL.calm hu) (k := k - 1) (by omega)
        have hS := stepC_form HE.out HE0.out (by omega) HE'.out
        have hk2 : 1 ≤ k := by omega
        clear hk1
        have cM := fun u => ahead_any p' o' f' p o f u
        have z1 : IntKind.i64.wrap ((k : Int) - 1) = (k : Int) - 1 := IntWalk.i64_in _ (by omega)
        have z2 : ((k : Int) - 1).toNat = k - 1 := by omega
        have z3 : 0 ≤ (k : Int) - 1 := by omega
        have z4 : (k : Int) - 1 < l.length := by omega
        have z5 : 1 ≤ (k : Int) := by omega
        have z0 : 0 < k := hk2
        by_cases hF : kLt (p', o', f') (p, o, f)
        · rw [if_pos (show kLt (Chg.key ⟨p', o', f', hd', hs', ws', vs'⟩) (Chg.key ⟨p, o, f, true, true, ws, vs⟩) from hF)] at hS
          rw [show aheadB p' o' f' p o f = true from by unfold aheadB; rw [decide_eq_true_eq]; exact kcmp_kLt.2 hF] at cM
          have hN1 : NoErrC l (k + 1) := fun j hj => by
            rcases Nat.lt_or_ge j k with h | h
            · exact hN j h
            · rw [show j = k by omega]; exact hS
          clear hS hF HE0 HE HE' hL
          go_upto_region 12 with (go_at_call 35; refine (cK _).mono ?_; rintro e w1 ⟨rfl, hb1⟩; have hx := (hb1.block (k := wr.heap.size) (by simp)).trans (heap_new wr (.cells #[.int .i64 p, .int .i64 o, .int .i64 f, .bool true, .bool true, .string ws, .string vs] 33 (0, 0))); obtain ⟨x0, x1, x2, x3, x4, x5, x6, hxs⟩ := row7 hx; have hv := ((Calm.refl wr).alloc (.cells #[.int .i64 p, .int .i64 o, .int .i64 f, .bool true, .bool true, .string ws, .string vs] 33 (0, 0))).call hb1; have hb2 : b < w1.heap.size := Nat.lt_of_lt_of_le hb hv.size; have hvc := hv.facts.1; replace d0 := (hvc _ _ hb).trans d0; replace d1 := (hvc _ _ hb).trans d1; replace d2 := (hvc _ _ hb).trans d2; clear hvc hb1 hx c0 c1 c2 c3 c4 c5 c6 d3 d4 d5 d6)
          refine wp_region_plan [.val (.bool false), .val (.bool false), .val (.pointer (some ⟨wr.heap.size, 5, none⟩)), .val (.string ws), .val (.int .i64 ((ws.size : Int))), .val (.bool true), .val (.bool true), .val (.pointer (some ⟨wr.heap.size, 3, none⟩)), .val (.bool true), .val (.bool false), .val (.bool false), .val (.bool false), .val (.bool false), .val (.pointer (some ⟨wr.heap.size, 6, none⟩)), .val (.string vs), .val (.int .i64 ((vs.size : Int))), .val (.bool false), .val (.bool false), .idle, .idle, .idle, .val (.bool false), .val (.bool false), .val (.bool false), .val (.int .i64 ((k : Int))), .val (.bool true), .val (.bool true), .val (.slice (some ⟨b, q, none⟩) l.length c), .val (.int .i64 ((k : Int))), .val (.int .i64 ((k : Int) - 1)), .val (.pointer (some ⟨b, q + (k - 1) * 7, none⟩)), .val (.pointer (some ⟨b, q + (k - 1) * 7, none⟩)), .val (.agg #[.int .i64 p', .int .i64 o', .int .i64 f']), .val (.pointer (some ⟨wr.heap.size, 0, none⟩)), .val (.agg #[.int .i64 p, .int .i64 o, .int .i64 f]), .val (.bool true), .val (.bool false), .val (.bool false), .val (.bool false)] (by kernel_rfl) (by kernel_rfl) (by kernel_rfl) ?_
          intro X
          iterate 18
            refine plan_val (by kernel_rfl) (fun u hu => ?_) ?_
            · obtain ⟨hc, hf, hz⟩ := hu.of_drew.facts
              go_simp
              all_goals first
                | (go_at_call 36; exact cM _)
            simp only [Act.put, List.setIfInBounds_toArray, List.set_cons_zero, List.set_cons_succ, Nat.reduceAdd]
          iterate 3
            refine plan_idle (by kernel_rfl) ?_
            simp only [Act.put, List.setIfInBounds_toArray, List.set_cons_zero, List.set_cons_succ, Nat.reduceAdd]
          iterate 18
            refine plan_val (by kernel_rfl) (fun u hu => ?_) ?_
            · obtain ⟨hc, hf, hz⟩ := hu.of_drew.facts
              go_simp
              all_goals first
                | (go_at_call 36; exact cM _)
            simp only [Act.put, List.setIfInBounds_toArray, List.set_cons_zero, List.set_cons_succ, Nat.reduceAdd]
          refine plan_end ?_
          intro w' hB
          have hk := hB.calm.of_drew
          clear hB
          clear z0 z1 z2 z3 z4 z5
          go_wp2_with fail
          all_goals
            go_roundw
            case rel => exact ⟨k + 1, by omega, by go_num, (hu.call hv).call hk, hN1⟩
          case measure => simp [intOf]; omega
        · rw [if_neg (show ¬ kLt (Chg.key ⟨p', o', f', hd', hs', ws', vs'⟩) (Chg.key ⟨p, o, f, true, true, ws, vs⟩) from hF)] at hS
          rw [show aheadB p' o' f' p o f = false from by unfold aheadB; rw [decide_eq_false_iff_not]; exact fun h => hF (kcmp_kLt.1 h)] at cM
          have K : Hid (3 = chErr l) := hS.symm.trans (chErr_at hbig hN (by rw [hS]; decide) hlt)
          clear hS hF HE0 HE HE' hL
          go_upto_region 12 with (go_at_call 35; refine (cK _).mono ?_; rintro e w1 ⟨rfl, hb1⟩; have hx := (hb1.block (k := wr.heap.size) (by simp)).trans (heap_new wr (.cells #[.int .i64 p, .int .i64 o, .int .i64 f, .bool true, .bool true, .string ws, .string vs] 33 (0, 0))); obtain ⟨x0, x1, x2, x3, x4, x5, x6, hxs⟩ := row7 hx; have hv := ((Calm.refl wr).alloc (.cells #[.int .i64 p, .int .i64 o, .int .i64 f, .bool true, .bool true, .string ws, .string vs] 33 (0, 0))).call hb1; have hb2 : b < w1.heap.size := Nat.lt_of_lt_of_le hb hv.size; have hvc := hv.facts.1; replace d0 := (hvc _ _ hb).trans d0; replace d1 := (hvc _ _ hb).trans d1; replace d2 := (hvc _ _ hb).trans d2; clear hvc hb1 hx c0 c1 c2 c3 c4 c5 c6 d3 d4 d5 d6)
          refine wp_region_plan [.val (.bool false), .val (.bool false), .val (.pointer (some ⟨wr.heap.size, 5, none⟩)), .val (.string ws), .val (.int .i64 ((ws.size : Int))), .val (.bool true), .val (.bool true), .val (.pointer (some ⟨wr.heap.size, 3, none⟩)), .val (.bool true), .val (.bool false), .val (.bool false), .val (.bool false), .val (.bool false), .val (.pointer (some ⟨wr.heap.size, 6, none⟩)), .val (.string vs), .val (.int .i64 ((vs.size : Int))), .val (.bool false), .val (.bool false), .idle, .idle, .idle, .val (.bool false), .val (.bool false), .val (.bool false), .val (.int .i64 ((k : Int))), .val (.bool true), .val (.bool true), .val (.slice (some ⟨b, q, none⟩) l.length c), .val (.int .i64 ((k : Int))), .val (.int .i64 ((k : Int) - 1)), .val (.pointer (some ⟨b, q + (k - 1) * 7, none⟩)), .val (.pointer (some ⟨b, q + (k - 1) * 7, none⟩)), .val (.agg #[.int .i64 p', .int .i64 o', .int .i64 f']), .val (.pointer (some ⟨wr.heap.size, 0, none⟩)), .val (.agg #[.int .i64 p, .int .i64 o, .int .i64 f]), .val (.bool false), .val (.bool true), .val (.bool true), .val (.bool true)] (by kernel_rfl) (by kernel_rfl) (by kernel_rfl) ?_
          intro X
          iterate 18
            refine plan_val (by kernel_rfl) (fun u hu => ?_) ?_
            · obtain ⟨hc, hf, hz⟩ := hu.of_drew.facts
              go_simp
              all_goals first
                | (go_at_call 36; exact cM _)
            simp only [Act.put, List.setIfInBounds_toArray, List.set_cons_zero, List.set_cons_succ, Nat.reduceAdd]
          iterate 3
            refine plan_idle (by kernel_rfl) ?_
            simp only [Act.put, List.setIfInBounds_toArray, List.set_cons_zero, List.set_cons_succ, Nat.reduceAdd]
          iterate 18
            refine plan_val (by kernel_rfl) (fun u hu => ?_) ?_
            · obtain ⟨hc, hf, hz⟩ := hu.of_drew.facts
              go_simp
              all_goals first
                | (go_at_call 36; exact cM _)
            simp only [Act.put, List.setIfInBounds_toArray, List.set_cons_zero, List.set_cons_succ, Nat.reduceAdd]
          refine plan_end ?_
          intro w' hB
          have hk := hB.calm.of_drew
          clear hB
          clear z0 z1 z2 z3 z4 z5
          go_wp2_with fail
          all_goals
            go_ret
            exact ⟨ret_int K.out, (hu.call hv).call hk⟩
      have hw1 : ws.size = 0 := by omega
      by_cases hv0 : 0 < vs.size
      · skip
        have HE0 : Hid (Chg.err ⟨p, o, f, true, true, ws, vs⟩ = 0) := show _ = _ from Chg.err_zero.2 ⟨hk0, hz1, hz2, .inl rfl, .inl rfl, fun e => hsame ⟨(St.ext_iff'.1 e).1, (St.ext_iff'.1 e).2⟩⟩
        clear KE
        by_cases hk1 : k = 0
        · subst hk1
          have hN1 : NoErrC l 1 := fun j hj => by
            have : j = 0 := by omega
            subst this
            exact stepC_first HE.out HE0.out
          simp only [Nat.zero_mul, Nat.add_zero] at c0 c1 c2 c3 c4 c5 c6
          go_upto_region 12 with (go_at_call 35; refine (cK _).mono ?_; rintro e w1 ⟨rfl, hb1⟩; have hx := (hb1.block (k := wr.heap.size) (by simp)).trans (heap_new wr (.cells #[.int .i64 p, .int .i64 o, .int .i64 f, .bool true, .bool true, .string ws, .string vs] 33 (0, 0))); obtain ⟨x0, x1, x2, x3, x4, x5, x6, hxs⟩ := row7 hx; have hv := ((Calm.refl wr).alloc (.cells #[.int .i64 p, .int .i64 o, .int .i64 f, .bool true, .bool true, .string ws, .string vs] 33 (0, 0))).call hb1; clear hb1 hx)
          refine wp_region_plan [.val (.bool false), .val (.bool false), .val (.pointer (some ⟨wr.heap.size, 5, none⟩)), .val (.string ws), .val (.int .i64 ((ws.size : Int))), .val (.bool false), .val (.bool false), .idle, .idle, .idle, .val (.bool false), .val (.bool false), .val (.bool false), .val (.pointer (some ⟨wr.heap.size, 6, none⟩)), .val (.string vs), .val (.int .i64 ((vs.size : Int))), .val (.bool true), .val (.bool true), .val (.pointer (some ⟨wr.heap.size, 4, none⟩)), .val (.bool true), .val (.bool false), .val (.bool false), .val (.bool false), .val (.bool false), .val (.int .i64 (0)), .val (.bool false), .val (.bool false), .idle, .idle, .idle, .idle, .idle, .idle, .idle, .idle, .idle, .idle, .val (.bool false), .val (.bool false)] (by kernel_rfl) (by kernel_rfl) (by kernel_rfl) ?_
          intro X
          iterate 7
            refine plan_val (by kernel_rfl) (fun u hu => ?_) ?_
            · obtain ⟨hc, hf, hz⟩ := hu.of_drew.facts
              go_simp
            simp only [Act.put, List.setIfInBounds_toArray, List.set_cons_zero, List.set_cons_succ, Nat.reduceAdd]
          iterate 3
            refine plan_idle (by kernel_rfl) ?_
            simp only [Act.put, List.setIfInBounds_toArray, List.set_cons_zero, List.set_cons_succ, Nat.reduceAdd]
          iterate 17
            refine plan_val (by kernel_rfl) (fun u hu => ?_) ?_
            · obtain ⟨hc, hf, hz⟩ := hu.of_drew.facts
              go_simp
            simp only [Act.put, List.setIfInBounds_toArray, List.set_cons_zero, List.set_cons_succ, Nat.reduceAdd]
          iterate 10
            refine plan_idle (by kernel_rfl) ?_
            simp only [Act.put, List.setIfInBounds_toArray, List.set_cons_zero, List.set_cons_succ, Nat.reduceAdd]
          iterate 2
            refine plan_val (by kernel_rfl) (fun u hu => ?_) ?_
            · obtain ⟨hc, hf, hz⟩ := hu.of_drew.facts
              go_simp
            simp only [Act.put, List.setIfInBounds_toArray, List.set_cons_zero, List.set_cons_succ, Nat.reduceAdd]
          refine plan_end ?_
          intro w' hB
          have hk := hB.calm.of_drew
          clear hB
          go_wp2_with fail
          all_goals exact ⟨⟨1, by omega, rfl, (hu.call hv).call hk, hN1⟩, by simp [intOf]; omega⟩
        obtain ⟨p', o', f', hd', hs', ws', vs', HE', d0, d1, d2, d3, d4, d5, d6⟩ := chg_get2 (hL.calm hu) (k := k - 1) (by omega)
        have hS := stepC_form HE.out HE0.out (by omega) HE'.out
        have hk2 : 1 ≤ k := by omega
        clear hk1
        have cM := fun u => ahead_any p' o' f' p o f u
        have z1 : IntKind.i64.wrap ((k : Int) - 1) = (k : Int) - 1 := IntWalk.i64_in _ (by omega)
        have z2 : ((k : Int) - 1).toNat = k - 1 := by omega
        have z3 : 0 ≤ (k : Int) - 1 := by omega
        have z4 : (k : Int) - 1 < l.length := by omega
        have z5 : 1 ≤ (k : Int) := by omega
        have z0 : 0 < k := hk2
        by_cases hF : kLt (p', o', f') (p, o, f)
        · rw [if_pos (show kLt (Chg.key ⟨p', o', f', hd', hs', ws', vs'⟩) (Chg.key ⟨p, o, f, true, true, ws, vs⟩) from hF)] at hS
          rw [show aheadB p' o' f' p o f = true from by unfold aheadB; rw [decide_eq_true_eq]; exact kcmp_kLt.2 hF] at cM
          have hN1 : NoErrC l (k + 1) := fun j hj => by
            rcases Nat.lt_or_ge j k with h | h
            · exact hN j h
            · rw [show j = k by omega]; exact hS
          clear hS hF HE0 HE HE' hL
          go_upto_region 12 with (go_at_call 35; refine (cK _).mono ?_; rintro e w1 ⟨rfl, hb1⟩; have hx := (hb1.block (k := wr.heap.size) (by simp)).trans (heap_new wr (.cells #[.int .i64 p, .int .i64 o, .int .i64 f, .bool true, .bool true, .string ws, .string vs] 33 (0, 0))); obtain ⟨x0, x1, x2, x3, x4, x5, x6, hxs⟩ := row7 hx; have hv := ((Calm.refl wr).alloc (.cells #[.int .i64 p, .int .i64 o, .int .i64 f, .bool true, .bool true, .string ws, .string vs] 33 (0, 0))).call hb1; have hb2 : b < w1.heap.size := Nat.lt_of_lt_of_le hb hv.size; have hvc := hv.facts.1; replace d0 := (hvc _ _ hb).trans d0; replace d1 := (hvc _ _ hb).trans d1; replace d2 := (hvc _ _ hb).trans d2; clear hvc hb1 hx c0 c1 c2 c3 c4 c5 c6 d3 d4 d5 d6)
          refine wp_region_plan [.val (.bool false), .val (.bool false), .val (.pointer (some ⟨wr.heap.size, 5, none⟩)), .val (.string ws), .val (.int .i64 ((ws.size : Int))), .val (.bool false), .val (.bool false), .idle, .idle, .idle, .val (.bool false), .val (.bool false), .val (.bool false), .val (.pointer (some ⟨wr.heap.size, 6, none⟩)), .val (.string vs), .val (.int .i64 ((vs.size : Int))), .val (.bool true), .val (.bool true), .val (.pointer (some ⟨wr.heap.size, 4, none⟩)), .val (.bool true), .val (.bool false), .val (.bool false), .val (.bool false), .val (.bool false), .val (.int .i64 ((k : Int))), .val (.bool true), .val (.bool true), .val (.slice (some ⟨b, q, none⟩) l.length c), .val (.int .i64 ((k : Int))), .val (.int .i64 ((k : Int) - 1)), .val (.pointer (some ⟨b, q + (k - 1) * 7, none⟩)), .val (.pointer (some ⟨b, q + (k - 1) * 7, none⟩)), .val (.agg #[.int .i64 p', .int .i64 o', .int .i64 f']), .val (.pointer (some ⟨wr.heap.size, 0, none⟩)), .val (.agg #[.int .i64 p, .int .i64 o, .int .i64 f]), .val (.bool true), .val (.bool false), .val (.bool false), .val (.bool false)] (by kernel_rfl) (by kernel_rfl) (by kernel_rfl) ?_
          intro X
          iterate 7
            refine plan_val (by kernel_rfl) (fun u hu => ?_) ?_
            · obtain ⟨hc, hf, hz⟩ := hu.of_drew.facts
              go_simp
              all_goals first
                | (go_at_call 36; exact cM _)
            simp only [Act.put, List.setIfInBounds_toArray, List.set_cons_zero, List.set_cons_succ, Nat.reduceAdd]
          iterate 3
            refine plan_idle (by kernel_rfl) ?_
            simp only [Act.put, List.setIfInBounds_toArray, List.set_cons_zero, List.set_cons_succ, Nat.reduceAdd]
          iterate 29
            refine plan_val (by kernel_rfl) (fun u hu => ?_) ?_
            · obtain ⟨hc, hf, hz⟩ := hu.of_drew.facts
              go_simp
              all_goals first
                | (go_at_call 36; exact cM _)
            simp only [Act.put, List.setIfInBounds_toArray, List.set_cons_zero, List.set_cons_succ, Nat.reduceAdd]
          refine plan_end ?_
          intro w' hB
          have hk := hB.calm.of_drew
          clear hB
          clear z0 z1 z2 z3 z4 z5
          go_wp2_with fail
          all_goals
            go_roundw
            case rel => exact ⟨k + 1, by omega, by go_num, (hu.call hv).call hk, hN1⟩
          case measure => simp [intOf]; omega
        · rw [if_neg (show ¬ kLt (Chg.key ⟨p', o', f', hd', hs', ws', vs'⟩) (Chg.key ⟨p, o, f, true, true, ws, vs⟩) from hF)] at hS
          rw [show aheadB p' o' f' p o f = false from by unfold aheadB; rw [decide_eq_false_iff_not]; exact fun h => hF (kcmp_kLt.1 h)] at cM
          have K : Hid (3 = chErr l) := hS.symm.trans (chErr_at hbig hN (by rw [hS]; decide) hlt)
          clear hS hF HE0 HE HE' hL
          go_upto_region 12 with (go_at_call 35; refine (cK _).mono ?_; rintro e w1 ⟨rfl, hb1⟩; have hx := (hb1.block (k := wr.heap.size) (by simp)).trans (heap_new wr (.cells #[.int .i64 p, .int .i64 o, .int .i64 f, .bool true, .bool true, .string ws, .string vs] 33 (0, 0))); obtain ⟨x0, x1, x2, x3, x4, x5, x6, hxs⟩ := row7 hx; have hv := ((Calm.refl wr).alloc (.cells #[.int .i64 p, .int .i64 o, .int .i64 f, .bool true, .bool true, .string ws, .string vs] 33 (0, 0))).call hb1; have hb2 : b < w1.heap.size := Nat.lt_of_lt_of_le hb hv.size; have hvc := hv.facts.1; replace d0 := (hvc _ _ hb).trans d0; replace d1 := (hvc _ _ hb).trans d1; replace d2 := (hvc _ _ hb).trans d2; clear hvc hb1 hx c0 c1 c2 c3 c4 c5 c6 d3 d4 d5 d6)
          refine wp_region_plan [.val (.bool false), .val (.bool false), .val (.pointer (some ⟨wr.heap.size, 5, none⟩)), .val (.string ws), .val (.int .i64 ((ws.size : Int))), .val (.bool false), .val (.bool false), .idle, .idle, .idle, .val (.bool false), .val (.bool false), .val (.bool false), .val (.pointer (some ⟨wr.heap.size, 6, none⟩)), .val (.string vs), .val (.int .i64 ((vs.size : Int))), .val (.bool true), .val (.bool true), .val (.pointer (some ⟨wr.heap.size, 4, none⟩)), .val (.bool true), .val (.bool false), .val (.bool false), .val (.bool false), .val (.bool false), .val (.int .i64 ((k : Int))), .val (.bool true), .val (.bool true), .val (.slice (some ⟨b, q, none⟩) l.length c), .val (.int .i64 ((k : Int))), .val (.int .i64 ((k : Int) - 1)), .val (.pointer (some ⟨b, q + (k - 1) * 7, none⟩)), .val (.pointer (some ⟨b, q + (k - 1) * 7, none⟩)), .val (.agg #[.int .i64 p', .int .i64 o', .int .i64 f']), .val (.pointer (some ⟨wr.heap.size, 0, none⟩)), .val (.agg #[.int .i64 p, .int .i64 o, .int .i64 f]), .val (.bool false), .val (.bool true), .val (.bool true), .val (.bool true)] (by kernel_rfl) (by kernel_rfl) (by kernel_rfl) ?_
          intro X
          iterate 7
            refine plan_val (by kernel_rfl) (fun u hu => ?_) ?_
            · obtain ⟨hc, hf, hz⟩ := hu.of_drew.facts
              go_simp
              all_goals first
                | (go_at_call 36; exact cM _)
            simp only [Act.put, List.setIfInBounds_toArray, List.set_cons_zero, List.set_cons_succ, Nat.reduceAdd]
          iterate 3
            refine plan_idle (by kernel_rfl) ?_
            simp only [Act.put, List.setIfInBounds_toArray, List.set_cons_zero, List.set_cons_succ, Nat.reduceAdd]
          iterate 29
            refine plan_val (by kernel_rfl) (fun u hu => ?_) ?_
            · obtain ⟨hc, hf, hz⟩ := hu.of_drew.facts
              go_simp
              all_goals first
                | (go_at_call 36; exact cM _)
            simp only [Act.put, List.setIfInBounds_toArray, List.set_cons_zero, List.set_cons_succ, Nat.reduceAdd]
          refine plan_end ?_
          intro w' hB
          have hk := hB.calm.of_drew
          clear hB
          clear z0 z1 z2 z3 z4 z5
          go_wp2_with fail
          all_goals
            go_ret
            exact ⟨ret_int K.out, (hu.call hv).call hk⟩
      have hv1 : vs.size = 0 := by omega
      have HE0 : Hid (Chg.err ⟨p, o, f, true, true, ws, vs⟩ = 0) := show _ = _ from Chg.err_zero.2 ⟨hk0, hz1, hz2, .inl rfl, .inl rfl, fun e => hsame ⟨(St.ext_iff'.1 e).1, (St.ext_iff'.1 e).2⟩⟩
      clear KE
      by_cases hk1 : k = 0
      · subst hk1
        have hN1 : NoErrC l 1 := fun j hj => by
          have : j = 0 := by omega
          subst this
          exact stepC_first HE.out HE0.out
        simp only [Nat.zero_mul, Nat.add_zero] at c0 c1 c2 c3 c4 c5 c6
        go_upto_region 12 with (go_at_call 35; refine (cK _).mono ?_; rintro e w1 ⟨rfl, hb1⟩; have hx := (hb1.block (k := wr.heap.size) (by simp)).trans (heap_new wr (.cells #[.int .i64 p, .int .i64 o, .int .i64 f, .bool true, .bool true, .string ws, .string vs] 33 (0, 0))); obtain ⟨x0, x1, x2, x3, x4, x5, x6, hxs⟩ := row7 hx; have hv := ((Calm.refl wr).alloc (.cells #[.int .i64 p, .int .i64 o, .int .i64 f, .bool true, .bool true, .string ws, .string vs] 33 (0, 0))).call hb1; clear hb1 hx)
        refine wp_region_plan [.val (.bool false), .val (.bool false), .val (.pointer (some ⟨wr.heap.size, 5, none⟩)), .val (.string ws), .val (.int .i64 ((ws.size : Int))), .val (.bool false), .val (.bool false), .idle, .idle, .idle, .val (.bool false), .val (.bool false), .val (.bool false), .val (.pointer (some ⟨wr.heap.size, 6, none⟩)), .val (.string vs), .val (.int .i64 ((vs.size : Int))), .val (.bool false), .val (.bool false), .idle, .idle, .idle, .val (.bool false), .val (.bool false), .val (.bool false), .val (.int .i64 (0)), .val (.bool false), .val (.bool false), .idle, .idle, .idle, .idle, .idle, .idle, .idle, .idle, .idle, .idle, .val (.bool false), .val (.bool false)] (by kernel_rfl) (by kernel_rfl) (by kernel_rfl) ?_
        intro X
        iterate 7
          refine plan_val (by kernel_rfl) (fun u hu => ?_) ?_
          · obtain ⟨hc, hf, hz⟩ := hu.of_drew.facts
            go_simp
          simp only [Act.put, List.setIfInBounds_toArray, List.set_cons_zero, List.set_cons_succ, Nat.reduceAdd]
        iterate 3
          refine plan_idle (by kernel_rfl) ?_
          simp only [Act.put, List.setIfInBounds_toArray, List.set_cons_zero, List.set_cons_succ, Nat.reduceAdd]
        iterate 8
          refine plan_val (by kernel_rfl) (fun u hu => ?_) ?_
          · obtain ⟨hc, hf, hz⟩ := hu.of_drew.facts
            go_simp
          simp only [Act.put, List.setIfInBounds_toArray, List.set_cons_zero, List.set_cons_succ, Nat.reduceAdd]
        iterate 3
          refine plan_idle (by kernel_rfl) ?_
          simp only [Act.put, List.setIfInBounds_toArray, List.set_cons_zero, List.set_cons_succ, Nat.reduceAdd]
        iterate 6
          refine plan_val (by kernel_rfl) (fun u hu => ?_) ?_
          · obtain ⟨hc, hf, hz⟩ := hu.of_drew.facts
            go_simp
          simp only [Act.put, List.setIfInBounds_toArray, List.set_cons_zero, List.set_cons_succ, Nat.reduceAdd]
        iterate 10
          refine plan_idle (by kernel_rfl) ?_
          simp only [Act.put, List.setIfInBounds_toArray, List.set_cons_zero, List.set_cons_succ, Nat.reduceAdd]
        iterate 2
          refine plan_val (by kernel_rfl) (fun u hu => ?_) ?_
          · obtain ⟨hc, hf, hz⟩ := hu.of_drew.facts
            go_simp
          simp only [Act.put, List.setIfInBounds_toArray, List.set_cons_zero, List.set_cons_succ, Nat.reduceAdd]
        refine plan_end ?_
        intro w' hB
        have hk := hB.calm.of_drew
        clear hB
        go_wp2_with fail
        all_goals exact ⟨⟨1, by omega, rfl, (hu.call hv).call hk, hN1⟩, by simp [intOf]; omega⟩
      obtain ⟨p', o', f', hd', hs', ws', vs', HE', d0, d1, d2, d3, d4, d5, d6⟩ := chg_get2 (hL.calm hu) (k := k - 1) (by omega)
      have hS := stepC_form HE.out HE0.out (by omega) HE'.out
      have hk2 : 1 ≤ k := by omega
      clear hk1
      have cM := fun u => ahead_any p' o' f' p o f u
      have z1 : IntKind.i64.wrap ((k : Int) - 1) = (k : Int) - 1 := IntWalk.i64_in _ (by omega)
      have z2 : ((k : Int) - 1).toNat = k - 1 := by omega
      have z3 : 0 ≤ (k : Int) - 1 := by omega
      have z4 : (k : Int) - 1 < l.length := by omega
      have z5 : 1 ≤ (k : Int) := by omega
      have z0 : 0 < k := hk2
      by_cases hF : kLt (p', o', f') (p, o, f)
      · rw [if_pos (show kLt (Chg.key ⟨p', o', f', hd', hs', ws', vs'⟩) (Chg.key ⟨p, o, f, true, true, ws, vs⟩) from hF)] at hS
        rw [show aheadB p' o' f' p o f = true from by unfold aheadB; rw [decide_eq_true_eq]; exact kcmp_kLt.2 hF] at cM
        have hN1 : NoErrC l (k + 1) := fun j hj => by
          rcases Nat.lt_or_ge j k with h | h
          · exact hN j h
          · rw [show j = k by omega]; exact hS
        clear hS hF HE0 HE HE' hL
        go_upto_region 12 with (go_at_call 35; refine (cK _).mono ?_; rintro e w1 ⟨rfl, hb1⟩; have hx := (hb1.block (k := wr.heap.size) (by simp)).trans (heap_new wr (.cells #[.int .i64 p, .int .i64 o, .int .i64 f, .bool true, .bool true, .string ws, .string vs] 33 (0, 0))); obtain ⟨x0, x1, x2, x3, x4, x5, x6, hxs⟩ := row7 hx; have hv := ((Calm.refl wr).alloc (.cells #[.int .i64 p, .int .i64 o, .int .i64 f, .bool true, .bool true, .string ws, .string vs] 33 (0, 0))).call hb1; have hb2 : b < w1.heap.size := Nat.lt_of_lt_of_le hb hv.size; have hvc := hv.facts.1; replace d0 := (hvc _ _ hb).trans d0; replace d1 := (hvc _ _ hb).trans d1; replace d2 := (hvc _ _ hb).trans d2; clear hvc hb1 hx c0 c1 c2 c3 c4 c5 c6 d3 d4 d5 d6)
        refine wp_region_plan [.val (.bool false), .val (.bool false), .val (.pointer (some ⟨wr.heap.size, 5, none⟩)), .val (.string ws), .val (.int .i64 ((ws.size : Int))), .val (.bool false), .val (.bool false), .idle, .idle, .idle, .val (.bool false), .val (.bool false), .val (.bool false), .val (.pointer (some ⟨wr.heap.size, 6, none⟩)), .val (.string vs), .val (.int .i64 ((vs.size : Int))), .val (.bool false), .val (.bool false), .idle, .idle, .idle, .val (.bool false), .val (.bool false), .val (.bool false), .val (.int .i64 ((k : Int))), .val (.bool true), .val (.bool true), .val (.slice (some ⟨b, q, none⟩) l.length c), .val (.int .i64 ((k : Int))), .val (.int .i64 ((k : Int) - 1)), .val (.pointer (some ⟨b, q + (k - 1) * 7, none⟩)), .val (.pointer (some ⟨b, q + (k - 1) * 7, none⟩)), .val (.agg #[.int .i64 p', .int .i64 o', .int .i64 f']), .val (.pointer (some ⟨wr.heap.size, 0, none⟩)), .val (.agg #[.int .i64 p, .int .i64 o, .int .i64 f]), .val (.bool true), .val (.bool false), .val (.bool false), .val (.bool false)] (by kernel_rfl) (by kernel_rfl) (by kernel_rfl) ?_
        intro X
        iterate 7
          refine plan_val (by kernel_rfl) (fun u hu => ?_) ?_
          · obtain ⟨hc, hf, hz⟩ := hu.of_drew.facts
            go_simp
            all_goals first
              | (go_at_call 36; exact cM _)
          simp only [Act.put, List.setIfInBounds_toArray, List.set_cons_zero, List.set_cons_succ, Nat.reduceAdd]
        iterate 3
          refine plan_idle (by kernel_rfl) ?_
          simp only [Act.put, List.setIfInBounds_toArray, List.set_cons_zero, List.set_cons_succ, Nat.reduceAdd]
        iterate 8
          refine plan_val (by kernel_rfl) (fun u hu => ?_) ?_
          · obtain ⟨hc, hf, hz⟩ := hu.of_drew.facts
            go_simp
            all_goals first
              | (go_at_call 36; exact cM _)
          simp only [Act.put, List.setIfInBounds_toArray, List.set_cons_zero, List.set_cons_succ, Nat.reduceAdd]
        iterate 3
          refine plan_idle (by kernel_rfl) ?_
          simp only [Act.put, List.setIfInBounds_toArray, List.set_cons_zero, List.set_cons_succ, Nat.reduceAdd]
        iterate 18
          refine plan_val (by kernel_rfl) (fun u hu => ?_) ?_
          · obtain ⟨hc, hf, hz⟩ := hu.of_drew.facts
            go_simp
            all_goals first
              | (go_at_call 36; exact cM _)
          simp only [Act.put, List.setIfInBounds_toArray, List.set_cons_zero, List.set_cons_succ, Nat.reduceAdd]
        refine plan_end ?_
        intro w' hB
        have hk := hB.calm.of_drew
        clear hB
        clear z0 z1 z2 z3 z4 z5
        go_wp2_with fail
        all_goals
          go_roundw
          case rel => exact ⟨k + 1, by omega, by go_num, (hu.call hv).call hk, hN1⟩
        case measure => simp [intOf]; omega
      · rw [if_neg (show ¬ kLt (Chg.key ⟨p', o', f', hd', hs', ws', vs'⟩) (Chg.key ⟨p, o, f, true, true, ws, vs⟩) from hF)] at hS
        rw [show aheadB p' o' f' p o f = false from by unfold aheadB; rw [decide_eq_false_iff_not]; exact fun h => hF (kcmp_kLt.1 h)] at cM
        have K : Hid (3 = chErr l) := hS.symm.trans (chErr_at hbig hN (by rw [hS]; decide) hlt)
        clear hS hF HE0 HE HE' hL
        go_upto_region 12 with (go_at_call 35; refine (cK _).mono ?_; rintro e w1 ⟨rfl, hb1⟩; have hx := (hb1.block (k := wr.heap.size) (by simp)).trans (heap_new wr (.cells #[.int .i64 p, .int .i64 o, .int .i64 f, .bool true, .bool true, .string ws, .string vs] 33 (0, 0))); obtain ⟨x0, x1, x2, x3, x4, x5, x6, hxs⟩ := row7 hx; have hv := ((Calm.refl wr).alloc (.cells #[.int .i64 p, .int .i64 o, .int .i64 f, .bool true, .bool true, .string ws, .string vs] 33 (0, 0))).call hb1; have hb2 : b < w1.heap.size := Nat.lt_of_lt_of_le hb hv.size; have hvc := hv.facts.1; replace d0 := (hvc _ _ hb).trans d0; replace d1 := (hvc _ _ hb).trans d1; replace d2 := (hvc _ _ hb).trans d2; clear hvc hb1 hx c0 c1 c2 c3 c4 c5 c6 d3 d4 d5 d6)
        refine wp_region_plan [.val (.bool false), .val (.bool false), .val (.pointer (some ⟨wr.heap.size, 5, none⟩)), .val (.string ws), .val (.int .i64 ((ws.size : Int))), .val (.bool false), .val (.bool false), .idle, .idle, .idle, .val (.bool false), .val (.bool false), .val (.bool false), .val (.pointer (some ⟨wr.heap.size, 6, none⟩)), .val (.string vs), .val (.int .i64 ((vs.size : Int))), .val (.bool false), .val (.bool false), .idle, .idle, .idle, .val (.bool false), .val (.bool false), .val (.bool false), .val (.int .i64 ((k : Int))), .val (.bool true), .val (.bool true), .val (.slice (some ⟨b, q, none⟩) l.length c), .val (.int .i64 ((k : Int))), .val (.int .i64 ((k : Int) - 1)), .val (.pointer (some ⟨b, q + (k - 1) * 7, none⟩)), .val (.pointer (some ⟨b, q + (k - 1) * 7, none⟩)), .val (.agg #[.int .i64 p', .int .i64 o', .int .i64 f']), .val (.pointer (some ⟨wr.heap.size, 0, none⟩)), .val (.agg #[.int .i64 p, .int .i64 o, .int .i64 f]), .val (.bool false), .val (.bool true), .val (.bool true), .val (.bool true)] (by kernel_rfl) (by kernel_rfl) (by kernel_rfl) ?_
        intro X
        iterate 7
          refine plan_val (by kernel_rfl) (fun u hu => ?_) ?_
          · obtain ⟨hc, hf, hz⟩ := hu.of_drew.facts
            go_simp
            all_goals first
              | (go_at_call 36; exact cM _)
          simp only [Act.put, List.setIfInBounds_toArray, List.set_cons_zero, List.set_cons_succ, Nat.reduceAdd]
        iterate 3
          refine plan_idle (by kernel_rfl) ?_
          simp only [Act.put, List.setIfInBounds_toArray, List.set_cons_zero, List.set_cons_succ, Nat.reduceAdd]
        iterate 8
          refine plan_val (by kernel_rfl) (fun u hu => ?_) ?_
          · obtain ⟨hc, hf, hz⟩ := hu.of_drew.facts
            go_simp
            all_goals first
              | (go_at_call 36; exact cM _)
          simp only [Act.put, List.setIfInBounds_toArray, List.set_cons_zero, List.set_cons_succ, Nat.reduceAdd]
        iterate 3
          refine plan_idle (by kernel_rfl) ?_
          simp only [Act.put, List.setIfInBounds_toArray, List.set_cons_zero, List.set_cons_succ, Nat.reduceAdd]
        iterate 18
          refine plan_val (by kernel_rfl) (fun u hu => ?_) ?_
          · obtain ⟨hc, hf, hz⟩ := hu.of_drew.facts
            go_simp
            all_goals first
              | (go_at_call 36; exact cM _)
          simp only [Act.put, List.setIfInBounds_toArray, List.set_cons_zero, List.set_cons_succ, Nat.reduceAdd]
        refine plan_end ?_
        intro w' hB
        have hk := hB.calm.of_drew
        clear hB
        clear z0 z1 z2 z3 z4 z5
        go_wp2_with fail
        all_goals
          go_ret
          exact ⟨ret_int K.out, (hu.call hv).call hk⟩
open Go.RowKit
def KBox (B1 B2 : Nat) (p o f t : Int) (w : World) : Prop :=
 w.heap[B1]? = some (.cells #[.int .i64 p, .int .i64 o, .int .i64 f] 31 (0, 0)) ∧ w.heap[B2]? = some (.cells #[.int .i64 t] 3 (0, 0))
theorem KBox.calm {B1 B2 : Nat} {p o f t : Int} {w w' : World} (h : KBox B1 B2 p o f t w) (hb : Calm w w') : KBox B1 B2 p o f t w' :=
 ⟨(hb.block (Array.getElem?_eq_some_iff.1 h.1).1).trans h.1, (hb.block (Array.getElem?_eq_some_iff.1 h.2).1).trans h.2⟩
set_option maxHeartbeats 4000000 in
theorem at1_any (B1 B2 : Nat) (p o f m g : Int) (s : ByteArray) (p' o' f' t : Int) (w : World) (hB : KBox B1 B2 p' o' f' t w) :
    Calls Try.prog 63 #[.agg #[.int .i64 p, .int .i64 o, .int .i64 f, .int .i64 m, .int .i64 g, .string s], .pointer (some ⟨B1, 0, none⟩), .pointer (some ⟨B2, 0, none⟩)] w fun e w' => e = .returned (.bool (isAt (p', o', f') t ⟨p, o, f, m, g, s⟩)) ∧ Calm w w' := by
  obtain ⟨hx, hy⟩ := hB
  obtain ⟨x0, x1, x2, hxs⟩ := row3 hx
  have y0 := cell_of_row _ _ 0 _ _ _ hy
  simp only [List.getElem?_toArray, List.getElem?_cons_zero] at y0
  have hys := (Array.getElem?_eq_some_iff.1 hy).1
  have hH : Hid (isAt (p', o', f') t ⟨p, o, f, m, g, s⟩ = decide ((p = p' ∧ o = o' ∧ f = f') ∧ liveP m g t)) := by
    show _ = _
    unfold isAt; simp only [El.key, El.live, Prod.mk.injEq]
  generalize isAt (p', o', f') t ⟨p, o, f, m, g, s⟩ = r at hH ⊢
  clear hx hy
  go_enter Try.func63, Try.ntmps63
  go_wp2_with (go_at_call 64; refine (refLive_any _ _ _ _ _ _ _ _).mono ?_; rintro e w1 ⟨rfl, hb1⟩)
  all_goals
    go_ret
    exact ⟨ret_bool (by rw [hH.out]; simp [*]), by repeat (first | (with_reducible exact Calm.refl _) | (with_reducible refine Calm.alloc ?_ _) | (with_reducible refine Calm.drew ?_) | (with_reducible refine Calm.drewN ?_ _) | (refine Calm.call ?_ (by with_reducible assumption)))⟩
def FI (l : List El) (k : Int × Int × Int) (t r : Int) : Prop := (r = -1 ∧ ∀ e ∈ l, isAt k t e = false) ∨ (∃ (i : Nat) (h : i < l.length), r = i ∧ isAt k t l[i] = true ∧ ∀ j (hj : j < l.length), j < i → isAt k t l[j] = false)
theorem FI_ex (l : List El) (k : Int × Int × Int) (t : Int) : ∃ r, FI l k t r := by
 have E : ∀ n, n ≤ l.length → (∃ (i : Nat) (h : i < l.length), isAt k t l[i] = true ∧ ∀ j (hj : j < l.length), j < i → isAt k t l[j] = false) ∨ ∀ j (hj : j < l.length), j < n → isAt k t l[j] = false := fun n => by
  induction n with
  |zero => intro _; right; intro j hj h0; omega
  |succ n ih =>
   intro hn
   rcases ih (by omega) with h | h
   ·exact .inl h
   ·cases hp : isAt k t l[n]
    ·right; intro j hj h1
     rcases Nat.lt_or_ge j n with h2 | h2
     ·exact h j hj h2
     ·rw [show l[j] = l[n] from by congr 1; omega]; exact hp
    ·exact .inl ⟨n, by omega, hp, h⟩
 rcases E l.length (Nat.le_refl _) with ⟨i, h, h1, h2⟩ | h
 ·exact ⟨i, .inr ⟨i, h, rfl, h1, h2⟩⟩
 ·exact ⟨-1, .inl ⟨rfl, fun e he => by obtain ⟨j, hj, rfl⟩ := List.getElem_of_mem he; exact h j hj hj⟩⟩
set_option maxHeartbeats 4000000 in
theorem indexFunc_any (B1 B2 : Nat) (A : Option Addr) (c : Nat) (l : List El) (p' o' f' t r : Int) (w : World) (hn : l.length ≤ 9223372036854775807) (hL : Lies w A l) (hB : KBox B1 B2 p' o' f' t w) (hF : FI l (p', o', f') t r) :
    Calls Try.prog 62 #[.slice A l.length c, .func (.func 63) #[] #[.pointer (some ⟨B1, 0, none⟩), .pointer (some ⟨B2, 0, none⟩)]] w fun e w' => e = .returned (.int .i64 r) ∧ Calm w w' := by
  have HF := Lib.hid hF
  have C : ∀ (u : World) (p o f m g : Int) (s : ByteArray), Calm w u → Calls Try.prog 63 (#[.agg #[.int .i64 p, .int .i64 o, .int .i64 f, .int .i64 m, .int .i64 g, .string s]] ++ #[.pointer (some ⟨B1, 0, none⟩), .pointer (some ⟨B2, 0, none⟩)]) u fun e w' => e = .returned (.bool (isAt (p', o', f') t ⟨p, o, f, m, g, s⟩)) ∧ Calm u w' := fun u p o f m g s hu => at1_any B1 B2 p o f m g s p' o' f' t u (hB.calm hu)
  clear hF hB
  go_enter Try.func62, Try.ntmps62
  go_wp2_with fail
  go_loopw [8] (fun i wr => ∃ k : Nat, k ≤ l.length ∧ i = .int .i64 k ∧ Calm w wr ∧ Hid (∀ j (hj : j < l.length), j < k → isAt (p', o', f') t l[j] = false)) (fun i _ => l.length - (intOf i).toNat)
  case atStart => exact ⟨0, Nat.zero_le _, rfl, Calm.refl _, show ∀ _, _ from fun j hj h => absurd h (Nat.not_lt_zero _)⟩
  case round =>
    obtain ⟨k, hk, rfl, hu, hN⟩ := hrel
    by_cases hlt : k < l.length
    rotate_left
    · have K : Hid (r = -1) := by
        rcases HF.out with h | ⟨i, hi, _, h2, _⟩
        · exact h.1
        · rw [hN.out i hi (by omega)] at h2; cases h2
      clear C
      go_wp2_with fail
      go_ret
      exact ⟨by rw [K.out]; rfl, hu⟩
    obtain ⟨b, q, p, o, f, m, g, s, rfl, hb, HE, hm, c0, c1, c2, c3, c4, c5⟩ := (hL.calm hu).get hlt
    have HE2 := (List.getElem?_eq_some_iff.1 HE.out).2
    have hc := C wr p o f m g s hu
    cases hp : isAt (p', o', f') t ⟨p, o, f, m, g, s⟩
    · rw [hp] at hc
      have hN2 : Hid (∀ j (hj : j < l.length), j < k + 1 → isAt (p', o', f') t l[j] = false) := show ∀ _, _ from fun j hj h => by
        rcases Nat.lt_or_ge j k with h2 | h2
        · exact hN.out j hj h2
        · rw [show l[j] = l[k] from by congr 1; omega, HE2]; exact hp
      clear hp C HE2
      go_wp2_with (go_at_call 63; refine hc.mono ?_; rintro e w1 ⟨rfl, hb1⟩)
      go_roundw
      case rel => exact ⟨k + 1, by omega, by go_num, hu.call hb1, hN2⟩
      case measure => simp [intOf]; omega
    · rw [hp] at hc
      have K : Hid (r = k) := by
        rcases HF.out with h | ⟨i, hi, hr, h2, h3⟩
        · have := h.2 _ (List.getElem_mem hlt); rw [HE2, hp] at this; cases this
        · rw [hr]
          rcases Nat.lt_trichotomy i k with h4 | h4 | h4
          · rw [hN.out i hi h4] at h2; cases h2
          · show _ = _; rw [h4]
          · have := h3 k hlt h4; rw [HE2, hp] at this; cases this
      clear hp C HE2
      go_wp2_with (go_at_call 63; refine hc.mono ?_; rintro e w1 ⟨rfl, hb1⟩)
      go_ret
      exact ⟨by rw [K.out]; rfl, hu.call hb1⟩
def RefAtEnd (x : El) (b : Bool) (w : World) (e : Ending) (w' : World) : Prop := e = .returned (.tuple #[x.val, .bool b]) ∧ Calm w w'
set_option maxHeartbeats 4000000 in
theorem refAt_any (A : Option Addr) (d : Nat) (l : List El) (p' o' f' t : Int) (w : World) (hn : l.length ≤ 9223372036854775807) (hL : Lies w A l) :
    Calls Try.prog 34 #[.slice A l.length d, .agg #[.int .i64 p', .int .i64 o', .int .i64 f'], .int .i64 t] w (RefAtEnd ((atR l (p', o', f') t).getD zeroEl) (atR l (p', o', f') t).isSome w) := by
  obtain ⟨r, hF⟩ := FI_ex l (p', o', f') t
  have hz : (((w.alloc (.cells #[.int .i64 p', .int .i64 o', .int .i64 f'] 31)).alloc (.cells #[.int .i64 t] 3)).alloc (.cells #[.int .i64 0, .int .i64 0, .int .i64 0, .int .i64 0, .int .i64 0, .string { data := #[] }] 43)).heap[w.heap.size + 1 + 1]? = some (.cells #[.int .i64 0, .int .i64 0, .int .i64 0, .int .i64 0, .int .i64 0, .string { data := #[] }] 43 (0, 0)) := by simpa using heap_new ((w.alloc (.cells #[.int .i64 p', .int .i64 o', .int .i64 f'] 31)).alloc (.cells #[.int .i64 t] 3)) (.cells #[.int .i64 0, .int .i64 0, .int .i64 0, .int .i64 0, .int .i64 0, .string { data := #[] }] 43)
  have hu := (((Calm.refl w).alloc (.cells #[.int .i64 p', .int .i64 o', .int .i64 f'] 31)).alloc (.cells #[.int .i64 t] 3)).alloc (.cells #[.int .i64 0, .int .i64 0, .int .i64 0, .int .i64 0, .int .i64 0, .string { data := #[] }] 43)
  have hB : KBox w.heap.size (w.heap.size + 1) p' o' f' t (((w.alloc (.cells #[.int .i64 p', .int .i64 o', .int .i64 f'] 31)).alloc (.cells #[.int .i64 t] 3)).alloc (.cells #[.int .i64 0, .int .i64 0, .int .i64 0, .int .i64 0, .int .i64 0, .string { data := #[] }] 43)) := ⟨heap_past _ (heap_past _ (heap_new _ _)), heap_past _ (by simpa using heap_new (w.alloc (.cells #[.int .i64 p', .int .i64 o', .int .i64 f'] 31)) (.cells #[.int .i64 t] 3))⟩
  have cI := indexFunc_any w.heap.size (w.heap.size + 1) A d l p' o' f' t r _ hn (hL.calm hu) hB hF
  clear hB
  rcases hF with ⟨rfl, h2⟩ | ⟨i, hi, rfl, h2, h3⟩
  · rw [find_none h2]
    clear h2 hL
    go_enter Try.func34, Try.ntmps34
    go_wp2_with (go_at_call 62; refine cI.mono ?_; rintro e w1 ⟨rfl, hb1⟩; replace hz := (hb1.block (row6 hz).2.2.2.2.2.2).trans hz; replace hu := hu.call hb1; clear hb1; obtain ⟨z0, z1, z2, z3, z4, z5, hzs⟩ := row6 hz; obtain ⟨f0, f1, f2, f3, f4, f5⟩ := free6 hz)
    have hr := set6 hz (.int .i64 0) (.int .i64 0) (.int .i64 0) (.int .i64 0) (.int .i64 0) (.string { data := #[] })
    have hu2 := hu.six (g := w.heap.size + 1 + 1) (by omega) (.int .i64 0) (.int .i64 0) (.int .i64 0) (.int .i64 0) (.int .i64 0) (.string { data := #[] })
    unfold World.six at hr hu2
    exact end_two rfl rfl _ _ _ _ _ _ _ rfl rfl rfl hr rfl ⟨rfl, hu2⟩
  · have e0 : atR l (p', o', f') t = some l[i] := by
      unfold atR
      rw [List.find?_eq_some_iff_getElem]
      exact ⟨h2, i, hi, rfl, fun j hj => by rw [h3 j (by omega) hj]; rfl⟩
    rw [e0]
    clear h2 h3 e0
    obtain ⟨b, q, p, o, f, m, g, s, rfl, hb, HE, hm, c0, c1, c2, c3, c4, c5⟩ := hL.get hi
    have e3 : Hid (l[i] = ⟨p, o, f, m, g, s⟩) := (List.getElem?_eq_some_iff.1 HE.out).2
    have hC : ∀ u, Calm w u → u.cell? ⟨b, q + i * 6, none⟩ = some (.int .i64 p) ∧ u.cell? ⟨b, q + i * 6 + 1, none⟩ = some (.int .i64 o) ∧ u.cell? ⟨b, q + i * 6 + 2, none⟩ = some (.int .i64 f) ∧ u.cell? ⟨b, q + i * 6 + 3, none⟩ = some (.int .i64 m) ∧ u.cell? ⟨b, q + i * 6 + 4, none⟩ = some (.int .i64 g) ∧ u.cell? ⟨b, q + i * 6 + 5, none⟩ = some (.string s) := fun u hu =>
      have hc := hu.facts.1
      ⟨(hc _ _ hb).trans c0, (hc _ _ hb).trans c1, (hc _ _ hb).trans c2, (hc _ _ hb).trans c3, (hc _ _ hb).trans c4, (hc _ _ hb).trans c5⟩
    have hiz : (i : Int) < (l.length : Int) := by omega
    clear hL HE c0 c1 c2 c3 c4 c5
    go_enter Try.func34, Try.ntmps34
    go_wp2_with (go_at_call 62; refine cI.mono ?_; rintro e w1 ⟨rfl, hb1⟩; replace hz := (hb1.block (row6 hz).2.2.2.2.2.2).trans hz; replace hu := hu.call hb1; clear hb1; obtain ⟨z0, z1, z2, z3, z4, z5, hzs⟩ := row6 hz; obtain ⟨f0, f1, f2, f3, f4, f5⟩ := free6 hz; obtain ⟨c0, c1, c2, c3, c4, c5⟩ := hC _ hu)
    have hr := set6 hz (.int .i64 p) (.int .i64 o) (.int .i64 f) (.int .i64 m) (.int .i64 g) (.string s)
    have hu2 := hu.six (g := w.heap.size + 1 + 1) (by omega) (.int .i64 p) (.int .i64 o) (.int .i64 f) (.int .i64 m) (.int .i64 g) (.string s)
    unfold World.six at hr hu2
    exact end_two rfl rfl _ _ _ _ _ _ _ rfl rfl rfl hr rfl ⟨by rw [Option.getD_some, e3.out]; rfl, hu2⟩
open Go.RowKit
theorem aheadS_Fol {p o f m p' o' f' m' : Int} : aheadS p' o' f' m' p o f m = true ↔ sLt (p', o', f') m' (p, o, f) m := by
 have h := scmp_sLt (a := ⟨p', o', f', m', 0, ByteArray.empty⟩) (b := ⟨p, o, f, m, 0, ByteArray.empty⟩)
 simp only [El.key] at h
 unfold aheadS; rw [decide_eq_true_eq, h]
set_option maxHeartbeats 8000000 in
theorem refRun_any (A : Option Addr) (c : Nat) (l : List El) (w : World) (hn : l.length ≤ 9223372036854775807) (hL : Lies w A l) :
    Calls Try.prog 13 #[.slice A l.length c] w fun e w' => e = .returned (.int .i64 (runErr l)) ∧ Calm w w' := by
  by_cases hbig : 400 < l.length
  · have K : Hid (2 = runErr l) := by show _ = _; unfold runErr; rw [if_pos hbig]
    go_enter Try.func13, Try.ntmps13
    go_wp2_with fail
    go_ret
    exact ⟨ret_int K.out, Calm.refl _⟩
  go_enter Try.func13, Try.ntmps13
  go_wp2_with fail
  go_loopw [12] (fun i wr => ∃ k : Nat, k ≤ l.length ∧ i = .int .i64 k ∧ Calm w wr ∧ NoErr l k) (fun i _ => l.length - (intOf i).toNat)
  case atStart => exact ⟨0, Nat.zero_le _, rfl, Calm.refl _, fun j hj => absurd hj (Nat.not_lt_zero _)⟩
  case round =>
    obtain ⟨k, hk, rfl, hu, hN⟩ := hrel
    by_cases hlt : k < l.length
    rotate_left
    · have hkl : k = l.length := by omega
      have K : Hid (0 = runErr l) := runErr_good hbig (by rw [← hkl]; exact hN)
      clear hkl
      go_wp2_with fail
      go_ret
      exact ⟨ret_int K.out, hu⟩
    obtain ⟨b, q, p, o, f, m, g, s, rfl, hb, HE, hm, c0, c1, c2, c3, c4, c5⟩ := (hL.calm hu).get hlt
    by_cases he : elemErr p o f m g s.size = 0
    rotate_left
    · have b1 : (elemErr p o f m g s.size != 0) = true := by simpa using he
      have K : Hid (elemErr p o f m g s.size = runErr l) := by
        have h1 := stepErr_err HE.out (show El.err ⟨p, o, f, m, g, s⟩ ≠ 0 from he)
        rw [← runErr_at hbig hN (by rw [h1]; exact he) hlt, h1]; rfl
      clear he
      go_wp2_with (go_at_call 31; refine (refElem_any _ _ _ _ _ _ _ hm).mono ?_; rintro e w1 ⟨rfl, hb1⟩)
      go_ret
      exact ⟨ret_int K.out, by repeat (first | (with_reducible exact Calm.refl _) | (with_reducible refine Calm.alloc ?_ _) | (with_reducible refine Calm.drew ?_) | (with_reducible refine Calm.drewN ?_ _) | (refine Calm.call ?_ (by with_reducible assumption)))⟩
    have b1 : (elemErr p o f m g s.size != 0) = false := by simpa using he
    have HE0 : Hid (elemErr p o f m g s.size = 0) := he
    clear he
    by_cases hk0 : k = 0
    · subst hk0
      have hN1 : NoErr l 1 := fun j hj => by
        have : j = 0 := by omega
        subst this
        exact stepErr_first HE.out HE0.out
      simp only [Nat.zero_mul, Nat.add_zero] at c0 c1 c2 c3 c4 c5
      go_wp2_with (go_at_call 31; refine (refElem_any _ _ _ _ _ _ _ hm).mono ?_; rintro e w1 ⟨rfl, hb1⟩)
      exact ⟨⟨1, by omega, rfl, (hu.alloc _).call hb1, hN1⟩, by simp [intOf]; omega⟩
    obtain ⟨p', o', f', m', g', s', HE', hm', d0, d1, d2, d3, d4, d5⟩ := (hL.calm hu).get2 (k := k - 1) (by omega)
    have hS := stepErr_form HE.out HE0.out (by omega) HE'.out
    have hg' : g' = 0 ∨ 0 < g' := by
      have h1 := ((stepErr_zero (l := l) (i := k - 1) (by omega)).1 (hN (k - 1) (by omega))).1
      rw [(List.getElem?_eq_some_iff.1 HE'.out).2] at h1
      have h2 := err_time h1
      unfold timeOk at h2; simp only at h2; omega
    have z0 : 0 < k := by omega
    have z1 : IntKind.i64.wrap ((k : Int) - 1) = (k : Int) - 1 := IntWalk.i64_in _ (by omega)
    have z2 : ((k : Int) - 1).toNat = k - 1 := by omega
    have z3 : 0 ≤ (k : Int) - 1 := by omega
    have z4 : (k : Int) - 1 < l.length := by omega
    have z5 : 1 ≤ (k : Int) := by omega
    have hLR : Calm w wr ∧ k < l.length ∧ NoErr l k ∧ ¬ 400 < l.length := ⟨hu, hlt, hN, hbig⟩
    have HS : Hid (stepErr l k = if Fol ⟨p', o', f', m', g', s'⟩ ⟨p, o, f, m, g, s⟩ then 0 else 3) := hS
    clear hS
    go_upto_region 11 with (go_at_call 31; refine (refElem_any _ _ _ _ _ _ _ hm).mono ?_; rintro e w1 ⟨rfl, hb1⟩; have hx1 := (hb1.block (k := wr.heap.size) (by simp)).trans (heap_new wr _); have hv := ((Calm.refl wr).alloc _).call hb1; have hb2 : b < w1.heap.size := Nat.lt_of_lt_of_le hb hv.size; have hvc := hv.facts.1; replace d0 := (hvc _ _ hb).trans d0; replace d1 := (hvc _ _ hb).trans d1; replace d2 := (hvc _ _ hb).trans d2; replace d3 := (hvc _ _ hb).trans d3; replace d4 := (hvc _ _ hb).trans d4; replace d5 := (hvc _ _ hb).trans d5; clear hvc hb1 c0 c1 c2 c3 c4 c5 hL)
    clear b1 z0 z1 z2 z3 z4 z5 d0 d1 d2 d3 d4 d5
    have hx := heap_past (.cells #[.int .i64 p', .int .i64 o', .int .i64 f', .int .i64 m', .int .i64 g', .string s'] 43) hx1
    have hy := heap_new w1 (.cells #[.int .i64 p', .int .i64 o', .int .i64 f', .int .i64 m', .int .i64 g', .string s'] 43)
    have hv1 := (hu.call hv).alloc (.cells #[.int .i64 p', .int .i64 o', .int .i64 f', .int .i64 m', .int .i64 g', .string s'] 43)
    have hne : wr.heap.size ≠ w1.heap.size := by have := (Array.getElem?_eq_some_iff.1 hx1).1; omega
    generalize w1.alloc (.cells #[.int .i64 p', .int .i64 o', .int .i64 f', .int .i64 m', .int .i64 g', .string s'] 43) = wc at hx hy hv1 ⊢
    obtain ⟨x0, x1, x2, x3, x4, x5, hxs⟩ := row6 hx
    obtain ⟨y0, y1, y2, y3, y4, y5, hys⟩ := row6 hy
    clear hv hb2 hx1 hx hy
    generalize wr.heap.size = X0 at *
    generalize w1.heap.size = Y0 at *
    have hFA : Fol ⟨p', o', f', m', g', s'⟩ ⟨p, o, f, m, g, s⟩ ↔ aheadS p' o' f' m' p o f m = true ∧ ((p', o', f') = (p, o, f) → g' ≠ 0 ∧ g' ≤ m) := by rw [aheadS_Fol]; exact Iff.rfl
    clear hN hbig hlt hk0 HE HE0 HE' hu hm hm'
    have hN := hLR.2.2.1
    have hlt := hLR.2.1
    cases hA : aheadS p' o' f' m' p o f m
    · have hF : ¬ Fol ⟨p', o', f', m', g', s'⟩ ⟨p, o, f, m, g, s⟩ := fun h => by rw [hFA, hA] at h; exact absurd h.1 (by simp)
      have K : Hid (3 = runErr l) := by
        have h := HS.out
        rw [if_neg hF] at h
        exact h.symm.trans (runErr_at hLR.2.2.2 hLR.2.2.1 (by rw [h]; decide) hLR.2.1)
      clear hF HS
      have cS : ∀ u, Calls Try.prog 32 #[.agg #[.int .i64 p', .int .i64 o', .int .i64 f', .int .i64 m'], .agg #[.int .i64 p, .int .i64 o, .int .i64 f, .int .i64 m]] u fun e w' => e = .returned (.bool false) ∧ Calm u w' := fun u => by rw [← hA]; exact aheadSpot_any _ _ _ _ _ _ _ _ _
      clear hA hFA
      refine wp_region_plan [.val (.agg #[.int .i64 p', .int .i64 o', .int .i64 f', .int .i64 m', .int .i64 g', .string s']), .val (.agg #[.int .i64 p', .int .i64 o', .int .i64 f', .int .i64 m']), .val (.agg #[.int .i64 p, .int .i64 o, .int .i64 f, .int .i64 m, .int .i64 g, .string s]), .val (.agg #[.int .i64 p, .int .i64 o, .int .i64 f, .int .i64 m]), .val (.bool false), .val (.bool true), .val (.bool true), .idle, .idle, .idle, .idle, .idle, .idle, .idle, .idle, .idle, .idle, .idle, .idle, .idle, .idle, .idle, .idle, .idle, .idle, .val (.bool true)] (by kernel_rfl) (by kernel_rfl) (by kernel_rfl) ?_
      intro X
      iterate 7
        refine plan_val (by kernel_rfl) (fun u hu => ?_) ?_
        · obtain ⟨hc, hf, hz⟩ := hu.of_drew.facts
          go_simp
          all_goals first
            | (go_at_call 33; exact refSpot_any _ _ _ _ _ _ _)
            | (go_at_call 32; exact cS _)
        simp only [Act.put, List.setIfInBounds_toArray, List.set_cons_zero, List.set_cons_succ, Nat.reduceAdd]
      iterate 18
        refine plan_idle (by kernel_rfl) ?_
        simp only [Act.put, List.setIfInBounds_toArray, List.set_cons_zero, List.set_cons_succ, Nat.reduceAdd]
      iterate 1
        refine plan_val (by kernel_rfl) (fun u hu => ?_) ?_
        · obtain ⟨hc, hf, hz⟩ := hu.of_drew.facts
          go_simp
          all_goals first
            | (go_at_call 33; exact refSpot_any _ _ _ _ _ _ _)
            | (go_at_call 32; exact cS _)
        simp only [Act.put, List.setIfInBounds_toArray, List.set_cons_zero, List.set_cons_succ, Nat.reduceAdd]
      refine plan_end ?_
      intro w' hB
      have hk := hB.calm.of_drew
      clear hB cS
      go_wp2_with fail
      go_ret
      exact ⟨ret_int K.out, hv1.call hk⟩
    by_cases hK : (p', o', f') = (p, o, f)
    rotate_left
    · have hF : Fol ⟨p', o', f', m', g', s'⟩ ⟨p, o, f, m, g, s⟩ := hFA.2 ⟨hA, fun h => absurd h hK⟩
      have hN1 : NoErr l (k + 1) := fun j hj => by
        rcases Nat.lt_or_ge j k with h | h
        · exact hN j h
        · rw [show j = k by omega]; have h := HS.out; rw [if_pos hF] at h; exact h
      clear hF HS
      have cS : ∀ u, Calls Try.prog 32 #[.agg #[.int .i64 p', .int .i64 o', .int .i64 f', .int .i64 m'], .agg #[.int .i64 p, .int .i64 o, .int .i64 f, .int .i64 m]] u fun e w' => e = .returned (.bool true) ∧ Calm u w' := fun u => by rw [← hA]; exact aheadSpot_any _ _ _ _ _ _ _ _ _
      clear hA hFA
      have h3 : ¬ p' = p ∨ (p' = p ∧ ¬ o' = o) ∨ (p' = p ∧ o' = o ∧ ¬ f' = f) := by simp only [Prod.mk.injEq] at hK; omega
      clear hK
      rcases h3 with h3 | ⟨h3, h4⟩ | ⟨h3, h4, h5⟩
      · skip
        refine wp_region_plan [.val (.agg #[.int .i64 p', .int .i64 o', .int .i64 f', .int .i64 m', .int .i64 g', .string s']), .val (.agg #[.int .i64 p', .int .i64 o', .int .i64 f', .int .i64 m']), .val (.agg #[.int .i64 p, .int .i64 o, .int .i64 f, .int .i64 m, .int .i64 g, .string s]), .val (.agg #[.int .i64 p, .int .i64 o, .int .i64 f, .int .i64 m]), .val (.bool true), .val (.bool false), .val (.bool false), .val (.pointer (some ⟨Y0, 0, none⟩)), .val (.agg #[.int .i64 p', .int .i64 o', .int .i64 f']), .val (.pointer (some ⟨X0, 0, none⟩)), .val (.agg #[.int .i64 p, .int .i64 o, .int .i64 f]), .val (.bool false), .val (.bool false), .idle, .idle, .idle, .idle, .idle, .idle, .idle, .idle, .idle, .idle, .idle, .val (.bool false), .val (.bool false)] (by kernel_rfl) (by kernel_rfl) (by kernel_rfl) ?_
        intro X
        iterate 13
          refine plan_val (by kernel_rfl) (fun u hu => ?_) ?_
          · obtain ⟨hc, hf, hz⟩ := hu.of_drew.facts
            go_simp
            all_goals first
              | (go_at_call 33; exact refSpot_any _ _ _ _ _ _ _)
              | (go_at_call 32; exact cS _)
          simp only [Act.put, List.setIfInBounds_toArray, List.set_cons_zero, List.set_cons_succ, Nat.reduceAdd]
        iterate 11
          refine plan_idle (by kernel_rfl) ?_
          simp only [Act.put, List.setIfInBounds_toArray, List.set_cons_zero, List.set_cons_succ, Nat.reduceAdd]
        iterate 2
          refine plan_val (by kernel_rfl) (fun u hu => ?_) ?_
          · obtain ⟨hc, hf, hz⟩ := hu.of_drew.facts
            go_simp
            all_goals first
              | (go_at_call 33; exact refSpot_any _ _ _ _ _ _ _)
              | (go_at_call 32; exact cS _)
          simp only [Act.put, List.setIfInBounds_toArray, List.set_cons_zero, List.set_cons_succ, Nat.reduceAdd]
        refine plan_end ?_
        intro w' hB
        have hk := hB.calm.of_drew
        clear hB cS
        go_wp2_with fail
        go_roundw
        case rel => exact ⟨k + 1, by omega, by go_num, hv1.call hk, hN1⟩
        case measure => simp [intOf]; omega
      · skip
        subst h3
        refine wp_region_plan [.val (.agg #[.int .i64 p', .int .i64 o', .int .i64 f', .int .i64 m', .int .i64 g', .string s']), .val (.agg #[.int .i64 p', .int .i64 o', .int .i64 f', .int .i64 m']), .val (.agg #[.int .i64 p', .int .i64 o, .int .i64 f, .int .i64 m, .int .i64 g, .string s]), .val (.agg #[.int .i64 p', .int .i64 o, .int .i64 f, .int .i64 m]), .val (.bool true), .val (.bool false), .val (.bool false), .val (.pointer (some ⟨Y0, 0, none⟩)), .val (.agg #[.int .i64 p', .int .i64 o', .int .i64 f']), .val (.pointer (some ⟨X0, 0, none⟩)), .val (.agg #[.int .i64 p', .int .i64 o, .int .i64 f]), .val (.bool false), .val (.bool false), .idle, .idle, .idle, .idle, .idle, .idle, .idle, .idle, .idle, .idle, .idle, .val (.bool false), .val (.bool false)] (by kernel_rfl) (by kernel_rfl) (by kernel_rfl) ?_
        intro X
        iterate 13
          refine plan_val (by kernel_rfl) (fun u hu => ?_) ?_
          · obtain ⟨hc, hf, hz⟩ := hu.of_drew.facts
            go_simp
            all_goals first
              | (go_at_call 33; exact refSpot_any _ _ _ _ _ _ _)
              | (go_at_call 32; exact cS _)
          simp only [Act.put, List.setIfInBounds_toArray, List.set_cons_zero, List.set_cons_succ, Nat.reduceAdd]
        iterate 11
          refine plan_idle (by kernel_rfl) ?_
          simp only [Act.put, List.setIfInBounds_toArray, List.set_cons_zero, List.set_cons_succ, Nat.reduceAdd]
        iterate 2
          refine plan_val (by kernel_rfl) (fun u hu => ?_) ?_
          · obtain ⟨hc, hf, hz⟩ := hu.of_drew.facts
            go_simp
            all_goals first
              | (go_at_call 33; exact refSpot_any _ _ _ _ _ _ _)
              | (go_at_call 32; exact cS _)
          simp only [Act.put, List.setIfInBounds_toArray, List.set_cons_zero, List.set_cons_succ, Nat.reduceAdd]
        refine plan_end ?_
        intro w' hB
        have hk := hB.calm.of_drew
        clear hB cS
        go_wp2_with fail
        go_roundw
        case rel => exact ⟨k + 1, by omega, by go_num, hv1.call hk, hN1⟩
        case measure => simp [intOf]; omega
      · skip
        subst h3
        subst h4
        refine wp_region_plan [.val (.agg #[.int .i64 p', .int .i64 o', .int .i64 f', .int .i64 m', .int .i64 g', .string s']), .val (.agg #[.int .i64 p', .int .i64 o', .int .i64 f', .int .i64 m']), .val (.agg #[.int .i64 p', .int .i64 o', .int .i64 f, .int .i64 m, .int .i64 g, .string s]), .val (.agg #[.int .i64 p', .int .i64 o', .int .i64 f, .int .i64 m]), .val (.bool true), .val (.bool false), .val (.bool false), .val (.pointer (some ⟨Y0, 0, none⟩)), .val (.agg #[.int .i64 p', .int .i64 o', .int .i64 f']), .val (.pointer (some ⟨X0, 0, none⟩)), .val (.agg #[.int .i64 p', .int .i64 o', .int .i64 f]), .val (.bool false), .val (.bool false), .idle, .idle, .idle, .idle, .idle, .idle, .idle, .idle, .idle, .idle, .idle, .val (.bool false), .val (.bool false)] (by kernel_rfl) (by kernel_rfl) (by kernel_rfl) ?_
        intro X
        iterate 13
          refine plan_val (by kernel_rfl) (fun u hu => ?_) ?_
          · obtain ⟨hc, hf, hz⟩ := hu.of_drew.facts
            go_simp
            all_goals first
              | (go_at_call 33; exact refSpot_any _ _ _ _ _ _ _)
              | (go_at_call 32; exact cS _)
          simp only [Act.put, List.setIfInBounds_toArray, List.set_cons_zero, List.set_cons_succ, Nat.reduceAdd]
        iterate 11
          refine plan_idle (by kernel_rfl) ?_
          simp only [Act.put, List.setIfInBounds_toArray, List.set_cons_zero, List.set_cons_succ, Nat.reduceAdd]
        iterate 2
          refine plan_val (by kernel_rfl) (fun u hu => ?_) ?_
          · obtain ⟨hc, hf, hz⟩ := hu.of_drew.facts
            go_simp
            all_goals first
              | (go_at_call 33; exact refSpot_any _ _ _ _ _ _ _)
              | (go_at_call 32; exact cS _)
          simp only [Act.put, List.setIfInBounds_toArray, List.set_cons_zero, List.set_cons_succ, Nat.reduceAdd]
        refine plan_end ?_
        intro w' hB
        have hk := hB.calm.of_drew
        clear hB cS
        go_wp2_with fail
        go_roundw
        case rel => exact ⟨k + 1, by omega, by go_num, hv1.call hk, hN1⟩
        case measure => simp [intOf]; omega
    simp only [Prod.mk.injEq] at hK
    obtain ⟨rfl, rfl, rfl⟩ := hK
    by_cases hg0 : 0 < g'
    rotate_left
    · have hF : ¬ Fol ⟨p', o', f', m', g', s'⟩ ⟨p', o', f', m, g, s⟩ := fun h => by have := ((hFA.1 h).2 rfl).1; omega
      have K : Hid (3 = runErr l) := by
        have h := HS.out
        rw [if_neg hF] at h
        exact h.symm.trans (runErr_at hLR.2.2.2 hLR.2.2.1 (by rw [h]; decide) hLR.2.1)
      clear hF HS
      have cS : ∀ u, Calls Try.prog 32 #[.agg #[.int .i64 p', .int .i64 o', .int .i64 f', .int .i64 m'], .agg #[.int .i64 p', .int .i64 o', .int .i64 f', .int .i64 m]] u fun e w' => e = .returned (.bool true) ∧ Calm u w' := fun u => by rw [← hA]; exact aheadSpot_any _ _ _ _ _ _ _ _ _
      clear hA hFA hg'
      refine wp_region_plan [.val (.agg #[.int .i64 p', .int .i64 o', .int .i64 f', .int .i64 m', .int .i64 g', .string s']), .val (.agg #[.int .i64 p', .int .i64 o', .int .i64 f', .int .i64 m']), .val (.agg #[.int .i64 p', .int .i64 o', .int .i64 f', .int .i64 m, .int .i64 g, .string s]), .val (.agg #[.int .i64 p', .int .i64 o', .int .i64 f', .int .i64 m]), .val (.bool true), .val (.bool false), .val (.bool false), .val (.pointer (some ⟨Y0, 0, none⟩)), .val (.agg #[.int .i64 p', .int .i64 o', .int .i64 f']), .val (.pointer (some ⟨X0, 0, none⟩)), .val (.agg #[.int .i64 p', .int .i64 o', .int .i64 f']), .val (.bool true), .val (.bool true), .val (.pointer (some ⟨Y0, 4, none⟩)), .val (.int .i64 g'), .val (.bool false), .val (.bool false), .idle, .idle, .idle, .idle, .idle, .val (.bool false), .val (.bool true), .val (.bool true), .val (.bool true)] (by kernel_rfl) (by kernel_rfl) (by kernel_rfl) ?_
      intro X
      iterate 17
        refine plan_val (by kernel_rfl) (fun u hu => ?_) ?_
        · obtain ⟨hc, hf, hz⟩ := hu.of_drew.facts
          go_simp
          all_goals first
            | (go_at_call 33; exact refSpot_any _ _ _ _ _ _ _)
            | (go_at_call 32; exact cS _)
        simp only [Act.put, List.setIfInBounds_toArray, List.set_cons_zero, List.set_cons_succ, Nat.reduceAdd]
      iterate 5
        refine plan_idle (by kernel_rfl) ?_
        simp only [Act.put, List.setIfInBounds_toArray, List.set_cons_zero, List.set_cons_succ, Nat.reduceAdd]
      iterate 4
        refine plan_val (by kernel_rfl) (fun u hu => ?_) ?_
        · obtain ⟨hc, hf, hz⟩ := hu.of_drew.facts
          go_simp
          all_goals first
            | (go_at_call 33; exact refSpot_any _ _ _ _ _ _ _)
            | (go_at_call 32; exact cS _)
        simp only [Act.put, List.setIfInBounds_toArray, List.set_cons_zero, List.set_cons_succ, Nat.reduceAdd]
      refine plan_end ?_
      intro w' hB
      have hk := hB.calm.of_drew
      clear hB cS
      go_wp2_with fail
      go_ret
      exact ⟨ret_int K.out, hv1.call hk⟩
    by_cases hgm : g' ≤ m
    · have hF : Fol ⟨p', o', f', m', g', s'⟩ ⟨p', o', f', m, g, s⟩ := hFA.2 ⟨hA, fun _ => ⟨by omega, hgm⟩⟩
      have hN1 : NoErr l (k + 1) := fun j hj => by
        rcases Nat.lt_or_ge j k with h | h
        · exact hN j h
        · rw [show j = k by omega]; have h := HS.out; rw [if_pos hF] at h; exact h
      clear hF HS
      have cS : ∀ u, Calls Try.prog 32 #[.agg #[.int .i64 p', .int .i64 o', .int .i64 f', .int .i64 m'], .agg #[.int .i64 p', .int .i64 o', .int .i64 f', .int .i64 m]] u fun e w' => e = .returned (.bool true) ∧ Calm u w' := fun u => by rw [← hA]; exact aheadSpot_any _ _ _ _ _ _ _ _ _
      clear hA hFA hg'
      refine wp_region_plan [.val (.agg #[.int .i64 p', .int .i64 o', .int .i64 f', .int .i64 m', .int .i64 g', .string s']), .val (.agg #[.int .i64 p', .int .i64 o', .int .i64 f', .int .i64 m']), .val (.agg #[.int .i64 p', .int .i64 o', .int .i64 f', .int .i64 m, .int .i64 g, .string s]), .val (.agg #[.int .i64 p', .int .i64 o', .int .i64 f', .int .i64 m]), .val (.bool true), .val (.bool false), .val (.bool false), .val (.pointer (some ⟨Y0, 0, none⟩)), .val (.agg #[.int .i64 p', .int .i64 o', .int .i64 f']), .val (.pointer (some ⟨X0, 0, none⟩)), .val (.agg #[.int .i64 p', .int .i64 o', .int .i64 f']), .val (.bool true), .val (.bool true), .val (.pointer (some ⟨Y0, 4, none⟩)), .val (.int .i64 g'), .val (.bool true), .val (.bool true), .val (.pointer (some ⟨Y0, 4, none⟩)), .val (.int .i64 g'), .val (.pointer (some ⟨X0, 3, none⟩)), .val (.int .i64 m), .val (.bool true), .val (.bool true), .val (.bool false), .val (.bool false), .val (.bool false)] (by kernel_rfl) (by kernel_rfl) (by kernel_rfl) ?_
      intro X
      iterate 26
        refine plan_val (by kernel_rfl) (fun u hu => ?_) ?_
        · obtain ⟨hc, hf, hz⟩ := hu.of_drew.facts
          go_simp
          all_goals first
            | (go_at_call 33; exact refSpot_any _ _ _ _ _ _ _)
            | (go_at_call 32; exact cS _)
        simp only [Act.put, List.setIfInBounds_toArray, List.set_cons_zero, List.set_cons_succ, Nat.reduceAdd]
      refine plan_end ?_
      intro w' hB
      have hk := hB.calm.of_drew
      clear hB cS
      go_wp2_with fail
      go_roundw
      case rel => exact ⟨k + 1, by omega, by go_num, hv1.call hk, hN1⟩
      case measure => simp [intOf]; omega
    · have hF : ¬ Fol ⟨p', o', f', m', g', s'⟩ ⟨p', o', f', m, g, s⟩ := fun h => by have := ((hFA.1 h).2 rfl).2; omega
      have K : Hid (3 = runErr l) := by
        have h := HS.out
        rw [if_neg hF] at h
        exact h.symm.trans (runErr_at hLR.2.2.2 hLR.2.2.1 (by rw [h]; decide) hLR.2.1)
      clear hF HS
      have cS : ∀ u, Calls Try.prog 32 #[.agg #[.int .i64 p', .int .i64 o', .int .i64 f', .int .i64 m'], .agg #[.int .i64 p', .int .i64 o', .int .i64 f', .int .i64 m]] u fun e w' => e = .returned (.bool true) ∧ Calm u w' := fun u => by rw [← hA]; exact aheadSpot_any _ _ _ _ _ _ _ _ _
      clear hA hFA hg'
      refine wp_region_plan [.val (.agg #[.int .i64 p', .int .i64 o', .int .i64 f', .int .i64 m', .int .i64 g', .string s']), .val (.agg #[.int .i64 p', .int .i64 o', .int .i64 f', .int .i64 m']), .val (.agg #[.int .i64 p', .int .i64 o', .int .i64 f', .int .i64 m, .int .i64 g, .string s]), .val (.agg #[.int .i64 p', .int .i64 o', .int .i64 f', .int .i64 m]), .val (.bool true), .val (.bool false), .val (.bool false), .val (.pointer (some ⟨Y0, 0, none⟩)), .val (.agg #[.int .i64 p', .int .i64 o', .int .i64 f']), .val (.pointer (some ⟨X0, 0, none⟩)), .val (.agg #[.int .i64 p', .int .i64 o', .int .i64 f']), .val (.bool true), .val (.bool true), .val (.pointer (some ⟨Y0, 4, none⟩)), .val (.int .i64 g'), .val (.bool true), .val (.bool true), .val (.pointer (some ⟨Y0, 4, none⟩)), .val (.int .i64 g'), .val (.pointer (some ⟨X0, 3, none⟩)), .val (.int .i64 m), .val (.bool false), .val (.bool false), .val (.bool true), .val (.bool true), .val (.bool true)] (by kernel_rfl) (by kernel_rfl) (by kernel_rfl) ?_
      intro X
      iterate 26
        refine plan_val (by kernel_rfl) (fun u hu => ?_) ?_
        · obtain ⟨hc, hf, hz⟩ := hu.of_drew.facts
          go_simp
          all_goals first
            | (go_at_call 33; exact refSpot_any _ _ _ _ _ _ _)
            | (go_at_call 32; exact cS _)
        simp only [Act.put, List.setIfInBounds_toArray, List.set_cons_zero, List.set_cons_succ, Nat.reduceAdd]
      refine plan_end ?_
      intro w' hB
      have hk := hB.calm.of_drew
      clear hB cS
      go_wp2_with fail
      go_ret
      exact ⟨ret_int K.out, hv1.call hk⟩
def fstAt (l : List El) (k : Nat) (e : El) : Bool := match (if k = 0 then none else l[k - 1]?) with | none => true | some q => decide (q.key ≠ e.key)
def stepB (l : List El) (a b : Int) (k : Nat) (e : El) : List Chg := if fstAt l k e = true ∧ stA l e.key a ≠ stA l e.key b then [mkC e.key (stA l e.key a) (stA l e.key b)] else []
def bst (l : List El) (a b : Int) : Nat → List Chg
 | 0 => []
 |k + 1 => bst l a b k ++ (match l[k]? with | none => [] | some e => stepB l a b k e)
theorem bst_step {l : List El} {a b : Int} {k : Nat} {e : El} (h : l[k]? = some e) : bst l a b (k + 1) = bst l a b k ++ stepB l a b k e := by rw [bst, h]
theorem bst_mem {l : List El} {a b : Int} {x : Chg} : ∀ {n : Nat}, x ∈ bst l a b n ↔ ∃ k e, k < n ∧ l[k]? = some e ∧ x ∈ stepB l a b k e
 | 0 => by simp [bst]
 |n + 1 => by
  rw [bst, List.mem_append, bst_mem (n := n)]
  constructor
  ·rintro (⟨k, e, h1, h2, h3⟩ | h)
   ·exact ⟨k, e, by omega, h2, h3⟩
   ·cases hl : l[n]? with
    |none => rw [hl] at h; simp at h
    |some e => rw [hl] at h; exact ⟨n, e, by omega, hl, h⟩
  ·rintro ⟨k, e, h1, h2, h3⟩
   by_cases hk : k = n
   ·subst hk; right; rw [h2]; exact h3
   ·exact .inl ⟨k, e, by omega, h2, h3⟩
theorem stepB_mem {l : List El} {a b : Int} {k : Nat} {e : El} {x : Chg} : x ∈ stepB l a b k e ↔ fstAt l k e = true ∧ stA l e.key a ≠ stA l e.key b ∧ x = mkC e.key (stA l e.key a) (stA l e.key b) := by
 unfold stepB
 split
 ·rename_i h; simp [h.1, h.2]
 ·rename_i h; simp; intro h1 h2; exact absurd ⟨h1, h2⟩ h
theorem fst_lt {l : List El} (hG : Good l) {j k : Nat} {d e : El} (hj : l[j]? = some d) (hk : l[k]? = some e) (h : j < k) (hf : fstAt l k e = true) : kLt d.key e.key := by
 obtain ⟨hj1, rfl⟩ := List.getElem?_eq_some_iff.1 hj
 obtain ⟨hk1, rfl⟩ := List.getElem?_eq_some_iff.1 hk
 unfold fstAt at hf
 rw [if_neg (by omega), List.getElem?_eq_getElem (by omega)] at hf
 simp only [decide_eq_true_eq] at hf
 have hP := List.pairwise_iff_getElem.1 hG.2.2
 have h1 : kLt l[k - 1].key l[k].key := by
  rcases (hP (k - 1) k (by omega) hk1 (by omega)).1 with h1 | ⟨h1, _⟩
  ·exact h1
  ·exact absurd h1 hf
 by_cases hjk : j = k - 1
 ·subst hjk; exact h1
 ·rcases (hP j (k - 1) hj1 (by omega) (by omega)).1 with h2 | ⟨h2, _⟩
  ·exact kLt_trans h2 h1
  ·rw [h2]; exact h1
theorem bst_ks {l : List El} (hG : Good l) (a b : Int) : ∀ n, KS (bst l a b n)
 | 0 => List.Pairwise.nil
 |n + 1 => by
  rw [bst]
  unfold KS
  rw [List.pairwise_append]
  refine ⟨bst_ks hG a b n, ?_, ?_⟩
  ·cases l[n]? with
   |none => exact List.Pairwise.nil
   |some e => show (stepB l a b n e).Pairwise _; unfold stepB; split; exact List.pairwise_singleton _ _; exact List.Pairwise.nil
  ·intro x hx y hy
   obtain ⟨k, d, h1, h2, h3⟩ := bst_mem.1 hx
   cases hl : l[n]? with
   |none => rw [hl] at hy; simp at hy
   |some e =>
    rw [hl] at hy
    obtain ⟨_, _, rfl⟩ := stepB_mem.1 h3
    obtain ⟨q1, _, rfl⟩ := stepB_mem.1 hy
    exact fst_lt hG h2 hl h1 q1
theorem bst_bet {l : List El} (hG : Good l) (a b : Int) : bst l a b l.length = betL l a b := by
 refine sorted_ext (r := fun (a b : Chg) => kLt a.key b.key) (fun _ => kLt_irrefl _) (fun _ _ h => kLt_asymm h) (bst_ks hG a b _) (bet_ks hG a b) fun x => ⟨fun hx => ?_, fun hx => ?_⟩
 ·obtain ⟨k, e, _, _, h3⟩ := bst_mem.1 hx
  obtain ⟨_, q2, rfl⟩ := stepB_mem.1 h3
  have := bet_at hG a b e.key
  rw [if_neg q2] at this
  exact (fnd_key this).2
 ·have h1 := fnd_mem (bet_ks hG a b) hx
  rw [bet_at hG] at h1
  split at h1
  ·cases h1
  rename_i hne
  injection h1 with h1
  have hex : ∃ e ∈ l, e.key = x.key := by
   refine Decidable.by_contra fun h => hne ?_
   have hno : ∀ t, stA l x.key t = noS := fun t => by
    unfold stA sV
    rw [atR_none.2 fun e he => by unfold isAt; rw [decide_eq_false_iff_not]; exact fun q => h ⟨e, he, q.1⟩]
    rfl
   rw [hno, hno]
  obtain ⟨e0, he0, hk0⟩ := hex
  obtain ⟨i, hlt, hki, hmin⟩ : ∃ i, ∃ hlt : i < l.length, l[i].key = x.key ∧ ∀ j (h : j < l.length), j < i → l[j].key ≠ x.key := by
   have hlt : l.findIdx (fun e => decide (e.key = x.key)) < l.length := List.findIdx_lt_length_of_exists ⟨e0, he0, by simpa using hk0⟩
   refine ⟨_, hlt, by simpa using List.findIdx_getElem (w := hlt), fun j h hj => ?_⟩
   have := List.not_of_lt_findIdx hj
   simpa using this
  refine bst_mem.2 ⟨i, l[i], hlt, List.getElem?_eq_getElem hlt, stepB_mem.2 ⟨?_, by rw [hki]; exact hne, by rw [hki]; exact h1.symm⟩⟩
  unfold fstAt
  by_cases h0 : i = 0
  ·rw [if_pos h0]
  ·rw [if_neg h0, List.getElem?_eq_getElem (by omega)]
   simp only [decide_eq_true_eq]
   rw [hki]; exact hmin (i - 1) (by omega) (by omega)
theorem bst_len (l : List El) (a b : Int) : ∀ n, (bst l a b n).length ≤ n
 | 0 => Nat.le_refl _
 |n + 1 => by
  rw [bst, List.length_append]
  have h1 := bst_len l a b n
  have h2 : (match l[n]? with | none => ([] : List Chg) | some e => stepB l a b n e).length ≤ 1 := by
   cases l[n]? with
   |none => simp
   |some e => show (stepB l a b n e).length ≤ 1; unfold stepB; split <;> simp
  omega
end Go.Proofs.Ythfjanmihfbjoaa
