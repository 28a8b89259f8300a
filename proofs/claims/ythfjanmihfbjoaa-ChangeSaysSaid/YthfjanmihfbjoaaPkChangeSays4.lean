/- Texts of one kind in one file. -/
import Derived.Test.YthfjanmihfbjoaaPkChangeSays3
set_option maxRecDepth 100000
namespace Go.Proofs.Ythfjanmihfbjoaa
open Go.ChangeShapes Go.WideShapes Go.ChangeAt Go.RowKit
theorem heap_two (w : World) (o1 o2 : Obj) : ((w.alloc o1).alloc o2).heap[w.heap.size + 1]? = some o2 := by simpa using heap_new (w.alloc o1) o2
theorem st_at (l : List El) (k : Int × Int × Int) (t : Int) : stA l k t = ⟨(atR l k t).isSome, ((atR l k t).getD zeroEl).s⟩ := by
 unfold stA sV
 cases atR l k t <;> rfl
theorem fst_pos {l : List El} {k : Nat} {e q : El} (hk : 0 < k) (hq : l[k - 1]? = some q) : fstAt l k e = decide (q.key ≠ e.key) := by
 unfold fstAt; rw [if_neg (by omega), hq]
theorem step_no {l : List El} {a b : Int} {k : Nat} {e : El} (h : fstAt l k e = false) : stepB l a b k e = [] := by unfold stepB; rw [if_neg (by rw [h]; simp)]
theorem step_eq {l : List El} {a b : Int} {k : Nat} {e : El} (h : stA l e.key a = stA l e.key b) : stepB l a b k e = [] := by unfold stepB; rw [if_neg fun x => x.2 h]
theorem step_ne {l : List El} {a b : Int} {k : Nat} {e : El} (h1 : fstAt l k e = true) (h : stA l e.key a ≠ stA l e.key b) : stepB l a b k e = [mkC e.key (stA l e.key a) (stA l e.key b)] := by unfold stepB; rw [if_pos ⟨h1, h⟩]
set_option maxHeartbeats 32000000 in
theorem refBet_any (A : Option Addr) (c : Nat) (l : List El) (a b : Int) (w : World) (hG : Good l) (hL : Lies w A l) :
    Calls Try.prog 15 #[.slice A l.length c, .int .i64 a, .int .i64 b] w (CgEnd (bst l a b l.length) w) := by
  have hl4 := Lib.hid hG.1
  have hn : l.length ≤ 9223372036854775807 := by have := hG.1; omega
  clear hG
  go_enter Try.func15, Try.ntmps15
  go_wp2_with fail
  go_loopw [7, 16] (fun v i wr => ∃ k : Nat, k ≤ l.length ∧ i = .int .i64 k ∧ Calm w wr ∧ Hid (OwnC w.heap.size wr v (bst l a b k))) (fun _ i _ => l.length - (intOf i).toNat)
  case atStart => exact ⟨0, Nat.zero_le _, rfl, Calm.refl _, show OwnG _ _ _ _ _ _ _ from OwnG.nil _ _ _ _ _⟩
  case round =>
    obtain ⟨k, hk, rfl, hv, HT⟩ := hrel
    by_cases hlt : k < l.length
    rotate_left
    · have hkl : k = l.length := by omega
      rw [hkl] at HT
      clear hkl
      go_wp2_with fail
      go_ret
      exact ⟨_, rfl, HT.out, hv⟩
    obtain ⟨b1, q1, p, o, f, m, g, s, rfl, hb, HE, hm, c0, c1, c2, c3, c4, c5⟩ := (hL.calm hv).get hlt
    have hF := bst_step (a := a) (b := b) HE.out
    have hl1 : ((bst l a b k).length + 1) * 64 ≤ 140737488355328 := by
      have := hl4.out; have := bst_len l a b k; omega
    have hsA : stA l (El.key ⟨p, o, f, m, g, s⟩) a = _ := st_at l (p, o, f) a
    have hsB : stA l (El.key ⟨p, o, f, m, g, s⟩) b = _ := st_at l (p, o, f) b
    have cA := fun u (hu : Calm w u) => refAt_any (some ⟨b1, q1, none⟩) c l p o f a u hn (hL.calm hu)
    have cB := fun u (hu : Calm w u) => refAt_any (some ⟨b1, q1, none⟩) c l p o f b u hn (hL.calm hu)
    unfold RefAtEnd El.val at cA cB
    generalize (atR l (p, o, f) a).isSome = i1 at cA hsA
    generalize (atR l (p, o, f) a).getD zeroEl = V1 at cA hsA
    generalize (atR l (p, o, f) b).isSome = i2 at cB hsB
    generalize (atR l (p, o, f) b).getD zeroEl = V2 at cB hsB
    obtain ⟨u1, u2, u3, u4, u5, s1⟩ := V1
    obtain ⟨v1, v2, v3, v4, v5, s2⟩ := V2
    simp only at cA cB hsA hsB
    generalize bst l a b k = M at HT hF hl1
    have hl1 := Lib.hid hl1
    have hF := Lib.hid hF
    obtain ⟨AM, cM, rfl, -, -, -⟩ := chg_own HT.out
    have hv1 := hv.alloc (.cells #[.int .i64 p, .int .i64 o, .int .i64 f, .int .i64 m, .int .i64 g, .string s] 43 (0, 0))
    have HT2 := Lib.hid (HT.out.calm ((Calm.refl wr).alloc (.cells #[.int .i64 p, .int .i64 o, .int .i64 f, .int .i64 m, .int .i64 g, .string s] 43 (0, 0))))
    have HX := Lib.hid (heap_new wr (.cells #[.int .i64 p, .int .i64 o, .int .i64 f, .int .i64 m, .int .i64 g, .string s] 43 (0, 0)))
    clear HT
    by_cases hk0 : k = 0
    · have hfst : fstAt l k ⟨p, o, f, m, g, s⟩ = true := by rw [hk0]; rfl
      have hk1 : ¬ 0 < k := by omega
      clear hk0
      by_cases hsame : stA l (El.key ⟨p, o, f, m, g, s⟩) a = stA l (El.key ⟨p, o, f, m, g, s⟩) b
      · have HFF : Hid (bst l a b (k + 1) = M) := show _ = _ from by rw [hF.out, step_eq hsame, List.append_nil]
        rw [hsA, hsB] at hsame
        obtain ⟨rfl, rfl⟩ := St.ext_iff'.1 hsame
        clear hsame hsA hsB hF hfst HE
        go_upto_region 5 with fail
        generalize hW : wr.alloc (.cells #[.int .i64 p, .int .i64 o, .int .i64 f, .int .i64 m, .int .i64 g, .string s] 43 (0, 0)) = w2 at hv1 HT2 HX ⊢
        clear hW
        obtain ⟨x0, x1, x2, x3, x4, x5, hgs⟩ := row6 HX.out
        skip
        refine wp_region_plan [.val (.int .i64 ((k : Int))), .val (.bool false), .val (.bool false), .idle, .idle, .idle, .idle, .idle, .idle, .idle, .idle, .idle, .val (.bool false)] (by kernel_rfl) (by kernel_rfl) (by kernel_rfl) ?_
        intro X
        iterate 3
          refine plan_val (by kernel_rfl) (fun u hu => ?_) ?_
          · obtain ⟨hc, hf, hz⟩ := hu.of_drew.facts
            go_simp
          simp only [Act.put, List.setIfInBounds_toArray, List.set_cons_zero, List.set_cons_succ, Nat.reduceAdd]
        iterate 9
          refine plan_idle (by kernel_rfl) ?_
          simp only [Act.put, List.setIfInBounds_toArray, List.set_cons_zero, List.set_cons_succ, Nat.reduceAdd]
        iterate 1
          refine plan_val (by kernel_rfl) (fun u hu => ?_) ?_
          · obtain ⟨hc, hf, hz⟩ := hu.of_drew.facts
            go_simp
          simp only [Act.put, List.setIfInBounds_toArray, List.set_cons_zero, List.set_cons_succ, Nat.reduceAdd]
        refine plan_end ?_
        intro w' hB
        have hk := hB.calm.of_drew
        clear hB
        obtain ⟨x0, x1, x2, x3, x4, x5, hxs⟩ := row6 ((hk.block hgs).trans HX.out)
        replace HX := Lib.hid ((hk.block hgs).trans HX.out)
        replace HT2 := Lib.hid (HT2.out.calm hk)
        replace hv1 := hv1.call hk
        clear hk hgs
        go_wp2_with (first
          | (go_at_call 34; (with_reducible refine (cA _ hv1).mono ?_); rintro e w7 ⟨rfl, hb⟩; obtain ⟨x0, x1, x2, x3, x4, x5, hxs⟩ := row6 ((hb.block hxs).trans HX.out); replace HX := Lib.hid ((hb.block (row6 HX.out).2.2.2.2.2.2).trans HX.out); have HY := Lib.hid (heap_new w7 (.cells #[.int .i64 u1, .int .i64 u2, .int .i64 u3, .int .i64 u4, .int .i64 u5, .string s1] 43 (0, 0))); replace HT2 := Lib.hid ((HT2.out.calm hb).calm ((Calm.refl _).alloc (.cells #[.int .i64 u1, .int .i64 u2, .int .i64 u3, .int .i64 u4, .int .i64 u5, .string s1] 43 (0, 0)))); have hv3 := (hv1.call hb).alloc (.cells #[.int .i64 u1, .int .i64 u2, .int .i64 u3, .int .i64 u4, .int .i64 u5, .string s1] 43 (0, 0)); have hxs7 : wr.heap.size < w7.heap.size := hxs; clear hb cA hv1)
          | (go_at_call 34; (with_reducible refine (cB _ hv3).mono ?_); rintro e w8 ⟨rfl, hb⟩; obtain ⟨x0, x1, x2, x3, x4, x5, hxs⟩ := row6 ((hb.block (Nat.lt_of_lt_of_le hxs (by simp))).trans (heap_past (.cells #[.int .i64 u1, .int .i64 u2, .int .i64 u3, .int .i64 u4, .int .i64 u5, .string s1] 43 (0, 0)) HX.out)); obtain ⟨y0, y1, y2, y3, y4, y5, hys⟩ := row6 ((hb.block (row6 HY.out).2.2.2.2.2.2).trans HY.out); replace HT2 := Lib.hid ((HT2.out.calm hb).calm ((Calm.refl _).alloc (.cells #[.int .i64 v1, .int .i64 v2, .int .i64 v3, .int .i64 v4, .int .i64 v5, .string s1] 43 (0, 0)))); have hv5 := (hv3.call hb).alloc (.cells #[.int .i64 v1, .int .i64 v2, .int .i64 v3, .int .i64 v4, .int .i64 v5, .string s1] 43 (0, 0)); clear hb cB HY HX))
        go_roundw
        case rel => exact ⟨k + 1, by omega, by go_num, hv5, show OwnG _ _ _ _ _ _ _ from by rw [HFF.out]; exact HT2.out⟩
        case measure => simp [intOf]; omega
      have HFF : Hid (bst l a b (k + 1) = M ++ [⟨p, o, f, i1, i2, s1, s2⟩]) := show _ = _ from by
        rw [hF.out, step_ne hfst hsame, hsA, hsB]; rfl
      rw [hsA, hsB] at hsame
      clear hsA hsB hF hfst HE
      by_cases hi : i1 = i2
      · subst hi
        have e1 := str_ne fun h => hsame (St.ext_iff'.2 ⟨rfl, h⟩)
        clear hsame
        go_upto_region 5 with fail
        generalize hW : wr.alloc (.cells #[.int .i64 p, .int .i64 o, .int .i64 f, .int .i64 m, .int .i64 g, .string s] 43 (0, 0)) = w2 at hv1 HT2 HX ⊢
        clear hW
        obtain ⟨x0, x1, x2, x3, x4, x5, hgs⟩ := row6 HX.out
        skip
        refine wp_region_plan [.val (.int .i64 ((k : Int))), .val (.bool false), .val (.bool false), .idle, .idle, .idle, .idle, .idle, .idle, .idle, .idle, .idle, .val (.bool false)] (by kernel_rfl) (by kernel_rfl) (by kernel_rfl) ?_
        intro X
        iterate 3
          refine plan_val (by kernel_rfl) (fun u hu => ?_) ?_
          · obtain ⟨hc, hf, hz⟩ := hu.of_drew.facts
            go_simp
          simp only [Act.put, List.setIfInBounds_toArray, List.set_cons_zero, List.set_cons_succ, Nat.reduceAdd]
        iterate 9
          refine plan_idle (by kernel_rfl) ?_
          simp only [Act.put, List.setIfInBounds_toArray, List.set_cons_zero, List.set_cons_succ, Nat.reduceAdd]
        iterate 1
          refine plan_val (by kernel_rfl) (fun u hu => ?_) ?_
          · obtain ⟨hc, hf, hz⟩ := hu.of_drew.facts
            go_simp
          simp only [Act.put, List.setIfInBounds_toArray, List.set_cons_zero, List.set_cons_succ, Nat.reduceAdd]
        refine plan_end ?_
        intro w' hB
        have hk := hB.calm.of_drew
        clear hB
        obtain ⟨x0, x1, x2, x3, x4, x5, hxs⟩ := row6 ((hk.block hgs).trans HX.out)
        replace HX := Lib.hid ((hk.block hgs).trans HX.out)
        replace HT2 := Lib.hid (HT2.out.calm hk)
        replace hv1 := hv1.call hk
        clear hk hgs
        go_wp2_with (first
          | (go_at_call 34; (with_reducible refine (cA _ hv1).mono ?_); rintro e w7 ⟨rfl, hb⟩; obtain ⟨x0, x1, x2, x3, x4, x5, hxs⟩ := row6 ((hb.block hxs).trans HX.out); replace HX := Lib.hid ((hb.block (row6 HX.out).2.2.2.2.2.2).trans HX.out); have HY := Lib.hid (heap_new w7 (.cells #[.int .i64 u1, .int .i64 u2, .int .i64 u3, .int .i64 u4, .int .i64 u5, .string s1] 43 (0, 0))); replace HT2 := Lib.hid ((HT2.out.calm hb).calm ((Calm.refl _).alloc (.cells #[.int .i64 u1, .int .i64 u2, .int .i64 u3, .int .i64 u4, .int .i64 u5, .string s1] 43 (0, 0)))); have hv3 := (hv1.call hb).alloc (.cells #[.int .i64 u1, .int .i64 u2, .int .i64 u3, .int .i64 u4, .int .i64 u5, .string s1] 43 (0, 0)); have hxs7 : wr.heap.size < w7.heap.size := hxs; clear hb cA hv1)
          | (go_at_call 34; (with_reducible refine (cB _ hv3).mono ?_); rintro e w8 ⟨rfl, hb⟩; obtain ⟨x0, x1, x2, x3, x4, x5, hxs⟩ := row6 ((hb.block (Nat.lt_of_lt_of_le hxs (by simp))).trans (heap_past (.cells #[.int .i64 u1, .int .i64 u2, .int .i64 u3, .int .i64 u4, .int .i64 u5, .string s1] 43 (0, 0)) HX.out)); obtain ⟨y0, y1, y2, y3, y4, y5, hys⟩ := row6 ((hb.block (row6 HY.out).2.2.2.2.2.2).trans HY.out); replace HT2 := Lib.hid ((HT2.out.calm hb).calm ((Calm.refl _).alloc (.cells #[.int .i64 v1, .int .i64 v2, .int .i64 v3, .int .i64 v4, .int .i64 v5, .string s2] 43 (0, 0)))); have hv5 := (hv3.call hb).alloc (.cells #[.int .i64 v1, .int .i64 v2, .int .i64 v3, .int .i64 v4, .int .i64 v5, .string s2] 43 (0, 0)); clear hb cB HY HX)
          | (at_builtin; refine wpList_append_chg rfl _ _ rfl w.heap.size _ _ rfl (HT2.out.calm ((Calm.refl _).alloc (.cells #[.int .i64 p, .int .i64 o, .int .i64 f, .bool i1, .bool i1, .string s1, .string s2] 33 (0, 0)))) _ _ ⟨p, o, f, i1, i1, s1, s2⟩ _ rfl (heap_two _ _ _) hl1.out (hv5.alloc (.cells #[.int .i64 p, .int .i64 o, .int .i64 f, .bool i1, .bool i1, .string s1, .string s2] 33 (0, 0))).size ?_; intro v' w9 ho9 hk9; have HT9 := Lib.hid ho9; have hv9 := hk9 w (Nat.le_refl _) (hv5.alloc (.cells #[.int .i64 p, .int .i64 o, .int .i64 f, .bool i1, .bool i1, .string s1, .string s2] 33 (0, 0))); clear ho9 hk9))
        go_roundw
        case rel => exact ⟨k + 1, by omega, by go_num, hv9, show OwnG _ _ _ _ _ _ _ from by rw [HFF.out]; exact HT9.out⟩
        case measure => simp [intOf]; omega
      · have e1 : (i1 == i2) = false := by simpa using hi
        clear hsame hi
        go_upto_region 5 with fail
        generalize hW : wr.alloc (.cells #[.int .i64 p, .int .i64 o, .int .i64 f, .int .i64 m, .int .i64 g, .string s] 43 (0, 0)) = w2 at hv1 HT2 HX ⊢
        clear hW
        obtain ⟨x0, x1, x2, x3, x4, x5, hgs⟩ := row6 HX.out
        skip
        refine wp_region_plan [.val (.int .i64 ((k : Int))), .val (.bool false), .val (.bool false), .idle, .idle, .idle, .idle, .idle, .idle, .idle, .idle, .idle, .val (.bool false)] (by kernel_rfl) (by kernel_rfl) (by kernel_rfl) ?_
        intro X
        iterate 3
          refine plan_val (by kernel_rfl) (fun u hu => ?_) ?_
          · obtain ⟨hc, hf, hz⟩ := hu.of_drew.facts
            go_simp
          simp only [Act.put, List.setIfInBounds_toArray, List.set_cons_zero, List.set_cons_succ, Nat.reduceAdd]
        iterate 9
          refine plan_idle (by kernel_rfl) ?_
          simp only [Act.put, List.setIfInBounds_toArray, List.set_cons_zero, List.set_cons_succ, Nat.reduceAdd]
        iterate 1
          refine plan_val (by kernel_rfl) (fun u hu => ?_) ?_
          · obtain ⟨hc, hf, hz⟩ := hu.of_drew.facts
            go_simp
          simp only [Act.put, List.setIfInBounds_toArray, List.set_cons_zero, List.set_cons_succ, Nat.reduceAdd]
        refine plan_end ?_
        intro w' hB
        have hk := hB.calm.of_drew
        clear hB
        obtain ⟨x0, x1, x2, x3, x4, x5, hxs⟩ := row6 ((hk.block hgs).trans HX.out)
        replace HX := Lib.hid ((hk.block hgs).trans HX.out)
        replace HT2 := Lib.hid (HT2.out.calm hk)
        replace hv1 := hv1.call hk
        clear hk hgs
        go_wp2_with (first
          | (go_at_call 34; (with_reducible refine (cA _ hv1).mono ?_); rintro e w7 ⟨rfl, hb⟩; obtain ⟨x0, x1, x2, x3, x4, x5, hxs⟩ := row6 ((hb.block hxs).trans HX.out); replace HX := Lib.hid ((hb.block (row6 HX.out).2.2.2.2.2.2).trans HX.out); have HY := Lib.hid (heap_new w7 (.cells #[.int .i64 u1, .int .i64 u2, .int .i64 u3, .int .i64 u4, .int .i64 u5, .string s1] 43 (0, 0))); replace HT2 := Lib.hid ((HT2.out.calm hb).calm ((Calm.refl _).alloc (.cells #[.int .i64 u1, .int .i64 u2, .int .i64 u3, .int .i64 u4, .int .i64 u5, .string s1] 43 (0, 0)))); have hv3 := (hv1.call hb).alloc (.cells #[.int .i64 u1, .int .i64 u2, .int .i64 u3, .int .i64 u4, .int .i64 u5, .string s1] 43 (0, 0)); have hxs7 : wr.heap.size < w7.heap.size := hxs; clear hb cA hv1)
          | (go_at_call 34; (with_reducible refine (cB _ hv3).mono ?_); rintro e w8 ⟨rfl, hb⟩; obtain ⟨x0, x1, x2, x3, x4, x5, hxs⟩ := row6 ((hb.block (Nat.lt_of_lt_of_le hxs (by simp))).trans (heap_past (.cells #[.int .i64 u1, .int .i64 u2, .int .i64 u3, .int .i64 u4, .int .i64 u5, .string s1] 43 (0, 0)) HX.out)); obtain ⟨y0, y1, y2, y3, y4, y5, hys⟩ := row6 ((hb.block (row6 HY.out).2.2.2.2.2.2).trans HY.out); replace HT2 := Lib.hid ((HT2.out.calm hb).calm ((Calm.refl _).alloc (.cells #[.int .i64 v1, .int .i64 v2, .int .i64 v3, .int .i64 v4, .int .i64 v5, .string s2] 43 (0, 0)))); have hv5 := (hv3.call hb).alloc (.cells #[.int .i64 v1, .int .i64 v2, .int .i64 v3, .int .i64 v4, .int .i64 v5, .string s2] 43 (0, 0)); clear hb cB HY HX)
          | (at_builtin; refine wpList_append_chg rfl _ _ rfl w.heap.size _ _ rfl (HT2.out.calm ((Calm.refl _).alloc (.cells #[.int .i64 p, .int .i64 o, .int .i64 f, .bool i1, .bool i2, .string s1, .string s2] 33 (0, 0)))) _ _ ⟨p, o, f, i1, i2, s1, s2⟩ _ rfl (heap_two _ _ _) hl1.out (hv5.alloc (.cells #[.int .i64 p, .int .i64 o, .int .i64 f, .bool i1, .bool i2, .string s1, .string s2] 33 (0, 0))).size ?_; intro v' w9 ho9 hk9; have HT9 := Lib.hid ho9; have hv9 := hk9 w (Nat.le_refl _) (hv5.alloc (.cells #[.int .i64 p, .int .i64 o, .int .i64 f, .bool i1, .bool i2, .string s1, .string s2] 33 (0, 0))); clear ho9 hk9))
        go_roundw
        case rel => exact ⟨k + 1, by omega, by go_num, hv9, show OwnG _ _ _ _ _ _ _ from by rw [HFF.out]; exact HT9.out⟩
        case measure => simp [intOf]; omega
    obtain ⟨p', o', f', m', g', s', HE', hm', d0, d1, d2, d3, d4, d5⟩ := (hL.calm hv).get2 (k := k - 1) (by omega)
    have hfd := fst_pos (e := ⟨p, o, f, m, g, s⟩) (by omega : 0 < k) HE'.out
    clear d3 d4 d5 HE' hm hm'
    have hwb := (Calm.refl wr).alloc (.cells #[.int .i64 p, .int .i64 o, .int .i64 f, .int .i64 m, .int .i64 g, .string s] 43 (0, 0))
    have hvc := hwb.facts.1
    replace d0 := (hvc _ _ hb).trans d0
    replace d1 := (hvc _ _ hb).trans d1
    replace d2 := (hvc _ _ hb).trans d2
    clear hvc hwb
    have hd := Lib.hid (And.intro d0 (And.intro d1 (And.intro d2 (show b1 < (wr.alloc (.cells #[.int .i64 p, .int .i64 o, .int .i64 f, .int .i64 m, .int .i64 g, .string s] 43 (0, 0))).heap.size from Nat.lt_of_lt_of_le hb (by simp)))))
    clear d0 d1 d2
    by_cases hsk : (p', o', f') = (p, o, f)
    · have hfst : fstAt l k ⟨p, o, f, m, g, s⟩ = false := by rw [hfd]; simpa [El.key] using hsk
      have HFF : Hid (bst l a b (k + 1) = M) := show _ = _ from by rw [hF.out, step_no hfst, List.append_nil]
      obtain ⟨rfl, rfl, rfl⟩ : p' = p ∧ o' = o ∧ f' = f := by simpa using hsk
      clear hfst hfd hsk hF hsA hsB cA cB HE hl1
      go_upto_region 5 with fail
      generalize hW : wr.alloc (.cells #[.int .i64 p', .int .i64 o', .int .i64 f', .int .i64 m, .int .i64 g, .string s] 43 (0, 0)) = w2 at hv1 HT2 HX hd ⊢
      clear hW
      obtain ⟨x0, x1, x2, x3, x4, x5, hgs⟩ := row6 HX.out
      obtain ⟨d0, d1, d2, hbw⟩ := hd.out
      have z0 : 0 < k := by omega
      have z1 : IntKind.i64.wrap ((k : Int) - 1) = (k : Int) - 1 := IntWalk.i64_in _ (by omega)
      have z2 : ((k : Int) - 1).toNat = k - 1 := by omega
      have z3 : 0 ≤ (k : Int) - 1 := by omega
      have z4 : (k : Int) - 1 < l.length := by omega
      have z5 : 1 ≤ (k : Int) := by omega
      refine wp_region_plan [.val (.int .i64 ((k : Int))), .val (.bool true), .val (.bool true), .val (.slice (some ⟨b1, q1, none⟩) l.length c), .val (.int .i64 ((k : Int))), .val (.int .i64 ((k : Int) - 1)), .val (.pointer (some ⟨b1, q1 + (k - 1) * 6, none⟩)), .val (.pointer (some ⟨b1, q1 + (k - 1) * 6, none⟩)), .val (.agg #[.int .i64 p', .int .i64 o', .int .i64 f']), .val (.pointer (some ⟨wr.heap.size, 0, none⟩)), .val (.agg #[.int .i64 p', .int .i64 o', .int .i64 f']), .val (.bool true), .val (.bool true)] (by kernel_rfl) (by kernel_rfl) (by kernel_rfl) ?_
      intro X
      iterate 13
        refine plan_val (by kernel_rfl) (fun u hu => ?_) ?_
        · obtain ⟨hc, hf, hz⟩ := hu.of_drew.facts
          go_simp
        simp only [Act.put, List.setIfInBounds_toArray, List.set_cons_zero, List.set_cons_succ, Nat.reduceAdd]
      refine plan_end ?_
      intro w' hB
      have hk := hB.calm.of_drew
      clear hB
      obtain ⟨x0, x1, x2, x3, x4, x5, hxs⟩ := row6 ((hk.block hgs).trans HX.out)
      replace HX := Lib.hid ((hk.block hgs).trans HX.out)
      replace HT2 := Lib.hid (HT2.out.calm hk)
      replace hv1 := hv1.call hk
      clear hk hgs
      clear z0 z1 z2 z3 z4 z5
      go_wp2_with fail
      go_roundw
      case rel => exact ⟨k + 1, by omega, by go_num, hv1, show OwnG _ _ _ _ _ _ _ from by rw [HFF.out]; exact HT2.out⟩
      case measure => simp [intOf]; omega
    have hfst : fstAt l k ⟨p, o, f, m, g, s⟩ = true := by rw [hfd, decide_eq_true_eq]; exact hsk
    have hkp : 0 < k := by omega
    have hks : ¬ p' = p ∨ (p' = p ∧ ¬ o' = o) ∨ (p' = p ∧ o' = o ∧ ¬ f' = f) := by
      by_cases h1 : p' = p
      · by_cases h2 : o' = o
        · exact .inr (.inr ⟨h1, h2, fun h3 => hsk (by rw [h1, h2, h3])⟩)
        · exact .inr (.inl ⟨h1, h2⟩)
      · exact .inl h1
    clear hfd hsk hk0
    rcases hks with h1 | ⟨rfl, h1⟩ | ⟨rfl, rfl, h1⟩
    · skip
      by_cases hsame : stA l (El.key ⟨p, o, f, m, g, s⟩) a = stA l (El.key ⟨p, o, f, m, g, s⟩) b
      · have HFF : Hid (bst l a b (k + 1) = M) := show _ = _ from by rw [hF.out, step_eq hsame, List.append_nil]
        rw [hsA, hsB] at hsame
        obtain ⟨rfl, rfl⟩ := St.ext_iff'.1 hsame
        clear hsame hsA hsB hF hfst HE
        go_upto_region 5 with fail
        generalize hW : wr.alloc (.cells #[.int .i64 p, .int .i64 o, .int .i64 f, .int .i64 m, .int .i64 g, .string s] 43 (0, 0)) = w2 at hv1 HT2 HX hd ⊢
        clear hW
        obtain ⟨x0, x1, x2, x3, x4, x5, hgs⟩ := row6 HX.out
        obtain ⟨d0, d1, d2, hbw⟩ := hd.out
        have z0 : 0 < k := by omega
        have z1 : IntKind.i64.wrap ((k : Int) - 1) = (k : Int) - 1 := IntWalk.i64_in _ (by omega)
        have z2 : ((k : Int) - 1).toNat = k - 1 := by omega
        have z3 : 0 ≤ (k : Int) - 1 := by omega
        have z4 : (k : Int) - 1 < l.length := by omega
        have z5 : 1 ≤ (k : Int) := by omega
        refine wp_region_plan [.val (.int .i64 ((k : Int))), .val (.bool true), .val (.bool true), .val (.slice (some ⟨b1, q1, none⟩) l.length c), .val (.int .i64 ((k : Int))), .val (.int .i64 ((k : Int) - 1)), .val (.pointer (some ⟨b1, q1 + (k - 1) * 6, none⟩)), .val (.pointer (some ⟨b1, q1 + (k - 1) * 6, none⟩)), .val (.agg #[.int .i64 p', .int .i64 o', .int .i64 f']), .val (.pointer (some ⟨wr.heap.size, 0, none⟩)), .val (.agg #[.int .i64 p, .int .i64 o, .int .i64 f]), .val (.bool false), .val (.bool false)] (by kernel_rfl) (by kernel_rfl) (by kernel_rfl) ?_
        intro X
        iterate 13
          refine plan_val (by kernel_rfl) (fun u hu => ?_) ?_
          · obtain ⟨hc, hf, hz⟩ := hu.of_drew.facts
            go_simp
          simp only [Act.put, List.setIfInBounds_toArray, List.set_cons_zero, List.set_cons_succ, Nat.reduceAdd]
        refine plan_end ?_
        intro w' hB
        have hk := hB.calm.of_drew
        clear hB
        obtain ⟨x0, x1, x2, x3, x4, x5, hxs⟩ := row6 ((hk.block hgs).trans HX.out)
        replace HX := Lib.hid ((hk.block hgs).trans HX.out)
        replace HT2 := Lib.hid (HT2.out.calm hk)
        replace hv1 := hv1.call hk
        clear hk hgs
        clear z0 z1 z2 z3 z4 z5
        go_wp2_with (first
          | (go_at_call 34; (with_reducible refine (cA _ hv1).mono ?_); rintro e w7 ⟨rfl, hb⟩; obtain ⟨x0, x1, x2, x3, x4, x5, hxs⟩ := row6 ((hb.block hxs).trans HX.out); replace HX := Lib.hid ((hb.block (row6 HX.out).2.2.2.2.2.2).trans HX.out); have HY := Lib.hid (heap_new w7 (.cells #[.int .i64 u1, .int .i64 u2, .int .i64 u3, .int .i64 u4, .int .i64 u5, .string s1] 43 (0, 0))); replace HT2 := Lib.hid ((HT2.out.calm hb).calm ((Calm.refl _).alloc (.cells #[.int .i64 u1, .int .i64 u2, .int .i64 u3, .int .i64 u4, .int .i64 u5, .string s1] 43 (0, 0)))); have hv3 := (hv1.call hb).alloc (.cells #[.int .i64 u1, .int .i64 u2, .int .i64 u3, .int .i64 u4, .int .i64 u5, .string s1] 43 (0, 0)); have hxs7 : wr.heap.size < w7.heap.size := hxs; clear hb cA hv1)
          | (go_at_call 34; (with_reducible refine (cB _ hv3).mono ?_); rintro e w8 ⟨rfl, hb⟩; obtain ⟨x0, x1, x2, x3, x4, x5, hxs⟩ := row6 ((hb.block (Nat.lt_of_lt_of_le hxs (by simp))).trans (heap_past (.cells #[.int .i64 u1, .int .i64 u2, .int .i64 u3, .int .i64 u4, .int .i64 u5, .string s1] 43 (0, 0)) HX.out)); obtain ⟨y0, y1, y2, y3, y4, y5, hys⟩ := row6 ((hb.block (row6 HY.out).2.2.2.2.2.2).trans HY.out); replace HT2 := Lib.hid ((HT2.out.calm hb).calm ((Calm.refl _).alloc (.cells #[.int .i64 v1, .int .i64 v2, .int .i64 v3, .int .i64 v4, .int .i64 v5, .string s1] 43 (0, 0)))); have hv5 := (hv3.call hb).alloc (.cells #[.int .i64 v1, .int .i64 v2, .int .i64 v3, .int .i64 v4, .int .i64 v5, .string s1] 43 (0, 0)); clear hb cB HY HX))
        go_roundw
        case rel => exact ⟨k + 1, by omega, by go_num, hv5, show OwnG _ _ _ _ _ _ _ from by rw [HFF.out]; exact HT2.out⟩
        case measure => simp [intOf]; omega
      have HFF : Hid (bst l a b (k + 1) = M ++ [⟨p, o, f, i1, i2, s1, s2⟩]) := show _ = _ from by
        rw [hF.out, step_ne hfst hsame, hsA, hsB]; rfl
      rw [hsA, hsB] at hsame
      clear hsA hsB hF hfst HE
      by_cases hi : i1 = i2
      · subst hi
        have e1 := str_ne fun h => hsame (St.ext_iff'.2 ⟨rfl, h⟩)
        clear hsame
        go_upto_region 5 with fail
        generalize hW : wr.alloc (.cells #[.int .i64 p, .int .i64 o, .int .i64 f, .int .i64 m, .int .i64 g, .string s] 43 (0, 0)) = w2 at hv1 HT2 HX hd ⊢
        clear hW
        obtain ⟨x0, x1, x2, x3, x4, x5, hgs⟩ := row6 HX.out
        obtain ⟨d0, d1, d2, hbw⟩ := hd.out
        have z0 : 0 < k := by omega
        have z1 : IntKind.i64.wrap ((k : Int) - 1) = (k : Int) - 1 := IntWalk.i64_in _ (by omega)
        have z2 : ((k : Int) - 1).toNat = k - 1 := by omega
        have z3 : 0 ≤ (k : Int) - 1 := by omega
        have z4 : (k : Int) - 1 < l.length := by omega
        have z5 : 1 ≤ (k : Int) := by omega
        refine wp_region_plan [.val (.int .i64 ((k : Int))), .val (.bool true), .val (.bool true), .val (.slice (some ⟨b1, q1, none⟩) l.length c), .val (.int .i64 ((k : Int))), .val (.int .i64 ((k : Int) - 1)), .val (.pointer (some ⟨b1, q1 + (k - 1) * 6, none⟩)), .val (.pointer (some ⟨b1, q1 + (k - 1) * 6, none⟩)), .val (.agg #[.int .i64 p', .int .i64 o', .int .i64 f']), .val (.pointer (some ⟨wr.heap.size, 0, none⟩)), .val (.agg #[.int .i64 p, .int .i64 o, .int .i64 f]), .val (.bool false), .val (.bool false)] (by kernel_rfl) (by kernel_rfl) (by kernel_rfl) ?_
        intro X
        iterate 13
          refine plan_val (by kernel_rfl) (fun u hu => ?_) ?_
          · obtain ⟨hc, hf, hz⟩ := hu.of_drew.facts
            go_simp
          simp only [Act.put, List.setIfInBounds_toArray, List.set_cons_zero, List.set_cons_succ, Nat.reduceAdd]
        refine plan_end ?_
        intro w' hB
        have hk := hB.calm.of_drew
        clear hB
        obtain ⟨x0, x1, x2, x3, x4, x5, hxs⟩ := row6 ((hk.block hgs).trans HX.out)
        replace HX := Lib.hid ((hk.block hgs).trans HX.out)
        replace HT2 := Lib.hid (HT2.out.calm hk)
        replace hv1 := hv1.call hk
        clear hk hgs
        clear z0 z1 z2 z3 z4 z5
        go_wp2_with (first
          | (go_at_call 34; (with_reducible refine (cA _ hv1).mono ?_); rintro e w7 ⟨rfl, hb⟩; obtain ⟨x0, x1, x2, x3, x4, x5, hxs⟩ := row6 ((hb.block hxs).trans HX.out); replace HX := Lib.hid ((hb.block (row6 HX.out).2.2.2.2.2.2).trans HX.out); have HY := Lib.hid (heap_new w7 (.cells #[.int .i64 u1, .int .i64 u2, .int .i64 u3, .int .i64 u4, .int .i64 u5, .string s1] 43 (0, 0))); replace HT2 := Lib.hid ((HT2.out.calm hb).calm ((Calm.refl _).alloc (.cells #[.int .i64 u1, .int .i64 u2, .int .i64 u3, .int .i64 u4, .int .i64 u5, .string s1] 43 (0, 0)))); have hv3 := (hv1.call hb).alloc (.cells #[.int .i64 u1, .int .i64 u2, .int .i64 u3, .int .i64 u4, .int .i64 u5, .string s1] 43 (0, 0)); have hxs7 : wr.heap.size < w7.heap.size := hxs; clear hb cA hv1)
          | (go_at_call 34; (with_reducible refine (cB _ hv3).mono ?_); rintro e w8 ⟨rfl, hb⟩; obtain ⟨x0, x1, x2, x3, x4, x5, hxs⟩ := row6 ((hb.block (Nat.lt_of_lt_of_le hxs (by simp))).trans (heap_past (.cells #[.int .i64 u1, .int .i64 u2, .int .i64 u3, .int .i64 u4, .int .i64 u5, .string s1] 43 (0, 0)) HX.out)); obtain ⟨y0, y1, y2, y3, y4, y5, hys⟩ := row6 ((hb.block (row6 HY.out).2.2.2.2.2.2).trans HY.out); replace HT2 := Lib.hid ((HT2.out.calm hb).calm ((Calm.refl _).alloc (.cells #[.int .i64 v1, .int .i64 v2, .int .i64 v3, .int .i64 v4, .int .i64 v5, .string s2] 43 (0, 0)))); have hv5 := (hv3.call hb).alloc (.cells #[.int .i64 v1, .int .i64 v2, .int .i64 v3, .int .i64 v4, .int .i64 v5, .string s2] 43 (0, 0)); clear hb cB HY HX)
          | (at_builtin; refine wpList_append_chg rfl _ _ rfl w.heap.size _ _ rfl (HT2.out.calm ((Calm.refl _).alloc (.cells #[.int .i64 p, .int .i64 o, .int .i64 f, .bool i1, .bool i1, .string s1, .string s2] 33 (0, 0)))) _ _ ⟨p, o, f, i1, i1, s1, s2⟩ _ rfl (heap_two _ _ _) hl1.out (hv5.alloc (.cells #[.int .i64 p, .int .i64 o, .int .i64 f, .bool i1, .bool i1, .string s1, .string s2] 33 (0, 0))).size ?_; intro v' w9 ho9 hk9; have HT9 := Lib.hid ho9; have hv9 := hk9 w (Nat.le_refl _) (hv5.alloc (.cells #[.int .i64 p, .int .i64 o, .int .i64 f, .bool i1, .bool i1, .string s1, .string s2] 33 (0, 0))); clear ho9 hk9))
        go_roundw
        case rel => exact ⟨k + 1, by omega, by go_num, hv9, show OwnG _ _ _ _ _ _ _ from by rw [HFF.out]; exact HT9.out⟩
        case measure => simp [intOf]; omega
      · have e1 : (i1 == i2) = false := by simpa using hi
        clear hsame hi
        go_upto_region 5 with fail
        generalize hW : wr.alloc (.cells #[.int .i64 p, .int .i64 o, .int .i64 f, .int .i64 m, .int .i64 g, .string s] 43 (0, 0)) = w2 at hv1 HT2 HX hd ⊢
        clear hW
        obtain ⟨x0, x1, x2, x3, x4, x5, hgs⟩ := row6 HX.out
        obtain ⟨d0, d1, d2, hbw⟩ := hd.out
        have z0 : 0 < k := by omega
        have z1 : IntKind.i64.wrap ((k : Int) - 1) = (k : Int) - 1 := IntWalk.i64_in _ (by omega)
        have z2 : ((k : Int) - 1).toNat = k - 1 := by omega
        have z3 : 0 ≤ (k : Int) - 1 := by omega
        have z4 : (k : Int) - 1 < l.length := by omega
        have z5 : 1 ≤ (k : Int) := by omega
        refine wp_region_plan [.val (.int .i64 ((k : Int))), .val (.bool true), .val (.bool true), .val (.slice (some ⟨b1, q1, none⟩) l.length c), .val (.int .i64 ((k : Int))), .val (.int .i64 ((k : Int) - 1)), .val (.pointer (some ⟨b1, q1 + (k - 1) * 6, none⟩)), .val (.pointer (some ⟨b1, q1 + (k - 1) * 6, none⟩)), .val (.agg #[.int .i64 p', .int .i64 o', .int .i64 f']), .val (.pointer (some ⟨wr.heap.size, 0, none⟩)), .val (.agg #[.int .i64 p, .int .i64 o, .int .i64 f]), .val (.bool false), .val (.bool false)] (by kernel_rfl) (by kernel_rfl) (by kernel_rfl) ?_
        intro X
        iterate 13
          refine plan_val (by kernel_rfl) (fun u hu => ?_) ?_
          · obtain ⟨hc, hf, hz⟩ := hu.of_drew.facts
            go_simp
          simp only [Act.put, List.setIfInBounds_toArray, List.set_cons_zero, List.set_cons_succ, Nat.reduceAdd]
        refine plan_end ?_
        intro w' hB
        have hk := hB.calm.of_drew
        clear hB
        obtain ⟨x0, x1, x2, x3, x4, x5, hxs⟩ := row6 ((hk.block hgs).trans HX.out)
        replace HX := Lib.hid ((hk.block hgs).trans HX.out)
        replace HT2 := Lib.hid (HT2.out.calm hk)
        replace hv1 := hv1.call hk
        clear hk hgs
        clear z0 z1 z2 z3 z4 z5
        go_wp2_with (first
          | (go_at_call 34; (with_reducible refine (cA _ hv1).mono ?_); rintro e w7 ⟨rfl, hb⟩; obtain ⟨x0, x1, x2, x3, x4, x5, hxs⟩ := row6 ((hb.block hxs).trans HX.out); replace HX := Lib.hid ((hb.block (row6 HX.out).2.2.2.2.2.2).trans HX.out); have HY := Lib.hid (heap_new w7 (.cells #[.int .i64 u1, .int .i64 u2, .int .i64 u3, .int .i64 u4, .int .i64 u5, .string s1] 43 (0, 0))); replace HT2 := Lib.hid ((HT2.out.calm hb).calm ((Calm.refl _).alloc (.cells #[.int .i64 u1, .int .i64 u2, .int .i64 u3, .int .i64 u4, .int .i64 u5, .string s1] 43 (0, 0)))); have hv3 := (hv1.call hb).alloc (.cells #[.int .i64 u1, .int .i64 u2, .int .i64 u3, .int .i64 u4, .int .i64 u5, .string s1] 43 (0, 0)); have hxs7 : wr.heap.size < w7.heap.size := hxs; clear hb cA hv1)
          | (go_at_call 34; (with_reducible refine (cB _ hv3).mono ?_); rintro e w8 ⟨rfl, hb⟩; obtain ⟨x0, x1, x2, x3, x4, x5, hxs⟩ := row6 ((hb.block (Nat.lt_of_lt_of_le hxs (by simp))).trans (heap_past (.cells #[.int .i64 u1, .int .i64 u2, .int .i64 u3, .int .i64 u4, .int .i64 u5, .string s1] 43 (0, 0)) HX.out)); obtain ⟨y0, y1, y2, y3, y4, y5, hys⟩ := row6 ((hb.block (row6 HY.out).2.2.2.2.2.2).trans HY.out); replace HT2 := Lib.hid ((HT2.out.calm hb).calm ((Calm.refl _).alloc (.cells #[.int .i64 v1, .int .i64 v2, .int .i64 v3, .int .i64 v4, .int .i64 v5, .string s2] 43 (0, 0)))); have hv5 := (hv3.call hb).alloc (.cells #[.int .i64 v1, .int .i64 v2, .int .i64 v3, .int .i64 v4, .int .i64 v5, .string s2] 43 (0, 0)); clear hb cB HY HX)
          | (at_builtin; refine wpList_append_chg rfl _ _ rfl w.heap.size _ _ rfl (HT2.out.calm ((Calm.refl _).alloc (.cells #[.int .i64 p, .int .i64 o, .int .i64 f, .bool i1, .bool i2, .string s1, .string s2] 33 (0, 0)))) _ _ ⟨p, o, f, i1, i2, s1, s2⟩ _ rfl (heap_two _ _ _) hl1.out (hv5.alloc (.cells #[.int .i64 p, .int .i64 o, .int .i64 f, .bool i1, .bool i2, .string s1, .string s2] 33 (0, 0))).size ?_; intro v' w9 ho9 hk9; have HT9 := Lib.hid ho9; have hv9 := hk9 w (Nat.le_refl _) (hv5.alloc (.cells #[.int .i64 p, .int .i64 o, .int .i64 f, .bool i1, .bool i2, .string s1, .string s2] 33 (0, 0))); clear ho9 hk9))
        go_roundw
        case rel => exact ⟨k + 1, by omega, by go_num, hv9, show OwnG _ _ _ _ _ _ _ from by rw [HFF.out]; exact HT9.out⟩
        case measure => simp [intOf]; omega
    · skip
      by_cases hsame : stA l (El.key ⟨p', o, f, m, g, s⟩) a = stA l (El.key ⟨p', o, f, m, g, s⟩) b
      · have HFF : Hid (bst l a b (k + 1) = M) := show _ = _ from by rw [hF.out, step_eq hsame, List.append_nil]
        rw [hsA, hsB] at hsame
        obtain ⟨rfl, rfl⟩ := St.ext_iff'.1 hsame
        clear hsame hsA hsB hF hfst HE
        go_upto_region 5 with fail
        generalize hW : wr.alloc (.cells #[.int .i64 p', .int .i64 o, .int .i64 f, .int .i64 m, .int .i64 g, .string s] 43 (0, 0)) = w2 at hv1 HT2 HX hd ⊢
        clear hW
        obtain ⟨x0, x1, x2, x3, x4, x5, hgs⟩ := row6 HX.out
        obtain ⟨d0, d1, d2, hbw⟩ := hd.out
        have z0 : 0 < k := by omega
        have z1 : IntKind.i64.wrap ((k : Int) - 1) = (k : Int) - 1 := IntWalk.i64_in _ (by omega)
        have z2 : ((k : Int) - 1).toNat = k - 1 := by omega
        have z3 : 0 ≤ (k : Int) - 1 := by omega
        have z4 : (k : Int) - 1 < l.length := by omega
        have z5 : 1 ≤ (k : Int) := by omega
        refine wp_region_plan [.val (.int .i64 ((k : Int))), .val (.bool true), .val (.bool true), .val (.slice (some ⟨b1, q1, none⟩) l.length c), .val (.int .i64 ((k : Int))), .val (.int .i64 ((k : Int) - 1)), .val (.pointer (some ⟨b1, q1 + (k - 1) * 6, none⟩)), .val (.pointer (some ⟨b1, q1 + (k - 1) * 6, none⟩)), .val (.agg #[.int .i64 p', .int .i64 o', .int .i64 f']), .val (.pointer (some ⟨wr.heap.size, 0, none⟩)), .val (.agg #[.int .i64 p', .int .i64 o, .int .i64 f]), .val (.bool false), .val (.bool false)] (by kernel_rfl) (by kernel_rfl) (by kernel_rfl) ?_
        intro X
        iterate 13
          refine plan_val (by kernel_rfl) (fun u hu => ?_) ?_
          · obtain ⟨hc, hf, hz⟩ := hu.of_drew.facts
            go_simp
          simp only [Act.put, List.setIfInBounds_toArray, List.set_cons_zero, List.set_cons_succ, Nat.reduceAdd]
        refine plan_end ?_
        intro w' hB
        have hk := hB.calm.of_drew
        clear hB
        obtain ⟨x0, x1, x2, x3, x4, x5, hxs⟩ := row6 ((hk.block hgs).trans HX.out)
        replace HX := Lib.hid ((hk.block hgs).trans HX.out)
        replace HT2 := Lib.hid (HT2.out.calm hk)
        replace hv1 := hv1.call hk
        clear hk hgs
        clear z0 z1 z2 z3 z4 z5
        go_wp2_with (first
          | (go_at_call 34; (with_reducible refine (cA _ hv1).mono ?_); rintro e w7 ⟨rfl, hb⟩; obtain ⟨x0, x1, x2, x3, x4, x5, hxs⟩ := row6 ((hb.block hxs).trans HX.out); replace HX := Lib.hid ((hb.block (row6 HX.out).2.2.2.2.2.2).trans HX.out); have HY := Lib.hid (heap_new w7 (.cells #[.int .i64 u1, .int .i64 u2, .int .i64 u3, .int .i64 u4, .int .i64 u5, .string s1] 43 (0, 0))); replace HT2 := Lib.hid ((HT2.out.calm hb).calm ((Calm.refl _).alloc (.cells #[.int .i64 u1, .int .i64 u2, .int .i64 u3, .int .i64 u4, .int .i64 u5, .string s1] 43 (0, 0)))); have hv3 := (hv1.call hb).alloc (.cells #[.int .i64 u1, .int .i64 u2, .int .i64 u3, .int .i64 u4, .int .i64 u5, .string s1] 43 (0, 0)); have hxs7 : wr.heap.size < w7.heap.size := hxs; clear hb cA hv1)
          | (go_at_call 34; (with_reducible refine (cB _ hv3).mono ?_); rintro e w8 ⟨rfl, hb⟩; obtain ⟨x0, x1, x2, x3, x4, x5, hxs⟩ := row6 ((hb.block (Nat.lt_of_lt_of_le hxs (by simp))).trans (heap_past (.cells #[.int .i64 u1, .int .i64 u2, .int .i64 u3, .int .i64 u4, .int .i64 u5, .string s1] 43 (0, 0)) HX.out)); obtain ⟨y0, y1, y2, y3, y4, y5, hys⟩ := row6 ((hb.block (row6 HY.out).2.2.2.2.2.2).trans HY.out); replace HT2 := Lib.hid ((HT2.out.calm hb).calm ((Calm.refl _).alloc (.cells #[.int .i64 v1, .int .i64 v2, .int .i64 v3, .int .i64 v4, .int .i64 v5, .string s1] 43 (0, 0)))); have hv5 := (hv3.call hb).alloc (.cells #[.int .i64 v1, .int .i64 v2, .int .i64 v3, .int .i64 v4, .int .i64 v5, .string s1] 43 (0, 0)); clear hb cB HY HX))
        go_roundw
        case rel => exact ⟨k + 1, by omega, by go_num, hv5, show OwnG _ _ _ _ _ _ _ from by rw [HFF.out]; exact HT2.out⟩
        case measure => simp [intOf]; omega
      have HFF : Hid (bst l a b (k + 1) = M ++ [⟨p', o, f, i1, i2, s1, s2⟩]) := show _ = _ from by
        rw [hF.out, step_ne hfst hsame, hsA, hsB]; rfl
      rw [hsA, hsB] at hsame
      clear hsA hsB hF hfst HE
      by_cases hi : i1 = i2
      · subst hi
        have e1 := str_ne fun h => hsame (St.ext_iff'.2 ⟨rfl, h⟩)
        clear hsame
        go_upto_region 5 with fail
        generalize hW : wr.alloc (.cells #[.int .i64 p', .int .i64 o, .int .i64 f, .int .i64 m, .int .i64 g, .string s] 43 (0, 0)) = w2 at hv1 HT2 HX hd ⊢
        clear hW
        obtain ⟨x0, x1, x2, x3, x4, x5, hgs⟩ := row6 HX.out
        obtain ⟨d0, d1, d2, hbw⟩ := hd.out
        have z0 : 0 < k := by omega
        have z1 : IntKind.i64.wrap ((k : Int) - 1) = (k : Int) - 1 := IntWalk.i64_in _ (by omega)
        have z2 : ((k : Int) - 1).toNat = k - 1 := by omega
        have z3 : 0 ≤ (k : Int) - 1 := by omega
        have z4 : (k : Int) - 1 < l.length := by omega
        have z5 : 1 ≤ (k : Int) := by omega
        refine wp_region_plan [.val (.int .i64 ((k : Int))), .val (.bool true), .val (.bool true), .val (.slice (some ⟨b1, q1, none⟩) l.length c), .val (.int .i64 ((k : Int))), .val (.int .i64 ((k : Int) - 1)), .val (.pointer (some ⟨b1, q1 + (k - 1) * 6, none⟩)), .val (.pointer (some ⟨b1, q1 + (k - 1) * 6, none⟩)), .val (.agg #[.int .i64 p', .int .i64 o', .int .i64 f']), .val (.pointer (some ⟨wr.heap.size, 0, none⟩)), .val (.agg #[.int .i64 p', .int .i64 o, .int .i64 f]), .val (.bool false), .val (.bool false)] (by kernel_rfl) (by kernel_rfl) (by kernel_rfl) ?_
        intro X
        iterate 13
          refine plan_val (by kernel_rfl) (fun u hu => ?_) ?_
          · obtain ⟨hc, hf, hz⟩ := hu.of_drew.facts
            go_simp
          simp only [Act.put, List.setIfInBounds_toArray, List.set_cons_zero, List.set_cons_succ, Nat.reduceAdd]
        refine plan_end ?_
        intro w' hB
        have hk := hB.calm.of_drew
        clear hB
        obtain ⟨x0, x1, x2, x3, x4, x5, hxs⟩ := row6 ((hk.block hgs).trans HX.out)
        replace HX := Lib.hid ((hk.block hgs).trans HX.out)
        replace HT2 := Lib.hid (HT2.out.calm hk)
        replace hv1 := hv1.call hk
        clear hk hgs
        clear z0 z1 z2 z3 z4 z5
        go_wp2_with (first
          | (go_at_call 34; (with_reducible refine (cA _ hv1).mono ?_); rintro e w7 ⟨rfl, hb⟩; obtain ⟨x0, x1, x2, x3, x4, x5, hxs⟩ := row6 ((hb.block hxs).trans HX.out); replace HX := Lib.hid ((hb.block (row6 HX.out).2.2.2.2.2.2).trans HX.out); have HY := Lib.hid (heap_new w7 (.cells #[.int .i64 u1, .int .i64 u2, .int .i64 u3, .int .i64 u4, .int .i64 u5, .string s1] 43 (0, 0))); replace HT2 := Lib.hid ((HT2.out.calm hb).calm ((Calm.refl _).alloc (.cells #[.int .i64 u1, .int .i64 u2, .int .i64 u3, .int .i64 u4, .int .i64 u5, .string s1] 43 (0, 0)))); have hv3 := (hv1.call hb).alloc (.cells #[.int .i64 u1, .int .i64 u2, .int .i64 u3, .int .i64 u4, .int .i64 u5, .string s1] 43 (0, 0)); have hxs7 : wr.heap.size < w7.heap.size := hxs; clear hb cA hv1)
          | (go_at_call 34; (with_reducible refine (cB _ hv3).mono ?_); rintro e w8 ⟨rfl, hb⟩; obtain ⟨x0, x1, x2, x3, x4, x5, hxs⟩ := row6 ((hb.block (Nat.lt_of_lt_of_le hxs (by simp))).trans (heap_past (.cells #[.int .i64 u1, .int .i64 u2, .int .i64 u3, .int .i64 u4, .int .i64 u5, .string s1] 43 (0, 0)) HX.out)); obtain ⟨y0, y1, y2, y3, y4, y5, hys⟩ := row6 ((hb.block (row6 HY.out).2.2.2.2.2.2).trans HY.out); replace HT2 := Lib.hid ((HT2.out.calm hb).calm ((Calm.refl _).alloc (.cells #[.int .i64 v1, .int .i64 v2, .int .i64 v3, .int .i64 v4, .int .i64 v5, .string s2] 43 (0, 0)))); have hv5 := (hv3.call hb).alloc (.cells #[.int .i64 v1, .int .i64 v2, .int .i64 v3, .int .i64 v4, .int .i64 v5, .string s2] 43 (0, 0)); clear hb cB HY HX)
          | (at_builtin; refine wpList_append_chg rfl _ _ rfl w.heap.size _ _ rfl (HT2.out.calm ((Calm.refl _).alloc (.cells #[.int .i64 p', .int .i64 o, .int .i64 f, .bool i1, .bool i1, .string s1, .string s2] 33 (0, 0)))) _ _ ⟨p', o, f, i1, i1, s1, s2⟩ _ rfl (heap_two _ _ _) hl1.out (hv5.alloc (.cells #[.int .i64 p', .int .i64 o, .int .i64 f, .bool i1, .bool i1, .string s1, .string s2] 33 (0, 0))).size ?_; intro v' w9 ho9 hk9; have HT9 := Lib.hid ho9; have hv9 := hk9 w (Nat.le_refl _) (hv5.alloc (.cells #[.int .i64 p', .int .i64 o, .int .i64 f, .bool i1, .bool i1, .string s1, .string s2] 33 (0, 0))); clear ho9 hk9))
        go_roundw
        case rel => exact ⟨k + 1, by omega, by go_num, hv9, show OwnG _ _ _ _ _ _ _ from by rw [HFF.out]; exact HT9.out⟩
        case measure => simp [intOf]; omega
      · have e1 : (i1 == i2) = false := by simpa using hi
        clear hsame hi
        go_upto_region 5 with fail
        generalize hW : wr.alloc (.cells #[.int .i64 p', .int .i64 o, .int .i64 f, .int .i64 m, .int .i64 g, .string s] 43 (0, 0)) = w2 at hv1 HT2 HX hd ⊢
        clear hW
        obtain ⟨x0, x1, x2, x3, x4, x5, hgs⟩ := row6 HX.out
        obtain ⟨d0, d1, d2, hbw⟩ := hd.out
        have z0 : 0 < k := by omega
        have z1 : IntKind.i64.wrap ((k : Int) - 1) = (k : Int) - 1 := IntWalk.i64_in _ (by omega)
        have z2 : ((k : Int) - 1).toNat = k - 1 := by omega
        have z3 : 0 ≤ (k : Int) - 1 := by omega
        have z4 : (k : Int) - 1 < l.length := by omega
        have z5 : 1 ≤ (k : Int) := by omega
        refine wp_region_plan [.val (.int .i64 ((k : Int))), .val (.bool true), .val (.bool true), .val (.slice (some ⟨b1, q1, none⟩) l.length c), .val (.int .i64 ((k : Int))), .val (.int .i64 ((k : Int) - 1)), .val (.pointer (some ⟨b1, q1 + (k - 1) * 6, none⟩)), .val (.pointer (some ⟨b1, q1 + (k - 1) * 6, none⟩)), .val (.agg #[.int .i64 p', .int .i64 o', .int .i64 f']), .val (.pointer (some ⟨wr.heap.size, 0, none⟩)), .val (.agg #[.int .i64 p', .int .i64 o, .int .i64 f]), .val (.bool false), .val (.bool false)] (by kernel_rfl) (by kernel_rfl) (by kernel_rfl) ?_
        intro X
        iterate 13
          refine plan_val (by kernel_rfl) (fun u hu => ?_) ?_
          · obtain ⟨hc, hf, hz⟩ := hu.of_drew.facts
            go_simp
          simp only [Act.put, List.setIfInBounds_toArray, List.set_cons_zero, List.set_cons_succ, Nat.reduceAdd]
        refine plan_end ?_
        intro w' hB
        have hk := hB.calm.of_drew
        clear hB
        obtain ⟨x0, x1, x2, x3, x4, x5, hxs⟩ := row6 ((hk.block hgs).trans HX.out)
        replace HX := Lib.hid ((hk.block hgs).trans HX.out)
        replace HT2 := Lib.hid (HT2.out.calm hk)
        replace hv1 := hv1.call hk
        clear hk hgs
        clear z0 z1 z2 z3 z4 z5
        go_wp2_with (first
          | (go_at_call 34; (with_reducible refine (cA _ hv1).mono ?_); rintro e w7 ⟨rfl, hb⟩; obtain ⟨x0, x1, x2, x3, x4, x5, hxs⟩ := row6 ((hb.block hxs).trans HX.out); replace HX := Lib.hid ((hb.block (row6 HX.out).2.2.2.2.2.2).trans HX.out); have HY := Lib.hid (heap_new w7 (.cells #[.int .i64 u1, .int .i64 u2, .int .i64 u3, .int .i64 u4, .int .i64 u5, .string s1] 43 (0, 0))); replace HT2 := Lib.hid ((HT2.out.calm hb).calm ((Calm.refl _).alloc (.cells #[.int .i64 u1, .int .i64 u2, .int .i64 u3, .int .i64 u4, .int .i64 u5, .string s1] 43 (0, 0)))); have hv3 := (hv1.call hb).alloc (.cells #[.int .i64 u1, .int .i64 u2, .int .i64 u3, .int .i64 u4, .int .i64 u5, .string s1] 43 (0, 0)); have hxs7 : wr.heap.size < w7.heap.size := hxs; clear hb cA hv1)
          | (go_at_call 34; (with_reducible refine (cB _ hv3).mono ?_); rintro e w8 ⟨rfl, hb⟩; obtain ⟨x0, x1, x2, x3, x4, x5, hxs⟩ := row6 ((hb.block (Nat.lt_of_lt_of_le hxs (by simp))).trans (heap_past (.cells #[.int .i64 u1, .int .i64 u2, .int .i64 u3, .int .i64 u4, .int .i64 u5, .string s1] 43 (0, 0)) HX.out)); obtain ⟨y0, y1, y2, y3, y4, y5, hys⟩ := row6 ((hb.block (row6 HY.out).2.2.2.2.2.2).trans HY.out); replace HT2 := Lib.hid ((HT2.out.calm hb).calm ((Calm.refl _).alloc (.cells #[.int .i64 v1, .int .i64 v2, .int .i64 v3, .int .i64 v4, .int .i64 v5, .string s2] 43 (0, 0)))); have hv5 := (hv3.call hb).alloc (.cells #[.int .i64 v1, .int .i64 v2, .int .i64 v3, .int .i64 v4, .int .i64 v5, .string s2] 43 (0, 0)); clear hb cB HY HX)
          | (at_builtin; refine wpList_append_chg rfl _ _ rfl w.heap.size _ _ rfl (HT2.out.calm ((Calm.refl _).alloc (.cells #[.int .i64 p', .int .i64 o, .int .i64 f, .bool i1, .bool i2, .string s1, .string s2] 33 (0, 0)))) _ _ ⟨p', o, f, i1, i2, s1, s2⟩ _ rfl (heap_two _ _ _) hl1.out (hv5.alloc (.cells #[.int .i64 p', .int .i64 o, .int .i64 f, .bool i1, .bool i2, .string s1, .string s2] 33 (0, 0))).size ?_; intro v' w9 ho9 hk9; have HT9 := Lib.hid ho9; have hv9 := hk9 w (Nat.le_refl _) (hv5.alloc (.cells #[.int .i64 p', .int .i64 o, .int .i64 f, .bool i1, .bool i2, .string s1, .string s2] 33 (0, 0))); clear ho9 hk9))
        go_roundw
        case rel => exact ⟨k + 1, by omega, by go_num, hv9, show OwnG _ _ _ _ _ _ _ from by rw [HFF.out]; exact HT9.out⟩
        case measure => simp [intOf]; omega
    · skip
      by_cases hsame : stA l (El.key ⟨p', o', f, m, g, s⟩) a = stA l (El.key ⟨p', o', f, m, g, s⟩) b
      · have HFF : Hid (bst l a b (k + 1) = M) := show _ = _ from by rw [hF.out, step_eq hsame, List.append_nil]
        rw [hsA, hsB] at hsame
        obtain ⟨rfl, rfl⟩ := St.ext_iff'.1 hsame
        clear hsame hsA hsB hF hfst HE
        go_upto_region 5 with fail
        generalize hW : wr.alloc (.cells #[.int .i64 p', .int .i64 o', .int .i64 f, .int .i64 m, .int .i64 g, .string s] 43 (0, 0)) = w2 at hv1 HT2 HX hd ⊢
        clear hW
        obtain ⟨x0, x1, x2, x3, x4, x5, hgs⟩ := row6 HX.out
        obtain ⟨d0, d1, d2, hbw⟩ := hd.out
        have z0 : 0 < k := by omega
        have z1 : IntKind.i64.wrap ((k : Int) - 1) = (k : Int) - 1 := IntWalk.i64_in _ (by omega)
        have z2 : ((k : Int) - 1).toNat = k - 1 := by omega
        have z3 : 0 ≤ (k : Int) - 1 := by omega
        have z4 : (k : Int) - 1 < l.length := by omega
        have z5 : 1 ≤ (k : Int) := by omega
        refine wp_region_plan [.val (.int .i64 ((k : Int))), .val (.bool true), .val (.bool true), .val (.slice (some ⟨b1, q1, none⟩) l.length c), .val (.int .i64 ((k : Int))), .val (.int .i64 ((k : Int) - 1)), .val (.pointer (some ⟨b1, q1 + (k - 1) * 6, none⟩)), .val (.pointer (some ⟨b1, q1 + (k - 1) * 6, none⟩)), .val (.agg #[.int .i64 p', .int .i64 o', .int .i64 f']), .val (.pointer (some ⟨wr.heap.size, 0, none⟩)), .val (.agg #[.int .i64 p', .int .i64 o', .int .i64 f]), .val (.bool false), .val (.bool false)] (by kernel_rfl) (by kernel_rfl) (by kernel_rfl) ?_
        intro X
        iterate 13
          refine plan_val (by kernel_rfl) (fun u hu => ?_) ?_
          · obtain ⟨hc, hf, hz⟩ := hu.of_drew.facts
            go_simp
          simp only [Act.put, List.setIfInBounds_toArray, List.set_cons_zero, List.set_cons_succ, Nat.reduceAdd]
        refine plan_end ?_
        intro w' hB
        have hk := hB.calm.of_drew
        clear hB
        obtain ⟨x0, x1, x2, x3, x4, x5, hxs⟩ := row6 ((hk.block hgs).trans HX.out)
        replace HX := Lib.hid ((hk.block hgs).trans HX.out)
        replace HT2 := Lib.hid (HT2.out.calm hk)
        replace hv1 := hv1.call hk
        clear hk hgs
        clear z0 z1 z2 z3 z4 z5
        go_wp2_with (first
          | (go_at_call 34; (with_reducible refine (cA _ hv1).mono ?_); rintro e w7 ⟨rfl, hb⟩; obtain ⟨x0, x1, x2, x3, x4, x5, hxs⟩ := row6 ((hb.block hxs).trans HX.out); replace HX := Lib.hid ((hb.block (row6 HX.out).2.2.2.2.2.2).trans HX.out); have HY := Lib.hid (heap_new w7 (.cells #[.int .i64 u1, .int .i64 u2, .int .i64 u3, .int .i64 u4, .int .i64 u5, .string s1] 43 (0, 0))); replace HT2 := Lib.hid ((HT2.out.calm hb).calm ((Calm.refl _).alloc (.cells #[.int .i64 u1, .int .i64 u2, .int .i64 u3, .int .i64 u4, .int .i64 u5, .string s1] 43 (0, 0)))); have hv3 := (hv1.call hb).alloc (.cells #[.int .i64 u1, .int .i64 u2, .int .i64 u3, .int .i64 u4, .int .i64 u5, .string s1] 43 (0, 0)); have hxs7 : wr.heap.size < w7.heap.size := hxs; clear hb cA hv1)
          | (go_at_call 34; (with_reducible refine (cB _ hv3).mono ?_); rintro e w8 ⟨rfl, hb⟩; obtain ⟨x0, x1, x2, x3, x4, x5, hxs⟩ := row6 ((hb.block (Nat.lt_of_lt_of_le hxs (by simp))).trans (heap_past (.cells #[.int .i64 u1, .int .i64 u2, .int .i64 u3, .int .i64 u4, .int .i64 u5, .string s1] 43 (0, 0)) HX.out)); obtain ⟨y0, y1, y2, y3, y4, y5, hys⟩ := row6 ((hb.block (row6 HY.out).2.2.2.2.2.2).trans HY.out); replace HT2 := Lib.hid ((HT2.out.calm hb).calm ((Calm.refl _).alloc (.cells #[.int .i64 v1, .int .i64 v2, .int .i64 v3, .int .i64 v4, .int .i64 v5, .string s1] 43 (0, 0)))); have hv5 := (hv3.call hb).alloc (.cells #[.int .i64 v1, .int .i64 v2, .int .i64 v3, .int .i64 v4, .int .i64 v5, .string s1] 43 (0, 0)); clear hb cB HY HX))
        go_roundw
        case rel => exact ⟨k + 1, by omega, by go_num, hv5, show OwnG _ _ _ _ _ _ _ from by rw [HFF.out]; exact HT2.out⟩
        case measure => simp [intOf]; omega
      have HFF : Hid (bst l a b (k + 1) = M ++ [⟨p', o', f, i1, i2, s1, s2⟩]) := show _ = _ from by
        rw [hF.out, step_ne hfst hsame, hsA, hsB]; rfl
      rw [hsA, hsB] at hsame
      clear hsA hsB hF hfst HE
      by_cases hi : i1 = i2
      · subst hi
        have e1 := str_ne fun h => hsame (St.ext_iff'.2 ⟨rfl, h⟩)
        clear hsame
        go_upto_region 5 with fail
        generalize hW : wr.alloc (.cells #[.int .i64 p', .int .i64 o', .int .i64 f, .int .i64 m, .int .i64 g, .string s] 43 (0, 0)) = w2 at hv1 HT2 HX hd ⊢
        clear hW
        obtain ⟨x0, x1, x2, x3, x4, x5, hgs⟩ := row6 HX.out
        obtain ⟨d0, d1, d2, hbw⟩ := hd.out
        have z0 : 0 < k := by omega
        have z1 : IntKind.i64.wrap ((k : Int) - 1) = (k : Int) - 1 := IntWalk.i64_in _ (by omega)
        have z2 : ((k : Int) - 1).toNat = k - 1 := by omega
        have z3 : 0 ≤ (k : Int) - 1 := by omega
        have z4 : (k : Int) - 1 < l.length := by omega
        have z5 : 1 ≤ (k : Int) := by omega
        refine wp_region_plan [.val (.int .i64 ((k : Int))), .val (.bool true), .val (.bool true), .val (.slice (some ⟨b1, q1, none⟩) l.length c), .val (.int .i64 ((k : Int))), .val (.int .i64 ((k : Int) - 1)), .val (.pointer (some ⟨b1, q1 + (k - 1) * 6, none⟩)), .val (.pointer (some ⟨b1, q1 + (k - 1) * 6, none⟩)), .val (.agg #[.int .i64 p', .int .i64 o', .int .i64 f']), .val (.pointer (some ⟨wr.heap.size, 0, none⟩)), .val (.agg #[.int .i64 p', .int .i64 o', .int .i64 f]), .val (.bool false), .val (.bool false)] (by kernel_rfl) (by kernel_rfl) (by kernel_rfl) ?_
        intro X
        iterate 13
          refine plan_val (by kernel_rfl) (fun u hu => ?_) ?_
          · obtain ⟨hc, hf, hz⟩ := hu.of_drew.facts
            go_simp
          simp only [Act.put, List.setIfInBounds_toArray, List.set_cons_zero, List.set_cons_succ, Nat.reduceAdd]
        refine plan_end ?_
        intro w' hB
        have hk := hB.calm.of_drew
        clear hB
        obtain ⟨x0, x1, x2, x3, x4, x5, hxs⟩ := row6 ((hk.block hgs).trans HX.out)
        replace HX := Lib.hid ((hk.block hgs).trans HX.out)
        replace HT2 := Lib.hid (HT2.out.calm hk)
        replace hv1 := hv1.call hk
        clear hk hgs
        clear z0 z1 z2 z3 z4 z5
        go_wp2_with (first
          | (go_at_call 34; (with_reducible refine (cA _ hv1).mono ?_); rintro e w7 ⟨rfl, hb⟩; obtain ⟨x0, x1, x2, x3, x4, x5, hxs⟩ := row6 ((hb.block hxs).trans HX.out); replace HX := Lib.hid ((hb.block (row6 HX.out).2.2.2.2.2.2).trans HX.out); have HY := Lib.hid (heap_new w7 (.cells #[.int .i64 u1, .int .i64 u2, .int .i64 u3, .int .i64 u4, .int .i64 u5, .string s1] 43 (0, 0))); replace HT2 := Lib.hid ((HT2.out.calm hb).calm ((Calm.refl _).alloc (.cells #[.int .i64 u1, .int .i64 u2, .int .i64 u3, .int .i64 u4, .int .i64 u5, .string s1] 43 (0, 0)))); have hv3 := (hv1.call hb).alloc (.cells #[.int .i64 u1, .int .i64 u2, .int .i64 u3, .int .i64 u4, .int .i64 u5, .string s1] 43 (0, 0)); have hxs7 : wr.heap.size < w7.heap.size := hxs; clear hb cA hv1)
          | (go_at_call 34; (with_reducible refine (cB _ hv3).mono ?_); rintro e w8 ⟨rfl, hb⟩; obtain ⟨x0, x1, x2, x3, x4, x5, hxs⟩ := row6 ((hb.block (Nat.lt_of_lt_of_le hxs (by simp))).trans (heap_past (.cells #[.int .i64 u1, .int .i64 u2, .int .i64 u3, .int .i64 u4, .int .i64 u5, .string s1] 43 (0, 0)) HX.out)); obtain ⟨y0, y1, y2, y3, y4, y5, hys⟩ := row6 ((hb.block (row6 HY.out).2.2.2.2.2.2).trans HY.out); replace HT2 := Lib.hid ((HT2.out.calm hb).calm ((Calm.refl _).alloc (.cells #[.int .i64 v1, .int .i64 v2, .int .i64 v3, .int .i64 v4, .int .i64 v5, .string s2] 43 (0, 0)))); have hv5 := (hv3.call hb).alloc (.cells #[.int .i64 v1, .int .i64 v2, .int .i64 v3, .int .i64 v4, .int .i64 v5, .string s2] 43 (0, 0)); clear hb cB HY HX)
          | (at_builtin; refine wpList_append_chg rfl _ _ rfl w.heap.size _ _ rfl (HT2.out.calm ((Calm.refl _).alloc (.cells #[.int .i64 p', .int .i64 o', .int .i64 f, .bool i1, .bool i1, .string s1, .string s2] 33 (0, 0)))) _ _ ⟨p', o', f, i1, i1, s1, s2⟩ _ rfl (heap_two _ _ _) hl1.out (hv5.alloc (.cells #[.int .i64 p', .int .i64 o', .int .i64 f, .bool i1, .bool i1, .string s1, .string s2] 33 (0, 0))).size ?_; intro v' w9 ho9 hk9; have HT9 := Lib.hid ho9; have hv9 := hk9 w (Nat.le_refl _) (hv5.alloc (.cells #[.int .i64 p', .int .i64 o', .int .i64 f, .bool i1, .bool i1, .string s1, .string s2] 33 (0, 0))); clear ho9 hk9))
        go_roundw
        case rel => exact ⟨k + 1, by omega, by go_num, hv9, show OwnG _ _ _ _ _ _ _ from by rw [HFF.out]; exact HT9.out⟩
        case measure => simp [intOf]; omega
      · have e1 : (i1 == i2) = false := by simpa using hi
        clear hsame hi
        go_upto_region 5 with fail
        generalize hW : wr.alloc (.cells #[.int .i64 p', .int .i64 o', .int .i64 f, .int .i64 m, .int .i64 g, .string s] 43 (0, 0)) = w2 at hv1 HT2 HX hd ⊢
        clear hW
        obtain ⟨x0, x1, x2, x3, x4, x5, hgs⟩ := row6 HX.out
        obtain ⟨d0, d1, d2, hbw⟩ := hd.out
        have z0 : 0 < k := by omega
        have z1 : IntKind.i64.wrap ((k : Int) - 1) = (k : Int) - 1 := IntWalk.i64_in _ (by omega)
        have z2 : ((k : Int) - 1).toNat = k - 1 := by omega
        have z3 : 0 ≤ (k : Int) - 1 := by omega
        have z4 : (k : Int) - 1 < l.length := by omega
        have z5 : 1 ≤ (k : Int) := by omega
        refine wp_region_plan [.val (.int .i64 ((k : Int))), .val (.bool true), .val (.bool true), .val (.slice (some ⟨b1, q1, none⟩) l.length c), .val (.int .i64 ((k : Int))), .val (.int .i64 ((k : Int) - 1)), .val (.pointer (some ⟨b1, q1 + (k - 1) * 6, none⟩)), .val (.pointer (some ⟨b1, q1 + (k - 1) * 6, none⟩)), .val (.agg #[.int .i64 p', .int .i64 o', .int .i64 f']), .val (.pointer (some ⟨wr.heap.size, 0, none⟩)), .val (.agg #[.int .i64 p', .int .i64 o', .int .i64 f]), .val (.bool false), .val (.bool false)] (by kernel_rfl) (by kernel_rfl) (by kernel_rfl) ?_
        intro X
        iterate 13
          refine plan_val (by kernel_rfl) (fun u hu => ?_) ?_
          · obtain ⟨hc, hf, hz⟩ := hu.of_drew.facts
            go_simp
          simp only [Act.put, List.setIfInBounds_toArray, List.set_cons_zero, List.set_cons_succ, Nat.reduceAdd]
        refine plan_end ?_
        intro w' hB
        have hk := hB.calm.of_drew
        clear hB
        obtain ⟨x0, x1, x2, x3, x4, x5, hxs⟩ := row6 ((hk.block hgs).trans HX.out)
        replace HX := Lib.hid ((hk.block hgs).trans HX.out)
        replace HT2 := Lib.hid (HT2.out.calm hk)
        replace hv1 := hv1.call hk
        clear hk hgs
        clear z0 z1 z2 z3 z4 z5
        go_wp2_with (first
          | (go_at_call 34; (with_reducible refine (cA _ hv1).mono ?_); rintro e w7 ⟨rfl, hb⟩; obtain ⟨x0, x1, x2, x3, x4, x5, hxs⟩ := row6 ((hb.block hxs).trans HX.out); replace HX := Lib.hid ((hb.block (row6 HX.out).2.2.2.2.2.2).trans HX.out); have HY := Lib.hid (heap_new w7 (.cells #[.int .i64 u1, .int .i64 u2, .int .i64 u3, .int .i64 u4, .int .i64 u5, .string s1] 43 (0, 0))); replace HT2 := Lib.hid ((HT2.out.calm hb).calm ((Calm.refl _).alloc (.cells #[.int .i64 u1, .int .i64 u2, .int .i64 u3, .int .i64 u4, .int .i64 u5, .string s1] 43 (0, 0)))); have hv3 := (hv1.call hb).alloc (.cells #[.int .i64 u1, .int .i64 u2, .int .i64 u3, .int .i64 u4, .int .i64 u5, .string s1] 43 (0, 0)); have hxs7 : wr.heap.size < w7.heap.size := hxs; clear hb cA hv1)
          | (go_at_call 34; (with_reducible refine (cB _ hv3).mono ?_); rintro e w8 ⟨rfl, hb⟩; obtain ⟨x0, x1, x2, x3, x4, x5, hxs⟩ := row6 ((hb.block (Nat.lt_of_lt_of_le hxs (by simp))).trans (heap_past (.cells #[.int .i64 u1, .int .i64 u2, .int .i64 u3, .int .i64 u4, .int .i64 u5, .string s1] 43 (0, 0)) HX.out)); obtain ⟨y0, y1, y2, y3, y4, y5, hys⟩ := row6 ((hb.block (row6 HY.out).2.2.2.2.2.2).trans HY.out); replace HT2 := Lib.hid ((HT2.out.calm hb).calm ((Calm.refl _).alloc (.cells #[.int .i64 v1, .int .i64 v2, .int .i64 v3, .int .i64 v4, .int .i64 v5, .string s2] 43 (0, 0)))); have hv5 := (hv3.call hb).alloc (.cells #[.int .i64 v1, .int .i64 v2, .int .i64 v3, .int .i64 v4, .int .i64 v5, .string s2] 43 (0, 0)); clear hb cB HY HX)
          | (at_builtin; refine wpList_append_chg rfl _ _ rfl w.heap.size _ _ rfl (HT2.out.calm ((Calm.refl _).alloc (.cells #[.int .i64 p', .int .i64 o', .int .i64 f, .bool i1, .bool i2, .string s1, .string s2] 33 (0, 0)))) _ _ ⟨p', o', f, i1, i2, s1, s2⟩ _ rfl (heap_two _ _ _) hl1.out (hv5.alloc (.cells #[.int .i64 p', .int .i64 o', .int .i64 f, .bool i1, .bool i2, .string s1, .string s2] 33 (0, 0))).size ?_; intro v' w9 ho9 hk9; have HT9 := Lib.hid ho9; have hv9 := hk9 w (Nat.le_refl _) (hv5.alloc (.cells #[.int .i64 p', .int .i64 o', .int .i64 f, .bool i1, .bool i2, .string s1, .string s2] 33 (0, 0))); clear ho9 hk9))
        go_roundw
        case rel => exact ⟨k + 1, by omega, by go_num, hv9, show OwnG _ _ _ _ _ _ _ from by rw [HFF.out]; exact HT9.out⟩
        case measure => simp [intOf]; omega
open Go.ChangeShapes Go.WideShapes Go.ChangeAt Go.RowKit
set_option maxHeartbeats 4000000 in
theorem cloneC_any (A : Option Addr) (c : Nat) (l : List Chg) (w : World) (hn : l.length ≤ 1000000) (hL : LiesC w A l) :
    Calls Try.prog 39 #[.slice A l.length c] w fun e w' => ∃ v, e = .returned v ∧ OwnC w.heap.size w' v l ∧ Calm w w' := by
  rcases A with _ | ⟨b, q, sp⟩
  · have h0 : l = [] := by
      rcases Nat.eq_zero_or_pos l.length with h | h
      · exact List.eq_nil_of_length_eq_zero h
      · obtain ⟨_, _, h1, _⟩ := hL h; cases h1
    subst h0
    have q22 : ∀ (w : World) (n c n' c' : Nat), (binOp .eql 23 (.slice none n c) (.slice none n' c')).run Try.prog w = .ok (.bool true) w := fun w n c n' c' => Lib.run_eql_slice_nil w _ _ none n c n' c' Try.underlying23
    go_enter Try.func39, Try.ntmps39
    go_wp2_with fail
    go_ret
    exact ⟨_, rfl, OwnG.nil _ _ _ _ _, Calm.refl _⟩
  · obtain ⟨i0, hi, hz0, hz1, hz2⟩ := info_parts infoChg
    have q22 : ∀ (w : World) (a : Addr) (n c n' c' : Nat), (binOp .eql 23 (.slice (some a) n c) (.slice none n' c')).run Try.prog w = .ok (.bool false) w := fun w a n c n' c' => Lib.run_eql_slice_nil w _ _ (some a) n c n' c' Try.underlying23
    have hsrc : Hid (∀ j v, (cvs chgV l)[j]? = some v → (w.alloc (.cells #[] 33)).cell? ((⟨b, q, sp⟩ : Addr).add j) = some v) := show ∀ _, _ from fun j v hj => by
      have hlt : j < l.length * 7 := by rw [← cvs_len chgV_len]; exact (List.getElem?_eq_some_iff.1 hj).1
      obtain ⟨b', q', hA, hb, _⟩ := hL (by omega)
      injection hA with hA
      injection hA with h1 h2 h3
      subst h1; subst h2; subst h3
      have := (LiesG.cells chgV_len (by omega) hL j v hj).2
      have e : (⟨b, q, none⟩ : Addr).add j = ⟨b, q + j, none⟩ := by unfold Addr.add; split <;> simp_all
      rw [e, World.cell?_alloc_lt _ _ _ hb]; exact this
    have HLEN := Lib.hid (cvs_len chgV_len l)
    have hone : Hid (∀ u ∈ cvs chgV l, u.oneCell' = true) := cvs_one chgV_one l
    have hbig : l.length * 64 ≤ 140737488355328 := by omega
    have hmax : l.length ≤ maxLen := by unfold maxLen; omega
    clear hL
    go_enter Try.func39, Try.ntmps39
    go_wp2_with (at_builtin; refine wpList_append_own _ rfl _ _ 23 rfl w.heap.size 33 i0 _ 7 64 Try.underlying23 hi hz0 hz1 hz2 rfl (by decide) _ _ _ rfl (World.ownsRow_made w #[] 0 (Nat.le_refl _) (Nat.zero_le _) (by simp)) ⟨b, q, sp⟩ l.length c (cvs chgV l) rfl HLEN.out hsrc.out hone.out (by rw [Nat.zero_add]; exact hmax) (by rw [Nat.zero_add]; exact hbig) (by simp) ?_; intro v' w1 hown hgrow _)
    have hO : OwnC w.heap.size w1 v' l := by unfold OwnC OwnG; simpa using hown
    have hC : Calm w w1 := Below.grown ((Calm.refl w).alloc _) hgrow (by simp) (by intro k hk; cases hk; exact Nat.le_refl _)
    clear hown hgrow
    go_wp2_with fail
    go_ret
    exact ⟨_, rfl, hO, hC⟩
def bkC (c : Chg) : Nat → Chg
 | 0 => c
 | 1 => { c with hd := c.hs }
 | 2 => { c with hd := c.hs, ws := c.vs }
 | 3 => { c with hd := c.hs, ws := c.vs, hs := c.hd }
 |_ => revC c
def bkL (l : List Chg) (k : Nat) : List Chg := revL (l.take k) ++ l.drop k
theorem bkL_len (l : List Chg) {k : Nat} (hk : k ≤ l.length) : (bkL l k).length = l.length := by
 unfold bkL; rw [List.length_append, rev_len, List.length_take, List.length_drop]; omega
theorem bkL_at {l : List Chg} {k : Nat} {c : Chg} (h : l[k]? = some c) : (bkL l k)[k]? = some c := by
 obtain ⟨hk, rfl⟩ := List.getElem?_eq_some_iff.1 h
 unfold bkL
 rw [List.getElem?_append_right (by rw [rev_len, List.length_take]; omega), rev_len, List.length_take, Nat.min_eq_left (by omega), Nat.sub_self, List.getElem?_drop]
 exact h
theorem bkL_step {l : List Chg} {k : Nat} {c : Chg} (h : l[k]? = some c) : (bkL l k).set k (revC c) = bkL l (k + 1) := by
 have h2 := rev_take h
 obtain ⟨hk, rfl⟩ := List.getElem?_eq_some_iff.1 h
 unfold bkL
 rw [h2, List.drop_eq_getElem_cons hk, List.set_append_right _ _ (by rw [rev_len, List.length_take]; omega), rev_len, List.length_take, Nat.min_eq_left (by omega), Nat.sub_self, List.set_cons_zero, List.append_assoc]
 rfl
theorem bkL_zero (l : List Chg) : bkL l 0 = l := by unfold bkL; simp [revL]
theorem bkL_all (l : List Chg) : bkL l l.length = revL l := by unfold bkL; simp
def BkS (w : World) (V : Value) (M : List Chg) (k : Nat) (c : Chg) (gx : Nat) (t : TypeId) : Nat → (Nat → Value) → World → Prop := fun m _ u => Calm w u ∧ u.heap[gx]? = some (.cells (chgV c).toArray t (0, 0)) ∧ gx < u.heap.size ∧ OwnC w.heap.size u V (M.set k (bkC c m))
theorem BkS.stay {w : World} {V : Value} {M : List Chg} {k : Nat} {c : Chg} {gx : Nat} {t : TypeId} : ∀ m Y u u', BkS w V M k c gx t m Y u → Calm u u' → BkS w V M k c gx t m Y u' :=
 fun _ _ _ _ ⟨h1, h2, h3, h4⟩ hb => ⟨h1.call hb, (hb.block h3).trans h2, Nat.lt_of_lt_of_le h3 hb.size, OwnG.calm h4 hb⟩
/-- One cell of the turned change is stored. -/
theorem BkS.put {w u : World} {g n cap : Nat} {M : List Chg} {k : Nat} {c : Chg} {gx : Nat} {t : TypeId} {Y Y' : Nat → Value} {m j : Nat} {v : Value} (h : BkS w (.slice (some ⟨g, 0, none⟩) n cap) M k c gx t m Y u) (hk : k < M.length) (hg : g ≠ gx) (hj : j < 7)
    (hx : chgV (bkC c (m + 1)) = (chgV (bkC c m)).set j v) : BkS w (.slice (some ⟨g, 0, none⟩) n cap) M k c gx t (m + 1) Y' (u.setCell ⟨g, k * 7 + j, none⟩ v) := by
  obtain ⟨h1, h2, h3, h4⟩ := h
  have hlt := h4.lt g rfl
  refine ⟨h1.setCell (p := ⟨g, k * 7 + j, none⟩) hlt.1 v, ?_, by simpa using h3, ?_⟩
  · rw [← h2]
    exact heap_setCell_other _ _ _ _ fun e => hg e.symm
  · have h5 := OwnG.set (x := bkC c (m + 1)) (u := v) chgV_len h4 (i := k) (by rw [List.length_set]; exact hk) hj (by rw [List.getElem_set_self]; exact hx)
    rwa [List.set_set] at h5
theorem BkS.cell {w u : World} {g n cap : Nat} {M : List Chg} {k : Nat} {c : Chg} {gx : Nat} {t : TypeId} {Y : Nat → Value} {m : Nat} (h : BkS w (.slice (some ⟨g, 0, none⟩) n cap) M k c gx t m Y u) (hk : k < M.length) {j : Nat} (hj : j < 7) :
    u.cell? ⟨g, k * 7 + j, none⟩ = (chgV (bkC c m))[j]? ∧ u.frozen? ⟨g, k * 7 + j, none⟩ = false ∧ g < u.heap.size := by
  obtain ⟨h1, h2, h3, h4⟩ := h
  have h5 := OwnG.cell chgV_len h4 (i := k) (by rw [List.length_set]; exact hk)
  have h6 := h5.1 j hj
  rw [List.getElem_set_self] at h6
  exact ⟨h6, OwnG.frozen h4 _, h5.2.2.1⟩
set_option maxHeartbeats 16000000 in
theorem refBack_any (A : Option Addr) (c : Nat) (l : List Chg) (w : World) (hn : l.length ≤ 400) (hL : LiesC w A l) :
    Calls Try.prog 18 #[.slice A l.length c] w (CgEnd (revL l) w) := by
  have HN := Lib.hid hn
  have cC := fun u (hu : Calm w u) => cloneC_any A c l u (by omega) (hL.calm hu)
  have hn : l.length ≤ 9223372036854775807 := by omega
  go_enter Try.func18, Try.ntmps18
  go_upto_region 2 with (go_at_call 39; (with_reducible refine (cC _ (Calm.refl w)).mono ?_); rintro e w1 ⟨v, rfl, ho, hb⟩; have HO := Lib.hid ho; have hu := hb; obtain ⟨AV, cV, rfl, -, -, -⟩ := chg_own ho; clear ho hb cC)
  go_wp2_with fail
  go_loopw [10] (fun i wr => ∃ k : Nat, k ≤ l.length ∧ i = .int .i64 k ∧ Calm w wr ∧ Hid (OwnC w.heap.size wr (.slice AV l.length cV) (bkL l k))) (fun i _ => l.length - (intOf i).toNat)
  case atStart => exact ⟨0, Nat.zero_le _, rfl, hu, show OwnG _ _ _ _ _ _ _ from by rw [bkL_zero]; exact HO.out⟩
  case round =>
    obtain ⟨k, hk, rfl, hv, HT⟩ := hrel
    clear hu HO
    by_cases hlt : k < l.length
    rotate_left
    · have hkl : k = l.length := by omega
      have HT3 : Hid (OwnC w.heap.size wr (.slice AV l.length cV) (revL l)) := show OwnC _ _ _ _ from by
        have := HT.out; rw [hkl, bkL_all] at this; exact this
      clear HT hkl
      go_wp2_with fail
      go_ret
      exact ⟨_, rfl, HT3.out, hv⟩
    obtain ⟨b, q, p, o, f, hd, hs, ws, vs, rfl, hb, HE, c0, c1, c2, c3, c4, c5, c6⟩ := chg_get (hL.calm hv) hlt
    have hML := bkL_len l hk
    obtain ⟨g, cap, hV⟩ := OwnG.some_ HT.out (by rw [hML]; omega)
    rw [hML] at hV
    injection hV with hV1 hV2 hV3
    subst hV1; subst hV3
    have hS0 := bkL_at HE.out
    have hS1 := Lib.hid (bkL_step HE.out)
    have hset : (bkL l k).set k (bkC ⟨p, o, f, hd, hs, ws, vs⟩ 0) = bkL l k := by
      show (bkL l k).set k ⟨p, o, f, hd, hs, ws, vs⟩ = _
      obtain ⟨h1, h2⟩ := List.getElem?_eq_some_iff.1 hS0
      rw [← h2, List.set_getElem_self]
    have hkM : k < (bkL l k).length := by rw [hML]; exact hlt
    generalize bkL l k = M at HT hset hkM hS1 hML
    have hgl := (HT.out.lt g rfl)
    have hv1 := hv.alloc (.cells #[.int .i64 p, .int .i64 o, .int .i64 f, .bool hd, .bool hs, .string ws, .string vs] 33 (0, 0))
    have hx := heap_new wr (.cells #[.int .i64 p, .int .i64 o, .int .i64 f, .bool hd, .bool hs, .string ws, .string vs] 33 (0, 0))
    have HT2 := HT.out.calm ((Calm.refl wr).alloc (.cells #[.int .i64 p, .int .i64 o, .int .i64 f, .bool hd, .bool hs, .string ws, .string vs] 33 (0, 0)))
    have hgx : g ≠ wr.heap.size := by omega
    have hB0 : BkS w (.slice (some ⟨g, 0, none⟩) l.length cV) M k ⟨p, o, f, hd, hs, ws, vs⟩ wr.heap.size 33 0 (fun _ => undef) (wr.alloc (.cells #[.int .i64 p, .int .i64 o, .int .i64 f, .bool hd, .bool hs, .string ws, .string vs] 33 (0, 0))) := ⟨hv1, hx, by simp, by rw [hset]; exact HT2⟩
    have HB0 := Lib.hid hB0
    have HKM := Lib.hid hkM
    clear HT HT2 hx hB0 hset hS0 HE hML hgl hkM hv1
    go_upto_region 5 with fail
    generalize wr.alloc (.cells #[.int .i64 p, .int .i64 o, .int .i64 f, .bool hd, .bool hs, .string ws, .string vs] 33 (0, 0)) = w2 at HB0 ⊢
    refine wp_region_stages [.val (.slice (some ⟨g, 0, none⟩) l.length cV), .val (.int .i64 (k : Int)), .val (.slice (some ⟨g, 0, none⟩) l.length cV), .val (.int .i64 (k : Int)), .val (.slice (some ⟨g, 0, none⟩) l.length cV), .val (.int .i64 (k : Int)), .val (.slice (some ⟨g, 0, none⟩) l.length cV), .val (.int .i64 (k : Int)), .val (.pointer (some ⟨wr.heap.size, 4, none⟩)), .val (.bool hs), .val (.pointer (some ⟨wr.heap.size, 6, none⟩)), .val (.string vs), .val (.pointer (some ⟨wr.heap.size, 3, none⟩)), .val (.bool hd), .val (.pointer (some ⟨wr.heap.size, 5, none⟩)), .val (.string ws), .val (.pointer (some ⟨g, k * 7, none⟩)), .val (.pointer (some ⟨g, k * 7 + 3, none⟩)), .late, .val (.pointer (some ⟨g, k * 7, none⟩)), .val (.pointer (some ⟨g, k * 7 + 5, none⟩)), .late [18], .val (.pointer (some ⟨g, k * 7, none⟩)), .val (.pointer (some ⟨g, k * 7 + 4, none⟩)), .late [21], .val (.pointer (some ⟨g, k * 7, none⟩)), .val (.pointer (some ⟨g, k * 7 + 6, none⟩)), .late [24]] [18, 21, 24, 27]
      (ChainS 4 (BkS w (.slice (some ⟨g, 0, none⟩) l.length cV) M k ⟨p, o, f, hd, hs, ws, vs⟩ wr.heap.size 33)) (by kernel_rfl) (by kernel_rfl) (by kernel_rfl)
      (ChainS.stay BkS.stay) (fun Y => ChainS.start (late := [18, 21, 24, 27]) (BkS.stay 0 (fun _ => undef) w2 _ HB0.out ((Calm.refl w2).drew))) (fun Y => ?_)
    iterate 8
      refine planS_val (by kernel_rfl) (fun L u hb hS => ?_) ?_
      · clear hS hb
        go_simp
      simp only [Act.put, List.setIfInBounds_toArray, List.set_cons_zero, List.set_cons_succ, Nat.reduceAdd]
    iterate 8
      refine planS_val (by kernel_rfl) (fun L u hb hS => ?_) ?_
      · obtain ⟨k9, -, hA⟩ := ChainS.any (late := [18, 21, 24, 27]) hS
        obtain ⟨x0, x1, x2, x3, x4, x5, x6, hxs⟩ := row7 (show u.heap[wr.heap.size]? = some (.cells #[.int .i64 p, .int .i64 o, .int .i64 f, .bool hd, .bool hs, .string ws, .string vs] 33 (0, 0)) from hA.2.1)
        clear hS hb hA
        go_simp
      simp only [Act.put, List.setIfInBounds_toArray, List.set_cons_zero, List.set_cons_succ, Nat.reduceAdd]
    iterate 2
      refine planS_val (by kernel_rfl) (fun L u hb hS => ?_) ?_
      · clear hS hb
        go_simp
      simp only [Act.put, List.setIfInBounds_toArray, List.set_cons_zero, List.set_cons_succ, Nat.reduceAdd]
    refine planS_late (fun L u hi hb hS => ?_) ?_
    · obtain ⟨hA, hn⟩ := ChainS.step (late := [18, 21, 24, 27]) (m := 0) hS rfl hi (fun j h0 h => by exact absurd h0 (Nat.lt_irrefl _)) (by decide)
      have HP : Hid (∀ y, ChainS 4 (BkS w (.slice (some ⟨g, 0, none⟩) l.length cV) M k ⟨p, o, f, hd, hs, ws, vs⟩ wr.heap.size 33) ([18, 21, 24, 27].map (updB L 18)) (updV Y 18 y) (u.setCell ⟨g, k * 7 + 3, none⟩ (.bool hs))) := show ∀ _, _ from fun y => hn y _ (BkS.put (j := 3) (m := 0) hA HKM.out hgx (by decide) rfl)
      obtain ⟨y0, y1, y2⟩ := BkS.cell hA HKM.out (j := 3) (by decide)
      simp only [chgV, bkC, List.getElem?_cons_succ, List.getElem?_cons_zero] at y0
      clear hS hb hn hA hi
      go_wp2_with fail
      exact ⟨undef, HP.out undef⟩
    simp only [Act.put]
    iterate 2
      refine planS_val (by kernel_rfl) (fun L u hb hS => ?_) ?_
      · clear hS hb
        go_simp
      simp only [Act.put, List.setIfInBounds_toArray, List.set_cons_zero, List.set_cons_succ, Nat.reduceAdd]
    refine planS_late (fun L u hi hb hS => ?_) ?_
    · obtain ⟨hA, hn⟩ := ChainS.step (late := [18, 21, 24, 27]) (m := 1) hS rfl hi (fun j _ h => by cases h; exact hb 18 (by simp)) (by decide)
      have HP : Hid (∀ y, ChainS 4 (BkS w (.slice (some ⟨g, 0, none⟩) l.length cV) M k ⟨p, o, f, hd, hs, ws, vs⟩ wr.heap.size 33) ([18, 21, 24, 27].map (updB L 21)) (updV Y 21 y) (u.setCell ⟨g, k * 7 + 5, none⟩ (.string vs))) := show ∀ _, _ from fun y => hn y _ (BkS.put (j := 5) (m := 1) hA HKM.out hgx (by decide) rfl)
      obtain ⟨y0, y1, y2⟩ := BkS.cell hA HKM.out (j := 5) (by decide)
      simp only [chgV, bkC, List.getElem?_cons_succ, List.getElem?_cons_zero] at y0
      clear hS hb hn hA hi
      go_wp2_with fail
      exact ⟨undef, HP.out undef⟩
    simp only [Act.put]
    iterate 2
      refine planS_val (by kernel_rfl) (fun L u hb hS => ?_) ?_
      · clear hS hb
        go_simp
      simp only [Act.put, List.setIfInBounds_toArray, List.set_cons_zero, List.set_cons_succ, Nat.reduceAdd]
    refine planS_late (fun L u hi hb hS => ?_) ?_
    · obtain ⟨hA, hn⟩ := ChainS.step (late := [18, 21, 24, 27]) (m := 2) hS rfl hi (fun j _ h => by cases h; exact hb 21 (by simp)) (by decide)
      have HP : Hid (∀ y, ChainS 4 (BkS w (.slice (some ⟨g, 0, none⟩) l.length cV) M k ⟨p, o, f, hd, hs, ws, vs⟩ wr.heap.size 33) ([18, 21, 24, 27].map (updB L 24)) (updV Y 24 y) (u.setCell ⟨g, k * 7 + 4, none⟩ (.bool hd))) := show ∀ _, _ from fun y => hn y _ (BkS.put (j := 4) (m := 2) hA HKM.out hgx (by decide) rfl)
      obtain ⟨y0, y1, y2⟩ := BkS.cell hA HKM.out (j := 4) (by decide)
      simp only [chgV, bkC, List.getElem?_cons_succ, List.getElem?_cons_zero] at y0
      clear hS hb hn hA hi
      go_wp2_with fail
      exact ⟨undef, HP.out undef⟩
    simp only [Act.put]
    iterate 2
      refine planS_val (by kernel_rfl) (fun L u hb hS => ?_) ?_
      · clear hS hb
        go_simp
      simp only [Act.put, List.setIfInBounds_toArray, List.set_cons_zero, List.set_cons_succ, Nat.reduceAdd]
    refine planS_late (fun L u hi hb hS => ?_) ?_
    · obtain ⟨hA, hn⟩ := ChainS.step (late := [18, 21, 24, 27]) (m := 3) hS rfl hi (fun j _ h => by cases h; exact hb 24 (by simp)) (by decide)
      have HP : Hid (∀ y, ChainS 4 (BkS w (.slice (some ⟨g, 0, none⟩) l.length cV) M k ⟨p, o, f, hd, hs, ws, vs⟩ wr.heap.size 33) ([18, 21, 24, 27].map (updB L 27)) (updV Y 27 y) (u.setCell ⟨g, k * 7 + 6, none⟩ (.string ws))) := show ∀ _, _ from fun y => hn y _ (BkS.put (j := 6) (m := 3) hA HKM.out hgx (by decide) rfl)
      obtain ⟨y0, y1, y2⟩ := BkS.cell hA HKM.out (j := 6) (by decide)
      simp only [chgV, bkC, List.getElem?_cons_succ, List.getElem?_cons_zero] at y0
      clear hS hb hn hA hi
      go_wp2_with fail
      exact ⟨undef, HP.out undef⟩
    simp only [Act.put]
    refine planS_end ?_
    intro w6 hS
    have hE := ChainS.done (late := [18, 21, 24, 27]) hS
    have HE6 := Lib.hid (show OwnC w.heap.size w6 _ (M.set k (revC ⟨p, o, f, hd, hs, ws, vs⟩)) from hE.2.2.2)
    have hv6 := hE.1
    clear hS hE HB0
    go_wp2_with fail
    go_roundw
    case rel => exact ⟨k + 1, by omega, by go_num, hv6, show OwnG _ _ _ _ _ _ _ from by rw [← hS1.out]; exact HE6.out⟩
    case measure => simp [intOf]; omega
open Go.ChangeShapes Go.WideShapes Go.ChangeAt Go.RowKit
set_option maxHeartbeats 16000000 in
theorem changeSays_walk (A : Option Addr) (d : Nat) (l : List El) (a b : Int) (B : Option Addr) (cb : Nat) (c : List Chg) (w : World) (hn : l.length ≤ 9223372036854775807) (hm : c.length ≤ 9223372036854775807) (hL : Lies w A l) (hC : LiesC w B c) :
    Calls Try.prog 3 #[.slice A l.length d, .int .i64 a, .int .i64 b, .slice B c.length cb] w fun e w' => e = .returned (.bool true) ∧ Calm w w' := by
  have hu := Calm.refl w
  have HL := Lib.hid hL
  have HC := Lib.hid hC
  clear hL hC
  have cR := fun u (hu : Calm w u) => refRun_any A d l u hn (HL.out.calm hu)
  have cS := fun u (hu : Calm w u) => refChanges_any B cb c u hm (HC.out.calm hu)
  have cC := fun u (hu : Calm w u) => chCheck_any B cb c u hm (HC.out.calm hu)
  have cK := fun u (hu : Calm w u) => chBack_any B cb c u hm (HC.out.calm hu)
  have cB := fun u (hu : Calm w u) => chBet_any A d l a b u hn (HL.out.calm hu)
  by_cases hE : runErr l = 0
  · have hG := runErr_zero.1 hE
    have cBr := fun u (hu : Calm w u) => refBet_any A d l a b u hG (HL.out.calm hu)
    rw [bst_bet hG] at cBr
    simp only [hE, if_pos] at cB cR
    have gX := bet_good hG a b
    generalize betL l a b = X at cB cBr gX
    have cQ := fun A c A' c' u (h : LiesC u A X) (h' : LiesC u A' X) => equalC_self A A' c c' X u (by have := gX.1; omega) h h'
    clear hG gX hE
    by_cases hF : chErr c = 0
    · have hGC := chErr_zero.1 hF
      have cKr := fun u (hu : Calm w u) => refBack_any B cb c u hGC.1 (HC.out.calm hu)
      simp only [hF, if_pos] at cK cS cC
      have hRl : (revL c).length ≤ 9223372036854775807 := by rw [rev_len]; have := hGC.1; omega
      generalize revL c = R at cK cKr hRl
      have cQ2 := fun A c A' c' u (h : LiesC u A R) (h' : LiesC u A' R) => equalC_self A A' c c' R u hRl h h'
      clear hGC hRl hF HL HC
      go_enter Try.func3, Try.ntmps3
      go_wp2_with (first
        | (go_at_call 11; (with_reducible refine (cB _ hu).mono ?_); rintro e wA2 ⟨v, rfl, ho, hb⟩; obtain ⟨A2, c2, rfl, kH2, H2⟩ := lies_own ho rfl; replace hu := hu.call hb; clear ho hb cB)
        | (go_at_call 12; (with_reducible refine (cK _ hu).mono ?_); rintro e wA3 ⟨v, rfl, ho, hb⟩; obtain ⟨A3, c3, rfl, kH3, H3⟩ := lies_own ho rfl; replace hu := hu.call hb; replace H2 := Lib.hid (H2.out.calm hb); clear ho hb cK)
        | (go_at_call 13; (with_reducible refine (cR _ hu).mono ?_); rintro e wn ⟨rfl, hb⟩; replace hu := hu.call hb; replace H2 := Lib.hid (H2.out.calm hb); replace H3 := Lib.hid (H3.out.calm hb); clear hb cR)
        | (go_at_call 15; (with_reducible refine (cBr _ hu).mono ?_); rintro e wA4 ⟨v, rfl, ho, hb⟩; obtain ⟨A4, c4, rfl, kH4, H4⟩ := lies_own ho rfl; replace hu := hu.call hb; replace H2 := Lib.hid (H2.out.calm hb); replace H3 := Lib.hid (H3.out.calm hb); clear ho hb cBr)
        | (go_at_call 14; (with_reducible refine (cQ _ _ _ _ _ H2.out H4.out).mono ?_); rintro e wq ⟨rfl, hb⟩; replace hu := hu.call hb; replace H3 := Lib.hid (H3.out.calm hb); clear hb cQ)
        | (go_at_call 16; (with_reducible refine (cS _ hu).mono ?_); rintro e wn ⟨rfl, hb⟩; replace hu := hu.call hb; replace H3 := Lib.hid (H3.out.calm hb); clear hb cS)
        | (go_at_call 17; (with_reducible refine (cC _ hu).mono ?_); rintro e wn ⟨rfl, hb⟩; replace hu := hu.call hb; replace H3 := Lib.hid (H3.out.calm hb); clear hb cC)
        | (go_at_call 18; (with_reducible refine (cKr _ hu).mono ?_); rintro e wA5 ⟨v, rfl, ho, hb⟩; obtain ⟨A5, c5, rfl, kH5, H5⟩ := lies_own ho rfl; replace hu := hu.call hb; replace H3 := Lib.hid (H3.out.calm hb); clear ho hb cKr)
        | (go_at_call 14; (with_reducible refine (cQ2 _ _ _ _ _ H3.out H5.out).mono ?_); rintro e wq ⟨rfl, hb⟩; replace hu := hu.call hb; clear hb cQ2))
      go_ret
      exact ⟨rfl, hu⟩
    · simp only [if_neg hF] at cK
      have b1 : (chErr c != 0) = true := by simpa using hF
      have b2 : (chErr c != chErr c) = false := by simp
      have b3 : (chErr c == chErr c) = true := by simp
      have b4 : (chErr c == 0) = false := by simpa using hF
      generalize chErr c = F at *
      clear hF HL HC
      go_enter Try.func3, Try.ntmps3
      go_wp2_with (first
        | (go_at_call 11; (with_reducible refine (cB _ hu).mono ?_); rintro e wA2 ⟨v, rfl, ho, hb⟩; obtain ⟨A2, c2, rfl, kH2, H2⟩ := lies_own ho rfl; replace hu := hu.call hb; clear ho hb cB)
        | (go_at_call 12; (with_reducible refine (cK _ hu).mono ?_); rintro e wA3 ⟨v, rfl, ho, hb⟩; obtain ⟨A3, c3, rfl, kH3, H3⟩ := lies_own ho (rfl : _ = 0); replace hu := hu.call hb; replace H2 := Lib.hid (H2.out.calm hb); clear ho hb cK)
        | (go_at_call 13; (with_reducible refine (cR _ hu).mono ?_); rintro e wn ⟨rfl, hb⟩; replace hu := hu.call hb; replace H2 := Lib.hid (H2.out.calm hb); replace H3 := Lib.hid (H3.out.calm hb); clear hb cR)
        | (go_at_call 15; (with_reducible refine (cBr _ hu).mono ?_); rintro e wA4 ⟨v, rfl, ho, hb⟩; obtain ⟨A4, c4, rfl, kH4, H4⟩ := lies_own ho rfl; replace hu := hu.call hb; replace H2 := Lib.hid (H2.out.calm hb); replace H3 := Lib.hid (H3.out.calm hb); clear ho hb cBr)
        | (go_at_call 14; (with_reducible refine (cQ _ _ _ _ _ H2.out H4.out).mono ?_); rintro e wq ⟨rfl, hb⟩; replace hu := hu.call hb; replace H3 := Lib.hid (H3.out.calm hb); clear hb cQ)
        | (go_at_call 16; (with_reducible refine (cS _ hu).mono ?_); rintro e wn ⟨rfl, hb⟩; replace hu := hu.call hb; replace H3 := Lib.hid (H3.out.calm hb); clear hb cS)
        | (go_at_call 17; (with_reducible refine (cC _ hu).mono ?_); rintro e wn ⟨rfl, hb⟩; replace hu := hu.call hb; replace H3 := Lib.hid (H3.out.calm hb); clear hb cC))
      go_ret
      exact ⟨rfl, hu⟩
  · simp only [if_neg hE] at cB
    have d1 : (runErr l != 0) = true := by simpa using hE
    have d2 : (runErr l != runErr l) = false := by simp
    generalize runErr l = E at *
    clear hE
    by_cases hF : chErr c = 0
    · have hGC := chErr_zero.1 hF
      have cKr := fun u (hu : Calm w u) => refBack_any B cb c u hGC.1 (HC.out.calm hu)
      simp only [hF, if_pos] at cK cS cC
      have hRl : (revL c).length ≤ 9223372036854775807 := by rw [rev_len]; have := hGC.1; omega
      generalize revL c = R at cK cKr hRl
      have cQ2 := fun A c A' c' u (h : LiesC u A R) (h' : LiesC u A' R) => equalC_self A A' c c' R u hRl h h'
      clear hGC hRl hF HL HC
      go_enter Try.func3, Try.ntmps3
      go_wp2_with (first
        | (go_at_call 11; (with_reducible refine (cB _ hu).mono ?_); rintro e wA2 ⟨v, rfl, ho, hb⟩; obtain ⟨A2, c2, rfl, kH2, H2⟩ := lies_own ho (rfl : _ = 0); replace hu := hu.call hb; clear ho hb cB)
        | (go_at_call 12; (with_reducible refine (cK _ hu).mono ?_); rintro e wA3 ⟨v, rfl, ho, hb⟩; obtain ⟨A3, c3, rfl, kH3, H3⟩ := lies_own ho rfl; replace hu := hu.call hb; replace H2 := Lib.hid (H2.out.calm hb); clear ho hb cK)
        | (go_at_call 13; (with_reducible refine (cR _ hu).mono ?_); rintro e wn ⟨rfl, hb⟩; replace hu := hu.call hb; replace H2 := Lib.hid (H2.out.calm hb); replace H3 := Lib.hid (H3.out.calm hb); clear hb cR)
        | (go_at_call 16; (with_reducible refine (cS _ hu).mono ?_); rintro e wn ⟨rfl, hb⟩; replace hu := hu.call hb; replace H3 := Lib.hid (H3.out.calm hb); clear hb cS)
        | (go_at_call 17; (with_reducible refine (cC _ hu).mono ?_); rintro e wn ⟨rfl, hb⟩; replace hu := hu.call hb; replace H3 := Lib.hid (H3.out.calm hb); clear hb cC)
        | (go_at_call 18; (with_reducible refine (cKr _ hu).mono ?_); rintro e wA5 ⟨v, rfl, ho, hb⟩; obtain ⟨A5, c5, rfl, kH5, H5⟩ := lies_own ho rfl; replace hu := hu.call hb; replace H3 := Lib.hid (H3.out.calm hb); clear ho hb cKr)
        | (go_at_call 14; (with_reducible refine (cQ2 _ _ _ _ _ H3.out H5.out).mono ?_); rintro e wq ⟨rfl, hb⟩; replace hu := hu.call hb; clear hb cQ2))
      go_ret
      exact ⟨rfl, hu⟩
    · simp only [if_neg hF] at cK
      have b1 : (chErr c != 0) = true := by simpa using hF
      have b2 : (chErr c != chErr c) = false := by simp
      have b3 : (chErr c == chErr c) = true := by simp
      have b4 : (chErr c == 0) = false := by simpa using hF
      generalize chErr c = F at *
      clear hF HL HC
      go_enter Try.func3, Try.ntmps3
      go_wp2_with (first
        | (go_at_call 11; (with_reducible refine (cB _ hu).mono ?_); rintro e wA2 ⟨v, rfl, ho, hb⟩; obtain ⟨A2, c2, rfl, kH2, H2⟩ := lies_own ho (rfl : _ = 0); replace hu := hu.call hb; clear ho hb cB)
        | (go_at_call 12; (with_reducible refine (cK _ hu).mono ?_); rintro e wA3 ⟨v, rfl, ho, hb⟩; obtain ⟨A3, c3, rfl, kH3, H3⟩ := lies_own ho (rfl : _ = 0); replace hu := hu.call hb; replace H2 := Lib.hid (H2.out.calm hb); clear ho hb cK)
        | (go_at_call 13; (with_reducible refine (cR _ hu).mono ?_); rintro e wn ⟨rfl, hb⟩; replace hu := hu.call hb; replace H2 := Lib.hid (H2.out.calm hb); replace H3 := Lib.hid (H3.out.calm hb); clear hb cR)
        | (go_at_call 16; (with_reducible refine (cS _ hu).mono ?_); rintro e wn ⟨rfl, hb⟩; replace hu := hu.call hb; replace H3 := Lib.hid (H3.out.calm hb); clear hb cS)
        | (go_at_call 17; (with_reducible refine (cC _ hu).mono ?_); rintro e wn ⟨rfl, hb⟩; replace hu := hu.call hb; replace H3 := Lib.hid (H3.out.calm hb); clear hb cC))
      go_ret
      exact ⟨rfl, hu⟩
end Go.Proofs.Ythfjanmihfbjoaa
