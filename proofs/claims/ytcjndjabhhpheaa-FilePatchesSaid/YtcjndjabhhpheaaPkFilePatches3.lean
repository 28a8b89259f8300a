/- Texts of one kind in one file. -/
import Derived.SizedLaws
import Derived.Test.YtcjndjabhhpheaaPkFilePatches2
set_option maxRecDepth 100000
namespace Go.Proofs.Ytcjndjabhhpheaa
open Go.RowKit
theorem delAt_len {l : List El} {i : Nat} (hi : i < l.length) : (delAt l i).length = l.length - 1 := by
 unfold delAt; rw [List.length_append, List.length_take, List.length_drop]; omega
theorem row_del {cur : List Value} {l : List El} {i : Nat} (z : List Value) (hi : i < l.length) (hc : cur.take (l.length * 6) = cellsOf l) (hs : l.length * 6 ≤ cur.length) :
    (spl (spl cur (i * 6) (cellsOf (l.drop (i + 1)))) ((l.length - 1) * 6) z).take ((l.length - 1) * 6) = cellsOf (delAt l i) := by
  have hl1 : (cellsOf (l.take i)).length = i * 6 := by rw [cellsOf_len, List.length_take]; congr 1; omega
  have hl2 : (cellsOf (l.drop (i + 1))).length = (l.length - (i + 1)) * 6 := by rw [cellsOf_len, List.length_drop]
  have h1 : cur.take (i * 6) = cellsOf (l.take i) := by
    rw [← cellsOf_take (by omega), ← hc, List.take_take]; congr 1; omega
  have h2 : (spl cur (i * 6) (cellsOf (l.drop (i + 1)))).take ((l.length - 1) * 6) = cellsOf (l.take i) ++ cellsOf (l.drop (i + 1)) := by
    unfold spl
    rw [h1]
    exact List.take_left' (by rw [List.length_append, hl1, hl2]; omega)
  have h3 : (l.length - 1) * 6 ≤ (spl cur (i * 6) (cellsOf (l.drop (i + 1)))).length := by rw [spl_len (by rw [hl2]; omega)]; omega
  generalize spl cur (i * 6) (cellsOf (l.drop (i + 1))) = c1 at h2 h3 ⊢
  have h4 : (spl c1 ((l.length - 1) * 6) z).take ((l.length - 1) * 6) = c1.take ((l.length - 1) * 6) := by
    unfold spl
    rw [List.append_assoc]
    exact List.take_left' (by rw [List.length_take]; omega)
  rw [h4, h2]
  unfold delAt
  rw [cellsOf_app]
/-- append(s[:i], s[j:]...) in a row with room for it, as a step of a region that draws. -/
theorem step_append_row {ops : Array Oper} {o : Oper} {a : Act} {w : World} {K : Act → World → Prop} {Q : Exit → Act → World → Prop} {E : Prop} (hgd : o.guard = none) (s x : Operand)
    (hop : o.op = Op.call { callee := Callee.builtin Builtin.append, args := #[s, x], argTypes := #[22, 22] })
    (g n cap : Nat) (hs : a.eval s = .slice (some ⟨g, 0, none⟩) n cap) (ad : Addr) (m c : Nat) (hx : a.eval x = .slice (some ad) m c) (cur : List Value) (hg : w.heap[g]? = some (.cells cur.toArray 41 (0, 0)))
    (news : List Value) (hl : news.length = m * 6) (hnews : ∀ j u, news[j]? = some u → w.cell? (ad.add j) = some u) (h1 : ∀ u ∈ news, u.oneCell' = true) (hroom : n + m ≤ cap) (hfit : n * 6 + news.length ≤ cur.length)
    (hK : K (a.put o.dst (.slice (some ⟨g, 0, none⟩) (n + m) cap)) (w.setRow g (spl cur (n * 6) news).toArray)) : if Region.wanted o (yielded ops a.tmps) = true then Oper.wp Try.prog o a w K Q else E := by
  have hw : Region.wanted o (yielded ops a.tmps) = true := by simp [Region.wanted, hgd]
  rw [if_pos hw]
  obtain ⟨i0, hi, hz0, hz1, hz2⟩ := info_parts infoElem
  have hr := run_append_room (P := Try.prog) w 22 o.type 41 i0 Try.underlying22 hi g n cap cur.toArray hg ad m c news (by rw [hz1]; exact hl) hnews h1 hroom (by rw [hz1]; simpa using hfit)
  rw [hz1] at hr
  unfold Oper.wp
  simp only [execOp, hop, resolve, invoke, builtin, Sem.run_bind, Sem.run_pure, Result.andThen_ok, List.map_toArray, List.map_cons, List.map_nil, hs, hx, hr]
  exact hK
def zeroVals : List Value := [.int .i64 0, .int .i64 0, .int .i64 0, .int .i64 0, .int .i64 0, .string ByteArray.empty]
theorem zeroElem : ∀ w, (zeroValue 41).run Try.prog w = .ok (.agg #[.int .i64 0, .int .i64 0, .int .i64 0, .int .i64 0, .int .i64 0, .string ByteArray.empty]) w := fun _ => by kernel_rfl
theorem run_clear_el (w : World) (ty : TypeId) (g o c : Nat) (cur : List Value) (hg : w.heap[g]? = some (.cells cur.toArray 41 (0, 0))) (hfit : o + 6 ≤ cur.length) :
    (Builtin.clear_ #[22] ty #[.slice (some ⟨g, o, none⟩) 1 c]).run Try.prog w = .ok (.tuple #[]) (w.setRow g (spl cur o zeroVals).toArray) := by
  have hzc : (Builtin.zeroCells (Value.agg #[.int .i64 0, .int .i64 0, .int .i64 0, .int .i64 0, .int .i64 0, .string ByteArray.empty]).cells 1).toList = zeroVals := by kernel_rfl
  have hzd : (Builtin.zeroCells (Value.agg #[.int .i64 0, .int .i64 0, .int .i64 0, .int .i64 0, .int .i64 0, .string { data := #[] }]).cells 1).toList = zeroVals := hzc
  have hst := run_storeCells_at Try.prog g o 41 zeroVals 0 cur.toArray w hg (by simp [zeroVals]; omega) (by intro u hu; simp only [zeroVals, List.mem_cons, List.not_mem_nil, or_false] at hu; rcases hu with rfl | rfl | rfl | rfl | rfl | rfl <;> rfl)
  simp [Builtin.clear_, run_underlying Try.underlying22, zeroElem, hzd, hst, spl]
set_option maxHeartbeats 8000000 in
theorem delete_any (base g i n cap : Nat) (l : List El) (w : World) (hn : n = l.length) (hi : i < n) (hn4 : n ≤ 400) (ho : OwnR base w (.slice (some ⟨g, 0, none⟩) n cap) l) :
    Calls Try.prog 61 #[.slice (some ⟨g, 0, none⟩) n cap, .int .i64 i, .int .i64 ((i : Int) + 1)] w (OwnEnd base (delAt l i) w) := by
  rcases id ho.2 with ⟨h, _⟩ | ⟨g', cap', cur0, hv, hbg, hg0, hnc, hcm, hcs, ht⟩
  · cases h
  injection hv with h1 h2 h3
  injection h1 with h1
  injection h1 with h1
  subst h1; subst h3
  clear ho h2
  obtain ⟨cur, rfl⟩ : ∃ cur : List Value, cur.toArray = cur0 := ⟨cur0.toList, by simp⟩
  simp only [List.size_toArray] at hcs ht
  rw [← hn] at hnc ht
  have hc63 : cap ≤ 9223372036854775807 := by unfold maxLen at hcm; exact hcm
  have hdl : (cellsOf (l.drop (i + 1))).length = (n - (i + 1)) * 6 := by rw [cellsOf_len, List.length_drop, hn]
  have hfit1 : i * 6 + (cellsOf (l.drop (i + 1))).length ≤ cur.length := by omega
  obtain ⟨A, hA, hsrc⟩ : ∃ A : Addr, (if cap = i + 1 then some (⟨g, 0, none⟩ : Addr) else some ⟨g, (i + 1) * 6, none⟩) = some A ∧ Hid (∀ j u, (cellsOf (l.drop (i + 1)))[j]? = some u → w.drew.cell? (A.add j) = some u) := by
    by_cases h : cap = i + 1
    · refine ⟨⟨g, 0, none⟩, by simp [h], show ∀ _, _ from fun j u hu => ?_⟩
      have h0 : (cellsOf (l.drop (i + 1))).length = 0 := by rw [hdl]; omega
      rw [List.eq_nil_of_length_eq_zero h0] at hu; simp at hu
    · refine ⟨⟨g, (i + 1) * 6, none⟩, by simp [h], show ∀ _, _ from fun j u hu => ?_⟩
      have hj : j < (n - (i + 1)) * 6 := by rw [← hdl]; exact (List.getElem?_eq_some_iff.1 hu).1
      rw [← cellsOf_drop (by omega), List.getElem?_drop, ← ht, List.getElem?_take, if_pos (by omega)] at hu
      rw [Addr.add_lit]
      show w.cell? _ = _
      rw [cell_of_row _ _ _ _ _ _ hg0, ← hu, List.getElem?_toArray]
  obtain ⟨c1, hc1⟩ : ∃ c1, c1 = spl cur (i * 6) (cellsOf (l.drop (i + 1))) := ⟨_, rfl⟩
  have hc1l : c1.length = cur.length := by rw [hc1]; exact spl_len hfit1
  obtain ⟨W1, hW1⟩ : ∃ W1, W1 = w.drew.setRow g c1.toArray := ⟨_, rfl⟩
  have hWg : W1.heap[g]? = some (.cells c1.toArray 41 (0, 0)) := by rw [hW1]; exact setRow_heap _ _ _ _ _ _ hg0
  have hcl : ∀ ty c, (Builtin.clear_ #[22] ty #[.slice (some ⟨g, (n - 1) * 6, none⟩) (n - (n - 1)) c]).run Try.prog W1 = .ok (.tuple #[]) (W1.setRow g (spl c1 ((n - 1) * 6) zeroVals).toArray) := fun ty c => by
    rw [show n - (n - 1) = 1 by omega]; exact run_clear_el W1 ty g _ c c1 hWg (by omega)
  have hdn := delAt_len (l := l) (i := i) (by omega)
  have HEND : Hid (OwnEnd base (delAt l i) w (.returned (.slice (some ⟨g, 0, none⟩) (n - 1) cap)) (W1.setRow g (spl c1 ((n - 1) * 6) zeroVals).toArray)) := by
    refine ⟨_, rfl, ?_, fun w0 h0 hc => ?_⟩
    · have hfin : (W1.setRow g (spl c1 ((n - 1) * 6) zeroVals).toArray).heap[g]? = some (.cells (spl c1 ((n - 1) * 6) zeroVals).toArray 41 (0, 0)) := setRow_heap _ _ _ _ _ _ hWg
      rw [hn, ← hdn] at hfin ⊢
      refine OwnR.row hbg hfin (by omega) hcm (by rw [spl_len (by show _ + 6 ≤ _; omega)]; omega) ?_
      rw [hdn, hc1]
      exact row_del _ (by omega) (by rw [← hn]; exact ht) (by omega)
    · rw [hW1]
      exact ((hc.drew.setRow (by omega) _).setRow (by omega) _)
  have hW := Lib.hid hW1
  have HC := Lib.hid hc1
  have s1 := Lib.hid hdl
  have s2 : Hid (∀ u ∈ cellsOf (l.drop (i + 1)), u.oneCell' = true) := cellsOf_one _
  have s3 : Hid (w.drew.heap[g]? = some (.cells cur.toArray 41 (0, 0))) := hg0
  have s4 := Lib.hid hfit1
  have hic : i ≤ cap := by omega
  have hjc : i + 1 ≤ cap := by omega
  have hb5 : (i : Int) < (n : Int) := by omega
  have hb6 : (i : Int) + 1 ≤ (n : Int) := by omega
  have hb7 : ¬ ((i : Int) = (i : Int) + 1) := by omega
  have htn : ((i : Int) + 1).toNat = i + 1 := by omega
  have hb8 : (0 : Int) ≤ (i : Int) + 1 := by omega
  have hb9 : i + (n - (i + 1)) = n - 1 := by omega
  clear hW1 hWg hc1 hdl hfit1 hg0 hcs ht hdn hc1l hn
  go_enter Try.func61, Try.ntmps61
  go_wp2_with fail
  go_region_law (refine step_append_row rfl (.tmp 22) (.tmp 25) rfl g i cap (by simp [Act.eval, Act.put]) A (n - (i + 1)) (cap - (i + 1)) (by simp [Act.eval, Act.put]) cur s3.out (cellsOf (l.drop (i + 1))) s1.out hsrc.out s2.out (by omega) s4.out ?_; rw [← HC.out, ← hW.out])
  go_wp2_with fail
  go_ret
  exact HEND.out
open Go.RowKit
theorem cutErr_eq {l : List El} {k : Int × Int × Int} {t : Int} (h : wrErr l (fresh k { data := #[] } t) = 0) : cutErr l k t = if l.any (isOpen k) then 0 else 4 := by
 unfold cutErr; rw [if_pos h]
set_option maxHeartbeats 16000000 in
theorem runCut_any (A : Option Addr) (d : Nat) (l : List El) (p' o' f' : Int) (t : Int) (w : World) (hn : l.length ≤ 9223372036854775807) (hL : Lies w A l) :
    Calls Try.prog 40 #[.slice A l.length d, .agg #[.int .i64 p', .int .i64 o', .int .i64 f'], .int .i64 t] w (SlEnd (if cutErr l (p', o', f') t = 0 then cutR l (p', o', f') t else []) (cutErr l (p', o', f') t) w) := by
  have hy := heap_new w (.cells #[.int .i64 p', .int .i64 o', .int .i64 f'] 39)
  have hu := (Calm.refl w).alloc (.cells #[.int .i64 p', .int .i64 o', .int .i64 f'] 39)
  have cW : ∀ u, Calm w u → Calls Try.prog 57 #[.slice A l.length d, .agg #[.int .i64 p', .int .i64 o', .int .i64 f', .int .i64 t, .int .i64 0, .string { data := #[] }]] u fun e w' => e = .returned (.int .i64 (wrErr l (fresh (p', o', f') { data := #[] } t))) ∧ Calm u w' := fun u hu => checkWrite_any A d l p' o' f' t 0 { data := #[] } u hn (hL.calm hu)
  by_cases he : wrErr l (fresh (p', o', f') { data := #[] } t) = 0
  rotate_left
  · have e1 : cutErr l (p', o', f') t = wrErr l (fresh (p', o', f') { data := #[] } t) := by unfold cutErr; rw [if_neg he]
    rw [e1, if_neg he]
    have b1 : (wrErr l (fresh (p', o', f') { data := #[] } t) != 0) = true := by simpa using he
    generalize wrErr l (fresh (p', o', f') { data := #[] } t) = x at b1 cW
    clear he e1 hL
    go_enter Try.func40, Try.ntmps40
    go_wp2_with (go_at_call 57; refine (cW _ hu).mono ?_; rintro e w1 ⟨rfl, hb1⟩; replace hy := (hb1.block (row3 hy).2.2.2).trans hy; replace hu := hu.call hb1; clear hb1; obtain ⟨y0, y1, y2, hys⟩ := row3 hy)
    go_ret2
    exact ⟨_, rfl, Sl.nil _ _ _, hu⟩
  rw [he] at cW
  have hgood := cut_good he
  obtain ⟨hG, hx, hlt⟩ := wrErr_zero.1 he
  have hlt' : latest l ≤ t := hlt
  have hpe := cutErr_eq he
  have hn4 := hG.1
  have cV : ∀ u, Calm w u → Calls Try.prog 42 #[.slice A l.length d, .agg #[.int .i64 p', .int .i64 o', .int .i64 f'], .int .i64 t] u fun e w' => e = .returned (.tuple #[.int .i64 (if hitB l (pos l (p', o', f') t) (p', o', f') t then (pos l (p', o', f') t : Int) - 1 else 0), .bool (hitB l (pos l (p', o', f') t) (p', o', f') t)]) ∧ Calm u w' :=
    fun u hu => liveRun_any A d l p' o' f' t u hn4 (hL.calm hu) hG.2.2
  have cC : ∀ u, Calm w u → Calls Try.prog 37 #[.slice A l.length d] u fun e w' => ∃ v, e = .returned v ∧ OwnR u.heap.size w' v l ∧ Calm u w' := fun u hu => clone_any A d l u hn4 (hL.calm hu)
  rcases hit_open hG (p', o', f') hlt' with ⟨h1, h2, hi, h3, h4⟩ | ⟨h1, h2⟩
  rotate_left
  · rw [h1] at cV
    simp only [Bool.false_eq_true, if_false] at cV
    have e1 : cutErr l (p', o', f') t = 4 := by rw [hpe, open_no h2]; rfl
    rw [e1, if_neg (by decide)]
    clear hgood hpe e1 h1 h2 hlt hlt' hx he hG hL
    go_enter Try.func40, Try.ntmps40
    go_wp2_with (first
      | (go_at_call 57; refine (cW _ hu).mono ?_; rintro e w1 ⟨rfl, hb1⟩; replace hy := (hb1.block (row3 hy).2.2.2).trans hy; replace hu := hu.call hb1; clear hb1; obtain ⟨y0, y1, y2, hys⟩ := row3 hy; clear cW)
      | (go_at_call 42; refine (cV _ hu).mono ?_; rintro e w1 ⟨rfl, hb1⟩; replace hy := (hb1.block (row3 hy).2.2.2).trans hy; replace hu := hu.call hb1; clear hb1; obtain ⟨y0, y1, y2, hys⟩ := row3 hy; clear cV))
    go_ret2
    exact ⟨_, rfl, Sl.nil _ _ _, hu⟩
  rw [h1, if_pos rfl, show (pos l (p', o', f') t : Int) - 1 = ((pos l (p', o', f') t - 1 : Nat) : Int) by omega] at cV
  have e1 : cutErr l (p', o', f') t = 0 := by rw [hpe, open_any hi h3]; rfl
  have e2 := cut_at (t := t) hi h3 h4
  rw [e1, if_pos rfl]
  rw [e2] at hgood ⊢
  generalize pos l (p', o', f') t - 1 = j at hi e2 hgood cV ⊢
  clear e1 e2 h1 h2 h3 h4 hpe hlt' hlt hx he hG
  obtain ⟨p, o, f, m, g, s, e4⟩ : ∃ p o f m g s, l[j] = ⟨p, o, f, m, g, s⟩ := ⟨_, _, _, _, _, _, rfl⟩
  have hjz : (j : Int) < (l.length : Int) := by omega
  have hj1 : (j : Int) + 1 ≤ 401 := by omega
  by_cases hm : m = t
  · rw [if_pos (by rw [e4]; exact hm)] at hgood ⊢
    have hwf := Lib.hid hgood.wf
    have E4 := Lib.hid e4
    clear hgood hL e4
    subst hm
    go_enter Try.func40, Try.ntmps40
    go_wp2_with (first
      | (go_at_call 57; refine (cW _ hu).mono ?_; rintro e w1 ⟨rfl, hb1⟩; replace hy := (hb1.block (row3 hy).2.2.2).trans hy; replace hu := hu.call hb1; clear hb1; obtain ⟨y0, y1, y2, hys⟩ := row3 hy; clear cW)
      | (go_at_call 42; refine (cV _ hu).mono ?_; rintro e w1 ⟨rfl, hb1⟩; replace hy := (hb1.block (row3 hy).2.2.2).trans hy; replace hu := hu.call hb1; clear hb1; obtain ⟨y0, y1, y2, hys⟩ := row3 hy; clear cV)
      | (go_at_call 37; refine (cC _ hu).mono ?_; rintro e w2 ⟨v, rfl, ho, hb1⟩; obtain ⟨g', cap, rfl⟩ := ho.some (by omega); have HO := Lib.hid ho; obtain ⟨⟨d0, d1, d2, d3, d4, d5⟩, hfz, hbg, hgl, _, hcn⟩ := ho.cell hi; rw [E4.out] at d3; have hu2 := hu.call hb1; have hw1 := Lib.hid hu.size; clear cC ho hfz d0 d1 d2 d4 d5 hb1)
      | (go_at_call 61; refine (delete_any _ g' j l.length cap l _ rfl hi hn4 HO.out).mono ?_; rintro e w3 ⟨v, rfl, ho9, hk9⟩; have HO9 := Lib.hid ho9; have hu9 := hk9 w hw1.out hu2; clear ho9 hk9))
    go_ret2
    exact ⟨_, rfl, HO9.out.sl hwf.out, hu9⟩
  · rw [if_neg (by rw [e4]; exact hm)] at hgood ⊢
    have hwf := Lib.hid hgood.wf
    have E4 := Lib.hid e4
    clear hgood hL e4
    go_enter Try.func40, Try.ntmps40
    go_wp2_with (first
      | (go_at_call 57; refine (cW _ hu).mono ?_; rintro e w1 ⟨rfl, hb1⟩; replace hy := (hb1.block (row3 hy).2.2.2).trans hy; replace hu := hu.call hb1; clear hb1; obtain ⟨y0, y1, y2, hys⟩ := row3 hy; clear cW)
      | (go_at_call 42; refine (cV _ hu).mono ?_; rintro e w1 ⟨rfl, hb1⟩; replace hy := (hb1.block (row3 hy).2.2.2).trans hy; replace hu := hu.call hb1; clear hb1; obtain ⟨y0, y1, y2, hys⟩ := row3 hy; clear cV)
      | (go_at_call 37; refine (cC _ hu).mono ?_; rintro e w2 ⟨v, rfl, ho, hb1⟩; obtain ⟨g', cap, rfl⟩ := ho.some (by omega); have HO := Lib.hid ho; obtain ⟨⟨d0, d1, d2, d3, d4, d5⟩, hfz, hbg, hgl, _, hcn⟩ := ho.cell hi; rw [E4.out] at d3; have hfz4 := hfz (j * 6 + 4); have hu2 := hu.call hb1; have hbw := Nat.le_trans hu.size hbg; clear cC ho hfz d0 d1 d2 d5 hb1))
    go_ret2
    exact ⟨_, rfl, (HO.out.set (x := { l[j] with g := t }) hi (by omega) (by rw [E4.out]; rfl)).sl hwf.out, hu2.setCell hbw _⟩
open Go.RowKit Go.Maps
theorem emp_ne {x : ByteArray} (h : x ≠ { data := #[] }) : x.toList.isEmpty = false := by
 have h1 := str_ne h
 cases hT : x.toList with
 |nil => rw [hT, ByteArray.toList_eq] at h1; exact absurd h1 (by decide)
 |cons a l => rfl
theorem stS_stop {l : List El} {P O t : Int} {S : List UInt8} {j : Nat} (h : (stS l P O S t j).1 ≠ 0) : ∀ n, stS l P O S t (j + n) = stS l P O S t j
 | 0 => rfl
 |n + 1 => by
  rw [← Nat.add_assoc, stS_succ, stS_stop h n]
  unfold stpR
  rw [if_neg h]
structure Steps (old fr : Nat → Option ByteArray) (P O t : Int) (F : Nat → Int × List El) (E : Int) (RES : List El) : Prop where
 good : ∀ (j : Nat) M, j ≤ 20 → F j = (0, M) → Good M
 was : ∀ (j : Nat) M, j < 20 → F j = (0, M) → sV M (P, O, (j : Int) + 1) 2147483647 = old j
 same : ∀ (j : Nat) M, j < 20 → F j = (0, M) → old j = fr j → F (j + 1) = (0, M)
 put : ∀ (j : Nat) M s, j < 20 → F j = (0, M) → old j ≠ fr j → fr j = some s → (putErr M (P, O, (j : Int) + 1) s t = 0 ∧ F (j + 1) = (0, putR M (P, O, (j : Int) + 1) s t)) ∨ (putErr M (P, O, (j : Int) + 1) s t = 8 ∧ E = 8 ∧ RES = [])
 cut : ∀ (j : Nat) M s, j < 20 → F j = (0, M) → old j = some s → fr j = none → cutErr M (P, O, (j : Int) + 1) t = 0 ∧ F (j + 1) = (0, cutR M (P, O, (j : Int) + 1) t)
 fin : ∀ M, F 20 = (0, M) → E = 0 ∧ RES = M
theorem stS_steps {l : List El} {P O t : Int} (S : List UInt8) (hG : Good l) (hk : kErr (P, O, 0) = 0) (h1 : 1 ≤ t) (h2 : t ≤ 2147483647) (hl : latest l ≤ t) :
    Steps (fun j => sV l (bkK P O j) 2147483647) (frV S) P O t (stS l P O S t) (stS l P O S t 20).1 (if (stS l P O S t 20).1 = 0 then (stS l P O S t 20).2 else []) := by
  have hI := stS_inv S hG hk h1 h2 hl
  have inv : ∀ j M, j ≤ 20 → stS l P O S t j = (0, M) → FInv l M P O S t j := fun j M hj he => by
    rcases hI j hj with ⟨_, h⟩ | ⟨h, _⟩
    · rw [he] at h; exact h
    · rw [he] at h; simp at h
  refine ⟨fun j M hj he => (inv j M hj he).good, fun j M hj he => ?_, fun j M hj he hs => ?_, fun j M s hj he hs hf => ?_, fun j M s hj he ho hf => ?_, fun M he => ?_⟩
  · show (atR M (bkK P O j) _).map _ = _
    rw [(inv j M (by omega) he).other _ (fun i hi => bkK_ne (by omega))]; rfl
  · rw [stS_succ, he]
    unfold stpR
    rw [if_pos rfl, if_pos hs]
  · have I := inv j M (by omega) he
    have hw : wrErr M (fresh (bkK P O j) s t) = 0 := wr_of I.good hk h1 h2 I.late (by omega) (by have := frV_size hf; omega)
    have hstep : stS l P O S t (j + 1) = (putErr M (bkK P O j) s t, if putErr M (bkK P O j) s t = 0 then putR M (bkK P O j) s t else []) := by
      rw [stS_succ, he]
      unfold stpR
      rw [if_pos rfl, if_neg hs, hf]
    rcases put8 hw with hp | hp
    · left
      rw [hp, if_pos rfl] at hstep
      exact ⟨hp, hstep⟩
    · right
      rw [hp, if_neg (by decide)] at hstep
      have h9 := stS_stop (l := l) (P := P) (O := O) (t := t) (S := S) (j := j + 1) (by rw [hstep]; decide) (20 - (j + 1))
      rw [show j + 1 + (20 - (j + 1)) = 20 by omega, hstep] at h9
      rw [h9]
      exact ⟨hp, rfl, if_neg (by decide)⟩
  · have I := inv j M (by omega) he
    have hw : wrErr M (fresh (bkK P O j) { data := #[] } t) = 0 := wr_of I.good hk h1 h2 I.late (by omega) (by decide)
    have hm : sV M (bkK P O j) 2147483647 = some s := by
      rw [← ho]
      show (atR M (bkK P O j) _).map _ = _
      rw [I.other _ (fun i hi => bkK_ne (by omega))]; rfl
    have hc := cut0 hw hm
    refine ⟨hc, ?_⟩
    rw [stS_succ, he]
    unfold stpR
    rw [if_pos rfl, if_neg (by rw [ho, hf]; exact fun h => by cases h), hf]
    show (cutErr M (bkK P O j) t, if cutErr M (bkK P O j) t = 0 then cutR M (bkK P O j) t else []) = _
    rw [hc, if_pos rfl]; rfl
  · rw [he]; exact ⟨rfl, if_pos rfl⟩
set_option maxHeartbeats 4000000 in
theorem fileSet_any (A : Option Addr) (d : Nat) (l : List El) (P O : Int) (S : ByteArray) (t : Int) (w : World) (hn : l.length ≤ 9223372036854775807) (hL : Lies w A l) :
    Calls Try.prog 15 #[.slice A l.length d, .int .i64 P, .int .i64 O, .string S, .int .i64 t] w (SlEnd (setR l P O S.data.toList t) (setE l P O S.data.toList t) w) := by
  have cS := stored_any A d l P O 2147483647 w hn hL
  unfold StoEnd at cS
  have hSl : S.data.toList.length = S.size := by simp
  by_cases hE : objErr l P O = 0
  rotate_left
  · have e1 : setE l P O S.data.toList t = objErr l P O := by unfold setE; rw [if_neg hE]
    have e2 : setR l P O S.data.toList t = [] := by unfold setR; rw [e1, if_neg hE]
    rw [e1, e2]
    simp only [if_neg hE] at cS
    have b1 : (objErr l P O != 0) = true := by simpa using hE
    generalize objErr l P O = E at *
    clear e1 e2
    go_enter Try.func15, Try.ntmps15
    go_wp2_with (go_at_call 34; refine cS.mono ?_; rintro e w1 ⟨hb1, rfl⟩)
    go_ret2
    exact ⟨_, rfl, Sl.nil _ _ _, hb1⟩
  simp only [if_pos hE] at cS
  obtain ⟨hG, hk⟩ := objErr_zero hE
  by_cases h320 : 320 < S.size
  · have e1 : setE l P O S.data.toList t = 2 := by unfold setE; rw [if_pos hE, if_pos (by omega)]
    have e2 : setR l P O S.data.toList t = [] := by unfold setR; rw [e1, if_neg (by decide)]
    rw [e1, e2]
    have hz : (320 : Int) < (S.size : Int) := by omega
    clear e1 e2 hSl
    go_enter Try.func15, Try.ntmps15
    go_wp2_with (go_at_call 34; refine cS.mono ?_; rintro e w1 ⟨hb1, b, rfl, hbw, hmp⟩)
    go_ret2
    exact ⟨_, rfl, Sl.nil _ _ _, hb1⟩
  have cT := fun u (hu : Calm w u) => checkTime_any A d l t u hn (hL.calm hu) hG
  unfold timeE at cT
  have hz : ¬ (320 : Int) < (S.size : Int) := by omega
  by_cases ht : 1 ≤ t ∧ t ≤ 2147483647 ∧ latest l ≤ t
  rotate_left
  · have e1 : setE l P O S.data.toList t = 9 := by unfold setE; rw [if_pos hE, if_neg (by omega), if_neg ht]
    have e2 : setR l P O S.data.toList t = [] := by unfold setR; rw [e1, if_neg (by decide)]
    rw [e1, e2]
    rw [if_neg ht] at cT
    clear e1 e2 hSl ht
    go_enter Try.func15, Try.ntmps15
    go_wp2_with (first
      | (go_at_call 34; refine cS.mono ?_; rintro e w1 ⟨hb1, b, rfl, hbw, hmp⟩)
      | (go_at_call 35; refine (cT _ hb1).mono ?_; rintro e w2 ⟨rfl, hb2⟩))
    go_ret2
    exact ⟨_, rfl, Sl.nil _ _ _, hb1.call hb2⟩
  rw [if_pos ht] at cT
  have hSt := stS_steps S.data.toList hG hk ht.1 ht.2.1 ht.2.2
  have e1 : setE l P O S.data.toList t = (stS l P O S.data.toList t 20).1 := by unfold setE; rw [if_pos hE, if_neg (by omega), if_pos ht]
  have e2 : setR l P O S.data.toList t = if (stS l P O S.data.toList t 20).1 = 0 then (stS l P O S.data.toList t 20).2 else [] := by unfold setR; rw [e1]
  rw [e1, e2]
  have hF0 : stS l P O S.data.toList t 0 = (0, l) := rfl
  have cSp := fun u => split_any S (by omega) u
  have cCl := fun u (hu : Calm w u) => clone_any A d l u hG.1 (hL.calm hu)
  have hwf := hG.wf
  obtain ⟨old, hold⟩ : ∃ old : Nat → Option ByteArray, old = fun j => sV l (bkK P O j) 2147483647 := ⟨_, rfl⟩
  have hMo : ∀ j : Nat, j < 20 → mL (rangeR l (P, O, 1) (P, O, 20) 2147483647) ((j : Int) + 1) = old j := fun j hj => by rw [hold]; exact mL_range hG P O _ hj
  rw [← hold] at hSt
  have hMf : ∀ j : Nat, j < 20 → frM S.data.toList 20 ((j : Int) + 1) = frV S.data.toList j := fun j hj => frM_at hj
  have hfz : ∀ j s, frV S.data.toList j = some s → s ≠ { data := #[] } := fun j s h e => by
    subst e
    by_cases hj : 16 * j < S.data.toList.length
    · unfold frV at h
      rw [if_pos hj] at h
      injection h with h
      have := congrArg ByteArray.size h
      rw [bytes_size, List.length_take, List.length_drop] at this
      have h0 : (({ data := #[] } : ByteArray)).size = 0 := rfl
      omega
    · unfold frV at h
      rw [if_neg hj] at h
      cases h
  have HST := Lib.hid hSt
  have HF0 := Lib.hid hF0
  have HMO := Lib.hid hMo
  have HMF := Lib.hid hMf
  have HFZ := Lib.hid hfz
  clear e1 e2 hSl h320 hE hk ht hSt hF0 hMo hMf hfz hold hG
  generalize (if (stS l P O S.data.toList t 20).1 = 0 then (stS l P O S.data.toList t 20).2 else []) = RES at *
  generalize (stS l P O S.data.toList t 20).1 = E at *
  generalize stS l P O S.data.toList t = F at *
  generalize mL (rangeR l (P, O, 1) (P, O, 20) 2147483647) = MO at *
  generalize frM S.data.toList 20 = MF at *
  generalize frV S.data.toList = fr at *
  go_enter Try.func15, Try.ntmps15
  go_wp2_with (first
    | (go_at_call 34; refine cS.mono ?_; rintro e w1 ⟨hb1, bo, rfl, hbw, hmp⟩; have HA := Lib.hid hmp; replace hu := hb1; clear hmp hb1)
    | (go_at_call 35; refine (cT _ hu).mono ?_; rintro e w2 ⟨rfl, hb2⟩; replace HA := Lib.hid (HA.out.calm hb2); replace hu := hu.call hb2; clear hb2)
    | (go_at_call 36; refine (cSp _).mono ?_; rintro e w3 ⟨bf, rfl, hbf, hmf, hb3⟩; replace HA := Lib.hid (HA.out.calm hb3); have HB := Lib.hid hmf; replace hu := hu.call hb3; clear hb3 hmf)
    | (go_at_call 37; refine (cCl _ hu).mono ?_; rintro e w4 ⟨v, rfl, ho, hb4⟩; obtain ⟨A1, c1, hv, hlc, _, hl1⟩ := ho.lies hwf; subst hv; have HL1 := Lib.hid hl1; replace HA := Lib.hid (HA.out.calm hb4); replace HB := Lib.hid (HB.out.calm hb4); replace hu := hu.call hb4; clear hb4 ho hl1))
  clear cS cT cSp cCl
  go_loopw [16, 17] (fun mv iv wr => ∃ (j : Nat) (A' : Option Addr) (c' : Nat) (M : List El) (y : Int), mv = .slice A' M.length c' ∧ iv = .int .i64 y ∧ Hid (y = (j : Int) + 1) ∧ 1 ≤ y ∧ y ≤ 21 ∧ j ≤ 20 ∧ Calm w4 wr ∧ Hid (F j = (0, M)) ∧ Hid (Lies wr A' M)) (fun _ iv _ => 21 - (intOf iv).toNat)
  case atStart => exact ⟨0, A1, c1, l, 1, rfl, rfl, show (1 : Int) = _ from rfl, by omega, by omega, by omega, Calm.refl _, HF0, HL1⟩
  case round =>
    obtain ⟨j, A', c', M, y, rfl, rfl, HY, hy1, hy2, hj, hur, HF, HL⟩ := hrel
    have hMg : M.length ≤ 400 := (HST.out.good j M hj HF.out).1
    by_cases hlt9 : y ≤ 20
    rotate_left
    · obtain rfl : j = 20 := by have := HY.out; omega
      obtain ⟨rfl, rfl⟩ := HST.out.fin M HF.out
      go_wp2_with fail
      go_ret2
      exact ⟨_, rfl, ⟨A', c', rfl, by omega, HL.out⟩, hu.call hur⟩
    have hlt : j < 20 := by have := HY.out; omega
    have HA1 := Lib.hid (HA.out.calm hur)
    have HB1 := Lib.hid (HB.out.calm hur)
    have HW := Lib.hid (wf_small (k := y) (by omega) (by omega))
    have q1 := HMO.out j hlt
    have q2 := HMF.out j hlt
    have HS1 := Lib.hid (HST.out.same j M hlt HF.out)
    have HS2 := Lib.hid (fun s => HST.out.put j M s hlt HF.out)
    have HS3 := Lib.hid (fun s => HST.out.cut j M s hlt HF.out)
    have HNZ := Lib.hid (HFZ.out j)
    simp only [← HY.out] at q1 q2 HS2 HS3
    generalize old j = O1 at *
    generalize fr j = R1 at *
    have cB := fun u => block_any P O y u
    have cP := fun s u (hl : Lies u A' M) => runPut_any A' c' M P O y s t u (by omega) hl
    have cC := fun u (hl : Lies u A' M) => runCut_any A' c' M P O y t u (by omega) hl
    by_cases hs : O1 = R1
    · subst hs
      have HF1 := Lib.hid (HS1.out rfl)
      have hs1 : (MO y).getD { data := #[] } = O1.getD { data := #[] } := by rw [q1]
      have hz1 : (MO y).isSome = O1.isSome := by rw [q1]
      have hs2 : (MF y).getD { data := #[] } = O1.getD { data := #[] } := by rw [q2]
      have hz2 : (MF y).isSome = O1.isSome := by rw [q2]
      generalize O1.getD { data := #[] } = s at *
      have hzz : O1.isSome = true ∨ O1.isSome = false := by cases O1.isSome <;> simp
      generalize O1.isSome = z at *
      have G1 := Lib.hid hs1
      have G2 := Lib.hid hz1
      have G3 := Lib.hid hs2
      have G4 := Lib.hid hz2
      clear q1 q2 hs1 hz1 hs2 hz2 HS1 HS2 HS3 HNZ cB cP cC
      rcases hzz with rfl | rfl
      all_goals
        go_wp2_with (first
          | (at_lookup; refine wpList_map_ok rfl _ _ rfl bo 400 MO rfl HA1.out y s _ rfl HW.out G1.out G2.out ?_)
          | (at_lookup; refine wpList_map_ok rfl _ _ rfl bf 20 MF rfl HB1.out y s _ rfl HW.out G3.out G4.out ?_))
        go_roundw
        case rel => exact ⟨j + 1, A', c', M, y + 1, rfl, by go_num, show y + 1 = _ from (by have := HY.out; omega), by omega, by omega, by omega, hur, HF1, HL⟩
        case measure => simp [intOf]; omega
    cases R1 with
    | some s =>
      have hs1 : (MO y).getD { data := #[] } = O1.getD { data := #[] } := by rw [q1]
      have hz1 : (MO y).isSome = O1.isSome := by rw [q1]
      have hs2 : (MF y).getD { data := #[] } = s := by rw [q2]; rfl
      have hz2 : (MF y).isSome = true := by rw [q2]; rfl
      have hne : O1.getD { data := #[] } ≠ s := by
        cases O1 with
        | none => exact fun h => HNZ.out s rfl h.symm
        | some x => exact fun h => hs (by rw [show x = s from h])
      have hP := HS2.out s hs rfl
      generalize O1.getD { data := #[] } = x at *
      generalize O1.isSome = z at *
      have bne := str_ne hne
      have G1 := Lib.hid hs1
      have G2 := Lib.hid hz1
      have G3 := Lib.hid hs2
      have G4 := Lib.hid hz2
      replace cP := cP s
      clear q1 q2 hs1 hz1 hs2 hz2 HS1 HS2 HS3 HNZ cC hne hs
      rcases hP with ⟨hp, hF⟩ | ⟨hp, rfl, rfl⟩
      · rw [hp, if_pos rfl] at cP
        have HF1 := Lib.hid hF
        clear hp hF
        generalize putR M (P, O, y) s t = M2 at *
        go_wp2_with (first
          | (at_lookup; refine wpList_map_ok rfl _ _ rfl bo 400 MO rfl HA1.out y x z rfl HW.out G1.out G2.out ?_)
          | (at_lookup; refine wpList_map_ok rfl _ _ rfl bf 20 MF rfl HB1.out y s true rfl HW.out G3.out G4.out ?_)
          | (go_at_call 39; refine (cB _).mono ?_; rintro e w5 ⟨rfl, hb5⟩; have hu5 := hur.call hb5; have HL5 := Lib.hid (HL.out.calm hb5); clear hb5)
          | (go_at_call 38; refine (cP _ HL5.out).mono ?_; rintro e w6 ⟨v, rfl, ⟨A2, c2, rfl, _, hl2⟩, hb6⟩; have HL6 := Lib.hid hl2; have hu6 := hu5.call hb6; clear hl2 hb6))
        go_roundw
        case rel => exact ⟨j + 1, A2, c2, M2, y + 1, rfl, by go_num, show y + 1 = _ from (by have := HY.out; omega), by omega, by omega, by omega, hu6, HF1, HL6⟩
        case measure => simp [intOf]; omega
      · rw [hp, if_neg (by decide)] at cP
        clear hp
        go_wp2_with (first
          | (at_lookup; refine wpList_map_ok rfl _ _ rfl bo 400 MO rfl HA1.out y x z rfl HW.out G1.out G2.out ?_)
          | (at_lookup; refine wpList_map_ok rfl _ _ rfl bf 20 MF rfl HB1.out y s true rfl HW.out G3.out G4.out ?_)
          | (go_at_call 39; refine (cB _).mono ?_; rintro e w5 ⟨rfl, hb5⟩; have hu5 := hur.call hb5; have HL5 := Lib.hid (HL.out.calm hb5); clear hb5)
          | (go_at_call 38; refine (cP _ HL5.out).mono ?_; rintro e w6 ⟨v, rfl, ⟨A2, c2, rfl, _, hl2⟩, hb6⟩; have hu6 := hu5.call hb6; clear hl2 hb6))
        go_ret2
        exact ⟨_, rfl, Sl.nil _ _ _, hu.call hu6⟩
    | none =>
      cases O1 with
      | none => exact absurd rfl hs
      | some x =>
        have hs1 : (MO y).getD { data := #[] } = x := by rw [q1]; rfl
        have hz1 : (MO y).isSome = true := by rw [q1]; rfl
        have hs2 : (MF y).getD { data := #[] } = { data := #[] } := by rw [q2]; rfl
        have hz2 : (MF y).isSome = false := by rw [q2]; rfl
        obtain ⟨hp, hF⟩ := HS3.out x rfl rfl
        rw [hp, if_pos rfl] at cC
        have HF1 := Lib.hid hF
        have G1 := Lib.hid hs1
        have G2 := Lib.hid hz1
        have G3 := Lib.hid hs2
        have G4 := Lib.hid hz2
        clear q1 q2 hs1 hz1 hs2 hz2 HS1 HS2 HS3 HNZ cP hs hp hF
        generalize cutR M (P, O, y) t = M2 at *
        have hxx : x = { data := #[] } ∨ x.toList.isEmpty = false := by
          by_cases h : x = { data := #[] }
          · exact .inl h
          · exact .inr (emp_ne h)
        rcases hxx with rfl | bne
        all_goals
          go_wp2_with (first
            | (at_lookup; refine wpList_map_ok rfl _ _ rfl bo 400 MO rfl HA1.out y _ true rfl HW.out G1.out G2.out ?_)
            | (at_lookup; refine wpList_map_ok rfl _ _ rfl bf 20 MF rfl HB1.out y { data := #[] } false rfl HW.out G3.out G4.out ?_)
            | (go_at_call 39; refine (cB _).mono ?_; rintro e w5 ⟨rfl, hb5⟩; have hu5 := hur.call hb5; have HL5 := Lib.hid (HL.out.calm hb5); clear hb5)
            | (go_at_call 40; refine (cC _ HL5.out).mono ?_; rintro e w6 ⟨v, rfl, ⟨A2, c2, rfl, _, hl2⟩, hb6⟩; have HL6 := Lib.hid hl2; have hu6 := hu5.call hb6; clear hl2 hb6))
          go_roundw
          case rel => exact ⟨j + 1, A2, c2, M2, y + 1, rfl, by go_num, show y + 1 = _ from (by have := HY.out; omega), by omega, by omega, by omega, hu6, HF1, HL6⟩
          case measure => simp [intOf]; omega
open Go.RowKit
theorem getS {A : Option Addr} {c : Nat} {l : List El} {P O t : Int} {u : World} (S : ByteArray) (hn : l.length ≤ 9223372036854775807) (hl : Lies u A l) (hE : objErr l P O = 0) (hT : txtL l P O t = S.data.toList) :
    Calls Try.prog 19 #[.slice A l.length c, .int .i64 P, .int .i64 O, .int .i64 t] u fun e w' => e = .returned (.tuple #[.string S, .int .i64 0]) ∧ Calm u w' := by
  have h := fileGet_any A c l P O t u hn hl
  unfold getTxt at h
  rw [hE, if_pos rfl, hT] at h
  have h3 : (⟨S.data.toList.toArray⟩ : ByteArray) = S := by simp
  rwa [h3] at h
theorem setG {A : Option Addr} {c : Nat} {l R : List El} {P O t : Int} {u : World} {S : ByteArray} (hn : l.length ≤ 9223372036854775807) (hl : Lies u A l) (h : setE l P O S.data.toList t = 0) (hR : setR l P O S.data.toList t = R) :
    Calls Try.prog 15 #[.slice A l.length c, .int .i64 P, .int .i64 O, .string S, .int .i64 t] u fun e w' => ∃ A' c', e = .returned (.tuple #[.slice A' R.length c', .int .i64 0]) ∧ Lies w' A' R ∧ Calm u w' := by
  have h1 := fileSet_any A c l P O S t u hn hl
  rw [h, hR] at h1
  exact h1.mono fun e w' ⟨v, e1, ⟨A', c', e2, _, h2⟩, h3⟩ => ⟨A', c', by rw [e1, e2], h2, h3⟩
theorem good_obj {l : List El} (h : Good l) {P O : Int} (hk : kErr (P, O, 0) = 0) : objErr l P O = 0 := by
 unfold objErr
 rw [if_pos (runErr_zero.2 h)]; exact hk
theorem lies_nil (u : World) : Lies u none [] := ⟨by simp, fun h => absurd h (by simp)⟩
open Go.RowKit
def FreeS (late : List Nat) (F : Nat → Value → World → Prop) (w1 : World) : Stages := fun bs Y u => Calm w1 u ∧ ∃ L : Nat → Bool, bs = late.map L ∧ ∀ i ∈ late, L i = true → F i (Y i) u
section
variable {late : List Nat} {F : Nat → Value → World → Prop} {w1 u u' : World} {Y : Nat → Value} {L : Nat → Bool}
theorem FreeS.stay (hF : ∀ i y u u', F i y u → Calm u u' → F i y u') : ∀ bs Y u u', FreeS late F w1 bs Y u → Calm u u' → FreeS late F w1 bs Y u' := fun _ _ _ _ ⟨h, L, e, hL⟩ hb => ⟨h.call hb, L, e, fun i hi hl => hF i _ _ _ (hL i hi hl) hb⟩
theorem FreeS.start (h : Calm w1 u) : FreeS late F w1 (late.map fun _ => false) Y u := ⟨h, _, rfl, fun _ _ h => by cases h⟩
theorem FreeS.get (h : FreeS late F w1 (late.map L) Y u) {i : Nat} (hi : i ∈ late) (hl : L i = true) : F i (Y i) u := by
 obtain ⟨-, M, e, hM⟩ := h
 have : L i = M i := List.map_inj_left.1 e i hi
 exact hM i hi (this ▸ hl)
theorem FreeS.do (hF : ∀ i y u u', F i y u → Calm u u' → F i y u') (h : FreeS late F w1 (late.map L) Y u) (hb : Calm u u') {i : Nat} {y : Value} (hn : F i y u') : FreeS late F w1 (late.map (updB L i)) (updV Y i y) u' := by
 refine ⟨h.1.call hb, _, rfl, fun j hj hl => ?_⟩
 by_cases e : j = i
 ·subst e; rw [show updV Y j y j = y by simp [updV]]; exact hn
 ·rw [show updV Y i y j = Y j by simp [updV, e]]; exact hF _ _ _ _ (h.get hj (by simpa [updB, e] using hl)) hb
end
open Go.RowKit
def patS (T : List UInt8) (k : Nat) (S : List UInt8) : List UInt8 := T.take k ++ S ++ T.drop (k + S.length)
def patE (l : List El) (P O at' : Int) (S : List UInt8) (t : Int) : Int :=
 if objErr l P O = 0 then (if 0 ≤ at' ∧ at' ≤ (txtL l P O 2147483647).length then setE l P O (patS (txtL l P O 2147483647) at'.toNat S) t else 1) else objErr l P O
def patR (l : List El) (P O at' : Int) (S : List UInt8) (t : Int) : List El := if patE l P O at' S t = 0 then setR l P O (patS (txtL l P O 2147483647) at'.toNat S) t else []
theorem ext_take (R : ByteArray) (N : Nat) : (R.extract 0 N).data.toList = R.data.toList.take N := by
 rw [part_extract, part, List.drop_zero, Nat.sub_zero]
theorem ext_rest (R : ByteArray) (N : Nat) : (R.extract N R.size).data.toList = R.data.toList.drop N := by
 rw [part_extract, part, List.take_of_length_le (by rw [List.length_drop, bytes_len]; omega)]
theorem app_list (a b : ByteArray) : (a ++ b).data.toList = a.data.toList ++ b.data.toList := by simp
theorem app_size (a b : ByteArray) : (a ++ b).size = a.size + b.size := by simp
def PaF (R : List El) (E : Int) (i : Nat) (y : Value) (u : World) : Prop := match i with
 | 13 => ∃ A c, y = .tuple #[.slice A R.length c, .int .i64 E] ∧ Lies u A R
 | 14 => ∃ A c, y = .slice A R.length c ∧ Lies u A R
 | 16 => ∃ A c, y = .slice A R.length c ∧ Lies u A R
 |_ => y = .int .i64 E
theorem paF_stay {R : List El} {E : Int} (i : Nat) (y : Value) (u u' : World) (h : PaF R E i y u) (hb : Calm u u') : PaF R E i y u' := by
 unfold PaF at h ⊢
 split at h
 ·obtain ⟨A, c, e, h1⟩ := h; exact ⟨A, c, e, h1.calm hb⟩
 ·obtain ⟨A, c, e, h1⟩ := h; exact ⟨A, c, e, h1.calm hb⟩
 ·obtain ⟨A, c, e, h1⟩ := h; exact ⟨A, c, e, h1.calm hb⟩
 ·exact h
theorem setR_if {l : List El} {P O t : Int} {S : List UInt8} : (if setE l P O S t = 0 then setR l P O S t else []) = setR l P O S t := by
 by_cases h : setE l P O S t = 0
 ·rw [if_pos h]
 ·rw [if_neg h]; unfold setR; rw [if_neg h]
theorem setR_len (l : List El) (P O t : Int) (S : List UInt8) : (setR l P O S t).length ≤ 9223372036854775807 := by
 by_cases h : setE l P O S t = 0
 ·have := (setE_zero h).2.2.2.2.2.2.good.1; omega
 ·unfold setR; rw [if_neg h]; simp
set_option maxHeartbeats 8000000 in
theorem filePatch_any (A : Option Addr) (d : Nat) (l : List El) (P O at' : Int) (S : ByteArray) (t : Int) (w : World) (hn : l.length ≤ 9223372036854775807) (hL : Lies w A l) (hS : S.size ≤ 140737488351232) :
    Calls Try.prog 18 #[.slice A l.length d, .int .i64 P, .int .i64 O, .int .i64 at', .string S, .int .i64 t] w (SlEnd (patR l P O at' S.data.toList t) (patE l P O at' S.data.toList t) w) := by
  have cG := fileGet_any A d l P O 2147483647 w hn hL
  unfold getTxt at cG
  by_cases hE : objErr l P O = 0
  rotate_left
  · have e1 : patE l P O at' S.data.toList t = objErr l P O := by unfold patE; rw [if_neg hE]
    have e2 : patR l P O at' S.data.toList t = [] := by unfold patR; rw [e1, if_neg hE]
    rw [e1, e2]
    rw [if_neg hE] at cG
    have b1 : (objErr l P O != 0) = true := by simpa using hE
    generalize objErr l P O = E at *
    clear e1 e2
    go_enter Try.func18, Try.ntmps18
    go_wp2_with (go_at_call 19; refine cG.mono ?_; rintro e w1 ⟨rfl, hb1⟩)
    go_ret2
    exact ⟨_, rfl, Sl.nil _ _ _, hb1⟩
  rw [if_pos hE, hE] at cG
  obtain ⟨hG, hk⟩ := objErr_zero hE
  have hTl := txtL_len hG P O 2147483647
  obtain ⟨T, hT⟩ : ∃ T : ByteArray, T = ⟨(txtL l P O 2147483647).toArray⟩ := ⟨_, rfl⟩
  have hT1 : txtL l P O 2147483647 = T.data.toList := by rw [hT, bytes_list]
  have hTs : T.size ≤ 800 := by rw [hT, bytes_size]; exact hTl
  rw [← hT] at cG
  unfold patR patE
  rw [if_pos hE, hT1, bytes_len]
  clear hT hT1 hTl
  by_cases ha : 0 ≤ at' ∧ at' ≤ (T.size : Int)
  rotate_left
  · rw [if_neg ha, if_neg (by decide)]
    have hcs : at' < 0 ∨ (¬ at' < 0 ∧ (T.size : Int) < at') := by omega
    rcases hcs with h1 | ⟨h0, h1⟩
    all_goals
      clear ha
      go_enter Try.func18, Try.ntmps18
      go_wp2_with (go_at_call 19; refine cG.mono ?_; rintro e w1 ⟨rfl, hb1⟩)
      go_ret2
      exact ⟨_, rfl, Sl.nil _ _ _, hb1⟩
  rw [if_pos ha]
  obtain ⟨k, rfl⟩ : ∃ k : Nat, at' = k := ⟨at'.toNat, by omega⟩
  rw [Int.toNat_natCast]
  have hk0 : (0 : Int) ≤ (k : Int) := by omega
  have hk1 : (k : Int) ≤ (T.size : Int) := ha.2
  obtain ⟨e, he⟩ : ∃ e : Nat, e = k + min S.size (T.size - k) := ⟨_, rfl⟩
  have hw1 : IntKind.i64.wrap ((T.size : Int) - (k : Int)) = (T.size : Int) - (k : Int) := IntWalk.i64_in _ (by omega)
  have hmn : min (S.size : Int) ((T.size : Int) - (k : Int)) = (e : Int) - (k : Int) := by omega
  have hw2 : IntKind.i64.wrap ((k : Int) + ((e : Int) - (k : Int))) = (e : Int) := by rw [IntWalk.i64_in _ (by omega)]; omega
  have he0 : (0 : Int) ≤ (e : Int) := by omega
  have he1 : (e : Int) ≤ (T.size : Int) := by omega
  have hN : (((T.extract 0 k ++ S) ++ T.extract e T.size).data.toList) = patS T.data.toList k S.data.toList := by
    rw [app_list, app_list, ext_take, ext_rest]
    unfold patS
    congr 1
    rw [bytes_len, he]
    by_cases h : S.size ≤ T.size - k
    · rw [Nat.min_eq_left h]
    · rw [List.drop_eq_nil_of_le (by rw [bytes_len]; omega), List.drop_eq_nil_of_le (by rw [bytes_len]; omega)]
  have cS := fun u (hu : Calm w u) => fileSet_any A d l P O ((T.extract 0 k ++ S) ++ T.extract e T.size) t u hn (hL.calm hu)
  rw [hN] at cS
  have hz1 : (T.extract 0 k).size = k := by rw [ByteArray.size_extract]; omega
  have hz2 : (T.extract e T.size).size = T.size - e := by rw [ByteArray.size_extract]; omega
  have hz3 : (T.extract 0 k ++ S).size = k + S.size := by rw [app_size, hz1]
  have HZ1 := Lib.hid hz1
  have HZ2 := Lib.hid hz2
  have HZ3 := Lib.hid hz3
  have HSZ := Lib.hid hS
  have HTS := Lib.hid hTs
  have HE := Lib.hid he
  rw [setR_if]
  have HR4 := Lib.hid (setR_len l P O t (patS T.data.toList k S.data.toList))
  generalize setR l P O (patS T.data.toList k S.data.toList) t = R at *
  generalize setE l P O (patS T.data.toList k S.data.toList) t = E at *
  clear hN hz1 hz2 hz3 hS hTs he ha hG hk hE
  have hb1 := Calm.refl w
  go_enter Try.func18, Try.ntmps18
  go_upto_region 7 with (go_at_call 19; refine cG.mono ?_; rintro e w1 ⟨rfl, hb1⟩)
  clear cG hw1 hmn hw2
  refine wp_region_stages [.val (.slice A l.length d), .val (.int .i64 P), .val (.int .i64 O), .val (.string T), .val (.int .i64 k), .val (.string (T.extract 0 k)), .val (.string S), .val (.string (T.extract 0 k ++ S)), .val (.string T), .val (.int .i64 e), .val (.string (T.extract e T.size)), .val (.string (T.extract 0 k ++ S ++ T.extract e T.size)), .val (.int .i64 t), .late, .late [13], .late [13], .late [14], .late [15]] [13, 14, 15, 16, 17]
    (FreeS [13, 14, 15, 16, 17] (PaF R E) w1) (by kernel_rfl) (by kernel_rfl) (by kernel_rfl) (FreeS.stay paF_stay) (fun Y => FreeS.start (Calm.refl _).drew) (fun Y => ?_)
  iterate 5
    refine planS_val (by kernel_rfl) (fun L9 u hb hS => ?_) ?_
    · clear hS hb
      go_simp
    simp only [Act.put, List.setIfInBounds_toArray, List.set_cons_zero, List.set_cons_succ, Nat.reduceAdd]
  refine planS_val (by kernel_rfl) (fun L9 u hb hS => ?_) ?_
  · clear hS hb
    go_simp
  simp only [Act.put, List.setIfInBounds_toArray, List.set_cons_zero, List.set_cons_succ, Nat.reduceAdd]
  refine planS_val (by kernel_rfl) (fun L9 u hb hS => ?_) ?_
  · clear hS hb
    go_simp
  simp only [Act.put, List.setIfInBounds_toArray, List.set_cons_zero, List.set_cons_succ, Nat.reduceAdd]
  refine planS_val (by kernel_rfl) (fun L9 u hb hS => ?_) ?_
  · clear hS hb
    have g1 := HZ1.out
    have q1 : ¬ 9223372036854775807 < k + S.size := by have g2 := HSZ.out; have g3 := HTS.out; omega
    go_simp
  simp only [Act.put, List.setIfInBounds_toArray, List.set_cons_zero, List.set_cons_succ, Nat.reduceAdd]
  iterate 2
    refine planS_val (by kernel_rfl) (fun L9 u hb hS => ?_) ?_
    · clear hS hb
      go_simp
    simp only [Act.put, List.setIfInBounds_toArray, List.set_cons_zero, List.set_cons_succ, Nat.reduceAdd]
  refine planS_val (by kernel_rfl) (fun L9 u hb hS => ?_) ?_
  · clear hS hb
    go_simp
  simp only [Act.put, List.setIfInBounds_toArray, List.set_cons_zero, List.set_cons_succ, Nat.reduceAdd]
  refine planS_val (by kernel_rfl) (fun L9 u hb hS => ?_) ?_
  · clear hS hb
    have q1 : ¬ 9223372036854775807 < min k T.size + S.size + (T.size - e) := by have g2 := HSZ.out; have g3 := HTS.out; omega
    go_simp
  simp only [Act.put, List.setIfInBounds_toArray, List.set_cons_zero, List.set_cons_succ, Nat.reduceAdd]
  refine planS_val (by kernel_rfl) (fun L9 u hb hS => ?_) ?_
  · clear hS hb
    go_simp
  simp only [Act.put, List.setIfInBounds_toArray, List.set_cons_zero, List.set_cons_succ, Nat.reduceAdd]
  refine planS_late (fun L9 u hi hb hS => ?_) ?_
  · have hc := hS.1
    have H := Lib.hid (fun (y : Value) (u' : World) (hb' : Calm u u') (hn : ∃ A c, y = .tuple #[.slice A R.length c, .int .i64 E] ∧ Lies u' A R) => (FreeS.do paF_stay hS hb' (i := 13) (show PaF R E 13 y u' from hn) : FreeS [13, 14, 15, 16, 17] (PaF R E) w1 ([13, 14, 15, 16, 17].map (updB L9 13)) (updV Y 13 y) u'))
    have c1 := cS u (hb1.call hc)
    clear hS hb hi hc
    go_wp2_with (go_at_call 15; (with_reducible refine c1.mono ?_); rintro e w9 ⟨v, rfl, ⟨A1, c1, rfl, _, h1⟩, hk⟩; have H1 := Lib.hid h1; have HK := Lib.hid hk; clear h1 hk)
    exact H.out _ w9 HK.out ⟨A1, c1, rfl, H1.out⟩
  simp only [Act.put, List.setIfInBounds_toArray, List.set_cons_zero, List.set_cons_succ, Nat.reduceAdd]
  refine planS_late (fun L9 u hi hb hS => ?_) ?_
  · have hc := hS.1
    have H := Lib.hid (fun (y : Value) (u' : World) (hb' : Calm u u') (hn : ∃ A c, y = .slice A R.length c ∧ Lies u' A R) => (FreeS.do paF_stay hS hb' (i := 14) (show PaF R E 14 y u' from hn) : FreeS [13, 14, 15, 16, 17] (PaF R E) w1 ([13, 14, 15, 16, 17].map (updB L9 14)) (updV Y 14 y) u'))
    obtain ⟨A1, c1, e1, h1⟩ := (show ∃ A c, Y 13 = .tuple #[.slice A R.length c, .int .i64 E] ∧ Lies u A R from FreeS.get hS (i := 13) (by decide) (hb 13 (by simp)))
    rw [e1]
    clear e1
    have H1 := Lib.hid h1
    clear h1
    clear hS hb hi hc
    go_wp2_with fail
    exact H.out _ u (Calm.refl _) ⟨A1, c1, rfl, H1.out⟩
  simp only [Act.put, List.setIfInBounds_toArray, List.set_cons_zero, List.set_cons_succ, Nat.reduceAdd]
  refine planS_late (fun L9 u hi hb hS => ?_) ?_
  · have hc := hS.1
    have H := Lib.hid (fun (y : Value) (u' : World) (hb' : Calm u u') (hn : y = .int .i64 E) => (FreeS.do paF_stay hS hb' (i := 15) (show PaF R E 15 y u' from hn) : FreeS [13, 14, 15, 16, 17] (PaF R E) w1 ([13, 14, 15, 16, 17].map (updB L9 15)) (updV Y 15 y) u'))
    obtain ⟨A1, c1, e1, h1⟩ := (show ∃ A c, Y 13 = .tuple #[.slice A R.length c, .int .i64 E] ∧ Lies u A R from FreeS.get hS (i := 13) (by decide) (hb 13 (by simp)))
    rw [e1]
    clear e1
    clear h1
    clear hS hb hi hc
    go_wp2_with fail
    exact H.out _ u (Calm.refl _) rfl
  simp only [Act.put, List.setIfInBounds_toArray, List.set_cons_zero, List.set_cons_succ, Nat.reduceAdd]
  refine planS_late (fun L9 u hi hb hS => ?_) ?_
  · have hc := hS.1
    have H := Lib.hid (fun (y : Value) (u' : World) (hb' : Calm u u') (hn : ∃ A c, y = .slice A R.length c ∧ Lies u' A R) => (FreeS.do paF_stay hS hb' (i := 16) (show PaF R E 16 y u' from hn) : FreeS [13, 14, 15, 16, 17] (PaF R E) w1 ([13, 14, 15, 16, 17].map (updB L9 16)) (updV Y 16 y) u'))
    obtain ⟨A1, c1, e1, h1⟩ := (show ∃ A c, Y 14 = .slice A R.length c ∧ Lies u A R from FreeS.get hS (i := 14) (by decide) (hb 14 (by simp)))
    rw [e1]
    clear e1
    have H1 := Lib.hid h1
    clear h1
    clear hS hb hi hc
    go_wp2_with fail
    exact H.out _ u (Calm.refl _) ⟨A1, c1, rfl, H1.out⟩
  simp only [Act.put, List.setIfInBounds_toArray, List.set_cons_zero, List.set_cons_succ, Nat.reduceAdd]
  refine planS_late (fun L9 u hi hb hS => ?_) ?_
  · have hc := hS.1
    have H := Lib.hid (fun (y : Value) (u' : World) (hb' : Calm u u') (hn : y = .int .i64 E) => (FreeS.do paF_stay hS hb' (i := 17) (show PaF R E 17 y u' from hn) : FreeS [13, 14, 15, 16, 17] (PaF R E) w1 ([13, 14, 15, 16, 17].map (updB L9 17)) (updV Y 17 y) u'))
    have e1 := (show Y 15 = .int .i64 E from FreeS.get hS (i := 15) (by decide) (hb 15 (by simp)))
    rw [e1]
    clear e1
    clear hS hb hi hc
    go_wp2_with fail
    exact H.out _ u (Calm.refl _) rfl
  simp only [Act.put, List.setIfInBounds_toArray, List.set_cons_zero, List.set_cons_succ, Nat.reduceAdd]
  try simp only [Act.put, Nat.reduceAdd]
  refine planS_end ?_
  intro w7 hS
  have hc7 := hS.1
  obtain ⟨A9, c9, e9, h9⟩ := (show ∃ A c, Y 16 = .slice A R.length c ∧ Lies w7 A R from FreeS.get (L := fun _ => true) hS (i := 16) (by decide) rfl)
  have e8 := (show Y 17 = .int .i64 E from FreeS.get (L := fun _ => true) hS (i := 17) (by decide) rfl)
  have H9 := Lib.hid h9
  rw [e9, e8]
  clear hS e9 e8 h9
  go_wp2_with fail
  go_ret2
  exact ⟨_, rfl, ⟨A9, c9, rfl, HR4.out, H9.out⟩, hb1.call hc7⟩
open Go.RowKit
theorem patch_zero {l : List El} {P O a t : Int} {S : List UInt8} (h : patE l P O a S t = 0) : objErr l P O = 0 ∧ 0 ≤ a ∧ a ≤ (txtL l P O 2147483647).length ∧ setE l P O (patS (txtL l P O 2147483647) a.toNat S) t = 0 ∧ patR l P O a S t = setR l P O (patS (txtL l P O 2147483647) a.toNat S) t := by
 have h' := h
 unfold patE at h
 by_cases h1 : objErr l P O = 0
 ·rw [if_pos h1] at h
  by_cases h2 : 0 ≤ a ∧ a ≤ (txtL l P O 2147483647).length
  ·rw [if_pos h2] at h
   refine ⟨h1, h2.1, h2.2, h, ?_⟩
   unfold patR
   rw [if_pos h']
  ·rw [if_neg h2] at h; exact absurd h (by decide)
 ·rw [if_neg h1] at h; exact absurd h h1
set_option maxHeartbeats 8000000 in
theorem filePatches_walk (A : Option Addr) (d : Nat) (l : List El) (P O a : Int) (S : ByteArray) (t : Int) (w : World) (hn : l.length ≤ 9223372036854775807) (hL : Lies w A l) (hS : S.size ≤ 140737488351232) :
    Calls Try.prog 5 #[.slice A l.length d, .int .i64 P, .int .i64 O, .int .i64 a, .string S, .int .i64 t] w fun e w' => e = .returned (.bool true) ∧ Calm w w' := by
  have h0 : setE [] 0 5 ({ data := #[97, 98, 99] } : ByteArray).data.toList 1 = 0 := by kernel_rfl
  have hX : setR [] 0 5 ({ data := #[97, 98, 99] } : ByteArray).data.toList 1 = [⟨0, 5, 1, 1, 0, { data := #[97, 98, 99] }⟩] := by kernel_rfl
  have h1 : patE [⟨0, 5, 1, 1, 0, { data := #[97, 98, 99] }⟩] 0 5 1 ({ data := #[88, 89, 90] } : ByteArray).data.toList 2 = 0 := by kernel_rfl
  have hY2 : objErr (patR [⟨0, 5, 1, 1, 0, { data := #[97, 98, 99] }⟩] 0 5 1 ({ data := #[88, 89, 90] } : ByteArray).data.toList 2) 0 5 = 0 := by kernel_rfl
  have hY3 : txtL (patR [⟨0, 5, 1, 1, 0, { data := #[97, 98, 99] }⟩] 0 5 1 ({ data := #[88, 89, 90] } : ByteArray).data.toList 2) 0 5 2 = ({ data := #[97, 88, 89, 90] } : ByteArray).data.toList := by kernel_rfl
  have cS0 := fun u => setG (A := none) (c := 0) (u := u) (by simp) (lies_nil u) h0 hX
  have cP0 := fun A1 c1 u (hl : Lies u A1 [⟨0, 5, 1, 1, 0, { data := #[97, 98, 99] }⟩]) => filePatch_any A1 c1 [⟨0, 5, 1, 1, 0, { data := #[97, 98, 99] }⟩] 0 5 1 { data := #[88, 89, 90] } 2 u (by simp) hl (by decide)
  rw [h1] at cP0
  generalize patR [⟨0, 5, 1, 1, 0, { data := #[97, 98, 99] }⟩] 0 5 1 ({ data := #[88, 89, 90] } : ByteArray).data.toList 2 = Y at *
  have cG0 := fun A1 c1 u (hy : Y.length ≤ 9223372036854775807) (hl : Lies u A1 Y) => getS (c := c1) (P := 0) (O := 5) (t := 2) { data := #[97, 88, 89, 90] } hy hl hY2 hY3
  simp only [List.length_nil, List.length_singleton] at cS0 cP0
  clear h0 hX h1 hY2 hY3
  have hu := Calm.refl w
  have cG := fun u (hu : Calm w u) => fileGet_any A d l P O 2147483647 u hn (hL.calm hu)
  have cP := fun u (hu : Calm w u) => filePatch_any A d l P O a S t u hn (hL.calm hu) hS
  by_cases hE : patE l P O a S.data.toList t = 0
  rotate_left
  · have e2 : patR l P O a S.data.toList t = [] := by unfold patR; rw [if_neg hE]
    rw [e2] at cP
    have b1 : (patE l P O a S.data.toList t != 0) = true := by simpa using hE
    generalize patE l P O a S.data.toList t = E1 at *
    have hcs : objErr l P O = 0 ∨ (objErr l P O != 0) = true := by
      by_cases h : objErr l P O = 0
      · exact .inl h
      · exact .inr (by simpa using h)
    generalize getTxt l P O 2147483647 = V at *
    clear hE e2
    rcases hcs with h | b2
    · rw [h] at cG
      clear h
      go_enter Try.func5, Try.ntmps5
      go_wp2_with (first
        | (go_at_call 15; (with_reducible refine (cS0 _).mono ?_); rintro e w1 ⟨A1, c1, rfl, hl1, hb1⟩; have HL1 := Lib.hid hl1; replace hu := hu.call hb1; clear hb1 hl1 cS0)
        | (go_at_call 18; (with_reducible refine (cP0 _ _ _ HL1.out).mono ?_); rintro e w2 ⟨v2, rfl, ⟨A2, c2, rfl, hy2, hl2⟩, hb2⟩; have HL2 := Lib.hid hl2; have HY2 := Lib.hid hy2; replace hu := hu.call hb2; clear hb2 hl2 cP0 HL1 hy2)
        | (go_at_call 19; (with_reducible refine (cG0 _ _ _ HY2.out HL2.out).mono ?_); rintro e w3 ⟨rfl, hb3⟩; replace hu := hu.call hb3; clear hb3 cG0 HL2 HY2)
        | (go_at_call 19; (with_reducible refine (cG _ hu).mono ?_); rintro e w4 ⟨rfl, hb4⟩; replace hu := hu.call hb4; clear hb4 cG)
        | (go_at_call 18; (with_reducible refine (cP _ hu).mono ?_); rintro e w5 ⟨v5, rfl, ⟨A5, c5, rfl, _, hl5⟩, hb5⟩; have H5 := Lib.hid hl5; replace hu := hu.call hb5; clear hb5 hl5 cP))
      go_ret
      exact ⟨rfl, hu⟩
    · generalize objErr l P O = E2 at *
      go_enter Try.func5, Try.ntmps5
      go_wp2_with (first
        | (go_at_call 15; (with_reducible refine (cS0 _).mono ?_); rintro e w1 ⟨A1, c1, rfl, hl1, hb1⟩; have HL1 := Lib.hid hl1; replace hu := hu.call hb1; clear hb1 hl1 cS0)
        | (go_at_call 18; (with_reducible refine (cP0 _ _ _ HL1.out).mono ?_); rintro e w2 ⟨v2, rfl, ⟨A2, c2, rfl, hy2, hl2⟩, hb2⟩; have HL2 := Lib.hid hl2; have HY2 := Lib.hid hy2; replace hu := hu.call hb2; clear hb2 hl2 cP0 HL1 hy2)
        | (go_at_call 19; (with_reducible refine (cG0 _ _ _ HY2.out HL2.out).mono ?_); rintro e w3 ⟨rfl, hb3⟩; replace hu := hu.call hb3; clear hb3 cG0 HL2 HY2)
        | (go_at_call 19; (with_reducible refine (cG _ hu).mono ?_); rintro e w4 ⟨rfl, hb4⟩; replace hu := hu.call hb4; clear hb4 cG)
        | (go_at_call 18; (with_reducible refine (cP _ hu).mono ?_); rintro e w5 ⟨v5, rfl, ⟨A5, c5, rfl, _, hl5⟩, hb5⟩; have H5 := Lib.hid hl5; replace hu := hu.call hb5; clear hb5 hl5 cP))
      go_ret
      exact ⟨rfl, hu⟩
  obtain ⟨hO, ha0, ha1, hSE, hR⟩ := patch_zero hE
  obtain ⟨hG, hk⟩ := objErr_zero hO
  rw [hE, hR] at cP
  have hTl := txtL_len hG P O 2147483647
  unfold getTxt at cG
  rw [if_pos hO, hO] at cG
  obtain ⟨T, hT⟩ : ∃ T : ByteArray, T = ⟨(txtL l P O 2147483647).toArray⟩ := ⟨_, rfl⟩
  have hT1 : txtL l P O 2147483647 = T.data.toList := by rw [hT, bytes_list]
  have hTs : T.size ≤ 800 := by rw [hT, bytes_size]; exact hTl
  rw [← hT] at cG
  rw [hT1, bytes_len] at ha1
  rw [hT1] at hSE cP
  clear hT hT1 hTl hE hR hO
  obtain ⟨k, rfl⟩ : ∃ k : Nat, a = k := ⟨a.toNat, by omega⟩
  rw [Int.toNat_natCast] at hSE cP
  obtain ⟨M, hM⟩ : ∃ M, setR l P O (patS T.data.toList k S.data.toList) t = M := ⟨_, rfl⟩
  obtain ⟨-, -, -, -, -, -, I⟩ := setE_zero hSE
  have hMg : Good M := by rw [← hM]; exact I.good
  obtain ⟨U, hU⟩ : ∃ U : ByteArray, U = ⟨(patS T.data.toList k S.data.toList).toArray⟩ := ⟨_, rfl⟩
  have hUl : U.data.toList = patS T.data.toList k S.data.toList := by rw [hU, bytes_list]
  have cG2 := fun A1 c1 u (hl : Lies u A1 M) => getS (c := c1) (P := P) (O := O) (t := t) U (by have := hMg.1; omega) hl (good_obj hMg hk) (by rw [hUl, ← hM]; exact set_txt hSE (Int.le_refl _))
  rw [hM] at cP
  clear hM hSE I hG hk hMg hU
  have hkT : k ≤ T.size := by omega
  obtain ⟨e, he⟩ : ∃ e : Nat, e = k + S.size := ⟨_, rfl⟩
  have hUs : U.size = max T.size e := by
    rw [← bytes_len, hUl]
    unfold patS
    rw [List.length_append, List.length_append, List.length_take, List.length_drop, bytes_len, bytes_len]
    omega
  obtain ⟨m, hm⟩ : ∃ m : Nat, m = min T.size e := ⟨_, rfl⟩
  have htk : (T.data.toList.take k).length = k := by rw [List.length_take, bytes_len]; omega
  have x1 : U.extract 0 k = T.extract 0 k := str_eq (by
    rw [ext_take, ext_take, hUl]
    unfold patS
    rw [List.append_assoc, List.take_append_of_le_length (by rw [htk]; omega), List.take_take, Nat.min_self])
  have x2 : U.extract k e = S := str_eq (by
    rw [part_extract, part, hUl, he, Nat.add_sub_cancel_left]
    unfold patS
    rw [List.append_assoc, List.drop_append_of_le_length (by rw [htk]; omega), List.drop_eq_nil_of_le (by rw [htk]; omega), List.nil_append, ← bytes_len S, List.take_left])
  have x3 : U.extract e U.size = T.extract m T.size := str_eq (by
    rw [ext_rest, ext_rest, hUl]
    unfold patS
    have hl : (T.data.toList.take k ++ S.data.toList).length = e := by rw [List.length_append, htk, bytes_len, he]
    rw [← hl, List.drop_left, bytes_len, ← he, hm]
    by_cases h : T.size ≤ e
    · rw [Nat.min_eq_left h, List.drop_eq_nil_of_le (by rw [bytes_len]; omega), List.drop_eq_nil_of_le (by rw [bytes_len]; omega)]
    · rw [Nat.min_eq_right (by omega)])
  have z0 : (0 : Int) ≤ (k : Int) := by omega
  have z1 : IntKind.i64.wrap ((k : Int) + (S.size : Int)) = (e : Int) := by rw [IntWalk.i64_in _ (by omega)]; omega
  have z2 : (e : Int) ≤ (U.size : Int) := by omega
  have z3 : max (T.size : Int) (e : Int) = (U.size : Int) := by omega
  have z4 : min (T.size : Int) (e : Int) = (m : Int) := by omega
  have z5 : (0 : Int) ≤ (m : Int) := by omega
  have z6 : (m : Int) ≤ (T.size : Int) := by omega
  have z7 : (k : Int) ≤ (e : Int) := by omega
  have z8 : (k : Int) ≤ (T.size : Int) := by omega
  have z9 : (k : Int) ≤ (U.size : Int) := by omega
  have z10 : (0 : Int) ≤ (e : Int) := by omega
  have z11 : ¬ (U.size : Int) < (e : Int) := by omega
  clear htk hUl hTs he hm hUs hkT ha0 ha1
  obtain ⟨X1, hX1⟩ : ∃ X, T.extract 0 k = X := ⟨_, rfl⟩
  obtain ⟨X3, hX3⟩ : ∃ X, T.extract m T.size = X := ⟨_, rfl⟩
  rw [hX1] at x1
  rw [hX3] at x3
  go_enter Try.func5, Try.ntmps5
  go_upto_region 13 with (first
    | (go_at_call 15; (with_reducible refine (cS0 _).mono ?_); rintro e w1 ⟨A1, c1, rfl, hl1, hb1⟩; have HL1 := Lib.hid hl1; replace hu := hu.call hb1; clear hb1 hl1 cS0)
        | (go_at_call 18; (with_reducible refine (cP0 _ _ _ HL1.out).mono ?_); rintro e w2 ⟨v2, rfl, ⟨A2, c2, rfl, hy2, hl2⟩, hb2⟩; have HL2 := Lib.hid hl2; have HY2 := Lib.hid hy2; replace hu := hu.call hb2; clear hb2 hl2 cP0 HL1 hy2)
        | (go_at_call 19; (with_reducible refine (cG0 _ _ _ HY2.out HL2.out).mono ?_); rintro e w3 ⟨rfl, hb3⟩; replace hu := hu.call hb3; clear hb3 cG0 HL2 HY2)
        | (go_at_call 19; (with_reducible refine (cG _ hu).mono ?_); rintro e w4 ⟨rfl, hb4⟩; replace hu := hu.call hb4; clear hb4 cG)
        | (go_at_call 18; (with_reducible refine (cP _ hu).mono ?_); rintro e w5 ⟨v5, rfl, ⟨A5, c5, rfl, _, hl5⟩, hb5⟩; have H5 := Lib.hid hl5; replace hu := hu.call hb5; clear hb5 hl5 cP)
    | (go_at_call 19; (with_reducible refine (cG2 _ _ _ H5.out).mono ?_); rintro e w6 ⟨rfl, hb6⟩; replace hu := hu.call hb6; clear hb6 cG2))
  clear z3 z11
  refine wp_region_plan [.val (.string U), .val (.int .i64 (k)), .val (.string X1), .val (.string T), .val (.int .i64 (k)), .val (.string X1), .val (.bool true), .val (.bool true), .val (.string U), .val (.int .i64 (k)), .val (.int .i64 (k)), .val (.string S), .val (.int .i64 ((S.size : Int))), .val (.int .i64 (e)), .val (.string S), .val (.string S), .val (.bool true), .val (.bool true), .val (.bool true), .val (.string U), .val (.int .i64 (k)), .val (.string S), .val (.int .i64 ((S.size : Int))), .val (.int .i64 (e)), .val (.string X3), .val (.string T), .val (.string T), .val (.int .i64 ((T.size : Int))), .val (.int .i64 (k)), .val (.string S), .val (.int .i64 ((S.size : Int))), .val (.int .i64 (e)), .val (.int .i64 (m)), .val (.string X3), .val (.bool true), .val (.bool true), .val (.bool true)] (by kernel_rfl) (by kernel_rfl) (by kernel_rfl) ?_
  intro X
  iterate 37
    refine plan_val (by kernel_rfl) (fun u hu => ?_) ?_
    · obtain ⟨hc, hf, hz⟩ := hu.of_drew.facts
      go_simp
      all_goals first
        | (omega)
        | ((simp; done))
    simp only [Act.put, List.setIfInBounds_toArray, List.set_cons_zero, List.set_cons_succ, Nat.reduceAdd]
  refine plan_end ?_
  intro w' hB
  have hk := hB.calm.of_drew
  clear hB
  go_wp2_with fail
  go_ret
  exact ⟨rfl, hu.call hk⟩
open Go.ChangeShapes Go.WideShapes Go.ChangeAt Go.RowKit
theorem bytesElem : Try.prog.bytesOf 41 = 56 := by kernel_rfl
theorem sized_elems {H : Type} {enc : TypeId × Value → H} {w : World} {base : Nat} {spare : Nat → Bool} {held : Bool} {ts : List TypeId} {ds : List (DataW H)} {d : DataW H} {ps : List MemPlace} {A : Option Addr} {n c : Nat} {j : Nat}
    (hsz : (DataW.weightsEach Try.prog ts ds).all (· ≤ reachBytes) = true) (ht : ts[j]? = some 22) (hd : ds[j]? = some d) (h : DataW.Trod enc Try.prog w base spare held 22 (.slice A n c) d ps) : n * 56 ≤ 140737488351232 := by
  obtain ⟨fuel, hf⟩ := h
  rcases Go.Deep.open_slice Try.underlying22 hf with ⟨h0, _⟩ | ⟨a, len', cap', m, k, D, Pl, hcs, _, hl, hm, hmm, hx, hi⟩
  · have h0' : Value.slice A n c = .slice none 0 0 := by simpa [Value.cells] using h0
    injection h0' with h1 h2 h3
    omega
  · have h0' : Value.slice A n c = .slice (some a) len' cap' := by simpa [Value.cells] using hcs
    injection h0' with h1 h2 h3
    simp only [Prod.mk.injEq] at hx
    rw [hx.1] at hd
    have := sized_slice hsz ht hd Try.underlying22
    rw [bytesElem] at this
    simp only [List.length_map, List.length_range, reachBytes] at this
    omega
theorem elems_cap {H : Type} {enc : TypeId × Value → H} {w : World} {base : Nat} {spare : Nat → Bool} {held : Bool} {d : DataW H} {ps : List MemPlace} {A : Option Addr} {n c : Nat} (h : DataW.Trod enc Try.prog w base spare held 22 (.slice A n c) d ps) : n ≤ c := by
 obtain ⟨fuel, hf⟩ := h
 rcases Go.Deep.open_slice Try.underlying22 hf with ⟨h0, _⟩ | ⟨a, len', cap', m, k, D, Pl, hcs, _, hl, hm, hmm, hx, hi⟩
 ·have h0' : Value.slice A n c = .slice none 0 0 := by simpa [Value.cells] using h0
  injection h0' with h1 h2 h3
  omega
 ·have h0' : Value.slice A n c = .slice (some a) len' cap' := by simpa [Value.cells] using hcs
  injection h0' with h1 h2 h3
  omega
end Go.Proofs.Ytcjndjabhhpheaa
