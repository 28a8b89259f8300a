/- Texts of one kind in one file. -/
import Derived.Lib.Hide
import Derived.Deep.AppendSrc
import Derived.Deep.RegionLaw
import Derived.Laws.Externs
import Derived.Lib.AppendZerosOnto
import Derived.Lib.Overlaps
import Derived.Lib.SliceRun
import Derived.Outline
import Derived.SizedLaws
import Derived.OpenShut
import Derived.Deep.MidRow
import Derived.ChangeKeysEq
import Derived.IntWalk
import Derived.Test.YtljjeolifdpedaaPkRealmWrites1
set_option maxRecDepth 100000
namespace Go.Proofs.Ytljjeolifdpedaa
open Go.RowKit
theorem str_ne {s s' : ByteArray} (h : ¬ s = s') : (s.toList == s'.toList) = false := by
 cases e : s.toList == s'.toList
 ·rfl
 ·exfalso
  have h2 := eq_of_beq e
  rw [ByteArray.toList_eq, ByteArray.toList_eq] at h2
  exact h (ByteArray.ext (Array.toList_inj.1 h2))
set_option maxHeartbeats 8000000 in
theorem equal_any (A A' : Option Addr) (c c' : Nat) (l l' : List El) (w : World) (hn : l.length ≤ 9223372036854775807) (_hn' : l'.length ≤ 9223372036854775807) (hL : Lies w A l) (hL' : Lies w A' l') :
    Calls Try.prog 24 #[.slice A l.length c, .slice A' l'.length c'] w fun e w' => e = .returned (.bool (decide (l = l'))) ∧ Calm w w' := by
  by_cases hll : l.length = l'.length
  rotate_left
  · have hd : decide (l = l') = false := decide_eq_false fun h => hll (by rw [h])
    have hz : ¬ (l.length : Int) = (l'.length : Int) := by omega
    rw [hd]
    clear hd hll hL hL'
    go_enter Try.func24, Try.ntmps24
    go_wp2_with fail
    go_ret
    exact ⟨rfl, Calm.refl _⟩
  have HD : Hid (decide (l = l') = decide (l = l')) := rfl
  generalize hr : decide (l = l') = r
  have HR : Hid (decide (l = l') = r) := hr
  clear hr HD
  obtain ⟨n, hn1⟩ : ∃ n, n = l.length := ⟨_, rfl⟩
  have hn2 : n = l'.length := hn1.trans hll
  rw [← hn1, ← hn2]
  rw [← hn1] at hn
  have HN1 : Hid (n = l.length) := hn1
  have HN2 : Hid (n = l'.length) := hn2
  clear hn1 hn2 hll
  go_enter Try.func24, Try.ntmps24
  go_wp2_with fail
  go_loopw [13] (fun i wr => ∃ k : Nat, k ≤ n ∧ i = .int .i64 k ∧ Calm w wr ∧ Hid (∀ j, j < k → l[j]? = l'[j]?)) (fun i _ => n - (intOf i).toNat)
  case atStart => exact ⟨0, Nat.zero_le _, rfl, Calm.refl _, show ∀ _, _ from fun j h => absurd h (Nat.not_lt_zero _)⟩
  case round =>
    obtain ⟨k, hk, rfl, hu, hN⟩ := hrel
    by_cases hlt : k < n
    rotate_left
    · have K : Hid (r = true) := by
        rw [← HR.out]
        refine decide_eq_true (List.ext_getElem? fun j => ?_)
        rcases Nat.lt_or_ge j k with h | h
        · exact hN.out j h
        · rw [List.getElem?_eq_none (by rw [← HN1.out]; omega), List.getElem?_eq_none (by rw [← HN2.out]; omega)]
      clear HR
      go_wp2_with fail
      go_ret
      exact ⟨by rw [K.out]; rfl, hu⟩
    obtain ⟨b, q, p, o, f, m, g, s, rfl, hb, HE, hm, c0, c1, c2, c3, c4, c5⟩ := (hL.calm hu).get (by rw [← HN1.out]; exact hlt)
    obtain ⟨b', q', p', o', f', m', g', s', rfl, hb', HE', hm', d0, d1, d2, d3, d4, d5⟩ := (hL'.calm hu).get (by rw [← HN2.out]; exact hlt)
    have hiz : (k : Int) < (n : Int) := by omega
    have hDF : (⟨p, o, f, m, g, s⟩ : El) ≠ ⟨p', o', f', m', g', s'⟩ → l ≠ l' := fun h h2 => by
      have h3 := HE.out; rw [h2, HE'.out] at h3; injection h3 with h3; exact h h3.symm
    have hN1 : (⟨p, o, f, m, g, s⟩ : El) = ⟨p', o', f', m', g', s'⟩ → Hid (∀ j, j < k + 1 → l[j]? = l'[j]?) := fun h => show ∀ _, _ from fun j hj => by
      rcases Nat.lt_or_ge j k with h2 | h2
      · exact hN.out j h2
      · rw [show j = k by omega, HE.out, HE'.out, h]
    have HR2 := HR.out
    clear hL hL' HE HE' hm hm'
    have hcs : ¬ p = p' ∨ (p = p' ∧ ¬ o = o') ∨ (p = p' ∧ o = o' ∧ ¬ f = f') ∨ (p = p' ∧ o = o' ∧ f = f' ∧ ¬ m = m') ∨ (p = p' ∧ o = o' ∧ f = f' ∧ m = m' ∧ ¬ g = g') ∨ (p = p' ∧ o = o' ∧ f = f' ∧ m = m' ∧ g = g' ∧ ¬ s = s') ∨ (p = p' ∧ o = o' ∧ f = f' ∧ m = m' ∧ g = g' ∧ s = s') := by
      by_cases e0 : p = p' <;> by_cases e1 : o = o' <;> by_cases e2 : f = f' <;> by_cases e3 : m = m' <;> by_cases e4 : g = g' <;> by_cases e5 : s = s' <;> simp [*]
    rcases hcs with h0 | ⟨h0, h1⟩ | ⟨h0, h1, h2⟩ | ⟨h0, h1, h2, h3⟩ | ⟨h0, h1, h2, h3, h4⟩ | ⟨h0, h1, h2, h3, h4, h5⟩ | ⟨h0, h1, h2, h3, h4, h5⟩
    · skip
      go_wp2_with fail
      refine wp_region_plan [.val (.slice (some ⟨b, q, none⟩) n c), .val (.int .i64 ((k : Int))), .val (.pointer (some ⟨b, q + k * 6, none⟩)), .val (.agg #[.int .i64 p, .int .i64 o, .int .i64 f, .int .i64 m, .int .i64 g, .string s]), .val (.slice (some ⟨b', q', none⟩) n c'), .val (.int .i64 ((k : Int))), .val (.pointer (some ⟨b', q' + k * 6, none⟩)), .val (.agg #[.int .i64 p', .int .i64 o', .int .i64 f', .int .i64 m', .int .i64 g', .string s']), .val (.bool true)] (by kernel_rfl) (by kernel_rfl) (by kernel_rfl) ?_
      intro X
      iterate 9
        refine plan_val (by kernel_rfl) (fun u hu => ?_) ?_
        · obtain ⟨hc, hf, hz⟩ := hu.of_drew.facts
          go_simp
        simp only [Act.put, List.setIfInBounds_toArray, List.set_cons_zero, List.set_cons_succ, Nat.reduceAdd]
      refine plan_end ?_
      intro w' hB
      have hk := hB.calm.of_drew
      clear hB
      go_wp2_with fail
      go_ret
      exact ⟨ret_bool ((decide_eq_false (hDF (by simp [*]))).symm.trans HR2), hu.call hk⟩
    · skip
      subst h0
      go_wp2_with fail
      refine wp_region_plan [.val (.slice (some ⟨b, q, none⟩) n c), .val (.int .i64 ((k : Int))), .val (.pointer (some ⟨b, q + k * 6, none⟩)), .val (.agg #[.int .i64 p, .int .i64 o, .int .i64 f, .int .i64 m, .int .i64 g, .string s]), .val (.slice (some ⟨b', q', none⟩) n c'), .val (.int .i64 ((k : Int))), .val (.pointer (some ⟨b', q' + k * 6, none⟩)), .val (.agg #[.int .i64 p, .int .i64 o', .int .i64 f', .int .i64 m', .int .i64 g', .string s']), .val (.bool true)] (by kernel_rfl) (by kernel_rfl) (by kernel_rfl) ?_
      intro X
      iterate 9
        refine plan_val (by kernel_rfl) (fun u hu => ?_) ?_
        · obtain ⟨hc, hf, hz⟩ := hu.of_drew.facts
          go_simp
        simp only [Act.put, List.setIfInBounds_toArray, List.set_cons_zero, List.set_cons_succ, Nat.reduceAdd]
      refine plan_end ?_
      intro w' hB
      have hk := hB.calm.of_drew
      clear hB
      go_wp2_with fail
      go_ret
      exact ⟨ret_bool ((decide_eq_false (hDF (by simp [*]))).symm.trans HR2), hu.call hk⟩
    · skip
      subst h0
      subst h1
      go_wp2_with fail
      refine wp_region_plan [.val (.slice (some ⟨b, q, none⟩) n c), .val (.int .i64 ((k : Int))), .val (.pointer (some ⟨b, q + k * 6, none⟩)), .val (.agg #[.int .i64 p, .int .i64 o, .int .i64 f, .int .i64 m, .int .i64 g, .string s]), .val (.slice (some ⟨b', q', none⟩) n c'), .val (.int .i64 ((k : Int))), .val (.pointer (some ⟨b', q' + k * 6, none⟩)), .val (.agg #[.int .i64 p, .int .i64 o, .int .i64 f', .int .i64 m', .int .i64 g', .string s']), .val (.bool true)] (by kernel_rfl) (by kernel_rfl) (by kernel_rfl) ?_
      intro X
      iterate 9
        refine plan_val (by kernel_rfl) (fun u hu => ?_) ?_
        · obtain ⟨hc, hf, hz⟩ := hu.of_drew.facts
          go_simp
        simp only [Act.put, List.setIfInBounds_toArray, List.set_cons_zero, List.set_cons_succ, Nat.reduceAdd]
      refine plan_end ?_
      intro w' hB
      have hk := hB.calm.of_drew
      clear hB
      go_wp2_with fail
      go_ret
      exact ⟨ret_bool ((decide_eq_false (hDF (by simp [*]))).symm.trans HR2), hu.call hk⟩
    · skip
      subst h0
      subst h1
      subst h2
      go_wp2_with fail
      refine wp_region_plan [.val (.slice (some ⟨b, q, none⟩) n c), .val (.int .i64 ((k : Int))), .val (.pointer (some ⟨b, q + k * 6, none⟩)), .val (.agg #[.int .i64 p, .int .i64 o, .int .i64 f, .int .i64 m, .int .i64 g, .string s]), .val (.slice (some ⟨b', q', none⟩) n c'), .val (.int .i64 ((k : Int))), .val (.pointer (some ⟨b', q' + k * 6, none⟩)), .val (.agg #[.int .i64 p, .int .i64 o, .int .i64 f, .int .i64 m', .int .i64 g', .string s']), .val (.bool true)] (by kernel_rfl) (by kernel_rfl) (by kernel_rfl) ?_
      intro X
      iterate 9
        refine plan_val (by kernel_rfl) (fun u hu => ?_) ?_
        · obtain ⟨hc, hf, hz⟩ := hu.of_drew.facts
          go_simp
        simp only [Act.put, List.setIfInBounds_toArray, List.set_cons_zero, List.set_cons_succ, Nat.reduceAdd]
      refine plan_end ?_
      intro w' hB
      have hk := hB.calm.of_drew
      clear hB
      go_wp2_with fail
      go_ret
      exact ⟨ret_bool ((decide_eq_false (hDF (by simp [*]))).symm.trans HR2), hu.call hk⟩
    · skip
      subst h0
      subst h1
      subst h2
      subst h3
      go_wp2_with fail
      refine wp_region_plan [.val (.slice (some ⟨b, q, none⟩) n c), .val (.int .i64 ((k : Int))), .val (.pointer (some ⟨b, q + k * 6, none⟩)), .val (.agg #[.int .i64 p, .int .i64 o, .int .i64 f, .int .i64 m, .int .i64 g, .string s]), .val (.slice (some ⟨b', q', none⟩) n c'), .val (.int .i64 ((k : Int))), .val (.pointer (some ⟨b', q' + k * 6, none⟩)), .val (.agg #[.int .i64 p, .int .i64 o, .int .i64 f, .int .i64 m, .int .i64 g', .string s']), .val (.bool true)] (by kernel_rfl) (by kernel_rfl) (by kernel_rfl) ?_
      intro X
      iterate 9
        refine plan_val (by kernel_rfl) (fun u hu => ?_) ?_
        · obtain ⟨hc, hf, hz⟩ := hu.of_drew.facts
          go_simp
        simp only [Act.put, List.setIfInBounds_toArray, List.set_cons_zero, List.set_cons_succ, Nat.reduceAdd]
      refine plan_end ?_
      intro w' hB
      have hk := hB.calm.of_drew
      clear hB
      go_wp2_with fail
      go_ret
      exact ⟨ret_bool ((decide_eq_false (hDF (by simp [*]))).symm.trans HR2), hu.call hk⟩
    · skip
      subst h0
      subst h1
      subst h2
      subst h3
      subst h4
      have hs1 : (s.toList == s'.toList) = false := str_ne h5
      go_wp2_with fail
      refine wp_region_plan [.val (.slice (some ⟨b, q, none⟩) n c), .val (.int .i64 ((k : Int))), .val (.pointer (some ⟨b, q + k * 6, none⟩)), .val (.agg #[.int .i64 p, .int .i64 o, .int .i64 f, .int .i64 m, .int .i64 g, .string s]), .val (.slice (some ⟨b', q', none⟩) n c'), .val (.int .i64 ((k : Int))), .val (.pointer (some ⟨b', q' + k * 6, none⟩)), .val (.agg #[.int .i64 p, .int .i64 o, .int .i64 f, .int .i64 m, .int .i64 g, .string s']), .val (.bool true)] (by kernel_rfl) (by kernel_rfl) (by kernel_rfl) ?_
      intro X
      iterate 9
        refine plan_val (by kernel_rfl) (fun u hu => ?_) ?_
        · obtain ⟨hc, hf, hz⟩ := hu.of_drew.facts
          go_simp
        simp only [Act.put, List.setIfInBounds_toArray, List.set_cons_zero, List.set_cons_succ, Nat.reduceAdd]
      refine plan_end ?_
      intro w' hB
      have hk := hB.calm.of_drew
      clear hB
      clear hs1
      go_wp2_with fail
      go_ret
      exact ⟨ret_bool ((decide_eq_false (hDF (by simp [*]))).symm.trans HR2), hu.call hk⟩
    · skip
      subst h0
      subst h1
      subst h2
      subst h3
      subst h4
      subst h5
      have hN2 := hN1 rfl
      clear hN1 hDF
      go_wp2_with fail
      refine wp_region_plan [.val (.slice (some ⟨b, q, none⟩) n c), .val (.int .i64 ((k : Int))), .val (.pointer (some ⟨b, q + k * 6, none⟩)), .val (.agg #[.int .i64 p, .int .i64 o, .int .i64 f, .int .i64 m, .int .i64 g, .string s]), .val (.slice (some ⟨b', q', none⟩) n c'), .val (.int .i64 ((k : Int))), .val (.pointer (some ⟨b', q' + k * 6, none⟩)), .val (.agg #[.int .i64 p, .int .i64 o, .int .i64 f, .int .i64 m, .int .i64 g, .string s]), .val (.bool false)] (by kernel_rfl) (by kernel_rfl) (by kernel_rfl) ?_
      intro X
      iterate 9
        refine plan_val (by kernel_rfl) (fun u hu => ?_) ?_
        · obtain ⟨hc, hf, hz⟩ := hu.of_drew.facts
          go_simp
        simp only [Act.put, List.setIfInBounds_toArray, List.set_cons_zero, List.set_cons_succ, Nat.reduceAdd]
      refine plan_end ?_
      intro w' hB
      have hk := hB.calm.of_drew
      clear hB
      go_wp2_with fail
      go_roundw
      case rel => exact ⟨k + 1, by omega, by go_num, hu.call hk, hN2⟩
      case measure => simp [intOf]; omega
open Go.RowKit
def Keeps (base : Nat) (w w' : World) : Prop := ∀ w0 : World, w0.heap.size ≤ base → Calm w0 w → Calm w0 w'
def OwnEnd (base : Nat) (l : List El) (w : World) (e : Ending) (w' : World) : Prop := ∃ v, e = .returned v ∧ OwnR base w' v l ∧ Keeps base w w'
theorem infoElem6s : (Try.prog.info? 50).map (·.size) = some 6 := by kernel_rfl
def spl (cur : List Value) (o : Nat) (cs : List Value) : List Value := cur.take o ++ cs ++ cur.drop (o + cs.length)
/-- copy(d, s) of records, into a row. -/
theorem run_copy_el (w : World) (ty : TypeId) (g o dLen dCap : Nat) (a : Addr) (sLen sCap : Nat) (cur : List Value) (t : TypeId) (cs : List Value)
    (hg : w.heap[g]? = some (.cells cur.toArray t (0, 0))) (hn : cs.length = Nat.min sLen dLen * 6)
    (hsrc : ∀ j v, cs[j]? = some v → w.cell? (a.add j) = some v) (hfit : o + cs.length ≤ cur.length) (h1 : ∀ v ∈ cs, v.oneCell' = true) :
    (Builtin.copy_ #[22, 22] ty #[.slice (some ⟨g, o, none⟩) dLen dCap, .slice (some a) sLen sCap]).run Try.prog w =
      .ok (goInt (Nat.min sLen dLen)) (w.setRow g (spl cur o cs).toArray) := by
  have hl := run_loadCells_list (P := Try.prog) w a cs hsrc
  have hst := run_storeCells_at Try.prog g o t cs 0 cur.toArray w hg (by simpa using hfit) h1
  have hs := infoElem6s
  cases hq : Try.prog.info? 50 with
  | none => simp [hq] at hs
  | some i =>
    have hi : i.size = 6 := by simpa [hq] using hs
    simp [Builtin.copy_, run_underlying Try.underlying22, Builtin.lenOf, Builtin.firstCells, sizeOf, typeInfo, hq, hi, ← hn, hl, hst, spl]
/-- A copy whose run is known, as an operation of a plain region and of one that draws. -/
theorem wpList_copy_known {P : Program} {w : World} {ops : Array Oper} {rest : List Oper} {o : Oper} {a : Act} {Q : Exit → Act → World → Prop} (hgd : o.guard = none) (d s : Operand) (t : TypeId)
    (ho : o.op = .call { callee := .builtin .copy, args := #[d, s], argTypes := #[t, t] }) (v u : Value) (hd : a.eval d = v) (hs : a.eval s = u) {v' : Value} {w' : World}
    (hr : (Builtin.copy_ #[t, t] o.type #[v, u]).run P w = .ok v' w') (h : wpList P ops Q rest (a.put o.dst v') w') : wpList P ops Q (o :: rest) a w :=
  wpList_plain hgd fun _ hK => by
    unfold Oper.wp execOp
    simp only [ho, resolve, invoke, builtin, Sem.run_bind, Sem.run_pure, Result.andThen_ok, List.map_toArray, List.map_cons, List.map_nil, hd, hs, hr]
    exact hK _ _ h
theorem step_copy_known {P : Program} {ops : Array Oper} {o : Oper} {a : Act} {w : World} {K : Act → World → Prop} {Q : Exit → Act → World → Prop} {E : Prop}
    (hg : o.guard = none) (d x : Operand) (t : TypeId) (hop : o.op = Op.call { callee := Callee.builtin Builtin.copy, args := #[d, x], argTypes := #[t, t] })
    (v u : Value) (hd : a.eval d = v) (hx : a.eval x = u) {v' : Value} {w' : World} (hr : (Builtin.copy_ #[t, t] o.type #[v, u]).run P w = .ok v' w') (hK : K (a.put o.dst v') w') :
    if Region.wanted o (yielded ops a.tmps) = true then Oper.wp P o a w K Q else E := by
  have hw : Region.wanted o (yielded ops a.tmps) = true := by simp [Region.wanted, hg]
  rw [if_pos hw]
  unfold Oper.wp
  simp only [execOp, hop, resolve, invoke, builtin, Sem.run_bind, Sem.run_pure, Result.andThen_ok, List.map_toArray, List.map_cons, List.map_nil, hd, hx, hr]
  exact hK
theorem Lies.cells {w : World} {b q : Nat} {l : List El} (h : Lies w (some ⟨b, q, none⟩) l) : ∀ j v, (cellsOf l)[j]? = some v → w.cell? ⟨b, q + j, none⟩ = some v := fun j v hj => by
 have hlt : j < l.length * 6 := by rw [← cellsOf_len]; exact (List.getElem?_eq_some_iff.1 hj).1
 have hk : j / 6 < l.length := by omega
 have hel := List.getElem?_eq_getElem hk
 obtain ⟨b', q', hA, _, hat⟩ := h.2 (by omega)
 injection hA with hA
 injection hA with h1 h2
 subst h1; subst h2
 have h6 := hat _ _ hel
 rw [show j = j / 6 * 6 + j % 6 by omega, cellsOf_at l (j / 6) (j % 6) _ hel (by omega)] at hj
 have hm : j % 6 < 6 := by omega
 obtain ⟨h0, h1, h2, h3, h4, h5⟩ := h6
 rw [show q + j = q + j / 6 * 6 + j % 6 by omega]
 rcases (by omega : j % 6 = 0 ∨ j % 6 = 1 ∨ j % 6 = 2 ∨ j % 6 = 3 ∨ j % 6 = 4 ∨ j % 6 = 5) with e | e | e | e | e | e <;> rw [e] at hj ⊢ <;> simp [El.cells] at hj <;> subst hj <;> assumption
set_option maxHeartbeats 4000000 in
theorem clone_any (A : Option Addr) (c : Nat) (l : List El) (w : World) (hn : l.length ≤ 400) (hL : Lies w A l) :
    Calls Try.prog 37 #[.slice A l.length c] w fun e w' => ∃ v, e = .returned v ∧ OwnR w.heap.size w' v l ∧ Calm w w' := by
  rcases A with _ | ⟨b, q, sp⟩
  · have h0 : l = [] := by
      rcases Nat.eq_zero_or_pos l.length with h | h
      · exact List.eq_nil_of_length_eq_zero h
      · obtain ⟨_, _, h1, _⟩ := hL.2 h; cases h1
    subst h0
    have q22 : ∀ (w : World) (n c n' c' : Nat), (binOp .eql 22 (.slice none n c) (.slice none n' c')).run Try.prog w = .ok (.bool true) w := fun w n c n' c' => Lib.run_eql_slice_nil w _ _ none n c n' c' Try.underlying22
    go_enter Try.func37, Try.ntmps37
    go_wp2_with fail
    go_ret
    exact ⟨_, rfl, OwnR.nil _ _, Calm.refl _⟩
  · obtain ⟨i0, hi, hz0, hz1, hz2⟩ := info_parts infoElem
    have q22 : ∀ (w : World) (a : Addr) (n c n' c' : Nat), (binOp .eql 22 (.slice (some a) n c) (.slice none n' c')).run Try.prog w = .ok (.bool false) w := fun w a n c n' c' => Lib.run_eql_slice_nil w _ _ (some a) n c n' c' Try.underlying22
    have hsrc : Hid (∀ j v, (cellsOf l)[j]? = some v → (w.alloc (.cells #[] 50)).cell? ((⟨b, q, sp⟩ : Addr).add j) = some v) := show ∀ _, _ from fun j v hj => by
      have hlt : j < l.length * 6 := by rw [← cellsOf_len]; exact (List.getElem?_eq_some_iff.1 hj).1
      obtain ⟨b', q', hA, hb, _⟩ := hL.2 (by omega)
      injection hA with hA
      injection hA with h1 h2 h3
      subst h1; subst h2; subst h3
      have := hL.cells j v hj
      have e : (⟨b, q, none⟩ : Addr).add j = ⟨b, q + j, none⟩ := by unfold Addr.add; split <;> simp_all
      rw [e, World.cell?_alloc_lt _ _ _ hb]; exact this
    have hlen : (cellsOf l).length = l.length * 6 := cellsOf_len l
    have HLEN := Lib.hid hlen
    have hone : Hid (∀ u ∈ cellsOf l, u.oneCell' = true) := cellsOf_one l
    have hbig : l.length * 56 ≤ 140737488355328 := by omega
    have hmax : l.length ≤ maxLen := by unfold maxLen; omega
    clear hlen hL
    go_enter Try.func37, Try.ntmps37
    go_wp2_with (at_builtin; refine wpList_append_own _ rfl _ _ 22 rfl w.heap.size 50 i0 _ 6 56 Try.underlying22 hi hz0 hz1 hz2 rfl (by decide) _ _ _ rfl (World.ownsRow_made w #[] 0 (Nat.le_refl _) (Nat.zero_le _) (by simp)) ⟨b, q, sp⟩ l.length c (cellsOf l) rfl HLEN.out hsrc.out hone.out (by rw [Nat.zero_add]; exact hmax) (by rw [Nat.zero_add]; exact hbig) (by simp) ?_; intro v' w1 hown hgrow _)
    have hO : OwnR w.heap.size w1 v' l := by unfold OwnR; simpa using hown
    have hC : Calm w w1 := Below.grown ((Calm.refl w).alloc _) hgrow (by simp) (by intro k hk; cases hk; exact Nat.le_refl _)
    clear hown hgrow
    go_wp2_with fail
    go_ret
    exact ⟨_, rfl, hO, hC⟩
theorem insAt_len {l : List El} {i : Nat} (e : El) (hi : i ≤ l.length) : (insAt l i e).length = l.length + 1 := by
 unfold insAt; rw [List.length_append, List.length_cons, List.length_take, List.length_drop]; omega
theorem cellsOf_app (a b : List El) : cellsOf (a ++ b) = cellsOf a ++ cellsOf b := by unfold cellsOf; simp
theorem cellsOf_take {l : List El} {i : Nat} (hi : i ≤ l.length) : (cellsOf l).take (i * 6) = cellsOf (l.take i) := by
 have h := cellsOf_app (l.take i) (l.drop i)
 rw [List.take_append_drop] at h
 rw [h]
 exact List.take_left' (by rw [cellsOf_len, List.length_take]; congr 1; omega)
theorem cellsOf_drop {l : List El} {i : Nat} (hi : i ≤ l.length) : (cellsOf l).drop (i * 6) = cellsOf (l.drop i) := by
 have h := cellsOf_app (l.take i) (l.drop i)
 rw [List.take_append_drop] at h
 rw [h]
 exact List.drop_left' (by rw [cellsOf_len, List.length_take]; congr 1; omega)
theorem cellsOf_ins (l : List El) (i : Nat) (e : El) : cellsOf (insAt l i e) = cellsOf (l.take i) ++ e.cells ++ cellsOf (l.drop i) := by
 unfold insAt; rw [cellsOf_app, List.append_assoc]; rfl
theorem spl_mid (a x c y : List Value) (h : x.length = y.length) (o : Nat) (ho : o = a.length) : spl (a ++ x ++ c) o y = a ++ y ++ c := by
 subst ho
 have e1 : (a ++ x ++ c).take a.length = a := by rw [List.append_assoc]; exact List.take_left' rfl
 have e2 : (a ++ x ++ c).drop (a.length + y.length) = c := List.drop_left' (by rw [List.length_append, h])
 unfold spl
 rw [e1, e2]
theorem parts {cur : List Value} {l : List El} {i : Nat} (hc : cur.take (l.length * 6) = cellsOf l) (hs : (l.length + 1) * 6 ≤ cur.length) :
    ∃ d r, cur = cellsOf (l.take i) ++ cellsOf (l.drop i) ++ d ++ r ∧ d.length = 6 ∧ r = cur.drop ((l.length + 1) * 6) := by
  refine ⟨(cur.drop (l.length * 6)).take 6, cur.drop ((l.length + 1) * 6), ?_, ?_, rfl⟩
  · rw [← cellsOf_app, List.take_append_drop, ← hc, List.append_assoc]
    have h1 : (cur.drop (l.length * 6)).drop 6 = cur.drop ((l.length + 1) * 6) := by rw [List.drop_drop]; congr 1; omega
    rw [← h1, List.take_append_drop, List.take_append_drop]
  · rw [List.length_take, List.length_drop]; omega
theorem row_shift {cur : List Value} {l : List El} {i : Nat} (e : El) (hi : i ≤ l.length) (hc : cur.take (l.length * 6) = cellsOf l) (hs : (l.length + 1) * 6 ≤ cur.length) :
    spl (spl cur ((i + 1) * 6) (cellsOf (l.drop i))) (i * 6) e.cells = cellsOf (insAt l i e) ++ cur.drop ((l.length + 1) * 6) := by
  obtain ⟨d, r, hcur, hd, hr⟩ := parts (i := i) hc hs
  have hl1 : (cellsOf (l.take i)).length = i * 6 := by rw [cellsOf_len, List.length_take]; congr 1; omega
  have hl2 : (cellsOf (l.drop i)).length = (l.length - i) * 6 := by rw [cellsOf_len, List.length_drop]
  rw [← hr]
  obtain ⟨x, y, hxy, hx⟩ : ∃ x y, cellsOf (l.drop i) ++ d = x ++ y ∧ x.length = 6 := ⟨(cellsOf (l.drop i) ++ d).take 6, (cellsOf (l.drop i) ++ d).drop 6, (List.take_append_drop _ _).symm, by rw [List.length_take, List.length_append]; omega⟩
  have hy : y.length = (cellsOf (l.drop i)).length := by
    have := congrArg List.length hxy
    rw [List.length_append, List.length_append] at this; omega
  have h1 : cur = (cellsOf (l.take i) ++ x) ++ y ++ r := by
    rw [hcur, List.append_assoc (cellsOf (l.take i)), hxy]; simp
  have h2 : spl cur ((i + 1) * 6) (cellsOf (l.drop i)) = (cellsOf (l.take i) ++ x) ++ cellsOf (l.drop i) ++ r := by
    rw [h1]
    exact spl_mid _ _ _ _ hy _ (by rw [List.length_append, hl1, hx]; omega)
  rw [h2, cellsOf_ins]
  have h3 := spl_mid (cellsOf (l.take i)) x (cellsOf (l.drop i) ++ r) e.cells (by rw [hx]; rfl) (i * 6) hl1.symm
  rw [show (cellsOf (l.take i) ++ x) ++ cellsOf (l.drop i) ++ r = cellsOf (l.take i) ++ x ++ (cellsOf (l.drop i) ++ r) by simp, h3]
  simp
theorem row_fresh {cur : List Value} {l : List El} {i : Nat} (e : El) (hi : i ≤ l.length) (hc : cur.take (i * 6) = cellsOf (l.take i)) (hs : (l.length + 1) * 6 ≤ cur.length) :
    spl (spl cur (i * 6) e.cells) ((i + 1) * 6) (cellsOf (l.drop i)) = cellsOf (insAt l i e) ++ cur.drop ((l.length + 1) * 6) := by
  have hl1 : (cellsOf (l.take i)).length = i * 6 := by rw [cellsOf_len, List.length_take]; congr 1; omega
  have hl2 : (cellsOf (l.drop i)).length = (l.length - i) * 6 := by rw [cellsOf_len, List.length_drop]
  obtain ⟨x, y, hxy, hx, hy⟩ : ∃ x y, cur = cellsOf (l.take i) ++ x ++ y ++ cur.drop ((l.length + 1) * 6) ∧ x.length = 6 ∧ y.length = (cellsOf (l.drop i)).length := by
    refine ⟨(cur.drop (i * 6)).take 6, ((cur.drop (i * 6)).drop 6).take ((l.length - i) * 6), ?_, ?_, ?_⟩
    · rw [← hc]
      have h1 : cur.drop ((l.length + 1) * 6) = ((cur.drop (i * 6)).drop 6).drop ((l.length - i) * 6) := by rw [List.drop_drop, List.drop_drop]; congr 1; omega
      rw [h1, List.append_assoc, List.take_append_drop, List.append_assoc, List.take_append_drop, List.take_append_drop]
    · rw [List.length_take, List.length_drop]; omega
    · rw [List.length_take, List.length_drop, List.length_drop, hl2]; omega
  generalize cur.drop ((l.length + 1) * 6) = r at hxy ⊢
  rw [hxy, cellsOf_ins]
  have h2 := spl_mid (cellsOf (l.take i)) x (y ++ r) e.cells (by rw [hx]; rfl) (i * 6) hl1.symm
  rw [show cellsOf (l.take i) ++ x ++ y ++ r = cellsOf (l.take i) ++ x ++ (y ++ r) by simp, h2]
  have h3 := spl_mid (cellsOf (l.take i) ++ e.cells) y r (cellsOf (l.drop i)) hy ((i + 1) * 6) (by rw [List.length_append, hl1]; show _ = _ + 6; omega)
  rw [show cellsOf (l.take i) ++ e.cells ++ (y ++ r) = cellsOf (l.take i) ++ e.cells ++ y ++ r by simp, h3]
/-- A row whose first cells are those of l, in a block from base on. -/
theorem OwnR.row {base g cap : Nat} {w : World} {l : List El} {cur : List Value} (hb : base ≤ g) (hg : w.heap[g]? = some (.cells cur.toArray 50 (0, 0))) (hn : l.length ≤ cap) (hc : cap ≤ maxLen) (hs : cur.length = cap * 6) (ht : cur.take (l.length * 6) = cellsOf l) :
    OwnR base w (.slice (some ⟨g, 0, none⟩) l.length cap) l :=
  ⟨cellsOf_len l, .inr ⟨g, cap, cur.toArray, rfl, hb, hg, hn, hc, by simpa using hs, by simpa using ht⟩⟩
theorem spl_len {cur cs : List Value} {o : Nat} (h : o + cs.length ≤ cur.length) : (spl cur o cs).length = cur.length := by
 unfold spl; simp only [List.length_append, List.length_take, List.length_drop]; omega
theorem cellsOf_set : ∀ {l : List El} {i j : Nat} {u : Value} {x : El} (hi : i < l.length) (_ : j < 6) (_ : x.cells = l[i].cells.set j u), (cellsOf l).set (i * 6 + j) u = cellsOf (l.set i x)
 | [], _, _, _, _, hi, _, _ => absurd hi (by simp)
 |y :: l, 0, j, u, x, hi, hj, hx => by
  show (y.cells ++ cellsOf l).set (0 * 6 + j) u = x.cells ++ cellsOf l
  rw [Nat.zero_mul, Nat.zero_add, List.set_append_left _ _ (by rw [cells_len]; exact hj), hx]
  rfl
 |y :: l, i + 1, j, u, x, hi, hj, hx => by
  show (y.cells ++ cellsOf l).set ((i + 1) * 6 + j) u = y.cells ++ cellsOf (l.set i x)
  rw [List.set_append_right _ _ (by rw [cells_len]; omega), cells_len, show (i + 1) * 6 + j - 6 = i * 6 + j by omega]
  congr 1
  exact cellsOf_set (l := l) (i := i) (by simpa using hi) hj hx
/-- One field of a record is stored in an owned row. -/
theorem OwnR.set {base g n cap i j : Nat} {w : World} {l : List El} {u : Value} {x : El} (h : OwnR base w (.slice (some ⟨g, 0, none⟩) n cap) l) (hi : i < l.length) (hj : j < 6) (hx : x.cells = l[i].cells.set j u) :
    OwnR base (w.setCell ⟨g, i * 6 + j, none⟩ u) (.slice (some ⟨g, 0, none⟩) n cap) (l.set i x) := by
  have hn : n = l.length := by
    rcases h.2 with ⟨h1, _⟩ | ⟨g', cap', cur, h1, _⟩
    · cases h1
    · injection h1
  subst hn
  have h1 := (World.ownsRow.stored h (i * 6 + j) u).1
  unfold OwnR
  rw [List.length_set, ← cellsOf_set hi hj hx]
  exact h1
theorem OwnR.cell {base g n cap i : Nat} {w : World} {l : List El} (h : OwnR base w (.slice (some ⟨g, 0, none⟩) n cap) l) (hi : i < l.length) : ElAt w g (i * 6) l[i] ∧ (∀ j, w.frozen? ⟨g, j, none⟩ = false) ∧ base ≤ g ∧ g < w.heap.size ∧ n = l.length ∧ n ≤ cap := by
 have hn : n = l.length ∧ n ≤ cap := by
  rcases h.2 with ⟨h1, _⟩ | ⟨g', cap', cur, h1, _, _, h2, _⟩
  ·cases h1
  ·injection h1 with h3 h4 h5
   exact ⟨h4, by omega⟩
 obtain ⟨hn, hnc⟩ := hn
 subst hn
 have key : ∀ j, j < 6 → w.cell? ⟨g, i * 6 + j, none⟩ = l[i].cells[j]? := fun j hj => by
  rw [World.ownsRow.cellAt h (i * 6 + j) (by omega), cellsOf_at l i j _ (List.getElem?_eq_getElem hi) hj]
 have hlt := h.lt g rfl
 exact ⟨⟨key 0 (by omega), key 1 (by omega), key 2 (by omega), key 3 (by omega), key 4 (by omega), key 5 (by omega)⟩, fun j => World.ownsRow.frozenAt h j, hlt.1, hlt.2, rfl, hnc⟩
theorem OwnR.some {base : Nat} {w : World} {v : Value} {l : List El} (h : OwnR base w v l) (hl : 0 < l.length) : ∃ g cap, v = .slice (some ⟨g, 0, none⟩) l.length cap := by
 rcases h.2 with ⟨_, h1⟩ | ⟨g', cap', cur, h1, _⟩
 ·omega
 ·exact ⟨g', cap', h1⟩
theorem OwnR.reads {base n c : Nat} {A : Option Addr} {w : World} {l : List El} (h : OwnR base w (.slice A n c) l) (hw : ∀ e ∈ l, e.wf) : n = l.length ∧ Lies w A l := by
 obtain ⟨A', c', hv, _, _, hL⟩ := h.lies hw
 injection hv with h1 h2 h3
 subst h1
 exact ⟨h2, hL⟩
theorem Good.wf {l : List El} (h : Good l) : ∀ e ∈ l, e.wf := fun e he => by
 have := mem_bounds h he
 unfold El.wf; omega
open Go.ChangeShapes Go.WideShapes Go.ChangeAt Go.RowKit
theorem elems_cap {H : Type} {enc : TypeId × Value → H} {w : World} {base : Nat} {spare : Nat → Bool} {held : Bool} {d : DataW H} {ps : List MemPlace} {A : Option Addr} {n c : Nat} (h : DataW.Trod enc Try.prog w base spare held 22 (.slice A n c) d ps) : n ≤ c := by
 obtain ⟨fuel, hf⟩ := h
 rcases Go.Deep.open_slice Try.underlying22 hf with ⟨h0, _⟩ | ⟨a, len', cap', m, k, D, Pl, hcs, _, hl, hm, hmm, hx, hi⟩
 ·have h0' : Value.slice A n c = .slice none 0 0 := by simpa [Value.cells] using h0
  injection h0' with h1 h2 h3
  omega
 ·have h0' : Value.slice A n c = .slice (some a) len' cap' := by simpa [Value.cells] using hcs
  injection h0' with h1 h2 h3
  omega
open Go.ChangeShapes Go.WideShapes Go.ChangeAt Go.RowKit
section
variable {H : Type} {enc : TypeId × Value → H} {w : World} {base : Nat} {spare : Nat → Bool} {held : Bool}
theorem elems_lies {A : Option Addr} {len cap fuel : Nat} {x : DataW H × List MemPlace} (hf : DataW.trod enc Try.prog w base spare held fuel 22 [.slice A len cap] = some x) :
    ∃ (A' : Option Addr) (c : Nat) (l : List El), Value.slice A len cap = .slice A' l.length c ∧ l.length ≤ 9223372036854775807 ∧ Lies w A' l := by
  rcases Go.Deep.open_slice Try.underlying22 hf with ⟨h0, _⟩ | ⟨a, len', cap', m, n, D, Pl, hcs, _, hl, hm, hmm, _, hi⟩
  · have h0' : Value.slice A len cap = .slice none 0 0 := by simpa [Value.cells] using h0
    injection h0' with h1 h2 h3
    subst h1; subst h2; subst h3
    exact ⟨none, 0, [], rfl, by simp, by simp, fun h => absurd h (by simp)⟩
  · have h0' : Value.slice A len cap = .slice (some a) len' cap' := by simpa [Value.cells] using hcs
    injection h0' with h1 h2 h3
    subst h1; subst h2; subst h3
    have hlm : len ≤ m := by rw [hmm]; split <;> omega
    have each : ∀ i, i < len → ∃ e : El, e.wf ∧ a.spot = none ∧ a.block < w.heap.size ∧ ElAt w a.block (a.off + i * 6) e := fun i hil => by
      obtain ⟨cs', hc, ht⟩ := hi i (by omega)
      obtain ⟨p, o, f, m, g, s, rfl, _, _, _, w3, _, _⟩ := elem_cells ht
      rw [cellsElem] at hc
      obtain ⟨_, _, hat⟩ := World.cells?_some hc
      have g0 := hat 0 (by omega); have g1 := hat 1 (by omega); have g2 := hat 2 (by omega); have g3 := hat 3 (by omega); have g4 := hat 4 (by omega); have g5 := hat 5 (by omega)
      simp only [List.getElem?_cons_zero, List.getElem?_cons_succ] at g0 g1 g2 g3 g4 g5
      have hsp : ((a.add (i * 6)).add 0).spot = none := World.cell?_spot g0
      have hbl := World.block_lt_of_cell? _ _ g0
      have hne : ∀ j, j ≠ 0 → (a.add (i * 6)).add j = ⟨a.block, a.off + i * 6 + j, none⟩ := fun j hj => by
        unfold Addr.add
        by_cases h6 : i * 6 = 0 <;> simp [h6, hj]
      have hz : (a.add (i * 6)).add 0 = ⟨a.block, a.off + i * 6, (a.add (i * 6)).spot⟩ := by
        unfold Addr.add
        by_cases h6 : i * 6 = 0 <;> simp [h6]
      rw [hz] at hsp hbl g0
      simp only at hsp hbl
      rw [hsp] at g0
      rw [hne 1 (by omega)] at g1; rw [hne 2 (by omega)] at g2; rw [hne 3 (by omega)] at g3; rw [hne 4 (by omega)] at g4; rw [hne 5 (by omega)] at g5
      refine ⟨⟨p, o, f, m, g, s⟩, (wf_range w3).1, ?_, hbl, g0, g1, g2, g3, g4, g5⟩
      obtain ⟨cs0, hc0, ht0⟩ := hi 0 (by omega)
      obtain ⟨p, o, f, m, g, s, rfl, _⟩ := elem_cells ht0
      rw [cellsElem] at hc0
      have k0 := (World.cells?_some hc0).2.2 0 (by omega)
      simp only [List.getElem?_cons_zero, Nat.zero_mul] at k0
      exact World.cell?_spot (by simpa [Addr.add] using k0)
    obtain ⟨l, rfl, hk⟩ := elems_of (fun i e => e.wf ∧ a.spot = none ∧ a.block < w.heap.size ∧ ElAt w a.block (a.off + i * 6) e) len each
    refine ⟨some a, cap, l, rfl, by simp only [maxLen] at hm; omega, fun e he => ?_, fun hpos => ?_⟩
    · obtain ⟨k, hkl, rfl⟩ := List.getElem_of_mem he
      exact (hk k _ (List.getElem?_eq_getElem hkl)).1
    · have h0 := hk 0 _ (List.getElem?_eq_getElem hpos)
      refine ⟨a.block, a.off, ?_, h0.2.2.1, fun k e he => (hk k e he).2.2.2⟩
      obtain ⟨b, q, sp⟩ := a
      have hsp : sp = none := h0.2.1
      subst hsp; rfl
theorem elems_trod {fuel : Nat} {cs : List Value} {x : DataW H × List MemPlace} (hf : DataW.trod enc Try.prog w base spare held fuel 22 cs = some x) :
    ∃ (A : Option Addr) (c : Nat) (l : List El), cs = [.slice A l.length c] ∧ l.length ≤ 9223372036854775807 ∧ l.length ≤ c ∧ Lies w A l := by
  have h1 : ∃ A n c, cs = [.slice A n c] := by
    rcases Go.Deep.open_slice Try.underlying22 hf with ⟨h0, _⟩ | ⟨a, len, cap, m, n, D, Pl, hcs, _⟩
    · exact ⟨_, _, _, h0⟩
    · exact ⟨_, _, _, hcs⟩
  obtain ⟨A, n, c, rfl⟩ := h1
  have h2 := elems_cap (A := A) (n := n) (c := c) (d := x.1) (ps := x.2) ⟨fuel, hf⟩
  obtain ⟨A', c', l, hv, h3, h4⟩ := elems_lies hf
  injection hv with q1 q2 q3
  subst q1; subst q2; subst q3
  exact ⟨_, _, l, rfl, h3, h2, h4⟩
theorem ints_list : ∀ (n : Nat) (cs : List Value), cs.length = n → (∀ i, i < n → ∃ z : Int, (cs.drop i).take 1 = [.int .i64 z] ∧ (Lit.int .i64 z).wf = true) → ∃ R : List Int, cs = R.map (Value.int .i64) ∧ R.length = n ∧ ∀ z ∈ R, (Lit.int .i64 z).wf = true
 | 0, cs, h, _ => by
  have : cs = [] := List.eq_nil_of_length_eq_zero h
  exact ⟨[], by simp [this], rfl, by simp⟩
 |n + 1, [], h, _ => by simp at h
 |n + 1, c :: cs, h, hi => by
  obtain ⟨z, hz, hw⟩ := hi 0 (by omega)
  simp at hz
  obtain ⟨R, hR, hl, hall⟩ := ints_list n cs (by simpa using h) (fun i hin => by
   obtain ⟨z, h1, h2⟩ := hi (i + 1) (by omega)
   exact ⟨z, by simpa using h1, h2⟩)
  exact ⟨z :: R, by rw [hz, hR]; rfl, by simp [hl], fun y hy => by
   rcases List.mem_cons.1 hy with rfl | hy
   ·exact hw
   ·exact hall y hy⟩
theorem cells16 : Try.prog.cellsOf 23 = 16 := by kernel_rfl
theorem cellsI : Try.prog.cellsOf 3 = 1 := by kernel_rfl
theorem cellsBook : Try.prog.cellsOf 25 = 33 := by kernel_rfl
theorem cellsSl : Try.prog.cellsOf 22 = 1 := by kernel_rfl
theorem arr_trod {fuel : Nat} {cs : List Value} {x : DataW H × List MemPlace} (hf : DataW.trod enc Try.prog w base spare held fuel 23 cs = some x) :
    ∃ R : List Int, cs = R.map (Value.int .i64) ∧ R.length = 16 ∧ ∀ z ∈ R, (Lit.int .i64 z).wf = true := by
  obtain ⟨xs, m, _, _, hl, hx, hi⟩ := DataW.trod_array Try.underlying23 hf
  rw [cells16] at hl
  refine ints_list 16 cs hl fun i h16 => ?_
  have h1 := hi i h16
  rw [cellsI, Nat.mul_one, List.getElem?_eq_getElem (by omega)] at h1
  obtain ⟨z, e0, _, w0⟩ := DataW.trod_int Try.underlying3 h1
  exact ⟨z, e0, w0⟩
def bkC (A : Option Addr) (n c : Nat) (R F : List Int) : List Value := .slice A n c :: (R.map (Value.int .i64) ++ F.map (Value.int .i64))
theorem book_trod {fuel : Nat} {cs : List Value} {x : DataW H × List MemPlace} (hf : DataW.trod enc Try.prog w base spare held fuel 25 cs = some x) :
    ∃ (A : Option Addr) (c : Nat) (l : List El) (R F : List Int), cs = bkC A l.length c R F ∧ l.length ≤ 9223372036854775807 ∧ l.length ≤ c ∧ Lies w A l ∧ R.length = 16 ∧ F.length = 16 ∧ (∀ z ∈ R, (Lit.int .i64 z).wf = true) ∧ ∀ z ∈ F, (Lit.int .i64 z).wf = true := by
  obtain ⟨xs, n, _, _, hl, hx, hi⟩ := DataW.trod_struct Try.underlying25 hf
  rw [cellsBook] at hl
  have h0 : DataW.trod enc Try.prog w base spare held n 22 ((cs.drop 0).take (Try.prog.cellsOf 22)) = xs[0]? := hi 0 _ rfl
  have h1 : DataW.trod enc Try.prog w base spare held n 23 ((cs.drop 1).take (Try.prog.cellsOf 23)) = xs[1]? := hi 1 _ rfl
  have h2 : DataW.trod enc Try.prog w base spare held n 23 ((cs.drop 17).take (Try.prog.cellsOf 23)) = xs[2]? := hi 2 _ rfl
  have hx3 : xs.length = 3 := hx
  rw [cellsSl, List.getElem?_eq_getElem (by omega)] at h0
  rw [cells16, List.getElem?_eq_getElem (by omega)] at h1 h2
  obtain ⟨A, c, l, e0, g1, g2, g3⟩ := elems_trod h0
  obtain ⟨R, e1, r1, r2⟩ := arr_trod h1
  obtain ⟨F, e2, f1, f2⟩ := arr_trod h2
  refine ⟨A, c, l, R, F, ?_, g1, g2, g3, r1, f1, r2, f2⟩
  unfold bkC
  rw [← e1, ← e2]
  match cs, hl with
  | c0 :: cs, hl =>
    simp at e0
    rw [e0]
    congr 1
    have : cs.length = 32 := by simpa using hl
    simp only [List.drop_succ_cons, List.drop_zero]
    rw [show cs.drop 16 = (cs.drop 16) from rfl, List.take_of_length_le (l := cs.drop 16) (by rw [List.length_drop]; omega), List.take_append_drop]
variable {r : Reach} {b0 : Nat} {v : Value} {d : DataW H} {ps : List MemPlace}
theorem open_book (hv : Value.okWide Try.prog w r b0 25 v) (h : DataW.Trod enc Try.prog w base spare held 25 v d ps) :
    ∃ (A : Option Addr) (c : Nat) (l : List El) (R F : List Int), v = .agg (bkC A l.length c R F).toArray ∧ l.length ≤ 9223372036854775807 ∧ l.length ≤ c ∧ Lies w A l ∧ R.length = 16 ∧ F.length = 16 ∧ (∀ z ∈ R, (Lit.int .i64 z).wf = true) ∧ ∀ z ∈ F, (Lit.int .i64 z).wf = true := by
  obtain ⟨cs, rfl, _⟩ := okWide_struct Try.underlying25 hv
  obtain ⟨fuel, hf⟩ := h
  obtain ⟨A, c, l, R, F, e, g⟩ := book_trod hf
  refine ⟨A, c, l, R, F, ?_, g⟩
  have e : cs.toList = bkC A l.length c R F := e
  rw [← e]
end
open Go.ChangeShapes Go.WideShapes Go.ChangeAt Go.RowKit
def gI (R : List Int) (k : Nat) : Int := R.getD k 0
def fedFit (r f : Int) : Bool := if r = 0 ∨ r = 1 then decide (f = 0) else if r = 2 then decide (0 ≤ f ∧ f ≤ 2147483647) else false
def elFit (R F : List Int) (e : El) : Bool := if gI R e.p.toNat = 1 then true else if gI R e.p.toNat = 2 then decide (e.last ≤ gI F e.p.toNat) else false
theorem bk_role {A : Option Addr} {n c k : Nat} {R F : List Int} (hR : R.length = 16) (hk : k < 16) : (bkC A n c R F).toArray[1 + k]? = some (.int .i64 (gI R k)) := by
 unfold bkC gI
 rw [List.getElem?_toArray, Nat.add_comm, List.getElem?_cons_succ, List.getElem?_append_left (by rw [List.length_map]; omega), List.getElem?_map, List.getElem?_eq_getElem (by omega), List.getD_eq_getElem?_getD, List.getElem?_eq_getElem (by omega)]
 rfl
theorem bk_fed {A : Option Addr} {n c k : Nat} {R F : List Int} (hR : R.length = 16) (hF : F.length = 16) (hk : k < 16) : (bkC A n c R F).toArray[17 + k]? = some (.int .i64 (gI F k)) := by
 unfold bkC gI
 rw [List.getElem?_toArray, show 17 + k = (16 + k) + 1 by omega, List.getElem?_cons_succ, List.getElem?_append_right (by rw [List.length_map]; omega), List.getElem?_map, List.length_map, hR, Nat.add_sub_cancel_left, List.getElem?_eq_getElem (by omega), List.getD_eq_getElem?_getD, List.getElem?_eq_getElem (by omega)]
 rfl
theorem fedFits_any (r f : Int) (w : World) : Calls Try.prog 66 #[.int .i64 r, .int .i64 f] w fun e w' => e = .returned (.bool (fedFit r f)) ∧ Calm w w' := by
 unfold fedFit
 by_cases h0 : r = 0
 ·subst h0
  go_enter Try.func66, Try.ntmps66
  go_wp2_with fail
  go_ret
  exact ⟨by first | rfl | (congr 2; by_cases h : f = 0 <;> simp [h]), Calm.refl _⟩
 by_cases h1 : r = 1
 ·subst h1
  go_enter Try.func66, Try.ntmps66
  go_wp2_with fail
  go_ret
  exact ⟨by first | rfl | (congr 2; by_cases h : f = 0 <;> simp [h]), Calm.refl _⟩
 by_cases h2 : r = 2
 ·subst h2
  by_cases hf : 0 ≤ f <;> by_cases hg : f ≤ 2147483647
  all_goals
   go_enter Try.func66, Try.ntmps66
   go_wp2_with fail
   go_ret
   exact ⟨by simp [*], Calm.refl _⟩
 ·have b0 := beq_eq_false_iff_ne.2 h0
  have b1 := beq_eq_false_iff_ne.2 h1
  have b2 := beq_eq_false_iff_ne.2 h2
  go_enter Try.func66, Try.ntmps66
  go_wp2_with fail
  go_ret
  exact ⟨by simp [*], Calm.refl _⟩
theorem elemFits_any (A : Option Addr) (n c : Nat) (R F : List Int) (p o f m g : Int) (s : ByteArray) (w : World) (hR : R.length = 16) (hF : F.length = 16) (h0 : 0 ≤ p) (h15 : p ≤ 15) :
    Calls Try.prog 67 #[.agg (bkC A n c R F).toArray, .agg #[.int .i64 p, .int .i64 o, .int .i64 f, .int .i64 m, .int .i64 g, .string s]] w fun e w' => e = .returned (.bool (elFit R F ⟨p, o, f, m, g, s⟩)) ∧ Calm w w' := by
  obtain ⟨k, rfl⟩ : ∃ k : Nat, p = k := ⟨p.toNat, by omega⟩
  have hk : k < 16 := by omega
  have q1 := bk_role (A := A) (n := n) (c := c) (F := F) hR hk
  have q2 := bk_fed (A := A) (n := n) (c := c) hR hF hk
  have hE : elFit R F ⟨k, o, f, m, g, s⟩ = if gI R k = 1 then true else if gI R k = 2 then decide ((⟨k, o, f, m, g, s⟩ : El).last ≤ gI F k) else false := by
    unfold elFit
    simp
  rw [hE]
  have hki : (k : Int) < 16 := by omega
  generalize (bkC A n c R F).toArray = cs at q1 q2 ⊢
  generalize gI R k = r at q1 ⊢
  generalize gI F k = z at q2 ⊢
  have hz := heap_past (.cells #[.int .i64 k, .int .i64 o, .int .i64 f, .int .i64 m, .int .i64 g, .string s] 50) (heap_new w (.cells cs 25))
  have hy := heap_new (w.alloc (.cells cs 25)) (.cells #[.int .i64 k, .int .i64 o, .int .i64 f, .int .i64 m, .int .i64 g, .string s] 50)
  have hu := ((Calm.refl w).alloc (.cells cs 25)).alloc (.cells #[.int .i64 k, .int .i64 o, .int .i64 f, .int .i64 m, .int .i64 g, .string s] 50)
  have hs : (w.alloc (.cells cs 25)).heap.size = w.heap.size + 1 := by simp
  rw [hs] at hy
  clear hs
  have c1 := (cell_of_row _ _ (1 + k) _ _ _ hz).trans q1
  have c2 := (cell_of_row _ _ (17 + k) _ _ _ hz).trans q2
  clear q1 q2 hE hz
  by_cases h1 : r = 1
  · subst h1
    go_enter Try.func67, Try.ntmps67
    go_wp2_with fail
    go_ret
    exact ⟨rfl, hu⟩
  rw [if_neg h1]
  by_cases h2 : r = 2
  · subst h2
    rw [if_pos rfl]
    have hl : (⟨k, o, f, m, g, s⟩ : El).last = lastOf m g := rfl
    rw [hl]
    obtain ⟨y0, y1, y2, y3, y4, y5, hys⟩ := row6 hy
    go_enter Try.func67, Try.ntmps67
    go_upto_region 5 with fail
    generalize ((w.alloc (.cells cs 25)).alloc (.cells #[.int .i64 k, .int .i64 o, .int .i64 f, .int .i64 m, .int .i64 g, .string s] 50)) = w1 at *
    have hzl : w.heap.size < w1.heap.size := by omega
    refine wp_region_plan [.val (.agg #[.int .i64 k, .int .i64 o, .int .i64 f, .int .i64 m, .int .i64 g, .string s]), .val (.int .i64 ((lastOf m g))), .val (.pointer (some ⟨w.heap.size+1, 0, none⟩)), .val (.pointer (some ⟨w.heap.size+1, 0, none⟩)), .val (.int .i64 (k)), .val (.pointer (some ⟨w.heap.size, 17, none⟩)), .val (.pointer (some ⟨w.heap.size, 17+k, none⟩)), .val (.int .i64 (z)), .val (.bool (decide (lastOf m g ≤ z))), .val (.bool (decide (lastOf m g ≤ z)))] (by kernel_rfl) (by kernel_rfl) (by kernel_rfl) ?_
    intro X
    iterate 10
      refine plan_val (by kernel_rfl) (fun u hu => ?_) ?_
      · obtain ⟨hc, hf, hz⟩ := hu.of_drew.facts
        go_simp
        all_goals first
          | ((go_at_call 72; exact last_any _ _ _ _ _ _ _))
          | (omega)
          | ((simp; done))
      simp only [Act.put, List.setIfInBounds_toArray, List.set_cons_zero, List.set_cons_succ, Nat.reduceAdd]
    refine plan_end ?_
    intro w' hB
    have hk := hB.calm.of_drew
    clear hB
    go_wp2_with fail
    go_ret
    exact ⟨rfl, hu.call hk⟩
  rw [if_neg h2]
  have b1 := beq_eq_false_iff_ne.2 h1
  have b2 := beq_eq_false_iff_ne.2 h2
  go_enter Try.func67, Try.ntmps67
  go_wp2_with fail
  go_ret
  exact ⟨rfl, hu⟩
open Go.ChangeShapes Go.WideShapes Go.ChangeAt Go.RowKit
theorem index16 (cs : Array Value) (k : Nat) (v : Value) (hk : k < 16) (h : cs[k]? = some v) (w : World) : (Instr.index 23 (.agg cs) (.int .i64 k)).run Try.prog w = .ok v w := by
 simp [Instr.index, asIntOf]
 rw [if_pos hk]
 exact run_part_plain w (by kernel_rfl) h
open Go.ChangeShapes Go.WideShapes Go.ChangeAt Go.RowKit
theorem ne_rl {E : Int} (h : E ≠ 0) : (E != 0) = true := by simpa using h
theorem info16 : (Try.prog.info? 23).map (·.size) = some 16 := by kernel_rfl
theorem range_role {w : World} {g : Nat} {A : Option Addr} {n c : Nat} {R F : List Int} {t : TypeId} {fr : Nat × Nat} (hR : R.length = 16) (h : w.heap[g]? = some (.cells (bkC A n c R F).toArray t fr)) : w.rangeAt g 1 (R.map (Value.int .i64)) := fun j v hj => by
 have hj2 : j < 16 := by
  have := (List.getElem?_eq_some_iff.1 hj).1
  rw [List.length_map] at this; omega
 refine (cell_of_row _ _ (1 + j) _ _ _ h).trans ?_
 rw [bk_role hR hj2, ← hj, List.getElem?_map]
 unfold gI
 rw [List.getD_eq_getElem?_getD, List.getElem?_eq_getElem (by omega)]
 rfl
theorem range_all {w : World} {g : Nat} {CL : List Value} {t : TypeId} {fr : Nat × Nat} (h : w.heap[g]? = some (.cells CL.toArray t fr)) : w.rangeAt g 0 CL := fun j v hj => by
 refine (cell_of_row _ _ (0 + j) _ _ _ h).trans ?_
 rw [Nat.zero_add, List.getElem?_toArray]; exact hj
theorem infoBook : (Try.prog.info? 25).map (·.size) = some 33 := by kernel_rfl
theorem bkC_len {A : Option Addr} {n c : Nat} {R F : List Int} (hR : R.length = 16) (hF : F.length = 16) : (bkC A n c R F).length = 33 := by
 unfold bkC
 rw [List.length_cons, List.length_append, List.length_map, List.length_map, hR, hF]
def bkRoles (R F : List Int) : Prop := ∀ k, k < 16 → fedFit (gI R k) (gI F k) = true
def bkOk (l : List El) (R F : List Int) : Prop := bkRoles R F ∧ ∀ e ∈ l, elFit R F e = true
open Classical in
noncomputable def bkErr (l : List El) (R F : List Int) : Int := if runErr l = 0 then (if bkOk l R F then 0 else 3) else runErr l
set_option maxHeartbeats 4000000 in
theorem realmCheck_any (A : Option Addr) (c : Nat) (l : List El) (R F : List Int) (w : World) (hn : l.length ≤ 9223372036854775807) (hL : Lies w A l) (hR : R.length = 16) (hF : F.length = 16) :
    Calls Try.prog 23 #[.agg (bkC A l.length c R F).toArray] w fun e w' => e = .returned (.int .i64 (bkErr l R F)) ∧ Calm w w' := by
  have cC := fun u (hu : Calm w u) => runCheck_any A c l u hn (hL.calm hu)
  have hE : runErr l ≠ 0 → bkErr l R F = runErr l := fun h => by unfold bkErr; exact if_neg h
  have hE0 : runErr l = 0 → bkOk l R F → bkErr l R F = 0 := fun h h2 => by unfold bkErr; rw [if_pos h]; exact if_pos h2
  have hE3 : runErr l = 0 → ¬ bkOk l R F → bkErr l R F = 3 := fun h h2 => by unfold bkErr; rw [if_pos h]; exact if_neg h2
  generalize bkErr l R F = E at hE hE0 hE3 ⊢
  have cE := fun p o f m g s u h0 h15 => elemFits_any A l.length c R F p o f m g s u hR hF h0 h15
  have hx := heap_new w (.cells (bkC A l.length c R F).toArray 25)
  have hu := (Calm.refl w).alloc (.cells (bkC A l.length c R F).toArray 25)
  have c0 := (cell_of_row _ _ 0 _ _ _ hx).trans (show (bkC A l.length c R F).toArray[0]? = some (.slice A l.length c) from rfl)
  have hxl : w.heap.size < (w.alloc (.cells (bkC A l.length c R F).toArray 25)).heap.size := by simp
  have HX := Lib.hid hx
  have RR : ∀ u : World, u.heap[w.heap.size]? = some (.cells (bkC A l.length c R F).toArray 25 (0, 0)) → u.rangeAt w.heap.size 1 (R.map (Value.int .i64)) := fun u h => range_role hR h
  have RF : ∀ u : World, u.heap[w.heap.size]? = some (.cells (bkC A l.length c R F).toArray 25 (0, 0)) → ∀ k, k < 16 → u.cell? ⟨w.heap.size, 17 + k, none⟩ = some (.int .i64 (gI F k)) := fun u h k hk => (cell_of_row _ _ (17 + k) _ _ _ h).trans (bk_fed hR hF hk)
  have RA : ∀ u : World, u.heap[w.heap.size]? = some (.cells (bkC A l.length c R F).toArray 25 (0, 0)) → u.cell? ⟨w.heap.size, 0, none⟩ = some (.slice A l.length c) := fun u h => (cell_of_row _ _ 0 _ _ _ h).trans rfl
  have RH := Lib.hid RR
  have RFH := Lib.hid RF
  have RAH := Lib.hid RA
  have hJ : Hid ((Try.prog.info? 25).map (·.size) = some (bkC A l.length c R F).length) := show _ = _ by rw [bkC_len hR hF]; exact infoBook
  clear hx RR RF RA
  generalize (bkC A l.length c R F) = CL at *
  have hRk : ∀ k, k < 16 → (R.map (Value.int .i64)).toArray[k]? = some (.int .i64 (gI R k)) := fun k hk => by
    unfold gI
    rw [List.getElem?_toArray, List.getElem?_map, List.getD_eq_getElem?_getD, List.getElem?_eq_getElem (by omega)]
    rfl
  have hRl : (R.map (Value.int .i64)).length = 16 := by rw [List.length_map, hR]
  have hI : Hid ((Try.prog.info? 23).map (·.size) = some (R.map (Value.int .i64)).length) := show _ = _ by rw [hRl]; exact info16
  have HRk := Lib.hid hRk
  clear hRk
  generalize R.map (Value.int .i64) = RL at *
  by_cases hr : runErr l = 0
  rotate_left
  · rw [hE hr]
    have b1 := ne_rl hr
    generalize runErr l = X at cC b1 ⊢
    clear hE hE0 hE3 hr
    go_enter Try.func23, Try.ntmps23
    go_wp2_with (go_at_call 65; refine (cC _ hu).mono ?_; rintro e w1 ⟨rfl, hb1⟩; replace hu := hu.call hb1; clear hb1 cC)
    go_ret
    exact ⟨rfl, hu⟩
  have hG := runErr_zero.1 hr
  rw [hr] at cC
  have HE0 := Lib.hid (hE0 hr)
  have HE3 := Lib.hid (hE3 hr)
  have HG := Lib.hid hG
  clear hE hE0 hE3 hr hG
  go_enter Try.func23, Try.ntmps23
  go_wp2_with (first
    | (go_at_call 65; refine (cC _ hu).mono ?_; rintro e w1 ⟨rfl, hb1⟩; replace HX := Lib.hid ((hb1.block hxl).trans HX.out); replace hu := hu.call hb1; clear hb1 cC)
    | (refine wpList_load_mid rfl 23 (.tmp 14) rfl w.heap.size 1 rfl RL _ (RH.out _ HX.out) Try.underlying23 rfl hI.out ?_))
  clear c0 hxl hI RH
  go_loopw [16] (fun i wr => ∃ k : Nat, k ≤ 16 ∧ i = .int .i64 k ∧ Calm w wr ∧ Hid (wr.heap[w.heap.size]? = some (.cells CL.toArray 25 (0, 0))) ∧ Hid (∀ j, j < k → fedFit (gI R j) (gI F j) = true)) (fun i _ => 16 - (intOf i).toNat)
  case atStart => exact ⟨0, by omega, rfl, hu, HX, show ∀ _, _ from fun j hj => absurd hj (Nat.not_lt_zero _)⟩
  case round =>
    obtain ⟨k, hk, rfl, hu, HX, HK⟩ := hrel
    by_cases hlt : k < 16
    rotate_left
    · have HR : Hid (bkRoles R F) := show ∀ k, _ from fun j hj => HK.out j (by omega)
      have c0 := RAH.out _ HX.out
      go_wp2_with fail
      clear c0
      go_loopw [31] (fun i wr => ∃ n : Nat, n ≤ l.length ∧ i = .int .i64 n ∧ Calm w wr ∧ Hid (wr.heap[w.heap.size]? = some (.cells CL.toArray 25 (0, 0))) ∧ Hid (∀ j (hj : j < l.length), j < n → elFit R F l[j] = true)) (fun i _ => l.length - (intOf i).toNat)
      case atStart => exact ⟨0, Nat.zero_le _, rfl, hu, HX, show ∀ _, _ from fun j _ hj => absurd hj (Nat.not_lt_zero _)⟩
      case round =>
        obtain ⟨n, hn2, rfl, hu, HX, HN⟩ := hrel
        by_cases hlt : n < l.length
        rotate_left
        · have E0 := HE0.out ⟨HR.out, fun e he => by
            obtain ⟨j, hj, rfl⟩ := List.getElem_of_mem he
            exact HN.out j hj (by omega)⟩
          subst E0
          go_wp2_with fail
          go_ret
          exact ⟨rfl, hu⟩
        obtain ⟨b, q, p, o, f, m, g, s, rfl, hb, HEe, hm, c0, c1, c2, c3, c4, c5⟩ := (hL.calm hu).get hlt
        have hel : l[n] = ⟨p, o, f, m, g, s⟩ := (List.getElem?_eq_some_iff.1 HEe.out).2
        have hpp := err_zero (HG.out.2.1 _ (List.getElem_mem hlt))
        rw [hel] at hpp
        have hxl : w.heap.size < wr.heap.size := (Array.getElem?_eq_some_iff.1 HX.out).1
        have cf := fun u => cE p o f m g s u hpp.1 hpp.2.1
        generalize hfr : elFit R F ⟨p, o, f, m, g, s⟩ = fr at cf
        have HFR := Lib.hid hfr
        have HEL := Lib.hid hel
        clear hfr hel hpp HEe
        have HX2 := Lib.hid (((((Calm.refl wr).alloc (.cells #[.int .i64 p, .int .i64 o, .int .i64 f, .int .i64 m, .int .i64 g, .string s] 50)).block hxl).trans HX.out))
        replace hu := hu.alloc (.cells #[.int .i64 p, .int .i64 o, .int .i64 f, .int .i64 m, .int .i64 g, .string s] 50)
        have hxl2 : w.heap.size < (wr.alloc (.cells #[.int .i64 p, .int .i64 o, .int .i64 f, .int .i64 m, .int .i64 g, .string s] 50)).heap.size := by simp; omega
        cases fr
        · have E3 := HE3.out fun h => by
            have := h.2 _ (List.getElem_mem hlt)
            rw [HEL.out, HFR.out] at this
            exact absurd this (by decide)
          subst E3
          go_wp2_with (first
            | (refine wpList_load_mid rfl 25 (.tmp 1) rfl w.heap.size 0 rfl CL _ (range_all HX2.out) Try.underlying25 rfl hJ.out ?_)
            | (go_at_call 67; refine (cf _).mono ?_; rintro e w1 ⟨rfl, hb1⟩; replace hu := hu.call hb1))
          go_ret
          exact ⟨rfl, hu⟩
        · have HN2 : Hid (∀ j (hj : j < l.length), j < n + 1 → elFit R F l[j] = true) := show ∀ _, _ from fun j hj h => by
            rcases Nat.lt_or_ge j n with h2 | h2
            · exact HN.out j hj h2
            · rw [show l[j] = l[n] from by congr 1; omega, HEL.out]; exact HFR.out
          go_wp2_with (first
            | (refine wpList_load_mid rfl 25 (.tmp 1) rfl w.heap.size 0 rfl CL _ (range_all HX2.out) Try.underlying25 rfl hJ.out ?_)
            | (go_at_call 67; refine (cf _).mono ?_; rintro e w1 ⟨rfl, hb1⟩; replace HX2 := Lib.hid ((hb1.block hxl2).trans HX2.out); replace hu := hu.call hb1))
          go_roundw
          case rel => exact ⟨n + 1, by omega, by go_num, hu, HX2, HN2⟩
          case measure => simp [intOf]; omega
    have c2 := RFH.out _ HX.out k hlt
    have r1 := fun u => index16 RL.toArray k _ hlt (HRk.out k hlt) u
    have hki : (k : Int) < 16 := by omega
    have hxl : w.heap.size < wr.heap.size := (Array.getElem?_eq_some_iff.1 HX.out).1
    have cf := fun u => fedFits_any (gI R k) (gI F k) u
    generalize hfr : fedFit (gI R k) (gI F k) = fr at cf
    have HFR := Lib.hid hfr
    clear hfr
    cases fr
    · have E3 := HE3.out fun h => by rw [h.1 k hlt] at HFR; exact absurd HFR.out (by decide)
      subst E3
      go_wp2_with (go_at_call 66; refine (cf _).mono ?_; rintro e w1 ⟨rfl, hb1⟩; replace hu := hu.call hb1)
      go_ret
      exact ⟨rfl, hu⟩
    · have HK2 : Hid (∀ j, j < k + 1 → fedFit (gI R j) (gI F j) = true) := show ∀ _, _ from fun j hj => by
        rcases Nat.lt_or_ge j k with h | h
        · exact HK.out j h
        · rw [show j = k by omega]; exact HFR.out
      go_wp2_with (go_at_call 66; refine (cf _).mono ?_; rintro e w1 ⟨rfl, hb1⟩; replace HX := Lib.hid ((hb1.block hxl).trans HX.out); replace hu := hu.call hb1)
      go_roundw
      case rel => exact ⟨k + 1, by omega, by go_num, hu, HX, HK2⟩
      case measure => simp [intOf]; omega
open Go.ChangeShapes Go.WideShapes Go.ChangeAt Go.RowKit
theorem isRealm_any (p : Int) (w : World) : Calls Try.prog 68 #[.int .i64 p] w fun e w' => e = .returned (.bool (decide (0 ≤ p ∧ p ≤ 15))) ∧ Calm w w' := by
 by_cases h0 : 0 ≤ p <;> by_cases h1 : p ≤ 15
 all_goals
  go_enter Try.func68, Try.ntmps68
  go_wp2_with fail
  go_ret
  exact ⟨by simp [h0, h1], Calm.refl _⟩
noncomputable def roleErr (l : List El) (R F : List Int) (p r : Int) : Int := if bkErr l R F = 0 then (if 0 ≤ p ∧ p ≤ 15 then (if gI R p.toNat = r then 0 else 10) else 1) else bkErr l R F
set_option maxHeartbeats 4000000 in
theorem checkRole_any (A : Option Addr) (c : Nat) (l : List El) (R F : List Int) (p r : Int) (w : World) (hn : l.length ≤ 9223372036854775807) (hL : Lies w A l) (hR : R.length = 16) (hF : F.length = 16) :
    Calls Try.prog 74 #[.agg (bkC A l.length c R F).toArray, .int .i64 p, .int .i64 r] w fun e w' => e = .returned (.int .i64 (roleErr l R F p r)) ∧ Calm w w' := by
  have cC := fun u (hu : Calm w u) => realmCheck_any A c l R F u hn (hL.calm hu) hR hF
  have hx := heap_new w (.cells (bkC A l.length c R F).toArray 25)
  have hu := (Calm.refl w).alloc (.cells (bkC A l.length c R F).toArray 25)
  have hxl : w.heap.size < (w.alloc (.cells (bkC A l.length c R F).toArray 25)).heap.size := by simp
  have HX := Lib.hid hx
  have RR : ∀ u : World, u.heap[w.heap.size]? = some (.cells (bkC A l.length c R F).toArray 25 (0, 0)) → ∀ k, k < 16 → u.cell? ⟨w.heap.size, 1 + k, none⟩ = some (.int .i64 (gI R k)) := fun u h k hk => (cell_of_row _ _ (1 + k) _ _ _ h).trans (bk_role hR hk)
  have RRH := Lib.hid RR
  have hJ : Hid ((Try.prog.info? 25).map (·.size) = some (bkC A l.length c R F).length) := show _ = _ by rw [bkC_len hR hF]; exact infoBook
  clear hx RR
  generalize (bkC A l.length c R F) = CL at *
  unfold roleErr
  generalize bkErr l R F = E at cC ⊢
  by_cases hE : E = 0
  rotate_left
  · rw [if_neg hE]
    have b1 := ne_rl hE
    go_enter Try.func74, Try.ntmps74
    go_wp2_with (first
      | (refine wpList_load_mid rfl 25 (.tmp 3) rfl w.heap.size 0 rfl CL _ (range_all HX.out) Try.underlying25 rfl hJ.out ?_)
      | (go_at_call 23; refine (cC _ hu).mono ?_; rintro e w1 ⟨rfl, hb1⟩; replace hu := hu.call hb1))
    go_ret
    exact ⟨rfl, hu⟩
  rw [if_pos hE]
  subst hE
  by_cases hp : 0 ≤ p ∧ p ≤ 15
  rotate_left
  · rw [if_neg hp]
    have cI := fun u => isRealm_any p u
    rw [decide_eq_false hp] at cI
    go_enter Try.func74, Try.ntmps74
    go_wp2_with (first
      | (refine wpList_load_mid rfl 25 (.tmp 3) rfl w.heap.size 0 rfl CL _ (range_all HX.out) Try.underlying25 rfl hJ.out ?_)
      | (go_at_call 23; refine (cC _ hu).mono ?_; rintro e w1 ⟨rfl, hb1⟩; replace hu := hu.call hb1)
      | (go_at_call 68; refine (cI _).mono ?_; rintro e w2 ⟨rfl, hb2⟩; replace hu := hu.call hb2))
    go_ret
    exact ⟨rfl, hu⟩
  rw [if_pos hp]
  have cI := fun u => isRealm_any p u
  rw [decide_eq_true hp] at cI
  obtain ⟨k, rfl⟩ : ∃ k : Nat, p = k := ⟨p.toNat, by omega⟩
  have hk : k < 16 := by omega
  have hki : (k : Int) < 16 := by omega
  rw [Int.toNat_natCast]
  by_cases hr : gI R k = r
  · rw [if_pos hr]
    subst hr
    go_enter Try.func74, Try.ntmps74
    go_wp2_with (first
      | (refine wpList_load_mid rfl 25 (.tmp 3) rfl w.heap.size 0 rfl CL _ (range_all HX.out) Try.underlying25 rfl hJ.out ?_)
      | (go_at_call 23; refine (cC _ hu).mono ?_; rintro e w1 ⟨rfl, hb1⟩; replace HX := Lib.hid ((hb1.block hxl).trans HX.out); replace hxl := Nat.lt_of_lt_of_le hxl hb1.size; replace hu := hu.call hb1)
      | (go_at_call 68; refine (cI _).mono ?_; rintro e w2 ⟨rfl, hb2⟩; replace HX := Lib.hid ((hb2.block hxl).trans HX.out); have c1 := RRH.out _ HX.out k hk; replace hu := hu.call hb2))
    go_ret
    exact ⟨rfl, hu⟩
  · rw [if_neg hr]
    have b1 := ne_rl (show gI R k - r ≠ 0 by omega)
    have b2 : (gI R k != r) = true := by simpa using hr
    clear b1
    go_enter Try.func74, Try.ntmps74
    go_wp2_with (first
      | (refine wpList_load_mid rfl 25 (.tmp 3) rfl w.heap.size 0 rfl CL _ (range_all HX.out) Try.underlying25 rfl hJ.out ?_)
      | (go_at_call 23; refine (cC _ hu).mono ?_; rintro e w1 ⟨rfl, hb1⟩; replace HX := Lib.hid ((hb1.block hxl).trans HX.out); replace hxl := Nat.lt_of_lt_of_le hxl hb1.size; replace hu := hu.call hb1)
      | (go_at_call 68; refine (cI _).mono ?_; rintro e w2 ⟨rfl, hb2⟩; replace HX := Lib.hid ((hb2.block hxl).trans HX.out); have c1 := RRH.out _ HX.out k hk; replace hu := hu.call hb2))
    go_ret
    exact ⟨rfl, hu⟩
open Go.ChangeShapes Go.WideShapes Go.ChangeAt Go.RowKit
theorem wpList_store_rowB {P : Program} {ops : Array Oper} {rest : List Oper} {op : Oper} {a : Act} {w : World} {Q : Exit → Act → World → Prop} (hgd : op.guard = none) (ty : TypeId) (x y : Operand) (ho : op.op = .store ty x y)
    (g : Nat) (t : TypeId) (old cells : Array Value) (hx : a.eval x = .pointer (some ⟨g, 0, none⟩)) (hy : a.eval y = .agg cells) (hg : w.heap[g]? = some (.cells old t (0, 0))) (hi : (P.info? ty).map (·.size) = some cells.size)
    (hs : old.size = cells.size) (h1 : cells.all (·.oneCell') = true)
    (h : wpList P ops Q rest (a.put op.dst undef) (w.setRow g cells)) : wpList P ops Q (op :: rest) a w :=
  wpList_plain hgd fun _ hK => by
    unfold Oper.wp execOp
    simp only [ho, hx, hy, Instr.storeAt, Instr.sureAddr, Sem.run_bind, Sem.run_pure, Result.andThen_ok, run_storeVar_row w g t ty old cells hg hi hs h1]
    exact hK _ _ h
theorem bk_one {A : Option Addr} {n c : Nat} {R F : List Int} : (bkC A n c R F).toArray.all (·.oneCell') = true := by
 refine all_oneCell_toArray fun v hv => ?_
 unfold bkC at hv
 rcases List.mem_cons.1 hv with rfl | hv
 ·rfl
 ·rcases List.mem_append.1 hv with hv | hv <;> (obtain ⟨z, _, rfl⟩ := List.mem_map.1 hv; rfl)
theorem two_new (w : World) (o o' : Obj) : ((w.alloc o).alloc o').heap[w.heap.size + 1]? = some o' := by simpa using heap_new (w.alloc o) o'
theorem OwnR.keep {base : Nat} {w w' : World} {v : Value} {l : List El} (h : OwnR base w v l) (hb : ∀ k, base ≤ k → w'.heap[k]? = w.heap[k]?) : OwnR base w' v l := by
 refine ⟨h.1, ?_⟩
 rcases h.2 with h1 | ⟨g, cap, cur, rfl, h2, h3, h4⟩
 ·exact .inl h1
 ·exact .inr ⟨g, cap, cur, rfl, h2, (hb g h2).trans h3, h4⟩
theorem OwnR.down {base base' : Nat} {w : World} {v : Value} {l : List El} (h : OwnR base w v l) (hb : base' ≤ base) : OwnR base' w v l := ⟨h.1, h.2.imp id fun ⟨g, cap, cur, h1, h2, h3⟩ => ⟨g, cap, cur, h1, Nat.le_trans hb h2, h3⟩⟩
open Go.ChangeShapes Go.WideShapes Go.ChangeAt Go.RowKit
def z16 : List Int := List.replicate 16 0
theorem zb_eq : (#[.slice none 0 0, .int .i64 0, .int .i64 0, .int .i64 0, .int .i64 0, .int .i64 0, .int .i64 0, .int .i64 0, .int .i64 0, .int .i64 0, .int .i64 0, .int .i64 0, .int .i64 0, .int .i64 0, .int .i64 0, .int .i64 0, .int .i64 0, .int .i64 0, .int .i64 0, .int .i64 0, .int .i64 0, .int .i64 0, .int .i64 0, .int .i64 0, .int .i64 0, .int .i64 0, .int .i64 0, .int .i64 0, .int .i64 0, .int .i64 0, .int .i64 0, .int .i64 0, .int .i64 0] : Array Value) = (bkC none 0 0 z16 z16).toArray := rfl
theorem results_bkE {fn : Func} {p q : Tmp} (h : fn.results = #[.cell p 25, .tmp q]) (tmps : Array Value) (w : World) (g : Nat) (t : TypeId) (cs : Array Value) (v : Value) (fr : Nat × Nat)
    (hp : tmps.getD p undef = .pointer (some ⟨g, 0, none⟩)) (hq : tmps.getD q undef = v) (hg : w.heap[g]? = some (.cells cs t fr)) (hsz : cs.size = 33) :
    (results fn tmps).run Try.prog w = .ok (.tuple #[.agg cs, v]) w := by
  have hp' : tmps[p]?.getD undef = .pointer (some ⟨g, 0, none⟩) := by simpa using hp
  have hq' : tmps[q]?.getD undef = v := by simpa using hq
  have hi : (Try.prog.info? 25).map (·.size) = some cs.size := by rw [hsz]; kernel_rfl
  simp [results, h, hp', hq', asAddr, run_loadVar_row w g t 25 cs fr _ hg Try.underlying25 rfl hi]
theorem end_bkE {P : Program} {fn : Func} {p q : Tmp} {Q : Ending → World → Prop} (hP : P = Try.prog) (h : fn.results = #[.cell p 25, .tmp q]) (a : Act) (w : World) (g : Nat) (t : TypeId) (cs : Array Value) (v : Value) (fr : Nat × Nat) (hd : a.defers = [])
    (hp : a.tmps.getD p undef = .pointer (some ⟨g, 0, none⟩)) (hq : a.tmps.getD q undef = v) (hg : w.heap[g]? = some (.cells cs t fr)) (hsz : cs.size = 33) (hQ : Q (.returned (.tuple #[.agg cs, v])) w) : bodyPost P fn Q .ret a w := by
  subst hP
  exact bodyPost_ret (v := .tuple #[.agg cs, v]) (results_bkE h a.tmps w g t cs v fr hp hq hg hsz) hd hQ
def BkEnd (E : Int) (l : List El) (R F : List Int) (w : World) (e : Ending) (w' : World) : Prop := ∃ A c, e = .returned (.tuple #[.agg (bkC A l.length c R F).toArray, .int .i64 E]) ∧ OwnR w.heap.size w' (.slice A l.length c) l ∧ Calm w w'
theorem BkEnd.none {E : Int} {w w' : World} {e : Ending} (he : e = .returned (.tuple #[.agg #[.slice none 0 0, .int .i64 0, .int .i64 0, .int .i64 0, .int .i64 0, .int .i64 0, .int .i64 0, .int .i64 0, .int .i64 0, .int .i64 0, .int .i64 0, .int .i64 0, .int .i64 0, .int .i64 0, .int .i64 0, .int .i64 0, .int .i64 0, .int .i64 0, .int .i64 0, .int .i64 0, .int .i64 0, .int .i64 0, .int .i64 0, .int .i64 0, .int .i64 0, .int .i64 0, .int .i64 0, .int .i64 0, .int .i64 0, .int .i64 0, .int .i64 0, .int .i64 0, .int .i64 0], .int .i64 E])) (hc : Calm w w') : BkEnd E [] z16 z16 w e w' := ⟨Option.none, 0, he, OwnR.nil _ _, hc⟩
open Go.ChangeShapes Go.WideShapes Go.ChangeAt Go.RowKit
def IsZk (z : Array Value) : Prop := z = #[.slice none 0 0, .int .i64 0, .int .i64 0, .int .i64 0, .int .i64 0, .int .i64 0, .int .i64 0, .int .i64 0, .int .i64 0, .int .i64 0, .int .i64 0, .int .i64 0, .int .i64 0, .int .i64 0, .int .i64 0, .int .i64 0, .int .i64 0, .int .i64 0, .int .i64 0, .int .i64 0, .int .i64 0, .int .i64 0, .int .i64 0, .int .i64 0, .int .i64 0, .int .i64 0, .int .i64 0, .int .i64 0, .int .i64 0, .int .i64 0, .int .i64 0, .int .i64 0, .int .i64 0]
theorem IsZk.size {z : Array Value} (h : IsZk z) : z.size = 33 := by rw [show z = _ from h]; rfl
theorem IsZk.one {z : Array Value} (h : IsZk z) : z.all (·.oneCell') = true := by rw [show z = _ from h, zb_eq]; exact bk_one
theorem goodSub {l l' : List El} (h : Good l) (hs : l'.Sublist l) : Good l' :=
 ⟨Nat.le_trans hs.length_le h.1, fun e he => h.2.1 e (hs.subset he), h.2.2.sublist hs⟩
open Go.ChangeShapes Go.WideShapes Go.ChangeAt Go.RowKit
def posP (l : List El) (p : Int) : Nat := (l.filter fun e => decide (e.p < p)).length
theorem posP_part {l : List El} {p : Int} {h : Nat} (hn : h ≤ l.length) (h1 : ∀ i (hi : i < l.length), i < h → l[i].p < p) (h2 : ∀ i (hi : i < l.length), h ≤ i → ¬ l[i].p < p) : posP l p = h := by
 unfold posP
 have e1 : (l.take h).filter (fun e => decide (e.p < p)) = l.take h := List.filter_eq_self.2 fun e he => by
  obtain ⟨i, hi, rfl⟩ := List.getElem_of_mem he
  rw [List.length_take] at hi
  rw [List.getElem_take]
  exact decide_eq_true (h1 i (by omega) (by omega))
 have e2 : (l.drop h).filter (fun e => decide (e.p < p)) = [] := List.filter_eq_nil_iff.2 fun e he => by
  obtain ⟨i, hi, rfl⟩ := List.getElem_of_mem he
  rw [List.length_drop] at hi
  rw [List.getElem_drop, decide_eq_true_eq]
  exact h2 (h + i) (by omega) (by omega)
 rw [← List.take_append_drop h l, List.filter_append, e1, e2, List.append_nil, List.length_take]
 omega
theorem Fol.p_le {a b : El} (h : Fol a b) : a.p ≤ b.p := by
 have h1 := h.1
 rcases Int.lt_or_le b.p a.p with h2 | h2
 ·exfalso
  unfold sLt kLt at h1
  simp only [El.key, Prod.mk.injEq] at h1
  omega
 ·exact h2
def RiseP (l : List El) : Prop := l.Pairwise fun a b => a.p ≤ b.p
theorem riseP {l : List El} (h : l.Pairwise Fol) : RiseP l := h.imp fun h => h.p_le
theorem rise_split {p : Int} : ∀ {l : List El}, RiseP l → l.take (posP l p) = l.filter (fun e => decide (e.p < p)) ∧ l.drop (posP l p) = l.filter (fun e => !decide (e.p < p))
 | [], _ => ⟨rfl, rfl⟩
 |e :: l, h => by
  have h1 := List.pairwise_cons.1 h
  have ih := rise_split (p := p) h1.2
  by_cases he : e.p < p
  ·have e1 : posP (e :: l) p = posP l p + 1 := by unfold posP; rw [List.filter_cons_of_pos (by simpa using he)]; rfl
   rw [e1, List.take_succ_cons, List.drop_succ_cons, List.filter_cons_of_pos (by simpa using he), List.filter_cons_of_neg (by simpa using he), ih.1, ih.2]
   exact ⟨rfl, rfl⟩
  ·have hn : ∀ x ∈ l, ¬ x.p < p := fun x hx => by have := h1.1 x hx; omega
   have e2 : l.filter (fun e => decide (e.p < p)) = [] := List.filter_eq_nil_iff.2 fun x hx => by simpa using hn x hx
   have e1 : posP (e :: l) p = 0 := by unfold posP; rw [List.filter_cons_of_neg (by simpa using he), e2]; rfl
   rw [e1, List.take_zero, List.drop_zero, List.filter_cons_of_neg (by simpa using he), e2, List.filter_eq_self.2 (fun x hx => by
    rcases List.mem_cons.1 hx with rfl | hx
    ·simpa using he
    ·simpa using hn x hx)]
   exact ⟨rfl, rfl⟩
def mineL (l : List El) (p : Int) : List El := l.filter fun e => decide (e.p = p)
def otherL (l : List El) (p : Int) : List El := l.filter fun e => !decide (e.p = p)
theorem posP_le (l : List El) (p : Int) : posP l p ≤ l.length := List.length_filter_le _ _
theorem posP_mono (l : List El) (p : Int) : posP l p ≤ posP l (p + 1) := by
 unfold posP
 refine List.Sublist.length_le ?_
 rw [show (l.filter fun e => decide (e.p < p)) = (l.filter fun e => decide (e.p < p + 1)).filter fun e => decide (e.p < p) from by
  rw [List.filter_filter]
  congr 1
  funext e
  by_cases h : e.p < p
  ·simp [h]; omega
  ·simp [h]]
 exact List.filter_sublist
theorem RiseP.drop {l : List El} (h : RiseP l) (n : Nat) : RiseP (l.drop n) := List.Pairwise.sublist (List.drop_sublist _ _) h
theorem posP_drop {l : List El} (h : RiseP l) (p : Int) : posP l (p + 1) = posP l p + posP (l.drop (posP l p)) (p + 1) := by
 have h1 := rise_split (p := p) h
 conv => lhs; rw [← List.take_append_drop (posP l p) l]
 unfold posP at *
 rw [List.filter_append, List.length_append]
 congr 1
 rw [h1.1, List.filter_filter]
 congr 2
 funext e
 by_cases h : e.p < p
 ·simp [h]; omega
 ·simp [h]
theorem mine_part {l : List El} (h : RiseP l) (p : Int) : (l.drop (posP l p)).take (posP l (p + 1) - posP l p) = mineL l p := by
 have h1 := rise_split (p := p) h
 have h2 := rise_split (p := p + 1) (h.drop (posP l p))
 rw [posP_drop h, Nat.add_sub_cancel_left, h2.1, h1.2, List.filter_filter]
 unfold mineL
 congr 1
 funext e
 by_cases ha : e.p < p <;> by_cases hb : e.p < p + 1 <;> by_cases hc : e.p = p <;> simp [ha, hb, hc] <;> omega
theorem other_part {l : List El} (h : RiseP l) (p : Int) : l.take (posP l p) ++ l.drop (posP l (p + 1)) = otherL l p := by
 have h1 := rise_split (p := p) h
 have h2 := rise_split (p := p + 1) h
 unfold otherL
 conv => rhs; rw [← List.take_append_drop (posP l p) l, ← List.take_append_drop (posP l (p + 1) - posP l p) (l.drop (posP l p)), mine_part h, List.drop_drop, show posP l p + (posP l (p + 1) - posP l p) = posP l (p + 1) by have := posP_mono l p; omega]
 rw [List.filter_append, List.filter_append]
 have e1 : (l.take (posP l p)).filter (fun e => !decide (e.p = p)) = l.take (posP l p) := List.filter_eq_self.2 fun e he => by
  rw [h1.1] at he
  have := (List.mem_filter.1 he).2
  simp at this ⊢; omega
 have e2 : (mineL l p).filter (fun e => !decide (e.p = p)) = [] := List.filter_eq_nil_iff.2 fun e he => by
  have := (List.mem_filter.1 he).2
  simpa using this
 have e3 : (l.drop (posP l (p + 1))).filter (fun e => !decide (e.p = p)) = l.drop (posP l (p + 1)) := List.filter_eq_self.2 fun e he => by
  rw [h2.2] at he
  have := (List.mem_filter.1 he).2
  simp at this ⊢; omega
 rw [e1, e2, e3, List.nil_append]
set_option maxHeartbeats 4000000 in
theorem first1_any (B1 B2 : Nat) (A : Option Addr) (c : Nat) (l : List El) (p' : Int) (i : Nat) (w : World) (hi : i < l.length) (hL : Lies w A l)
    (hx : w.heap[B1]? = some (.cells #[.slice A l.length c] 22 (0, 0))) (hy : w.heap[B2]? = some (.cells #[.int .i64 p'] 3 (0, 0))) :
    Calls Try.prog 103 #[.int .i64 i, .pointer (some ⟨B1, 0, none⟩), .pointer (some ⟨B2, 0, none⟩)] w fun e w' => e = .returned (.bool (decide (p' ≤ l[i].p))) ∧ Calm w w' := by
  obtain ⟨b, q, p, o, f, m, g, s, rfl, hb, HE, hm, c0, c1, c2, c3, c4, c5⟩ := hL.get hi
  have hK : Hid (decide (p' ≤ p) = decide (p' ≤ l[i].p)) := by
    rw [(List.getElem?_eq_some_iff.1 HE.out).2]; rfl
  generalize decide (p' ≤ l[i].p) = r at hK ⊢
  clear hL HE
  have x0 := cell_of_row _ _ 0 _ _ _ hx
  simp only [List.getElem?_toArray, List.getElem?_cons_zero] at x0
  have hxs := (Array.getElem?_eq_some_iff.1 hx).1
  have y0 := cell_of_row _ _ 0 _ _ _ hy
  simp only [List.getElem?_toArray, List.getElem?_cons_zero] at y0
  have hys := (Array.getElem?_eq_some_iff.1 hy).1
  have hiz : (i : Int) < (l.length : Int) := by omega
  generalize l.length = n at *
  clear hx hy
  go_enter Try.func103, Try.ntmps103
  go_wp2_with fail
  refine wp_region_plan [.val (.slice (some ⟨b, q, none⟩) n c), .val (.int .i64 (i)), .val (.pointer (some ⟨b, q + i * 6, none⟩)), .val (.pointer (some ⟨b, q + i * 6, none⟩)), .val (.pointer (some ⟨b, q + i * 6, none⟩)), .val (.int .i64 (p)), .val (.int .i64 (p')), .val (.bool (decide (p' ≤ p))), .val (.bool (decide (p' ≤ p)))] (by kernel_rfl) (by kernel_rfl) (by kernel_rfl) ?_
  intro X
  iterate 9
    refine plan_val (by kernel_rfl) (fun u hu => ?_) ?_
    · obtain ⟨hc, hf, hz⟩ := hu.of_drew.facts
      go_simp
      all_goals first
        | (fail)
    simp only [Act.put, List.setIfInBounds_toArray, List.set_cons_zero, List.set_cons_succ, Nat.reduceAdd]
  refine plan_end ?_
  intro w' hB
  have hk := hB.calm.of_drew
  clear hB
  go_wp2_with fail
  go_ret
  exact ⟨ret_bool hK.out, hk⟩
def BoxesP (B1 B2 : Nat) (A : Option Addr) (n c : Nat) (p' : Int) (w : World) : Prop :=
 w.heap[B1]? = some (.cells #[.slice A n c] 22 (0, 0)) ∧ w.heap[B2]? = some (.cells #[.int .i64 p'] 3 (0, 0))
theorem BoxesP.calm {B1 B2 : Nat} {A : Option Addr} {n c : Nat} {p' : Int} {w w' : World} (h : BoxesP B1 B2 A n c p' w) (hb : Calm w w') : BoxesP B1 B2 A n c p' w' :=
 ⟨(hb.block (Array.getElem?_eq_some_iff.1 h.1).1).trans h.1, (hb.block (Array.getElem?_eq_some_iff.1 h.2).1).trans h.2⟩
set_option maxHeartbeats 4000000 in
theorem searchP_any (B1 B2 : Nat) (A : Option Addr) (c : Nat) (l : List El) (p' : Int) (w : World) (hn : l.length ≤ 400) (hL : Lies w A l) (hS : RiseP l) (hB : BoxesP B1 B2 A l.length c p' w) :
    Calls Try.prog 102 #[.int .i64 l.length, .func (.func 103) #[] #[.pointer (some ⟨B1, 0, none⟩), .pointer (some ⟨B2, 0, none⟩)]] w fun e w' => e = .returned (.int .i64 (posP l p')) ∧ Calm w w' := by
  have C : ∀ (u : World) (i : Nat) (r : Bool) (h : i < l.length), Calm w u → decide (p' ≤ l[i].p) = r →
      Calls Try.prog 103 (#[.int .i64 i] ++ #[.pointer (some ⟨B1, 0, none⟩), .pointer (some ⟨B2, 0, none⟩)]) u fun e w' => e = .returned (.bool r) ∧ Calm u w' := fun u i r h hu hr => by
    rw [← hr]; exact first1_any B1 B2 A c l p' i u h (hL.calm hu) (hB.calm hu).1 (hB.calm hu).2
  have M : ∀ i j (hi : i < l.length) (hj : j < l.length), i ≤ j → p' ≤ l[i].p → p' ≤ l[j].p := fun i j hi hj hij h => by
    rcases Nat.lt_or_eq_of_le hij with h1 | h1
    · have := List.pairwise_iff_getElem.1 hS i j hi hj h1; omega
    · subst h1; exact h
  clear hL hB hS
  go_enter Try.func102, Try.ntmps102
  go_wp2_with fail
  go_loopg [5, 6] l.length (fun kx s5 s6 wr => ∃ lo hi : Nat, s5 = .int .i64 lo ∧ s6 = .int .i64 hi ∧ lo ≤ hi ∧ hi ≤ l.length ∧ hi - lo ≤ kx ∧ Calm w wr ∧
    Hid ((∀ t (h : t < l.length), t < lo → ¬ p' ≤ l[t].p) ∧ (∀ t (h : t < l.length), hi ≤ t → p' ≤ l[t].p)))
  case atStart => exact ⟨0, l.length, rfl, rfl, Nat.zero_le _, Nat.le_refl _, by omega, Calm.refl _, show _ ∧ _ from ⟨fun t h ht => absurd ht (Nat.not_lt_zero _), fun t h1 h2 => by omega⟩⟩
  case round =>
    obtain ⟨lo, hi, rfl, rfl, hlh, hin, hg, hu, I⟩ := hrel
    by_cases hlt : lo < hi
    · have hmid : (lo + hi) / 2 < l.length := by omega
      cases hp : decide (p' ≤ l[(lo + hi) / 2].p)
      · have hc := C wr ((lo + hi) / 2) false hmid hu hp
        rw [show (((lo + hi) / 2 : Nat) : Int) = ((lo : Int) + (hi : Int)) / 2 by omega] at hc
        have I2 : Hid ((∀ t (h : t < l.length), t < (lo + hi) / 2 + 1 → ¬ p' ≤ l[t].p) ∧ (∀ t (h : t < l.length), hi ≤ t → p' ≤ l[t].p)) := show _ ∧ _ from
          ⟨fun t h ht h2 => absurd (M t _ h hmid (by omega) h2) (of_decide_eq_false hp), I.out.2⟩
        clear hp C
        go_wp2_with (go_at_call 103; refine hc.mono ?_; rintro e w1 ⟨rfl, hb1⟩)
        go_roundg (hi - ((lo + hi) / 2 + 1))
        case measure => omega
        case rel => exact ⟨(lo + hi) / 2 + 1, hi, by rw [show ((lo : Int) + (hi : Int)) / 2 + 1 = (((lo + hi) / 2 + 1 : Nat) : Int) by omega], rfl, by omega, hin, Nat.le_refl _, hu.call hb1, I2⟩
      · have hc := C wr ((lo + hi) / 2) true hmid hu hp
        rw [show (((lo + hi) / 2 : Nat) : Int) = ((lo : Int) + (hi : Int)) / 2 by omega] at hc
        have I2 : Hid ((∀ t (h : t < l.length), t < lo → ¬ p' ≤ l[t].p) ∧ (∀ t (h : t < l.length), (lo + hi) / 2 ≤ t → p' ≤ l[t].p)) := show _ ∧ _ from
          ⟨I.out.1, fun t h ht => M _ t hmid h ht (of_decide_eq_true hp)⟩
        clear hp C
        go_wp2_with (go_at_call 103; refine hc.mono ?_; rintro e w1 ⟨rfl, hb1⟩)
        go_roundg ((lo + hi) / 2 - lo)
        case measure => omega
        case rel => exact ⟨lo, (lo + hi) / 2, rfl, by rw [show ((lo : Int) + (hi : Int)) / 2 = (((lo + hi) / 2 : Nat) : Int) by omega], by omega, by omega, Nat.le_refl _, hu.call hb1, I2⟩
    · obtain rfl : hi = lo := by omega
      have K : Hid (posP l p' = hi) := posP_part hin (fun i h hi' => by have := I.out.1 i h hi'; omega) (fun i h hi' => by have := I.out.2 i h hi'; omega)
      clear C
      go_wp2_with fail
      go_ret
      exact ⟨by rw [K.out]; rfl, hu⟩
set_option maxHeartbeats 4000000 in
theorem first_any (A : Option Addr) (c : Nat) (l : List El) (p' : Int) (w : World) (hn : l.length ≤ 400) (hL : Lies w A l) (hS : RiseP l) :
    Calls Try.prog 76 #[.slice A l.length c, .int .i64 p'] w fun e w' => e = .returned (.int .i64 (posP l p')) ∧ Calm w w' := by
  have hu := ((Calm.refl w).alloc (.cells #[.slice A l.length c] 22)).alloc (.cells #[.int .i64 p'] 3)
  have hb : BoxesP w.heap.size (w.heap.size + 1) A l.length c p' ((w.alloc (.cells #[.slice A l.length c] 22)).alloc (.cells #[.int .i64 p'] 3)) := ⟨heap_past _ (heap_new w _), two_new w _ _⟩
  have cS := searchP_any w.heap.size (w.heap.size + 1) A c l p' _ hn (hL.calm hu) hS hb
  clear hb
  go_enter Try.func76, Try.ntmps76
  go_wp2_with (go_at_call 102; refine cS.mono ?_; rintro e w1 ⟨rfl, hb1⟩)
  go_ret
  exact ⟨rfl, hu.call hb1⟩
open Go.ChangeShapes Go.WideShapes Go.ChangeAt Go.RowKit
theorem roleErr_zero {l : List El} {R F : List Int} {p r : Int} (h : roleErr l R F p r = 0) : bkErr l R F = 0 ∧ (0 ≤ p ∧ p ≤ 15) ∧ gI R p.toNat = r := by
 unfold roleErr at h
 by_cases h1 : bkErr l R F = 0
 ·rw [if_pos h1] at h
  by_cases h2 : 0 ≤ p ∧ p ≤ 15
  ·rw [if_pos h2] at h
   by_cases h3 : gI R p.toNat = r
   ·exact ⟨h1, h2, h3⟩
   ·rw [if_neg h3] at h; exact absurd h (by decide)
  ·rw [if_neg h2] at h; exact absurd h (by decide)
 ·rw [if_neg h1] at h; exact absurd h h1
theorem bkErr_zero {l : List El} {R F : List Int} (h : bkErr l R F = 0) : Good l ∧ bkOk l R F := by
 unfold bkErr at h
 by_cases h1 : runErr l = 0
 ·rw [if_pos h1] at h
  refine ⟨runErr_zero.1 h1, ?_⟩
  by_cases h2 : bkOk l R F
  ·exact h2
  ·rw [if_neg h2] at h; exact absurd h (by decide)
 ·rw [if_neg h1] at h; exact absurd h h1
theorem lies_sub {w : World} {b q : Nat} {l : List El} (h : Lies w (some ⟨b, q, none⟩) l) (x n : Nat) (hn : x + n ≤ l.length) : Lies w (some ⟨b, q + x * 6, none⟩) ((l.drop x).take n) := by
 have hlen : ((l.drop x).take n).length = n := by rw [List.length_take, List.length_drop]; omega
 refine ⟨fun e he => h.1 e (List.drop_subset _ _ (List.take_subset _ _ he)), fun hpos => ?_⟩
 rw [hlen] at hpos
 obtain ⟨b', q', hA, hlt, hk⟩ := h.2 (by omega)
 injection hA with hA
 injection hA with h1 h2
 subst h1; subst h2
 refine ⟨b, q + x * 6, rfl, hlt, fun k e he => ?_⟩
 have hkn : k < n := by have := (List.getElem?_eq_some_iff.1 he).1; omega
 rw [List.getElem?_take_of_lt hkn, List.getElem?_drop] at he
 have := hk _ _ he
 rw [show q + (x + k) * 6 = q + x * 6 + k * 6 by omega] at this
 exact this
open Go.ChangeShapes Go.WideShapes Go.ChangeAt Go.RowKit
theorem allocs4 (w : World) (o0 o1 o2 o3 : Obj) : Calm w ((((w.alloc o0).alloc o1).alloc o2).alloc o3) ∧ ((((w.alloc o0).alloc o1).alloc o2).alloc o3).heap.size = w.heap.size + 4 ∧ ((((w.alloc o0).alloc o1).alloc o2).alloc o3).heap[w.heap.size]? = some o0 ∧ ((((w.alloc o0).alloc o1).alloc o2).alloc o3).heap[w.heap.size + 1]? = some o1 ∧ ((((w.alloc o0).alloc o1).alloc o2).alloc o3).heap[w.heap.size + 2]? = some o2 ∧ ((((w.alloc o0).alloc o1).alloc o2).alloc o3).heap[w.heap.size + 3]? = some o3 := by
 have h0 := heap_past o3 (heap_past o2 (heap_past o1 (heap_new w o0)))
 have h1 := heap_past o3 (heap_past o2 (heap_new (w.alloc o0) o1))
 have h2 := heap_past o3 (heap_new ((w.alloc o0).alloc o1) o2)
 have h3 := heap_new (((w.alloc o0).alloc o1).alloc o2) o3
 refine ⟨(((((Calm.refl w).alloc o0).alloc o1).alloc o2).alloc o3), by simp, h0, by simpa using h1, by simpa using h2, by simpa using h3⟩
theorem allocs5 (w : World) (o0 o1 o2 o3 o4 : Obj) : Calm w (((((w.alloc o0).alloc o1).alloc o2).alloc o3).alloc o4) ∧ (((((w.alloc o0).alloc o1).alloc o2).alloc o3).alloc o4).heap.size = w.heap.size + 5 ∧ (((((w.alloc o0).alloc o1).alloc o2).alloc o3).alloc o4).heap[w.heap.size]? = some o0 ∧ (((((w.alloc o0).alloc o1).alloc o2).alloc o3).alloc o4).heap[w.heap.size + 1]? = some o1 ∧ (((((w.alloc o0).alloc o1).alloc o2).alloc o3).alloc o4).heap[w.heap.size + 2]? = some o2 ∧ (((((w.alloc o0).alloc o1).alloc o2).alloc o3).alloc o4).heap[w.heap.size + 3]? = some o3 ∧ (((((w.alloc o0).alloc o1).alloc o2).alloc o3).alloc o4).heap[w.heap.size + 4]? = some o4 := by
 obtain ⟨a, b, c, d, e, f⟩ := allocs4 w o0 o1 o2 o3
 have h4 := heap_new ((((w.alloc o0).alloc o1).alloc o2).alloc o3) o4
 rw [b] at h4
 exact ⟨a.alloc o4, by rw [World.size_alloc, b], heap_past o4 c, heap_past o4 d, heap_past o4 e, heap_past o4 f, h4⟩
set_option maxHeartbeats 4000000 in
theorem rlwrite_bad (A : Option Addr) (c : Nat) (l : List El) (R F : List Int) (p : Int) (fv : Value) (w : World) (hn : l.length ≤ 9223372036854775807) (hL : Lies w A l) (hR : R.length = 16) (hF : F.length = 16) (hE : roleErr l R F p 1 ≠ 0) :
    Calls Try.prog 42 #[.agg (bkC A l.length c R F).toArray, .int .i64 p, fv] w (BkEnd (roleErr l R F p 1) [] z16 z16 w) := by
  have cC := fun u (hu : Calm w u) => checkRole_any A c l R F p 1 u hn (hL.calm hu) hR hF
  have hx := heap_past (.cells #[.slice none 0 0, .int .i64 0, .int .i64 0, .int .i64 0, .int .i64 0, .int .i64 0, .int .i64 0, .int .i64 0, .int .i64 0, .int .i64 0, .int .i64 0, .int .i64 0, .int .i64 0, .int .i64 0, .int .i64 0, .int .i64 0, .int .i64 0, .int .i64 0, .int .i64 0, .int .i64 0, .int .i64 0, .int .i64 0, .int .i64 0, .int .i64 0, .int .i64 0, .int .i64 0, .int .i64 0, .int .i64 0, .int .i64 0, .int .i64 0, .int .i64 0, .int .i64 0, .int .i64 0] 25) (heap_new w (.cells (bkC A l.length c R F).toArray 25))
  have hz : ((w.alloc (.cells (bkC A l.length c R F).toArray 25)).alloc (.cells #[.slice none 0 0, .int .i64 0, .int .i64 0, .int .i64 0, .int .i64 0, .int .i64 0, .int .i64 0, .int .i64 0, .int .i64 0, .int .i64 0, .int .i64 0, .int .i64 0, .int .i64 0, .int .i64 0, .int .i64 0, .int .i64 0, .int .i64 0, .int .i64 0, .int .i64 0, .int .i64 0, .int .i64 0, .int .i64 0, .int .i64 0, .int .i64 0, .int .i64 0, .int .i64 0, .int .i64 0, .int .i64 0, .int .i64 0, .int .i64 0, .int .i64 0, .int .i64 0, .int .i64 0] 25)).heap[w.heap.size + 1]? = some (.cells #[.slice none 0 0, .int .i64 0, .int .i64 0, .int .i64 0, .int .i64 0, .int .i64 0, .int .i64 0, .int .i64 0, .int .i64 0, .int .i64 0, .int .i64 0, .int .i64 0, .int .i64 0, .int .i64 0, .int .i64 0, .int .i64 0, .int .i64 0, .int .i64 0, .int .i64 0, .int .i64 0, .int .i64 0, .int .i64 0, .int .i64 0, .int .i64 0, .int .i64 0, .int .i64 0, .int .i64 0, .int .i64 0, .int .i64 0, .int .i64 0, .int .i64 0, .int .i64 0, .int .i64 0] 25 (0, 0)) := two_new w _ _
  have hu := ((Calm.refl w).alloc (.cells (bkC A l.length c R F).toArray 25)).alloc (.cells #[.slice none 0 0, .int .i64 0, .int .i64 0, .int .i64 0, .int .i64 0, .int .i64 0, .int .i64 0, .int .i64 0, .int .i64 0, .int .i64 0, .int .i64 0, .int .i64 0, .int .i64 0, .int .i64 0, .int .i64 0, .int .i64 0, .int .i64 0, .int .i64 0, .int .i64 0, .int .i64 0, .int .i64 0, .int .i64 0, .int .i64 0, .int .i64 0, .int .i64 0, .int .i64 0, .int .i64 0, .int .i64 0, .int .i64 0, .int .i64 0, .int .i64 0, .int .i64 0, .int .i64 0] 25)
  have hsz : ((w.alloc (.cells (bkC A l.length c R F).toArray 25)).alloc (.cells #[.slice none 0 0, .int .i64 0, .int .i64 0, .int .i64 0, .int .i64 0, .int .i64 0, .int .i64 0, .int .i64 0, .int .i64 0, .int .i64 0, .int .i64 0, .int .i64 0, .int .i64 0, .int .i64 0, .int .i64 0, .int .i64 0, .int .i64 0, .int .i64 0, .int .i64 0, .int .i64 0, .int .i64 0, .int .i64 0, .int .i64 0, .int .i64 0, .int .i64 0, .int .i64 0, .int .i64 0, .int .i64 0, .int .i64 0, .int .i64 0, .int .i64 0, .int .i64 0, .int .i64 0] 25)).heap.size = w.heap.size + 2 := by simp
  have hJ : Hid ((Try.prog.info? 25).map (·.size) = some (bkC A l.length c R F).length) := show _ = _ by rw [bkC_len hR hF]; exact infoBook
  have hJ3 : Hid ((Try.prog.info? 25).map (·.size) = some 33) := show _ = _ from infoBook
  have b1 := ne_rl hE
  generalize roleErr l R F p 1 = E at cC b1 hE ⊢
  generalize (bkC A l.length c R F) = CL at *
  go_enter Try.func42, Try.ntmps42
  go_upto_region 1 with fail
  generalize ((w.alloc (.cells CL.toArray 25)).alloc (.cells #[.slice none 0 0, .int .i64 0, .int .i64 0, .int .i64 0, .int .i64 0, .int .i64 0, .int .i64 0, .int .i64 0, .int .i64 0, .int .i64 0, .int .i64 0, .int .i64 0, .int .i64 0, .int .i64 0, .int .i64 0, .int .i64 0, .int .i64 0, .int .i64 0, .int .i64 0, .int .i64 0, .int .i64 0, .int .i64 0, .int .i64 0, .int .i64 0, .int .i64 0, .int .i64 0, .int .i64 0, .int .i64 0, .int .i64 0, .int .i64 0, .int .i64 0, .int .i64 0, .int .i64 0] 25)) = w2 at hx hz hu hsz ⊢
  obtain ⟨ZC, hZC⟩ : ∃ z : Array Value, z = #[.slice none 0 0, .int .i64 0, .int .i64 0, .int .i64 0, .int .i64 0, .int .i64 0, .int .i64 0, .int .i64 0, .int .i64 0, .int .i64 0, .int .i64 0, .int .i64 0, .int .i64 0, .int .i64 0, .int .i64 0, .int .i64 0, .int .i64 0, .int .i64 0, .int .i64 0, .int .i64 0, .int .i64 0, .int .i64 0, .int .i64 0, .int .i64 0, .int .i64 0, .int .i64 0, .int .i64 0, .int .i64 0, .int .i64 0, .int .i64 0, .int .i64 0, .int .i64 0, .int .i64 0] := ⟨_, rfl⟩
  rw [← hZC] at hz
  have hIZ : IsZk ZC := hZC
  clear hZC
  have HX := Lib.hid hx
  have HZ := Lib.hid hz
  have hxl : w.heap.size < w2.heap.size := by omega
  have hzl : w.heap.size + 1 < w2.heap.size := by omega
  clear hx hz
  go_upto_region 3 with (first
    | (refine wpList_load_mid rfl 25 (.tmp 3) rfl w.heap.size 0 rfl CL _ (range_all HX.out) Try.underlying25 rfl hJ.out ?_)
    | (go_at_call 74; refine (cC _ hu).mono ?_; rintro e w3 ⟨rfl, hb1⟩; replace HX := Lib.hid ((hb1.block hxl).trans HX.out); replace HZ := Lib.hid ((hb1.block hzl).trans HZ.out); replace hxl := Nat.lt_of_lt_of_le hxl hb1.size; replace hzl := Nat.lt_of_lt_of_le hzl hb1.size; replace hu := hu.call hb1; clear hb1))
  go_wp2_with (refine wpList_store_rowB rfl 25 (.tmp 6) (.tmp 19) rfl (w.heap.size + 1) _ ZC ZC rfl (by rw [show ZC = _ from hIZ]; rfl) HZ.out (by rw [hIZ.size]; exact hJ3.out) rfl hIZ.one ?_)
  (try simp only [Exit.inBlock, Exit.then])
  refine end_bkE (p := 6) (q := 7) rfl rfl _ _ (w.heap.size + 1) _ ZC _ _ rfl rfl rfl (setRow_heap _ _ _ _ _ _ HZ.out) hIZ.size ?_
  exact BkEnd.none (by rw [show ZC = _ from hIZ]; rfl) (hu.setRow (by omega) _)
set_option maxHeartbeats 4000000 in
theorem put_wrap (A : Option Addr) (c : Nat) (l : List El) (R F : List Int) (p o f : Int) (s : ByteArray) (t : Int) (E : Int) (L : List El) (R2 F2 : List Int) (w : World) (hR : R.length = 16) (hF : F.length = 16) (hR2 : R2.length = 16) (hF2 : F2.length = 16)
    (cW : ∀ u, Calm w u → u.heap[w.heap.size + 1]? = some (.cells #[.int .i64 p, .int .i64 o, .int .i64 f] 27 (0, 0)) → u.heap[w.heap.size + 2]? = some (.cells #[.string s] 9 (0, 0)) → u.heap[w.heap.size + 3]? = some (.cells #[.int .i64 t] 3 (0, 0)) → Calls Try.prog 42 #[.agg (bkC A l.length c R F).toArray, .int .i64 p, .func (.func 43) #[] #[.pointer (some ⟨w.heap.size + 1, 0, none⟩), .pointer (some ⟨w.heap.size + 2, 0, none⟩), .pointer (some ⟨w.heap.size + 3, 0, none⟩)]] u (BkEnd E L R2 F2 u)) :
    Calls Try.prog 10 #[.agg (bkC A l.length c R F).toArray, .agg #[.int .i64 p, .int .i64 o, .int .i64 f], .string s, .int .i64 t] w (BkEnd E L R2 F2 w) := by
  have hall := allocs5 w (.cells (bkC A l.length c R F).toArray 25) (.cells #[.int .i64 p, .int .i64 o, .int .i64 f] 27) (.cells #[.string s] 9) (.cells #[.int .i64 t] 3) (.cells #[.slice none 0 0, .int .i64 0, .int .i64 0, .int .i64 0, .int .i64 0, .int .i64 0, .int .i64 0, .int .i64 0, .int .i64 0, .int .i64 0, .int .i64 0, .int .i64 0, .int .i64 0, .int .i64 0, .int .i64 0, .int .i64 0, .int .i64 0, .int .i64 0, .int .i64 0, .int .i64 0, .int .i64 0, .int .i64 0, .int .i64 0, .int .i64 0, .int .i64 0, .int .i64 0, .int .i64 0, .int .i64 0, .int .i64 0, .int .i64 0, .int .i64 0, .int .i64 0, .int .i64 0] 25)
  obtain ⟨hu, hsz, hx, hk,  hq2, hq3, hz⟩ := hall
  have hJ : Hid ((Try.prog.info? 25).map (·.size) = some (bkC A l.length c R F).length) := show _ = _ by rw [bkC_len hR hF]; exact infoBook
  have hJ3 : Hid ((Try.prog.info? 25).map (·.size) = some 33) := show _ = _ from infoBook
  have h2 : ∀ A' c', (bkC A' L.length c' R2 F2).toArray.size = 33 := fun A' c' => by
    have := bkC_len (A := A') (n := L.length) (c := c') hR2 hF2
    rw [← this]; simp
  have h3 : ∀ A' c', (bkC A' L.length c' R2 F2).toArray.all (·.oneCell') = true := fun A' c' => bk_one
  have H2 := Lib.hid h2
  have H3 := Lib.hid h3
  clear h2 h3
  generalize (bkC A l.length c R F) = CL at *
  go_enter Try.func10, Try.ntmps10
  go_upto_region 1 with fail
  generalize (((((w.alloc (.cells CL.toArray 25)).alloc (.cells #[.int .i64 p, .int .i64 o, .int .i64 f] 27)).alloc (.cells #[.string s] 9)).alloc (.cells #[.int .i64 t] 3)).alloc (.cells #[.slice none 0 0, .int .i64 0, .int .i64 0, .int .i64 0, .int .i64 0, .int .i64 0, .int .i64 0, .int .i64 0, .int .i64 0, .int .i64 0, .int .i64 0, .int .i64 0, .int .i64 0, .int .i64 0, .int .i64 0, .int .i64 0, .int .i64 0, .int .i64 0, .int .i64 0, .int .i64 0, .int .i64 0, .int .i64 0, .int .i64 0, .int .i64 0, .int .i64 0, .int .i64 0, .int .i64 0, .int .i64 0, .int .i64 0, .int .i64 0, .int .i64 0, .int .i64 0, .int .i64 0] 25)) = w2 at hx hk hq2 hq3 hz hu hsz ⊢
  obtain ⟨ZC, hZC⟩ : ∃ z : Array Value, z = #[.slice none 0 0, .int .i64 0, .int .i64 0, .int .i64 0, .int .i64 0, .int .i64 0, .int .i64 0, .int .i64 0, .int .i64 0, .int .i64 0, .int .i64 0, .int .i64 0, .int .i64 0, .int .i64 0, .int .i64 0, .int .i64 0, .int .i64 0, .int .i64 0, .int .i64 0, .int .i64 0, .int .i64 0, .int .i64 0, .int .i64 0, .int .i64 0, .int .i64 0, .int .i64 0, .int .i64 0, .int .i64 0, .int .i64 0, .int .i64 0, .int .i64 0, .int .i64 0, .int .i64 0] := ⟨_, rfl⟩
  rw [← hZC] at hz
  have hIZ : IsZk ZC := hZC
  clear hZC
  obtain ⟨k0, k1, k2, hks⟩ := row3 hk
  have HX := Lib.hid hx
  have HZ := Lib.hid hz
  have HK := Lib.hid hk
  have HQ2 := Lib.hid hq2
  have HQ3 := Lib.hid hq3
  have hzl : w.heap.size + 4 < w2.heap.size := by omega
  clear hx hz hk hq2 hq3
  go_wp2_with (first
    | (refine wpList_load_mid rfl 25 (.tmp 4) rfl w.heap.size 0 rfl CL _ (range_all HX.out) Try.underlying25 rfl hJ.out ?_)
    | (go_at_call 42; refine (cW _ hu HK.out HQ2.out HQ3.out).mono ?_; rintro e w4 ⟨A', c', rfl, ho4, hb2⟩; replace HZ := Lib.hid ((hb2.block hzl).trans HZ.out); have HO4 := Lib.hid (ho4.down (show w.heap.size + 5 ≤ w2.heap.size by omega)); replace hu := hu.call hb2; clear hb2 ho4)
    | (refine wpList_store_rowB rfl 25 (.tmp 8) (.tmp 15) rfl (w.heap.size + 4) _ ZC _ rfl rfl HZ.out (by rw [H2.out]; exact hJ3.out) (hIZ.size.trans (H2.out _ _).symm) (H3.out _ _) ?_))
  refine end_bkE (p := 8) (q := 9) rfl rfl _ _ (w.heap.size + 4) _ _ _ _ rfl rfl rfl (setRow_heap _ _ _ _ _ _ HZ.out) (H2.out _ _) ?_
  exact ⟨A', c', rfl, (OwnR.keep HO4.out fun j hj => setRow_other _ _ j _ (by omega)).down (by omega), hu.setRow (by omega) _⟩
set_option maxHeartbeats 4000000 in
theorem cut_wrap (A : Option Addr) (c : Nat) (l : List El) (R F : List Int) (p o f : Int) (t : Int) (E : Int) (L : List El) (R2 F2 : List Int) (w : World) (hR : R.length = 16) (hF : F.length = 16) (hR2 : R2.length = 16) (hF2 : F2.length = 16)
    (cW : ∀ u, Calm w u → u.heap[w.heap.size + 1]? = some (.cells #[.int .i64 p, .int .i64 o, .int .i64 f] 27 (0, 0)) → u.heap[w.heap.size + 2]? = some (.cells #[.int .i64 t] 3 (0, 0)) → Calls Try.prog 42 #[.agg (bkC A l.length c R F).toArray, .int .i64 p, .func (.func 45) #[] #[.pointer (some ⟨w.heap.size + 1, 0, none⟩), .pointer (some ⟨w.heap.size + 2, 0, none⟩)]] u (BkEnd E L R2 F2 u)) :
    Calls Try.prog 11 #[.agg (bkC A l.length c R F).toArray, .agg #[.int .i64 p, .int .i64 o, .int .i64 f], .int .i64 t] w (BkEnd E L R2 F2 w) := by
  have hall := allocs4 w (.cells (bkC A l.length c R F).toArray 25) (.cells #[.int .i64 p, .int .i64 o, .int .i64 f] 27) (.cells #[.int .i64 t] 3) (.cells #[.slice none 0 0, .int .i64 0, .int .i64 0, .int .i64 0, .int .i64 0, .int .i64 0, .int .i64 0, .int .i64 0, .int .i64 0, .int .i64 0, .int .i64 0, .int .i64 0, .int .i64 0, .int .i64 0, .int .i64 0, .int .i64 0, .int .i64 0, .int .i64 0, .int .i64 0, .int .i64 0, .int .i64 0, .int .i64 0, .int .i64 0, .int .i64 0, .int .i64 0, .int .i64 0, .int .i64 0, .int .i64 0, .int .i64 0, .int .i64 0, .int .i64 0, .int .i64 0, .int .i64 0] 25)
  obtain ⟨hu, hsz, hx, hk,  hq2, hz⟩ := hall
  have hJ : Hid ((Try.prog.info? 25).map (·.size) = some (bkC A l.length c R F).length) := show _ = _ by rw [bkC_len hR hF]; exact infoBook
  have hJ3 : Hid ((Try.prog.info? 25).map (·.size) = some 33) := show _ = _ from infoBook
  have h2 : ∀ A' c', (bkC A' L.length c' R2 F2).toArray.size = 33 := fun A' c' => by
    have := bkC_len (A := A') (n := L.length) (c := c') hR2 hF2
    rw [← this]; simp
  have h3 : ∀ A' c', (bkC A' L.length c' R2 F2).toArray.all (·.oneCell') = true := fun A' c' => bk_one
  have H2 := Lib.hid h2
  have H3 := Lib.hid h3
  clear h2 h3
  generalize (bkC A l.length c R F) = CL at *
  go_enter Try.func11, Try.ntmps11
  go_upto_region 1 with fail
  generalize ((((w.alloc (.cells CL.toArray 25)).alloc (.cells #[.int .i64 p, .int .i64 o, .int .i64 f] 27)).alloc (.cells #[.int .i64 t] 3)).alloc (.cells #[.slice none 0 0, .int .i64 0, .int .i64 0, .int .i64 0, .int .i64 0, .int .i64 0, .int .i64 0, .int .i64 0, .int .i64 0, .int .i64 0, .int .i64 0, .int .i64 0, .int .i64 0, .int .i64 0, .int .i64 0, .int .i64 0, .int .i64 0, .int .i64 0, .int .i64 0, .int .i64 0, .int .i64 0, .int .i64 0, .int .i64 0, .int .i64 0, .int .i64 0, .int .i64 0, .int .i64 0, .int .i64 0, .int .i64 0, .int .i64 0, .int .i64 0, .int .i64 0, .int .i64 0] 25)) = w2 at hx hk hq2 hz hu hsz ⊢
  obtain ⟨ZC, hZC⟩ : ∃ z : Array Value, z = #[.slice none 0 0, .int .i64 0, .int .i64 0, .int .i64 0, .int .i64 0, .int .i64 0, .int .i64 0, .int .i64 0, .int .i64 0, .int .i64 0, .int .i64 0, .int .i64 0, .int .i64 0, .int .i64 0, .int .i64 0, .int .i64 0, .int .i64 0, .int .i64 0, .int .i64 0, .int .i64 0, .int .i64 0, .int .i64 0, .int .i64 0, .int .i64 0, .int .i64 0, .int .i64 0, .int .i64 0, .int .i64 0, .int .i64 0, .int .i64 0, .int .i64 0, .int .i64 0, .int .i64 0] := ⟨_, rfl⟩
  rw [← hZC] at hz
  have hIZ : IsZk ZC := hZC
  clear hZC
  obtain ⟨k0, k1, k2, hks⟩ := row3 hk
  have HX := Lib.hid hx
  have HZ := Lib.hid hz
  have HK := Lib.hid hk
  have HQ2 := Lib.hid hq2
  have hzl : w.heap.size + 3 < w2.heap.size := by omega
  clear hx hz hk hq2
  go_wp2_with (first
    | (refine wpList_load_mid rfl 25 (.tmp 3) rfl w.heap.size 0 rfl CL _ (range_all HX.out) Try.underlying25 rfl hJ.out ?_)
    | (go_at_call 42; refine (cW _ hu HK.out HQ2.out).mono ?_; rintro e w4 ⟨A', c', rfl, ho4, hb2⟩; replace HZ := Lib.hid ((hb2.block hzl).trans HZ.out); have HO4 := Lib.hid (ho4.down (show w.heap.size + 4 ≤ w2.heap.size by omega)); replace hu := hu.call hb2; clear hb2 ho4)
    | (refine wpList_store_rowB rfl 25 (.tmp 6) (.tmp 13) rfl (w.heap.size + 3) _ ZC _ rfl rfl HZ.out (by rw [H2.out]; exact hJ3.out) (hIZ.size.trans (H2.out _ _).symm) (H3.out _ _) ?_))
  refine end_bkE (p := 6) (q := 7) rfl rfl _ _ (w.heap.size + 3) _ _ _ _ rfl rfl rfl (setRow_heap _ _ _ _ _ _ HZ.out) (H2.out _ _) ?_
  exact ⟨A', c', rfl, (OwnR.keep HO4.out fun j hj => setRow_other _ _ j _ (by omega)).down (by omega), hu.setRow (by omega) _⟩
open Go.RowKit
/-- append(out, s...), s any slice that reads as records. -/
theorem wpList_append_lies {ops : Array Oper} {rest : List Oper} {o : Oper} {a : Act} {w : World} {Q : Exit → Act → World → Prop} (hgd : o.guard = none) (s x : Operand)
    (ho : o.op = .call { callee := .builtin .append, args := #[s, x], argTypes := #[22, 22] })
    (base : Nat) (v : Value) (l : List El) (hs : a.eval s = v) (hown : OwnR base w v l) (A : Option Addr) (c : Nat) (l2 : List El) (hx : a.eval x = .slice A l2.length c) (hsrc : Lies w A l2)
    (hl : (l.length + l2.length) * 56 ≤ 140737488355328) (hbase : base ≤ w.heap.size)
    (h : ∀ v' w', OwnR base w' v' (l ++ l2) → (∀ w0 : World, w0.heap.size ≤ base → Calm w0 w → Calm w0 w') → wpList Try.prog ops Q rest (a.put o.dst v') w') : wpList Try.prog ops Q (o :: rest) a w := by
  obtain ⟨i0, hi, hz0, hz1, hz2⟩ := info_parts infoElem
  have fin : ∀ v' w', w'.ownsRow base 50 6 v' (l.length + l2.length) (cellsOf l ++ cellsOf l2) → w.grownBy w' v.ownBlock → wpList Try.prog ops Q rest (a.put o.dst v') w' := fun v' w' h1 h2 => by
    refine h v' w' ?_ fun w0 h0 hc => hc.grown h0 hown h2
    unfold OwnR
    rw [List.length_append, show cellsOf (l ++ l2) = cellsOf l ++ cellsOf l2 from by simp [cellsOf]]
    exact h1
  rcases A with _ | ad
  · have h0 : l2 = [] := by
      rcases Nat.eq_zero_or_pos l2.length with h | h
      · exact List.eq_nil_of_length_eq_zero h
      · obtain ⟨_, _, h1, _⟩ := hsrc.2 h; cases h1
    subst h0
    refine wpList_plain hgd fun K hK => ?_
    have hrun : (Builtin.append_ #[22, 22] o.type #[v, .slice none 0 c]).run Try.prog w = .ok v w := by
      rcases hown.2 with ⟨rfl, hn⟩ | ⟨g, cap, cur, rfl, _, _, hnc, _⟩
      · simp [Builtin.append_, run_underlying Try.underlying22, sizeOf, typeInfo, hi, Builtin.lenOf, Builtin.firstCells]
      · simp [Builtin.append_, run_underlying Try.underlying22, sizeOf, typeInfo, hi, Builtin.lenOf, Builtin.firstCells, hnc, storeCells]
    have hx' : a.eval x = .slice none 0 c := hx
    unfold Oper.wp execOp
    simp only [ho, resolve, invoke, builtin, Sem.run_bind, Sem.run_pure, Result.andThen_ok, List.map_toArray, List.map_cons, List.map_nil, hs, hx', hrun]
    exact hK _ _ (h v w (by simpa using hown) fun _ _ h => h)
  · refine wpList_append_own w hgd s x _ ho base 50 i0 _ 6 56 Try.underlying22 hi hz0 hz1 hz2 rfl (by decide) v _ _ hs hown ad l2.length c (cellsOf l2) hx (cellsOf_len l2) (fun j u hj => ?_) (cellsOf_one l2) (by unfold maxLen; omega) (by omega) hbase fun v' w' h1 h2 _ => fin v' w' h1 h2
    have hj2 : j < l2.length * 6 := by rw [← cellsOf_len]; exact (List.getElem?_eq_some_iff.1 hj).1
    obtain ⟨b, q, hA, _, _⟩ := hsrc.2 (by omega)
    injection hA with hA
    subst hA
    have e : (⟨b, q, none⟩ : Addr).add j = ⟨b, q + j, none⟩ := by unfold Addr.add; split <;> simp_all
    rw [e]
    exact hsrc.cells j u hj
set_option maxHeartbeats 4000000 in
theorem grow_any (n : Nat) (w : World) (hn : n ≤ 1000) : Calls Try.prog 106 #[.slice none 0 0, .int .i64 (n : Int)] w fun e w' => ∃ v, e = .returned v ∧ OwnR w.heap.size w' v [] ∧ Calm w w' := by
 by_cases h0 : n = 0
 ·subst h0
  go_enter Try.func106, Try.ntmps106
  go_wp2_with fail
  go_ret
  exact ⟨_, rfl, OwnR.nil _ _, Calm.refl _⟩
 obtain ⟨i0, hi0, hz0, hzs, hzb⟩ := info_parts infoElem
 obtain ⟨G, hG⟩ : ∃ G, G = grownCap w n 0 50 := ⟨_, rfl⟩
 have hGn : n ≤ G := by rw [hG]; exact grownCap_ge w _ _ _
 have hGm : G ≤ maxLen := by rw [hG]; exact grownCap_le_maxLen w n 0 _ (by unfold maxLen; omega)
 obtain ⟨C, hC⟩ : ∃ C : List Value, C = (Builtin.zeroCells (Value.agg #[.int .i64 0, .int .i64 0, .int .i64 0, .int .i64 0, .int .i64 0, .string ByteArray.empty]).cells n).toList ++ (Builtin.zeroCells (Value.agg #[.int .i64 0, .int .i64 0, .int .i64 0, .int .i64 0, .int .i64 0, .string ByteArray.empty]).cells (G - n)).toList := ⟨_, rfl⟩
 have hCl : C.length = G * 6 := by
  rw [hC, List.length_append, Array.length_toList, Array.length_toList, size_zeroCells, size_zeroCells]
  show n * 6 + (G - n) * 6 = G * 6
  omega
 have hrz : ∀ ty, (Builtin.append_ #[22, 3] ty #[.slice none 0 0, .int .i64 (n : Int)]).run Try.prog w = .ok (.slice (some ⟨w.heap.size, 0, none⟩) n G) (w.drew.alloc (.cells C.toArray 50)) := fun ty => by
  have h := Lib.run_append_grow_zeros w 22 3 ty 50 i0 _ .i64 .i64 Try.underlying22 Try.underlying3 hi0 hz0 none 0 0 [] (run_firstCells_none w.drew _ 0 0 0) n (by omega) (by omega) (by omega) (by omega) (by rw [hzb]; omega) (by rw [hzb]; exact growslice_fits (by omega) (by omega))
  rw [Nat.zero_add, ← hG] at h
  rw [h, hC]
  exact congrArg (fun x => Result.ok _ (w.drew.alloc (.cells x 50))) (Array.toList_inj.1 (by simp))
 have hO : OwnR w.heap.size (w.drew.alloc (.cells C.toArray 50)) (.slice (some ⟨w.heap.size, 0, none⟩) 0 G) [] :=
  OwnR.row (l := []) (Nat.le_refl _) (heap_alloc_new w.drew _) (Nat.zero_le _) hGm hCl rfl
 have HO := Lib.hid hO
 have hni : (0 : Int) < (n : Int) := by omega
 have hG0 : ¬ G = 0 := by omega
 clear hG hGn hGm hC hCl hi0 hz0 hzs hzb h0 hO
 go_enter Try.func106, Try.ntmps106
 go_wp2_with (at_builtin; refine Lib.wpList_append_run _ rfl _ _ _ _ rfl _ _ rfl rfl _ _ (hrz _) ?_)
 go_ret
 exact ⟨_, rfl, HO.out, ((Calm.refl w).drew).alloc _⟩
open Go.RowKit
set_option maxHeartbeats 8000000 in
theorem concat3_any (H : Nat) (A1 A2 A3 : Option Addr) (c1 c2 c3 : Nat) (l1 l2 l3 : List El) (w : World) (h : l1.length + l2.length + l3.length ≤ 1000) (hL1 : Lies w A1 l1) (hL2 : Lies w A2 l2) (hL3 : Lies w A3 l3) (t : Nat)
    (hx : w.heap[H]? = some (.cells #[.slice A1 l1.length c1, .slice A2 l2.length c2, .slice A3 l3.length c3] t (0, 0))) :
    Calls Try.prog 83 #[.slice (some ⟨H, 0, none⟩) 3 3] w fun e w' => ∃ v, e = .returned v ∧ OwnR w.heap.size w' v (l1 ++ l2 ++ l3) ∧ Calm w w' := by
  have x0 := cell_of_row _ _ 0 _ _ _ hx
  have x1 := cell_of_row _ _ 1 _ _ _ hx
  have x2 := cell_of_row _ _ 2 _ _ _ hx
  have hxs := (Array.getElem?_eq_some_iff.1 hx).1
  have HX0 := Lib.hid hx
  simp only [List.getElem?_toArray, List.getElem?_cons_zero, List.getElem?_cons_succ] at x0 x1 x2
  have cG := fun u => grow_any (l1.length + l2.length + l3.length) u (by omega)
  rw [show ((l1.length + l2.length + l3.length : Nat) : Int) = (l1.length : Int) + (l2.length : Int) + (l3.length : Int) from by omega] at cG
  have n1 : (l1.length : Int) ≤ 1000 := by omega
  have n2 : (l2.length : Int) ≤ 1000 := by omega
  have n3 : (l3.length : Int) ≤ 1000 := by omega
  have hc : (([] ++ l1 ++ l2).length + l3.length) * 56 ≤ 140737488355328 := by simp only [List.nil_append, List.length_append]; omega
  have hb : (([] ++ l1).length + l2.length) * 56 ≤ 140737488355328 := by simp only [List.nil_append]; omega
  have hb0 : (([] : List El).length + l1.length) * 56 ≤ 140737488355328 := by simp only [List.length_nil]; omega
  clear h
  go_enter Try.func83, Try.ntmps83
  go_wp2_with fail
  refine wp_loop_rounds 4 ?_
  rw [rounds_succ]
  go_wp2_with fail
  rw [rounds_succ]
  go_wp2_with fail
  rw [rounds_succ]
  go_wp2_with fail
  rw [rounds_succ]
  go_wp2_with (go_at_call 106; refine (cG _).mono ?_; rintro e w1 ⟨v, rfl, hov, hb1⟩; have hu := (Calm.refl w).call hb1; have HO := Lib.hid hov; replace hx := (hb1.block hxs).trans hx; clear hov hb1)
  have x0 := cell_of_row _ _ 0 _ _ _ hx
  have x1 := cell_of_row _ _ 1 _ _ _ hx
  simp only [List.getElem?_toArray, List.getElem?_cons_zero, List.getElem?_cons_succ] at x0 x1
  have HL1 := Lib.hid (hL1.calm hu)
  clear hL1
  have HL2 := Lib.hid hL2
  clear hL2
  have HL3 := Lib.hid hL3
  clear hL3
  refine wp_loop_rounds 4 ?_
  rw [rounds_succ]
  go_wp2_with (at_builtin; go_must (refine wpList_append_lies rfl _ _ rfl w.heap.size _ [] rfl HO.out _ _ l1 rfl HL1.out hb0 hu.size ?_); intro v2 w2 ho2 hc2; have hu2 := hc2 _ (Nat.le_refl _) hu; have HO2 := Lib.hid ho2; clear ho2 hc2; have y1 := cell_of_row _ _ 1 _ _ _ ((hu2.block hxs).trans HX0.out); simp only [List.getElem?_toArray, List.getElem?_cons_zero, List.getElem?_cons_succ] at y1)
  rw [rounds_succ]
  go_wp2_with (at_builtin; go_must (refine wpList_append_lies rfl _ _ rfl w.heap.size _ _ rfl HO2.out _ _ l2 rfl (HL2.out.calm hu2) hb hu2.size ?_); intro v3 w3 ho3 hc3; have hu3 := hc3 _ (Nat.le_refl _) hu2; have HO3 := Lib.hid ho3; clear ho3 hc3; have y2 := cell_of_row _ _ 2 _ _ _ ((hu3.block hxs).trans HX0.out); simp only [List.getElem?_toArray, List.getElem?_cons_zero, List.getElem?_cons_succ] at y2)
  rw [rounds_succ]
  go_wp2_with (at_builtin; go_must (refine wpList_append_lies rfl _ _ rfl w.heap.size _ _ rfl HO3.out _ _ l3 rfl (HL3.out.calm hu3) hc hu3.size ?_); intro v4 w4 ho4 hc4; have hu4 := hc4 _ (Nat.le_refl _) hu3; have HO4 := Lib.hid ho4; clear ho4 hc4)
  rw [rounds_succ]
  go_wp2_with fail
  go_ret
  exact ⟨_, rfl, HO4.out, hu4⟩
open Go.ChangeShapes Go.WideShapes Go.ChangeAt Go.RowKit
theorem liesTake3 {w : World} {A : Option Addr} {l : List El} (h : Lies w A l) (k : Nat) : Lies w A (l.take k) := ⟨fun e he => h.1 e (List.mem_of_mem_take he), fun hl => by
 obtain ⟨b, q, h1, h2, h3⟩ := h.2 (by rw [List.length_take] at hl; omega)
 refine ⟨b, q, h1, h2, fun j x hx => h3 j x ?_⟩
 rw [List.getElem?_take] at hx
 split at hx
 ·exact hx
 ·cases hx⟩
def wrtErr (l L : List El) (p : Nat) (E : Int) : Int := if E = 0 then (if 400 < (l.take (posP l p)).length + L.length + (l.drop (posP l ((p : Int) + 1))).length then 8 else 0) else E
set_option maxHeartbeats 4000000 in
theorem writePut_good (A : Option Addr) (c : Nat) (l : List El) (R F : List Int) (k : Nat) (g1 g2 g3 : Nat) (E : Int) (L : List El) (w : World) (hn : l.length ≤ 9223372036854775807) (hlc : l.length ≤ c) (hL : Lies w A l) (hR : R.length = 16) (hF : F.length = 16) (hE : roleErr l R F k 1 = 0)
    (cF : ∀ A9 c9 u, Calm w u → Lies u A9 (mineL l k) → Calls Try.prog 43 #[.slice A9 (mineL l k).length c9, .pointer (some ⟨g1, 0, none⟩), .pointer (some ⟨g2, 0, none⟩), .pointer (some ⟨g3, 0, none⟩)] u fun e w' => ∃ v, e = .returned (.tuple #[v, .int .i64 E]) ∧ OwnR u.heap.size w' v L ∧ Calm u w') (hL4 : L.length ≤ 400) (hLw : ∀ e ∈ L, e.wf) :
    Calls Try.prog 42 #[.agg (bkC A l.length c R F).toArray, .int .i64 k, .func (.func 43) #[] #[.pointer (some ⟨g1, 0, none⟩), .pointer (some ⟨g2, 0, none⟩), .pointer (some ⟨g3, 0, none⟩)]] w (BkEnd (wrtErr l L k E) (if wrtErr l L k E = 0 then l.take (posP l k) ++ L ++ l.drop (posP l ((k : Int) + 1)) else []) (if wrtErr l L k E = 0 then R else z16) (if wrtErr l L k E = 0 then F else z16) w) := by
  have cC := fun u (hu : Calm w u) => checkRole_any A c l R F k 1 u hn (hL.calm hu) hR hF
  have hx := heap_past (.cells #[.slice none 0 0, .int .i64 0, .int .i64 0, .int .i64 0, .int .i64 0, .int .i64 0, .int .i64 0, .int .i64 0, .int .i64 0, .int .i64 0, .int .i64 0, .int .i64 0, .int .i64 0, .int .i64 0, .int .i64 0, .int .i64 0, .int .i64 0, .int .i64 0, .int .i64 0, .int .i64 0, .int .i64 0, .int .i64 0, .int .i64 0, .int .i64 0, .int .i64 0, .int .i64 0, .int .i64 0, .int .i64 0, .int .i64 0, .int .i64 0, .int .i64 0, .int .i64 0, .int .i64 0] 25) (heap_new w (.cells (bkC A l.length c R F).toArray 25))
  have hz : ((w.alloc (.cells (bkC A l.length c R F).toArray 25)).alloc (.cells #[.slice none 0 0, .int .i64 0, .int .i64 0, .int .i64 0, .int .i64 0, .int .i64 0, .int .i64 0, .int .i64 0, .int .i64 0, .int .i64 0, .int .i64 0, .int .i64 0, .int .i64 0, .int .i64 0, .int .i64 0, .int .i64 0, .int .i64 0, .int .i64 0, .int .i64 0, .int .i64 0, .int .i64 0, .int .i64 0, .int .i64 0, .int .i64 0, .int .i64 0, .int .i64 0, .int .i64 0, .int .i64 0, .int .i64 0, .int .i64 0, .int .i64 0, .int .i64 0, .int .i64 0] 25)).heap[w.heap.size + 1]? = some (.cells #[.slice none 0 0, .int .i64 0, .int .i64 0, .int .i64 0, .int .i64 0, .int .i64 0, .int .i64 0, .int .i64 0, .int .i64 0, .int .i64 0, .int .i64 0, .int .i64 0, .int .i64 0, .int .i64 0, .int .i64 0, .int .i64 0, .int .i64 0, .int .i64 0, .int .i64 0, .int .i64 0, .int .i64 0, .int .i64 0, .int .i64 0, .int .i64 0, .int .i64 0, .int .i64 0, .int .i64 0, .int .i64 0, .int .i64 0, .int .i64 0, .int .i64 0, .int .i64 0, .int .i64 0] 25 (0, 0)) := two_new w _ _
  have hu := ((Calm.refl w).alloc (.cells (bkC A l.length c R F).toArray 25)).alloc (.cells #[.slice none 0 0, .int .i64 0, .int .i64 0, .int .i64 0, .int .i64 0, .int .i64 0, .int .i64 0, .int .i64 0, .int .i64 0, .int .i64 0, .int .i64 0, .int .i64 0, .int .i64 0, .int .i64 0, .int .i64 0, .int .i64 0, .int .i64 0, .int .i64 0, .int .i64 0, .int .i64 0, .int .i64 0, .int .i64 0, .int .i64 0, .int .i64 0, .int .i64 0, .int .i64 0, .int .i64 0, .int .i64 0, .int .i64 0, .int .i64 0, .int .i64 0, .int .i64 0, .int .i64 0] 25)
  have hsz : ((w.alloc (.cells (bkC A l.length c R F).toArray 25)).alloc (.cells #[.slice none 0 0, .int .i64 0, .int .i64 0, .int .i64 0, .int .i64 0, .int .i64 0, .int .i64 0, .int .i64 0, .int .i64 0, .int .i64 0, .int .i64 0, .int .i64 0, .int .i64 0, .int .i64 0, .int .i64 0, .int .i64 0, .int .i64 0, .int .i64 0, .int .i64 0, .int .i64 0, .int .i64 0, .int .i64 0, .int .i64 0, .int .i64 0, .int .i64 0, .int .i64 0, .int .i64 0, .int .i64 0, .int .i64 0, .int .i64 0, .int .i64 0, .int .i64 0, .int .i64 0] 25)).heap.size = w.heap.size + 2 := by simp
  have hJ : Hid ((Try.prog.info? 25).map (·.size) = some (bkC A l.length c R F).length) := show _ = _ by rw [bkC_len hR hF]; exact infoBook
  have hJ3 : Hid ((Try.prog.info? 25).map (·.size) = some 33) := show _ = _ from infoBook
  obtain ⟨hB, hp, hr⟩ := roleErr_zero hE
  obtain ⟨hG, hOk⟩ := bkErr_zero hB
  have hl4 : l.length ≤ 400 := hG.1
  rw [hE] at cC
  clear hE hr
  have hk16 : k < 16 := by omega
  have hS := riseP hG.2.2
  have hmono := posP_mono l k
  have hle := posP_le l ((k : Int) + 1)
  have hmine := mine_part hS k
  obtain ⟨a, ha⟩ : ∃ a, posP l k = a := ⟨_, rfl⟩
  obtain ⟨b, hb⟩ : ∃ b, posP l ((k : Int) + 1) = b := ⟨_, rfl⟩
  have cF1 := fun u (hu : Calm w u) => first_any A c l k u hl4 (hL.calm hu) hS
  have cF2 := fun u (hu : Calm w u) => first_any A c l ((k : Int) + 1) u hl4 (hL.calm hu) hS
  rw [ha] at cF1 hmono hmine
  rw [hb] at cF2 hmono hmine hle
  have hMg : Good (mineL l k) := goodSub hG List.filter_sublist
  have hML : (mineL l k).length = b - a := by rw [← hmine, List.length_take, List.length_drop]; omega
  have hw1 : IntKind.i64.wrap ((k : Int) + 1) = (k : Int) + 1 := IntWalk.i64_in _ (by omega)
  have z0 : (0 : Int) ≤ (a : Int) := by omega
  have z1 : (a : Int) ≤ (b : Int) := by omega
  have z2 : (b : Int) ≤ (l.length : Int) := by omega
  have z3 : (b : Int) ≤ (c : Int) := by omega
  have z4 : (l.length : Int) ≤ (c : Int) := by omega
  obtain ⟨A9, hA9⟩ : ∃ A9, (if c = a then A else Option.map (fun x => x.add (a * 6)) A) = A9 := ⟨_, rfl⟩
  have hL9 : ∀ u, Lies u A l → Lies u A9 (mineL l k) := fun u hl => by
    rcases Nat.eq_zero_or_pos (b - a) with h0 | h0
    · have : mineL l k = [] := List.eq_nil_of_length_eq_zero (by omega)
      rw [this]; exact ⟨by simp, fun h => absurd h (by simp)⟩
    · obtain ⟨g, q, rfl, _⟩ := hl.2 (by omega)
      rw [if_neg (by omega)] at hA9
      have : (⟨g, q, none⟩ : Addr).add (a * 6) = ⟨g, q + a * 6, none⟩ := by unfold Addr.add; split <;> simp_all
      rw [← hA9, Option.map_some, this, ← hmine]
      exact lies_sub hl a (b - a) (by omega)
  have RA : ∀ u : World, u.heap[w.heap.size]? = some (.cells (bkC A l.length c R F).toArray 25 (0, 0)) → u.cell? ⟨w.heap.size, 0, none⟩ = some (.slice A l.length c) := fun u h => (cell_of_row _ _ 0 _ _ _ h).trans rfl
  have RAH := Lib.hid RA
  have cD := fun u (hu : Calm w u) => cF A9 (c - a) u hu (hL9 u (hL.calm hu))
  rw [hML] at cD
  have HMO := Lib.hid hmono
  obtain ⟨A7, hA7⟩ : ∃ A7, (if c = b then A else Option.map (fun x => x.add (b * 6)) A) = A7 := ⟨_, rfl⟩
  have z5 : a ≤ c := by omega
  have hL7 : ∀ u, Lies u A l → Lies u A7 (l.drop b) := fun u hl => by
    rcases Nat.eq_zero_or_pos (l.length - b) with h0 | h0
    · have : l.drop b = [] := List.drop_eq_nil_of_le (by omega)
      rw [this]; exact ⟨by simp, fun h => absurd h (by simp)⟩
    · obtain ⟨g, q, rfl, _⟩ := hl.2 (by omega)
      rw [if_neg (by omega)] at hA7
      have : (⟨g, q, none⟩ : Addr).add (b * 6) = ⟨g, q + b * 6, none⟩ := by unfold Addr.add; split <;> simp_all
      rw [← hA7, Option.map_some, this]
      have := lies_sub hl b (l.length - b) (by omega)
      rwa [List.take_of_length_le (by rw [List.length_drop]; exact Nat.le_refl _)] at this
  have hta : (l.take a).length = a := by rw [List.length_take]; omega
  have htb : (l.drop b).length = l.length - b := List.length_drop
  obtain ⟨M, hM⟩ : ∃ M, M = l.take a ++ L ++ l.drop b := ⟨_, rfl⟩
  have hMl : M.length = a + L.length + (l.length - b) := by rw [hM, List.length_append, List.length_append, hta, htb]
  have cK : ∀ A5 c5 u H, Calm w u → Lies u A5 L → u.heap[H]? = some (.cells #[.slice A a c, .slice A5 L.length c5, .slice A7 (l.length - b) (c - b)] 22 (0, 0)) → Calls Try.prog 83 #[.slice (some ⟨H, 0, none⟩) 3 3] u fun e w' => ∃ v, e = .returned v ∧ OwnR u.heap.size w' v M ∧ Calm u w' := fun A5 c5 u H h1 h2 h3 => by
    have := concat3_any H A A5 A7 c c5 (c - b) (l.take a) L (l.drop b) u (by rw [hta, htb]; omega) (liesTake3 (hL.calm h1) a) h2 (hL7 u (hL.calm h1)) 22 (by rw [hta, htb]; exact h3)
    rw [hM]
    exact this
  have CK := Lib.hid cK
  have hMw : ∀ e ∈ M, e.wf := fun e he => by
    rw [hM] at he
    rcases List.mem_append.1 he with h | h
    · rcases List.mem_append.1 h with h | h
      · exact hG.wf e (List.mem_of_mem_take h)
      · exact hLw e h
    · exact hG.wf e (List.mem_of_mem_drop h)
  have HMW := Lib.hid hMw
  have HML := Lib.hid hMl
  rw [ha, hb, ← hM]
  have HW0 : Hid (wrtErr l L k 0 = if 400 < M.length then 8 else 0) := show _ = _ by
    unfold wrtErr
    rw [if_pos rfl, ha, hb, hta, htb, hMl]
  obtain ⟨Post, hPost⟩ : ∃ P, P = BkEnd (wrtErr l L k E) (if wrtErr l L k E = 0 then M else []) (if wrtErr l L k E = 0 then R else z16) (if wrtErr l L k E = 0 then F else z16) w := ⟨_, rfl⟩
  rw [← hPost]
  have HP1 : Hid (E ≠ 0 → ∀ e w', BkEnd E [] z16 z16 w e w' → Post e w') := show E ≠ 0 → _ from fun h e w' hh => by
    have hW : wrtErr l L k E = E := if_neg h
    rw [hPost, hW, if_neg h, if_neg h, if_neg h]; exact hh
  have HP2 : Hid (E = 0 → 400 < M.length → ∀ e w', BkEnd 8 [] z16 z16 w e w' → Post e w') := show E = 0 → _ from fun h h2 e w' hh => by
    subst h
    rw [hPost, HW0.out, if_pos h2, if_neg (show ¬ (8 : Int) = 0 by decide), if_neg (show ¬ (8 : Int) = 0 by decide), if_neg (show ¬ (8 : Int) = 0 by decide)]; exact hh
  have HP3 : Hid (E = 0 → ¬ 400 < M.length → ∀ e w', BkEnd 0 M R F w e w' → Post e w') := show E = 0 → _ from fun h h2 e w' hh => by
    subst h
    rw [hPost, HW0.out, if_neg h2, if_pos rfl, if_pos rfl, if_pos rfl]; exact hh
  clear hPost HW0
  have HB0 : Hid (∀ Av cv, (bkC A l.length c R F).toArray.setIfInBounds 0 (.slice Av M.length cv) = (bkC Av M.length cv R F).toArray) := show ∀ _, _ from fun Av cv => by
    apply Array.toList_inj.1
    rw [Array.toList_setIfInBounds]
    rfl
  clear hMw hMl hM cK hL7 hta htb
  clear RA hp hB hOk hG hS hmono hle hmine hL9 hML hMg cF ha hb
  generalize (bkC A l.length c R F) = CL at *
  go_enter Try.func42, Try.ntmps42
  go_upto_region 1 with fail
  generalize ((w.alloc (.cells CL.toArray 25)).alloc (.cells #[.slice none 0 0, .int .i64 0, .int .i64 0, .int .i64 0, .int .i64 0, .int .i64 0, .int .i64 0, .int .i64 0, .int .i64 0, .int .i64 0, .int .i64 0, .int .i64 0, .int .i64 0, .int .i64 0, .int .i64 0, .int .i64 0, .int .i64 0, .int .i64 0, .int .i64 0, .int .i64 0, .int .i64 0, .int .i64 0, .int .i64 0, .int .i64 0, .int .i64 0, .int .i64 0, .int .i64 0, .int .i64 0, .int .i64 0, .int .i64 0, .int .i64 0, .int .i64 0, .int .i64 0] 25)) = w2 at hx hz hu hsz ⊢
  obtain ⟨ZC, hZC⟩ : ∃ z : Array Value, z = #[.slice none 0 0, .int .i64 0, .int .i64 0, .int .i64 0, .int .i64 0, .int .i64 0, .int .i64 0, .int .i64 0, .int .i64 0, .int .i64 0, .int .i64 0, .int .i64 0, .int .i64 0, .int .i64 0, .int .i64 0, .int .i64 0, .int .i64 0, .int .i64 0, .int .i64 0, .int .i64 0, .int .i64 0, .int .i64 0, .int .i64 0, .int .i64 0, .int .i64 0, .int .i64 0, .int .i64 0, .int .i64 0, .int .i64 0, .int .i64 0, .int .i64 0, .int .i64 0, .int .i64 0] := ⟨_, rfl⟩
  rw [← hZC] at hz
  have hIZ : IsZk ZC := hZC
  clear hZC
  have HX := Lib.hid hx
  have HZ := Lib.hid hz
  have hxl : w.heap.size < w2.heap.size := by omega
  have hzl : w.heap.size + 1 < w2.heap.size := by omega
  clear hx hz
  go_upto_region 4 with (first
    | (refine wpList_load_mid rfl 25 (.tmp 3) rfl w.heap.size 0 rfl CL _ (range_all HX.out) Try.underlying25 rfl hJ.out ?_)
    | (go_at_call 74; refine (cC _ hu).mono ?_; rintro e w3 ⟨rfl, hb1⟩; replace HX := Lib.hid ((hb1.block hxl).trans HX.out); replace HZ := Lib.hid ((hb1.block hzl).trans HZ.out); replace hxl := Nat.lt_of_lt_of_le hxl hb1.size; replace hzl := Nat.lt_of_lt_of_le hzl hb1.size; replace hu := hu.call hb1; clear hb1))
  have c0 := RAH.out _ HX.out
  have HW := Lib.hid hu
  clear hu
  refine wp_region_plan [.val (.pointer (some ⟨w.heap.size, 0, none⟩)), .val (.slice A l.length c), .val (.int .i64 (k)), .val (.int .i64 ((a : Int))), .val (.pointer (some ⟨w.heap.size, 0, none⟩)), .val (.slice A l.length c), .val (.int .i64 (k)), .val (.int .i64 (((k : Int) + 1))), .val (.int .i64 ((b : Int))), .val (.int .i64 ((a : Int))), .val (.int .i64 ((b : Int)))] (by kernel_rfl) (by kernel_rfl) (by kernel_rfl) ?_
  intro X
  iterate 11
    refine plan_val (by kernel_rfl) (fun u hu => ?_) ?_
    · obtain ⟨hc, hf, hz⟩ := hu.of_drew.facts
      go_simp
      all_goals first
        | ((go_at_call 76; (with_reducible exact cF1 _ (HW.out.call hu.of_drew))))
        | ((go_at_call 76; (with_reducible exact cF2 _ (HW.out.call hu.of_drew))))
    simp only [Act.put, List.setIfInBounds_toArray, List.set_cons_zero, List.set_cons_succ, Nat.reduceAdd]
  refine plan_end ?_
  intro w' hB
  have hk := hB.calm.of_drew
  clear hB
  have hu := HW.out.call hk
  replace HX := Lib.hid ((hk.block hxl).trans HX.out)
  replace HZ := Lib.hid ((hk.block hzl).trans HZ.out)
  replace hxl := Nat.lt_of_lt_of_le hxl hk.size
  replace hzl := Nat.lt_of_lt_of_le hzl hk.size
  clear HW c0 cF1 cF2 cC hk
  have c0 := RAH.out _ HX.out
  go_upto_region 6 with (first
    | (go_at_call 43; (with_reducible refine (cD _ hu).mono ?_); rintro e w5 ⟨v, rfl, ho5, hb5⟩; obtain ⟨A5, c5, rfl, hlc5, hcc5, hl5⟩ := ho5.lies hLw; have HL5 := Lib.hid hl5; replace HX := Lib.hid ((hb5.block hxl).trans HX.out); replace HZ := Lib.hid ((hb5.block hzl).trans HZ.out); replace hxl := Nat.lt_of_lt_of_le hxl hb5.size; replace hzl := Nat.lt_of_lt_of_le hzl hb5.size; replace hu := hu.call hb5; clear hb5 hl5 ho5 cD hcc5))
  by_cases hE0 : E = 0
  rotate_left
  · have b1 := ne_rl hE0
    go_upto_region 7 with fail
    go_wp2_with (refine wpList_store_rowB rfl 25 (.tmp 6) (.tmp 42) rfl (w.heap.size + 1) _ ZC ZC rfl (by rw [show ZC = _ from hIZ]; rfl) HZ.out (by rw [hIZ.size]; exact hJ3.out) rfl hIZ.one ?_)
    (try simp only [Exit.inBlock, Exit.then])
    refine end_bkE (p := 6) (q := 7) rfl rfl _ _ (w.heap.size + 1) _ ZC _ _ rfl rfl rfl (setRow_heap _ _ _ _ _ _ HZ.out) hIZ.size ?_
    exact HP1.out hE0 _ _ (BkEnd.none (by rw [show ZC = _ from hIZ]; rfl) (hu.setRow (by omega) _))
  replace HP2 := Lib.hid (HP2.out hE0)
  replace HP3 := Lib.hid (HP3.out hE0)
  clear HP1
  subst hE0
  go_upto_region 8 with fail
  have c1 := RAH.out _ HX.out
  have HW := Lib.hid hu
  clear hu
  refine wp_region_plan_tail 9 [.val (.pointer (some ⟨w.heap.size, 0, none⟩)), .val (.slice A l.length c), .val (.int .i64 ((a : Int))), .val (.slice A a c), .val (.slice A5 L.length c5), .val (.pointer (some ⟨w.heap.size, 0, none⟩)), .val (.slice A l.length c), .val (.int .i64 ((b : Int))), .val (.slice A7 (l.length - b) (c - b))] (by kernel_rfl) (by kernel_rfl) (by kernel_rfl) (by kernel_rfl) ?_
  intro X
  simp only [List.take_succ_cons, List.take_zero, List.drop_succ_cons, List.drop_zero]
  iterate 9
    refine plan_val (by kernel_rfl) (fun u hu => ?_) ?_
    · obtain ⟨hc, hf, hz⟩ := hu.of_drew.facts
      go_simp
      all_goals first
        | ((simp only [hA7]; done))
        | ((exact ⟨hA7, rfl, rfl⟩))
    simp only [Act.put, List.setIfInBounds_toArray, List.set_cons_zero, List.set_cons_succ, Nat.reduceAdd]
  refine plan_end ?_
  intro w' hB
  have hk := hB.calm.of_drew
  clear hB
  have hu := HW.out.call hk
  replace HX := Lib.hid ((hk.block hxl).trans HX.out)
  replace HZ := Lib.hid ((hk.block hzl).trans HZ.out)
  replace HL5 := Lib.hid (HL5.out.calm hk)
  replace hxl := Nat.lt_of_lt_of_le hxl hk.size
  replace hzl := Nat.lt_of_lt_of_le hzl hk.size
  clear HW c0 c1 hk
  go_upto_region 9 with (go_at_call 83; (with_reducible refine (CK.out A5 c5 _ _ (hu.alloc _) (HL5.out.calm ((Calm.refl _).alloc _)) (heap_new _ _)).mono ?_); rintro e w6 ⟨v, rfl, ho6, hb6⟩; obtain ⟨A6, c6, rfl, hlc6, hcc6, hl6⟩ := ho6.lies HMW.out; have hbb := ((Calm.refl w').alloc _).call hb6; have HO6 := Lib.hid (ho6.down (show w.heap.size + 2 ≤ _ from by rw [World.size_alloc]; omega)); replace HX := Lib.hid ((hbb.block hxl).trans HX.out); replace HZ := Lib.hid ((hbb.block hzl).trans HZ.out); replace hxl := Nat.lt_of_lt_of_le hxl hbb.size; replace hzl := Nat.lt_of_lt_of_le hzl hbb.size; replace hu := hu.call hbb; clear ho6 hb6 hl6 hbb hcc6 HL5)
  clear CK HMW HMO
  by_cases h4 : 400 < M.length
  · have h4i : (400 : Int) < (M.length : Int) := by omega
    clear HML HO6 HB0
    go_upto_region 10 with fail
    go_wp2_with (refine wpList_store_rowB rfl 25 (.tmp 6) (.tmp 58) rfl (w.heap.size + 1) _ ZC ZC rfl (by rw [show ZC = _ from hIZ]; rfl) HZ.out (by rw [hIZ.size]; exact hJ3.out) rfl hIZ.one ?_)
    (try simp only [Exit.inBlock, Exit.then])
    refine end_bkE (p := 6) (q := 7) rfl rfl _ _ (w.heap.size + 1) _ ZC _ _ rfl rfl rfl (setRow_heap _ _ _ _ _ _ HZ.out) hIZ.size ?_
    exact HP2.out h4 _ _ (BkEnd.none (by rw [show ZC = _ from hIZ]; rfl) (hu.setRow (by omega) _))
  have h4i : (M.length : Int) ≤ 400 := by omega
  have c0 := RAH.out _ HX.out
  have f0 := frozen_of_row _ _ 0 _ _ HX.out
  clear HML RAH
  go_upto_region 12 with fail
  have hx6 := heap_setCell_same w6 w.heap.size 0 _ _ (Value.slice A6 M.length c6) HX.out
  rw [HB0.out] at hx6
  have hot : ∀ j, j ≠ w.heap.size → (w6.setCell ⟨w.heap.size, 0, none⟩ (Value.slice A6 M.length c6)).heap[j]? = w6.heap[j]? := fun j hj => Below.heap_setCell _ _ _ _ hj
  have hz6 := (hot (w.heap.size + 1) (by omega)).trans HZ.out
  have ho6 := OwnR.keep HO6.out fun j hj => hot j (by omega)
  have hu6 := hu.setCell (p := ⟨w.heap.size, 0, none⟩) (Nat.le_refl _) (Value.slice A6 M.length c6)
  generalize (w6.setCell ⟨w.heap.size, 0, none⟩ (Value.slice A6 M.length c6)) = w7 at hx6 hz6 ho6 hu6 ⊢
  have HX6 := Lib.hid hx6
  have HZ6 := Lib.hid hz6
  have HO7 := Lib.hid ho6
  clear hot HX HZ HO6 HB0 hx6 hz6 ho6 hu c0 f0
  have hs6 : ∀ n, (bkC A6 n c6 R F).toArray.size = 33 := fun n => by
    rw [List.size_toArray, bkC_len hR hF]
  have HS6 := Lib.hid hs6
  have hj6 : Hid ((Try.prog.info? 25).map (·.size) = some (bkC A6 M.length c6 R F).length) := show _ = _ by rw [bkC_len hR hF]; exact infoBook
  clear hs6
  go_wp2_with (first
    | (refine wpList_load_mid rfl 25 (.tmp 3) rfl w.heap.size 0 rfl (bkC A6 M.length c6 R F) _ (range_all HX6.out) Try.underlying25 rfl hj6.out ?_)
    | (refine wpList_store_rowB rfl 25 (.tmp 6) (.tmp 61) rfl (w.heap.size + 1) _ ZC _ rfl rfl HZ6.out (by rw [HS6.out]; exact hJ3.out) (hIZ.size.trans (HS6.out _).symm) bk_one ?_))
  refine end_bkE (p := 6) (q := 7) rfl rfl _ _ (w.heap.size + 1) _ _ _ _ rfl rfl rfl (setRow_heap _ _ _ _ _ _ HZ6.out) (HS6.out _) ?_
  exact HP3.out h4 _ _ ⟨A6, c6, rfl, (OwnR.keep HO7.out fun j hj => setRow_other _ _ j _ (by omega)).down (by omega), hu6.setRow (by omega) _⟩
set_option maxHeartbeats 4000000 in
theorem writeCut_good (A : Option Addr) (c : Nat) (l : List El) (R F : List Int) (k : Nat) (g1 g2 : Nat) (E : Int) (L : List El) (w : World) (hn : l.length ≤ 9223372036854775807) (hlc : l.length ≤ c) (hL : Lies w A l) (hR : R.length = 16) (hF : F.length = 16) (hE : roleErr l R F k 1 = 0)
    (cF : ∀ A9 c9 u, Calm w u → Lies u A9 (mineL l k) → Calls Try.prog 45 #[.slice A9 (mineL l k).length c9, .pointer (some ⟨g1, 0, none⟩), .pointer (some ⟨g2, 0, none⟩)] u fun e w' => ∃ v, e = .returned (.tuple #[v, .int .i64 E]) ∧ OwnR u.heap.size w' v L ∧ Calm u w') (hL4 : L.length ≤ 400) (hLw : ∀ e ∈ L, e.wf) :
    Calls Try.prog 42 #[.agg (bkC A l.length c R F).toArray, .int .i64 k, .func (.func 45) #[] #[.pointer (some ⟨g1, 0, none⟩), .pointer (some ⟨g2, 0, none⟩)]] w (BkEnd (wrtErr l L k E) (if wrtErr l L k E = 0 then l.take (posP l k) ++ L ++ l.drop (posP l ((k : Int) + 1)) else []) (if wrtErr l L k E = 0 then R else z16) (if wrtErr l L k E = 0 then F else z16) w) := by
  have cC := fun u (hu : Calm w u) => checkRole_any A c l R F k 1 u hn (hL.calm hu) hR hF
  have hx := heap_past (.cells #[.slice none 0 0, .int .i64 0, .int .i64 0, .int .i64 0, .int .i64 0, .int .i64 0, .int .i64 0, .int .i64 0, .int .i64 0, .int .i64 0, .int .i64 0, .int .i64 0, .int .i64 0, .int .i64 0, .int .i64 0, .int .i64 0, .int .i64 0, .int .i64 0, .int .i64 0, .int .i64 0, .int .i64 0, .int .i64 0, .int .i64 0, .int .i64 0, .int .i64 0, .int .i64 0, .int .i64 0, .int .i64 0, .int .i64 0, .int .i64 0, .int .i64 0, .int .i64 0, .int .i64 0] 25) (heap_new w (.cells (bkC A l.length c R F).toArray 25))
  have hz : ((w.alloc (.cells (bkC A l.length c R F).toArray 25)).alloc (.cells #[.slice none 0 0, .int .i64 0, .int .i64 0, .int .i64 0, .int .i64 0, .int .i64 0, .int .i64 0, .int .i64 0, .int .i64 0, .int .i64 0, .int .i64 0, .int .i64 0, .int .i64 0, .int .i64 0, .int .i64 0, .int .i64 0, .int .i64 0, .int .i64 0, .int .i64 0, .int .i64 0, .int .i64 0, .int .i64 0, .int .i64 0, .int .i64 0, .int .i64 0, .int .i64 0, .int .i64 0, .int .i64 0, .int .i64 0, .int .i64 0, .int .i64 0, .int .i64 0, .int .i64 0] 25)).heap[w.heap.size + 1]? = some (.cells #[.slice none 0 0, .int .i64 0, .int .i64 0, .int .i64 0, .int .i64 0, .int .i64 0, .int .i64 0, .int .i64 0, .int .i64 0, .int .i64 0, .int .i64 0, .int .i64 0, .int .i64 0, .int .i64 0, .int .i64 0, .int .i64 0, .int .i64 0, .int .i64 0, .int .i64 0, .int .i64 0, .int .i64 0, .int .i64 0, .int .i64 0, .int .i64 0, .int .i64 0, .int .i64 0, .int .i64 0, .int .i64 0, .int .i64 0, .int .i64 0, .int .i64 0, .int .i64 0, .int .i64 0] 25 (0, 0)) := two_new w _ _
  have hu := ((Calm.refl w).alloc (.cells (bkC A l.length c R F).toArray 25)).alloc (.cells #[.slice none 0 0, .int .i64 0, .int .i64 0, .int .i64 0, .int .i64 0, .int .i64 0, .int .i64 0, .int .i64 0, .int .i64 0, .int .i64 0, .int .i64 0, .int .i64 0, .int .i64 0, .int .i64 0, .int .i64 0, .int .i64 0, .int .i64 0, .int .i64 0, .int .i64 0, .int .i64 0, .int .i64 0, .int .i64 0, .int .i64 0, .int .i64 0, .int .i64 0, .int .i64 0, .int .i64 0, .int .i64 0, .int .i64 0, .int .i64 0, .int .i64 0, .int .i64 0, .int .i64 0] 25)
  have hsz : ((w.alloc (.cells (bkC A l.length c R F).toArray 25)).alloc (.cells #[.slice none 0 0, .int .i64 0, .int .i64 0, .int .i64 0, .int .i64 0, .int .i64 0, .int .i64 0, .int .i64 0, .int .i64 0, .int .i64 0, .int .i64 0, .int .i64 0, .int .i64 0, .int .i64 0, .int .i64 0, .int .i64 0, .int .i64 0, .int .i64 0, .int .i64 0, .int .i64 0, .int .i64 0, .int .i64 0, .int .i64 0, .int .i64 0, .int .i64 0, .int .i64 0, .int .i64 0, .int .i64 0, .int .i64 0, .int .i64 0, .int .i64 0, .int .i64 0, .int .i64 0] 25)).heap.size = w.heap.size + 2 := by simp
  have hJ : Hid ((Try.prog.info? 25).map (·.size) = some (bkC A l.length c R F).length) := show _ = _ by rw [bkC_len hR hF]; exact infoBook
  have hJ3 : Hid ((Try.prog.info? 25).map (·.size) = some 33) := show _ = _ from infoBook
  obtain ⟨hB, hp, hr⟩ := roleErr_zero hE
  obtain ⟨hG, hOk⟩ := bkErr_zero hB
  have hl4 : l.length ≤ 400 := hG.1
  rw [hE] at cC
  clear hE hr
  have hk16 : k < 16 := by omega
  have hS := riseP hG.2.2
  have hmono := posP_mono l k
  have hle := posP_le l ((k : Int) + 1)
  have hmine := mine_part hS k
  obtain ⟨a, ha⟩ : ∃ a, posP l k = a := ⟨_, rfl⟩
  obtain ⟨b, hb⟩ : ∃ b, posP l ((k : Int) + 1) = b := ⟨_, rfl⟩
  have cF1 := fun u (hu : Calm w u) => first_any A c l k u hl4 (hL.calm hu) hS
  have cF2 := fun u (hu : Calm w u) => first_any A c l ((k : Int) + 1) u hl4 (hL.calm hu) hS
  rw [ha] at cF1 hmono hmine
  rw [hb] at cF2 hmono hmine hle
  have hMg : Good (mineL l k) := goodSub hG List.filter_sublist
  have hML : (mineL l k).length = b - a := by rw [← hmine, List.length_take, List.length_drop]; omega
  have hw1 : IntKind.i64.wrap ((k : Int) + 1) = (k : Int) + 1 := IntWalk.i64_in _ (by omega)
  have z0 : (0 : Int) ≤ (a : Int) := by omega
  have z1 : (a : Int) ≤ (b : Int) := by omega
  have z2 : (b : Int) ≤ (l.length : Int) := by omega
  have z3 : (b : Int) ≤ (c : Int) := by omega
  have z4 : (l.length : Int) ≤ (c : Int) := by omega
  obtain ⟨A9, hA9⟩ : ∃ A9, (if c = a then A else Option.map (fun x => x.add (a * 6)) A) = A9 := ⟨_, rfl⟩
  have hL9 : ∀ u, Lies u A l → Lies u A9 (mineL l k) := fun u hl => by
    rcases Nat.eq_zero_or_pos (b - a) with h0 | h0
    · have : mineL l k = [] := List.eq_nil_of_length_eq_zero (by omega)
      rw [this]; exact ⟨by simp, fun h => absurd h (by simp)⟩
    · obtain ⟨g, q, rfl, _⟩ := hl.2 (by omega)
      rw [if_neg (by omega)] at hA9
      have : (⟨g, q, none⟩ : Addr).add (a * 6) = ⟨g, q + a * 6, none⟩ := by unfold Addr.add; split <;> simp_all
      rw [← hA9, Option.map_some, this, ← hmine]
      exact lies_sub hl a (b - a) (by omega)
  have RA : ∀ u : World, u.heap[w.heap.size]? = some (.cells (bkC A l.length c R F).toArray 25 (0, 0)) → u.cell? ⟨w.heap.size, 0, none⟩ = some (.slice A l.length c) := fun u h => (cell_of_row _ _ 0 _ _ _ h).trans rfl
  have RAH := Lib.hid RA
  have cD := fun u (hu : Calm w u) => cF A9 (c - a) u hu (hL9 u (hL.calm hu))
  rw [hML] at cD
  have HMO := Lib.hid hmono
  obtain ⟨A7, hA7⟩ : ∃ A7, (if c = b then A else Option.map (fun x => x.add (b * 6)) A) = A7 := ⟨_, rfl⟩
  have z5 : a ≤ c := by omega
  have hL7 : ∀ u, Lies u A l → Lies u A7 (l.drop b) := fun u hl => by
    rcases Nat.eq_zero_or_pos (l.length - b) with h0 | h0
    · have : l.drop b = [] := List.drop_eq_nil_of_le (by omega)
      rw [this]; exact ⟨by simp, fun h => absurd h (by simp)⟩
    · obtain ⟨g, q, rfl, _⟩ := hl.2 (by omega)
      rw [if_neg (by omega)] at hA7
      have : (⟨g, q, none⟩ : Addr).add (b * 6) = ⟨g, q + b * 6, none⟩ := by unfold Addr.add; split <;> simp_all
      rw [← hA7, Option.map_some, this]
      have := lies_sub hl b (l.length - b) (by omega)
      rwa [List.take_of_length_le (by rw [List.length_drop]; exact Nat.le_refl _)] at this
  have hta : (l.take a).length = a := by rw [List.length_take]; omega
  have htb : (l.drop b).length = l.length - b := List.length_drop
  obtain ⟨M, hM⟩ : ∃ M, M = l.take a ++ L ++ l.drop b := ⟨_, rfl⟩
  have hMl : M.length = a + L.length + (l.length - b) := by rw [hM, List.length_append, List.length_append, hta, htb]
  have cK : ∀ A5 c5 u H, Calm w u → Lies u A5 L → u.heap[H]? = some (.cells #[.slice A a c, .slice A5 L.length c5, .slice A7 (l.length - b) (c - b)] 22 (0, 0)) → Calls Try.prog 83 #[.slice (some ⟨H, 0, none⟩) 3 3] u fun e w' => ∃ v, e = .returned v ∧ OwnR u.heap.size w' v M ∧ Calm u w' := fun A5 c5 u H h1 h2 h3 => by
    have := concat3_any H A A5 A7 c c5 (c - b) (l.take a) L (l.drop b) u (by rw [hta, htb]; omega) (liesTake3 (hL.calm h1) a) h2 (hL7 u (hL.calm h1)) 22 (by rw [hta, htb]; exact h3)
    rw [hM]
    exact this
  have CK := Lib.hid cK
  have hMw : ∀ e ∈ M, e.wf := fun e he => by
    rw [hM] at he
    rcases List.mem_append.1 he with h | h
    · rcases List.mem_append.1 h with h | h
      · exact hG.wf e (List.mem_of_mem_take h)
      · exact hLw e h
    · exact hG.wf e (List.mem_of_mem_drop h)
  have HMW := Lib.hid hMw
  have HML := Lib.hid hMl
  rw [ha, hb, ← hM]
  have HW0 : Hid (wrtErr l L k 0 = if 400 < M.length then 8 else 0) := show _ = _ by
    unfold wrtErr
    rw [if_pos rfl, ha, hb, hta, htb, hMl]
  obtain ⟨Post, hPost⟩ : ∃ P, P = BkEnd (wrtErr l L k E) (if wrtErr l L k E = 0 then M else []) (if wrtErr l L k E = 0 then R else z16) (if wrtErr l L k E = 0 then F else z16) w := ⟨_, rfl⟩
  rw [← hPost]
  have HP1 : Hid (E ≠ 0 → ∀ e w', BkEnd E [] z16 z16 w e w' → Post e w') := show E ≠ 0 → _ from fun h e w' hh => by
    have hW : wrtErr l L k E = E := if_neg h
    rw [hPost, hW, if_neg h, if_neg h, if_neg h]; exact hh
  have HP2 : Hid (E = 0 → 400 < M.length → ∀ e w', BkEnd 8 [] z16 z16 w e w' → Post e w') := show E = 0 → _ from fun h h2 e w' hh => by
    subst h
    rw [hPost, HW0.out, if_pos h2, if_neg (show ¬ (8 : Int) = 0 by decide), if_neg (show ¬ (8 : Int) = 0 by decide), if_neg (show ¬ (8 : Int) = 0 by decide)]; exact hh
  have HP3 : Hid (E = 0 → ¬ 400 < M.length → ∀ e w', BkEnd 0 M R F w e w' → Post e w') := show E = 0 → _ from fun h h2 e w' hh => by
    subst h
    rw [hPost, HW0.out, if_neg h2, if_pos rfl, if_pos rfl, if_pos rfl]; exact hh
  clear hPost HW0
  have HB0 : Hid (∀ Av cv, (bkC A l.length c R F).toArray.setIfInBounds 0 (.slice Av M.length cv) = (bkC Av M.length cv R F).toArray) := show ∀ _, _ from fun Av cv => by
    apply Array.toList_inj.1
    rw [Array.toList_setIfInBounds]
    rfl
  clear hMw hMl hM cK hL7 hta htb
  clear RA hp hB hOk hG hS hmono hle hmine hL9 hML hMg cF ha hb
  generalize (bkC A l.length c R F) = CL at *
  go_enter Try.func42, Try.ntmps42
  go_upto_region 1 with fail
  generalize ((w.alloc (.cells CL.toArray 25)).alloc (.cells #[.slice none 0 0, .int .i64 0, .int .i64 0, .int .i64 0, .int .i64 0, .int .i64 0, .int .i64 0, .int .i64 0, .int .i64 0, .int .i64 0, .int .i64 0, .int .i64 0, .int .i64 0, .int .i64 0, .int .i64 0, .int .i64 0, .int .i64 0, .int .i64 0, .int .i64 0, .int .i64 0, .int .i64 0, .int .i64 0, .int .i64 0, .int .i64 0, .int .i64 0, .int .i64 0, .int .i64 0, .int .i64 0, .int .i64 0, .int .i64 0, .int .i64 0, .int .i64 0, .int .i64 0] 25)) = w2 at hx hz hu hsz ⊢
  obtain ⟨ZC, hZC⟩ : ∃ z : Array Value, z = #[.slice none 0 0, .int .i64 0, .int .i64 0, .int .i64 0, .int .i64 0, .int .i64 0, .int .i64 0, .int .i64 0, .int .i64 0, .int .i64 0, .int .i64 0, .int .i64 0, .int .i64 0, .int .i64 0, .int .i64 0, .int .i64 0, .int .i64 0, .int .i64 0, .int .i64 0, .int .i64 0, .int .i64 0, .int .i64 0, .int .i64 0, .int .i64 0, .int .i64 0, .int .i64 0, .int .i64 0, .int .i64 0, .int .i64 0, .int .i64 0, .int .i64 0, .int .i64 0, .int .i64 0] := ⟨_, rfl⟩
  rw [← hZC] at hz
  have hIZ : IsZk ZC := hZC
  clear hZC
  have HX := Lib.hid hx
  have HZ := Lib.hid hz
  have hxl : w.heap.size < w2.heap.size := by omega
  have hzl : w.heap.size + 1 < w2.heap.size := by omega
  clear hx hz
  go_upto_region 4 with (first
    | (refine wpList_load_mid rfl 25 (.tmp 3) rfl w.heap.size 0 rfl CL _ (range_all HX.out) Try.underlying25 rfl hJ.out ?_)
    | (go_at_call 74; refine (cC _ hu).mono ?_; rintro e w3 ⟨rfl, hb1⟩; replace HX := Lib.hid ((hb1.block hxl).trans HX.out); replace HZ := Lib.hid ((hb1.block hzl).trans HZ.out); replace hxl := Nat.lt_of_lt_of_le hxl hb1.size; replace hzl := Nat.lt_of_lt_of_le hzl hb1.size; replace hu := hu.call hb1; clear hb1))
  have c0 := RAH.out _ HX.out
  have HW := Lib.hid hu
  clear hu
  refine wp_region_plan [.val (.pointer (some ⟨w.heap.size, 0, none⟩)), .val (.slice A l.length c), .val (.int .i64 (k)), .val (.int .i64 ((a : Int))), .val (.pointer (some ⟨w.heap.size, 0, none⟩)), .val (.slice A l.length c), .val (.int .i64 (k)), .val (.int .i64 (((k : Int) + 1))), .val (.int .i64 ((b : Int))), .val (.int .i64 ((a : Int))), .val (.int .i64 ((b : Int)))] (by kernel_rfl) (by kernel_rfl) (by kernel_rfl) ?_
  intro X
  iterate 11
    refine plan_val (by kernel_rfl) (fun u hu => ?_) ?_
    · obtain ⟨hc, hf, hz⟩ := hu.of_drew.facts
      go_simp
      all_goals first
        | ((go_at_call 76; (with_reducible exact cF1 _ (HW.out.call hu.of_drew))))
        | ((go_at_call 76; (with_reducible exact cF2 _ (HW.out.call hu.of_drew))))
    simp only [Act.put, List.setIfInBounds_toArray, List.set_cons_zero, List.set_cons_succ, Nat.reduceAdd]
  refine plan_end ?_
  intro w' hB
  have hk := hB.calm.of_drew
  clear hB
  have hu := HW.out.call hk
  replace HX := Lib.hid ((hk.block hxl).trans HX.out)
  replace HZ := Lib.hid ((hk.block hzl).trans HZ.out)
  replace hxl := Nat.lt_of_lt_of_le hxl hk.size
  replace hzl := Nat.lt_of_lt_of_le hzl hk.size
  clear HW c0 cF1 cF2 cC hk
  have c0 := RAH.out _ HX.out
  go_upto_region 6 with (first
    | (go_at_call 45; (with_reducible refine (cD _ hu).mono ?_); rintro e w5 ⟨v, rfl, ho5, hb5⟩; obtain ⟨A5, c5, rfl, hlc5, hcc5, hl5⟩ := ho5.lies hLw; have HL5 := Lib.hid hl5; replace HX := Lib.hid ((hb5.block hxl).trans HX.out); replace HZ := Lib.hid ((hb5.block hzl).trans HZ.out); replace hxl := Nat.lt_of_lt_of_le hxl hb5.size; replace hzl := Nat.lt_of_lt_of_le hzl hb5.size; replace hu := hu.call hb5; clear hb5 hl5 ho5 cD hcc5))
  by_cases hE0 : E = 0
  rotate_left
  · have b1 := ne_rl hE0
    go_upto_region 7 with fail
    go_wp2_with (refine wpList_store_rowB rfl 25 (.tmp 6) (.tmp 42) rfl (w.heap.size + 1) _ ZC ZC rfl (by rw [show ZC = _ from hIZ]; rfl) HZ.out (by rw [hIZ.size]; exact hJ3.out) rfl hIZ.one ?_)
    (try simp only [Exit.inBlock, Exit.then])
    refine end_bkE (p := 6) (q := 7) rfl rfl _ _ (w.heap.size + 1) _ ZC _ _ rfl rfl rfl (setRow_heap _ _ _ _ _ _ HZ.out) hIZ.size ?_
    exact HP1.out hE0 _ _ (BkEnd.none (by rw [show ZC = _ from hIZ]; rfl) (hu.setRow (by omega) _))
  replace HP2 := Lib.hid (HP2.out hE0)
  replace HP3 := Lib.hid (HP3.out hE0)
  clear HP1
  subst hE0
  go_upto_region 8 with fail
  have c1 := RAH.out _ HX.out
  have HW := Lib.hid hu
  clear hu
  refine wp_region_plan_tail 9 [.val (.pointer (some ⟨w.heap.size, 0, none⟩)), .val (.slice A l.length c), .val (.int .i64 ((a : Int))), .val (.slice A a c), .val (.slice A5 L.length c5), .val (.pointer (some ⟨w.heap.size, 0, none⟩)), .val (.slice A l.length c), .val (.int .i64 ((b : Int))), .val (.slice A7 (l.length - b) (c - b))] (by kernel_rfl) (by kernel_rfl) (by kernel_rfl) (by kernel_rfl) ?_
  intro X
  simp only [List.take_succ_cons, List.take_zero, List.drop_succ_cons, List.drop_zero]
  iterate 9
    refine plan_val (by kernel_rfl) (fun u hu => ?_) ?_
    · obtain ⟨hc, hf, hz⟩ := hu.of_drew.facts
      go_simp
      all_goals first
        | ((simp only [hA7]; done))
        | ((exact ⟨hA7, rfl, rfl⟩))
    simp only [Act.put, List.setIfInBounds_toArray, List.set_cons_zero, List.set_cons_succ, Nat.reduceAdd]
  refine plan_end ?_
  intro w' hB
  have hk := hB.calm.of_drew
  clear hB
  have hu := HW.out.call hk
  replace HX := Lib.hid ((hk.block hxl).trans HX.out)
  replace HZ := Lib.hid ((hk.block hzl).trans HZ.out)
  replace HL5 := Lib.hid (HL5.out.calm hk)
  replace hxl := Nat.lt_of_lt_of_le hxl hk.size
  replace hzl := Nat.lt_of_lt_of_le hzl hk.size
  clear HW c0 c1 hk
  go_upto_region 9 with (go_at_call 83; (with_reducible refine (CK.out A5 c5 _ _ (hu.alloc _) (HL5.out.calm ((Calm.refl _).alloc _)) (heap_new _ _)).mono ?_); rintro e w6 ⟨v, rfl, ho6, hb6⟩; obtain ⟨A6, c6, rfl, hlc6, hcc6, hl6⟩ := ho6.lies HMW.out; have hbb := ((Calm.refl w').alloc _).call hb6; have HO6 := Lib.hid (ho6.down (show w.heap.size + 2 ≤ _ from by rw [World.size_alloc]; omega)); replace HX := Lib.hid ((hbb.block hxl).trans HX.out); replace HZ := Lib.hid ((hbb.block hzl).trans HZ.out); replace hxl := Nat.lt_of_lt_of_le hxl hbb.size; replace hzl := Nat.lt_of_lt_of_le hzl hbb.size; replace hu := hu.call hbb; clear ho6 hb6 hl6 hbb hcc6 HL5)
  clear CK HMW HMO
  by_cases h4 : 400 < M.length
  · have h4i : (400 : Int) < (M.length : Int) := by omega
    clear HML HO6 HB0
    go_upto_region 10 with fail
    go_wp2_with (refine wpList_store_rowB rfl 25 (.tmp 6) (.tmp 58) rfl (w.heap.size + 1) _ ZC ZC rfl (by rw [show ZC = _ from hIZ]; rfl) HZ.out (by rw [hIZ.size]; exact hJ3.out) rfl hIZ.one ?_)
    (try simp only [Exit.inBlock, Exit.then])
    refine end_bkE (p := 6) (q := 7) rfl rfl _ _ (w.heap.size + 1) _ ZC _ _ rfl rfl rfl (setRow_heap _ _ _ _ _ _ HZ.out) hIZ.size ?_
    exact HP2.out h4 _ _ (BkEnd.none (by rw [show ZC = _ from hIZ]; rfl) (hu.setRow (by omega) _))
  have h4i : (M.length : Int) ≤ 400 := by omega
  have c0 := RAH.out _ HX.out
  have f0 := frozen_of_row _ _ 0 _ _ HX.out
  clear HML RAH
  go_upto_region 12 with fail
  have hx6 := heap_setCell_same w6 w.heap.size 0 _ _ (Value.slice A6 M.length c6) HX.out
  rw [HB0.out] at hx6
  have hot : ∀ j, j ≠ w.heap.size → (w6.setCell ⟨w.heap.size, 0, none⟩ (Value.slice A6 M.length c6)).heap[j]? = w6.heap[j]? := fun j hj => Below.heap_setCell _ _ _ _ hj
  have hz6 := (hot (w.heap.size + 1) (by omega)).trans HZ.out
  have ho6 := OwnR.keep HO6.out fun j hj => hot j (by omega)
  have hu6 := hu.setCell (p := ⟨w.heap.size, 0, none⟩) (Nat.le_refl _) (Value.slice A6 M.length c6)
  generalize (w6.setCell ⟨w.heap.size, 0, none⟩ (Value.slice A6 M.length c6)) = w7 at hx6 hz6 ho6 hu6 ⊢
  have HX6 := Lib.hid hx6
  have HZ6 := Lib.hid hz6
  have HO7 := Lib.hid ho6
  clear hot HX HZ HO6 HB0 hx6 hz6 ho6 hu c0 f0
  have hs6 : ∀ n, (bkC A6 n c6 R F).toArray.size = 33 := fun n => by
    rw [List.size_toArray, bkC_len hR hF]
  have HS6 := Lib.hid hs6
  have hj6 : Hid ((Try.prog.info? 25).map (·.size) = some (bkC A6 M.length c6 R F).length) := show _ = _ by rw [bkC_len hR hF]; exact infoBook
  clear hs6
  go_wp2_with (first
    | (refine wpList_load_mid rfl 25 (.tmp 3) rfl w.heap.size 0 rfl (bkC A6 M.length c6 R F) _ (range_all HX6.out) Try.underlying25 rfl hj6.out ?_)
    | (refine wpList_store_rowB rfl 25 (.tmp 6) (.tmp 61) rfl (w.heap.size + 1) _ ZC _ rfl rfl HZ6.out (by rw [HS6.out]; exact hJ3.out) (hIZ.size.trans (HS6.out _).symm) bk_one ?_))
  refine end_bkE (p := 6) (q := 7) rfl rfl _ _ (w.heap.size + 1) _ _ _ _ rfl rfl rfl (setRow_heap _ _ _ _ _ _ HZ6.out) (HS6.out _) ?_
  exact HP3.out h4 _ _ ⟨A6, c6, rfl, (OwnR.keep HO7.out fun j hj => setRow_other _ _ j _ (by omega)).down (by omega), hu6.setRow (by omega) _⟩
open Go.RowKit
theorem zero6 : ∀ w, (Go.sizeOf 50).run Try.prog w = .ok 6 w := fun _ => by kernel_rfl
set_option maxHeartbeats 8000000 in
theorem insert_shift (g h i n cap : Nat) (l : List El) (cur : List Value) (p o f m gg : Int) (s : ByteArray) (w : World) (hn : n = l.length) (hi : i < n) (hn4 : n ≤ 400) (hroom : n + 1 ≤ cap) (hc63 : cap ≤ 9223372036854775807)
    (hg : w.heap[g]? = some (.cells cur.toArray 50 (0, 0))) (hs : cur.length = cap * 6) (ht : cur.take (n * 6) = cellsOf l) (hh : w.heap[h]? = some (.cells #[.int .i64 p, .int .i64 o, .int .i64 f, .int .i64 m, .int .i64 gg, .string s] 50 (0, 0))) (hne : h ≠ g) :
    Calls Try.prog 86 #[.slice (some ⟨g, 0, none⟩) n cap, .int .i64 i, .slice (some ⟨h, 0, none⟩) 1 1] w fun e w' => e = .returned (.slice (some ⟨g, 0, none⟩) (n + 1) cap) ∧
      w'.heap[g]? = some (.cells (spl (spl cur ((i + 1) * 6) (cellsOf (l.drop i))) (i * 6) (El.cells ⟨p, o, f, m, gg, s⟩)).toArray 50 (0, 0)) ∧ w.grownBy w' (some g) := by
  have hov : ∀ lb cb, (callFunc 108 #[.slice (some ⟨h, 0, none⟩) 1 1, .slice (some ⟨g, (i + 1) * 6, none⟩) lb cb]).run Try.prog w = .ok (.value (.bool false)) w := fun lb cb => by
    rw [run_callFunc_extern Try.func108 (by kernel_rfl) (by kernel_rfl) (by kernel_rfl) (e := Extern.SlicesOverlaps.overlaps #[22, 22] #[4]) (by kernel_rfl),
      Lib.run_overlaps_apart w 22 4 50 Try.underlying22 6 zero6 ⟨h, 0, none⟩ ⟨g, (i + 1) * 6, none⟩ 1 1 lb cb hne 50 50 6 cur.toArray.size (by simp [World.shape?, hh]) (by simp [World.shape?, hg]) (by rw [List.size_toArray, hs]; omega) (frozen_of_row _ _ _ _ _ hh) (frozen_of_row _ _ _ _ _ hh)]
    rfl
  have hdl : (cellsOf (l.drop i)).length = (n - i) * 6 := by rw [cellsOf_len, List.length_drop, hn]
  have hcell : ∀ j v, (cellsOf (l.drop i))[j]? = some v → w.cell? ⟨g, i * 6 + j, none⟩ = some v := fun j v hj => by
    have hj2 : j < (n - i) * 6 := by rw [← hdl]; exact (List.getElem?_eq_some_iff.1 hj).1
    rw [← cellsOf_drop (by omega), List.getElem?_drop, ← ht, List.getElem?_take, if_pos (by omega)] at hj
    rw [cell_of_row _ _ _ _ _ _ hg, ← hj, List.getElem?_toArray]
  have hfit1 : (i + 1) * 6 + (cellsOf (l.drop i)).length ≤ cur.length := by omega
  obtain ⟨c1, hc1⟩ : ∃ c1, c1 = spl cur ((i + 1) * 6) (cellsOf (l.drop i)) := ⟨_, rfl⟩
  have hc1l : c1.length = cur.length := by rw [hc1]; exact spl_len hfit1
  have hcp1 : ∀ ty dc sc, (Builtin.copy_ #[22, 22] ty #[.slice (some ⟨g, (i + 1) * 6, none⟩) (n - i) dc, .slice (some ⟨g, i * 6, none⟩) (n + 1 - i) sc]).run Try.prog w.drew = .ok (goInt (Nat.min (n + 1 - i) (n - i))) (w.drew.setRow g c1.toArray) := fun ty dc sc => by
    rw [hc1]
    refine run_copy_el w.drew ty g ((i + 1) * 6) (n - i) dc ⟨g, i * 6, none⟩ (n + 1 - i) sc cur _ (cellsOf (l.drop i)) hg (by rw [hdl]; congr 1; simp only [Nat.min_def]; split <;> omega) (fun j v hj => ?_) hfit1 (cellsOf_one _)
    rw [Addr.add_lit]; exact hcell j v hj
  have hcp2 : ∀ W : World, W.heap = (w.drew.setRow g c1.toArray).heap → ∀ ty dc, (Builtin.copy_ #[22, 22] ty #[.slice (some ⟨g, i * 6, none⟩) (n + 1 - i) dc, .slice (some ⟨h, 0, none⟩) 1 1]).run Try.prog W = .ok (goInt (Nat.min 1 (n + 1 - i))) (W.setRow g (spl c1 (i * 6) (El.cells ⟨p, o, f, m, gg, s⟩)).toArray) := fun W hW ty dc => by
    refine run_copy_el W ty g (i * 6) (n + 1 - i) dc ⟨h, 0, none⟩ 1 1 c1 50 _ (by rw [hW]; exact setRow_heap _ _ _ _ _ _ hg) (by show 6 = _; simp only [Nat.min_def]; split <;> omega) (fun j v hj => ?_) (by show _ + 6 ≤ _; omega) (cells_one _)
    have e : (⟨h, 0, none⟩ : Addr).add j = ⟨h, j, none⟩ := by unfold Addr.add; split <;> simp_all
    have hhW : W.heap[h]? = some (.cells #[.int .i64 p, .int .i64 o, .int .i64 f, .int .i64 m, .int .i64 gg, .string s] 50 (0, 0)) := by rw [hW, setRow_other _ _ _ _ hne]; exact hh
    rw [e, cell_of_row _ _ _ _ _ _ hhW, ← hj]; simp [El.cells]
  have hfin : ∀ W : World, W.heap = (w.drew.setRow g c1.toArray).heap → W.os = w.os → W.tape = w.tape → W.output = w.output → (W.setRow g (spl c1 (i * 6) (El.cells ⟨p, o, f, m, gg, s⟩)).toArray).heap[g]? = some (.cells (spl c1 (i * 6) (El.cells ⟨p, o, f, m, gg, s⟩)).toArray 50 (0, 0)) ∧ w.grownBy (W.setRow g (spl c1 (i * 6) (El.cells ⟨p, o, f, m, gg, s⟩)).toArray) (some g) := fun W hW h1 h2 h3 => by
    refine ⟨setRow_heap _ _ c1.toArray _ _ _ (by rw [hW]; exact setRow_heap _ _ _ _ _ _ hg), h1, h2, h3, ?_, fun k hk hne' => ?_⟩
    · rw [show (W.setRow g _).heap.size = W.heap.size by simp, hW]; simp
    · have hkg : k ≠ g := fun e => hne' (by rw [e])
      rw [setRow_other _ _ _ _ hkg, hW, setRow_other _ _ _ _ hkg]
      rfl
  rw [← hc1]
  have hin : i ≤ n := by omega
  have hz2 : ¬ ((i : Int) = (n : Int)) := by omega
  have hw1 : IntKind.i64.wrap ((i : Int) + 1) = (i : Int) + 1 := by rw [IntKind.wrap_i64]; omega
  have hb1 : (0 : Int) ≤ (i : Int) + 1 := by omega
  have htn : ((i : Int) + 1).toNat = i + 1 := by omega
  have hb2 : ¬ (cap = i + 1) := by omega
  have hb3 : (i : Int) ≤ (n : Int) + 1 := by omega
  have hb4 : ¬ (cap = i) := by omega
  have hb5 : (i : Int) < (n : Int) := by omega
  have hb6 : (n : Int) + 1 ≤ (cap : Int) := by omega
  clear hdl hcell hfit1 hc1 hc1l hn ht hs hg hh
  go_enter Try.func86, Try.ntmps86
  go_wp2_with (simp only [hov])
  go_region_law (refine step_copy_known rfl _ _ 22 rfl _ _ (by simp [Act.eval, Act.put]) (by simp [Act.eval, Act.put]) (hcp1 _ _ _) ?_)
  go_wp2_with (at_builtin; refine wpList_copy_known rfl _ _ 22 rfl _ _ rfl rfl (hcp2 _ rfl _ _) ?_)
  go_ret
  exact ⟨rfl, hfin _ rfl rfl rfl rfl⟩
def GrowEnd (w : World) (l : List El) (i : Nat) (x : El) (e : Ending) (w' : World) : Prop :=
 ∃ (G : Nat) (C : List Value), e = .returned (.slice (some ⟨w.heap.size, 0, none⟩) (l.length + 1) G) ∧ l.length + 1 ≤ G ∧ G ≤ maxLen ∧ C.length = G * 6 ∧ C.take (i * 6) = cellsOf (l.take i) ∧
  w'.heap[w.heap.size]? = some (.cells (spl (spl C (i * 6) x.cells) ((i + 1) * 6) (cellsOf (l.drop i))).toArray 50 (0, 0)) ∧ Calm w w'
set_option maxHeartbeats 8000000 in
theorem insert_grow (g h i n cap : Nat) (l : List El) (cur : List Value) (p o f m gg : Int) (s : ByteArray) (w : World) (hn : n = l.length) (hi : i < n) (hn4 : n ≤ 400) (hnc : n ≤ cap) (hroom : cap < n + 1)
    (hg : w.heap[g]? = some (.cells cur.toArray 50 (0, 0))) (ht : cur.take (n * 6) = cellsOf l) (hh : w.heap[h]? = some (.cells #[.int .i64 p, .int .i64 o, .int .i64 f, .int .i64 m, .int .i64 gg, .string s] 50 (0, 0))) :
    Calls Try.prog 86 #[.slice (some ⟨g, 0, none⟩) n cap, .int .i64 i, .slice (some ⟨h, 0, none⟩) 1 1] w (GrowEnd w l i ⟨p, o, f, m, gg, s⟩) := by
  obtain ⟨i0, hi0, hz0, hzs, hzb⟩ := info_parts infoElem
  have hgw : g < w.heap.size := (Array.getElem?_eq_some_iff.1 hg).1
  have hhw : h < w.heap.size := (Array.getElem?_eq_some_iff.1 hh).1
  have hcl : ∀ j v, (cellsOf l)[j]? = some v → w.cell? ⟨g, j, none⟩ = some v := fun j v hj => by
    have hj2 : j < n * 6 := by rw [hn, ← cellsOf_len]; exact (List.getElem?_eq_some_iff.1 hj).1
    rw [← ht, List.getElem?_take, if_pos hj2] at hj
    rw [cell_of_row _ _ _ _ _ _ hg, ← hj, List.getElem?_toArray]
  have hdl : (cellsOf (l.drop i)).length = (n - i) * 6 := by rw [cellsOf_len, List.length_drop, hn]
  have htl : (cellsOf (l.take i)).length = i * 6 := by rw [cellsOf_len, List.length_take]; congr 1; omega
  have hkk : (n : Int) + 1 - (i : Int) = ((n + 1 - i : Nat) : Int) := by omega
  have hik : i + (n + 1 - i) = n + 1 := by omega
  have hold : (Builtin.firstCells i0.size i (.slice (some ⟨g, 0, none⟩) i cap)).run Try.prog w.drew = .ok (cellsOf (l.take i)).toArray w.drew := by
    rw [hzs]
    refine run_firstCells_some w.drew 6 i ⟨g, 0, none⟩ i cap (cellsOf (l.take i)) htl fun j v hj => ?_
    have e : (⟨g, 0, none⟩ : Addr).add j = ⟨g, j, none⟩ := by unfold Addr.add; split <;> simp_all
    rw [e]
    rw [← cellsOf_take (by omega), List.getElem?_take] at hj
    split at hj
    · exact hcl j v hj
    · cases hj
  obtain ⟨G, hG⟩ : ∃ G, G = grownCap w (n + 1) cap 50 := ⟨_, rfl⟩
  obtain ⟨C, hC⟩ : ∃ C : List Value, C = cellsOf (l.take i) ++ (Builtin.zeroCells (Value.agg #[.int .i64 0, .int .i64 0, .int .i64 0, .int .i64 0, .int .i64 0, .string ByteArray.empty]).cells (n + 1 - i)).toList ++ (Builtin.zeroCells (Value.agg #[.int .i64 0, .int .i64 0, .int .i64 0, .int .i64 0, .int .i64 0, .string ByteArray.empty]).cells (G - (n + 1))).toList := ⟨_, rfl⟩
  have hGn : n + 1 ≤ G := by rw [hG]; exact grownCap_ge w _ _ _
  have hGm : G ≤ maxLen := by rw [hG]; exact grownCap_le_maxLen w (n + 1) cap _ (by unfold maxLen; omega)
  have hCl : C.length = G * 6 := by
    rw [hC, List.length_append, List.length_append, htl, Array.length_toList, Array.length_toList, size_zeroCells, size_zeroCells]
    show i * 6 + (n + 1 - i) * 6 + (G - (n + 1)) * 6 = G * 6
    omega
  have hCt : C.take (i * 6) = cellsOf (l.take i) := by rw [hC, List.append_assoc]; exact List.take_left' htl
  have hrz : ∀ ty, (Builtin.append_ #[22, 3] ty #[.slice (some ⟨g, 0, none⟩) i cap, .int .i64 ((n : Int) + 1 - (i : Int))]).run Try.prog w = .ok (.slice (some ⟨w.heap.size, 0, none⟩) (n + 1) G) (w.drew.alloc (.cells C.toArray 50)) := fun ty => by
    have h := Lib.run_append_grow_zeros w 22 3 ty 50 i0 _ .i64 .i64 Try.underlying22 Try.underlying3 hi0 hz0 (some ⟨g, 0, none⟩) i cap (cellsOf (l.take i)) hold (n + 1 - i) (by omega) (by omega) (by omega) (by omega) (by rw [hzb]; omega) (by rw [hzb, hik]; exact growslice_fits hroom (by omega))
    rw [hik, ← hG] at h
    rw [hkk, h, hC]
    exact congrArg (fun x => Result.ok _ (w.drew.alloc (.cells x 50))) (Array.toList_inj.1 (by simp))
  obtain ⟨W1, hW1⟩ : ∃ W1, W1 = w.drew.alloc (.cells C.toArray 50) := ⟨_, rfl⟩
  have hHg : W1.heap[w.heap.size]? = some (.cells C.toArray 50 (0, 0)) := by rw [hW1]; exact heap_alloc_new w.drew _
  have hGg : W1.heap[g]? = some (.cells cur.toArray 50 (0, 0)) := by rw [hW1, Below.heap_alloc w.drew _ _ hgw]; exact hg
  have hHh : W1.heap[h]? = some (.cells #[.int .i64 p, .int .i64 o, .int .i64 f, .int .i64 m, .int .i64 gg, .string s] 50 (0, 0)) := by rw [hW1, Below.heap_alloc w.drew _ _ hhw]; exact hh
  obtain ⟨c1, hc1⟩ : ∃ c1, c1 = spl C (i * 6) (El.cells ⟨p, o, f, m, gg, s⟩) := ⟨_, rfl⟩
  have hc1l : c1.length = C.length := by rw [hc1]; exact spl_len (by show _ + 6 ≤ _; omega)
  have hcpA : ∀ W : World, W.heap = W1.heap → ∀ ty dc, (Builtin.copy_ #[22, 22] ty #[.slice (some ⟨w.heap.size, i * 6, none⟩) (n + 1 - i) dc, .slice (some ⟨h, 0, none⟩) 1 1]).run Try.prog W = .ok (goInt (Nat.min 1 (n + 1 - i))) (W.setRow w.heap.size c1.toArray) := fun W hW ty dc => by
    rw [hc1]
    refine run_copy_el W ty w.heap.size (i * 6) (n + 1 - i) dc ⟨h, 0, none⟩ 1 1 C 50 _ (by rw [hW]; exact hHg) (by show 6 = _; simp only [Nat.min_def]; split <;> omega) (fun j v hj => ?_) (by show _ + 6 ≤ _; omega) (cells_one _)
    have e : (⟨h, 0, none⟩ : Addr).add j = ⟨h, j, none⟩ := by unfold Addr.add; split <;> simp_all
    rw [e, cell_of_row _ _ _ _ _ _ (by rw [hW]; exact hHh), ← hj]; simp [El.cells]
  have hcpB : ∀ W : World, W.heap = (W1.setRow w.heap.size c1.toArray).heap → ∀ ty dc sc, (Builtin.copy_ #[22, 22] ty #[.slice (some ⟨w.heap.size, (i + 1) * 6, none⟩) (n - i) dc, .slice (some ⟨g, i * 6, none⟩) (n - i) sc]).run Try.prog W = .ok (goInt (Nat.min (n - i) (n - i))) (W.setRow w.heap.size (spl c1 ((i + 1) * 6) (cellsOf (l.drop i))).toArray) := fun W hW ty dc sc => by
    refine run_copy_el W ty w.heap.size ((i + 1) * 6) (n - i) dc ⟨g, i * 6, none⟩ (n - i) sc c1 50 _ (by rw [hW]; exact setRow_heap _ _ _ _ _ _ hHg) (by rw [hdl]; congr 1; exact (Nat.min_self _).symm) (fun j v hj => ?_) (by rw [hdl]; omega) (cellsOf_one _)
    rw [Addr.add_lit, cell_of_row _ _ _ _ _ _ (show W.heap[g]? = _ by rw [hW, setRow_other _ _ _ _ (by omega)]; exact hGg)]
    rw [← cellsOf_drop (by omega), List.getElem?_drop, ← ht, List.getElem?_take] at hj
    split at hj
    · rw [← hj, List.getElem?_toArray]
    · cases hj
  have hfin : ∀ W : World, W.heap = (W1.setRow w.heap.size c1.toArray).heap → W.os = w.os → W.tape = w.tape → W.output = w.output → (W.setRow w.heap.size (spl c1 ((i + 1) * 6) (cellsOf (l.drop i))).toArray).heap[w.heap.size]? = some (.cells (spl c1 ((i + 1) * 6) (cellsOf (l.drop i))).toArray 50 (0, 0)) ∧ Calm w (W.setRow w.heap.size (spl c1 ((i + 1) * 6) (cellsOf (l.drop i))).toArray) := fun W hW h1 h2 h3 => by
    refine ⟨setRow_heap _ _ c1.toArray _ _ _ (by rw [hW]; exact setRow_heap _ _ _ _ _ _ hHg), h1, h2, h3, ?_, fun k hk => ?_⟩
    · rw [show (W.setRow w.heap.size _).heap.size = W.heap.size by simp, hW, hW1]; simp
    · rw [setRow_other _ _ _ _ (by omega), hW, setRow_other _ _ _ _ (by omega), hW1]
      exact Below.heap_alloc w.drew _ _ hk
  have hGi : ¬ (G = i) := by omega
  have hGim : ¬ (G = i + 1) := by omega
  have hci : ¬ (cap = i) := by omega
  have hG63 : G ≤ 9223372036854775807 := by unfold maxLen at hGm; omega
  have HEND : ∀ w', w'.heap[w.heap.size]? = some (.cells (spl c1 ((i + 1) * 6) (cellsOf (l.drop i))).toArray 50 (0, 0)) → Calm w w' → GrowEnd w l i ⟨p, o, f, m, gg, s⟩ (.returned (.slice (some ⟨w.heap.size, 0, none⟩) (n + 1) G)) w' := fun w' h1 h2 =>
    ⟨G, C, by rw [hn], by omega, hGm, hCl, hCt, by rw [hc1] at h1; exact h1, h2⟩
  have hz2 : ¬ ((i : Int) = (n : Int)) := by omega
  have hz3 : (cap : Int) < (n : Int) + 1 := by omega
  have hw1 : IntKind.i64.wrap ((i : Int) + 1) = (i : Int) + 1 := by rw [IntKind.wrap_i64]; omega
  have hb1 : (0 : Int) ≤ (i : Int) + 1 := by omega
  have hin : i ≤ n := by omega
  have htn : ((i : Int) + 1).toNat = i + 1 := by omega
  have hb3 : (i : Int) ≤ (n : Int) := by omega
  subst hW1
  clear hkk hik hold hG hC hGn hGm hCl hCt hc1 hc1l hcl hdl htl hn ht hg hh hHg hGg hHh hi0 hz0 hzs hzb hgw hhw
  go_enter Try.func86, Try.ntmps86
  go_wp2_with (first
    | (at_builtin; refine Lib.wpList_append_run _ rfl _ _ _ _ rfl _ _ rfl rfl _ _ (hrz _) ?_)
    | (refine wpList_copy_known rfl _ _ 22 rfl _ _ rfl rfl (v' := goInt (Nat.min 1 (n + 1 - i))) (w' := ((w.alloc (.cells C.toArray 50)).drew).setRow w.heap.size c1.toArray) (by exact hcpA ((w.alloc (.cells C.toArray 50)).drew) rfl _ _) ?_))
  go_region_law (refine step_copy_known rfl _ _ 22 rfl (.slice (some ⟨w.heap.size, (i + 1) * 6, none⟩) (n - i) (G - (i + 1))) (.slice (some ⟨g, i * 6, none⟩) (n - i) (cap - i)) (by simp [Act.eval, Act.put]) (by simp [Act.eval, Act.put]) (v' := goInt (Nat.min (n - i) (n - i))) (w' := ((((w.alloc (.cells C.toArray 50)).drew).setRow w.heap.size c1.toArray).drew).setRow w.heap.size (spl c1 ((i + 1) * 6) (cellsOf (l.drop i))).toArray) (by exact hcpB ((((w.alloc (.cells C.toArray 50)).drew).setRow w.heap.size c1.toArray).drew) rfl _ _ _) ?_)
  go_wp2_with fail
  go_ret
  exact HEND _ (hfin ((((w.alloc (.cells C.toArray 50)).drew).setRow w.heap.size c1.toArray).drew) rfl rfl rfl rfl).1 (hfin ((((w.alloc (.cells C.toArray 50)).drew).setRow w.heap.size c1.toArray).drew) rfl rfl rfl rfl).2
set_option maxHeartbeats 8000000 in
theorem insert_any (base h i : Nat) (v : Value) (l : List El) (p o f m gg : Int) (s : ByteArray) (w : World) (hi : i ≤ l.length) (hl : l.length ≤ 400) (ho : OwnR base w v l) (hb : base ≤ w.heap.size)
    (hh : w.heap[h]? = some (.cells #[.int .i64 p, .int .i64 o, .int .i64 f, .int .i64 m, .int .i64 gg, .string s] 50 (0, 0))) (hne : v.ownBlock ≠ some h) :
    Calls Try.prog 86 #[v, .int .i64 i, .slice (some ⟨h, 0, none⟩) 1 1] w (OwnEnd base (insAt l i ⟨p, o, f, m, gg, s⟩) w) := by
  have hend : i = l.length → insAt l i ⟨p, o, f, m, gg, s⟩ = l ++ [⟨p, o, f, m, gg, s⟩] := fun h => by unfold insAt; rw [h, List.take_length, List.drop_length]
  rcases id ho.2 with ⟨rfl, hl0⟩ | ⟨g, cap, cur, rfl, hbg, hg, hnc, hcm, hcs, ht⟩
  · have h0 : i = l.length := by omega
    rw [hend h0]
    have h1 : i = 0 := by omega
    subst h1
    have HO := Lib.hid ho
    clear ho hend hi h0
    go_enter Try.func86, Try.ntmps86
    go_wp2_with (at_builtin; refine wpList_append_el rfl _ _ rfl base _ l rfl HO.out h _ p o f m gg s _ rfl hh (by omega) hb ?_; intro v' w9 ho9 hc9)
    have HO9 := Lib.hid ho9
    have HC9 := Lib.hid hc9
    clear ho9 hc9
    go_wp2_with fail
    go_ret
    exact ⟨_, rfl, HO9.out, HC9.out⟩
  · have hcs' : cur.toList.length = cap * 6 := by simpa using hcs
    have hg' : w.heap[g]? = some (.cells cur.toList.toArray 50 (0, 0)) := by simpa using hg
    have hc63 : cap ≤ 9223372036854775807 := by unfold maxLen at hcm; exact hcm
    have hKe : ∀ w', w.grownBy w' (some g) → Keeps base w w' := fun w' hgr w0 h0 hc => Below.grown hc hgr hc.size fun k hk => by injection hk with hk; omega
    by_cases hin : i = l.length
    · rw [hend hin]
      have HO := Lib.hid ho
      obtain ⟨n, hn⟩ : ∃ n, n = l.length := ⟨_, rfl⟩
      have hin' : i = n := by omega
      rw [← hn] at HO ⊢
      have hn4 : n ≤ 400 := by omega
      have hll : l.length ≤ 1000000 := by omega
      have hnc' : n ≤ cap := by omega
      clear ho hend hi hin hn hl hcs' hg' hKe ht hcs hnc
      subst hin'
      by_cases hci : cap = i
      all_goals
        first | subst hci | skip
        go_enter Try.func86, Try.ntmps86
        go_wp2_with (at_builtin; refine wpList_append_el rfl _ _ rfl base _ l rfl HO.out h _ p o f m gg s _ rfl hh hll hb ?_; intro v' w9 ho9 hc9)
        have HO9 := Lib.hid ho9
        have HC9 := Lib.hid hc9
        clear ho9 hc9
        go_wp2_with fail
        go_ret
        exact ⟨_, rfl, HO9.out, HC9.out⟩
    · by_cases hroom : l.length + 1 ≤ cap
      · refine (insert_shift g h i l.length cap l cur.toList p o f m gg s w rfl (by omega) hl hroom hc63 hg' hcs' ht hh (fun e => hne (by simp [Value.ownBlock, e]))).mono fun e w' ⟨he, hr, hgr⟩ => ⟨_, he, ?_, hKe w' hgr⟩
        rw [row_shift _ (by omega) ht (by omega)] at hr
        have hil := insAt_len ⟨p, o, f, m, gg, s⟩ hi
        rw [← hil]
        have hlc : (cellsOf (insAt l i ⟨p, o, f, m, gg, s⟩)).length = (l.length + 1) * 6 := by rw [cellsOf_len, hil]
        exact OwnR.row hbg hr (by omega) hcm (by rw [List.length_append, hlc, List.length_drop]; omega) (List.take_left' (by rw [cellsOf_len]))
      · refine (insert_grow g h i l.length cap l cur.toList p o f m gg s w rfl (by omega) hl hnc (by omega) hg' ht hh).mono fun e w' ⟨G, C, he, h1, h2, h3, h4, hr, hc⟩ => ⟨_, he, ?_, fun w0 h0 hcc => hcc.call hc⟩
        rw [row_fresh _ (by omega) h4 (by omega)] at hr
        have hil := insAt_len ⟨p, o, f, m, gg, s⟩ hi
        rw [← hil]
        have hlc : (cellsOf (insAt l i ⟨p, o, f, m, gg, s⟩)).length = (l.length + 1) * 6 := by rw [cellsOf_len, hil]
        exact OwnR.row hb hr (by omega) h2 (by rw [List.length_append, hlc, List.length_drop]; omega) (List.take_left' (by rw [cellsOf_len]))
end Go.Proofs.Ytljjeolifdpedaa
