/- Texts of one kind in one file. -/
import Derived.Lib.Hide
import Derived.Deep.AppendSrc
import Derived.Deep.RegionLaw
import Derived.Laws.Externs
import Derived.Lib.AppendZerosOnto
import Derived.Lib.Overlaps
import Derived.Lib.SliceRun
import Derived.Outline
import Derived.Laws.BitsAll
import Derived.IntWalk
import Derived.Laws.BytesArg
import Derived.Test.YtadjnnmpgaajnaaShelf
import Derived.Lib.Builder
import Derived.Lib.UnsafeStr
import Derived.Test.YtadjnnmpgaajnaaPkStreamReads1
set_option maxRecDepth 100000
namespace Go.Proofs.Ytadjnnmpgaajnaa
open Go.RowKit
theorem str_ne {s s' : ByteArray} (h : ¬ s = s') : (s.toList == s'.toList) = false := by
 cases e : s.toList == s'.toList
 ·rfl
 ·exfalso
  have h2 := eq_of_beq e
  rw [ByteArray.toList_eq, ByteArray.toList_eq] at h2
  exact h (ByteArray.ext (Array.toList_inj.1 h2))
set_option maxHeartbeats 8000000 in
theorem equal_any (A A' : Option Addr) (c c' : Nat) (l l' : List El) (w : World) (hn : l.length ≤ 9223372036854775807) (_hn' : l'.length ≤ 9223372036854775807) (hL : Lies w A l) (hL' : Lies w A' l') :
    Calls Try.prog 14 #[.slice A l.length c, .slice A' l'.length c'] w fun e w' => e = .returned (.bool (decide (l = l'))) ∧ Calm w w' := by
  by_cases hll : l.length = l'.length
  rotate_left
  · have hd : decide (l = l') = false := decide_eq_false fun h => hll (by rw [h])
    have hz : ¬ (l.length : Int) = (l'.length : Int) := by omega
    rw [hd]
    clear hd hll hL hL'
    go_enter Try.func14, Try.ntmps14
    go_wp2_with fail
    go_ret
    exact ⟨rfl, Calm.refl _⟩
  have HD : Hid (decide (l = l') = decide (l = l')) := rfl
  generalize hr : decide (l = l') = r
  have HR : Hid (decide (l = l') = r) := hr
  clear hr HD
  obtain ⟨n, hn1⟩ : ∃ n, n = l.length := ⟨_, rfl⟩
  have hn2 : n = l'.length := hn1.trans hll
  rw [← hn1, ← hn2]
  rw [← hn1] at hn
  have HN1 : Hid (n = l.length) := hn1
  have HN2 : Hid (n = l'.length) := hn2
  clear hn1 hn2 hll
  go_enter Try.func14, Try.ntmps14
  go_wp2_with fail
  go_loopw [13] (fun i wr => ∃ k : Nat, k ≤ n ∧ i = .int .i64 k ∧ Calm w wr ∧ Hid (∀ j, j < k → l[j]? = l'[j]?)) (fun i _ => n - (intOf i).toNat)
  case atStart => exact ⟨0, Nat.zero_le _, rfl, Calm.refl _, show ∀ _, _ from fun j h => absurd h (Nat.not_lt_zero _)⟩
  case round =>
    obtain ⟨k, hk, rfl, hu, hN⟩ := hrel
    by_cases hlt : k < n
    rotate_left
    · have K : Hid (r = true) := by
        rw [← HR.out]
        refine decide_eq_true (List.ext_getElem? fun j => ?_)
        rcases Nat.lt_or_ge j k with h | h
        · exact hN.out j h
        · rw [List.getElem?_eq_none (by rw [← HN1.out]; omega), List.getElem?_eq_none (by rw [← HN2.out]; omega)]
      clear HR
      go_wp2_with fail
      go_ret
      exact ⟨by rw [K.out]; rfl, hu⟩
    obtain ⟨b, q, p, o, f, m, g, s, rfl, hb, HE, hm, c0, c1, c2, c3, c4, c5⟩ := (hL.calm hu).get (by rw [← HN1.out]; exact hlt)
    obtain ⟨b', q', p', o', f', m', g', s', rfl, hb', HE', hm', d0, d1, d2, d3, d4, d5⟩ := (hL'.calm hu).get (by rw [← HN2.out]; exact hlt)
    have hiz : (k : Int) < (n : Int) := by omega
    have hDF : (⟨p, o, f, m, g, s⟩ : El) ≠ ⟨p', o', f', m', g', s'⟩ → l ≠ l' := fun h h2 => by
      have h3 := HE.out; rw [h2, HE'.out] at h3; injection h3 with h3; exact h h3.symm
    have hN1 : (⟨p, o, f, m, g, s⟩ : El) = ⟨p', o', f', m', g', s'⟩ → Hid (∀ j, j < k + 1 → l[j]? = l'[j]?) := fun h => show ∀ _, _ from fun j hj => by
      rcases Nat.lt_or_ge j k with h2 | h2
      · exact hN.out j h2
      · rw [show j = k by omega, HE.out, HE'.out, h]
    have HR2 := HR.out
    clear hL hL' HE HE' hm hm'
    have hcs : ¬ p = p' ∨ (p = p' ∧ ¬ o = o') ∨ (p = p' ∧ o = o' ∧ ¬ f = f') ∨ (p = p' ∧ o = o' ∧ f = f' ∧ ¬ m = m') ∨ (p = p' ∧ o = o' ∧ f = f' ∧ m = m' ∧ ¬ g = g') ∨ (p = p' ∧ o = o' ∧ f = f' ∧ m = m' ∧ g = g' ∧ ¬ s = s') ∨ (p = p' ∧ o = o' ∧ f = f' ∧ m = m' ∧ g = g' ∧ s = s') := by
      by_cases e0 : p = p' <;> by_cases e1 : o = o' <;> by_cases e2 : f = f' <;> by_cases e3 : m = m' <;> by_cases e4 : g = g' <;> by_cases e5 : s = s' <;> simp [*]
    rcases hcs with h0 | ⟨h0, h1⟩ | ⟨h0, h1, h2⟩ | ⟨h0, h1, h2, h3⟩ | ⟨h0, h1, h2, h3, h4⟩ | ⟨h0, h1, h2, h3, h4, h5⟩ | ⟨h0, h1, h2, h3, h4, h5⟩
    · skip
      go_wp2_with fail
      refine wp_region_plan [.val (.slice (some ⟨b, q, none⟩) n c), .val (.int .i64 ((k : Int))), .val (.pointer (some ⟨b, q + k * 6, none⟩)), .val (.agg #[.int .i64 p, .int .i64 o, .int .i64 f, .int .i64 m, .int .i64 g, .string s]), .val (.slice (some ⟨b', q', none⟩) n c'), .val (.int .i64 ((k : Int))), .val (.pointer (some ⟨b', q' + k * 6, none⟩)), .val (.agg #[.int .i64 p', .int .i64 o', .int .i64 f', .int .i64 m', .int .i64 g', .string s']), .val (.bool true)] (by kernel_rfl) (by kernel_rfl) (by kernel_rfl) ?_
      intro X
      iterate 9
        refine plan_val (by kernel_rfl) (fun u hu => ?_) ?_
        · obtain ⟨hc, hf, hz⟩ := hu.of_drew.facts
          go_simp
        simp only [Act.put, List.setIfInBounds_toArray, List.set_cons_zero, List.set_cons_succ, Nat.reduceAdd]
      refine plan_end ?_
      intro w' hB
      have hk := hB.calm.of_drew
      clear hB
      go_wp2_with fail
      go_ret
      exact ⟨ret_bool ((decide_eq_false (hDF (by simp [*]))).symm.trans HR2), hu.call hk⟩
    · skip
      subst h0
      go_wp2_with fail
      refine wp_region_plan [.val (.slice (some ⟨b, q, none⟩) n c), .val (.int .i64 ((k : Int))), .val (.pointer (some ⟨b, q + k * 6, none⟩)), .val (.agg #[.int .i64 p, .int .i64 o, .int .i64 f, .int .i64 m, .int .i64 g, .string s]), .val (.slice (some ⟨b', q', none⟩) n c'), .val (.int .i64 ((k : Int))), .val (.pointer (some ⟨b', q' + k * 6, none⟩)), .val (.agg #[.int .i64 p, .int .i64 o', .int .i64 f', .int .i64 m', .int .i64 g', .string s']), .val (.bool true)] (by kernel_rfl) (by kernel_rfl) (by kernel_rfl) ?_
      intro X
      iterate 9
        refine plan_val (by kernel_rfl) (fun u hu => ?_) ?_
        · obtain ⟨hc, hf, hz⟩ := hu.of_drew.facts
          go_simp
        simp only [Act.put, List.setIfInBounds_toArray, List.set_cons_zero, List.set_cons_succ, Nat.reduceAdd]
      refine plan_end ?_
      intro w' hB
      have hk := hB.calm.of_drew
      clear hB
      go_wp2_with fail
      go_ret
      exact ⟨ret_bool ((decide_eq_false (hDF (by simp [*]))).symm.trans HR2), hu.call hk⟩
    · skip
      subst h0
      subst h1
      go_wp2_with fail
      refine wp_region_plan [.val (.slice (some ⟨b, q, none⟩) n c), .val (.int .i64 ((k : Int))), .val (.pointer (some ⟨b, q + k * 6, none⟩)), .val (.agg #[.int .i64 p, .int .i64 o, .int .i64 f, .int .i64 m, .int .i64 g, .string s]), .val (.slice (some ⟨b', q', none⟩) n c'), .val (.int .i64 ((k : Int))), .val (.pointer (some ⟨b', q' + k * 6, none⟩)), .val (.agg #[.int .i64 p, .int .i64 o, .int .i64 f', .int .i64 m', .int .i64 g', .string s']), .val (.bool true)] (by kernel_rfl) (by kernel_rfl) (by kernel_rfl) ?_
      intro X
      iterate 9
        refine plan_val (by kernel_rfl) (fun u hu => ?_) ?_
        · obtain ⟨hc, hf, hz⟩ := hu.of_drew.facts
          go_simp
        simp only [Act.put, List.setIfInBounds_toArray, List.set_cons_zero, List.set_cons_succ, Nat.reduceAdd]
      refine plan_end ?_
      intro w' hB
      have hk := hB.calm.of_drew
      clear hB
      go_wp2_with fail
      go_ret
      exact ⟨ret_bool ((decide_eq_false (hDF (by simp [*]))).symm.trans HR2), hu.call hk⟩
    · skip
      subst h0
      subst h1
      subst h2
      go_wp2_with fail
      refine wp_region_plan [.val (.slice (some ⟨b, q, none⟩) n c), .val (.int .i64 ((k : Int))), .val (.pointer (some ⟨b, q + k * 6, none⟩)), .val (.agg #[.int .i64 p, .int .i64 o, .int .i64 f, .int .i64 m, .int .i64 g, .string s]), .val (.slice (some ⟨b', q', none⟩) n c'), .val (.int .i64 ((k : Int))), .val (.pointer (some ⟨b', q' + k * 6, none⟩)), .val (.agg #[.int .i64 p, .int .i64 o, .int .i64 f, .int .i64 m', .int .i64 g', .string s']), .val (.bool true)] (by kernel_rfl) (by kernel_rfl) (by kernel_rfl) ?_
      intro X
      iterate 9
        refine plan_val (by kernel_rfl) (fun u hu => ?_) ?_
        · obtain ⟨hc, hf, hz⟩ := hu.of_drew.facts
          go_simp
        simp only [Act.put, List.setIfInBounds_toArray, List.set_cons_zero, List.set_cons_succ, Nat.reduceAdd]
      refine plan_end ?_
      intro w' hB
      have hk := hB.calm.of_drew
      clear hB
      go_wp2_with fail
      go_ret
      exact ⟨ret_bool ((decide_eq_false (hDF (by simp [*]))).symm.trans HR2), hu.call hk⟩
    · skip
      subst h0
      subst h1
      subst h2
      subst h3
      go_wp2_with fail
      refine wp_region_plan [.val (.slice (some ⟨b, q, none⟩) n c), .val (.int .i64 ((k : Int))), .val (.pointer (some ⟨b, q + k * 6, none⟩)), .val (.agg #[.int .i64 p, .int .i64 o, .int .i64 f, .int .i64 m, .int .i64 g, .string s]), .val (.slice (some ⟨b', q', none⟩) n c'), .val (.int .i64 ((k : Int))), .val (.pointer (some ⟨b', q' + k * 6, none⟩)), .val (.agg #[.int .i64 p, .int .i64 o, .int .i64 f, .int .i64 m, .int .i64 g', .string s']), .val (.bool true)] (by kernel_rfl) (by kernel_rfl) (by kernel_rfl) ?_
      intro X
      iterate 9
        refine plan_val (by kernel_rfl) (fun u hu => ?_) ?_
        · obtain ⟨hc, hf, hz⟩ := hu.of_drew.facts
          go_simp
        simp only [Act.put, List.setIfInBounds_toArray, List.set_cons_zero, List.set_cons_succ, Nat.reduceAdd]
      refine plan_end ?_
      intro w' hB
      have hk := hB.calm.of_drew
      clear hB
      go_wp2_with fail
      go_ret
      exact ⟨ret_bool ((decide_eq_false (hDF (by simp [*]))).symm.trans HR2), hu.call hk⟩
    · skip
      subst h0
      subst h1
      subst h2
      subst h3
      subst h4
      have hs1 : (s.toList == s'.toList) = false := str_ne h5
      go_wp2_with fail
      refine wp_region_plan [.val (.slice (some ⟨b, q, none⟩) n c), .val (.int .i64 ((k : Int))), .val (.pointer (some ⟨b, q + k * 6, none⟩)), .val (.agg #[.int .i64 p, .int .i64 o, .int .i64 f, .int .i64 m, .int .i64 g, .string s]), .val (.slice (some ⟨b', q', none⟩) n c'), .val (.int .i64 ((k : Int))), .val (.pointer (some ⟨b', q' + k * 6, none⟩)), .val (.agg #[.int .i64 p, .int .i64 o, .int .i64 f, .int .i64 m, .int .i64 g, .string s']), .val (.bool true)] (by kernel_rfl) (by kernel_rfl) (by kernel_rfl) ?_
      intro X
      iterate 9
        refine plan_val (by kernel_rfl) (fun u hu => ?_) ?_
        · obtain ⟨hc, hf, hz⟩ := hu.of_drew.facts
          go_simp
        simp only [Act.put, List.setIfInBounds_toArray, List.set_cons_zero, List.set_cons_succ, Nat.reduceAdd]
      refine plan_end ?_
      intro w' hB
      have hk := hB.calm.of_drew
      clear hB
      clear hs1
      go_wp2_with fail
      go_ret
      exact ⟨ret_bool ((decide_eq_false (hDF (by simp [*]))).symm.trans HR2), hu.call hk⟩
    · skip
      subst h0
      subst h1
      subst h2
      subst h3
      subst h4
      subst h5
      have hN2 := hN1 rfl
      clear hN1 hDF
      go_wp2_with fail
      refine wp_region_plan [.val (.slice (some ⟨b, q, none⟩) n c), .val (.int .i64 ((k : Int))), .val (.pointer (some ⟨b, q + k * 6, none⟩)), .val (.agg #[.int .i64 p, .int .i64 o, .int .i64 f, .int .i64 m, .int .i64 g, .string s]), .val (.slice (some ⟨b', q', none⟩) n c'), .val (.int .i64 ((k : Int))), .val (.pointer (some ⟨b', q' + k * 6, none⟩)), .val (.agg #[.int .i64 p, .int .i64 o, .int .i64 f, .int .i64 m, .int .i64 g, .string s]), .val (.bool false)] (by kernel_rfl) (by kernel_rfl) (by kernel_rfl) ?_
      intro X
      iterate 9
        refine plan_val (by kernel_rfl) (fun u hu => ?_) ?_
        · obtain ⟨hc, hf, hz⟩ := hu.of_drew.facts
          go_simp
        simp only [Act.put, List.setIfInBounds_toArray, List.set_cons_zero, List.set_cons_succ, Nat.reduceAdd]
      refine plan_end ?_
      intro w' hB
      have hk := hB.calm.of_drew
      clear hB
      go_wp2_with fail
      go_roundw
      case rel => exact ⟨k + 1, by omega, by go_num, hu.call hk, hN2⟩
      case measure => simp [intOf]; omega
theorem equal_self (A A' : Option Addr) (c c' : Nat) (l : List El) (w : World) (hn : l.length ≤ 9223372036854775807) (hL : Lies w A l) (hL' : Lies w A' l) :
    Calls Try.prog 14 #[.slice A l.length c, .slice A' l.length c'] w fun e w' => e = .returned (.bool true) ∧ Calm w w' := by
  have h := equal_any A A' c c' l l w hn hn hL hL'
  rw [decide_eq_true (rfl : l = l)] at h
  exact h
open Go.RowKit
def spl (cur : List Value) (o : Nat) (cs : List Value) : List Value := cur.take o ++ cs ++ cur.drop (o + cs.length)
theorem cellsOf_app (a b : List El) : cellsOf (a ++ b) = cellsOf a ++ cellsOf b := by unfold cellsOf; simp
theorem cellsOf_take {l : List El} {i : Nat} (hi : i ≤ l.length) : (cellsOf l).take (i * 6) = cellsOf (l.take i) := by
 have h := cellsOf_app (l.take i) (l.drop i)
 rw [List.take_append_drop] at h
 rw [h]
 exact List.take_left' (by rw [cellsOf_len, List.length_take]; congr 1; omega)
/-- A row whose first cells are those of l, in a block from base on. -/
theorem OwnR.row {base g cap : Nat} {w : World} {l : List El} {cur : List Value} (hb : base ≤ g) (hg : w.heap[g]? = some (.cells cur.toArray 34 (0, 0))) (hn : l.length ≤ cap) (hc : cap ≤ maxLen) (hs : cur.length = cap * 6) (ht : cur.take (l.length * 6) = cellsOf l) :
    OwnR base w (.slice (some ⟨g, 0, none⟩) l.length cap) l :=
  ⟨cellsOf_len l, .inr ⟨g, cap, cur.toArray, rfl, hb, hg, hn, hc, by simpa using hs, by simpa using ht⟩⟩
theorem spl_len {cur cs : List Value} {o : Nat} (h : o + cs.length ≤ cur.length) : (spl cur o cs).length = cur.length := by
 unfold spl; simp only [List.length_append, List.length_take, List.length_drop]; omega
theorem cellsOf_set : ∀ {l : List El} {i j : Nat} {u : Value} {x : El} (hi : i < l.length) (_ : j < 6) (_ : x.cells = l[i].cells.set j u), (cellsOf l).set (i * 6 + j) u = cellsOf (l.set i x)
 | [], _, _, _, _, hi, _, _ => absurd hi (by simp)
 |y :: l, 0, j, u, x, hi, hj, hx => by
  show (y.cells ++ cellsOf l).set (0 * 6 + j) u = x.cells ++ cellsOf l
  rw [Nat.zero_mul, Nat.zero_add, List.set_append_left _ _ (by rw [cells_len]; exact hj), hx]
  rfl
 |y :: l, i + 1, j, u, x, hi, hj, hx => by
  show (y.cells ++ cellsOf l).set ((i + 1) * 6 + j) u = y.cells ++ cellsOf (l.set i x)
  rw [List.set_append_right _ _ (by rw [cells_len]; omega), cells_len, show (i + 1) * 6 + j - 6 = i * 6 + j by omega]
  congr 1
  exact cellsOf_set (l := l) (i := i) (by simpa using hi) hj hx
/-- One field of a record is stored in an owned row. -/
theorem OwnR.set {base g n cap i j : Nat} {w : World} {l : List El} {u : Value} {x : El} (h : OwnR base w (.slice (some ⟨g, 0, none⟩) n cap) l) (hi : i < l.length) (hj : j < 6) (hx : x.cells = l[i].cells.set j u) :
    OwnR base (w.setCell ⟨g, i * 6 + j, none⟩ u) (.slice (some ⟨g, 0, none⟩) n cap) (l.set i x) := by
  have hn : n = l.length := by
    rcases h.2 with ⟨h1, _⟩ | ⟨g', cap', cur, h1, _⟩
    · cases h1
    · injection h1
  subst hn
  have h1 := (World.ownsRow.stored h (i * 6 + j) u).1
  unfold OwnR
  rw [List.length_set, ← cellsOf_set hi hj hx]
  exact h1
theorem OwnR.cell {base g n cap i : Nat} {w : World} {l : List El} (h : OwnR base w (.slice (some ⟨g, 0, none⟩) n cap) l) (hi : i < l.length) : ElAt w g (i * 6) l[i] ∧ (∀ j, w.frozen? ⟨g, j, none⟩ = false) ∧ base ≤ g ∧ g < w.heap.size ∧ n = l.length ∧ n ≤ cap := by
 have hn : n = l.length ∧ n ≤ cap := by
  rcases h.2 with ⟨h1, _⟩ | ⟨g', cap', cur, h1, _, _, h2, _⟩
  ·cases h1
  ·injection h1 with h3 h4 h5
   exact ⟨h4, by omega⟩
 obtain ⟨hn, hnc⟩ := hn
 subst hn
 have key : ∀ j, j < 6 → w.cell? ⟨g, i * 6 + j, none⟩ = l[i].cells[j]? := fun j hj => by
  rw [World.ownsRow.cellAt h (i * 6 + j) (by omega), cellsOf_at l i j _ (List.getElem?_eq_getElem hi) hj]
 have hlt := h.lt g rfl
 exact ⟨⟨key 0 (by omega), key 1 (by omega), key 2 (by omega), key 3 (by omega), key 4 (by omega), key 5 (by omega)⟩, fun j => World.ownsRow.frozenAt h j, hlt.1, hlt.2, rfl, hnc⟩
theorem OwnR.some {base : Nat} {w : World} {v : Value} {l : List El} (h : OwnR base w v l) (hl : 0 < l.length) : ∃ g cap, v = .slice (some ⟨g, 0, none⟩) l.length cap := by
 rcases h.2 with ⟨_, h1⟩ | ⟨g', cap', cur, h1, _⟩
 ·omega
 ·exact ⟨g', cap', h1⟩
theorem OwnR.reads {base n c : Nat} {A : Option Addr} {w : World} {l : List El} (h : OwnR base w (.slice A n c) l) (hw : ∀ e ∈ l, e.wf) : n = l.length ∧ Lies w A l := by
 obtain ⟨A', c', hv, _, _, hL⟩ := h.lies hw
 injection hv with h1 h2 h3
 subst h1
 exact ⟨h2, hL⟩
theorem Good.wf {l : List El} (h : Good l) : ∀ e ∈ l, e.wf := fun e he => by
 have := mem_bounds h he
 unfold El.wf; omega
open Go.RowKit
theorem ret_u16 {a b : Int} (h : a = b) : Ending.returned (.int .u16 a) = .returned (.int .u16 b) := by rw [h]
set_option maxHeartbeats 1000000 in
theorem shift_any (r : BitVec 16) (w : World) : Calls Try.prog 87 #[.int .u16 (r.toNat : Int)] w fun e w' => e = .returned (.int .u16 ((shB r).toNat : Int)) ∧ w = w' := by
 have hr := r.isLt
 by_cases h : 32768 ≤ r.toNat
 ·have H := Lib.hid (shB_top r h)
  generalize (shB r).toNat = z at H ⊢
  generalize r.toNat = n at *
  have b1 : ((n : Int) / 32768 == 1) = true := by rw [beq_iff_eq]; omega
  go_enter Try.func87, Try.ntmps87
  go_wp2
  go_ret
  refine ⟨ret_u16 ?_, rfl⟩
  rw [H.out, IntKind.wrap_u16, ← Go.u16_xor_nat _ _ (Nat.mod_lt _ (by decide)) (by decide)]
  congr 1
 ·have H := Lib.hid (shB_low r (by omega))
  generalize (shB r).toNat = z at H ⊢
  generalize r.toNat = n at *
  have b1 : ((n : Int) / 32768 == 1) = false := by rw [beq_eq_false_iff_ne]; omega
  go_enter Try.func87, Try.ntmps87
  go_wp2
  go_ret
  refine ⟨ret_u16 ?_, rfl⟩
  rw [H.out]
  omega
theorem shN_succ (n : Nat) (a : BitVec 16) : shN (n + 1) a = shB (shN n a) := (shB_shN n a).symm
theorem take_snoc (s : ByteArray) (k : Nat) (h : k < s.size) : s.data.toList.take (k + 1) = s.data.toList.take k ++ [s[k]] := by
 rw [List.take_succ_eq_append_getElem (by simpa using h)]; rfl
theorem byte_in (r : BitVec 16) (c : UInt8) : bits .xor .u16 (r.toNat : Int) ((c.toNat : Int) * 256) = ((r ^^^ (BitVec.ofNat 16 c.toNat <<< 8)).toNat : Int) := by
 have hc := c.toNat_lt
 have hr := r.isLt
 rw [stp_in, ← Go.u16_xor_nat _ _ hr (by omega)]
 congr 1
set_option maxHeartbeats 1000000 in
theorem sumOf_any (s : ByteArray) (w : World) (hs : s.size ≤ maxLen) : Calls Try.prog 77 #[.string s] w fun e w' => e = .returned (.int .i64 ((crc s.data.toList).toNat : Int)) ∧ w = w' := by
 unfold maxLen at hs
 go_enter Try.func77, Try.ntmps77
 go_wp2
 go_loop [3, 7] (fun r i => ∃ k : Nat, k ≤ s.size ∧ i = .int .i64 k ∧ r = .int .u16 ((crc (s.data.toList.take k)).toNat)) (fun _ i => s.size - (intOf i).toNat)
 case atStart => exact ⟨0, Nat.zero_le _, rfl, rfl⟩
 case round =>
  obtain ⟨k, hk, rfl, rfl⟩ := hrel
  have hr := (crc (s.data.toList.take k)).isLt
  by_cases hlt : k < s.size
  ·have hts := Lib.hid (take_snoc s k hlt)
   have hc := s[k].toNat_lt
   go_wp2
   go_loop [3, 17] (fun r i => ∃ j : Nat, j ≤ 8 ∧ i = .int .i64 j ∧ r = .int .u16 ((shN j (crc (s.data.toList.take k) ^^^ (BitVec.ofNat 16 s[k].toNat <<< 8))).toNat)) (fun _ i => 8 - (intOf i).toNat)
   case atStart => exact ⟨0, Nat.zero_le _, rfl, by rw [byte_in]; rfl⟩
   case round =>
    obtain ⟨j, hj, rfl, rfl⟩ := hrel
    have hr2 := (shN j (crc (s.data.toList.take k) ^^^ (BitVec.ofNat 16 s[k].toNat <<< 8))).isLt
    have hsu := Lib.hid (shN_succ j (crc (s.data.toList.take k) ^^^ (BitVec.ofNat 16 s[k].toNat <<< 8)))
    by_cases hj8 : j < 8
    ·go_wp2_with (go_at_call 87; refine (shift_any _ _).mono ?_; rintro e w1 ⟨rfl, rfl⟩)
     go_round
     case rel => exact ⟨j + 1, by omega, by go_num, by rw [hsu.out]⟩
     case measure => simp [intOf]; omega
    ·obtain rfl : 8 = j := by omega
     go_wp2
     go_round
     case rel => exact ⟨k + 1, by omega, by go_num, by rw [hts.out, crc_snoc]; rfl⟩
     case measure => simp [intOf]; omega
  ·go_wp2
   go_ret
   exact ⟨ret_int (by rw [List.take_of_length_le (by simp; omega)]), rfl⟩
open Go.RowKit
theorem bitN_in (s : ByteArray) (k : Nat) (h : k < 8 * s.size) : (s[k / 8]'(by omega)).toNat >>> (7 - k % 8) % 2 = bitN s.data.toList k := by
 unfold bitN
 have hl : s.data.toList.length = s.size := by simp
 rw [if_pos (by omega), List.getElem?_eq_getElem (by omega)]
 rfl
theorem bitN_out (s : ByteArray) (k : Nat) (h : ¬ k < 8 * s.size) : bitN s.data.toList k = 0 := by
 unfold bitN
 have hl : s.data.toList.length = s.size := by simp
 rw [if_neg (by omega)]
set_option maxHeartbeats 1000000 in
theorem refSum_any (s : ByteArray) (w : World) (hs : s.size ≤ 140737488351232) : Calls Try.prog 68 #[.string s] w fun e w' => e = .returned (.int .i64 ((crc s.data.toList).toNat : Int)) ∧ w = w' := by
 go_enter Try.func68, Try.ntmps68
 go_wp2
 go_loop [3, 10] (fun r i => ∃ k : Nat, k ≤ 8 * (s.size + 2) ∧ i = .int .i64 k ∧ r = .int .i64 ((refS s.data.toList k).toNat)) (fun _ i => 8 * (s.size + 2) - (intOf i).toNat)
 case atStart => exact ⟨0, Nat.zero_le _, rfl, rfl⟩
 case round =>
  obtain ⟨k, hk, rfl, rfl⟩ := hrel
  have hr := (refS s.data.toList k).isLt
  have hb := bitN_lt s.data.toList k
  by_cases hlt : k < 8 * (s.size + 2)
  ·by_cases hin : k < 8 * s.size
   ·have hkd : k / 8 < s.size := by omega
    have B : Hid (_ = _) := Lib.hid ((bit_of s[k / 8] (7 - k % 8)).trans (congrArg Int.ofNat (bitN_in s k hin)))
    go_wp2
    all_goals
     rename_i htest
     rw [B.out] at htest
     go_round
     case rel => exact ⟨k + 1, by omega, by go_num, by rw [B.out]; first | (congr 1; exact ref_low _ _ hb htest) | (congr 1; exact ref_top _ _ hb htest)⟩
     case measure => simp [intOf]; omega
   ·have hrs : refS s.data.toList (k + 1) = shB (refS s.data.toList k) := by rw [refS, bitN_out s k hin]; simp
    have B := Lib.hid hrs
    have hin' : 8 * s.size ≤ k := by omega
    clear hin hr hrs hb
    have E := Lib.hid (rfl : (refS s.data.toList k).toNat = (refS s.data.toList k).toNat)
    revert E
    generalize hn : (refS s.data.toList k).toNat = n
    intro E
    rw [← hn] at E
    have E' : Hid ((refS s.data.toList k).toNat = n) := Lib.hid hn
    clear hn E
    go_wp2
    all_goals
     rename_i htest
     rw [← E'.out] at htest ⊢
     go_round
     case rel => exact ⟨k + 1, by omega, by go_num, by rw [B.out]; first | (congr 1; exact ref_low0 _ htest) | (congr 1; exact ref_top0 _ htest)⟩
     case measure => simp [intOf]; omega
  ·obtain rfl : k = 8 * (s.size + 2) := by omega
   go_wp2
   go_ret
   have hl : s.data.toList.length = s.size := by simp
   exact ⟨ret_int (by rw [← hl, refS_crc]), rfl⟩
open Go.RowKit
def frS (k : Int) (s : ByteArray) : ByteArray := if frErr k s.size = 0 then ⟨(encF k.toNat s.data.toList).toArray⟩ else { data := #[] }
def FPutEnd (k : Int) (s : ByteArray) (w : World) (e : Ending) (w' : World) : Prop := e = .returned (.tuple #[.string (frS k s), .int .i64 (frErr k s.size)]) ∧ Calm w w'
theorem row2 {w : World} {g t : Nat} {a b : Value} {fr : Nat × Nat} (h : w.heap[g]? = some (.cells #[a, b] t fr)) : w.cell? ⟨g, 0, none⟩ = some a ∧ w.cell? ⟨g, 1, none⟩ = some b ∧ g < w.heap.size :=
 ⟨cell_of_row _ _ 0 _ _ _ h, cell_of_row _ _ 1 _ _ _ h, (Array.getElem?_eq_some_iff.1 h).1⟩
theorem heap_new3 (w : World) (o o' o'' : Obj) : (((w.alloc o).alloc o').alloc o'').heap[w.heap.size + 1 + 1]? = some o'' := by simpa using heap_new ((w.alloc o).alloc o') o''
theorem bytes_size (l : List UInt8) : (⟨l.toArray⟩ : ByteArray).size = l.length := by show l.toArray.size = _; simp
theorem bytes_list (l : List UInt8) : (⟨l.toArray⟩ : ByteArray).data.toList = l := by simp
set_option maxHeartbeats 8000000 in
theorem framePut_any (k : Int) (s : ByteArray) (w : World) : Calls Try.prog 74 #[.agg #[.int .i64 k, .string s]] w (FPutEnd k s w) := by
 have hx := heap_new w (.cells #[.int .i64 k, .string s] 73)
 have hu := (Calm.refl w).alloc (.cells #[.int .i64 k, .string s] 73)
 by_cases h1 : k < 1 ∨ 255 < k
 ·have e1 : frErr k s.size = 1 := if_pos h1
  have e2 : FPutEnd k s w = fun e w' => e = .returned (.tuple #[.string { data := #[] }, .int .i64 1]) ∧ Calm w w' := by
   funext e w'; simp [FPutEnd, frS, e1]
  rw [e2]
  clear e1 e2
  rcases h1 with h1 | h1
  ·obtain ⟨x0, x1, hxs⟩ := row2 hx
   go_enter Try.func74, Try.ntmps74
   go_wp2
   go_ret2
   exact ⟨rfl, hu⟩
  ·obtain ⟨x0, x1, hxs⟩ := row2 hx
   have h1' : (1 : Int) ≤ k := by omega
   go_enter Try.func74, Try.ntmps74
   go_wp2
   go_ret2
   exact ⟨rfl, hu⟩
 have h1' : (1 : Int) ≤ k := by omega
 have h2' : k ≤ (255 : Int) := by omega
 by_cases h3 : 3000 < s.size
 ·have e1 : frErr k s.size = 2 := by unfold frErr; rw [if_neg h1, if_pos h3]
  have e2 : FPutEnd k s w = fun e w' => e = .returned (.tuple #[.string { data := #[] }, .int .i64 2]) ∧ Calm w w' := by
   funext e w'; simp [FPutEnd, frS, e1]
  rw [e2]
  clear e1 e2 h1
  have h3' : (3000 : Int) < s.size := by omega
  obtain ⟨x0, x1, hxs⟩ := row2 hx
  go_enter Try.func74, Try.ntmps74
  go_wp2
  go_ret2
  exact ⟨rfl, hu⟩
 have h3' : (s.size : Int) ≤ 3000 := by omega
 have h3n : s.size ≤ 3000 := by omega
 have e1 : frErr k s.size = 0 := by unfold frErr; rw [if_neg h1, if_neg h3]
 have hW : Hid (frS k s = ⟨(encF k.toNat s.data.toList).toArray⟩) := by show _ = _; unfold frS; exact if_pos e1
 have G : FPutEnd k s w = fun e w' => e = .returned (.tuple #[.string (frS k s), .int .i64 0]) ∧ Calm w w' := by
  funext e w'; simp [FPutEnd, e1]
 rw [G]
 generalize frS k s = W at hW ⊢
 clear G e1 h1 h3
 obtain ⟨K, rfl⟩ : ∃ n : Nat, k = (n : Int) := ⟨k.toNat, by omega⟩
 have i8 : IntKind.u8.wrap (K : Int) = (K : Int) := IntWalk.u8_in _ (by omega)
 have hmk := fun u => makeRoom u ((3 : Int) + (s.size : Int) + 2) (5 + s.size) (by omega) (by omega)
 have hsl : s.data.toList.length = s.size := by simp
 have hx0 := hx
 obtain ⟨x0, x1, hxs⟩ := row2 hx
 have cS := fun u => sumOf_any ⟨(frHead K s.data.toList).toArray⟩ u (by rw [bytes_size, frHead_length]; simp only [maxLen]; omega)
 rw [bytes_list] at cS
 have hC := (crc (frHead K s.data.toList)).isLt
 have hE : Hid (W = ⟨(frHead K s.data.toList ++ be 2 (crc (frHead K s.data.toList)).toNat).toArray⟩) := by show _ = _; rw [hW.out]; rfl
 have hH : Hid ([] ++ [UInt8.ofNat (K : Int).toNat] ++ be 2 s.size ++ s.data.toList = frHead K s.data.toList) := by show _ = _; rw [frHead, be1 K (by omega), hsl]; simp
 have hHl := frHead_length K s.data.toList
 generalize (crc (frHead K s.data.toList)).toNat = C at cS hC hE
 generalize frHead K s.data.toList = H at cS hE hH hHl
 clear hW
 have hv := (Calm.refl (w.alloc (.cells #[.int .i64 (K : Int), .string s] 73))).alloc (.cells (bv (List.replicate (5 + s.size) 0)).toArray 5)
 have ho0 := (OwnB.made (w.heap.size + 1) (w.alloc (.cells #[.int .i64 (K : Int), .string s] 73)) (5 + s.size) (by simp) (by omega))
 simp only [World.size_alloc] at ho0
 have ho := Lib.hid ho0
 clear ho0
 go_enter Try.func74, Try.ntmps74
 go_wp2_with (first
  |(at_builtin; refine wpList_append_st rfl _ _ rfl (w.heap.size + 1) _ _ rfl ho.out _ rfl ?_ ?_ ?_; (· simp [be_length]; omega); (· omega); intro v' w9 ho9 hc9; replace hv := hc9 (w.alloc (.cells #[.int .i64 (K : Int), .string s] 73)) (by simp) hv; replace hx := (hv.block (by simp)).trans hx0; have hvs := hv.size; simp only [World.size_alloc] at hvs; rw [hH.out] at ho9; replace ho := Lib.hid ho9; clear ho9 hc9; have hcv := ho.out.str (by rw [hHl]; omega); obtain ⟨x0, x1, hxs⟩ := row2 hx)
  |(go_at_call 75; refine (appendNum2_any (w.heap.size + 1) _ _ _ _ ?_ ho.out ?_ ?_).mono ?_; (· omega); (· first | (rw [hHl]; omega) | simp); (· omega); rintro e w9 ⟨v', rfl, ho9, hc9⟩; replace hv := hc9 (w.alloc (.cells #[.int .i64 (K : Int), .string s] 73)) (by simp) hv; replace hx := (hv.block (by simp)).trans hx0; have hvs := hv.size; simp only [World.size_alloc] at hvs; replace ho := Lib.hid ho9; clear ho9 hc9; have hcv := ho.out.str (by rw [List.length_append, be_length]; omega); obtain ⟨x0, x1, hxs⟩ := row2 hx)
  |(at_builtin; go_must (refine wpList_append_b1 rfl _ _ rfl (w.heap.size + 1) _ _ rfl (ho.out.calm ((Calm.refl _).alloc _)) _ _ _ _ rfl (heap_new3 _ _ _ _) ?_ ?_ ?_ ?_); (· omega); (· simp only [List.length_nil]; omega); (· simp only [World.size_alloc]; omega); intro v' w9 ho9 hc9; replace hv := hc9 (w.alloc (.cells #[.int .i64 (K : Int), .string s] 73)) (by simp) (hv.alloc _); replace hx := (hv.block (by simp)).trans hx0; have hvs := hv.size; simp only [World.size_alloc] at hvs; replace ho := Lib.hid ho9; clear ho9 hc9; obtain ⟨x0, x1, hxs⟩ := row2 hx)
  |(go_at_call 77; refine (cS _).mono ?_; rintro e w1 ⟨rfl, rfl⟩))
 have hu9 := ((Calm.refl w).alloc (.cells #[.int .i64 (K : Int), .string s] 73)).call hv
 go_ret2
 exact ⟨by rw [hE.out]; rfl, hu9⟩
open Go.RowKit
theorem big_at (k n : Nat) (z : Int) (hz : (k : Int) = z) (B : ByteArray) (hB : (⟨(be k n).toArray⟩ : ByteArray) = B) (hk : k ≤ 4) (hn : n < 4294967296) (w : World) : Calls Try.prog 37 #[.int .i64 (n : Int), .int .i64 z] w fun e w' => e = .returned (.string B) ∧ Calm w w' :=
 hz ▸ hB ▸ big_any k n w hk hn
set_option maxHeartbeats 8000000 in
theorem refFrame_any (k : Int) (s : ByteArray) (w : World) : Calls Try.prog 60 #[.agg #[.int .i64 k, .string s]] w (FPutEnd k s w) := by
 have hx := heap_new w (.cells #[.int .i64 k, .string s] 73)
 have hu := (Calm.refl w).alloc (.cells #[.int .i64 k, .string s] 73)
 by_cases h1 : k < 1 ∨ 255 < k
 ·have e1 : frErr k s.size = 1 := if_pos h1
  have e2 : FPutEnd k s w = fun e w' => e = .returned (.tuple #[.string { data := #[] }, .int .i64 1]) ∧ Calm w w' := by
   funext e w'; simp [FPutEnd, frS, e1]
  rw [e2]
  clear e1 e2
  rcases h1 with h1 | h1
  ·obtain ⟨x0, x1, hxs⟩ := row2 hx
   go_enter Try.func60, Try.ntmps60
   go_wp2
   go_ret2
   exact ⟨rfl, hu⟩
  ·obtain ⟨x0, x1, hxs⟩ := row2 hx
   have h1' : (1 : Int) ≤ k := by omega
   go_enter Try.func60, Try.ntmps60
   go_wp2
   go_ret2
   exact ⟨rfl, hu⟩
 have h1' : (1 : Int) ≤ k := by omega
 have h2' : k ≤ (255 : Int) := by omega
 by_cases h3 : 3000 < s.size
 ·have e1 : frErr k s.size = 2 := by unfold frErr; rw [if_neg h1, if_pos h3]
  have e2 : FPutEnd k s w = fun e w' => e = .returned (.tuple #[.string { data := #[] }, .int .i64 2]) ∧ Calm w w' := by
   funext e w'; simp [FPutEnd, frS, e1]
  rw [e2]
  clear e1 e2 h1
  have h3' : (3000 : Int) < s.size := by omega
  obtain ⟨x0, x1, hxs⟩ := row2 hx
  go_enter Try.func60, Try.ntmps60
  go_wp2
  go_ret2
  exact ⟨rfl, hu⟩
 have h3' : (s.size : Int) ≤ 3000 := by omega
 have e1 : frErr k s.size = 0 := by unfold frErr; rw [if_neg h1, if_neg h3]
 have hW : Hid (frS k s = ⟨(encF k.toNat s.data.toList).toArray⟩) := by show _ = _; unfold frS; exact if_pos e1
 have G : FPutEnd k s w = fun e w' => e = .returned (.tuple #[.string (frS k s), .int .i64 0]) ∧ Calm w w' := by
  funext e w'; simp [FPutEnd, e1]
 rw [G]
 generalize frS k s = W at hW ⊢
 clear G e1 h1
 obtain ⟨K, rfl⟩ : ∃ n : Nat, k = (n : Int) := ⟨k.toNat, by omega⟩
 have hsl : s.data.toList.length = s.size := by simp
 obtain ⟨x0, x1, hxs⟩ := row2 hx
 obtain ⟨H, hH⟩ : ∃ H, (⟨(frHead K s.data.toList).toArray⟩ : ByteArray) = H := ⟨_, rfl⟩
 obtain ⟨C, hC⟩ : ∃ C, (crc (frHead K s.data.toList)).toNat = C := ⟨_, rfl⟩
 have hC6 : C < 65536 := by rw [← hC]; exact (crc (frHead K s.data.toList)).isLt
 have hHl : H.size = 3 + s.size := by rw [← hH, bytes_size, frHead_length, hsl]
 have hHd : H.data.toList = frHead K s.data.toList := by rw [← hH]
 have cS := fun u => calls_calm (refSum_any H u (by omega))
 rw [hHd, hC] at cS
 obtain ⟨B1, hB1⟩ : ∃ B, (⟨(be 1 K).toArray⟩ : ByteArray) = B := ⟨_, rfl⟩
 obtain ⟨B2, hB2⟩ : ∃ B, (⟨(be 2 s.size).toArray⟩ : ByteArray) = B := ⟨_, rfl⟩
 obtain ⟨B3, hB3⟩ : ∃ B, (⟨(be 2 C).toArray⟩ : ByteArray) = B := ⟨_, rfl⟩
 have c1 := fun u => big_at 1 K 1 rfl B1 hB1 (by omega) (by omega) u
 have c2 := fun u => big_at 2 s.size 2 rfl B2 hB2 (by omega) (by omega) u
 have c3 := fun u => big_at 2 C 2 rfl B3 hB3 (by omega) (by omega) u
 have z1 : B1.size = 1 := by rw [← hB1, bytes_size, be_length]
 have z2 : B2.size = 2 := by rw [← hB2, bytes_size, be_length]
 have z3 : B3.size = 2 := by rw [← hB3, bytes_size, be_length]
 have hj : B1 ++ B2 ++ s = H := by
  rw [← hB1, ← hB2, ← hH]
  apply ByteArray.ext
  rw [ByteArray.data_append, ByteArray.data_append]
  apply Array.toList_inj.1
  simp [frHead]
 have hE : Hid (H ++ B3 = W) := by
  show _ = _
  rw [hW.out, ← hH, ← hB3]
  apply ByteArray.ext
  rw [ByteArray.data_append]
  apply Array.toList_inj.1
  simp [encF, hC]
 clear hW hB1 hB2 hB3 hH hC hHd
 go_enter Try.func60, Try.ntmps60
 go_wp2_with fail
 refine wp_region_plan [.val (.pointer (some ⟨w.heap.size, 0, none⟩)), .val (.int .i64 (K)), .val (.string B1), .val (.pointer (some ⟨w.heap.size, 1, none⟩)), .val (.string s), .val (.int .i64 ((s.size : Int))), .val (.string B2), .val (.string (B1 ++ B2)), .val (.pointer (some ⟨w.heap.size, 1, none⟩)), .val (.string s), .val (.string H), .val (.string H)] (by kernel_rfl) (by kernel_rfl) (by kernel_rfl) ?_
 intro X
 iterate 12
  refine plan_val (by kernel_rfl) (fun u hu => ?_) ?_
  ·obtain ⟨hc, hf, hz⟩ := hu.of_drew.facts
   go_simp
   all_goals first
    |((go_at_call 37; first | (with_reducible exact c1 _) | (with_reducible exact c2 _)))
    |((rw [if_neg (by omega)]; go_simp))
  simp only [Act.put, List.setIfInBounds_toArray, List.set_cons_zero, List.set_cons_succ, Nat.reduceAdd]
 refine plan_end ?_
 intro w' hB
 have hk := hB.calm.of_drew
 clear hB
 replace hu := hu.call hk
 have hsm : ¬ 140737488355328 ≤ H.size + B3.size := by omega
 go_wp2_with (first
  |(go_at_call 68; refine (cS _).mono ?_; rintro e w1 ⟨rfl, hb1⟩; replace hu := hu.call hb1; clear hb1)
  |(go_at_call 37; refine (c3 _).mono ?_; rintro e w1 ⟨rfl, hb1⟩; replace hu := hu.call hb1; clear hb1))
 go_ret2
 exact ⟨by rw [← hE.out]; rfl, hu⟩
def spanErr (p f t : Int) : Int := if 0 ≤ p ∧ p ≤ 15 then (if 0 ≤ f ∧ f ≤ t ∧ t ≤ 2147483647 then 0 else 9) else 1
theorem spanErr_zero {p f t : Int} : spanErr p f t = 0 ↔ 0 ≤ p ∧ p ≤ 15 ∧ 0 ≤ f ∧ f ≤ t ∧ t ≤ 2147483647 := by
 unfold spanErr
 by_cases h1 : 0 ≤ p ∧ p ≤ 15
 ·rw [if_pos h1]
  by_cases h2 : 0 ≤ f ∧ f ≤ t ∧ t ≤ 2147483647
  ·rw [if_pos h2]; simp only [true_iff]; omega
  ·rw [if_neg h2]; simp only [Int.reduceEq, false_iff]; omega
 ·rw [if_neg h1]; simp only [Int.reduceEq, false_iff]; omega
def cutGone (t : Int) (e : El) : El := if t < e.g then { e with g := 0 } else e
def inU (p t : Int) (e : El) : Bool := decide (e.p = p ∧ e.m ≤ t)
def uptoL (l : List El) (p t : Int) : List El := (l.filter (inU p t)).map (cutGone t)
def isOld (f : Int) (e : El) : Bool := decide (e.last ≤ f)
def freshL (l : List El) (p f t : Int) : List El := (uptoL l p t).filter fun e => !isOld f e
def uptoErr (l : List El) (p t : Int) : Int := if runErr l = 0 then spanErr p 0 t else runErr l
def readErr (l : List El) (p f t : Int) : Int := if runErr l = 0 then spanErr p f t else runErr l
theorem cut_key (t : Int) (e : El) : (cutGone t e).key = e.key := by unfold cutGone; split <;> rfl
theorem cut_m (t : Int) (e : El) : (cutGone t e).m = e.m := by unfold cutGone; split <;> rfl
theorem cut_p (t : Int) (e : El) : (cutGone t e).p = e.p := by unfold cutGone; split <;> rfl
theorem cut_g (t : Int) (e : El) : (cutGone t e).g = if t < e.g then 0 else e.g := by unfold cutGone; split <;> rfl
theorem upto_mem {l : List El} {p t : Int} {e : El} : e ∈ uptoL l p t ↔ ∃ x ∈ l, x.p = p ∧ x.m ≤ t ∧ cutGone t x = e := by
 unfold uptoL inU
 rw [List.mem_map]
 constructor
 ·rintro ⟨x, hx, h⟩
  rw [List.mem_filter, decide_eq_true_eq] at hx
  exact ⟨x, hx.1, hx.2.1, hx.2.2, h⟩
 ·rintro ⟨x, hx, h1, h2, h⟩
  exact ⟨x, by rw [List.mem_filter, decide_eq_true_eq]; exact ⟨hx, h1, h2⟩, h⟩
theorem upto_take {l : List El} {k : Nat} {e : El} (h : l[k]? = some e) (p t : Int) : uptoL (l.take (k + 1)) p t = uptoL (l.take k) p t ++ (if inU p t e = true then [cutGone t e] else []) := by
 unfold uptoL
 rw [take_snoc3 h, List.filter_append, List.map_append]
 congr 1
 cases hi : inU p t e <;> simp [hi]
theorem upto_len (l : List El) (p t : Int) : (uptoL l p t).length ≤ l.length := by
 unfold uptoL; rw [List.length_map]; exact List.length_filter_le _ _
theorem last_cut {t : Int} {e : El} (h : e.m ≤ t) (ht : 0 ≤ t) : (cutGone t e).last ≤ t := last_le (by rw [cut_m]; exact h) (by rw [cut_g]; split <;> omega)
theorem cut_err {t : Int} {e : El} (h : e.err = 0) : (cutGone t e).err = 0 := by
 unfold El.err at *
 rw [elemErr_zero] at *
 unfold cutGone
 split
 ·refine ⟨h.1, ?_, h.2.2⟩
  have := h.2.1
  unfold timeOk at *; exact ⟨this.1, this.2.1, .inl rfl⟩
 ·exact h
theorem cut_fol {t : Int} {a b : El} (h : Fol a b) (hb : b.m ≤ t) : Fol (cutGone t a) (cutGone t b) := by
 refine ⟨by rw [cut_key, cut_key, cut_m, cut_m]; exact h.1, fun hk => ?_⟩
 rw [cut_key, cut_key] at hk
 have := h.2 hk
 rw [cut_g, cut_m, if_neg (by omega)]
 exact this
theorem upto_good {l : List El} (h : Good l) (p t : Int) : Good (uptoL l p t) := by
 refine ⟨Nat.le_trans (upto_len l p t) h.1, fun e he => ?_, ?_⟩
 ·obtain ⟨x, hx, _, _, rfl⟩ := upto_mem.1 he
  exact cut_err (h.2.1 x hx)
 ·unfold uptoL
  rw [List.pairwise_map]
  refine List.Pairwise.imp_of_mem (fun {a b} ha hb hF => ?_) (h.2.2.sublist (List.filter_sublist (p := inU p t)))
  have := (List.mem_filter.1 hb).2
  unfold inU at this; rw [decide_eq_true_eq] at this
  exact cut_fol hF this.2
theorem fresh_sub (l : List El) (p f t : Int) : (freshL l p f t).Sublist (uptoL l p t) := List.filter_sublist
theorem fresh_mem {l : List El} {p f t : Int} {e : El} : e ∈ freshL l p f t ↔ e ∈ uptoL l p t ∧ f < e.last := by
 unfold freshL isOld
 rw [List.mem_filter]
 simp
theorem rise_of {l : List El} (h : Good l) : l.Pairwise Rise := Fol.rise h.2.2
def Strm (p f t : Int) (l : List El) : Prop := l.Pairwise Rise ∧ ∀ e ∈ l, e.err = 0 ∧ e.p = p ∧ f < e.last ∧ e.last ≤ t
theorem fresh_strm {l : List El} (h : Good l) (p f t : Int) : Strm p f t (freshL l p f t) := by
 have hG := upto_good h p t
 refine ⟨(rise_of hG).sublist (fresh_sub l p f t), fun e he => ?_⟩
 obtain ⟨h1, h2⟩ := fresh_mem.1 he
 obtain ⟨x, hx, hp, hm, rfl⟩ := upto_mem.1 h1
 exact ⟨cut_err (h.2.1 x hx), by rw [cut_p]; exact hp, h2, last_cut hm (by have := (err_zero (h.2.1 x hx)).2.2.2.2.2.2.1; omega)⟩
theorem fresh_len (l : List El) (p f t : Int) : (freshL l p f t).length ≤ l.length := Nat.le_trans (List.length_filter_le _ _) (upto_len l p t)
def encN3 (p f t : Int) : List UInt8 := be 4 p.toNat ++ (be 4 f.toNat ++ be 4 t.toNat)
def frE (e : El) : List UInt8 := encF 2 (enc e)
def strB (p f t : Int) (l : List El) : List UInt8 := encF 1 (encN3 p f t) ++ (l.flatMap frE ++ encF 3 (be 4 l.length))
theorem encN3_length (p f t : Int) : (encN3 p f t).length = 12 := by simp [encN3, be_length]
theorem frE_length {e : El} (h : e.err = 0) : 23 ≤ (frE e).length ∧ (frE e).length ≤ 63 := by
 have := (err_zero h).2.2.2.2.2.2.2.2.2.2
 rw [frE, encF_length, enc_length]; omega
theorem flat_length : ∀ {l : List El}, (∀ e ∈ l, e.err = 0) → (l.flatMap frE).length ≤ 63 * l.length
 | [], _ => by simp
 |e :: l, h => by
  have h1 := (frE_length (h e (by simp))).2
  have h2 := flat_length (l := l) fun x hx => h x (by simp [hx])
  rw [List.flatMap_cons, List.length_append, List.length_cons]; omega
theorem flat_snoc (l : List El) (e : El) : (l ++ [e]).flatMap frE = l.flatMap frE ++ frE e := by simp
open Go.RowKit
theorem span1 {p f t : Int} (h : p < 0 ∨ 15 < p) : 1 = spanErr p f t := by unfold spanErr; rw [if_neg (by omega)]
theorem span9 {p f t : Int} (h : 0 ≤ p) (h2 : p ≤ 15) (h3 : f < 0 ∨ t < f ∨ 2147483647 < t) : 9 = spanErr p f t := by unfold spanErr; rw [if_pos ⟨h, h2⟩, if_neg (by omega)]
theorem span0 {p f t : Int} (h : 0 ≤ p) (h2 : p ≤ 15) (h3 : 0 ≤ f) (h4 : f ≤ t) (h5 : t ≤ 2147483647) : 0 = spanErr p f t := (spanErr_zero.2 ⟨h, h2, h3, h4, h5⟩).symm
set_option maxHeartbeats 1000000 in
theorem batCheck_any (p f t : Int) (w : World) : Calls Try.prog 25 #[.int .i64 p, .int .i64 f, .int .i64 t] w fun e w' => e = .returned (.int .i64 (spanErr p f t)) ∧ Calm w w' := by
 go_enter Try.func25, Try.ntmps25
 go_wp2
 all_goals
  go_ret
  exact ⟨ret_int (by first | exact span1 (by omega) | exact span9 (by omega) (by omega) (by omega) | exact span0 (by omega) (by omega) (by omega) (by omega) (by omega)), by repeat (first | (with_reducible exact Calm.refl _) | (with_reducible refine Calm.alloc ?_ _) | (with_reducible refine Calm.drew ?_) | (with_reducible refine Calm.drewN ?_ _) | (refine Calm.call ?_ (by with_reducible assumption)))⟩
set_option maxHeartbeats 1000000 in
theorem refSpan_any (p f t : Int) (w : World) : Calls Try.prog 13 #[.int .i64 p, .int .i64 f, .int .i64 t] w fun e w' => e = .returned (.int .i64 (spanErr p f t)) ∧ Calm w w' := by
 have cB := fun u => between_any p 15 u
 by_cases hp : 0 ≤ p ∧ p ≤ 15
 ·rw [decide_eq_true hp] at cB
  obtain ⟨hp1, hp2⟩ := hp
  go_enter Try.func13, Try.ntmps13
  go_wp2_with (go_at_call 33; refine (cB _).mono ?_; rintro e w1 ⟨rfl, rfl⟩)
  all_goals
   go_ret
   exact ⟨ret_int (by first | exact span9 (by omega) (by omega) (by omega) | exact span0 (by omega) (by omega) (by omega) (by omega) (by omega)), by repeat (first | (with_reducible exact Calm.refl _) | (with_reducible refine Calm.alloc ?_ _) | (with_reducible refine Calm.drew ?_) | (with_reducible refine Calm.drewN ?_ _) | (refine Calm.call ?_ (by with_reducible assumption)))⟩
 ·rw [decide_eq_false hp] at cB
  have h1 := span1 (p := p) (f := f) (t := t) (by omega)
  rw [← h1]
  go_enter Try.func13, Try.ntmps13
  go_wp2_with (go_at_call 33; refine (cB _).mono ?_; rintro e w1 ⟨rfl, rfl⟩)
  go_ret
  exact ⟨rfl, by repeat (first | (with_reducible exact Calm.refl _) | (with_reducible refine Calm.alloc ?_ _) | (with_reducible refine Calm.drew ?_) | (with_reducible refine Calm.drewN ?_ _) | (refine Calm.call ?_ (by with_reducible assumption)))⟩
set_option maxHeartbeats 4000000 in
theorem batEncode_any (n : Nat) (w : World) (hn : n < 4294967296) : Calls Try.prog 55 #[.int .i64 (n : Int)] w fun e w' => e = .returned (.string ⟨(be 4 n).toArray⟩) ∧ Calm w w' := by
 have cN := appendNum4_any w.heap.size (.slice none 0 0) [] n w hn (OwnB.nil _ _) (by simp) (Nat.le_refl _)
 have hl : 0 < (be 4 n).length := by rw [be_length]; omega
 simp only [List.nil_append] at cN
 generalize be 4 n = B at cN hl ⊢
 clear hn
 go_enter Try.func55, Try.ntmps55
 go_wp2_with (go_at_call 75; refine cN.mono ?_; rintro e w1 ⟨v', rfl, ho, hc⟩; have hcv := ho.str hl; have hu := hc w (Nat.le_refl _) (Calm.refl _); clear hc ho)
 go_ret
 exact ⟨rfl, hu⟩
/-- A frame of a kind and a body that are right. -/
theorem framePut_good (k : Nat) (b : List UInt8) (hk : 1 ≤ k) (hk2 : k ≤ 255) (hb : b.length ≤ 3000) (K : Int) (hK : (k : Int) = K) (w : World) : Calls Try.prog 74 #[.agg #[.int .i64 K, .string ⟨b.toArray⟩]] w fun e w' => e = .returned (.tuple #[.string ⟨(encF k b).toArray⟩, .int .i64 0]) ∧ Calm w w' := by
 subst hK
 refine (framePut_any (k : Int) ⟨b.toArray⟩ w).mono fun e w' ⟨h1, h2⟩ => ⟨?_, h2⟩
 have e0 : frErr (k : Int) (⟨b.toArray⟩ : ByteArray).size = 0 := by rw [bytes_size]; unfold frErr; rw [if_neg (by omega), if_neg (by omega)]
 rw [h1, e0, frS, e0, if_pos rfl]
 simp
theorem refFrame_good (k : Nat) (b : List UInt8) (hk : 1 ≤ k) (hk2 : k ≤ 255) (hb : b.length ≤ 3000) (K : Int) (hK : (k : Int) = K) (w : World) : Calls Try.prog 60 #[.agg #[.int .i64 K, .string ⟨b.toArray⟩]] w fun e w' => e = .returned (.tuple #[.string ⟨(encF k b).toArray⟩, .int .i64 0]) ∧ Calm w w' := by
 subst hK
 refine (refFrame_any (k : Int) ⟨b.toArray⟩ w).mono fun e w' ⟨h1, h2⟩ => ⟨?_, h2⟩
 have e0 : frErr (k : Int) (⟨b.toArray⟩ : ByteArray).size = 0 := by rw [bytes_size]; unfold frErr; rw [if_neg (by omega), if_neg (by omega)]
 rw [h1, e0, frS, e0, if_pos rfl]
 simp
set_option maxHeartbeats 4000000 in
theorem batPut_any (k : Nat) (b : List UInt8) (hk : 1 ≤ k) (hk2 : k ≤ 255) (hb : b.length ≤ 3000) (K : Int) (hK : (k : Int) = K) (w : World) : Calls Try.prog 54 #[.int .i64 K, .string ⟨b.toArray⟩] w fun e w' => e = .returned (.string ⟨(encF k b).toArray⟩) ∧ Calm w w' := by
 have cF := framePut_good k b hk hk2 hb K hK
 generalize (⟨b.toArray⟩ : ByteArray) = B at cF ⊢
 generalize (⟨(encF k b).toArray⟩ : ByteArray) = R at cF ⊢
 clear hK hk hk2 hb
 go_enter Try.func54, Try.ntmps54
 go_wp2_with (go_at_call 74; refine (cF _).mono ?_; rintro e w1 ⟨rfl, hb1⟩)
 go_ret
 exact ⟨rfl, hb1⟩
set_option maxHeartbeats 4000000 in
theorem refFr_any (k : Nat) (b : List UInt8) (hk : 1 ≤ k) (hk2 : k ≤ 255) (hb : b.length ≤ 3000) (K : Int) (hK : (k : Int) = K) (w : World) : Calls Try.prog 36 #[.int .i64 K, .string ⟨b.toArray⟩] w fun e w' => e = .returned (.string ⟨(encF k b).toArray⟩) ∧ Calm w w' := by
 have cF := refFrame_good k b hk hk2 hb K hK
 generalize (⟨b.toArray⟩ : ByteArray) = B at cF ⊢
 generalize (⟨(encF k b).toArray⟩ : ByteArray) = R at cF ⊢
 clear hK hk hk2 hb
 go_enter Try.func36, Try.ntmps36
 go_wp2_with (go_at_call 60; refine (cF _).mono ?_; rintro e w1 ⟨rfl, hb1⟩)
 go_ret
 exact ⟨rfl, hb1⟩
open Go.RowKit
theorem aheadS_Fol {p o f m p' o' f' m' : Int} : aheadS p' o' f' m' p o f m = true ↔ sLt (p', o', f') m' (p, o, f) m := by
 have h := scmp_sLt (a := ⟨p', o', f', m', 0, ByteArray.empty⟩) (b := ⟨p, o, f, m, 0, ByteArray.empty⟩)
 simp only [El.key] at h
 unfold aheadS; rw [decide_eq_true_eq, h]
set_option maxHeartbeats 8000000 in
theorem refRun_any (A : Option Addr) (c : Nat) (l : List El) (w : World) (hn : l.length ≤ 9223372036854775807) (hL : Lies w A l) :
    Calls Try.prog 12 #[.slice A l.length c] w fun e w' => e = .returned (.int .i64 (runErr l)) ∧ Calm w w' := by
  by_cases hbig : 400 < l.length
  · have K : Hid (2 = runErr l) := by show _ = _; unfold runErr; rw [if_pos hbig]
    go_enter Try.func12, Try.ntmps12
    go_wp2_with fail
    go_ret
    exact ⟨ret_int K.out, Calm.refl _⟩
  go_enter Try.func12, Try.ntmps12
  go_wp2_with fail
  go_loopw [12] (fun i wr => ∃ k : Nat, k ≤ l.length ∧ i = .int .i64 k ∧ Calm w wr ∧ NoErr l k) (fun i _ => l.length - (intOf i).toNat)
  case atStart => exact ⟨0, Nat.zero_le _, rfl, Calm.refl _, fun j hj => absurd hj (Nat.not_lt_zero _)⟩
  case round =>
    obtain ⟨k, hk, rfl, hu, hN⟩ := hrel
    by_cases hlt : k < l.length
    rotate_left
    · have hkl : k = l.length := by omega
      have K : Hid (0 = runErr l) := runErr_good hbig (by rw [← hkl]; exact hN)
      clear hkl
      go_wp2_with fail
      go_ret
      exact ⟨ret_int K.out, hu⟩
    obtain ⟨b, q, p, o, f, m, g, s, rfl, hb, HE, hm, c0, c1, c2, c3, c4, c5⟩ := (hL.calm hu).get hlt
    by_cases he : elemErr p o f m g s.size = 0
    rotate_left
    · have b1 : (elemErr p o f m g s.size != 0) = true := by simpa using he
      have K : Hid (elemErr p o f m g s.size = runErr l) := by
        have h1 := stepErr_err HE.out (show El.err ⟨p, o, f, m, g, s⟩ ≠ 0 from he)
        rw [← runErr_at hbig hN (by rw [h1]; exact he) hlt, h1]; rfl
      clear he
      go_wp2_with (go_at_call 30; refine (refElem_any _ _ _ _ _ _ _ hm).mono ?_; rintro e w1 ⟨rfl, hb1⟩)
      go_ret
      exact ⟨ret_int K.out, by repeat (first | (with_reducible exact Calm.refl _) | (with_reducible refine Calm.alloc ?_ _) | (with_reducible refine Calm.drew ?_) | (with_reducible refine Calm.drewN ?_ _) | (refine Calm.call ?_ (by with_reducible assumption)))⟩
    have b1 : (elemErr p o f m g s.size != 0) = false := by simpa using he
    have HE0 : Hid (elemErr p o f m g s.size = 0) := he
    clear he
    by_cases hk0 : k = 0
    · subst hk0
      have hN1 : NoErr l 1 := fun j hj => by
        have : j = 0 := by omega
        subst this
        exact stepErr_first HE.out HE0.out
      simp only [Nat.zero_mul, Nat.add_zero] at c0 c1 c2 c3 c4 c5
      go_wp2_with (go_at_call 30; refine (refElem_any _ _ _ _ _ _ _ hm).mono ?_; rintro e w1 ⟨rfl, hb1⟩)
      exact ⟨⟨1, by omega, rfl, (hu.alloc _).call hb1, hN1⟩, by simp [intOf]; omega⟩
    obtain ⟨p', o', f', m', g', s', HE', hm', d0, d1, d2, d3, d4, d5⟩ := (hL.calm hu).get2 (k := k - 1) (by omega)
    have hS := stepErr_form HE.out HE0.out (by omega) HE'.out
    have hg' : g' = 0 ∨ 0 < g' := by
      have h1 := ((stepErr_zero (l := l) (i := k - 1) (by omega)).1 (hN (k - 1) (by omega))).1
      rw [(List.getElem?_eq_some_iff.1 HE'.out).2] at h1
      have h2 := err_time h1
      unfold timeOk at h2; simp only at h2; omega
    have z0 : 0 < k := by omega
    have z1 : IntKind.i64.wrap ((k : Int) - 1) = (k : Int) - 1 := IntWalk.i64_in _ (by omega)
    have z2 : ((k : Int) - 1).toNat = k - 1 := by omega
    have z3 : 0 ≤ (k : Int) - 1 := by omega
    have z4 : (k : Int) - 1 < l.length := by omega
    have z5 : 1 ≤ (k : Int) := by omega
    have hLR : Calm w wr ∧ k < l.length ∧ NoErr l k ∧ ¬ 400 < l.length := ⟨hu, hlt, hN, hbig⟩
    have HS : Hid (stepErr l k = if Fol ⟨p', o', f', m', g', s'⟩ ⟨p, o, f, m, g, s⟩ then 0 else 3) := hS
    clear hS
    go_upto_region 11 with (go_at_call 30; refine (refElem_any _ _ _ _ _ _ _ hm).mono ?_; rintro e w1 ⟨rfl, hb1⟩; have hx1 := (hb1.block (k := wr.heap.size) (by simp)).trans (heap_new wr _); have hv := ((Calm.refl wr).alloc _).call hb1; have hb2 : b < w1.heap.size := Nat.lt_of_lt_of_le hb hv.size; have hvc := hv.facts.1; replace d0 := (hvc _ _ hb).trans d0; replace d1 := (hvc _ _ hb).trans d1; replace d2 := (hvc _ _ hb).trans d2; replace d3 := (hvc _ _ hb).trans d3; replace d4 := (hvc _ _ hb).trans d4; replace d5 := (hvc _ _ hb).trans d5; clear hvc hb1 c0 c1 c2 c3 c4 c5 hL)
    clear b1 z0 z1 z2 z3 z4 z5 d0 d1 d2 d3 d4 d5
    have hx := heap_past (.cells #[.int .i64 p', .int .i64 o', .int .i64 f', .int .i64 m', .int .i64 g', .string s'] 34) hx1
    have hy := heap_new w1 (.cells #[.int .i64 p', .int .i64 o', .int .i64 f', .int .i64 m', .int .i64 g', .string s'] 34)
    have hv1 := (hu.call hv).alloc (.cells #[.int .i64 p', .int .i64 o', .int .i64 f', .int .i64 m', .int .i64 g', .string s'] 34)
    have hne : wr.heap.size ≠ w1.heap.size := by have := (Array.getElem?_eq_some_iff.1 hx1).1; omega
    generalize w1.alloc (.cells #[.int .i64 p', .int .i64 o', .int .i64 f', .int .i64 m', .int .i64 g', .string s'] 34) = wc at hx hy hv1 ⊢
    obtain ⟨x0, x1, x2, x3, x4, x5, hxs⟩ := row6 hx
    obtain ⟨y0, y1, y2, y3, y4, y5, hys⟩ := row6 hy
    clear hv hb2 hx1 hx hy
    generalize wr.heap.size = X0 at *
    generalize w1.heap.size = Y0 at *
    have hFA : Fol ⟨p', o', f', m', g', s'⟩ ⟨p, o, f, m, g, s⟩ ↔ aheadS p' o' f' m' p o f m = true ∧ ((p', o', f') = (p, o, f) → g' ≠ 0 ∧ g' ≤ m) := by rw [aheadS_Fol]; exact Iff.rfl
    clear hN hbig hlt hk0 HE HE0 HE' hu hm hm'
    have hN := hLR.2.2.1
    have hlt := hLR.2.1
    cases hA : aheadS p' o' f' m' p o f m
    · have hF : ¬ Fol ⟨p', o', f', m', g', s'⟩ ⟨p, o, f, m, g, s⟩ := fun h => by rw [hFA, hA] at h; exact absurd h.1 (by simp)
      have K : Hid (3 = runErr l) := by
        have h := HS.out
        rw [if_neg hF] at h
        exact h.symm.trans (runErr_at hLR.2.2.2 hLR.2.2.1 (by rw [h]; decide) hLR.2.1)
      clear hF HS
      have cS : ∀ u, Calls Try.prog 31 #[.agg #[.int .i64 p', .int .i64 o', .int .i64 f', .int .i64 m'], .agg #[.int .i64 p, .int .i64 o, .int .i64 f, .int .i64 m]] u fun e w' => e = .returned (.bool false) ∧ Calm u w' := fun u => by rw [← hA]; exact aheadSpot_any _ _ _ _ _ _ _ _ _
      clear hA hFA
      refine wp_region_plan [.val (.agg #[.int .i64 p', .int .i64 o', .int .i64 f', .int .i64 m', .int .i64 g', .string s']), .val (.agg #[.int .i64 p', .int .i64 o', .int .i64 f', .int .i64 m']), .val (.agg #[.int .i64 p, .int .i64 o, .int .i64 f, .int .i64 m, .int .i64 g, .string s]), .val (.agg #[.int .i64 p, .int .i64 o, .int .i64 f, .int .i64 m]), .val (.bool false), .val (.bool true), .val (.bool true), .idle, .idle, .idle, .idle, .idle, .idle, .idle, .idle, .idle, .idle, .idle, .idle, .idle, .idle, .idle, .idle, .idle, .idle, .val (.bool true)] (by kernel_rfl) (by kernel_rfl) (by kernel_rfl) ?_
      intro X
      iterate 7
        refine plan_val (by kernel_rfl) (fun u hu => ?_) ?_
        · obtain ⟨hc, hf, hz⟩ := hu.of_drew.facts
          go_simp
          all_goals first
            | (go_at_call 32; exact refSpot_any _ _ _ _ _ _ _)
            | (go_at_call 31; exact cS _)
        simp only [Act.put, List.setIfInBounds_toArray, List.set_cons_zero, List.set_cons_succ, Nat.reduceAdd]
      iterate 18
        refine plan_idle (by kernel_rfl) ?_
        simp only [Act.put, List.setIfInBounds_toArray, List.set_cons_zero, List.set_cons_succ, Nat.reduceAdd]
      iterate 1
        refine plan_val (by kernel_rfl) (fun u hu => ?_) ?_
        · obtain ⟨hc, hf, hz⟩ := hu.of_drew.facts
          go_simp
          all_goals first
            | (go_at_call 32; exact refSpot_any _ _ _ _ _ _ _)
            | (go_at_call 31; exact cS _)
        simp only [Act.put, List.setIfInBounds_toArray, List.set_cons_zero, List.set_cons_succ, Nat.reduceAdd]
      refine plan_end ?_
      intro w' hB
      have hk := hB.calm.of_drew
      clear hB cS
      go_wp2_with fail
      go_ret
      exact ⟨ret_int K.out, hv1.call hk⟩
    by_cases hK : (p', o', f') = (p, o, f)
    rotate_left
    · have hF : Fol ⟨p', o', f', m', g', s'⟩ ⟨p, o, f, m, g, s⟩ := hFA.2 ⟨hA, fun h => absurd h hK⟩
      have hN1 : NoErr l (k + 1) := fun j hj => by
        rcases Nat.lt_or_ge j k with h | h
        · exact hN j h
        · rw [show j = k by omega]; have h := HS.out; rw [if_pos hF] at h; exact h
      clear hF HS
      have cS : ∀ u, Calls Try.prog 31 #[.agg #[.int .i64 p', .int .i64 o', .int .i64 f', .int .i64 m'], .agg #[.int .i64 p, .int .i64 o, .int .i64 f, .int .i64 m]] u fun e w' => e = .returned (.bool true) ∧ Calm u w' := fun u => by rw [← hA]; exact aheadSpot_any _ _ _ _ _ _ _ _ _
      clear hA hFA
      have h3 : ¬ p' = p ∨ (p' = p ∧ ¬ o' = o) ∨ (p' = p ∧ o' = o ∧ ¬ f' = f) := by simp only [Prod.mk.injEq] at hK; omega
      clear hK
      rcases h3 with h3 | ⟨h3, h4⟩ | ⟨h3, h4, h5⟩
      · skip
        refine wp_region_plan [.val (.agg #[.int .i64 p', .int .i64 o', .int .i64 f', .int .i64 m', .int .i64 g', .string s']), .val (.agg #[.int .i64 p', .int .i64 o', .int .i64 f', .int .i64 m']), .val (.agg #[.int .i64 p, .int .i64 o, .int .i64 f, .int .i64 m, .int .i64 g, .string s]), .val (.agg #[.int .i64 p, .int .i64 o, .int .i64 f, .int .i64 m]), .val (.bool true), .val (.bool false), .val (.bool false), .val (.pointer (some ⟨Y0, 0, none⟩)), .val (.agg #[.int .i64 p', .int .i64 o', .int .i64 f']), .val (.pointer (some ⟨X0, 0, none⟩)), .val (.agg #[.int .i64 p, .int .i64 o, .int .i64 f]), .val (.bool false), .val (.bool false), .idle, .idle, .idle, .idle, .idle, .idle, .idle, .idle, .idle, .idle, .idle, .val (.bool false), .val (.bool false)] (by kernel_rfl) (by kernel_rfl) (by kernel_rfl) ?_
        intro X
        iterate 13
          refine plan_val (by kernel_rfl) (fun u hu => ?_) ?_
          · obtain ⟨hc, hf, hz⟩ := hu.of_drew.facts
            go_simp
            all_goals first
              | (go_at_call 32; exact refSpot_any _ _ _ _ _ _ _)
              | (go_at_call 31; exact cS _)
          simp only [Act.put, List.setIfInBounds_toArray, List.set_cons_zero, List.set_cons_succ, Nat.reduceAdd]
        iterate 11
          refine plan_idle (by kernel_rfl) ?_
          simp only [Act.put, List.setIfInBounds_toArray, List.set_cons_zero, List.set_cons_succ, Nat.reduceAdd]
        iterate 2
          refine plan_val (by kernel_rfl) (fun u hu => ?_) ?_
          · obtain ⟨hc, hf, hz⟩ := hu.of_drew.facts
            go_simp
            all_goals first
              | (go_at_call 32; exact refSpot_any _ _ _ _ _ _ _)
              | (go_at_call 31; exact cS _)
          simp only [Act.put, List.setIfInBounds_toArray, List.set_cons_zero, List.set_cons_succ, Nat.reduceAdd]
        refine plan_end ?_
        intro w' hB
        have hk := hB.calm.of_drew
        clear hB cS
        go_wp2_with fail
        go_roundw
        case rel => exact ⟨k + 1, by omega, by go_num, hv1.call hk, hN1⟩
        case measure => simp [intOf]; omega
      · skip
        subst h3
        refine wp_region_plan [.val (.agg #[.int .i64 p', .int .i64 o', .int .i64 f', .int .i64 m', .int .i64 g', .string s']), .val (.agg #[.int .i64 p', .int .i64 o', .int .i64 f', .int .i64 m']), .val (.agg #[.int .i64 p', .int .i64 o, .int .i64 f, .int .i64 m, .int .i64 g, .string s]), .val (.agg #[.int .i64 p', .int .i64 o, .int .i64 f, .int .i64 m]), .val (.bool true), .val (.bool false), .val (.bool false), .val (.pointer (some ⟨Y0, 0, none⟩)), .val (.agg #[.int .i64 p', .int .i64 o', .int .i64 f']), .val (.pointer (some ⟨X0, 0, none⟩)), .val (.agg #[.int .i64 p', .int .i64 o, .int .i64 f]), .val (.bool false), .val (.bool false), .idle, .idle, .idle, .idle, .idle, .idle, .idle, .idle, .idle, .idle, .idle, .val (.bool false), .val (.bool false)] (by kernel_rfl) (by kernel_rfl) (by kernel_rfl) ?_
        intro X
        iterate 13
          refine plan_val (by kernel_rfl) (fun u hu => ?_) ?_
          · obtain ⟨hc, hf, hz⟩ := hu.of_drew.facts
            go_simp
            all_goals first
              | (go_at_call 32; exact refSpot_any _ _ _ _ _ _ _)
              | (go_at_call 31; exact cS _)
          simp only [Act.put, List.setIfInBounds_toArray, List.set_cons_zero, List.set_cons_succ, Nat.reduceAdd]
        iterate 11
          refine plan_idle (by kernel_rfl) ?_
          simp only [Act.put, List.setIfInBounds_toArray, List.set_cons_zero, List.set_cons_succ, Nat.reduceAdd]
        iterate 2
          refine plan_val (by kernel_rfl) (fun u hu => ?_) ?_
          · obtain ⟨hc, hf, hz⟩ := hu.of_drew.facts
            go_simp
            all_goals first
              | (go_at_call 32; exact refSpot_any _ _ _ _ _ _ _)
              | (go_at_call 31; exact cS _)
          simp only [Act.put, List.setIfInBounds_toArray, List.set_cons_zero, List.set_cons_succ, Nat.reduceAdd]
        refine plan_end ?_
        intro w' hB
        have hk := hB.calm.of_drew
        clear hB cS
        go_wp2_with fail
        go_roundw
        case rel => exact ⟨k + 1, by omega, by go_num, hv1.call hk, hN1⟩
        case measure => simp [intOf]; omega
      · skip
        subst h3
        subst h4
        refine wp_region_plan [.val (.agg #[.int .i64 p', .int .i64 o', .int .i64 f', .int .i64 m', .int .i64 g', .string s']), .val (.agg #[.int .i64 p', .int .i64 o', .int .i64 f', .int .i64 m']), .val (.agg #[.int .i64 p', .int .i64 o', .int .i64 f, .int .i64 m, .int .i64 g, .string s]), .val (.agg #[.int .i64 p', .int .i64 o', .int .i64 f, .int .i64 m]), .val (.bool true), .val (.bool false), .val (.bool false), .val (.pointer (some ⟨Y0, 0, none⟩)), .val (.agg #[.int .i64 p', .int .i64 o', .int .i64 f']), .val (.pointer (some ⟨X0, 0, none⟩)), .val (.agg #[.int .i64 p', .int .i64 o', .int .i64 f]), .val (.bool false), .val (.bool false), .idle, .idle, .idle, .idle, .idle, .idle, .idle, .idle, .idle, .idle, .idle, .val (.bool false), .val (.bool false)] (by kernel_rfl) (by kernel_rfl) (by kernel_rfl) ?_
        intro X
        iterate 13
          refine plan_val (by kernel_rfl) (fun u hu => ?_) ?_
          · obtain ⟨hc, hf, hz⟩ := hu.of_drew.facts
            go_simp
            all_goals first
              | (go_at_call 32; exact refSpot_any _ _ _ _ _ _ _)
              | (go_at_call 31; exact cS _)
          simp only [Act.put, List.setIfInBounds_toArray, List.set_cons_zero, List.set_cons_succ, Nat.reduceAdd]
        iterate 11
          refine plan_idle (by kernel_rfl) ?_
          simp only [Act.put, List.setIfInBounds_toArray, List.set_cons_zero, List.set_cons_succ, Nat.reduceAdd]
        iterate 2
          refine plan_val (by kernel_rfl) (fun u hu => ?_) ?_
          · obtain ⟨hc, hf, hz⟩ := hu.of_drew.facts
            go_simp
            all_goals first
              | (go_at_call 32; exact refSpot_any _ _ _ _ _ _ _)
              | (go_at_call 31; exact cS _)
          simp only [Act.put, List.setIfInBounds_toArray, List.set_cons_zero, List.set_cons_succ, Nat.reduceAdd]
        refine plan_end ?_
        intro w' hB
        have hk := hB.calm.of_drew
        clear hB cS
        go_wp2_with fail
        go_roundw
        case rel => exact ⟨k + 1, by omega, by go_num, hv1.call hk, hN1⟩
        case measure => simp [intOf]; omega
    simp only [Prod.mk.injEq] at hK
    obtain ⟨rfl, rfl, rfl⟩ := hK
    by_cases hg0 : 0 < g'
    rotate_left
    · have hF : ¬ Fol ⟨p', o', f', m', g', s'⟩ ⟨p', o', f', m, g, s⟩ := fun h => by have := ((hFA.1 h).2 rfl).1; omega
      have K : Hid (3 = runErr l) := by
        have h := HS.out
        rw [if_neg hF] at h
        exact h.symm.trans (runErr_at hLR.2.2.2 hLR.2.2.1 (by rw [h]; decide) hLR.2.1)
      clear hF HS
      have cS : ∀ u, Calls Try.prog 31 #[.agg #[.int .i64 p', .int .i64 o', .int .i64 f', .int .i64 m'], .agg #[.int .i64 p', .int .i64 o', .int .i64 f', .int .i64 m]] u fun e w' => e = .returned (.bool true) ∧ Calm u w' := fun u => by rw [← hA]; exact aheadSpot_any _ _ _ _ _ _ _ _ _
      clear hA hFA hg'
      refine wp_region_plan [.val (.agg #[.int .i64 p', .int .i64 o', .int .i64 f', .int .i64 m', .int .i64 g', .string s']), .val (.agg #[.int .i64 p', .int .i64 o', .int .i64 f', .int .i64 m']), .val (.agg #[.int .i64 p', .int .i64 o', .int .i64 f', .int .i64 m, .int .i64 g, .string s]), .val (.agg #[.int .i64 p', .int .i64 o', .int .i64 f', .int .i64 m]), .val (.bool true), .val (.bool false), .val (.bool false), .val (.pointer (some ⟨Y0, 0, none⟩)), .val (.agg #[.int .i64 p', .int .i64 o', .int .i64 f']), .val (.pointer (some ⟨X0, 0, none⟩)), .val (.agg #[.int .i64 p', .int .i64 o', .int .i64 f']), .val (.bool true), .val (.bool true), .val (.pointer (some ⟨Y0, 4, none⟩)), .val (.int .i64 g'), .val (.bool false), .val (.bool false), .idle, .idle, .idle, .idle, .idle, .val (.bool false), .val (.bool true), .val (.bool true), .val (.bool true)] (by kernel_rfl) (by kernel_rfl) (by kernel_rfl) ?_
      intro X
      iterate 17
        refine plan_val (by kernel_rfl) (fun u hu => ?_) ?_
        · obtain ⟨hc, hf, hz⟩ := hu.of_drew.facts
          go_simp
          all_goals first
            | (go_at_call 32; exact refSpot_any _ _ _ _ _ _ _)
            | (go_at_call 31; exact cS _)
        simp only [Act.put, List.setIfInBounds_toArray, List.set_cons_zero, List.set_cons_succ, Nat.reduceAdd]
      iterate 5
        refine plan_idle (by kernel_rfl) ?_
        simp only [Act.put, List.setIfInBounds_toArray, List.set_cons_zero, List.set_cons_succ, Nat.reduceAdd]
      iterate 4
        refine plan_val (by kernel_rfl) (fun u hu => ?_) ?_
        · obtain ⟨hc, hf, hz⟩ := hu.of_drew.facts
          go_simp
          all_goals first
            | (go_at_call 32; exact refSpot_any _ _ _ _ _ _ _)
            | (go_at_call 31; exact cS _)
        simp only [Act.put, List.setIfInBounds_toArray, List.set_cons_zero, List.set_cons_succ, Nat.reduceAdd]
      refine plan_end ?_
      intro w' hB
      have hk := hB.calm.of_drew
      clear hB cS
      go_wp2_with fail
      go_ret
      exact ⟨ret_int K.out, hv1.call hk⟩
    by_cases hgm : g' ≤ m
    · have hF : Fol ⟨p', o', f', m', g', s'⟩ ⟨p', o', f', m, g, s⟩ := hFA.2 ⟨hA, fun _ => ⟨by omega, hgm⟩⟩
      have hN1 : NoErr l (k + 1) := fun j hj => by
        rcases Nat.lt_or_ge j k with h | h
        · exact hN j h
        · rw [show j = k by omega]; have h := HS.out; rw [if_pos hF] at h; exact h
      clear hF HS
      have cS : ∀ u, Calls Try.prog 31 #[.agg #[.int .i64 p', .int .i64 o', .int .i64 f', .int .i64 m'], .agg #[.int .i64 p', .int .i64 o', .int .i64 f', .int .i64 m]] u fun e w' => e = .returned (.bool true) ∧ Calm u w' := fun u => by rw [← hA]; exact aheadSpot_any _ _ _ _ _ _ _ _ _
      clear hA hFA hg'
      refine wp_region_plan [.val (.agg #[.int .i64 p', .int .i64 o', .int .i64 f', .int .i64 m', .int .i64 g', .string s']), .val (.agg #[.int .i64 p', .int .i64 o', .int .i64 f', .int .i64 m']), .val (.agg #[.int .i64 p', .int .i64 o', .int .i64 f', .int .i64 m, .int .i64 g, .string s]), .val (.agg #[.int .i64 p', .int .i64 o', .int .i64 f', .int .i64 m]), .val (.bool true), .val (.bool false), .val (.bool false), .val (.pointer (some ⟨Y0, 0, none⟩)), .val (.agg #[.int .i64 p', .int .i64 o', .int .i64 f']), .val (.pointer (some ⟨X0, 0, none⟩)), .val (.agg #[.int .i64 p', .int .i64 o', .int .i64 f']), .val (.bool true), .val (.bool true), .val (.pointer (some ⟨Y0, 4, none⟩)), .val (.int .i64 g'), .val (.bool true), .val (.bool true), .val (.pointer (some ⟨Y0, 4, none⟩)), .val (.int .i64 g'), .val (.pointer (some ⟨X0, 3, none⟩)), .val (.int .i64 m), .val (.bool true), .val (.bool true), .val (.bool false), .val (.bool false), .val (.bool false)] (by kernel_rfl) (by kernel_rfl) (by kernel_rfl) ?_
      intro X
      iterate 26
        refine plan_val (by kernel_rfl) (fun u hu => ?_) ?_
        · obtain ⟨hc, hf, hz⟩ := hu.of_drew.facts
          go_simp
          all_goals first
            | (go_at_call 32; exact refSpot_any _ _ _ _ _ _ _)
            | (go_at_call 31; exact cS _)
        simp only [Act.put, List.setIfInBounds_toArray, List.set_cons_zero, List.set_cons_succ, Nat.reduceAdd]
      refine plan_end ?_
      intro w' hB
      have hk := hB.calm.of_drew
      clear hB cS
      go_wp2_with fail
      go_roundw
      case rel => exact ⟨k + 1, by omega, by go_num, hv1.call hk, hN1⟩
      case measure => simp [intOf]; omega
    · have hF : ¬ Fol ⟨p', o', f', m', g', s'⟩ ⟨p', o', f', m, g, s⟩ := fun h => by have := ((hFA.1 h).2 rfl).2; omega
      have K : Hid (3 = runErr l) := by
        have h := HS.out
        rw [if_neg hF] at h
        exact h.symm.trans (runErr_at hLR.2.2.2 hLR.2.2.1 (by rw [h]; decide) hLR.2.1)
      clear hF HS
      have cS : ∀ u, Calls Try.prog 31 #[.agg #[.int .i64 p', .int .i64 o', .int .i64 f', .int .i64 m'], .agg #[.int .i64 p', .int .i64 o', .int .i64 f', .int .i64 m]] u fun e w' => e = .returned (.bool true) ∧ Calm u w' := fun u => by rw [← hA]; exact aheadSpot_any _ _ _ _ _ _ _ _ _
      clear hA hFA hg'
      refine wp_region_plan [.val (.agg #[.int .i64 p', .int .i64 o', .int .i64 f', .int .i64 m', .int .i64 g', .string s']), .val (.agg #[.int .i64 p', .int .i64 o', .int .i64 f', .int .i64 m']), .val (.agg #[.int .i64 p', .int .i64 o', .int .i64 f', .int .i64 m, .int .i64 g, .string s]), .val (.agg #[.int .i64 p', .int .i64 o', .int .i64 f', .int .i64 m]), .val (.bool true), .val (.bool false), .val (.bool false), .val (.pointer (some ⟨Y0, 0, none⟩)), .val (.agg #[.int .i64 p', .int .i64 o', .int .i64 f']), .val (.pointer (some ⟨X0, 0, none⟩)), .val (.agg #[.int .i64 p', .int .i64 o', .int .i64 f']), .val (.bool true), .val (.bool true), .val (.pointer (some ⟨Y0, 4, none⟩)), .val (.int .i64 g'), .val (.bool true), .val (.bool true), .val (.pointer (some ⟨Y0, 4, none⟩)), .val (.int .i64 g'), .val (.pointer (some ⟨X0, 3, none⟩)), .val (.int .i64 m), .val (.bool false), .val (.bool false), .val (.bool true), .val (.bool true), .val (.bool true)] (by kernel_rfl) (by kernel_rfl) (by kernel_rfl) ?_
      intro X
      iterate 26
        refine plan_val (by kernel_rfl) (fun u hu => ?_) ?_
        · obtain ⟨hc, hf, hz⟩ := hu.of_drew.facts
          go_simp
          all_goals first
            | (go_at_call 32; exact refSpot_any _ _ _ _ _ _ _)
            | (go_at_call 31; exact cS _)
        simp only [Act.put, List.setIfInBounds_toArray, List.set_cons_zero, List.set_cons_succ, Nat.reduceAdd]
      refine plan_end ?_
      intro w' hB
      have hk := hB.calm.of_drew
      clear hB cS
      go_wp2_with fail
      go_ret
      exact ⟨ret_int K.out, hv1.call hk⟩
open Go.RowKit
def OwEnd (l : List El) (n : Int) (w : World) (e : Ending) (w' : World) : Prop := ∃ v, e = .returned (.tuple #[v, .int .i64 n]) ∧ OwnR w.heap.size w' v l ∧ Calm w w'
def Ow1End (l : List El) (w : World) (e : Ending) (w' : World) : Prop := ∃ v, e = .returned v ∧ OwnR w.heap.size w' v l ∧ Calm w w'
theorem OwnR.less {base base' : Nat} {w : World} {v : Value} {l : List El} (h : OwnR base w v l) (hb : base' ≤ base) : OwnR base' w v l := ⟨h.1, h.2.imp id fun ⟨g, cap, cur, h1, h2, h3⟩ => ⟨g, cap, cur, h1, Nat.le_trans hb h2, h3⟩⟩
theorem upto_no {l : List El} {k : Nat} {e : El} (h : l[k]? = some e) {p t : Int} (hn : e.p ≠ p ∨ t < e.m) : uptoL (l.take (k + 1)) p t = uptoL (l.take k) p t := by
 have h1 : ¬ inU p t e = true := by unfold inU; rw [decide_eq_true_eq]; omega
 rw [upto_take h, if_neg h1, List.append_nil]
theorem upto_cut {l : List El} {k : Nat} {p o f m g : Int} {s : ByteArray} (h : l[k]? = some ⟨p, o, f, m, g, s⟩) {t : Int} (hm : m ≤ t) (hg : t < g) : uptoL (l.take (k + 1)) p t = uptoL (l.take k) p t ++ [⟨p, o, f, m, 0, s⟩] := by
 have h1 : inU p t ⟨p, o, f, m, g, s⟩ = true := by unfold inU; rw [decide_eq_true_eq]; exact ⟨rfl, hm⟩
 rw [upto_take h, if_pos h1]
 congr 2
 exact if_pos hg
theorem upto_all {l : List El} {k : Nat} {p o f m g : Int} {s : ByteArray} (h : l[k]? = some ⟨p, o, f, m, g, s⟩) {t : Int} (hm : m ≤ t) (hg : g ≤ t) : uptoL (l.take (k + 1)) p t = uptoL (l.take k) p t ++ [⟨p, o, f, m, g, s⟩] := by
 have h1 : inU p t ⟨p, o, f, m, g, s⟩ = true := by unfold inU; rw [decide_eq_true_eq]; exact ⟨rfl, hm⟩
 rw [upto_take h, if_pos h1]
 congr 2
 exact if_neg (by show ¬ t < g; omega)
set_option maxHeartbeats 8000000 in
theorem strUpto_good (A : Option Addr) (d : Nat) (l : List El) (p' t : Int) (w : World) (hG : Good l) (hL : Lies w A l) (hs : spanErr p' 0 t = 0) :
    Calls Try.prog 10 #[.slice A l.length d, .int .i64 p', .int .i64 t] w (OwEnd (uptoL l p' t) 0 w) := by
  have cC : ∀ u, Calm w u → Calls Try.prog 20 #[.slice A l.length d] u fun e w' => e = .returned (.int .i64 0) ∧ Calm u w' := fun u hu => by
    have := runCheck_any A d l u (by have := hG.1; omega) (hL.calm hu)
    rwa [runErr_zero.2 hG] at this
  have cS := fun u => batCheck_any p' 0 t u
  rw [hs] at cS
  have hn4 : l.length ≤ 400 := hG.1
  have hUL : ∀ k, (uptoL (l.take k) p' t).length ≤ 400 := fun k => by
    have h1 := upto_len (l.take k) p' t
    have h2 : (l.take k).length ≤ l.length := List.length_take_le' _ _
    omega
  clear hG hs
  go_enter Try.func10, Try.ntmps10
  go_wp2_with (first
    | (go_at_call 20; refine (cC _ (Calm.refl _)).mono ?_; rintro e w1 ⟨rfl, hb1⟩; have hu := hb1; clear hb1 cC)
    | (go_at_call 25; refine (cS _).mono ?_; rintro e w1 ⟨rfl, hb1⟩; replace hu := hu.call hb1; clear hb1 cS))
  replace hL := hL.calm hu
  obtain ⟨w3, hw3⟩ : ∃ w3 : World, w3 = w1 := ⟨_, rfl⟩
  subst hw3
  go_loopw [10, 26] (fun v i wr => ∃ k : Nat, k ≤ l.length ∧ i = .int .i64 k ∧ Calm w3 wr ∧ Hid (OwnR w3.heap.size wr v (uptoL (l.take k) p' t))) (fun _ i _ => l.length - (intOf i).toNat)
  case atStart => exact ⟨0, Nat.zero_le _, rfl, Calm.refl _, show OwnR _ _ _ _ from OwnR.nil _ _⟩
  case round =>
    obtain ⟨k, hk, rfl, hur, ho⟩ := hrel
    by_cases hlt : k < l.length
    rotate_left
    · have K : Hid (uptoL (l.take k) p' t = uptoL l p' t) := by show _ = _; rw [List.take_of_length_le (by omega)]
      rw [K.out] at ho
      have hw0 := hu.size
      replace hur := hu.call hur
      clear K
      go_wp2_with fail
      go_ret2
      refine ⟨_, rfl, ?_, hur⟩
      exact ho.out.less hw0
    obtain ⟨b, q, p, o, f, m, g, s, rfl, hb, HE, hm, c0, c1, c2, c3, c4, c5⟩ := (hL.calm hur).get hlt
    have hUk := hUL k
    have hws := hur.size
    by_cases hno : p ≠ p' ∨ t < m
    · have hT := upto_no HE.out (p := p') (t := t) hno
      rw [← hT] at ho
      replace hur := hur.alloc (.cells #[.int .i64 p, .int .i64 o, .int .i64 f, .int .i64 m, .int .i64 g, .string s] 34)
      replace ho := Lib.hid (ho.out.calm ((Calm.refl wr).alloc (.cells #[.int .i64 p, .int .i64 o, .int .i64 f, .int .i64 m, .int .i64 g, .string s] 34)))
      clear HE hUL hL hT
      have h2 : p ≠ p' ∨ p = p' ∧ t < m := by omega
      clear hno
      rcases h2 with h2 | ⟨rfl, h2⟩
      all_goals
        go_wp2_with fail
        go_roundw
        case rel => exact ⟨k + 1, by omega, by go_num, hur, ho⟩
        case measure => simp [intOf]; omega
    · obtain ⟨rfl, hmt⟩ : p = p' ∧ m ≤ t := by omega
      clear hno
      by_cases hg : t < g
      · have hT := Lib.hid (upto_cut HE.out hmt hg)
        clear HE hUL hL
        go_wp2_with (at_builtin; refine wpList_append_el rfl _ _ rfl _ _ _ rfl (ho.out.calm (((Calm.refl wr).alloc _).alloc _)) _ _ p o f m 0 s _ rfl (heap_new2 _ _ _) (by omega) (by simp; omega) ?_; intro v' w9 ho9 hc9; have hur9 := hc9 _ (Nat.le_refl _) ((hur.alloc _).alloc _); rw [← hT.out] at ho9)
        have HO := Lib.hid ho9
        clear ho9 hT hc9
        go_roundw
        case rel => exact ⟨k + 1, by omega, by go_num, hur9, HO⟩
        case measure => simp [intOf]; omega
      · have hT := Lib.hid (upto_all HE.out hmt (by omega))
        clear HE hUL hL
        go_wp2_with (at_builtin; refine wpList_append_el rfl _ _ rfl _ _ _ rfl (ho.out.calm (((Calm.refl wr).alloc _).alloc _)) _ _ p o f m g s _ rfl (heap_new2 _ _ _) (by omega) (by simp; omega) ?_; intro v' w9 ho9 hc9; have hur9 := hc9 _ (Nat.le_refl _) ((hur.alloc _).alloc _); rw [← hT.out] at ho9)
        have HO := Lib.hid ho9
        clear ho9 hT hc9
        go_roundw
        case rel => exact ⟨k + 1, by omega, by go_num, hur9, HO⟩
        case measure => simp [intOf]; omega
set_option maxHeartbeats 8000000 in
theorem refUpto_good (A : Option Addr) (d : Nat) (l : List El) (p' t : Int) (w : World) (hG : Good l) (hL : Lies w A l) :
    Calls Try.prog 15 #[.slice A l.length d, .int .i64 p', .int .i64 t] w (Ow1End (uptoL l p' t) w) := by
  have hn4 : l.length ≤ 400 := hG.1
  have hUL : ∀ k, (uptoL (l.take k) p' t).length ≤ 400 := fun k => by
    have h1 := upto_len (l.take k) p' t
    have h2 : (l.take k).length ≤ l.length := List.length_take_le' _ _
    omega
  clear hG
  go_enter Try.func15, Try.ntmps15
  go_wp2_with fail
  obtain ⟨w3, hw3⟩ : ∃ w3 : World, w3 = w := ⟨_, rfl⟩
  subst hw3
  go_loopw [7, 12] (fun v i wr => ∃ k : Nat, k ≤ l.length ∧ i = .int .i64 k ∧ Calm w3 wr ∧ Hid (OwnR w3.heap.size wr v (uptoL (l.take k) p' t))) (fun _ i _ => l.length - (intOf i).toNat)
  case atStart => exact ⟨0, Nat.zero_le _, rfl, Calm.refl _, show OwnR _ _ _ _ from OwnR.nil _ _⟩
  case round =>
    obtain ⟨k, hk, rfl, hur, ho⟩ := hrel
    by_cases hlt : k < l.length
    rotate_left
    · have K : Hid (uptoL (l.take k) p' t = uptoL l p' t) := by show _ = _; rw [List.take_of_length_le (by omega)]
      rw [K.out] at ho
      clear K
      go_wp2_with fail
      go_ret
      exact ⟨_, rfl, ho.out, hur⟩
    obtain ⟨b, q, p, o, f, m, g, s, rfl, hb, HE, hm, c0, c1, c2, c3, c4, c5⟩ := (hL.calm hur).get hlt
    have hUk := hUL k
    have hws := hur.size
    by_cases hno : p ≠ p' ∨ t < m
    · have hT := upto_no HE.out (p := p') (t := t) hno
      rw [← hT] at ho
      replace hur := hur.alloc (.cells #[.int .i64 p, .int .i64 o, .int .i64 f, .int .i64 m, .int .i64 g, .string s] 34)
      replace ho := Lib.hid (ho.out.calm ((Calm.refl wr).alloc (.cells #[.int .i64 p, .int .i64 o, .int .i64 f, .int .i64 m, .int .i64 g, .string s] 34)))
      clear HE hUL hL hT
      have h2 : p ≠ p' ∨ p = p' ∧ t < m := by omega
      clear hno
      rcases h2 with h2 | ⟨rfl, h2⟩
      all_goals
        go_wp2_with fail
        go_roundw
        case rel => exact ⟨k + 1, by omega, by go_num, hur, ho⟩
        case measure => simp [intOf]; omega
    · obtain ⟨rfl, hmt⟩ : p = p' ∧ m ≤ t := by omega
      clear hno
      by_cases hg : t < g
      · have hT := Lib.hid (upto_cut HE.out hmt hg)
        clear HE hUL hL
        go_wp2_with (at_builtin; refine wpList_append_el rfl _ _ rfl _ _ _ rfl (ho.out.calm (((Calm.refl wr).alloc _).alloc _)) _ _ p o f m 0 s _ rfl (heap_new2 _ _ _) (by omega) (by simp; omega) ?_; intro v' w9 ho9 hc9; have hur9 := hc9 _ (Nat.le_refl _) ((hur.alloc _).alloc _); rw [← hT.out] at ho9)
        have HO := Lib.hid ho9
        clear ho9 hT hc9
        go_roundw
        case rel => exact ⟨k + 1, by omega, by go_num, hur9, HO⟩
        case measure => simp [intOf]; omega
      · have hT := Lib.hid (upto_all HE.out hmt (by omega))
        clear HE hUL hL
        go_wp2_with (at_builtin; refine wpList_append_el rfl _ _ rfl _ _ _ rfl (ho.out.calm (((Calm.refl wr).alloc _).alloc _)) _ _ p o f m g s _ rfl (heap_new2 _ _ _) (by omega) (by simp; omega) ?_; intro v' w9 ho9 hc9; have hur9 := hc9 _ (Nat.le_refl _) ((hur.alloc _).alloc _); rw [← hT.out] at ho9)
        have HO := Lib.hid ho9
        clear ho9 hT hc9
        go_roundw
        case rel => exact ⟨k + 1, by omega, by go_num, hur9, HO⟩
        case measure => simp [intOf]; omega
set_option maxHeartbeats 4000000 in
theorem strUpto_bad (A : Option Addr) (d : Nat) (l : List El) (p' t : Int) (w : World) (hn : l.length ≤ 9223372036854775807) (hL : Lies w A l) (hs : uptoErr l p' t ≠ 0) :
    Calls Try.prog 10 #[.slice A l.length d, .int .i64 p', .int .i64 t] w (OwEnd [] (uptoErr l p' t) w) := by
  have cC := fun u hu => runCheck_any A d l u hn (hL.calm (w' := u) hu)
  have cS := fun u => batCheck_any p' 0 t u
  unfold uptoErr at hs ⊢
  generalize runErr l = E at cC hs ⊢
  generalize spanErr p' 0 t = F at cS hs ⊢
  by_cases he : E = 0
  · rw [if_pos he] at hs ⊢
    subst he
    have b1 : (F != 0) = true := by simpa using hs
    clear hs hL
    go_enter Try.func10, Try.ntmps10
    go_wp2_with (first
      | (go_at_call 20; refine (cC _ (Calm.refl _)).mono ?_; rintro e w1 ⟨rfl, hb1⟩; have hu := hb1; clear hb1 cC)
      | (go_at_call 25; refine (cS _).mono ?_; rintro e w1 ⟨rfl, hb1⟩; replace hu := hu.call hb1; clear hb1 cS))
    go_ret2
    exact ⟨_, rfl, OwnR.nil _ _, hu⟩
  · rw [if_neg he]
    have b1 : (E != 0) = true := by simpa using he
    clear hs hL he
    go_enter Try.func10, Try.ntmps10
    go_wp2_with (go_at_call 20; refine (cC _ (Calm.refl _)).mono ?_; rintro e w1 ⟨rfl, hb1⟩; have hu := hb1; clear hb1 cC)
    go_ret2
    exact ⟨_, rfl, OwnR.nil _ _, hu⟩
def uptoV (l : List El) (p t : Int) : List El := if uptoErr l p t = 0 then uptoL l p t else []
theorem uptoErr_zero {l : List El} {p t : Int} : uptoErr l p t = 0 ↔ Good l ∧ spanErr p 0 t = 0 := by
 unfold uptoErr
 by_cases h : runErr l = 0
 ·rw [if_pos h, ← runErr_zero]; simp [h]
 ·rw [if_neg h, ← runErr_zero]; simp [h]
theorem strUpto_any (A : Option Addr) (d : Nat) (l : List El) (p' t : Int) (w : World) (hn : l.length ≤ 9223372036854775807) (hL : Lies w A l) :
    Calls Try.prog 10 #[.slice A l.length d, .int .i64 p', .int .i64 t] w (OwEnd (uptoV l p' t) (uptoErr l p' t) w) := by
  by_cases h : uptoErr l p' t = 0
  · rw [h, uptoV, if_pos h]
    obtain ⟨h1, h2⟩ := uptoErr_zero.1 h
    exact strUpto_good A d l p' t w h1 hL h2
  · rw [uptoV, if_neg h]
    exact strUpto_bad A d l p' t w hn hL h
open Go.RowKit
def Bld (B b : Nat) (l : List UInt8) (w : World) : Prop := Lib.IsBuilder 91 5 B b (Lib.byteCells l) w
theorem sizeBld : (Try.prog.info? 91).map (·.size) = some 2 := by kernel_rfl
theorem liesBld : liesAt Try.prog Try.prog.depth 91 (2 / Try.prog.cellsOf 91) 0 91 1 = true := by kernel_rfl
theorem strCells_bv (l : List UInt8) : Lib.strCells ⟨l.toArray⟩ = Lib.byteCells l := by simp [Lib.strCells, Lib.byteCells]
theorem byteCells_app (a b : List UInt8) : Lib.byteCells (a ++ b) = Lib.byteCells a ++ Lib.byteCells b := by simp [Lib.byteCells]
theorem Bld.calm {B b : Nat} {l : List UInt8} {w w' : World} (h : Bld B b l w) (hb : Calm w w') : Bld B b l w' := by
 have key : ∀ p, Lib.BuilderAt 91 5 B b p (Lib.byteCells l) w → Lib.BuilderAt 91 5 B b p (Lib.byteCells l) w' := fun p ⟨h1, v, h2, h3, h4⟩ =>
  ⟨h1, v, (hb.block (Array.getElem?_eq_some_iff.1 h2).1).trans h2, World.ownsRow.kept h3 (hb.grownBy none) (by
   rcases v.ownBlock with _ | k
   ·exact .inl rfl
   ·exact .inr (by simp)), h4⟩
 exact h.imp (key _) (key _)
theorem Bld.new (w : World) : Bld w.heap.size w.heap.size [] (w.alloc (.cells #[.pointer none, .slice none 0 0] 91)) := Lib.fresh_isBuilder _ _ w
set_option maxHeartbeats 4000000 in
theorem check_used (b : Nat) (w : World) (h0 : w.cell? ⟨b, 0, none⟩ = some (.pointer (some ⟨b, 0, none⟩))) :
    Calls Try.prog 73 #[.pointer (some ⟨b, 0, none⟩)] w fun e w' => e = .returned (.tuple #[]) ∧ w' = w := by
  obtain ⟨j, hj, _⟩ := Option.map_eq_some_iff.1 sizeBld
  go_enter Try.func73, Try.ntmps73
  go_wp2
  rw [Lib.run_neq_ptr_same w _ Try.underlying88 hj]
  go_wp2
  go_end0
  exact ⟨rfl, rfl⟩
set_option maxHeartbeats 4000000 in
theorem check_fresh (b : Nat) (w : World) (h0 : w.cell? ⟨b, 0, none⟩ = some (.pointer none)) (hsh : w.shape? b = some (91, 2)) (hfz : w.frozen? ⟨b, 0, none⟩ = false) :
    Calls Try.prog 73 #[.pointer (some ⟨b, 0, none⟩)] w fun e w' => e = .returned (.tuple #[]) ∧ w' = w.setCell ⟨b, 0, none⟩ (.pointer (some ⟨b, 0, none⟩)) := by
  obtain ⟨j, hj, hjs⟩ := Option.map_eq_some_iff.1 sizeBld
  go_enter Try.func73, Try.ntmps73
  go_wp2
  rw [Lib.run_to_unsafe w ⟨b, 0, none⟩ Try.underlying88 Try.underlying119 hj (by rw [hjs]; decide) hsh (Nat.zero_lt_succ 1)]
  simp only [Result.andThen]
  rw [Oper.upon_value]
  go_wp2
  rw [run_callFunc_extern Try.func86 (by kernel_rfl) (by kernel_rfl) (by kernel_rfl) (e := Extern.AbiNoEscape.same) (by kernel_rfl)]
  rw [Lib.run_noEscape]
  simp only [Result.andThen]
  rw [Oper.upon_value]
  go_wp2
  rw [Lib.run_from_unsafe w ⟨b, 0, none⟩ Try.underlying119 Try.underlying88 hj hsh liesBld]
  simp only [Result.andThen]
  rw [Oper.upon_value]
  go_wp2
  go_end0
  exact ⟨rfl, rfl⟩
theorem slice_of {w : World} {B e n k : Nat} {v : Value} {xs : List Value} (h : w.ownsRow B e k v n xs) : ∃ ao n' cap, v = .slice ao n' cap := by
 rcases h.2 with ⟨hv, _⟩ | ⟨g, cap, cur, hv, _⟩
 ·exact ⟨_, _, _, hv⟩
 ·exact ⟨_, _, _, hv⟩
theorem check_any (B b : Nat) (l : List UInt8) (w : World) (h : Bld B b l w) :
    Calls Try.prog 73 #[.pointer (some ⟨b, 0, none⟩)] w fun e w' => e = .returned (.tuple #[]) ∧ Lib.BuilderAt 91 5 B b (.pointer (some ⟨b, 0, none⟩)) (Lib.byteCells l) w' ∧ Below B w w' := by
  rcases h with h | h
  · refine (check_fresh b w h.cell0 h.shape h.frozen0).mono ?_
    rintro e w' ⟨rfl, rfl⟩
    exact ⟨rfl, h.used _, (Below.refl B w).setCell (p := ⟨b, 0, none⟩) h.1 _⟩
  · refine (check_used b w h.cell0).mono ?_
    rintro e w' ⟨rfl, rfl⟩
    exact ⟨rfl, h, Below.refl B w'⟩
set_option maxHeartbeats 4000000 in
theorem writeString_any (B b : Nat) (l s : List UInt8) (w : World) (h : Bld B b l w) (hlen : l.length + s.length ≤ 1000000000) (hBw : B ≤ w.heap.size) :
    Calls Try.prog 53 #[.pointer (some ⟨b, 0, none⟩), .string ⟨s.toArray⟩] w fun e w' => e = .returned (.tuple #[.int .i64 (s.length : Int), .nilIface]) ∧ Bld B b (l ++ s) w' ∧ Below B w w' := by
  obtain ⟨i0, hi, hz0, hz1, hz2⟩ := info_parts infoByte
  have cK := check_any B b l w h
  have hsz : (⟨s.toArray⟩ : ByteArray).size = s.length := bytes_size s
  have hsc := strCells_bv s
  have hbl := Lib.byteCells_length l
  generalize (⟨s.toArray⟩ : ByteArray) = S at hsz hsc ⊢
  rw [← hsz] at hlen ⊢
  clear hsz h
  go_enter Try.func53, Try.ntmps53
  go_wp2_with (first
    | (go_at_call 73; refine cK.mono ?_; rintro e w1 ⟨rfl, h1, hb1⟩; have hz3 := hb1.size; obtain ⟨hB, v, hbk, hown, hne⟩ := h1; have c0 : w1.cell? ⟨b, 0, none⟩ = some (.pointer (some ⟨b, 0, none⟩)) := (by rw [Lib.cell_of_heap hbk]; rfl); have c1 : w1.cell? ⟨b, 1, none⟩ = some v := (by rw [Lib.cell_of_heap hbk]; rfl))
    | (at_builtin; go_must (refine Lib.wpList_append_own_string _ rfl _ _ 89 9 rfl B 5 i0 Try.underlying89 Try.underlying9 hi hz0 hz1 hz2 _ _ _ rfl hown S rfl (by unfold maxLen; omega) (by omega) (by omega) ?_); intro v' w2 hown' hgrow _; have hlt : b < w1.heap.size := (Array.getElem?_eq_some_iff.1 hbk).1; have hb2 : w2.heap[b]? = some (.cells #[.pointer (some ⟨b, 0, none⟩), v] 91 (0, 0)) := (by rw [hgrow.block b hlt (fun e => hne e.symm)]; exact hbk); have d0 : w2.cell? ⟨b, 0, none⟩ = some (.pointer (some ⟨b, 0, none⟩)) := (by rw [Lib.cell_of_heap hb2]; rfl); have d1 : w2.cell? ⟨b, 1, none⟩ = some v := (by rw [Lib.cell_of_heap hb2]; rfl); have f1 : w2.frozen? ⟨b, 1, none⟩ = false := Lib.frozen_of_heap hb2 1; obtain ⟨ao, n', cap, rfl⟩ : ∃ ao n' cap, v' = .slice ao n' cap := slice_of hown'))
  go_ret2
  refine ⟨rfl, .inr ?_, ?_⟩
  · rw [byteCells_app, ← hsc]
    exact Lib.BuilderAt.put (T := 91) (e := 5) hB hb2 (bs' := Lib.byteCells l ++ Lib.strCells S) (by simpa [Lib.strCells_length] using hown') (by decide)
  · exact (hb1.grown hgrow (by have := hb1.size; omega) (fun k hk => (hown.lt k hk).1)).setCell (p := ⟨b, 1, none⟩) hB _
theorem bldString_any (B b : Nat) (l : List UInt8) (w : World) (h : Bld B b l w) (hBw : B ≤ w.heap.size) :
    Calls Try.prog 57 #[.pointer (some ⟨b, 0, none⟩)] w fun e w' => e = .returned (.string ⟨l.toArray⟩) ∧ Below B w w' := Try.Builder_String_any B b l w h hBw
open Go.RowKit
theorem bytes_app (a b : List UInt8) : (⟨a.toArray⟩ : ByteArray) ++ ⟨b.toArray⟩ = ⟨(a ++ b).toArray⟩ := by
 apply ByteArray.ext
 rw [ByteArray.data_append]
 apply Array.toList_inj.1
 simp
theorem codeWrite_good {e : El} (he : e.err = 0) (w : World) : Calls Try.prog 56 #[.agg #[.int .i64 e.p, .int .i64 e.o, .int .i64 e.f, .int .i64 e.m, .int .i64 e.g, .string e.s]] w fun x w' => x = .returned (.tuple #[.string ⟨(enc e).toArray⟩, .int .i64 0]) ∧ Calm w w' := by
 obtain ⟨p, o, f, m, g, s⟩ := e
 refine (codeWrite_any p o f m g s w).mono fun x w' ⟨h1, h2⟩ => ⟨?_, h2⟩
 rw [h1, wroteS, if_pos he, he]
theorem row4s {w : World} {g t : Nat} {a b c d : Value} {fr : Nat × Nat} (h : w.heap[g]? = some (.cells #[a, b, c, d] t fr)) : w.cell? ⟨g, 0, none⟩ = some a ∧ w.cell? ⟨g, 1, none⟩ = some b ∧ w.cell? ⟨g, 2, none⟩ = some c ∧ w.cell? ⟨g, 3, none⟩ = some d ∧ g < w.heap.size := row4 h
set_option maxHeartbeats 8000000 in
theorem batWrite_any (A : Option Addr) (c : Nat) (l : List El) (p f t : Int) (w : World) (hS : spanErr p f t = 0) (hl : l.length ≤ 1000) (he : ∀ e ∈ l, e.err = 0) (hL : Lies w A l) :
    Calls Try.prog 29 #[.agg #[.int .i64 p, .int .i64 f, .int .i64 t, .slice A l.length c]] w fun e w' => e = .returned (.string ⟨(strB p f t l).toArray⟩) ∧ Calm w w' := by
  have hp := spanErr_zero.1 hS
  obtain ⟨P, rfl⟩ : ∃ n : Nat, p = (n : Int) := ⟨p.toNat, by omega⟩
  obtain ⟨F, rfl⟩ : ∃ n : Nat, f = (n : Int) := ⟨f.toNat, by omega⟩
  obtain ⟨T, rfl⟩ : ∃ n : Nat, t = (n : Int) := ⟨t.toNat, by omega⟩
  have k1 := fun u => batEncode_any P u (by omega)
  have k2 := fun u => batEncode_any F u (by omega)
  have k3 := fun u => batEncode_any T u (by omega)
  have k4 := fun u => batEncode_any l.length u (by omega)
  have q1 := batPut_any 1 (encN3 P F T) (by omega) (by omega) (by rw [encN3_length]; omega) 1 rfl
  have q3 := batPut_any 3 (be 4 l.length) (by omega) (by omega) (by rw [be_length]; omega) 3 rfl
  have j1 : (⟨(encN3 (P : Int) F T).toArray⟩ : ByteArray) = ⟨(be 4 P).toArray⟩ ++ ⟨(be 4 F).toArray⟩ ++ ⟨(be 4 T).toArray⟩ := by
    rw [bytes_app, bytes_app]; simp [encN3]
  have hfl : ∀ k, ((l.take k).flatMap frE).length ≤ 63000 := fun k => by
    have h1 := flat_length (l := l.take k) fun e h => he e (List.mem_of_mem_take h)
    have h2 : (l.take k).length ≤ l.length := List.length_take_le' _ _
    omega
  have hE1 : (encF 1 (encN3 (P : Int) F T)).length = 17 := by rw [encF_length, encN3_length]
  have hE3 : (encF 3 (be 4 l.length)).length = 9 := by rw [encF_length, be_length]
  have hOut : Hid (strB P F T l = encF 1 (encN3 (P : Int) F T) ++ (l.flatMap frE ++ encF 3 (be 4 l.length))) := show _ = _ from rfl
  have z1 : (⟨(be 4 P).toArray⟩ : ByteArray).size = 4 := by rw [bytes_size, be_length]
  have z2 : (⟨(be 4 F).toArray⟩ : ByteArray).size = 4 := by rw [bytes_size, be_length]
  have z3 : (⟨(be 4 T).toArray⟩ : ByteArray).size = 4 := by rw [bytes_size, be_length]
  rw [j1] at q1
  generalize (⟨(be 4 P).toArray⟩ : ByteArray) = E1 at k1 q1 z1
  generalize (⟨(be 4 F).toArray⟩ : ByteArray) = E2 at k2 q1 z2
  generalize (⟨(be 4 T).toArray⟩ : ByteArray) = E3 at k3 q1 z3
  generalize encF 1 (encN3 (P : Int) F T) = S1 at q1 hE1 hOut
  generalize hS1 : (⟨S1.toArray⟩ : ByteArray) = V1 at q1
  generalize encF 3 (be 4 l.length) = S3 at q3 hE3 hOut
  generalize (⟨(be 4 l.length).toArray⟩ : ByteArray) = E4 at k4 q3
  generalize strB (P : Int) F T l = OUT at hOut ⊢
  have HS1 := Lib.hid hS1
  clear hS1 j1 hS hp
  have z12 : (E1 ++ E2).size = 8 := by rw [ByteArray.size_append]; omega
  go_enter Try.func29, Try.ntmps29
  go_wp2_with fail
  have hx : ((w.alloc (.cells #[.int .i64 (P : Int), .int .i64 (F : Int), .int .i64 (T : Int), .slice A l.length c] 59)).alloc (.cells #[.pointer none, .slice none 0 0] 91)).heap[w.heap.size]? = some (.cells #[.int .i64 (P : Int), .int .i64 (F : Int), .int .i64 (T : Int), .slice A l.length c] 59 (0, 0)) := heap_past _ (heap_new _ _)
  have hb := Bld.new (w.alloc (.cells #[.int .i64 (P : Int), .int .i64 (F : Int), .int .i64 (T : Int), .slice A l.length c] 59))
  have hu := ((Calm.refl w).alloc (.cells #[.int .i64 (P : Int), .int .i64 (F : Int), .int .i64 (T : Int), .slice A l.length c] 59)).alloc (.cells #[.pointer none, .slice none 0 0] 91)
  have hsz : ((w.alloc (.cells #[.int .i64 (P : Int), .int .i64 (F : Int), .int .i64 (T : Int), .slice A l.length c] 59)).alloc (.cells #[.pointer none, .slice none 0 0] 91)).heap.size = w.heap.size + 2 := by simp
  have hB1 : (w.alloc (.cells #[.int .i64 (P : Int), .int .i64 (F : Int), .int .i64 (T : Int), .slice A l.length c] 59)).heap.size = w.heap.size + 1 := by simp
  rw [hB1] at hb
  clear hB1
  generalize (w.alloc (.cells #[.int .i64 (P : Int), .int .i64 (F : Int), .int .i64 (T : Int), .slice A l.length c] 59)).alloc (.cells #[.pointer none, .slice none 0 0] 91) = w2 at hx hb hu hsz ⊢
  have hx0 := hx
  obtain ⟨x0, x1, x2, x3, hxs⟩ := row4s hx
  refine wp_region_plan_tail 12 [.val (.pointer (some ⟨w.heap.size, 0, none⟩)), .val (.int .i64 (P)), .val (.string E1), .val (.pointer (some ⟨w.heap.size, 1, none⟩)), .val (.int .i64 (F)), .val (.string E2), .val (.string (E1 ++ E2)), .val (.pointer (some ⟨w.heap.size, 2, none⟩)), .val (.int .i64 (T)), .val (.string E3), .val (.string (E1 ++ E2 ++ E3)), .val (.string V1)] (by kernel_rfl) (by kernel_rfl) (by kernel_rfl) (by kernel_rfl) ?_
  intro X
  simp only [List.take_succ_cons, List.take_zero, List.drop_succ_cons, List.drop_zero]
  iterate 12
    refine plan_val (by kernel_rfl) (fun u hu => ?_) ?_
    · obtain ⟨hc, hf, hz⟩ := hu.of_drew.facts
      go_simp
      all_goals first
        | ((go_at_call 55; first | (with_reducible exact k1 _) | (with_reducible exact k2 _) | (with_reducible exact k3 _)))
        | ((go_at_call 54; exact q1 _))
        | ((rw [if_neg (by omega)]; go_simp))
    simp only [Act.put, List.setIfInBounds_toArray, List.set_cons_zero, List.set_cons_succ, Nat.reduceAdd]
  refine plan_end ?_
  intro w' hB
  have hk := hB.calm.of_drew
  clear hB
  replace hb := Lib.hid (hb.calm hk)
  replace hu := hu.call hk
  have hsz2 := hk.size
  replace hx := (hk.block hxs).trans hx
  clear hk x0 x1 x2 x3
  rw [← HS1.out]
  go_wp2_with (go_at_call 53; refine (writeString_any (w.heap.size + 1) (w.heap.size + 1) [] S1 _ hb.out (by simp; omega) (by omega)).mono ?_; rintro e w3 ⟨rfl, hb3, hl3⟩; have HB3 := Lib.hid hb3; replace hx := (hl3.block _ (Nat.lt_succ_self _)).trans hx; replace hu := hu.trans (hl3.mono (Nat.le_succ _)); clear hb3 hl3 hb; obtain ⟨x0, x1, x2, x3, hxs⟩ := row4s hx)
  replace HB3 := (show Hid (Bld (w.heap.size + 1) (w.heap.size + 1) S1 w3) from HB3.out)
  clear k1 k2 k3 q1 z1 z2 z3 z12 HS1 hx0
  obtain ⟨w4, hw4⟩ : ∃ w4 : World, w4 = w3 := ⟨_, rfl⟩
  subst hw4
  have hsw := hu.size
  go_loopw [24] (fun i wr => ∃ k : Nat, k ≤ l.length ∧ i = .int .i64 k ∧ Calm w wr ∧ Below (w.heap.size + 1) w4 wr ∧ Hid (Bld (w.heap.size + 1) (w.heap.size + 1) (S1 ++ (l.take k).flatMap frE) wr)) (fun i _ => l.length - (intOf i).toNat)
  case atStart => exact ⟨0, Nat.zero_le _, rfl, hu, Below.refl _ _, by simpa using HB3⟩
  case round =>
    obtain ⟨k, hk, rfl, hur, hlr, hbr⟩ := hrel
    replace hx := (hlr.block _ (Nat.lt_succ_self _)).trans hx
    clear x0 x1 x2 x3
    obtain ⟨x0, x1, x2, x3, hxr⟩ := row4s hx
    have hfk := hfl k
    have hlsz := hlr.size
    by_cases hlt : k < l.length
    rotate_left
    · have hkl : l.take k = l := List.take_of_length_le (by omega)
      rw [hkl] at hbr hfk
      clear hkl hL
      go_wp2_with (first
        | (go_at_call 55; refine (k4 _).mono ?_; rintro e w5 ⟨rfl, hb1⟩; replace hbr := Lib.hid (hbr.out.calm hb1); replace hur := hur.call hb1; replace hlsz := Nat.le_trans hlsz hb1.size; clear hb1)
        | (go_at_call 54; refine (q3 _).mono ?_; rintro e w5 ⟨rfl, hb1⟩; replace hbr := Lib.hid (hbr.out.calm hb1); replace hur := hur.call hb1; replace hlsz := Nat.le_trans hlsz hb1.size; clear hb1)
        | (go_at_call 53; refine (writeString_any (w.heap.size + 1) (w.heap.size + 1) _ S3 _ hbr.out (by rw [List.length_append]; omega) (by omega)).mono ?_; rintro e w5 ⟨rfl, hb3, hl3⟩; replace hbr := Lib.hid hb3; replace hur := hur.trans (hl3.mono (Nat.le_succ _)); replace hlsz := Nat.le_trans hlsz hl3.size; clear hb3 hl3)
        | (go_at_call 57; refine (bldString_any (w.heap.size + 1) (w.heap.size + 1) _ _ hbr.out (by omega)).mono ?_; rintro e w5 ⟨rfl, hl3⟩; replace hur := hur.trans (hl3.mono (Nat.le_succ _)); clear hl3))
      go_ret
      refine ⟨?_, hur⟩
      rw [hOut.out]; simp
    obtain ⟨b, q, p, o, f, m, g, s, rfl, hb, HE, hm, c0, c1, c2, c3, c4, c5⟩ := (hL.calm hur).get hlt
    have hee : (⟨p, o, f, m, g, s⟩ : El).err = 0 := he _ (List.mem_of_getElem? HE.out)
    have cW := codeWrite_good hee
    have hez : (enc ⟨p, o, f, m, g, s⟩).length ≤ 3000 := by have := (err_zero hee).2.2.2.2.2.2.2.2.2.2; rw [enc_length]; omega
    have q2 := batPut_any 2 (enc ⟨p, o, f, m, g, s⟩) (by omega) (by omega) hez 2 rfl
    have hfz := (frE_length hee).2
    have hT : Hid (S1 ++ (l.take (k + 1)).flatMap frE = S1 ++ (l.take k).flatMap frE ++ frE ⟨p, o, f, m, g, s⟩) := by
      show _ = _
      rw [take_snoc3 HE.out, flat_snoc, List.append_assoc]
    have hTe : encF 2 (enc ⟨p, o, f, m, g, s⟩) = frE ⟨p, o, f, m, g, s⟩ := rfl
    rw [hTe] at q2
    generalize (⟨(enc ⟨p, o, f, m, g, s⟩).toArray⟩ : ByteArray) = V at cW q2
    generalize frE ⟨p, o, f, m, g, s⟩ = B2 at q2 hfz hT
    clear HE hee hez hTe hfl he hL hOut q3 k4
    go_wp2_with (first
      | (go_at_call 56; refine (cW _).mono ?_; rintro e w5 ⟨rfl, hb1⟩; replace hbr := Lib.hid (hbr.out.calm (((Calm.refl wr).alloc _).call hb1)); replace hur := (hur.alloc _).call hb1; replace hlr := (hlr.alloc (by omega) _).trans (hb1.mono (by simp; omega)); have hws := hb1.size; simp only [World.size_alloc] at hws; clear hb1)
      | (go_at_call 54; refine (q2 _).mono ?_; rintro e w6 ⟨rfl, hb1⟩; replace hbr := Lib.hid (hbr.out.calm hb1); replace hur := hur.call hb1; replace hlr := hlr.trans (hb1.mono (by omega)); have hws2 := hb1.size; clear hb1)
      | (go_at_call 53; refine (writeString_any (w.heap.size + 1) (w.heap.size + 1) _ B2 _ hbr.out (by rw [List.length_append]; omega) (by omega)).mono ?_; rintro e w7 ⟨rfl, hb3, hl3⟩; rw [← hT.out] at hb3; replace hbr := Lib.hid hb3; replace hur := hur.trans (hl3.mono (Nat.le_succ _)); replace hlr := hlr.trans hl3; clear hb3 hl3))
    go_roundw
    case rel => exact ⟨k + 1, by omega, by go_num, hur, hlr, hbr⟩
    case measure => simp [intOf]; omega
open Go.RowKit
def World.sixAt (w : World) (g o : Nat) (b0 b1 b2 b3 b4 b5 : Value) : World :=
 (((((w.setCell ⟨g, o, none⟩ b0).setCell ⟨g, o + 1, none⟩ b1).setCell ⟨g, o + 2, none⟩ b2).setCell ⟨g, o + 3, none⟩ b3).setCell ⟨g, o + 4, none⟩ b4).setCell ⟨g, o + 5, none⟩ b5
theorem own_sixAt {base g n cap i : Nat} {w : World} {l : List El} (h : OwnR base w (.slice (some ⟨g, 0, none⟩) n cap) l) (hi : i < l.length) (x : El) :
    OwnR base (World.sixAt w g (i * 6) (.int .i64 x.p) (.int .i64 x.o) (.int .i64 x.f) (.int .i64 x.m) (.int .i64 x.g) (.string x.s)) (.slice (some ⟨g, 0, none⟩) n cap) (l.set i x) := by
  have step : ∀ {w : World} {l : List El} (j : Nat) (u : Value) (y : El), OwnR base w (.slice (some ⟨g, 0, none⟩) n cap) l → (hi : i < l.length) → j < 6 → y.cells = l[i].cells.set j u → OwnR base (w.setCell ⟨g, i * 6 + j, none⟩ u) (.slice (some ⟨g, 0, none⟩) n cap) (l.set i y) :=
    fun j u y h hi hj hy => h.set hi hj hy
  have h0 := step 0 (.int .i64 x.p) ⟨x.p, l[i].o, l[i].f, l[i].m, l[i].g, l[i].s⟩ h hi (by omega) rfl
  have g1 : ∀ {l : List El} {y : El} (hi : i < l.length), (l.set i y)[i]'(by simpa using hi) = y := fun hi => List.getElem_set_self _
  have h1 := step 1 (.int .i64 x.o) ⟨x.p, x.o, l[i].f, l[i].m, l[i].g, l[i].s⟩ h0 (by simpa using hi) (by omega) (by rw [g1 hi]; rfl)
  have h2 := step 2 (.int .i64 x.f) ⟨x.p, x.o, x.f, l[i].m, l[i].g, l[i].s⟩ h1 (by simpa using hi) (by omega) (by rw [g1 (by simpa using hi)]; rfl)
  have h3 := step 3 (.int .i64 x.m) ⟨x.p, x.o, x.f, x.m, l[i].g, l[i].s⟩ h2 (by simpa using hi) (by omega) (by rw [g1 (by simpa using hi)]; rfl)
  have h4 := step 4 (.int .i64 x.g) ⟨x.p, x.o, x.f, x.m, x.g, l[i].s⟩ h3 (by simpa using hi) (by omega) (by rw [g1 (by simpa using hi)]; rfl)
  have h5 := step 5 (.string x.s) x h4 (by simpa using hi) (by omega) (by rw [g1 (by simpa using hi)]; rfl)
  simp only [List.set_set] at h5
  exact h5
theorem Calm.sixAt {a w : World} (h : Calm a w) {g : Nat} (hg : a.heap.size ≤ g) (o : Nat) (b0 b1 b2 b3 b4 b5 : Value) : Calm a (World.sixAt w g o b0 b1 b2 b3 b4 b5) :=
 (((((h.setCell (p := ⟨g, o, none⟩) hg b0).setCell (p := ⟨g, o + 1, none⟩) hg b1).setCell (p := ⟨g, o + 2, none⟩) hg b2).setCell (p := ⟨g, o + 3, none⟩) hg b3).setCell (p := ⟨g, o + 4, none⟩) hg b4).setCell (p := ⟨g, o + 5, none⟩) hg b5
open Go.RowKit
theorem zeros_one (m : Nat) : ∀ u ∈ (Builtin.zeroCells #[Value.int .i64 0, .int .i64 0, .int .i64 0, .int .i64 0, .int .i64 0, .string { data := #[] }] m).toList, u.oneCell' = true := by
 intro u hu
 simp only [Builtin.zeroCells, Array.toList_map, List.mem_map] at hu
 obtain ⟨i, _, rfl⟩ := hu
 have h6 : i % 6 < 6 := Nat.mod_lt _ (by omega)
 show (#[Value.int .i64 0, .int .i64 0, .int .i64 0, .int .i64 0, .int .i64 0, .string { data := #[] }][i % 6]!).oneCell' = true
 generalize i % 6 = k at h6
 match k, h6 with
 | 0, _ => rfl
 | 1, _ => rfl
 | 2, _ => rfl
 | 3, _ => rfl
 | 4, _ => rfl
 | 5, _ => rfl
/-- clear(s[x:]) in a row. -/
theorem run_clear_els (w : World) (g o m : Nat) (cur : List Value) (hg : w.heap[g]? = some (.cells cur.toArray 34 (0, 0))) (hm : 0 < m) (hfit : o + m * 6 ≤ cur.length) :
    ∃ zs : List Value, zs.length = m * 6 ∧ ∀ ty c, (Builtin.clear_ #[22] ty #[.slice (some ⟨g, o, none⟩) m c]).run Try.prog w = .ok (.tuple #[]) (w.setRow g (spl cur o zs).toArray) := by
  obtain ⟨zs, hzs⟩ : ∃ zs, (Builtin.zeroCells (Value.agg #[Value.int .i64 0, .int .i64 0, .int .i64 0, .int .i64 0, .int .i64 0, .string { data := #[] }]).cells m).toList = zs := ⟨_, rfl⟩
  have hl : zs.length = m * 6 := by rw [← hzs]; show (Builtin.zeroCells #[Value.int .i64 0, .int .i64 0, .int .i64 0, .int .i64 0, .int .i64 0, .string { data := #[] }] m).toList.length = _; simp [Builtin.zeroCells]
  have h1 : ∀ u ∈ zs, u.oneCell' = true := by rw [← hzs]; exact zeros_one m
  have hst := run_storeCells_at Try.prog g o 34 zs 0 cur.toArray w hg (by rw [hl]; simpa using hfit) h1
  refine ⟨zs, hl, fun ty c => ?_⟩
  obtain ⟨m', rfl⟩ : ∃ m', m = m' + 1 := ⟨m - 1, by omega⟩
  simp [Builtin.clear_, run_underlying Try.underlying22, hzs, hst, spl]
def delQ (l : List El) (k : El → Bool) : List El := l.filter fun e => !k e
theorem delQ_take {l : List El} {j : Nat} {e : El} (h : l[j]? = some e) (k : El → Bool) : delQ (l.take (j + 1)) k = delQ (l.take j) k ++ (if k e = true then [] else [e]) := by
 obtain ⟨hj, he⟩ := List.getElem?_eq_some_iff.1 h
 unfold delQ
 rw [List.take_succ_eq_append_getElem hj, List.filter_append, he]
 congr 1
 cases hk : k e <;> simp [hk]
def DelsQ (l : List El) (k : El → Bool) (i j : Nat) (L : List El) : Prop := L.length = l.length ∧ L.take i = delQ (l.take j) k ∧ L.drop j = l.drop j
theorem DelsQ.at_ {l L : List El} {k : El → Bool} {i j : Nat} (h : DelsQ l k i j L) : L[j]? = l[j]? := by
 have := congrArg (·[0]?) h.2.2
 simpa using this
theorem DelsQ.skip {l L : List El} {k : El → Bool} {i j : Nat} {e : El} (h : DelsQ l k i j L) (he : l[j]? = some e) (hk : k e = true) : DelsQ l k i (j + 1) L := by
 obtain ⟨h1, h2, h3⟩ := h
 refine ⟨h1, ?_, ?_⟩
 ·rw [delQ_take he, if_pos hk, List.append_nil, h2]
 ·rw [← List.drop_drop, ← List.drop_drop, h3]
theorem DelsQ.keep {l L : List El} {k : El → Bool} {i j : Nat} {e : El} (h : DelsQ l k i j L) (hij : i ≤ j) (he : l[j]? = some e) (hk : k e = false) : DelsQ l k (i + 1) (j + 1) (L.set i e) := by
 obtain ⟨h1, h2, h3⟩ := h
 have hj := (List.getElem?_eq_some_iff.1 he).1
 refine ⟨by simpa using h1, ?_, ?_⟩
 ·have hi : i < (L.set i e).length := by rw [List.length_set]; omega
  rw [delQ_take he, if_neg (by rw [hk]; simp), List.take_succ_eq_append_getElem hi, List.take_set_of_le (Nat.le_refl _), h2, List.getElem_set_self]
 ·rw [List.drop_set_of_lt (by omega), ← List.drop_drop, ← List.drop_drop, h3]
theorem DelsQ.first {l : List El} {k : El → Bool} {i : Nat} (hi : i < l.length) (h1 : k l[i] = true) (h0 : ∀ j (hj : j < l.length), j < i → k l[j] = false) : DelsQ l k i (i + 1) l := by
 refine ⟨rfl, ?_, rfl⟩
 rw [delQ_take (List.getElem?_eq_getElem hi), if_pos h1, List.append_nil]
 unfold delQ
 symm
 rw [List.filter_eq_self]
 intro e he
 obtain ⟨j, hj, rfl⟩ := List.getElem_of_mem he
 rw [List.length_take] at hj
 rw [List.getElem_take, h0 j (by omega) (by omega)]
 rfl
theorem DelsQ.end_ {l L : List El} {k : El → Bool} {i : Nat} (h : DelsQ l k i l.length L) : L.take i = delQ l k := by
 have := h.2.1
 rwa [List.take_length] at this
theorem delQ_none {l : List El} {k : El → Bool} (h : ∀ e ∈ l, k e = false) : delQ l k = l := by
 unfold delQ
 rw [List.filter_eq_self]
 intro e he
 rw [h e he]; rfl
def FIQ (l : List El) (k : El → Bool) (r : Int) : Prop := (r = -1 ∧ ∀ e ∈ l, k e = false) ∨ (∃ (i : Nat) (h : i < l.length), r = i ∧ k l[i] = true ∧ ∀ j (hj : j < l.length), j < i → k l[j] = false)
theorem FIQ_ex (l : List El) (k : El → Bool) : ∃ r, FIQ l k r := by
 have E : ∀ n, n ≤ l.length → (∃ (i : Nat) (h : i < l.length), k l[i] = true ∧ ∀ j (hj : j < l.length), j < i → k l[j] = false) ∨ ∀ j (hj : j < l.length), j < n → k l[j] = false := fun n => by
  induction n with
  |zero => intro _; right; intro j hj h0; omega
  |succ n ih =>
   intro hn
   rcases ih (by omega) with h | h
   ·exact .inl h
   ·cases hp : k l[n]
    ·right; intro j hj h1
     rcases Nat.lt_or_ge j n with h2 | h2
     ·exact h j hj h2
     ·rw [show l[j] = l[n] from by congr 1; omega]; exact hp
    ·exact .inl ⟨n, by omega, hp, h⟩
 rcases E l.length (Nat.le_refl _) with ⟨i, h, h1, h2⟩ | h
 ·exact ⟨i, .inr ⟨i, h, rfl, h1, h2⟩⟩
 ·exact ⟨-1, .inl ⟨rfl, fun e he => by obtain ⟨j, hj, rfl⟩ := List.getElem_of_mem he; exact h j hj hj⟩⟩
open Go.RowKit
set_option maxHeartbeats 4000000 in
theorem indexA_any (B : Nat) (A : Option Addr) (c : Nat) (l : List El) (q : El → Bool) (r : Int) (w : World) (hn : l.length ≤ 9223372036854775807) (hL : Lies w A l) (hP : ∀ (u : World) (p o f m g : Int) (s : ByteArray), Calm w u → Calls Try.prog 27 #[.agg #[.int .i64 p, .int .i64 o, .int .i64 f, .int .i64 m, .int .i64 g, .string s], .pointer (some ⟨B, 0, none⟩)] u fun e w' => e = .returned (.bool (q ⟨p, o, f, m, g, s⟩)) ∧ Calm u w') (hF : FIQ l q r) :
    Calls Try.prog 52 #[.slice A l.length c, .func (.func 27) #[] #[.pointer (some ⟨B, 0, none⟩)]] w fun e w' => e = .returned (.int .i64 r) ∧ Calm w w' := by
  have HF := Lib.hid hF
  have C : ∀ (u : World) (p o f m g : Int) (s : ByteArray), Calm w u → Calls Try.prog 27 (#[.agg #[.int .i64 p, .int .i64 o, .int .i64 f, .int .i64 m, .int .i64 g, .string s]] ++ #[.pointer (some ⟨B, 0, none⟩)]) u fun e w' => e = .returned (.bool (q ⟨p, o, f, m, g, s⟩)) ∧ Calm u w' := hP
  clear hF hP
  go_enter Try.func52, Try.ntmps52
  go_wp2_with fail
  go_loopw [8] (fun i wr => ∃ k : Nat, k ≤ l.length ∧ i = .int .i64 k ∧ Calm w wr ∧ Hid (∀ j (hj : j < l.length), j < k → q l[j] = false)) (fun i _ => l.length - (intOf i).toNat)
  case atStart => exact ⟨0, Nat.zero_le _, rfl, Calm.refl _, show ∀ _, _ from fun j hj h => absurd h (Nat.not_lt_zero _)⟩
  case round =>
    obtain ⟨k, hk, rfl, hu, hN⟩ := hrel
    by_cases hlt : k < l.length
    rotate_left
    · have K : Hid (r = -1) := by
        rcases HF.out with h | ⟨i, hi, _, h2, _⟩
        · exact h.1
        · rw [hN.out i hi (by omega)] at h2; cases h2
      clear C
      go_wp2_with fail
      go_ret
      exact ⟨by rw [K.out]; rfl, hu⟩
    obtain ⟨b, q0, p, o, f, m, g, s, rfl, hb, HE, hm, c0, c1, c2, c3, c4, c5⟩ := (hL.calm hu).get hlt
    have HE2 := (List.getElem?_eq_some_iff.1 HE.out).2
    have hc := C wr p o f m g s hu
    cases hp : q ⟨p, o, f, m, g, s⟩
    · rw [hp] at hc
      have hN2 : Hid (∀ j (hj : j < l.length), j < k + 1 → q l[j] = false) := show ∀ _, _ from fun j hj h => by
        rcases Nat.lt_or_ge j k with h2 | h2
        · exact hN.out j hj h2
        · rw [show l[j] = l[k] from by congr 1; omega, HE2]; exact hp
      clear hp C HE2
      go_wp2_with (go_at_call 27; refine hc.mono ?_; rintro e w1 ⟨rfl, hb1⟩)
      go_roundw
      case rel => exact ⟨k + 1, by omega, by go_num, hu.call hb1, hN2⟩
      case measure => simp [intOf]; omega
    · rw [hp] at hc
      have K : Hid (r = k) := by
        rcases HF.out with h | ⟨i, hi, hr, h2, h3⟩
        · have := h.2 _ (List.getElem_mem hlt); rw [HE2, hp] at this; cases this
        · rw [hr]
          rcases Nat.lt_trichotomy i k with h4 | h4 | h4
          · rw [hN.out i hi h4] at h2; cases h2
          · show _ = _; rw [h4]
          · have := h3 k hlt h4; rw [HE2, hp] at this; cases this
      clear hp C HE2
      go_wp2_with (go_at_call 27; refine hc.mono ?_; rintro e w1 ⟨rfl, hb1⟩)
      go_ret
      exact ⟨by rw [K.out]; rfl, hu.call hb1⟩
set_option maxHeartbeats 8000000 in
theorem deleteA_any (base B : Nat) (v : Value) (l : List El) (q : El → Bool) (w0 w : World) (hl4 : l.length ≤ 1000000) (hwf : ∀ e ∈ l, e.wf) (ho : OwnR base w v l) (h0 : w0.heap.size ≤ base) (hC : Calm w0 w) (hP : ∀ (u : World) (p o f m g : Int) (s : ByteArray), Calm w0 u → Calls Try.prog 27 #[.agg #[.int .i64 p, .int .i64 o, .int .i64 f, .int .i64 m, .int .i64 g, .string s], .pointer (some ⟨B, 0, none⟩)] u fun e w' => e = .returned (.bool (q ⟨p, o, f, m, g, s⟩)) ∧ Calm u w') :
    Calls Try.prog 26 #[v, .func (.func 27) #[] #[.pointer (some ⟨B, 0, none⟩)]] w fun e w' => ∃ v', e = .returned v' ∧ OwnR base w' v' (delQ l q) ∧ Calm w0 w' := by
  obtain ⟨r, hF⟩ := FIQ_ex l q
  obtain ⟨A, c, hv, hlc, hc63, hL⟩ := ho.lies hwf
  have cI := indexA_any B A c l q r w (by omega) hL (fun u p o f m g s hu => hP u p o f m g s (hC.call hu)) hF
  rw [← hv] at cI
  have HO := Lib.hid ho
  rcases hF with ⟨rfl, h2⟩ | ⟨i, hi, rfl, h1, hlt⟩
  · rw [delQ_none h2]
    clear h2 hv hL ho hwf
    go_enter Try.func26, Try.ntmps26
    go_wp2_with (go_at_call 52; refine cI.mono ?_; rintro e w1 ⟨rfl, hb1⟩)
    go_ret
    exact ⟨_, rfl, HO.out.calm hb1, hC.call hb1⟩
  have hD := DelsQ.first hi h1 hlt
  obtain ⟨g, cap, rfl⟩ := ho.some (by omega)
  have hcap : l.length ≤ cap := (ho.cell hi).2.2.2.2.2
  clear h1 hlt hv hL ho hlc
  have hii : (i : Int) < (l.length : Int) := by omega
  have hi1 : ((i : Int) == -1) = false := by rw [beq_eq_false_iff_ne]; omega
  have hcc : (cap : Int) ≤ 9223372036854775807 := by
    rcases HO.out.2 with ⟨h1, _⟩ | ⟨_, _, _, h1, _, _, _, h2, _⟩
    · cases h1
    · injection h1 with _ _ h3; subst h3; unfold maxLen at h2; omega
  go_enter Try.func26, Try.ntmps26
  go_wp2_with (go_at_call 52; refine cI.mono ?_; rintro e w1 ⟨rfl, hb1⟩)
  have HD := Lib.hid hD
  clear hD
  go_loopw [5, 6] (fun a b wr => ∃ (x y : Nat) (L : List El), x < y ∧ y ≤ l.length ∧ a = .int .i64 x ∧ b = .int .i64 y ∧ Calm w0 wr ∧ Hid (OwnR base wr (.slice (some ⟨g, 0, none⟩) l.length cap) L) ∧ Hid (DelsQ l q x y L)) (fun _ b _ => l.length - (intOf b).toNat)
  case atStart => exact ⟨i, i + 1, l, by omega, by omega, rfl, by go_num, hC.call hb1, Lib.hid (HO.out.calm hb1), HD⟩
  case round =>
    obtain ⟨x, y, L, hxy, hy, rfl, rfl, hu, hO, hD⟩ := hrel
    by_cases hlt : y < l.length
    rotate_left
    · obtain rfl : l.length = y := by omega
      have hT := hD.out.end_
      have hxl := hD.out.1
      rcases id hO.out.2 with ⟨h, _⟩ | ⟨g', cap', cur0, hv, hbg, hg0, hnc, hcm, hcs, ht⟩
      · cases h
      injection hv with q1 q2 q3
      injection q1 with q1
      injection q1 with q1
      subst q1; subst q3
      obtain ⟨cur, rfl⟩ : ∃ cur : List Value, cur.toArray = cur0 := ⟨cur0.toList, by simp⟩
      simp only [List.size_toArray] at hcs ht
      obtain ⟨zs, hzl, hcl⟩ := run_clear_els wr g (x * 6) (l.length - x) cur hg0 (by omega) (by omega)
      have hfin : (wr.setRow g (spl cur (x * 6) zs).toArray).heap[g]? = some (.cells (spl cur (x * 6) zs).toArray 34 (0, 0)) := setRow_heap _ _ _ _ _ _ hg0
      have hdl : (delQ l q).length = x := by rw [← hT, List.length_take]; omega
      have hE : OwnR base (wr.setRow g (spl cur (x * 6) zs).toArray) (.slice (some ⟨g, 0, none⟩) (delQ l q).length cap) (delQ l q) := by
        refine OwnR.row hbg hfin (by omega) hcm (by rw [spl_len (by rw [hzl]; omega)]; omega) ?_
        rw [hdl, ← hT, ← cellsOf_take (by omega), ← ht]
        unfold spl
        rw [List.append_assoc, List.take_append_of_le_length (by rw [List.length_take]; omega), List.take_take, List.take_take]
        congr 1
        omega
      rw [hdl] at hE
      have HE := Lib.hid hE
      have hu2 := hu.setRow (g := g) (by omega) (spl cur (x * 6) zs).toArray
      have hcx : ¬ cap = x := by omega
      have hxc : x ≤ cap := by omega
      have hxi : (x : Int) ≤ (cap : Int) := by omega
      have hxn : (x : Int) ≤ (l.length : Int) := by omega
      have hxn2 : x ≤ l.length := by omega
      clear hT hxl hD hO q2 hg0 hcs ht hzl hfin hdl hE
      go_wp2_with fail
      go_ret
      exact ⟨_, rfl, HE.out, hu2⟩
    obtain ⟨e, he⟩ : ∃ e, l[y]? = some e := ⟨_, List.getElem?_eq_getElem hlt⟩
    obtain ⟨p, o, f, m, gg, s⟩ := e
    have hLl := hD.out.1
    have hyL : y < L.length := by omega
    have hxL : x < L.length := by omega
    have hLy : L[y] = ⟨p, o, f, m, gg, s⟩ := by
      have := hD.out.at_
      rw [he, List.getElem?_eq_getElem hyL] at this
      exact Option.some.inj this
    obtain ⟨⟨c0, c1, c2, c3, c4, c5⟩, hfr, hgb, hgw, -, -⟩ := hO.out.cell hyL
    rw [hLy] at c0 c1 c2 c3 c4 c5
    simp only at c0 c1 c2 c3 c4 c5
    have hP := hP (wr.alloc (.cells #[.int .i64 p, .int .i64 o, .int .i64 f, .int .i64 m, .int .i64 gg, .string s] 34)) p o f m gg s (hu.alloc _)
    have hP : Calls Try.prog 27 (#[.agg #[.int .i64 p, .int .i64 o, .int .i64 f, .int .i64 m, .int .i64 gg, .string s]] ++ #[.pointer (some ⟨B, 0, none⟩)]) (wr.alloc (.cells #[.int .i64 p, .int .i64 o, .int .i64 f, .int .i64 m, .int .i64 gg, .string s] 34)) _ := hP
    have hz := heap_new wr (.cells #[.int .i64 p, .int .i64 o, .int .i64 f, .int .i64 m, .int .i64 gg, .string s] 34)
    cases hk : q ⟨p, o, f, m, gg, s⟩
    · rw [hk] at hP
      have HD2 := Lib.hid (hD.out.keep (by omega) he hk)
      clear hfr hk he hLy hD hLl
      go_wp2_with (go_at_call 27; refine hP.mono ?_; rintro e w2 ⟨rfl, hb2⟩; replace hz := (hb2.block (row6 hz).2.2.2.2.2.2).trans hz; have hu2 := (hu.alloc _).call hb2; have hO2 := Lib.hid (hO.out.calm (((Calm.refl wr).alloc _).call hb2)); clear hb2; obtain ⟨z0, z1, z2, z3, z4, z5, hzs⟩ := row6 hz; obtain ⟨⟨d0, d1, d2, d3, d4, d5⟩, hfr, -, hgw2, -, -⟩ := hO2.out.cell hxL)
      have hO3 := Lib.hid (own_sixAt hO2.out hxL ⟨p, o, f, m, gg, s⟩)
      have hu3 := hu2.sixAt (g := g) (by omega) (x * 6) (.int .i64 p) (.int .i64 o) (.int .i64 f) (.int .i64 m) (.int .i64 gg) (.string s)
      unfold World.sixAt at hO3 hu3
      go_roundw
      case rel => exact ⟨x + 1, y + 1, _, by omega, by omega, by go_num, by go_num, hu3, hO3, HD2⟩
      case measure => simp [intOf]; omega
    · rw [hk] at hP
      have HD2 := Lib.hid (hD.out.skip he hk)
      clear hfr hk he hLy hD hLl
      go_wp2_with (go_at_call 27; refine hP.mono ?_; rintro e w2 ⟨rfl, hb2⟩; have hu2 := (hu.alloc _).call hb2; have hO2 := Lib.hid (hO.out.calm (((Calm.refl wr).alloc _).call hb2)); clear hb2)
      go_roundw
      case rel => exact ⟨x, y + 1, L, by omega, by omega, rfl, by go_num, hu2, hO2, HD2⟩
      case measure => simp [intOf]; omega
open Go.RowKit
set_option maxHeartbeats 4000000 in
theorem indexB_any (B : Nat) (A : Option Addr) (c : Nat) (l : List El) (q : El → Bool) (r : Int) (w : World) (hn : l.length ≤ 9223372036854775807) (hL : Lies w A l) (hP : ∀ (u : World) (p o f m g : Int) (s : ByteArray), Calm w u → Calls Try.prog 34 #[.agg #[.int .i64 p, .int .i64 o, .int .i64 f, .int .i64 m, .int .i64 g, .string s], .pointer (some ⟨B, 0, none⟩)] u fun e w' => e = .returned (.bool (q ⟨p, o, f, m, g, s⟩)) ∧ Calm u w') (hF : FIQ l q r) :
    Calls Try.prog 52 #[.slice A l.length c, .func (.func 34) #[] #[.pointer (some ⟨B, 0, none⟩)]] w fun e w' => e = .returned (.int .i64 r) ∧ Calm w w' := by
  have HF := Lib.hid hF
  have C : ∀ (u : World) (p o f m g : Int) (s : ByteArray), Calm w u → Calls Try.prog 34 (#[.agg #[.int .i64 p, .int .i64 o, .int .i64 f, .int .i64 m, .int .i64 g, .string s]] ++ #[.pointer (some ⟨B, 0, none⟩)]) u fun e w' => e = .returned (.bool (q ⟨p, o, f, m, g, s⟩)) ∧ Calm u w' := hP
  clear hF hP
  go_enter Try.func52, Try.ntmps52
  go_wp2_with fail
  go_loopw [8] (fun i wr => ∃ k : Nat, k ≤ l.length ∧ i = .int .i64 k ∧ Calm w wr ∧ Hid (∀ j (hj : j < l.length), j < k → q l[j] = false)) (fun i _ => l.length - (intOf i).toNat)
  case atStart => exact ⟨0, Nat.zero_le _, rfl, Calm.refl _, show ∀ _, _ from fun j hj h => absurd h (Nat.not_lt_zero _)⟩
  case round =>
    obtain ⟨k, hk, rfl, hu, hN⟩ := hrel
    by_cases hlt : k < l.length
    rotate_left
    · have K : Hid (r = -1) := by
        rcases HF.out with h | ⟨i, hi, _, h2, _⟩
        · exact h.1
        · rw [hN.out i hi (by omega)] at h2; cases h2
      clear C
      go_wp2_with fail
      go_ret
      exact ⟨by rw [K.out]; rfl, hu⟩
    obtain ⟨b, q0, p, o, f, m, g, s, rfl, hb, HE, hm, c0, c1, c2, c3, c4, c5⟩ := (hL.calm hu).get hlt
    have HE2 := (List.getElem?_eq_some_iff.1 HE.out).2
    have hc := C wr p o f m g s hu
    cases hp : q ⟨p, o, f, m, g, s⟩
    · rw [hp] at hc
      have hN2 : Hid (∀ j (hj : j < l.length), j < k + 1 → q l[j] = false) := show ∀ _, _ from fun j hj h => by
        rcases Nat.lt_or_ge j k with h2 | h2
        · exact hN.out j hj h2
        · rw [show l[j] = l[k] from by congr 1; omega, HE2]; exact hp
      clear hp C HE2
      go_wp2_with (go_at_call 34; refine hc.mono ?_; rintro e w1 ⟨rfl, hb1⟩)
      go_roundw
      case rel => exact ⟨k + 1, by omega, by go_num, hu.call hb1, hN2⟩
      case measure => simp [intOf]; omega
    · rw [hp] at hc
      have K : Hid (r = k) := by
        rcases HF.out with h | ⟨i, hi, hr, h2, h3⟩
        · have := h.2 _ (List.getElem_mem hlt); rw [HE2, hp] at this; cases this
        · rw [hr]
          rcases Nat.lt_trichotomy i k with h4 | h4 | h4
          · rw [hN.out i hi h4] at h2; cases h2
          · show _ = _; rw [h4]
          · have := h3 k hlt h4; rw [HE2, hp] at this; cases this
      clear hp C HE2
      go_wp2_with (go_at_call 34; refine hc.mono ?_; rintro e w1 ⟨rfl, hb1⟩)
      go_ret
      exact ⟨by rw [K.out]; rfl, hu.call hb1⟩
set_option maxHeartbeats 8000000 in
theorem deleteB_any (base B : Nat) (v : Value) (l : List El) (q : El → Bool) (w0 w : World) (hl4 : l.length ≤ 1000000) (hwf : ∀ e ∈ l, e.wf) (ho : OwnR base w v l) (h0 : w0.heap.size ≤ base) (hC : Calm w0 w) (hP : ∀ (u : World) (p o f m g : Int) (s : ByteArray), Calm w0 u → Calls Try.prog 34 #[.agg #[.int .i64 p, .int .i64 o, .int .i64 f, .int .i64 m, .int .i64 g, .string s], .pointer (some ⟨B, 0, none⟩)] u fun e w' => e = .returned (.bool (q ⟨p, o, f, m, g, s⟩)) ∧ Calm u w') :
    Calls Try.prog 26 #[v, .func (.func 34) #[] #[.pointer (some ⟨B, 0, none⟩)]] w fun e w' => ∃ v', e = .returned v' ∧ OwnR base w' v' (delQ l q) ∧ Calm w0 w' := by
  obtain ⟨r, hF⟩ := FIQ_ex l q
  obtain ⟨A, c, hv, hlc, hc63, hL⟩ := ho.lies hwf
  have cI := indexB_any B A c l q r w (by omega) hL (fun u p o f m g s hu => hP u p o f m g s (hC.call hu)) hF
  rw [← hv] at cI
  have HO := Lib.hid ho
  rcases hF with ⟨rfl, h2⟩ | ⟨i, hi, rfl, h1, hlt⟩
  · rw [delQ_none h2]
    clear h2 hv hL ho hwf
    go_enter Try.func26, Try.ntmps26
    go_wp2_with (go_at_call 52; refine cI.mono ?_; rintro e w1 ⟨rfl, hb1⟩)
    go_ret
    exact ⟨_, rfl, HO.out.calm hb1, hC.call hb1⟩
  have hD := DelsQ.first hi h1 hlt
  obtain ⟨g, cap, rfl⟩ := ho.some (by omega)
  have hcap : l.length ≤ cap := (ho.cell hi).2.2.2.2.2
  clear h1 hlt hv hL ho hlc
  have hii : (i : Int) < (l.length : Int) := by omega
  have hi1 : ((i : Int) == -1) = false := by rw [beq_eq_false_iff_ne]; omega
  have hcc : (cap : Int) ≤ 9223372036854775807 := by
    rcases HO.out.2 with ⟨h1, _⟩ | ⟨_, _, _, h1, _, _, _, h2, _⟩
    · cases h1
    · injection h1 with _ _ h3; subst h3; unfold maxLen at h2; omega
  go_enter Try.func26, Try.ntmps26
  go_wp2_with (go_at_call 52; refine cI.mono ?_; rintro e w1 ⟨rfl, hb1⟩)
  have HD := Lib.hid hD
  clear hD
  go_loopw [5, 6] (fun a b wr => ∃ (x y : Nat) (L : List El), x < y ∧ y ≤ l.length ∧ a = .int .i64 x ∧ b = .int .i64 y ∧ Calm w0 wr ∧ Hid (OwnR base wr (.slice (some ⟨g, 0, none⟩) l.length cap) L) ∧ Hid (DelsQ l q x y L)) (fun _ b _ => l.length - (intOf b).toNat)
  case atStart => exact ⟨i, i + 1, l, by omega, by omega, rfl, by go_num, hC.call hb1, Lib.hid (HO.out.calm hb1), HD⟩
  case round =>
    obtain ⟨x, y, L, hxy, hy, rfl, rfl, hu, hO, hD⟩ := hrel
    by_cases hlt : y < l.length
    rotate_left
    · obtain rfl : l.length = y := by omega
      have hT := hD.out.end_
      have hxl := hD.out.1
      rcases id hO.out.2 with ⟨h, _⟩ | ⟨g', cap', cur0, hv, hbg, hg0, hnc, hcm, hcs, ht⟩
      · cases h
      injection hv with q1 q2 q3
      injection q1 with q1
      injection q1 with q1
      subst q1; subst q3
      obtain ⟨cur, rfl⟩ : ∃ cur : List Value, cur.toArray = cur0 := ⟨cur0.toList, by simp⟩
      simp only [List.size_toArray] at hcs ht
      obtain ⟨zs, hzl, hcl⟩ := run_clear_els wr g (x * 6) (l.length - x) cur hg0 (by omega) (by omega)
      have hfin : (wr.setRow g (spl cur (x * 6) zs).toArray).heap[g]? = some (.cells (spl cur (x * 6) zs).toArray 34 (0, 0)) := setRow_heap _ _ _ _ _ _ hg0
      have hdl : (delQ l q).length = x := by rw [← hT, List.length_take]; omega
      have hE : OwnR base (wr.setRow g (spl cur (x * 6) zs).toArray) (.slice (some ⟨g, 0, none⟩) (delQ l q).length cap) (delQ l q) := by
        refine OwnR.row hbg hfin (by omega) hcm (by rw [spl_len (by rw [hzl]; omega)]; omega) ?_
        rw [hdl, ← hT, ← cellsOf_take (by omega), ← ht]
        unfold spl
        rw [List.append_assoc, List.take_append_of_le_length (by rw [List.length_take]; omega), List.take_take, List.take_take]
        congr 1
        omega
      rw [hdl] at hE
      have HE := Lib.hid hE
      have hu2 := hu.setRow (g := g) (by omega) (spl cur (x * 6) zs).toArray
      have hcx : ¬ cap = x := by omega
      have hxc : x ≤ cap := by omega
      have hxi : (x : Int) ≤ (cap : Int) := by omega
      have hxn : (x : Int) ≤ (l.length : Int) := by omega
      have hxn2 : x ≤ l.length := by omega
      clear hT hxl hD hO q2 hg0 hcs ht hzl hfin hdl hE
      go_wp2_with fail
      go_ret
      exact ⟨_, rfl, HE.out, hu2⟩
    obtain ⟨e, he⟩ : ∃ e, l[y]? = some e := ⟨_, List.getElem?_eq_getElem hlt⟩
    obtain ⟨p, o, f, m, gg, s⟩ := e
    have hLl := hD.out.1
    have hyL : y < L.length := by omega
    have hxL : x < L.length := by omega
    have hLy : L[y] = ⟨p, o, f, m, gg, s⟩ := by
      have := hD.out.at_
      rw [he, List.getElem?_eq_getElem hyL] at this
      exact Option.some.inj this
    obtain ⟨⟨c0, c1, c2, c3, c4, c5⟩, hfr, hgb, hgw, -, -⟩ := hO.out.cell hyL
    rw [hLy] at c0 c1 c2 c3 c4 c5
    simp only at c0 c1 c2 c3 c4 c5
    have hP := hP (wr.alloc (.cells #[.int .i64 p, .int .i64 o, .int .i64 f, .int .i64 m, .int .i64 gg, .string s] 34)) p o f m gg s (hu.alloc _)
    have hP : Calls Try.prog 34 (#[.agg #[.int .i64 p, .int .i64 o, .int .i64 f, .int .i64 m, .int .i64 gg, .string s]] ++ #[.pointer (some ⟨B, 0, none⟩)]) (wr.alloc (.cells #[.int .i64 p, .int .i64 o, .int .i64 f, .int .i64 m, .int .i64 gg, .string s] 34)) _ := hP
    have hz := heap_new wr (.cells #[.int .i64 p, .int .i64 o, .int .i64 f, .int .i64 m, .int .i64 gg, .string s] 34)
    cases hk : q ⟨p, o, f, m, gg, s⟩
    · rw [hk] at hP
      have HD2 := Lib.hid (hD.out.keep (by omega) he hk)
      clear hfr hk he hLy hD hLl
      go_wp2_with (go_at_call 34; refine hP.mono ?_; rintro e w2 ⟨rfl, hb2⟩; replace hz := (hb2.block (row6 hz).2.2.2.2.2.2).trans hz; have hu2 := (hu.alloc _).call hb2; have hO2 := Lib.hid (hO.out.calm (((Calm.refl wr).alloc _).call hb2)); clear hb2; obtain ⟨z0, z1, z2, z3, z4, z5, hzs⟩ := row6 hz; obtain ⟨⟨d0, d1, d2, d3, d4, d5⟩, hfr, -, hgw2, -, -⟩ := hO2.out.cell hxL)
      have hO3 := Lib.hid (own_sixAt hO2.out hxL ⟨p, o, f, m, gg, s⟩)
      have hu3 := hu2.sixAt (g := g) (by omega) (x * 6) (.int .i64 p) (.int .i64 o) (.int .i64 f) (.int .i64 m) (.int .i64 gg) (.string s)
      unfold World.sixAt at hO3 hu3
      go_roundw
      case rel => exact ⟨x + 1, y + 1, _, by omega, by omega, by go_num, by go_num, hu3, hO3, HD2⟩
      case measure => simp [intOf]; omega
    · rw [hk] at hP
      have HD2 := Lib.hid (hD.out.skip he hk)
      clear hfr hk he hLy hD hLl
      go_wp2_with (go_at_call 34; refine hP.mono ?_; rintro e w2 ⟨rfl, hb2⟩; have hu2 := (hu.alloc _).call hb2; have hO2 := Lib.hid (hO.out.calm (((Calm.refl wr).alloc _).call hb2)); clear hb2)
      go_roundw
      case rel => exact ⟨x, y + 1, L, by omega, by omega, rfl, by go_num, hu2, hO2, HD2⟩
      case measure => simp [intOf]; omega
open Go.RowKit
theorem bytes_append (a b : List UInt8) : (⟨a.toArray⟩ : ByteArray) ++ ⟨b.toArray⟩ = ⟨(a ++ b).toArray⟩ := by
 apply ByteArray.ext
 rw [ByteArray.data_append]
 simp
theorem big_1 (n : Nat) (w : World) (hn : n < 4294967296) : Calls Try.prog 37 #[.int .i64 (n : Int), .int .i64 1] w fun e w' => e = .returned (.string ⟨(be 1 n).toArray⟩) ∧ Calm w w' := big_any 1 n w (by omega) hn
theorem big_4 (n : Nat) (w : World) (hn : n < 4294967296) : Calls Try.prog 37 #[.int .i64 (n : Int), .int .i64 4] w fun e w' => e = .returned (.string ⟨(be 4 n).toArray⟩) ∧ Calm w w' := big_any 4 n w (by omega) hn
set_option maxHeartbeats 8000000 in
theorem refBytes_any (p o f m g : Int) (s : ByteArray) (w : World) (he : elemErr p o f m g s.size = 0) : Calls Try.prog 38 #[.agg #[.int .i64 p, .int .i64 o, .int .i64 f, .int .i64 m, .int .i64 g, .string s]] w fun e w' => e = .returned (.string ⟨(enc ⟨p, o, f, m, g, s⟩).toArray⟩) ∧ Calm w w' := by
 have hb := err_zero (e := ⟨p, o, f, m, g, s⟩) he
 simp only at hb
 obtain ⟨P, rfl⟩ : ∃ n : Nat, p = (n : Int) := ⟨p.toNat, by omega⟩
 obtain ⟨O, rfl⟩ : ∃ n : Nat, o = (n : Int) := ⟨o.toNat, by omega⟩
 obtain ⟨F, rfl⟩ : ∃ n : Nat, f = (n : Int) := ⟨f.toNat, by omega⟩
 obtain ⟨M, rfl⟩ : ∃ n : Nat, m = (n : Int) := ⟨m.toNat, by omega⟩
 obtain ⟨D, rfl⟩ : ∃ n : Nat, g = (n : Int) := ⟨g.toNat, by omega⟩
 have c1 := fun u => big_1 P u (by omega)
 have c2 := fun u => big_4 O u (by omega)
 have c3 := fun u => big_4 F u (by omega)
 have c4 := fun u => big_4 M u (by omega)
 have c5 := fun u => big_4 D u (by omega)
 have c6 := fun u => big_1 s.size u (by omega)
 have sz : ∀ k n, (⟨(be k n).toArray⟩ : ByteArray).size = k := fun k n => by show (be k n).toArray.size = k; rw [List.size_toArray, be_length]
 have s1 := sz 1 P; have s2 := sz 4 O; have s3 := sz 4 F; have s4 := sz 4 M; have s5 := sz 4 D; have s6 := sz 1 s.size
 have E : Hid ((⟨(be 1 P).toArray⟩ : ByteArray) ++ ⟨(be 4 O).toArray⟩ ++ ⟨(be 4 F).toArray⟩ ++ ⟨(be 4 M).toArray⟩ ++ ⟨(be 4 D).toArray⟩ ++ ⟨(be 1 s.size).toArray⟩ ++ s = ⟨(enc ⟨P, O, F, M, D, s⟩).toArray⟩) := by
  show _ = _
  have hs : s = ⟨s.data.toList.toArray⟩ := by simp
  conv => lhs; rw [hs]
  simp only [bytes_append, enc, Int.toNat_natCast, List.append_assoc]
 have hs40 : s.size ≤ 40 := by omega
 generalize (⟨(be 1 P).toArray⟩ : ByteArray) = B1 at c1 s1 E
 generalize (⟨(be 4 O).toArray⟩ : ByteArray) = B2 at c2 s2 E
 generalize (⟨(be 4 F).toArray⟩ : ByteArray) = B3 at c3 s3 E
 generalize (⟨(be 4 M).toArray⟩ : ByteArray) = B4 at c4 s4 E
 generalize (⟨(be 4 D).toArray⟩ : ByteArray) = B5 at c5 s5 E
 generalize (⟨(be 1 s.size).toArray⟩ : ByteArray) = B6 at c6 s6 E
 clear sz hb he
 have t1 : B1.size ≤ 4 := by omega
 have t2 : B2.size ≤ 4 := by omega
 have t3 : B3.size ≤ 4 := by omega
 have t4 : B4.size ≤ 4 := by omega
 have t5 : B5.size ≤ 4 := by omega
 have t6 : B6.size ≤ 4 := by omega
 clear s1 s2 s3 s4 s5 s6
 have hx := heap_new w (.cells #[.int .i64 (P : Int), .int .i64 (O : Int), .int .i64 (F : Int), .int .i64 (M : Int), .int .i64 (D : Int), .string s] 34)
 have hu := (Calm.refl w).alloc (.cells #[.int .i64 (P : Int), .int .i64 (O : Int), .int .i64 (F : Int), .int .i64 (M : Int), .int .i64 (D : Int), .string s] 34)
 go_enter Try.func38, Try.ntmps38
 go_wp2_with fail
 generalize w.alloc (.cells #[.int .i64 (P : Int), .int .i64 (O : Int), .int .i64 (F : Int), .int .i64 (M : Int), .int .i64 (D : Int), .string s] 34) = wz at hx hu ⊢
 obtain ⟨x0, x1, x2, x3, x4, x5, hxs⟩ := row6 hx
 refine wp_region_plan [.val (.pointer (some ⟨w.heap.size, 0, none⟩)), .val (.pointer (some ⟨w.heap.size, 0, none⟩)), .val (.int .i64 (P)), .val (.string B1), .val (.pointer (some ⟨w.heap.size, 0, none⟩)), .val (.pointer (some ⟨w.heap.size, 1, none⟩)), .val (.int .i64 (O)), .val (.string B2), .val (.string (B1 ++ B2)), .val (.pointer (some ⟨w.heap.size, 0, none⟩)), .val (.pointer (some ⟨w.heap.size, 2, none⟩)), .val (.int .i64 (F)), .val (.string B3), .val (.string (B1 ++ B2 ++ B3)), .val (.pointer (some ⟨w.heap.size, 3, none⟩)), .val (.int .i64 (M)), .val (.string B4), .val (.string (B1 ++ B2 ++ B3 ++ B4)), .val (.pointer (some ⟨w.heap.size, 4, none⟩)), .val (.int .i64 (D)), .val (.string B5), .val (.string (B1 ++ B2 ++ B3 ++ B4 ++ B5)), .val (.pointer (some ⟨w.heap.size, 5, none⟩)), .val (.string s), .val (.int .i64 (s.size)), .val (.string B6), .val (.string (B1 ++ B2 ++ B3 ++ B4 ++ B5 ++ B6)), .val (.pointer (some ⟨w.heap.size, 5, none⟩)), .val (.string s), .val (.string (B1 ++ B2 ++ B3 ++ B4 ++ B5 ++ B6 ++ s)), .val (.string (B1 ++ B2 ++ B3 ++ B4 ++ B5 ++ B6 ++ s))] (by kernel_rfl) (by kernel_rfl) (by kernel_rfl) ?_
 intro X
 iterate 31
  refine plan_val (by kernel_rfl) (fun u hu => ?_) ?_
  ·obtain ⟨hc, hf, hz⟩ := hu.of_drew.facts
   go_simp
   all_goals first
    |((go_at_call 37; first | (with_reducible exact c1 _) | (with_reducible exact c2 _) | (with_reducible exact c3 _) | (with_reducible exact c4 _) | (with_reducible exact c5 _) | (with_reducible exact c6 _)))
    |((rw [if_neg (by omega)]; go_simp))
    |((rw [if_neg (by simp only [ByteArray.size_append]; omega)]; go_simp))
  simp only [Act.put, List.setIfInBounds_toArray, List.set_cons_zero, List.set_cons_succ, Nat.reduceAdd]
 refine plan_end ?_
 intro w' hB
 have hk := hB.calm.of_drew
 clear hB
 go_wp2
 go_ret
 exact ⟨congrArg (fun x => Ending.returned (.string x)) E.out, hu.call hk⟩
open Go.RowKit
theorem good_wf {e : El} (h : e.err = 0) : e.wf := by
 have := err_zero h
 unfold El.wf; omega
open Go.RowKit
def IBox (B : Nat) (f : Int) (w : World) : Prop := w.heap[B]? = some (.cells #[.int .i64 f] 3 (0, 0))
theorem IBox.calm {B : Nat} {f : Int} {w w' : World} (h : IBox B f w) (hb : Calm w w') : IBox B f w' := (hb.block (Array.getElem?_eq_some_iff.1 h).1).trans h
theorem row1 {w : World} {g t : Nat} {a : Value} {fr : Nat × Nat} (h : w.heap[g]? = some (.cells #[a] t fr)) : w.cell? ⟨g, 0, none⟩ = some a ∧ g < w.heap.size :=
 ⟨cell_of_row _ _ 0 _ _ _ h, (Array.getElem?_eq_some_iff.1 h).1⟩
set_option maxHeartbeats 4000000 in
theorem readOld_any (B1 : Nat) (p o f m g : Int) (s : ByteArray) (f' : Int) (w : World) (hB : IBox B1 f' w) :
    Calls Try.prog 27 #[.agg #[.int .i64 p, .int .i64 o, .int .i64 f, .int .i64 m, .int .i64 g, .string s], .pointer (some ⟨B1, 0, none⟩)] w fun e w' => e = .returned (.bool (isOld f' ⟨p, o, f, m, g, s⟩)) ∧ Calm w w' := by
  have hH : Hid (isOld f' ⟨p, o, f, m, g, s⟩ = decide (lastOf m g ≤ f')) := show _ = _ from rfl
  generalize isOld f' ⟨p, o, f, m, g, s⟩ = r at hH ⊢
  have cL := last_any p o f m g s
  generalize lastOf m g = L at hH cL
  have hy := heap_new w (.cells #[.int .i64 p, .int .i64 o, .int .i64 f, .int .i64 m, .int .i64 g, .string s] 34)
  have hx := heap_past (.cells #[.int .i64 p, .int .i64 o, .int .i64 f, .int .i64 m, .int .i64 g, .string s] 34) hB
  have hu := (Calm.refl w).alloc (.cells #[.int .i64 p, .int .i64 o, .int .i64 f, .int .i64 m, .int .i64 g, .string s] 34)
  clear hB
  obtain ⟨x0, hxs⟩ := row1 hx
  obtain ⟨y0, y1, y2, y3, y4, y5, hys⟩ := row6 hy
  go_enter Try.func27, Try.ntmps27
  go_upto_region 1 with fail
  generalize w.alloc (.cells #[.int .i64 p, .int .i64 o, .int .i64 f, .int .i64 m, .int .i64 g, .string s] 34) = w1 at hu hx hy x0 hxs y0 y1 y2 y3 y4 y5 hys ⊢
  refine wp_region_plan [.val (.agg #[.int .i64 p, .int .i64 o, .int .i64 f, .int .i64 m, .int .i64 g, .string s]), .val (.int .i64 (L)), .val (.int .i64 (f')), .val (.bool r), .val (.bool r)] (by kernel_rfl) (by kernel_rfl) (by kernel_rfl) ?_
  intro X
  iterate 5
    refine plan_val (by kernel_rfl) (fun u hu => ?_) ?_
    · obtain ⟨hc, hf, hz⟩ := hu.of_drew.facts
      go_simp
      all_goals first
        | ((go_at_call 28; exact cL _))
        | ((rw [hH.out]))
    simp only [Act.put, List.setIfInBounds_toArray, List.set_cons_zero, List.set_cons_succ, Nat.reduceAdd]
  refine plan_end ?_
  intro w' hB
  have hk := hB.calm.of_drew
  clear hB
  go_wp2_with fail
  go_ret
  exact ⟨rfl, hu.call hk⟩
theorem readErr_upto {l : List El} {p f t : Int} (h : uptoErr l p t ≠ 0) : readErr l p f t = uptoErr l p t := by
 unfold uptoErr readErr at *
 by_cases h1 : runErr l = 0
 ·rw [if_pos h1] at h ⊢
  rw [if_pos h1]
  unfold spanErr at *
  by_cases h2 : 0 ≤ p ∧ p ≤ 15
  ·rw [if_pos h2] at h ⊢
   rw [if_pos h2]
   by_cases h3 : 0 ≤ (0 : Int) ∧ 0 ≤ t ∧ t ≤ 2147483647
   ·rw [if_pos h3] at h; exact absurd rfl h
   ·rw [if_neg h3, if_neg (by omega)]
  ·rw [if_neg h2, if_neg h2]
 ·rw [if_neg h1, if_neg h1]
theorem readErr_span {l : List El} {p f t : Int} (h : uptoErr l p t = 0) : readErr l p f t = spanErr p f t := by
 unfold readErr; rw [if_pos (runErr_zero.2 (uptoErr_zero.1 h).1)]
def readS (l : List El) (p f t : Int) : ByteArray := if readErr l p f t = 0 then ⟨(strB p f t (freshL l p f t)).toArray⟩ else { data := #[] }
set_option maxHeartbeats 8000000 in
theorem strRead_any (A : Option Addr) (d : Nat) (l : List El) (p f t : Int) (w : World) (hn : l.length ≤ 9223372036854775807) (hL : Lies w A l) :
    Calls Try.prog 11 #[.slice A l.length d, .int .i64 p, .int .i64 f, .int .i64 t] w fun e w' => e = .returned (.tuple #[.string (readS l p f t), .int .i64 (readErr l p f t)]) ∧ Calm w w' := by
  have hx : IBox w.heap.size f (w.alloc (.cells #[.int .i64 f] 3)) := heap_new _ _
  have hu := (Calm.refl w).alloc (.cells #[.int .i64 f] 3)
  have cU := strUpto_any A d l p t _ hn (hL.calm hu)
  have cS := fun u => batCheck_any p f t u
  by_cases he : uptoErr l p t = 0
  rotate_left
  · have e1 := readErr_upto (f := f) he
    have e2 : readS l p f t = { data := #[] } := by unfold readS; rw [e1]; exact if_neg he
    rw [e1, e2]
    have b1 : (uptoErr l p t != 0) = true := by simpa using he
    generalize uptoErr l p t = E at cU b1
    clear he e1 e2 hL cS
    go_enter Try.func11, Try.ntmps11
    go_wp2_with (go_at_call 10; refine cU.mono ?_; rintro e w1 ⟨v, rfl, ho, hb1⟩; replace hu := hu.call hb1; clear hb1 cU ho)
    go_ret2
    exact ⟨rfl, hu⟩
  have e0 := readErr_span (f := f) he
  obtain ⟨hG, hS0⟩ := uptoErr_zero.1 he
  have hG2 := upto_good hG p t
  rw [uptoV, if_pos he, he] at cU
  by_cases hs : spanErr p f t = 0
  rotate_left
  · have e2 : readS l p f t = { data := #[] } := by unfold readS; rw [e0]; exact if_neg hs
    rw [e0, e2]
    have b1 : (spanErr p f t != 0) = true := by simpa using hs
    generalize spanErr p f t = E at cS b1
    clear he e0 e2 hL hs hG hS0 hG2
    go_enter Try.func11, Try.ntmps11
    go_wp2_with (first
      | (go_at_call 10; refine cU.mono ?_; rintro e w1 ⟨v, rfl, ho, hb1⟩; replace hu := hu.call hb1; replace hx := hx.calm hb1; obtain ⟨x0, hxs⟩ := row1 hx; clear hb1 cU ho)
      | (go_at_call 25; refine (cS _).mono ?_; rintro e w2 ⟨rfl, hb1⟩; replace hu := hu.call hb1; clear hb1 cS))
    go_ret2
    exact ⟨rfl, hu⟩
  have e2 : readS l p f t = ⟨(strB p f t (freshL l p f t)).toArray⟩ := by unfold readS; rw [e0]; exact if_pos hs
  rw [e0, hs, e2]
  have hFs := fresh_strm hG p f t
  have hfl : (freshL l p f t).length ≤ 1000 := Nat.le_trans (fresh_len l p f t) (Nat.le_trans hG.1 (by omega))
  have hfw : ∀ e ∈ freshL l p f t, e.wf := fun e h => good_wf (hFs.2 e h).1
  have cW : ∀ u v, Hid (OwnR (w.heap.size + 1) u v (freshL l p f t)) → Calls Try.prog 29 #[.agg #[.int .i64 p, .int .i64 f, .int .i64 t, v]] u fun e w' => e = .returned (.string ⟨(strB p f t (freshL l p f t)).toArray⟩) ∧ Calm u w' := fun u v ho => by
    obtain ⟨A', c', rfl, -, -, hL'⟩ := ho.out.lies hfw
    exact batWrite_any A' c' _ p f t u hs hfl (fun e h => (hFs.2 e h).1) hL'
  have cD : ∀ u v, Calm (w.alloc (.cells #[.int .i64 f] 3)) u → OwnR (w.heap.size + 1) u v (uptoL l p t) → Calls Try.prog 26 #[v, .func (.func 27) #[] #[.pointer (some ⟨w.heap.size, 0, none⟩)]] u fun e w' => ∃ v', e = .returned v' ∧ OwnR (w.heap.size + 1) w' v' (freshL l p f t) ∧ Calm (w.alloc (.cells #[.int .i64 f] 3)) w' := fun u v hc ho =>
    deleteA_any (w.heap.size + 1) w.heap.size v (uptoL l p t) (isOld f) (w.alloc (.cells #[.int .i64 f] 3)) u (by have := hG2.1; omega) (Good.wf hG2) ho (by simp) hc (fun u p o f' m g s h => readOld_any _ p o f' m g s f u (hx.calm h))
  have hz1 : (w.alloc (.cells #[.int .i64 f] 3)).heap.size = w.heap.size + 1 := by simp
  unfold OwEnd at cU
  rw [hz1] at cU
  have hu0 := hu
  rw [hs] at cS
  generalize strB p f t (freshL l p f t) = OUT at cW ⊢
  generalize freshL l p f t = FR at cW cD
  generalize uptoL l p t = UP at cU cD
  clear he e0 e2 hL hs hG hS0 hG2 hFs hfl hfw hz1
  go_enter Try.func11, Try.ntmps11
  go_wp2_with (first
    | (go_at_call 10; refine cU.mono ?_; rintro e w1 ⟨v, rfl, ho, hb1⟩; replace hu := hu.call hb1; have hk1 := (Calm.refl (w.alloc (.cells #[.int .i64 f] 3))).call hb1; replace hx := hx.calm hb1; obtain ⟨x0, hxs⟩ := row1 hx; replace ho := Lib.hid ho; clear hb1 cU)
    | (go_at_call 25; refine (cS _).mono ?_; rintro e w2 ⟨rfl, hb1⟩; replace hu := hu.call hb1; replace hk1 := hk1.call hb1; replace ho := Lib.hid (ho.out.calm hb1); replace hx := hx.calm hb1; obtain ⟨x0, hxs⟩ := row1 hx; clear hb1 cS)
    | (go_at_call 26; refine (cD _ _ hk1 ho.out).mono ?_; rintro e w3 ⟨v3, rfl, ho3, hk3⟩; obtain ⟨ao3, n3, c3, rfl⟩ := slice_of ho3; replace hk1 := hk3; replace hu := hu0.call hk3; replace ho := Lib.hid ho3; replace hx := (hk3.block (by simp)).trans (heap_new w _); obtain ⟨x0, hxs⟩ := row1 hx; clear cD ho3 hk3)
    | (go_at_call 29; refine (cW _ _ ho).mono ?_; rintro e w4 ⟨rfl, hb1⟩; replace hu := hu.call hb1; clear hb1 cW))
  go_ret2
  exact ⟨rfl, hu⟩
open Go.RowKit
set_option maxHeartbeats 4000000 in
theorem refOld_any (B1 : Nat) (p o f m g : Int) (s : ByteArray) (f' : Int) (w : World) (hB : IBox B1 f' w) :
    Calls Try.prog 34 #[.agg #[.int .i64 p, .int .i64 o, .int .i64 f, .int .i64 m, .int .i64 g, .string s], .pointer (some ⟨B1, 0, none⟩)] w fun e w' => e = .returned (.bool (isOld f' ⟨p, o, f, m, g, s⟩)) ∧ Calm w w' := by
  have hH : Hid (isOld f' ⟨p, o, f, m, g, s⟩ = decide (lastOf m g ≤ f')) := show _ = _ from rfl
  generalize isOld f' ⟨p, o, f, m, g, s⟩ = r at hH ⊢
  have cL := refLast_any p o f m g s
  generalize lastOf m g = L at hH cL
  have hy := heap_new w (.cells #[.int .i64 p, .int .i64 o, .int .i64 f, .int .i64 m, .int .i64 g, .string s] 34)
  have hx := heap_past (.cells #[.int .i64 p, .int .i64 o, .int .i64 f, .int .i64 m, .int .i64 g, .string s] 34) hB
  have hu := (Calm.refl w).alloc (.cells #[.int .i64 p, .int .i64 o, .int .i64 f, .int .i64 m, .int .i64 g, .string s] 34)
  clear hB
  obtain ⟨x0, hxs⟩ := row1 hx
  obtain ⟨y0, y1, y2, y3, y4, y5, hys⟩ := row6 hy
  go_enter Try.func34, Try.ntmps34
  go_upto_region 1 with fail
  generalize w.alloc (.cells #[.int .i64 p, .int .i64 o, .int .i64 f, .int .i64 m, .int .i64 g, .string s] 34) = w1 at hu hx hy x0 hxs y0 y1 y2 y3 y4 y5 hys ⊢
  refine wp_region_plan [.val (.agg #[.int .i64 p, .int .i64 o, .int .i64 f, .int .i64 m, .int .i64 g, .string s]), .val (.int .i64 (L)), .val (.int .i64 (f')), .val (.bool r), .val (.bool r)] (by kernel_rfl) (by kernel_rfl) (by kernel_rfl) ?_
  intro X
  iterate 5
    refine plan_val (by kernel_rfl) (fun u hu => ?_) ?_
    · obtain ⟨hc, hf, hz⟩ := hu.of_drew.facts
      go_simp
      all_goals first
        | ((go_at_call 35; exact cL _))
        | ((rw [hH.out]))
    simp only [Act.put, List.setIfInBounds_toArray, List.set_cons_zero, List.set_cons_succ, Nat.reduceAdd]
  refine plan_end ?_
  intro w' hB
  have hk := hB.calm.of_drew
  clear hB
  go_wp2_with fail
  go_ret
  exact ⟨rfl, hu.call hk⟩
set_option maxHeartbeats 8000000 in
theorem refStream_any (A : Option Addr) (d : Nat) (l : List El) (p f t : Int) (w : World) (hG : Good l) (hS : spanErr p f t = 0) (hL : Lies w A l) :
    Calls Try.prog 16 #[.slice A l.length d, .int .i64 p, .int .i64 f, .int .i64 t] w fun e w' => e = .returned (.string ⟨(strB p f t (freshL l p f t)).toArray⟩) ∧ Calm w w' := by
  have hx : IBox w.heap.size f (w.alloc (.cells #[.int .i64 f] 3)) := heap_new _ _
  have hu := (Calm.refl w).alloc (.cells #[.int .i64 f] 3)
  have cU := refUpto_good A d l p t _ hG (hL.calm hu)
  have hG2 := upto_good hG p t
  have hFs := fresh_strm hG p f t
  have hfl : (freshL l p f t).length ≤ 400 := Nat.le_trans (fresh_len l p f t) hG.1
  have hfw : ∀ e ∈ freshL l p f t, e.wf := fun e h => good_wf (hFs.2 e h).1
  have he : ∀ e ∈ freshL l p f t, e.err = 0 := fun e h => (hFs.2 e h).1
  have cD : ∀ u v, Calm (w.alloc (.cells #[.int .i64 f] 3)) u → OwnR (w.heap.size + 1) u v (uptoL l p t) → Calls Try.prog 26 #[v, .func (.func 34) #[] #[.pointer (some ⟨w.heap.size, 0, none⟩)]] u fun e w' => ∃ v', e = .returned v' ∧ OwnR (w.heap.size + 1) w' v' (freshL l p f t) ∧ Calm (w.alloc (.cells #[.int .i64 f] 3)) w' := fun u v hc ho =>
    deleteB_any (w.heap.size + 1) w.heap.size v (uptoL l p t) (isOld f) (w.alloc (.cells #[.int .i64 f] 3)) u (by have := hG2.1; omega) (Good.wf hG2) ho (by simp) hc (fun u p o f' m g s h => refOld_any _ p o f' m g s f u (hx.calm h))
  have hz1 : (w.alloc (.cells #[.int .i64 f] 3)).heap.size = w.heap.size + 1 := by simp
  unfold Ow1End at cU
  rw [hz1] at cU
  have hu0 := hu
  have hp := spanErr_zero.1 hS
  have hOut : Hid (strB p f t (freshL l p f t) = encF 1 (encN3 p f t) ++ ((freshL l p f t).flatMap frE ++ encF 3 (be 4 (freshL l p f t).length))) := show _ = _ from rfl
  generalize strB p f t (freshL l p f t) = OUT at hOut ⊢
  generalize freshL l p f t = FR at cD hOut hfl hfw he
  generalize uptoL l p t = UP at cU cD
  clear hL hG hS hG2 hFs hz1
  obtain ⟨P, rfl⟩ : ∃ n : Nat, p = (n : Int) := ⟨p.toNat, by omega⟩
  obtain ⟨F, rfl⟩ : ∃ n : Nat, f = (n : Int) := ⟨f.toNat, by omega⟩
  obtain ⟨T, rfl⟩ : ∃ n : Nat, t = (n : Int) := ⟨t.toNat, by omega⟩
  have k1 := fun u => big_4 P u (by omega)
  have k2 := fun u => big_4 F u (by omega)
  have k3 := fun u => big_4 T u (by omega)
  have k4 := fun u => big_4 FR.length u (by omega)
  have q1 := refFr_any 1 (encN3 P F T) (by omega) (by omega) (by rw [encN3_length]; omega) 1 rfl
  have q3 := refFr_any 3 (be 4 FR.length) (by omega) (by omega) (by rw [be_length]; omega) 3 rfl
  have j1 : (⟨(encN3 (P : Int) F T).toArray⟩ : ByteArray) = ⟨(be 4 P).toArray⟩ ++ ⟨(be 4 F).toArray⟩ ++ ⟨(be 4 T).toArray⟩ := by
    rw [bytes_app, bytes_app]; simp [encN3]
  have hfk : ∀ k, ((FR.take k).flatMap frE).length ≤ 63000 := fun k => by
    have h1 := flat_length (l := FR.take k) fun e h => he e (List.mem_of_mem_take h)
    have h2 : (FR.take k).length ≤ FR.length := List.length_take_le' _ _
    omega
  have hE1 : (encF 1 (encN3 (P : Int) F T)).length = 17 := by rw [encF_length, encN3_length]
  have hE3 : (encF 3 (be 4 FR.length)).length = 9 := by rw [encF_length, be_length]
  have z1 : (⟨(be 4 P).toArray⟩ : ByteArray).size = 4 := by rw [bytes_size, be_length]
  have z2 : (⟨(be 4 F).toArray⟩ : ByteArray).size = 4 := by rw [bytes_size, be_length]
  have z3 : (⟨(be 4 T).toArray⟩ : ByteArray).size = 4 := by rw [bytes_size, be_length]
  rw [j1] at q1
  generalize (⟨(be 4 P).toArray⟩ : ByteArray) = E1 at k1 q1 z1
  generalize (⟨(be 4 F).toArray⟩ : ByteArray) = E2 at k2 q1 z2
  generalize (⟨(be 4 T).toArray⟩ : ByteArray) = E3 at k3 q1 z3
  generalize encF 1 (encN3 (P : Int) F T) = S1 at q1 hE1 hOut
  generalize hS1 : (⟨S1.toArray⟩ : ByteArray) = V1 at q1
  generalize encF 3 (be 4 FR.length) = S3 at q3 hE3 hOut
  generalize (⟨(be 4 FR.length).toArray⟩ : ByteArray) = E4 at k4 q3
  generalize hS3 : (⟨S3.toArray⟩ : ByteArray) = V3 at q3
  have HS1 := Lib.hid hS1
  have HS3 := Lib.hid hS3
  have hz3 : V3.size = 9 := by rw [← hS3, bytes_size]; exact hE3
  clear hS1 hS3 j1 hp
  have z12 : (E1 ++ E2).size = 8 := by rw [ByteArray.size_append]; omega
  go_enter Try.func16, Try.ntmps16
  go_upto_region 2 with (first
    | (go_at_call 15; refine cU.mono ?_; rintro e w1 ⟨v, rfl, ho, hb1⟩; replace hu := hu.call hb1; have hk1 := (Calm.refl (w.alloc (.cells #[.int .i64 (F : Int)] 3))).call hb1; replace hx := hx.calm hb1; obtain ⟨x0, hxs⟩ := row1 hx; replace ho := Lib.hid ho; clear hb1 cU)
    | (go_at_call 26; refine (cD _ _ hk1 ho.out).mono ?_; rintro e w3 ⟨v3, rfl, ho3, hk3⟩; obtain ⟨ao3, n3, c3, rfl⟩ := slice_of ho3; replace hk1 := hk3; replace hu := hu0.call hk3; replace ho := Lib.hid ho3; replace hx := (hk3.block (by simp)).trans (heap_new w _); obtain ⟨x0, hxs⟩ := row1 hx; clear cD ho3 hk3))
  obtain ⟨rfl, hLF⟩ := ho.out.reads hfw
  refine wp_region_plan [.val (.int .i64 (P)), .val (.string E1), .val (.int .i64 (F)), .val (.string E2), .val (.string (E1 ++ E2)), .val (.int .i64 (T)), .val (.string E3), .val (.string (E1 ++ E2 ++ E3)), .val (.string V1), .val (.string V1)] (by kernel_rfl) (by kernel_rfl) (by kernel_rfl) ?_
  intro X
  iterate 10
    refine plan_val (by kernel_rfl) (fun u hu => ?_) ?_
    · obtain ⟨hc, hf, hz⟩ := hu.of_drew.facts
      go_simp
      all_goals first
        | ((go_at_call 37; first | (with_reducible exact k1 _) | (with_reducible exact k2 _) | (with_reducible exact k3 _)))
        | ((go_at_call 36; exact q1 _))
        | ((rw [if_neg (by omega)]; go_simp))
    simp only [Act.put, List.setIfInBounds_toArray, List.set_cons_zero, List.set_cons_succ, Nat.reduceAdd]
  refine plan_end ?_
  intro w' hB
  have hk := hB.calm.of_drew
  clear hB
  replace hLF := hLF.calm hk
  replace hu := hu.call hk
  clear hk k1 k2 k3 q1 z1 z2 z3 z12 x0 hxs hx hk1 hu0 ho hfw
  rw [← HS1.out]
  go_wp2_with fail
  obtain ⟨w4, hw4⟩ : ∃ w4 : World, w4 = w' := ⟨_, rfl⟩
  subst hw4
  go_loopw [10, 30] (fun v i wr => ∃ (k : Nat) (V : ByteArray), k ≤ FR.length ∧ i = .int .i64 k ∧ v = .string V ∧ Hid (V = ⟨(S1 ++ (FR.take k).flatMap frE).toArray⟩) ∧ Calm w4 wr) (fun _ i _ => FR.length - (intOf i).toNat)
  case atStart => exact ⟨0, _, Nat.zero_le _, rfl, rfl, by show _ = _; simp, Calm.refl _⟩
  case round =>
    obtain ⟨k, V, hk, rfl, rfl, hV, hur⟩ := hrel
    have hfk' := hfk k
    have hVz : V.size ≤ 70000 := by rw [hV.out, bytes_size, List.length_append]; omega
    by_cases hlt : k < FR.length
    rotate_left
    · have hkl : FR.take k = FR := List.take_of_length_le (by omega)
      rw [hkl] at hV
      have hsm : ¬ 140737488355328 ≤ V.size + V3.size := by omega
      replace hur := hu.call hur
      clear hkl
      go_wp2_with (first
        | (go_at_call 37; refine (k4 _).mono ?_; rintro e w5 ⟨rfl, hb1⟩; replace hur := hur.call hb1; clear hb1)
        | (go_at_call 36; refine (q3 _).mono ?_; rintro e w5 ⟨rfl, hb1⟩; replace hur := hur.call hb1; clear hb1))
      go_ret
      refine ⟨?_, hur⟩
      rw [hOut.out, hV.out, ← HS3.out, bytes_app, List.append_assoc]
      rfl
    obtain ⟨b, q, p, o, f, m, g, s, rfl, hb, HE, hm, c0, c1, c2, c3, c4, c5⟩ := (hLF.calm hur).get hlt
    have hee : (⟨p, o, f, m, g, s⟩ : El).err = 0 := he _ (List.mem_of_getElem? HE.out)
    have cW := fun u => refBytes_any p o f m g s u hee
    have hez : (enc ⟨p, o, f, m, g, s⟩).length ≤ 3000 := by have := (err_zero hee).2.2.2.2.2.2.2.2.2.2; rw [enc_length]; omega
    have q2 := refFr_any 2 (enc ⟨p, o, f, m, g, s⟩) (by omega) (by omega) hez 2 rfl
    have hfz := (frE_length hee).2
    have hT : Hid ((⟨(S1 ++ (FR.take (k + 1)).flatMap frE).toArray⟩ : ByteArray) = V ++ ⟨(frE ⟨p, o, f, m, g, s⟩).toArray⟩) := by
      show _ = _
      rw [take_snoc3 HE.out, flat_snoc, hV.out, bytes_app, List.append_assoc]
    have hTe : encF 2 (enc ⟨p, o, f, m, g, s⟩) = frE ⟨p, o, f, m, g, s⟩ := rfl
    rw [hTe] at q2
    have hB2 : (⟨(frE ⟨p, o, f, m, g, s⟩).toArray⟩ : ByteArray).size ≤ 63 := by rw [bytes_size]; exact hfz
    generalize (⟨(enc ⟨p, o, f, m, g, s⟩).toArray⟩ : ByteArray) = W at cW q2
    generalize (⟨(frE ⟨p, o, f, m, g, s⟩).toArray⟩ : ByteArray) = B2 at q2 hB2 hT
    have hsm : ¬ 140737488355328 ≤ V.size + B2.size := by omega
    clear HE hee hez hTe hfz hfk he hLF hOut q3 k4 hV
    go_wp2_with (first
      | (go_at_call 38; refine (cW _).mono ?_; rintro e w5 ⟨rfl, hb1⟩; replace hur := (hur.alloc _).call hb1; clear hb1)
      | (go_at_call 36; refine (q2 _).mono ?_; rintro e w6 ⟨rfl, hb1⟩; replace hur := hur.call hb1; clear hb1))
    go_roundw
    case rel => exact ⟨k + 1, _, by omega, by go_num, rfl, hT.out.symm, hur⟩
    case measure => simp [intOf]; omega
open Go.ChangeShapes Go.WideShapes Go.ChangeAt Go.RowKit
def SpEnd (l : List El) (n : Int) (w : World) (e : Ending) (w' : World) : Prop := ∃ A c, e = .returned (.tuple #[.slice A l.length c, .int .i64 n]) ∧ Lies w' A l ∧ Calm w w'
def Sp1End (l : List El) (w : World) (e : Ending) (w' : World) : Prop := ∃ A c, e = .returned (.slice A l.length c) ∧ Lies w' A l ∧ Calm w w'
theorem OwEnd.sp {l : List El} {n : Int} {w : World} {e : Ending} {w' : World} (h : OwEnd l n w e w') (hw : ∀ e ∈ l, e.wf) : SpEnd l n w e w' := by
 obtain ⟨v, rfl, ho, hc⟩ := h
 obtain ⟨A, c, rfl, -, -, hL⟩ := ho.lies hw
 exact ⟨A, c, rfl, hL, hc⟩
theorem Ow1End.sp {l : List El} {w : World} {e : Ending} {w' : World} (h : Ow1End l w e w') (hw : ∀ e ∈ l, e.wf) : Sp1End l w e w' := by
 obtain ⟨v, rfl, ho, hc⟩ := h
 obtain ⟨A, c, rfl, -, -, hL⟩ := ho.lies hw
 exact ⟨A, c, rfl, hL, hc⟩
theorem uptoV_wf (l : List El) (p t : Int) : ∀ e ∈ uptoV l p t, e.wf := fun e he => by
 unfold uptoV at he
 split at he
 ·rename_i h
  exact Good.wf (upto_good (uptoErr_zero.1 h).1 p t) e he
 ·simp at he
theorem strUpto_sp (A : Option Addr) (d : Nat) (l : List El) (p' t : Int) (w : World) (hn : l.length ≤ 9223372036854775807) (hL : Lies w A l) :
    Calls Try.prog 10 #[.slice A l.length d, .int .i64 p', .int .i64 t] w (SpEnd (uptoV l p' t) (uptoErr l p' t) w) :=
  (strUpto_any A d l p' t w hn hL).mono fun _ _ h => h.sp (uptoV_wf l p' t)
theorem ne_true {E : Int} (h : E ≠ 0) : (E != 0) = true := by simpa using h
theorem eq_false' {E : Int} (h : E ≠ 0) : (E == 0) = false := by simpa using h
set_option maxHeartbeats 8000000 in
theorem streamReads_walk (A : Option Addr) (d : Nat) (l : List El) (p f t : Int) (w : World) (hn : l.length ≤ 9223372036854775807) (hL : Lies w A l) :
    Calls Try.prog 3 #[.slice A l.length d, .int .i64 p, .int .i64 f, .int .i64 t] w fun e w' => e = .returned (.bool true) ∧ Calm w w' := by
  have cU := fun u (hu : Calm w u) => strUpto_sp A d l p t u hn (hL.calm hu)
  have cR := fun u (hu : Calm w u) => strRead_any A d l p f t u hn (hL.calm hu)
  have cQ := fun u (hu : Calm w u) => refRun_any A d l u hn (hL.calm hu)
  have cS := fun u => refSpan_any p 0 t u
  have cT := fun u => refSpan_any p f t u
  have hu := Calm.refl w
  by_cases hr : runErr l = 0
  rotate_left
  · have e1 : uptoErr l p t = runErr l := by unfold uptoErr; exact if_neg hr
    have e2 : readErr l p f t = runErr l := by unfold readErr; exact if_neg hr
    have e3 : uptoV l p t = [] := by unfold uptoV; rw [e1]; exact if_neg hr
    have e4 : readS l p f t = { data := #[] } := by unfold readS; rw [e2]; exact if_neg hr
    rw [e1, e3] at cU
    rw [e2, e4] at cR
    have b1 := ne_true hr
    have b2 := eq_false' hr
    generalize runErr l = E at cU cR cQ b1 b2
    clear hr e1 e2 e3 e4 hL cS cT
    go_enter Try.func3, Try.ntmps3
    go_wp2_with (first
      | (go_at_call 10; refine (cU _ hu).mono ?_; rintro e w1 ⟨A1, c1, rfl, hl1, hb1⟩; replace hu := hu.call hb1; clear hb1 cU hl1)
      | (go_at_call 11; refine (cR _ hu).mono ?_; rintro e w1 ⟨rfl, hb1⟩; replace hu := hu.call hb1; clear hb1 cR)
      | (go_at_call 12; refine (cQ _ hu).mono ?_; rintro e w1 ⟨rfl, hb1⟩; replace hu := hu.call hb1; clear hb1))
    go_ret
    exact ⟨rfl, hu⟩
  have hG := runErr_zero.1 hr
  have e1 : uptoErr l p t = spanErr p 0 t := by unfold uptoErr; exact if_pos hr
  have e2 : readErr l p f t = spanErr p f t := by unfold readErr; exact if_pos hr
  by_cases h0 : spanErr p 0 t = 0
  rotate_left
  · have e5 : spanErr p f t = spanErr p 0 t := by rw [← e2, ← e1]; exact readErr_upto (by rw [e1]; exact h0)
    have e3 : uptoV l p t = [] := by unfold uptoV; rw [e1]; exact if_neg h0
    have e4 : readS l p f t = { data := #[] } := by unfold readS; rw [e2, e5]; exact if_neg h0
    rw [e1, e3] at cU
    rw [e2, e4, e5] at cR
    rw [e5] at cT
    rw [hr] at cQ
    have b1 := ne_true h0
    have b2 := eq_false' h0
    generalize spanErr p 0 t = E at cU cR cS cT b1 b2
    clear hr e1 e2 e3 e4 e5 hL hG h0
    go_enter Try.func3, Try.ntmps3
    go_wp2_with (first
      | (go_at_call 10; refine (cU _ hu).mono ?_; rintro e w1 ⟨A1, c1, rfl, hl1, hb1⟩; replace hu := hu.call hb1; clear hb1 cU hl1)
      | (go_at_call 11; refine (cR _ hu).mono ?_; rintro e w1 ⟨rfl, hb1⟩; replace hu := hu.call hb1; clear hb1 cR)
      | (go_at_call 12; refine (cQ _ hu).mono ?_; rintro e w1 ⟨rfl, hb1⟩; replace hu := hu.call hb1; clear hb1)
      | (go_at_call 13; (with_reducible refine (cS _).mono ?_); rintro e w1 ⟨rfl, hb1⟩; replace hu := hu.call hb1; clear hb1)
      | (go_at_call 13; (with_reducible refine (cT _).mono ?_); rintro e w1 ⟨rfl, hb1⟩; replace hu := hu.call hb1; clear hb1))
    go_ret
    exact ⟨rfl, hu⟩
  have e3 : uptoV l p t = uptoL l p t := by unfold uptoV; rw [e1]; exact if_pos h0
  have hG2 := upto_good hG p t
  have cP := fun u (hu : Calm w u) => (refUpto_good A d l p t u hG (hL.calm hu)).mono fun _ _ h => h.sp (Good.wf hG2)
  rw [e1, e3, h0] at cU
  rw [hr] at cQ
  rw [h0] at cS
  have hU4 : (uptoL l p t).length ≤ 9223372036854775807 := by have := hG2.1; omega
  have cE := fun (A1 A2 : Option Addr) (c1 c2 : Nat) (u : World) h1 h2 => equal_self A1 A2 c1 c2 (uptoL l p t) u hU4 h1 h2
  generalize uptoL l p t = U at cU cP cE hU4
  by_cases hf : spanErr p f t = 0
  rotate_left
  · have e4 : readS l p f t = { data := #[] } := by unfold readS; rw [e2]; exact if_neg hf
    rw [e2, e4] at cR
    have b1 := ne_true hf
    have b2 := eq_false' hf
    generalize spanErr p f t = E at cR cT b1 b2
    clear hr e1 e2 e3 e4 hL hG h0 hG2 hf
    go_enter Try.func3, Try.ntmps3
    go_wp2_with (first
      | (go_at_call 10; refine (cU _ hu).mono ?_; rintro e w1 ⟨A1, c1, rfl, hl1, hb1⟩; have HL := Lib.hid hl1; replace hu := hu.call hb1; clear hb1 cU hl1)
      | (go_at_call 11; refine (cR _ hu).mono ?_; rintro e w1 ⟨rfl, hb1⟩; replace hu := hu.call hb1; (try replace HL := Lib.hid (HL.out.calm hb1)); clear hb1 cR)
      | (go_at_call 12; refine (cQ _ hu).mono ?_; rintro e w1 ⟨rfl, hb1⟩; replace hu := hu.call hb1; (try replace HL := Lib.hid (HL.out.calm hb1)); clear hb1)
      | (go_at_call 13; (with_reducible refine (cS _).mono ?_); rintro e w1 ⟨rfl, hb1⟩; replace hu := hu.call hb1; (try replace HL := Lib.hid (HL.out.calm hb1)); clear hb1)
      | (go_at_call 13; (with_reducible refine (cT _).mono ?_); rintro e w1 ⟨rfl, hb1⟩; replace hu := hu.call hb1; clear hb1)
      | (go_at_call 15; refine (cP _ hu).mono ?_; rintro e w1 ⟨A2, c2, rfl, hl2, hb1⟩; have HM := Lib.hid hl2; replace hu := hu.call hb1; (try replace HL := Lib.hid (HL.out.calm hb1)); clear hb1 hl2)
      | (go_at_call 14; refine (cE _ _ _ _ _ HL.out HM.out).mono ?_; rintro e w1 ⟨rfl, hb1⟩; replace hu := hu.call hb1; clear hb1))
    go_ret
    exact ⟨rfl, hu⟩
  have e4 : readS l p f t = ⟨(strB p f t (freshL l p f t)).toArray⟩ := by unfold readS; rw [e2]; exact if_pos hf
  have cG := fun u (hu : Calm w u) => refStream_any A d l p f t u hG hf (hL.calm hu)
  rw [e2, e4, hf] at cR
  rw [hf] at cT
  generalize (⟨(strB p f t (freshL l p f t)).toArray⟩ : ByteArray) = S at cR cG
  clear hr e1 e2 e3 e4 hL hG h0 hG2 hf
  go_enter Try.func3, Try.ntmps3
  go_wp2_with (first
    | (go_at_call 10; refine (cU _ hu).mono ?_; rintro e w1 ⟨A1, c1, rfl, hl1, hb1⟩; have HL := Lib.hid hl1; replace hu := hu.call hb1; clear hb1 cU hl1)
    | (go_at_call 11; refine (cR _ hu).mono ?_; rintro e w1 ⟨rfl, hb1⟩; replace hu := hu.call hb1; (try replace HL := Lib.hid (HL.out.calm hb1)); clear hb1 cR)
    | (go_at_call 12; refine (cQ _ hu).mono ?_; rintro e w1 ⟨rfl, hb1⟩; replace hu := hu.call hb1; (try replace HL := Lib.hid (HL.out.calm hb1)); clear hb1)
    | (go_at_call 13; (with_reducible refine (cS _).mono ?_); rintro e w1 ⟨rfl, hb1⟩; replace hu := hu.call hb1; (try replace HL := Lib.hid (HL.out.calm hb1)); clear hb1)
    | (go_at_call 13; (with_reducible refine (cT _).mono ?_); rintro e w1 ⟨rfl, hb1⟩; replace hu := hu.call hb1; clear hb1)
    | (go_at_call 15; refine (cP _ hu).mono ?_; rintro e w1 ⟨A2, c2, rfl, hl2, hb1⟩; have HM := Lib.hid hl2; replace hu := hu.call hb1; (try replace HL := Lib.hid (HL.out.calm hb1)); clear hb1 hl2)
    | (go_at_call 14; refine (cE _ _ _ _ _ HL.out HM.out).mono ?_; rintro e w1 ⟨rfl, hb1⟩; replace hu := hu.call hb1; clear hb1)
    | (go_at_call 16; refine (cG _ hu).mono ?_; rintro e w1 ⟨rfl, hb1⟩; replace hu := hu.call hb1; clear hb1))
  go_ret
  exact ⟨rfl, hu⟩
end Go.Proofs.Ytadjnnmpgaajnaa
