/- slices.Delete of one record. -/
import Derived.Test.YtjjibnkooloagaaInsert
namespace Go.Proofs.Ytjjibnkooloagaa
open Go.RowKit

theorem delAt_len {l : List El} {i : Nat} (hi : i < l.length) : (delAt l i).length = l.length - 1 := by
  unfold delAt; rw [List.length_append, List.length_take, List.length_drop]; omega
theorem row_del {cur : List Value} {l : List El} {i : Nat} (z : List Value) (hi : i < l.length) (hc : cur.take (l.length * 6) = cellsOf l) (hs : l.length * 6 ≤ cur.length) :
    (spl (spl cur (i * 6) (cellsOf (l.drop (i + 1)))) ((l.length - 1) * 6) z).take ((l.length - 1) * 6) = cellsOf (delAt l i) := by
  have hl1 : (cellsOf (l.take i)).length = i * 6 := by rw [cellsOf_len, List.length_take]; congr 1; omega
  have hl2 : (cellsOf (l.drop (i + 1))).length = (l.length - (i + 1)) * 6 := by rw [cellsOf_len, List.length_drop]
  have h1 : cur.take (i * 6) = cellsOf (l.take i) := by
    rw [← cellsOf_take (by omega), ← hc, List.take_take]; congr 1; omega
  have h2 : (spl cur (i * 6) (cellsOf (l.drop (i + 1)))).take ((l.length - 1) * 6) = cellsOf (l.take i) ++ cellsOf (l.drop (i + 1)) := by
    unfold spl
    rw [h1]
    exact List.take_left' (by rw [List.length_append, hl1, hl2]; omega)
  have h3 : (l.length - 1) * 6 ≤ (spl cur (i * 6) (cellsOf (l.drop (i + 1)))).length := by rw [spl_len (by rw [hl2]; omega)]; omega
  generalize spl cur (i * 6) (cellsOf (l.drop (i + 1))) = c1 at h2 h3 ⊢
  have h4 : (spl c1 ((l.length - 1) * 6) z).take ((l.length - 1) * 6) = c1.take ((l.length - 1) * 6) := by
    unfold spl
    rw [List.append_assoc]
    exact List.take_left' (by rw [List.length_take]; omega)
  rw [h4, h2]
  unfold delAt
  rw [cellsOf_app]

/-- append(s[:i], s[j:]...) in a row with room for it, as a step of a region that draws. -/
theorem step_append_row {ops : Array Oper} {o : Oper} {a : Act} {w : World} {K : Act → World → Prop} {Q : Exit → Act → World → Prop} {E : Prop} (hgd : o.guard = none) (s x : Operand)
    (hop : o.op = Op.call { callee := Callee.builtin Builtin.append, args := #[s, x], argTypes := #[22, 22] })
    (g n cap : Nat) (hs : a.eval s = .slice (some ⟨g, 0, none⟩) n cap) (ad : Addr) (m c : Nat) (hx : a.eval x = .slice (some ad) m c) (cur : List Value) (hg : w.heap[g]? = some (.cells cur.toArray 32 (0, 0)))
    (news : List Value) (hl : news.length = m * 6) (hnews : ∀ j u, news[j]? = some u → w.cell? (ad.add j) = some u) (h1 : ∀ u ∈ news, u.oneCell' = true) (hroom : n + m ≤ cap) (hfit : n * 6 + news.length ≤ cur.length)
    (hK : K (a.put o.dst (.slice (some ⟨g, 0, none⟩) (n + m) cap)) (w.setRow g (spl cur (n * 6) news).toArray)) : if Region.wanted o (yielded ops a.tmps) = true then Oper.wp Try.prog o a w K Q else E := by
  have hw : Region.wanted o (yielded ops a.tmps) = true := by simp [Region.wanted, hgd]
  rw [if_pos hw]
  obtain ⟨i0, hi, hz0, hz1, hz2⟩ := info_parts infoElem
  have hr := run_append_room (P := Try.prog) w 22 o.type 32 i0 Try.underlying22 hi g n cap cur.toArray hg ad m c news (by rw [hz1]; exact hl) hnews h1 hroom (by rw [hz1]; simpa using hfit)
  rw [hz1] at hr
  unfold Oper.wp
  simp only [execOp, hop, resolve, invoke, builtin, Sem.run_bind, Sem.run_pure, Result.andThen_ok, List.map_toArray, List.map_cons, List.map_nil, hs, hx, hr]
  exact hK

def zeroVals : List Value := [.int .i64 0, .int .i64 0, .int .i64 0, .int .i64 0, .int .i64 0, .string ByteArray.empty]
theorem zeroElem : ∀ w, (zeroValue 32).run Try.prog w = .ok (.agg #[.int .i64 0, .int .i64 0, .int .i64 0, .int .i64 0, .int .i64 0, .string ByteArray.empty]) w := fun _ => by kernel_rfl
theorem run_clear_el (w : World) (ty : TypeId) (g o c : Nat) (cur : List Value) (hg : w.heap[g]? = some (.cells cur.toArray 32 (0, 0))) (hfit : o + 6 ≤ cur.length) :
    (Builtin.clear_ #[22] ty #[.slice (some ⟨g, o, none⟩) 1 c]).run Try.prog w = .ok (.tuple #[]) (w.setRow g (spl cur o zeroVals).toArray) := by
  have hzc : (Builtin.zeroCells (Value.agg #[.int .i64 0, .int .i64 0, .int .i64 0, .int .i64 0, .int .i64 0, .string ByteArray.empty]).cells 1).toList = zeroVals := by kernel_rfl
  have hzd : (Builtin.zeroCells (Value.agg #[.int .i64 0, .int .i64 0, .int .i64 0, .int .i64 0, .int .i64 0, .string { data := #[] }]).cells 1).toList = zeroVals := hzc
  have hst := run_storeCells_at Try.prog g o 32 zeroVals 0 cur.toArray w hg (by simp [zeroVals]; omega) (by intro u hu; simp only [zeroVals, List.mem_cons, List.not_mem_nil, or_false] at hu; rcases hu with rfl | rfl | rfl | rfl | rfl | rfl <;> rfl)
  simp [Builtin.clear_, run_underlying Try.underlying22, zeroElem, hzd, hst, spl]

set_option maxRecDepth 100000 in
set_option maxHeartbeats 8000000 in
theorem delete_any (base g i n cap : Nat) (l : List El) (w : World) (hn : n = l.length) (hi : i < n) (hn4 : n ≤ 400) (ho : OwnR base w (.slice (some ⟨g, 0, none⟩) n cap) l) :
    Calls Try.prog 58 #[.slice (some ⟨g, 0, none⟩) n cap, .int .i64 i, .int .i64 ((i : Int) + 1)] w (OwnEnd base (delAt l i) w) := by
  rcases id ho.2 with ⟨h, _⟩ | ⟨g', cap', cur0, hv, hbg, hg0, hnc, hcm, hcs, ht⟩
  · cases h
  injection hv with h1 h2 h3
  injection h1 with h1
  injection h1 with h1
  subst h1; subst h3
  clear ho h2
  obtain ⟨cur, rfl⟩ : ∃ cur : List Value, cur.toArray = cur0 := ⟨cur0.toList, by simp⟩
  simp only [List.size_toArray] at hcs ht
  rw [← hn] at hnc ht
  have hc63 : cap ≤ 9223372036854775807 := by unfold maxLen at hcm; exact hcm
  have hdl : (cellsOf (l.drop (i + 1))).length = (n - (i + 1)) * 6 := by rw [cellsOf_len, List.length_drop, hn]
  have hfit1 : i * 6 + (cellsOf (l.drop (i + 1))).length ≤ cur.length := by omega
  obtain ⟨A, hA, hsrc⟩ : ∃ A : Addr, (if cap = i + 1 then some (⟨g, 0, none⟩ : Addr) else some ⟨g, (i + 1) * 6, none⟩) = some A ∧ Hid (∀ j u, (cellsOf (l.drop (i + 1)))[j]? = some u → w.drew.cell? (A.add j) = some u) := by
    by_cases h : cap = i + 1
    · refine ⟨⟨g, 0, none⟩, by simp [h], show ∀ _, _ from fun j u hu => ?_⟩
      have h0 : (cellsOf (l.drop (i + 1))).length = 0 := by rw [hdl]; omega
      rw [List.eq_nil_of_length_eq_zero h0] at hu; simp at hu
    · refine ⟨⟨g, (i + 1) * 6, none⟩, by simp [h], show ∀ _, _ from fun j u hu => ?_⟩
      have hj : j < (n - (i + 1)) * 6 := by rw [← hdl]; exact (List.getElem?_eq_some_iff.1 hu).1
      rw [← cellsOf_drop (by omega), List.getElem?_drop, ← ht, List.getElem?_take, if_pos (by omega)] at hu
      rw [Addr.add_lit]
      show w.cell? _ = _
      rw [cell_of_row _ _ _ _ _ _ hg0, ← hu, List.getElem?_toArray]
  obtain ⟨c1, hc1⟩ : ∃ c1, c1 = spl cur (i * 6) (cellsOf (l.drop (i + 1))) := ⟨_, rfl⟩
  have hc1l : c1.length = cur.length := by rw [hc1]; exact spl_len hfit1
  obtain ⟨W1, hW1⟩ : ∃ W1, W1 = w.drew.setRow g c1.toArray := ⟨_, rfl⟩
  have hWg : W1.heap[g]? = some (.cells c1.toArray 32 (0, 0)) := by rw [hW1]; exact setRow_heap _ _ _ _ _ _ hg0
  have hcl : ∀ ty c, (Builtin.clear_ #[22] ty #[.slice (some ⟨g, (n - 1) * 6, none⟩) (n - (n - 1)) c]).run Try.prog W1 = .ok (.tuple #[]) (W1.setRow g (spl c1 ((n - 1) * 6) zeroVals).toArray) := fun ty c => by
    rw [show n - (n - 1) = 1 by omega]; exact run_clear_el W1 ty g _ c c1 hWg (by omega)
  have hdn := delAt_len (l := l) (i := i) (by omega)
  have HEND : Hid (OwnEnd base (delAt l i) w (.returned (.slice (some ⟨g, 0, none⟩) (n - 1) cap)) (W1.setRow g (spl c1 ((n - 1) * 6) zeroVals).toArray)) := by
    refine ⟨_, rfl, ?_, fun w0 h0 hc => ?_⟩
    · have hfin : (W1.setRow g (spl c1 ((n - 1) * 6) zeroVals).toArray).heap[g]? = some (.cells (spl c1 ((n - 1) * 6) zeroVals).toArray 32 (0, 0)) := setRow_heap _ _ _ _ _ _ hWg
      rw [hn, ← hdn] at hfin ⊢
      refine OwnR.row hbg hfin (by omega) hcm (by rw [spl_len (by show _ + 6 ≤ _; omega)]; omega) ?_
      rw [hdn, hc1]
      exact row_del _ (by omega) (by rw [← hn]; exact ht) (by omega)
    · rw [hW1]
      exact ((hc.drew.setRow (by omega) _).setRow (by omega) _)
  have hW := Lib.hid hW1
  have HC := Lib.hid hc1
  have s1 := Lib.hid hdl
  have s2 : Hid (∀ u ∈ cellsOf (l.drop (i + 1)), u.oneCell' = true) := cellsOf_one _
  have s3 : Hid (w.drew.heap[g]? = some (.cells cur.toArray 32 (0, 0))) := hg0
  have s4 := Lib.hid hfit1
  have hic : i ≤ cap := by omega
  have hjc : i + 1 ≤ cap := by omega
  have hb5 : (i : Int) < (n : Int) := by omega
  have hb6 : (i : Int) + 1 ≤ (n : Int) := by omega
  have hb7 : ¬ ((i : Int) = (i : Int) + 1) := by omega
  have htn : ((i : Int) + 1).toNat = i + 1 := by omega
  have hb8 : (0 : Int) ≤ (i : Int) + 1 := by omega
  have hb9 : i + (n - (i + 1)) = n - 1 := by omega
  clear hW1 hWg hc1 hdl hfit1 hg0 hcs ht hdn hc1l hn
  go_enter Try.func58, Try.ntmps58
  go_wp2_with fail
  go_region_law (refine step_append_row rfl (.tmp 22) (.tmp 25) rfl g i cap (by simp [Act.eval, Act.put]) A (n - (i + 1)) (cap - (i + 1)) (by simp [Act.eval, Act.put]) cur s3.out (cellsOf (l.drop (i + 1))) s1.out hsrc.out s2.out (by omega) s4.out ?_; rw [← HC.out, ← hW.out])
  go_wp2_with fail
  go_ret
  exact HEND.out
end Go.Proofs.Ytjjibnkooloagaa
