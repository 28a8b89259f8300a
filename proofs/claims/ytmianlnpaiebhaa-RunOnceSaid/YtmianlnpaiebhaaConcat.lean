/- slices.Grow of nil, slices.Concat of two slices of records. -/
import Derived.Test.YtmianlnpaiebhaaSlices
import Derived.Test.YtmianlnpaiebhaaPureD
namespace Go.Proofs.Ytmianlnpaiebhaa
open Go.RowKit

/-- append(out, s...), s any slice that reads as records. -/
theorem wpList_append_lies {ops : Array Oper} {rest : List Oper} {o : Oper} {a : Act} {w : World} {Q : Exit → Act → World → Prop} (hgd : o.guard = none) (s x : Operand)
    (ho : o.op = .call { callee := .builtin .append, args := #[s, x], argTypes := #[33, 33] })
    (base : Nat) (v : Value) (l : List El) (hs : a.eval s = v) (hown : OwnR base w v l) (A : Option Addr) (c : Nat) (l2 : List El) (hx : a.eval x = .slice A l2.length c) (hsrc : Lies w A l2)
    (hl : (l.length + l2.length) * 56 ≤ 140737488355328) (hbase : base ≤ w.heap.size)
    (h : ∀ v' w', OwnR base w' v' (l ++ l2) → (∀ w0 : World, w0.heap.size ≤ base → Calm w0 w → Calm w0 w') → wpList Try.prog ops Q rest (a.put o.dst v') w') : wpList Try.prog ops Q (o :: rest) a w := by
  obtain ⟨i0, hi, hz0, hz1, hz2⟩ := info_parts infoElem
  have fin : ∀ v' w', w'.ownsRow base 25 6 v' (l.length + l2.length) (cellsOf l ++ cellsOf l2) → w.grownBy w' v.ownBlock → wpList Try.prog ops Q rest (a.put o.dst v') w' := fun v' w' h1 h2 => by
    refine h v' w' ?_ fun w0 h0 hc => hc.grown h0 hown h2
    unfold OwnR
    rw [List.length_append, show cellsOf (l ++ l2) = cellsOf l ++ cellsOf l2 from by simp [cellsOf]]
    exact h1
  rcases A with _ | ad
  · have h0 : l2 = [] := by
      rcases Nat.eq_zero_or_pos l2.length with h | h
      · exact List.eq_nil_of_length_eq_zero h
      · obtain ⟨_, _, h1, _⟩ := hsrc.2 h; cases h1
    subst h0
    refine wpList_plain hgd fun K hK => ?_
    have hrun : (Builtin.append_ #[33, 33] o.type #[v, .slice none 0 c]).run Try.prog w = .ok v w := by
      rcases hown.2 with ⟨rfl, hn⟩ | ⟨g, cap, cur, rfl, _, _, hnc, _⟩
      · simp [Builtin.append_, run_underlying Try.underlying33, sizeOf, typeInfo, hi, Builtin.lenOf, Builtin.firstCells]
      · simp [Builtin.append_, run_underlying Try.underlying33, sizeOf, typeInfo, hi, Builtin.lenOf, Builtin.firstCells, hnc, storeCells]
    have hx' : a.eval x = .slice none 0 c := hx
    unfold Oper.wp execOp
    simp only [ho, resolve, invoke, builtin, Sem.run_bind, Sem.run_pure, Result.andThen_ok, List.map_toArray, List.map_cons, List.map_nil, hs, hx', hrun]
    exact hK _ _ (h v w (by simpa using hown) fun _ _ h => h)
  · refine wpList_append_own w hgd s x _ ho base 25 i0 _ 6 56 Try.underlying33 hi hz0 hz1 hz2 rfl (by decide) v _ _ hs hown ad l2.length c (cellsOf l2) hx (cellsOf_len l2) (fun j u hj => ?_) (cellsOf_one l2) (by unfold maxLen; omega) (by omega) hbase fun v' w' h1 h2 _ => fin v' w' h1 h2
    have hj2 : j < l2.length * 6 := by rw [← cellsOf_len]; exact (List.getElem?_eq_some_iff.1 hj).1
    obtain ⟨b, q, hA, _, _⟩ := hsrc.2 (by omega)
    injection hA with hA
    subst hA
    have e : (⟨b, q, none⟩ : Addr).add j = ⟨b, q + j, none⟩ := by unfold Addr.add; split <;> simp_all
    rw [e]
    exact hsrc.cells j u hj

set_option maxRecDepth 100000 in
set_option maxHeartbeats 4000000 in
theorem grow_any (n : Nat) (w : World) (hn : n ≤ 1000) : Calls Try.prog 50 #[.slice none 0 0, .int .i64 (n : Int)] w fun e w' => ∃ v, e = .returned v ∧ OwnR w.heap.size w' v [] ∧ Calm w w' := by
  by_cases h0 : n = 0
  · subst h0
    go_enter Try.func50, Try.ntmps50
    go_wp2_with fail
    go_ret
    exact ⟨_, rfl, OwnR.nil _ _, Calm.refl _⟩
  obtain ⟨i0, hi0, hz0, hzs, hzb⟩ := info_parts infoElem
  obtain ⟨G, hG⟩ : ∃ G, G = grownCap w n 0 25 := ⟨_, rfl⟩
  have hGn : n ≤ G := by rw [hG]; exact grownCap_ge w _ _ _
  have hGm : G ≤ maxLen := by rw [hG]; exact grownCap_le_maxLen w n 0 _ (by unfold maxLen; omega)
  obtain ⟨C, hC⟩ : ∃ C : List Value, C = (Builtin.zeroCells (Value.agg #[.int .i64 0, .int .i64 0, .int .i64 0, .int .i64 0, .int .i64 0, .string ByteArray.empty]).cells n).toList ++ (Builtin.zeroCells (Value.agg #[.int .i64 0, .int .i64 0, .int .i64 0, .int .i64 0, .int .i64 0, .string ByteArray.empty]).cells (G - n)).toList := ⟨_, rfl⟩
  have hCl : C.length = G * 6 := by
    rw [hC, List.length_append, Array.length_toList, Array.length_toList, size_zeroCells, size_zeroCells]
    show n * 6 + (G - n) * 6 = G * 6
    omega
  have hrz : ∀ ty, (Builtin.append_ #[33, 3] ty #[.slice none 0 0, .int .i64 (n : Int)]).run Try.prog w = .ok (.slice (some ⟨w.heap.size, 0, none⟩) n G) (w.drew.alloc (.cells C.toArray 25)) := fun ty => by
    have h := Lib.run_append_grow_zeros w 33 3 ty 25 i0 _ .i64 .i64 Try.underlying33 Try.underlying3 hi0 hz0 none 0 0 [] (run_firstCells_none w.drew _ 0 0 0) n (by omega) (by omega) (by omega) (by omega) (by rw [hzb]; omega) (by rw [hzb]; exact growslice_fits (by omega) (by omega))
    rw [Nat.zero_add, ← hG] at h
    rw [h, hC]
    exact congrArg (fun x => Result.ok _ (w.drew.alloc (.cells x 25))) (Array.toList_inj.1 (by simp))
  have hO : OwnR w.heap.size (w.drew.alloc (.cells C.toArray 25)) (.slice (some ⟨w.heap.size, 0, none⟩) 0 G) [] :=
    OwnR.row (l := []) (Nat.le_refl _) (heap_alloc_new w.drew _) (Nat.zero_le _) hGm hCl rfl
  have HO := Lib.hid hO
  have hni : (0 : Int) < (n : Int) := by omega
  have hG0 : ¬ G = 0 := by omega
  clear hG hGn hGm hC hCl hi0 hz0 hzs hzb h0 hO
  go_enter Try.func50, Try.ntmps50
  go_wp2_with (at_builtin; refine Lib.wpList_append_run _ rfl _ _ _ _ rfl _ _ rfl rfl _ _ (hrz _) ?_)
  go_ret
  exact ⟨_, rfl, HO.out, ((Calm.refl w).drew).alloc _⟩

set_option maxRecDepth 100000 in
set_option maxHeartbeats 8000000 in
theorem concat_any (H : Nat) (A1 A2 : Option Addr) (c1 c2 : Nat) (l1 l2 : List El) (w : World) (h1 : l1.length ≤ 400) (h2 : l2.length ≤ 400) (hL1 : Lies w A1 l1) (hL2 : Lies w A2 l2) (t : Nat)
    (hx : w.heap[H]? = some (.cells #[.slice A1 l1.length c1, .slice A2 l2.length c2] t (0, 0))) :
    Calls Try.prog 30 #[.slice (some ⟨H, 0, none⟩) 2 2] w fun e w' => ∃ v, e = .returned v ∧ OwnR w.heap.size w' v (l1 ++ l2) ∧ Calm w w' := by
  have x0 := cell_of_row _ _ 0 _ _ _ hx
  have x1 := cell_of_row _ _ 1 _ _ _ hx
  have hxs := (Array.getElem?_eq_some_iff.1 hx).1
  have HX0 := Lib.hid hx
  simp only [List.getElem?_toArray, List.getElem?_cons_zero, List.getElem?_cons_succ] at x0 x1
  have cG := fun u => grow_any (l1.length + l2.length) u (by omega)
  rw [show ((l1.length + l2.length : Nat) : Int) = (l1.length : Int) + (l2.length : Int) from by omega] at cG
  have n1 : (l1.length : Int) ≤ 400 := by omega
  have n2 : (l2.length : Int) ≤ 400 := by omega
  have hb : (([] ++ l1).length + l2.length) * 56 ≤ 140737488355328 := by simp only [List.nil_append]; omega
  have hb0 : (([] : List El).length + l1.length) * 56 ≤ 140737488355328 := by simp only [List.length_nil]; omega
  go_enter Try.func30, Try.ntmps30
  go_wp2_with fail
  refine wp_loop_rounds 3 ?_
  rw [rounds_succ]
  go_wp2_with fail
  rw [rounds_succ]
  go_wp2_with fail
  rw [rounds_succ]
  go_wp2_with (go_at_call 50; refine (cG _).mono ?_; rintro e w1 ⟨v, rfl, hov, hb1⟩; have hu := (Calm.refl w).call hb1; have HO := Lib.hid hov; replace hx := (hb1.block hxs).trans hx; clear hov hb1)
  have x0 := cell_of_row _ _ 0 _ _ _ hx
  have x1 := cell_of_row _ _ 1 _ _ _ hx
  simp only [List.getElem?_toArray, List.getElem?_cons_zero, List.getElem?_cons_succ] at x0 x1
  have HL1 := Lib.hid (hL1.calm hu)
  clear hL1
  have HL2 := Lib.hid hL2
  clear hL2
  refine wp_loop_rounds 3 ?_
  rw [rounds_succ]
  go_wp2_with (at_builtin; go_must (refine wpList_append_lies rfl _ _ rfl w.heap.size _ [] rfl HO.out _ _ l1 rfl HL1.out hb0 hu.size ?_); intro v2 w2 ho2 hc2; have hu2 := hc2 _ (Nat.le_refl _) hu; have HO2 := Lib.hid ho2; clear ho2 hc2; have y1 := cell_of_row _ _ 1 _ _ _ ((hu2.block hxs).trans HX0.out); simp only [List.getElem?_toArray, List.getElem?_cons_zero, List.getElem?_cons_succ] at y1)
  rw [rounds_succ]
  go_wp2_with (at_builtin; go_must (refine wpList_append_lies rfl _ _ rfl w.heap.size _ _ rfl HO2.out _ _ l2 rfl (HL2.out.calm hu2) hb hu2.size ?_); intro v3 w3 ho3 hc3; have hu3 := hc3 _ (Nat.le_refl _) hu2; have HO3 := Lib.hid ho3; clear ho3 hc3)
  rw [rounds_succ]
  go_wp2_with fail
  go_ret
  exact ⟨_, rfl, HO3.out, hu3⟩
end Go.Proofs.Ytmianlnpaiebhaa
