/- Texts of one kind in one file. -/
import Derived.Test.YtoklknjjkchgmaaPkPageSays3
set_option maxRecDepth 100000
namespace Go.Proofs.Ytoklknjjkchgmaa
open Go.RowKit
/-- append(out, more...): records of another row behind those of a row of the call's own. -/
theorem wpList_append_own2 {ops : Array Oper} {rest : List Oper} {o : Oper} {a : Act} {w : World} {Q : Exit → Act → World → Prop} (hgd : o.guard = none) (s x : Operand)
    (ho : o.op = .call { callee := .builtin .append, args := #[s, x], argTypes := #[33, 33] })
    (base : Nat) (v : Value) (l : List El) (hs : a.eval s = v) (hown : OwnR base w v l) (base2 : Nat) (u : Value) (l2 : List El) (hx : a.eval x = u) (hsrc : OwnR base2 w u l2)
    (hl : (l.length + l2.length) * 56 ≤ 140737488355328) (hbase : base ≤ w.heap.size)
    (h : ∀ v' w', OwnR base w' v' (l ++ l2) → (∀ w0 : World, w0.heap.size ≤ base → Calm w0 w → Calm w0 w') → wpList Try.prog ops Q rest (a.put o.dst v') w') : wpList Try.prog ops Q (o :: rest) a w := by
  obtain ⟨i0, hi, hz0, hz1, hz2⟩ := info_parts infoElem
  rcases hsrc.2 with ⟨rfl, h0⟩ | ⟨g, cap, cur, rfl, hb2, hg, hnc, hcm, hsz, ht⟩
  · have : l2 = [] := List.eq_nil_of_length_eq_zero h0
    subst this
    refine wpList_plain hgd fun K hK => ?_
    have hrun : (Builtin.append_ #[33, 33] o.type #[v, .slice none 0 0]).run Try.prog w = .ok v w := by
      rcases hown.2 with ⟨rfl, hn⟩ | ⟨g, cap, cur, rfl, _, _, hnc, _⟩
      · simp [Builtin.append_, run_underlying Try.underlying33, sizeOf, typeInfo, hi, Builtin.lenOf, Builtin.firstCells]
      · simp [Builtin.append_, run_underlying Try.underlying33, sizeOf, typeInfo, hi, Builtin.lenOf, Builtin.firstCells, hnc, storeCells]
    unfold Oper.wp execOp
    simp only [ho, resolve, invoke, builtin, Sem.run_bind, Sem.run_pure, Result.andThen_ok, List.map_toArray, List.map_cons, List.map_nil, hs, hx, hrun]
    exact hK _ _ (h v w (by simpa using hown) fun _ _ h => h)
  · refine wpList_append_own w hgd s x _ ho base 25 i0 _ 6 56 Try.underlying33 hi hz0 hz1 hz2 rfl (by decide) v _ _ hs hown ⟨g, 0, none⟩ l2.length cap (cellsOf l2) hx (cellsOf_len l2) (World.ownsRow.cells (g := g) hsrc rfl) (cellsOf_one l2) (by unfold maxLen; omega) (by omega) hbase fun v' w' h1 h2 _ => ?_
    refine h v' w' ?_ fun w0 h0 hc => hc.grown h0 hown h2
    unfold OwnR
    rw [List.length_append, show cellsOf (l ++ l2) = cellsOf l ++ cellsOf l2 from by simp [cellsOf]]
    exact h1
/-- A literal of one record. -/
theorem OwnR.lit {w : World} {base g : Nat} {p o f m gg : Int} {s : ByteArray} (h : w.heap[g]? = some (.cells #[.int .i64 p, .int .i64 o, .int .i64 f, .int .i64 m, .int .i64 gg, .string s] 25 (0, 0))) (hb : base ≤ g) : OwnR base w (.slice (some ⟨g, 0, none⟩) 1 1) [⟨p, o, f, m, gg, s⟩] :=
 ⟨rfl, .inr ⟨g, 1, _, rfl, hb, h, Nat.le_refl _, by unfold maxLen; omega, rfl, rfl⟩⟩
theorem get_bad' (s : ByteArray) (n : Int) (hd : decErr s.data.toList = n) (hn : n ≠ 0) (w : World) : Calls Try.prog 21 #[.string s] w fun e w' => e = .returned (.tuple #[.agg #[.int .i64 0, .int .i64 0, .int .i64 0, .int .i64 0, .int .i64 0, .string { data := #[] }], .int .i64 0, .int .i64 n]) ∧ Calm w w' :=
 (unbytes_any s w).mono fun e w' ⟨h1, h2⟩ => ⟨by rw [h1, gotEl, gotLen, hd, if_neg hn, if_neg hn]; rfl, h2⟩
theorem get_good' (s : ByteArray) (x : El) (N : Nat) (hd : decErr s.data.toList = 0) (hx : decEl s.data.toList = x) (hN : decLen s.data.toList = N) (w : World) : Calls Try.prog 21 #[.string s] w fun e w' => e = .returned (.tuple #[.agg #[.int .i64 x.p, .int .i64 x.o, .int .i64 x.f, .int .i64 x.m, .int .i64 x.g, .string x.s], .int .i64 (N : Int), .int .i64 0]) ∧ Calm w w' :=
 (unbytes_any s w).mono fun e w' ⟨h1, h2⟩ => ⟨by rw [h1, gotEl, gotLen, hd, if_pos rfl, if_pos rfl, hx, hN]; rfl, h2⟩
set_option maxHeartbeats 8000000 in
theorem allBytes_any : ∀ (n : Nat) (s : ByteArray) (w : World), s.size ≤ n → (allEls s.data.toList).length * 56 ≤ 140737488355328 → Calls Try.prog 23 #[.string s] w (AllOwn (allVal s.data.toList) (allErr s.data.toList) w)
 |n, s, w, hn, hbig => by
  by_cases hz : s.size = 0
  ·have hs : s = { data := #[] } := by
    apply ByteArray.ext
    apply Array.eq_empty_of_size_eq_zero
    exact hz
   subst hs
   clear hz hn hbig
   go_enter Try.func23, Try.ntmps23
   go_wp2_with fail
   go_ret2
   exact ⟨_, rfl, OwnR.nil _ _, Calm.refl _⟩
  have hpos : 0 < s.size := by omega
  have h0 : Reads s.data.toList [] s := ⟨rfl, rfl⟩
  have hemp : s.toList.isEmpty = false := by
   rw [ByteArray.toList_eq]
   cases h : s.data.toList with
   |nil => have := bytes_len s; rw [h] at this; simp at this; omega
   |cons => rfl
  by_cases hd : decErr s.data.toList = 0
  rotate_left
  ·have hE := h0.bad hpos hd
   have cG := fun u => get_bad' s _ rfl hd u
   have hV : allVal s.data.toList = [] := by unfold allVal; rw [hE, if_neg hd]
   rw [hE, hV]
   have b1 : (decErr s.data.toList != 0) = true := by simpa using hd
   generalize decErr s.data.toList = E at cG b1 ⊢
   clear hE hV hd h0 hbig hn hz
   go_enter Try.func23, Try.ntmps23
   go_wp2_with (go_at_call 21; refine (cG _).mono ?_; rintro e w1 ⟨rfl, hb1⟩; have hu := (Calm.refl w).call hb1; clear hb1)
   go_ret2
   exact ⟨_, rfl, OwnR.nil _ _, hu.alloc _⟩
  have hdz := decErr_zero hd
  have hst := h0.step hpos hd
  have hN18 : 18 ≤ decLen s.data.toList := by unfold decLen; omega
  have cG := fun u => get_good' s _ _ hd rfl rfl u
  rw [bytes_len] at hdz
  generalize hX : decEl s.data.toList = x at cG hst hdz
  generalize hNn : decLen s.data.toList = N at cG hst hdz hN18
  obtain ⟨p, o, f, m, g, sv⟩ := x
  simp only at cG
  have hsz : (s.extract N s.size).size = s.size - N := by rw [ByteArray.size_extract]; omega
  have hN1 : (0 : Int) ≤ (N : Int) := by omega
  have hN2 : (N : Int) ≤ (s.size : Int) := by omega
  have hN3 : N ≤ s.size := hdz.2.1
  obtain ⟨e1, e2⟩ := hst
  have hlen : (allEls s.data.toList).length = 1 + (allEls (s.extract N s.size).data.toList).length := by rw [e2]; simp [Nat.add_comm]
  have cR : ∀ u, Calls Try.prog 23 #[.string (s.extract N s.size)] u (AllOwn (allVal (s.extract N s.size).data.toList) (allErr (s.extract N s.size).data.toList) u) := fun u => allBytes_any (n - 18) _ u (by omega) (by omega)
  have hV : allVal s.data.toList = if allErr (s.extract N s.size).data.toList = 0 then ⟨p, o, f, m, g, sv⟩ :: allEls (s.extract N s.size).data.toList else [] := by
   unfold allVal; rw [e1, e2]; rfl
  rw [hV, e1]
  have hw : (allVal (s.extract N s.size).data.toList) = if allErr (s.extract N s.size).data.toList = 0 then allEls (s.extract N s.size).data.toList else [] := rfl
  rw [hw] at cR
  generalize allEls (s.extract N s.size).data.toList = L at cR hlen ⊢
  generalize allErr (s.extract N s.size).data.toList = E at cR ⊢
  have hu := Calm.refl w
  have hwb := Nat.le_refl w.heap.size
  clear hV hw e1 e2 hX hNn hdz hd h0 hsz
  by_cases hE : E = 0
  ·subst hE
   simp only [if_true] at cR ⊢
   have hLen : ([(⟨p, o, f, m, g, sv⟩ : El)].length + L.length) * 56 ≤ 140737488355328 := by simp only [List.length_cons, List.length_nil]; omega
   clear hbig hlen
   go_enter Try.func23, Try.ntmps23
   go_wp2_with (first
    |(go_at_call 21; (with_reducible refine (cG _).mono ?_); rintro e w1 ⟨rfl, hb1⟩; replace hu := (hu.call hb1).alloc (.cells #[.int .i64 p, .int .i64 o, .int .i64 f, .int .i64 m, .int .i64 g, .string sv] 25); have hx := heap_new w1 (.cells #[.int .i64 p, .int .i64 o, .int .i64 f, .int .i64 m, .int .i64 g, .string sv] 25); clear hb1)
    |(go_at_call 23; (with_reducible refine (cR _).mono ?_); rintro e w2 ⟨v, rfl, hov, hb1⟩; replace hx := (hb1.block (row6 hx).2.2.2.2.2.2).trans hx; replace hu := hu.call hb1; have hus := hu.size; clear hb1; have HOV := Lib.hid hov; clear hov; obtain ⟨x0, x1, x2, x3, x4, x5, hxs⟩ := row6 hx)
    |(at_builtin; go_must (refine wpList_append_own2 rfl _ _ rfl w.heap.size _ _ rfl (OwnR.lit (heap_new _ _) hus) _ _ L rfl (HOV.out.calm ((Calm.refl _).alloc _)) hLen (by simp; omega) ?_); intro v' w9 ho9 hc9; have hu9 := hc9 _ (Nat.le_refl _) (hu.alloc _); have HO := Lib.hid ho9; clear ho9 hc9))
   go_ret2
   exact ⟨_, rfl, HO.out, hu9⟩
  ·simp only [if_neg hE] at cR ⊢
   have b1 : (E != 0) = true := by simpa using hE
   clear hbig hlen hE
   go_enter Try.func23, Try.ntmps23
   go_wp2_with (first
    |(go_at_call 21; (with_reducible refine (cG _).mono ?_); rintro e w1 ⟨rfl, hb1⟩; replace hu := (hu.call hb1).alloc (.cells #[.int .i64 p, .int .i64 o, .int .i64 f, .int .i64 m, .int .i64 g, .string sv] 25); clear hb1)
    |(go_at_call 23; (with_reducible refine (cR _).mono ?_); rintro e w2 ⟨v, rfl, hov, hb1⟩; replace hu := hu.call hb1; clear hb1 hov))
   go_ret2
   exact ⟨_, rfl, OwnR.nil _ _, hu⟩
termination_by n => n
decreasing_by omega
open Go.RowKit
set_option maxHeartbeats 4000000 in
theorem unframe_any (s : ByteArray) (w : World) : Calls Try.prog 34 #[.string s] w (FGetEnd s.data.toList w) := by
 have hl := bytes_len s
 by_cases h5 : s.size < 5
 ·have e1 : unErr s.data.toList = 7 := by unfold unErr; rw [if_pos (by omega)]
  rw [FGetEnd.bad e1 (by decide)]
  have h5' : (s.size : Int) < 5 := by omega
  clear e1 hl h5
  go_enter Try.func34, Try.ntmps34
  go_wp2
  exact end_fr rfl rfl _ _ w.heap.size _ _ _ _ (0, 0) rfl rfl rfl rfl (heap_new _ _) rfl ⟨rfl, (Calm.refl _).alloc _⟩
 have h5' : (5 : Int) ≤ s.size := by omega
 have i0 : 0 < s.size := by omega
 have i3 : (3 : Int) ≤ s.size := by omega
 obtain ⟨K, hK⟩ : ∃ K, unKind s.data.toList = K := ⟨_, rfl⟩
 obtain ⟨N, hN⟩ : ∃ N, unSize s.data.toList = N := ⟨_, rfl⟩
 have hk0 : s[0].toNat = K := by rw [← hK, unKind, head_at s i0]
 have hK8 : K < 256 := by rw [← hk0]; exact s[0].toNat_lt
 have hN16 : N < 65536 := by rw [← hN]; exact num_lt 2 _ (part_length (by omega))
 have cB := fun u => calls_calm (refBig_any (s.extract 1 3) u (by rw [ByteArray.size_extract]; omega))
 rw [part_extract, show num (part s.data.toList 1 (3 - 1)) = N from hN] at cB
 have cK := fun u => (refBig_any (s.extract 0 1) u (by rw [ByteArray.size_extract]; omega))
 rw [part_extract, show num (part s.data.toList 0 (1 - 0)) = K from hK] at cK
 by_cases hB : K = 0 ∨ 3000 < N
 ·have e1 : unErr s.data.toList = 3 := by unfold unErr; rw [if_neg (by omega), hK, hN, if_pos hB]
  rw [FGetEnd.bad e1 (by decide)]
  clear e1 hl h5 hK hN cK
  rcases hB with hB | hB
  ·have b0 : ((K : Int) == 0) = true := by rw [beq_iff_eq]; omega
   clear hB
   have hz := heap_new w (.cells #[.int .i64 0, .string { data := #[] }] 50)
   have hu := (Calm.refl w).alloc (.cells #[.int .i64 0, .string { data := #[] }] 50)
   obtain ⟨z0, z1, hzs⟩ := row2 hz
   obtain ⟨f0, f1⟩ := free2 hz
   go_enter Try.func34, Try.ntmps34
   go_wp2_with (go_at_call 47; refine (cB _).mono ?_; rintro e w1 ⟨rfl, hb1⟩; replace hz := (hb1.block (row2 hz).2.2).trans hz; replace hu := hu.call hb1; clear hb1; obtain ⟨z0, z1, hzs⟩ := row2 hz; obtain ⟨f0, f1⟩ := free2 hz)
   have hr := set2 hz (.int .i64 0) (.string { data := #[] })
   have hu2 := hu.two (g := w.heap.size) (Nat.le_refl _) (.int .i64 0) (.string { data := #[] })
   exact end_fr rfl rfl _ _ _ _ _ _ _ _ rfl rfl rfl rfl hr rfl ⟨rfl, hu2⟩
  ·have h3 : (3000 : Int) < (N : Int) := by omega
   clear hB
   have hz := heap_new w (.cells #[.int .i64 0, .string { data := #[] }] 50)
   have hu := (Calm.refl w).alloc (.cells #[.int .i64 0, .string { data := #[] }] 50)
   obtain ⟨z0, z1, hzs⟩ := row2 hz
   obtain ⟨f0, f1⟩ := free2 hz
   go_enter Try.func34, Try.ntmps34
   go_wp2_with (go_at_call 47; refine (cB _).mono ?_; rintro e w1 ⟨rfl, hb1⟩; replace hz := (hb1.block (row2 hz).2.2).trans hz; replace hu := hu.call hb1; clear hb1; obtain ⟨z0, z1, hzs⟩ := row2 hz; obtain ⟨f0, f1⟩ := free2 hz)
   all_goals
    have hr := set2 hz (.int .i64 0) (.string { data := #[] })
    have hu2 := hu.two (g := w.heap.size) (Nat.le_refl _) (.int .i64 0) (.string { data := #[] })
    exact end_fr rfl rfl _ _ _ _ _ _ _ _ rfl rfl rfl rfl hr rfl ⟨rfl, hu2⟩
 have b0 : ((K : Int) == 0) = false := by rw [beq_eq_false_iff_ne]; omega
 have hK1 : (1 : Int) ≤ (K : Int) := by omega
 have hN1 : (N : Int) ≤ 3000 := by omega
 obtain ⟨E, hE⟩ : ∃ E, E = 3 + N := ⟨_, rfl⟩
 obtain ⟨L, hL⟩ : ∃ L, L = 5 + N := ⟨_, rfl⟩
 have eE : (3 : Int) + (N : Int) = (E : Int) := by omega
 have eL : (5 : Int) + (N : Int) = (L : Int) := by omega
 have eEw : IntKind.i64.wrap (E : Int) = (E : Int) := IntWalk.i64_in _ (by omega)
 have eLw : IntKind.i64.wrap (L : Int) = (L : Int) := IntWalk.i64_in _ (by omega)
 have i1 : (1 : Int) ≤ s.size := by omega
 by_cases hn : s.size < 5 + N
 ·have e1 : unErr s.data.toList = 7 := by unfold unErr; rw [if_neg (by omega), hK, hN, if_neg hB, if_pos (by omega)]
  rw [FGetEnd.bad e1 (by decide)]
  have hn' : (s.size : Int) < (L : Int) := by omega
  clear e1 hl h5 hK hN hB hn hE hL cK
  have hz := heap_new w (.cells #[.int .i64 0, .string { data := #[] }] 50)
  have hu := (Calm.refl w).alloc (.cells #[.int .i64 0, .string { data := #[] }] 50)
  obtain ⟨z0, z1, hzs⟩ := row2 hz
  obtain ⟨f0, f1⟩ := free2 hz
  go_enter Try.func34, Try.ntmps34
  go_wp2_with (go_at_call 47; refine (cB _).mono ?_; rintro e w1 ⟨rfl, hb1⟩; replace hz := (hb1.block (row2 hz).2.2).trans hz; replace hu := hu.call hb1; clear hb1; obtain ⟨z0, z1, hzs⟩ := row2 hz; obtain ⟨f0, f1⟩ := free2 hz)
  have hr := set2 hz (.int .i64 0) (.string { data := #[] })
  have hu2 := hu.two (g := w.heap.size) (Nat.le_refl _) (.int .i64 0) (.string { data := #[] })
  exact end_fr rfl rfl _ _ _ _ _ _ _ _ rfl rfl rfl rfl hr rfl ⟨rfl, hu2⟩
 have hn' : (L : Int) ≤ (s.size : Int) := by omega
 have hEL : (E : Int) ≤ (L : Int) := by omega
 have nE : E ≤ s.size := by omega
 have hE3 : (3 : Int) ≤ (E : Int) := by omega
 obtain ⟨C, hC⟩ : ∃ C, (crc (s.data.toList.take E)).toNat = C := ⟨_, rfl⟩
 obtain ⟨M, hM⟩ : ∃ M, num (part s.data.toList E 2) = M := ⟨_, rfl⟩
 have cS := fun u => calls_calm (refSum_any (s.extract 0 E) u (by rw [ByteArray.size_extract]; omega))
 rw [extract_take, hC] at cS
 have cQ := fun u => calls_calm (refBig_any (s.extract E L) u (by rw [ByteArray.size_extract]; omega))
 rw [part_extract, show L - E = 2 from by omega, hM] at cQ
 by_cases hCM : C = M
 rotate_left
 ·have e1 : unErr s.data.toList = 6 := by unfold unErr; rw [if_neg (by omega), hK, hN, if_neg hB, if_neg (by omega), ← hE, hC, hM, if_pos hCM]
  rw [FGetEnd.bad e1 (by decide)]
  have b1 : ((M : Int) != (C : Int)) = true := by rw [bne_iff_ne]; omega
  clear e1 hl h5 hK hN hB hn hE hL hC hM hCM cK
  have hz := heap_new w (.cells #[.int .i64 0, .string { data := #[] }] 50)
  have hu := (Calm.refl w).alloc (.cells #[.int .i64 0, .string { data := #[] }] 50)
  obtain ⟨z0, z1, hzs⟩ := row2 hz
  obtain ⟨f0, f1⟩ := free2 hz
  go_enter Try.func34, Try.ntmps34
  go_wp2_with (go_at_call 47; refine (cB _).mono ?_; rintro e w1 ⟨rfl, hb1⟩; replace hz := (hb1.block (row2 hz).2.2).trans hz; replace hu := hu.call hb1; clear hb1; obtain ⟨z0, z1, hzs⟩ := row2 hz; obtain ⟨f0, f1⟩ := free2 hz)
  refine wp_region_plan [.val (.string s), .val (.int .i64 (N)), .val (.int .i64 (E)), .val (.int .i64 (N)), .val (.int .i64 (L)), .val (.string (s.extract E L)), .val (.int .i64 (M)), .val (.string s), .val (.int .i64 (N)), .val (.int .i64 (E)), .val (.string (s.extract 0 E)), .val (.int .i64 (C)), .val (.bool true)] (by kernel_rfl) (by kernel_rfl) (by kernel_rfl) ?_
  intro X
  iterate 13
   refine plan_val (by kernel_rfl) (fun u hu => ?_) ?_
   ·obtain ⟨hc, hf, hz⟩ := hu.of_drew.facts
    go_simp
    all_goals first
     |((go_at_call 47; exact cQ _))
     |((go_at_call 54; exact cS _))
     |(exact eEw)
     |(exact eLw)
   simp only [Act.put, List.setIfInBounds_toArray, List.set_cons_zero, List.set_cons_succ, Nat.reduceAdd]
  refine plan_end ?_
  intro w' hB
  have hk := hB.calm.of_drew
  clear hB
  replace hz := (hk.block (row2 hz).2.2).trans hz
  replace hu := hu.call hk
  clear hk
  obtain ⟨z0, z1, hzs⟩ := row2 hz
  obtain ⟨f0, f1⟩ := free2 hz
  go_wp2
  have hr := set2 hz (.int .i64 0) (.string { data := #[] })
  have hu2 := hu.two (g := w.heap.size) (Nat.le_refl _) (.int .i64 0) (.string { data := #[] })
  exact end_fr rfl rfl _ _ _ _ _ _ _ _ rfl rfl rfl rfl hr rfl ⟨rfl, hu2⟩
 have e1 : unErr s.data.toList = 0 := by unfold unErr; rw [if_neg (by omega), hK, hN, if_neg hB, if_neg (by omega), ← hE, hC, hM, if_neg (by simpa using hCM)]
 obtain ⟨B, hBy⟩ : ∃ B, s.extract 3 E = B := ⟨_, rfl⟩
 have hBy2 : (⟨(unBody s.data.toList).toArray⟩ : ByteArray) = B := by rw [← hBy, part_bytes, unBody, hN, hE, Nat.add_sub_cancel_left]
 rw [FGetEnd.good e1, hBy2, hK, hN, ← hL]
 subst hCM
 have b2 : ((C : Int) != (C : Int)) = false := by simp
 clear e1 hl h5 hK hN hB hn hE hL hC hM hBy2
 have hz := heap_new w (.cells #[.int .i64 0, .string { data := #[] }] 50)
 have hu := (Calm.refl w).alloc (.cells #[.int .i64 0, .string { data := #[] }] 50)
 obtain ⟨z0, z1, hzs⟩ := row2 hz
 obtain ⟨f0, f1⟩ := free2 hz
 go_enter Try.func34, Try.ntmps34
 go_wp2_with (go_at_call 47; refine (cB _).mono ?_; rintro e w1 ⟨rfl, hb1⟩; replace hz := (hb1.block (row2 hz).2.2).trans hz; replace hu := hu.call hb1; clear hb1; obtain ⟨z0, z1, hzs⟩ := row2 hz; obtain ⟨f0, f1⟩ := free2 hz)
 refine wp_region_plan [.val (.string s), .val (.int .i64 (N)), .val (.int .i64 (E)), .val (.int .i64 (N)), .val (.int .i64 (L)), .val (.string (s.extract E L)), .val (.int .i64 (C)), .val (.string s), .val (.int .i64 (N)), .val (.int .i64 (E)), .val (.string (s.extract 0 E)), .val (.int .i64 (C)), .val (.bool false)] (by kernel_rfl) (by kernel_rfl) (by kernel_rfl) ?_
 intro X
 iterate 13
  refine plan_val (by kernel_rfl) (fun u hu => ?_) ?_
  ·obtain ⟨hc, hf, hz⟩ := hu.of_drew.facts
   go_simp
   all_goals first
    |((go_at_call 47; exact cQ _))
    |((go_at_call 54; exact cS _))
    |(exact eEw)
    |(exact eLw)
  simp only [Act.put, List.setIfInBounds_toArray, List.set_cons_zero, List.set_cons_succ, Nat.reduceAdd]
 refine plan_end ?_
 intro w' hB
 have hk := hB.calm.of_drew
 clear hB
 replace hz := (hk.block (row2 hz).2.2).trans hz
 replace hu := hu.call hk
 clear hk
 obtain ⟨z0, z1, hzs⟩ := row2 hz
 obtain ⟨f0, f1⟩ := free2 hz
 go_wp2_with fail
 refine wp_region_plan_old [.val (.string s), .val (.string (s.extract 0 1)), .val (.int .i64 (K)), .val (.string s), .val (.int .i64 (N)), .val (.int .i64 (E)), .val (.string B), .val (.agg #[.int .i64 (K : Int), .string B]), .val (.int .i64 (N)), .val (.int .i64 (L)), .fill 0 #[.int .i64 (K : Int), .string B], .val (.int .i64 (L)), .val (.int .i64 (0))] (w.heap.size) (w.heap.size) 10 #[.int .i64 0, .string { data := #[] }] #[.int .i64 (K : Int), .string B] 50 (by kernel_rfl) (by kernel_rfl) (by kernel_rfl) rfl (hu.size) (Nat.le_refl _) hz ?_
 iterate 10
  refine planO_val (by kernel_rfl) (fun u hu => ?_) ?_
  ·obtain ⟨hc, hf⟩ := low_facts hu
   go_simp
   all_goals first
    |((go_at_call 47; exact calls_calm (cK _)))
    |(exact eEw)
    |(exact eLw)
  simp only [Act.put, List.setIfInBounds_toArray, List.set_cons_zero, List.set_cons_succ, Nat.reduceAdd]
 refine planO_row rfl rfl rfl rfl rfl (by kernel_rfl) rfl (by simp [Value.oneCell']) ?_
 simp only [Act.put]
 iterate 2
  refine planO_val (by kernel_rfl) (fun u hu => ?_) ?_
  ·obtain ⟨hc, hf⟩ := low_facts hu
   go_simp
   all_goals first
    |((go_at_call 47; exact calls_calm (cK _)))
    |(exact eEw)
    |(exact eLw)
  simp only [Act.put, List.setIfInBounds_toArray, List.set_cons_zero, List.set_cons_succ, Nat.reduceAdd]
 refine planO_end ?_
 intro w' hk hr
 replace hu : Calm w w' := hu.low hk
 go_wp2
 exact end_fr rfl rfl _ _ _ _ _ _ _ _ rfl rfl rfl rfl hr rfl ⟨rfl, hu⟩
open Go.RowKit
def LitI (w : World) (v : Value) (x : Int) : Prop := ∃ gl, v = .slice (some ⟨gl, 0, none⟩) 1 1 ∧ w.heap[gl]? = some (.cells #[.int .i64 x] 3 (0, 0))
theorem LitI.calm {w w' : World} {v : Value} {x : Int} (h : LitI w v x) (hb : Calm w w') : LitI w' v x := by
 obtain ⟨gl, h1, h2⟩ := h
 exact ⟨gl, h1, (hb.block (Array.getElem?_eq_some_iff.1 h2).1).trans h2⟩
section
variable (wl : World) (B g : Nat) (bK bS bT : Value) (K K1 T T1 : List Int) (S : List Sp) (x y : Int)
def UA : Nat → (Nat → Value) → World → Prop
 | 0, _, w => DI wl w B g 2 (.slice none 0 0) bK bS bT bK bS bT K S T
 | 1, Y, w => DI wl w B g 2 (.slice none 0 0) bK bS bT bK bS bT K S T ∧ LitI w (Y 5) x
 | 2, Y, w => DI wl w B g 2 (.slice none 0 0) bK bS bT (Y 6) bS bT K1 S T
 | 3, Y, w => DI wl w B g 2 (.slice none 0 0) bK bS bT (Y 6) bS bT K1 S T ∧ Y 11 = .int .i64 y
 | 4, Y, w => DI wl w B g 2 (.slice none 0 0) bK bS bT (Y 6) bS bT K1 S T ∧ LitI w (Y 12) y
 | 5, Y, w => DI wl w B g 2 (.slice none 0 0) bK bS bT (Y 6) bS (Y 13) K1 S T1
 | 6, Y, w => DI wl w B g 2 (.slice none 0 0) (Y 6) bS bT (Y 6) bS (Y 13) K1 S T1
 | 7, Y, w => DI wl w B g 2 (.slice none 0 0) (Y 6) bS (Y 13) (Y 6) bS (Y 13) K1 S T1
 |_, _, _ => False
end
variable {wl : World} {B g : Nat} {bK bS bT : Value} {K K1 T T1 : List Int} {S : List Sp} {x y : Int}
theorem UA.calm : ∀ (m : Nat) (Y : Nat → Value) (w w' : World), UA wl B g bK bS bT K K1 T T1 S x y m Y w → Calm w w' → UA wl B g bK bS bT K K1 T T1 S x y m Y w'
 | 0, _, _, _, h, hb => DI.calm h hb
 | 1, _, _, _, h, hb => ⟨h.1.calm hb, h.2.calm hb⟩
 | 2, _, _, _, h, hb => DI.calm h hb
 | 3, _, _, _, h, hb => ⟨h.1.calm hb, h.2⟩
 | 4, _, _, _, h, hb => ⟨h.1.calm hb, h.2.calm hb⟩
 | 5, _, _, _, h, hb => DI.calm h hb
 | 6, _, _, _, h, hb => DI.calm h hb
 | 7, _, _, _, h, hb => DI.calm h hb
 |_ + 8, _, _, _, h, _ => h
theorem UA.box {m : Nat} {Y : Nat → Value} {w : World} (h : UA wl B g bK bS bT K K1 T T1 S x y m Y w) (hm : m ≤ 5) : w.heap[g]? = some (.cells #[.int .i64 2, .slice none 0 0, bK, bS, bT] 63 (0, 0)) := by
 match m, hm, h with
 | 0, _, h => exact DI.box h
 | 1, _, h => exact h.1.box
 | 2, _, h => exact DI.box h
 | 3, _, h => exact h.1.box
 | 4, _, h => exact h.1.box
 | 5, _, h => exact DI.box h
open Go.RowKit
theorem unGet_bad (s : ByteArray) (n : Int) (hd : unErr s.data.toList = n) (hn : n ≠ 0) (w : World) : Calls Try.prog 34 #[.string s] w fun e w' => e = .returned (.tuple #[.agg #[.int .i64 0, .string { data := #[] }], .int .i64 0, .int .i64 n]) ∧ Calm w w' := by
 have h := unframe_any s w
 rw [FGetEnd.bad hd hn] at h
 exact h
theorem unGet_good (s : ByteArray) (K : Int) (B : ByteArray) (L : Nat) (hd : unErr s.data.toList = 0) (hK : (unKind s.data.toList : Int) = K) (hB : unBody s.data.toList = B.data.toList) (hL : 5 + unSize s.data.toList = L) (w : World) :
    Calls Try.prog 34 #[.string s] w fun e w' => e = .returned (.tuple #[.agg #[.int .i64 K, .string B], .int .i64 (L : Int), .int .i64 0]) ∧ Calm w w' := by
  have h := unframe_any s w
  rw [FGetEnd.good hd, hK, hB, hL] at h
  exact h
theorem RdI.stop {B : List UInt8} {K T : List Int} {S : List Sp} {R : List UInt8} (h : RdI B K T S R) (hs : R.length < 6 ∨ 9 ≤ K.length) {K' : List Int} {S' : List Sp} {T' : List Int} (hI : Inn K' S' T') (hB : kRow K' T' S' K'.length = B) : K = K' ∧ S = S' ∧ T = T' := by
 obtain ⟨h1, h2, h3, h4, h5⟩ := h K' S' T' hI hB
 have hn := hI.nk; have := hI.nt; have := hI.ns
 have he : K.length = K'.length := by
  rcases Nat.lt_or_ge K.length K'.length with hlt | hge
  ·have := (hI.step hlt h5).1; omega
  ·omega
 refine ⟨?_, ?_, ?_⟩
 ·rw [h2, he, List.take_of_length_le (Nat.le_refl _)]
 ·rw [h4, he, List.take_of_length_le (by omega)]
 ·rw [h3, he, List.take_of_length_le (by omega)]
set_option maxHeartbeats 16000000 in
theorem unpage_any (s : ByteArray) (w : World) : Calls Try.prog 39 #[.string s] w (RdEnd s.data.toList w) := by
 have hz := heap_new w (.cells ndZ 63)
 have hu := (Calm.refl w).alloc (.cells ndZ 63)
 have hws := World.size_alloc w (.cells ndZ 63)
 by_cases hd : unErr s.data.toList = 0
 rotate_left
 ·have cG := fun u => unGet_bad s _ rfl hd u
  have HN : Hid (∀ kd E K S T, ¬ IsPg s.data.toList kd E K S T) := show ∀ _, _ from IsPg.not hd
  have HE : Hid (unErr s.data.toList = rdErr s.data.toList) := by show _ = _; unfold rdErr; rw [if_neg hd]
  have b1 : (unErr s.data.toList != 0) = true := by simpa using hd
  generalize unErr s.data.toList = N at cG HE b1
  clear hd
  go_enter Try.func39, Try.ntmps39
  go_upto_region 1 with fail
  generalize w.alloc (.cells ndZ 63) = wz at hz hu hws ⊢
  obtain ⟨z0, z1, z2, z3, z4, hzs⟩ := row5 hz
  obtain ⟨f0, f1, f2, f3, f4⟩ := free5 hz
  go_wp2_with (go_at_call 34; (with_reducible refine (cG _).mono ?_); rintro e w1 ⟨rfl, hb1⟩; replace hb1 := hb1.alloc (.cells #[.int .i64 0, .string { data := #[] }] 50); replace hu := hu.call hb1; replace hz := (hb1.block (row5 hz).2.2.2.2.2).trans hz; clear hb1; obtain ⟨z0, z1, z2, z3, z4, hzs⟩ := row5 hz; obtain ⟨f0, f1, f2, f3, f4⟩ := free5 hz)
  exact end_nd rfl rfl _ _ w.heap.size _ _ _ (0, 0) rfl rfl rfl (set5 hz _ _ _ _ _) rfl ⟨hu.five (g := w.heap.size) (by omega) _ _ _ _ _, Or.inl ⟨by rw [HE.out]; rfl, HN.out⟩⟩
 have hdz := unErr_zero hd
 have hbl := unBody_length hdz.1
 obtain ⟨k, hk⟩ : ∃ k, (unKind s.data.toList : Int) = k := ⟨_, rfl⟩
 obtain ⟨B, hB⟩ : ∃ B : ByteArray, unBody s.data.toList = B.data.toList := ⟨⟨(unBody s.data.toList).toArray⟩, by simp⟩
 obtain ⟨L, hL⟩ : ∃ L, 5 + unSize s.data.toList = L := ⟨_, rfl⟩
 have hBs : B.size ≤ 3000 := by rw [← bytes_len, ← hB, hbl]; omega
 have cG := fun u => unGet_good s k B L hd hk hB hL u
 have HP : Hid (∀ kd E K S T, IsPg s.data.toList kd E K S T → ndErr kd E K S T = 0 ∧ kd + 1 = k ∧ pgBody E K S T = B.data.toList) := show ∀ _, _ from fun kd E K S T h => ⟨h.1, by rw [← hk]; exact h.un.2.1.symm, by rw [← hB]; exact h.un.2.2.1.symm⟩
 have H3 : Hid (rdErr s.data.toList = 3) := by show _ = _; unfold rdErr; rw [if_pos hd]
 have hk1 : 1 ≤ k := by omega
 have hk2 : k ≤ 255 := by omega
 obtain ⟨k0, hk0⟩ : ∃ k0, k - 1 = k0 := ⟨_, rfl⟩
 have ik0 : IntKind.i64.wrap k0 = k0 := IntWalk.i64_in _ (by omega)
 clear hdz hbl hL hd hk hB
 go_enter Try.func39, Try.ntmps39
 go_upto_region 1 with fail
 generalize w.alloc (.cells ndZ 63) = wz at hz hu hws ⊢
 go_upto_region 6 with (go_at_call 34; (with_reducible refine (cG _).mono ?_); rintro e w1 ⟨rfl, hb1⟩; have hf := heap_new w1 (.cells #[.int .i64 k, .string B] 50); replace hb1 := hb1.alloc (.cells #[.int .i64 k, .string B] 50); replace hu := hu.call hb1; replace hz := (hb1.block (row5 hz).2.2.2.2.2).trans hz; clear hb1; obtain ⟨x0, x1, hxs⟩ := row2 hf)
 have hzl := (row5 hz).2.2.2.2.2
 have hx := heap_new (w1.alloc (.cells #[.int .i64 k, .string B] 50)) (.cells #[.int .i64 k0, .slice none 0 0, .slice none 0 0, .slice none 0 0, .slice none 0 0] 63)
 replace hz := heap_past (.cells #[.int .i64 k0, .slice none 0 0, .slice none 0 0, .slice none 0 0, .slice none 0 0] 63) hz
 replace hu := hu.alloc (.cells #[.int .i64 k0, .slice none 0 0, .slice none 0 0, .slice none 0 0, .slice none 0 0] 63)
 have hwl : ((w1.alloc (.cells #[.int .i64 k, .string B] 50)).alloc (.cells #[.int .i64 k0, .slice none 0 0, .slice none 0 0, .slice none 0 0, .slice none 0 0] 63)).heap.size = w1.heap.size + 1 + 1 := by simp
 simp only [World.size_alloc] at hx hzl
 generalize (w1.alloc (.cells #[.int .i64 k, .string B] 50)).alloc (.cells #[.int .i64 k0, .slice none 0 0, .slice none 0 0, .slice none 0 0, .slice none 0 0] 63) = wT at hx hz hu hwl ⊢
 generalize w1.heap.size + 1 = g at hx hwl hzl ⊢
 by_cases h2 : k0 = 2
 ·subst h2
  have HB : Hid (∀ kd' E' K' S' T', IsPg s.data.toList kd' E' K' S' T' → kd' = 2 ∧ E' = [] ∧ Inn K' S' T' ∧ kRow K' T' S' K'.length = B.data.toList) := show ∀ _, _ from fun kd' E' K' S' T' h => by
   obtain ⟨g1, g2, g3⟩ := HP.out kd' E' K' S' T' h
   obtain rfl : kd' = 2 := by omega
   obtain ⟨rfl, hI⟩ := inn_of g1
   rw [pgBody_inner] at g3
   exact ⟨rfl, rfl, hI, g3⟩
  have hD0 : Hid (DI wT wT (g + 1) g 2 (.slice none 0 0) (.slice none 0 0) (.slice none 0 0) (.slice none 0 0) (.slice none 0 0) (.slice none 0 0) (.slice none 0 0) [] [] []) :=
   ⟨rfl, rfl, rfl, by omega, fun _ _ _ => rfl, by omega, hx, OwnI.nil _ _, OwnS.nil _ _, OwnI.nil _ _, Away.nil _, Away.nil _, Away.nil _⟩
  obtain ⟨x0, x1, x2, x3, x4, hxs⟩ := row5 hx
  clear HP cG hf hk0 hk1 hk2
  go_upto_region 10 with fail
  go_loopw [8, 9] (fun r i wr => ∃ (K T : List Int) (S : List Sp) (R : ByteArray) (bK bS bT : Value), r = .string R ∧ i = .int .i64 K.length ∧ Hid (DI wT wr (g + 1) g 2 (.slice none 0 0) bK bS bT bK bS bT K S T) ∧ Hid (RdI B.data.toList K T S R.data.toList ∧ 6 * K.length + R.size ≤ 3000 ∧ T.length = K.length ∧ S.length ≤ K.length ∧ ∀ x ∈ S, -9223372036854775808 ≤ x.m)) (fun r _ _ => match r with | .string R => R.size | _ => 0)
  case atStart => exact ⟨[], [], [], B, _, _, _, rfl, rfl, hD0, Lib.hid ⟨RdI.start _, by simpa using hBs, rfl, Nat.le_refl _, by simp⟩⟩
  case round =>
   obtain ⟨K, T, S, R, bK, bS, bT, rfl, rfl, hD, hR⟩ := hrel
   clear hD0 x0 x1 x2 x3 x4 hxs
   have hcalm := hD.out.low_calm hu (by omega)
   have hz1 := (hD.out.low w.heap.size (by omega) (by omega)).trans hz
   have hx1 := hD.out.box
   obtain ⟨x0, x1, x2, x3, x4, hxs⟩ := row5 hx1
   have hDg := hD.out.size
   have hRb := hR.out.2.1
   obtain ⟨A2, c2, hbK, -⟩ := OwnI.lies hD.out.k
   subst hbK
   by_cases hS : R.size < 6 ∨ 9 ≤ K.length
   ·obtain ⟨r1, r2, r3, r4, r5⟩ := hR.out
    obtain ⟨A3, c3, hbS, -⟩ := OwnS.lies hD.out.s r5
    obtain ⟨A4, c4, hbT, -⟩ := OwnI.lies hD.out.t
    subst hbS
    subst hbT
    have hOT : Hid (NdOwn (g + 1) wr none A2 A3 A4 0 c2 c3 c4 [] K S T) := ⟨OwnR.nil _ _, hD.out.k, hD.out.s, hD.out.t, by simp, r5, by simp, by omega, by omega, by omega⟩
    have HNT : Hid (∀ kd' E' K' S' T', IsPg s.data.toList kd' E' K' S' T' → (2 : Int) = kd' ∧ [] = E' ∧ K = K' ∧ S = S' ∧ T = T') := show ∀ _, _ from fun kd' E' K' S' T' h => by
     obtain ⟨g1, g2, g3, g4⟩ := HB.out kd' E' K' S' T' h
     obtain ⟨e1, e2, e3⟩ := r1.stop (by rw [bytes_len]; exact hS) g3 g4
     exact ⟨g1.symm, g2.symm, e1, e2, e3⟩
    have hcapT : ([] : List El).length ≤ 0 := Nat.le_refl _
    have hxT := hx1
    have hzT := hz1
    have huT := hcalm
    have hkn : ¬ R.size < 6 → (9 : Int) ≤ (K.length : Int) := fun h => by omega
    clear hD hR hx1 hz1 hcalm r1 r2 r3 r4 r5 hS hRb HB hz hu hx
    by_cases h6 : R.size < 6
    ·have hs6 : (R.size : Int) < 6 := by omega
     clear hkn h6
     go_upto_region 19 with fail
     clear hs6 x0 x1 x2 x3 x4 hxs
     have hvT := Calm.refl wr
     obtain ⟨x0, x1, x2, x3, x4, hxs⟩ := row5 hxT
     have hNo : Hid (ndErr 2 [] K S T ≠ 0 ∨ pgEnc 2 [] K S T ≠ s.data.toList → ∀ kd E K S T, ¬ IsPg s.data.toList kd E K S T) := show _ → _ from fun h kd' E' K' S' T' hP => by
      obtain ⟨rfl, rfl, rfl, rfl, rfl⟩ := HNT.out kd' E' K' S' T' hP
      exact h.elim (fun h => h hP.1) (fun h => h hP.2)
     have cN := fun u (hu : Calm wr u) => refNode_any 2 none A2 A3 A4 0 c2 c3 c4 [] K S T u (hOT.out.at_.calm hu) hcapT (by have := hOT.out.ne; omega) (by have := hOT.out.nk; omega) (by have := hOT.out.ns; omega) (by have := hOT.out.nt; omega)
     (try simp only [List.length_nil] at cN)
     by_cases hn : ndErr 2 [] K S T = 0
     rotate_left
     ·have HX := Lib.hid (hNo.out (Or.inl hn))
      have b1 : (ndErr 2 [] K S T != 0) = true := by simpa using hn
      generalize ndErr 2 [] K S T = R9 at cN b1
      clear hn hNo
      go_wp2_with (go_at_call 36; (with_reducible refine (cN _ hvT).mono ?_); rintro e w3 ⟨rfl, hb3⟩; replace huT := huT.call hb3; replace hxT := (hb3.block (row5 hxT).2.2.2.2.2).trans hxT; replace hzT := (hb3.block (row5 hzT).2.2.2.2.2).trans hzT; replace hvT := hvT.call hb3; clear hb3; obtain ⟨z0, z1, z2, z3, z4, hzs⟩ := row5 hzT; obtain ⟨f0, f1, f2, f3, f4⟩ := free5 hzT; obtain ⟨x0, x1, x2, x3, x4, hxs⟩ := row5 hxT)
      exact end_nd rfl rfl _ _ w.heap.size _ _ _ (0, 0) rfl rfl rfl (set5 hzT _ _ _ _ _) rfl ⟨huT.five (g := w.heap.size) (by omega) _ _ _ _ _, Or.inl ⟨by rw [H3.out]; rfl, HX.out⟩⟩
     have cP := fun u (hu : Calm wr u) => refPage_any 2 none A2 A3 A4 0 c2 c3 c4 [] K S T u (hOT.out.at_.calm hu) hn
     (try simp only [List.length_nil] at cP)
     rw [hn] at cN
     by_cases hw : pgEnc 2 [] K S T = s.data.toList
     rotate_left
     ·have HX := Lib.hid (hNo.out (Or.inr hw))
      have hne : ¬ (⟨(pgEnc 2 [] K S T).toArray⟩ : ByteArray) = s := fun h => hw (by rw [← h, bytes_list])
      generalize (⟨(pgEnc 2 [] K S T).toArray⟩ : ByteArray) = W at cP hne
      have hs1 : (W.toList == s.toList) = false := str_ne hne
      clear hn hw hne hNo
      go_wp2_with (first
       |(go_at_call 36; (with_reducible refine (cN _ hvT).mono ?_); rintro e w3 ⟨rfl, hb3⟩; replace huT := huT.call hb3; replace hxT := (hb3.block (row5 hxT).2.2.2.2.2).trans hxT; replace hzT := (hb3.block (row5 hzT).2.2.2.2.2).trans hzT; replace hvT := hvT.call hb3; clear hb3; obtain ⟨z0, z1, z2, z3, z4, hzs⟩ := row5 hzT; obtain ⟨f0, f1, f2, f3, f4⟩ := free5 hzT; obtain ⟨x0, x1, x2, x3, x4, hxs⟩ := row5 hxT)
       |(go_at_call 37; (with_reducible refine (cP _ hvT).mono ?_); rintro e w4 ⟨rfl, hb3⟩; replace huT := huT.call hb3; replace hxT := (hb3.block (row5 hxT).2.2.2.2.2).trans hxT; replace hzT := (hb3.block (row5 hzT).2.2.2.2.2).trans hzT; replace hvT := hvT.call hb3; clear hb3; obtain ⟨z0, z1, z2, z3, z4, hzs⟩ := row5 hzT; obtain ⟨f0, f1, f2, f3, f4⟩ := free5 hzT; obtain ⟨x0, x1, x2, x3, x4, hxs⟩ := row5 hxT))
      exact end_nd rfl rfl _ _ w.heap.size _ _ _ (0, 0) rfl rfl rfl (set5 hzT _ _ _ _ _) rfl ⟨huT.five (g := w.heap.size) (by omega) _ _ _ _ _, Or.inl ⟨by rw [H3.out]; rfl, HX.out⟩⟩
     have HG : Hid (IsPg s.data.toList 2 [] K S T) := ⟨hn, hw⟩
     rw [show (⟨(pgEnc 2 [] K S T).toArray⟩ : ByteArray) = s from bytes_ext (by rw [bytes_list, hw])] at cP
     clear hn hw hNo
     go_wp2_with (first
      |(go_at_call 36; (with_reducible refine (cN _ hvT).mono ?_); rintro e w3 ⟨rfl, hb3⟩; replace huT := huT.call hb3; replace hxT := (hb3.block (row5 hxT).2.2.2.2.2).trans hxT; replace hzT := (hb3.block (row5 hzT).2.2.2.2.2).trans hzT; replace hvT := hvT.call hb3; clear hb3; obtain ⟨z0, z1, z2, z3, z4, hzs⟩ := row5 hzT; obtain ⟨f0, f1, f2, f3, f4⟩ := free5 hzT; obtain ⟨x0, x1, x2, x3, x4, hxs⟩ := row5 hxT)
      |(go_at_call 37; (with_reducible refine (cP _ hvT).mono ?_); rintro e w4 ⟨rfl, hb3⟩; replace huT := huT.call hb3; replace hxT := (hb3.block (row5 hxT).2.2.2.2.2).trans hxT; replace hzT := (hb3.block (row5 hzT).2.2.2.2.2).trans hzT; replace hvT := hvT.call hb3; clear hb3; obtain ⟨z0, z1, z2, z3, z4, hzs⟩ := row5 hzT; obtain ⟨f0, f1, f2, f3, f4⟩ := free5 hzT; obtain ⟨x0, x1, x2, x3, x4, hxs⟩ := row5 hxT))
     have hO9 := hOT.out.calm hvT
     exact end_nd rfl rfl _ _ w.heap.size _ _ _ (0, 0) rfl rfl rfl (set5 hzT _ _ _ _ _) rfl ⟨huT.five (g := w.heap.size) (by omega) _ _ _ _ _, Or.inr ⟨2, none, A2, A3, A4, 0, c2, c3, c4, [], K, S, T, rfl, (hO9.five (by omega) _ _ _ _ _).mono (by omega), HG.out⟩⟩
    ·have hs6 : (6 : Int) ≤ (R.size : Int) := by omega
     have hs9 := hkn h6
     clear hkn h6
     go_upto_region 19 with fail
     clear hs6 hs9 x0 x1 x2 x3 x4 hxs
     have hvT := Calm.refl wr
     obtain ⟨x0, x1, x2, x3, x4, hxs⟩ := row5 hxT
     have hNo : Hid (ndErr 2 [] K S T ≠ 0 ∨ pgEnc 2 [] K S T ≠ s.data.toList → ∀ kd E K S T, ¬ IsPg s.data.toList kd E K S T) := show _ → _ from fun h kd' E' K' S' T' hP => by
      obtain ⟨rfl, rfl, rfl, rfl, rfl⟩ := HNT.out kd' E' K' S' T' hP
      exact h.elim (fun h => h hP.1) (fun h => h hP.2)
     have cN := fun u (hu : Calm wr u) => refNode_any 2 none A2 A3 A4 0 c2 c3 c4 [] K S T u (hOT.out.at_.calm hu) hcapT (by have := hOT.out.ne; omega) (by have := hOT.out.nk; omega) (by have := hOT.out.ns; omega) (by have := hOT.out.nt; omega)
     (try simp only [List.length_nil] at cN)
     by_cases hn : ndErr 2 [] K S T = 0
     rotate_left
     ·have HX := Lib.hid (hNo.out (Or.inl hn))
      have b1 : (ndErr 2 [] K S T != 0) = true := by simpa using hn
      generalize ndErr 2 [] K S T = R9 at cN b1
      clear hn hNo
      go_wp2_with (go_at_call 36; (with_reducible refine (cN _ hvT).mono ?_); rintro e w3 ⟨rfl, hb3⟩; replace huT := huT.call hb3; replace hxT := (hb3.block (row5 hxT).2.2.2.2.2).trans hxT; replace hzT := (hb3.block (row5 hzT).2.2.2.2.2).trans hzT; replace hvT := hvT.call hb3; clear hb3; obtain ⟨z0, z1, z2, z3, z4, hzs⟩ := row5 hzT; obtain ⟨f0, f1, f2, f3, f4⟩ := free5 hzT; obtain ⟨x0, x1, x2, x3, x4, hxs⟩ := row5 hxT)
      exact end_nd rfl rfl _ _ w.heap.size _ _ _ (0, 0) rfl rfl rfl (set5 hzT _ _ _ _ _) rfl ⟨huT.five (g := w.heap.size) (by omega) _ _ _ _ _, Or.inl ⟨by rw [H3.out]; rfl, HX.out⟩⟩
     have cP := fun u (hu : Calm wr u) => refPage_any 2 none A2 A3 A4 0 c2 c3 c4 [] K S T u (hOT.out.at_.calm hu) hn
     (try simp only [List.length_nil] at cP)
     rw [hn] at cN
     by_cases hw : pgEnc 2 [] K S T = s.data.toList
     rotate_left
     ·have HX := Lib.hid (hNo.out (Or.inr hw))
      have hne : ¬ (⟨(pgEnc 2 [] K S T).toArray⟩ : ByteArray) = s := fun h => hw (by rw [← h, bytes_list])
      generalize (⟨(pgEnc 2 [] K S T).toArray⟩ : ByteArray) = W at cP hne
      have hs1 : (W.toList == s.toList) = false := str_ne hne
      clear hn hw hne hNo
      go_wp2_with (first
       |(go_at_call 36; (with_reducible refine (cN _ hvT).mono ?_); rintro e w3 ⟨rfl, hb3⟩; replace huT := huT.call hb3; replace hxT := (hb3.block (row5 hxT).2.2.2.2.2).trans hxT; replace hzT := (hb3.block (row5 hzT).2.2.2.2.2).trans hzT; replace hvT := hvT.call hb3; clear hb3; obtain ⟨z0, z1, z2, z3, z4, hzs⟩ := row5 hzT; obtain ⟨f0, f1, f2, f3, f4⟩ := free5 hzT; obtain ⟨x0, x1, x2, x3, x4, hxs⟩ := row5 hxT)
       |(go_at_call 37; (with_reducible refine (cP _ hvT).mono ?_); rintro e w4 ⟨rfl, hb3⟩; replace huT := huT.call hb3; replace hxT := (hb3.block (row5 hxT).2.2.2.2.2).trans hxT; replace hzT := (hb3.block (row5 hzT).2.2.2.2.2).trans hzT; replace hvT := hvT.call hb3; clear hb3; obtain ⟨z0, z1, z2, z3, z4, hzs⟩ := row5 hzT; obtain ⟨f0, f1, f2, f3, f4⟩ := free5 hzT; obtain ⟨x0, x1, x2, x3, x4, hxs⟩ := row5 hxT))
      exact end_nd rfl rfl _ _ w.heap.size _ _ _ (0, 0) rfl rfl rfl (set5 hzT _ _ _ _ _) rfl ⟨huT.five (g := w.heap.size) (by omega) _ _ _ _ _, Or.inl ⟨by rw [H3.out]; rfl, HX.out⟩⟩
     have HG : Hid (IsPg s.data.toList 2 [] K S T) := ⟨hn, hw⟩
     rw [show (⟨(pgEnc 2 [] K S T).toArray⟩ : ByteArray) = s from bytes_ext (by rw [bytes_list, hw])] at cP
     clear hn hw hNo
     go_wp2_with (first
      |(go_at_call 36; (with_reducible refine (cN _ hvT).mono ?_); rintro e w3 ⟨rfl, hb3⟩; replace huT := huT.call hb3; replace hxT := (hb3.block (row5 hxT).2.2.2.2.2).trans hxT; replace hzT := (hb3.block (row5 hzT).2.2.2.2.2).trans hzT; replace hvT := hvT.call hb3; clear hb3; obtain ⟨z0, z1, z2, z3, z4, hzs⟩ := row5 hzT; obtain ⟨f0, f1, f2, f3, f4⟩ := free5 hzT; obtain ⟨x0, x1, x2, x3, x4, hxs⟩ := row5 hxT)
      |(go_at_call 37; (with_reducible refine (cP _ hvT).mono ?_); rintro e w4 ⟨rfl, hb3⟩; replace huT := huT.call hb3; replace hxT := (hb3.block (row5 hxT).2.2.2.2.2).trans hxT; replace hzT := (hb3.block (row5 hzT).2.2.2.2.2).trans hzT; replace hvT := hvT.call hb3; clear hb3; obtain ⟨z0, z1, z2, z3, z4, hzs⟩ := row5 hzT; obtain ⟨f0, f1, f2, f3, f4⟩ := free5 hzT; obtain ⟨x0, x1, x2, x3, x4, hxs⟩ := row5 hxT))
     have hO9 := hOT.out.calm hvT
     exact end_nd rfl rfl _ _ w.heap.size _ _ _ (0, 0) rfl rfl rfl (set5 hzT _ _ _ _ _) rfl ⟨huT.five (g := w.heap.size) (by omega) _ _ _ _ _, Or.inr ⟨2, none, A2, A3, A4, 0, c2, c3, c4, [], K, S, T, rfl, (hO9.five (by omega) _ _ _ _ _).mono (by omega), HG.out⟩⟩
   have hs6 : (6 : Int) ≤ (R.size : Int) := by omega
   have hk9 : (K.length : Int) < 9 := by omega
   obtain ⟨XX, hX⟩ : ∃ X, num (R.data.toList.take 2) = X := ⟨_, rfl⟩
   obtain ⟨ZZ, hZ⟩ : ∃ Z, num ((R.data.toList.drop 2).take 4) = Z := ⟨_, rfl⟩
   have cX : ∀ u, Calls Try.prog 47 #[.string (R.extract 0 2)] u fun e w' => e = .returned (.int .i64 (XX : Int)) ∧ Calm u w' := fun u =>
    (refBig_any (R.extract 0 2) u (by rw [ByteArray.size_extract]; omega)).mono fun e w' ⟨h1, h2⟩ => ⟨by rw [h1, part_extract, ← hX]; rfl, h2 ▸ Calm.refl _⟩
   have cZ : ∀ u, Calls Try.prog 47 #[.string (R.extract 2 6)] u fun e w' => e = .returned (.int .i64 (ZZ : Int)) ∧ Calm u w' := fun u =>
    (refBig_any (R.extract 2 6) u (by rw [ByteArray.size_extract]; omega)).mono fun e w' ⟨h1, h2⟩ => ⟨by rw [h1, part_extract, ← hZ]; rfl, h2 ▸ Calm.refl _⟩
   have hRs2 : (2 : Int) ≤ (R.size : Int) := by omega
   have hRs2n : 2 ≤ R.size := by omega
   have hRs6n : 6 ≤ R.size := by omega
   have lK : K.length ≤ 1000000 := by omega
   have lT : T.length ≤ 1000000 := by have := hR.out.2.2.1; omega
   obtain ⟨K1, HK1⟩ : ∃ K1, Hid (K ++ [(XX : Int)] = K1) := ⟨_, rfl⟩
   obtain ⟨T1, HT1⟩ : ∃ T1, Hid (T ++ [(ZZ : Int)] = T1) := ⟨_, rfl⟩
   have HX := Lib.hid hX
   have HZ := Lib.hid hZ
   clear hX hZ hS
   go_upto_region 12 with fail
   refine wp_region_stages [.val (.pointer (some ⟨g, 2, none⟩)), .val (.slice A2 K.length c2) [6], .val (.string R), .val (.string (R.extract 0 2)), .val (.int .i64 (XX : Int)), .late, .late [5], .val (.pointer (some ⟨g, 4, none⟩)), .val bT [13], .val (.string R), .val (.string (R.extract 2 6)), .late [6], .late [11], .late [12], .val (.pointer (some ⟨g, 2, none⟩)), .late [13], .val (.pointer (some ⟨g, 4, none⟩)), .late [15]] [5, 6, 11, 12, 13, 15, 17]
    (ChainS 7 (UA wT (g + 1) g (.slice A2 K.length c2) bS bT K K1 T T1 S (XX : Int) (ZZ : Int))) (by kernel_rfl) (by kernel_rfl) (by kernel_rfl) (ChainS.stay UA.calm) (fun Y => ChainS.start (late := [5, 6, 11, 12, 13, 15, 17]) (DI.calm hD.out ((Calm.refl _).drew))) (fun Y => ?_)
   clear x0 x1 x2 x3 x4 hxs
   refine planS_val (by kernel_rfl) (fun L u hb hS => ?_) ?_
   ·go_simp
   simp only [Act.put, List.setIfInBounds_toArray, List.set_cons_zero, List.set_cons_succ, Nat.reduceAdd]
   refine planS_val (by kernel_rfl) (fun L u hb hS => ?_) ?_
   ·obtain ⟨m, hm, hA⟩ := ChainS.upto (late := [5, 6, 11, 12, 13, 15, 17]) (m := 1) hS rfl (hb 6 (by simp))
    obtain ⟨x0, x1, x2, x3, x4, hxs⟩ := row5 (hA.box (by omega))
    clear hS hA hb
    go_simp
   simp only [Act.put, List.setIfInBounds_toArray, List.set_cons_zero, List.set_cons_succ, Nat.reduceAdd]
   iterate 2
    refine planS_val (by kernel_rfl) (fun L u hb hS => ?_) ?_
    ·go_simp
    simp only [Act.put, List.setIfInBounds_toArray, List.set_cons_zero, List.set_cons_succ, Nat.reduceAdd]
   refine planS_val (by kernel_rfl) (fun L u hb hS => ?_) ?_
   ·go_simp
    all_goals (go_at_call 47; exact cX _)
   simp only [Act.put, List.setIfInBounds_toArray, List.set_cons_zero, List.set_cons_succ, Nat.reduceAdd]
   refine planS_late (fun L u hi hb hS => ?_) ?_
   ·obtain ⟨hA, hn⟩ := ChainS.step (late := [5, 6, 11, 12, 13, 15, 17]) (m := 0) hS rfl hi (fun j h => absurd h (Nat.lt_irrefl _)) (by decide)
    clear hS hb hi
    go_wp2_with fail
    exact hn _ _ ⟨DI.calm hA ((Calm.refl _).alloc _), _, rfl, heap_new _ _⟩
   simp only [Act.put, List.setIfInBounds_toArray, List.set_cons_zero, List.set_cons_succ, Nat.reduceAdd]
   refine planS_late (fun L u hi hb hS => ?_) ?_
   ·obtain ⟨hA, hn⟩ := ChainS.step (late := [5, 6, 11, 12, 13, 15, 17]) (m := 1) hS rfl hi (fun j _ h => by cases h; exact hb 5 (by simp)) (by decide)
    clear hS hb hi
    obtain ⟨hD1, gl, hy, hg⟩ := hA
    rw [hy]
    refine wpList_append_iAt rfl _ _ rfl (g + 1) _ _ rfl hD1.k _ _ _ _ rfl hg lK hD1.size ?_
    intro v9 w9 ho9 hg9 hat9
    have h9 := hD1.appK ho9 hg9 hat9
    rw [HK1.out] at h9
    exact ⟨rfl, v9, rfl, hn v9 w9 h9⟩
   simp only [Act.put, List.setIfInBounds_toArray, List.set_cons_zero, List.set_cons_succ, Nat.reduceAdd]
   refine planS_val (by kernel_rfl) (fun L u hb hS => ?_) ?_
   ·go_simp
   simp only [Act.put, List.setIfInBounds_toArray, List.set_cons_zero, List.set_cons_succ, Nat.reduceAdd]
   refine planS_val (by kernel_rfl) (fun L u hb hS => ?_) ?_
   ·obtain ⟨m, hm, hA⟩ := ChainS.upto (late := [5, 6, 11, 12, 13, 15, 17]) (m := 4) hS rfl (hb 13 (by simp))
    obtain ⟨x0, x1, x2, x3, x4, hxs⟩ := row5 (hA.box (by omega))
    clear hS hA hb
    go_simp
   simp only [Act.put, List.setIfInBounds_toArray, List.set_cons_zero, List.set_cons_succ, Nat.reduceAdd]
   refine planS_val (by kernel_rfl) (fun L u hb hS => ?_) ?_
   ·go_simp
   simp only [Act.put, List.setIfInBounds_toArray, List.set_cons_zero, List.set_cons_succ, Nat.reduceAdd]
   refine planS_val (by kernel_rfl) (fun L u hb hS => ?_) ?_
   ·go_simp
   simp only [Act.put, List.setIfInBounds_toArray, List.set_cons_zero, List.set_cons_succ, Nat.reduceAdd]
   refine planS_late (fun L u hi hb hS => ?_) ?_
   ·obtain ⟨hA, hn⟩ := ChainS.step (late := [5, 6, 11, 12, 13, 15, 17]) (m := 2) hS rfl hi (fun j _ h => by cases h; exact hb 6 (by simp)) (by decide)
    clear hS hb hi
    have hA2 := Lib.hid hA
    clear hA
    go_wp2_with (go_at_call 47; (with_reducible refine (cZ _).mono ?_); rintro e w9 ⟨rfl, hb9⟩)
    exact hn _ _ ⟨DI.calm hA2.out hb9, rfl⟩
   simp only [Act.put, List.setIfInBounds_toArray, List.set_cons_zero, List.set_cons_succ, Nat.reduceAdd]
   refine planS_late (fun L u hi hb hS => ?_) ?_
   ·obtain ⟨hA, hn⟩ := ChainS.step (late := [5, 6, 11, 12, 13, 15, 17]) (m := 3) hS rfl hi (fun j _ h => by cases h; exact hb 11 (by simp)) (by decide)
    clear hS hb hi
    obtain ⟨hD1, hy⟩ := hA
    rw [hy]
    have hA2 := Lib.hid hD1
    clear hD1 hy
    go_wp2_with fail
    exact hn _ _ ⟨DI.calm hA2.out ((Calm.refl _).alloc _), _, rfl, heap_new _ _⟩
   simp only [Act.put, List.setIfInBounds_toArray, List.set_cons_zero, List.set_cons_succ, Nat.reduceAdd]
   refine planS_late (fun L u hi hb hS => ?_) ?_
   ·obtain ⟨hA, hn⟩ := ChainS.step (late := [5, 6, 11, 12, 13, 15, 17]) (m := 4) hS rfl hi (fun j _ h => by cases h; exact hb 12 (by simp)) (by decide)
    clear hS hb hi
    obtain ⟨hD1, gl, hy, hg⟩ := hA
    rw [hy]
    refine wpList_append_iAt rfl _ _ rfl (g + 1) _ _ rfl hD1.t _ _ _ _ rfl hg lT hD1.size ?_
    intro v9 w9 ho9 hg9 hat9
    have h9 := hD1.appT ho9 hg9 hat9
    rw [HT1.out] at h9
    exact ⟨rfl, v9, rfl, hn v9 w9 h9⟩
   simp only [Act.put, List.setIfInBounds_toArray, List.set_cons_zero, List.set_cons_succ, Nat.reduceAdd]
   refine planS_val (by kernel_rfl) (fun L u hb hS => ?_) ?_
   ·go_simp
   simp only [Act.put, List.setIfInBounds_toArray, List.set_cons_zero, List.set_cons_succ, Nat.reduceAdd]
   refine planS_late (fun L u hi hb hS => ?_) ?_
   ·obtain ⟨hA, hn⟩ := ChainS.step (late := [5, 6, 11, 12, 13, 15, 17]) (m := 5) hS rfl hi (fun j _ h => by cases h; exact hb 13 (by simp)) (by decide)
    clear hS hb hi
    have hD1 : DI _ _ _ _ _ _ _ _ _ _ _ _ _ _ _ := hA
    obtain ⟨A9, c9, hy, -⟩ := OwnI.lies hD1.k
    have h9 := hD1.set 2 (.slice A9 K1.length c9) rfl
    obtain ⟨x0, x1, x2, x3, x4, hxs⟩ := row5 hD1.box
    obtain ⟨f0, f1, f2, f3, f4⟩ := free5 hD1.box
    have hn9 := hn undef _ (by rw [← hy] at h9; exact h9)
    rw [hy]
    rw [hy] at hn9
    clear hA hn h9 hD1 hy
    go_wp2_with fail
    exact ⟨undef, hn9⟩
   simp only [Act.put, Nat.reduceAdd]
   refine planS_val (by kernel_rfl) (fun L u hb hS => ?_) ?_
   ·go_simp
   simp only [Act.put, List.setIfInBounds_toArray, List.set_cons_zero, List.set_cons_succ, Nat.reduceAdd]
   refine planS_late (fun L u hi hb hS => ?_) ?_
   ·obtain ⟨hA, hn⟩ := ChainS.step (late := [5, 6, 11, 12, 13, 15, 17]) (m := 6) hS rfl hi (fun j _ h => by cases h; exact hb 15 (by simp)) (by decide)
    clear hS hb hi
    have hD1 : DI _ _ _ _ _ _ _ _ _ _ _ _ _ _ _ := hA
    obtain ⟨A9, c9, hy, -⟩ := OwnI.lies hD1.t
    have h9 := hD1.set 4 (.slice A9 T1.length c9) rfl
    obtain ⟨x0, x1, x2, x3, x4, hxs⟩ := row5 hD1.box
    obtain ⟨f0, f1, f2, f3, f4⟩ := free5 hD1.box
    have hn9 := hn undef _ (by rw [← hy] at h9; exact h9)
    rw [hy]
    rw [hy] at hn9
    clear hA hn h9 hD1 hy
    go_wp2_with fail
    exact ⟨undef, hn9⟩
   simp only [Act.put, List.setIfInBounds_toArray, List.set_cons_zero, List.set_cons_succ, Nat.reduceAdd]
   refine planS_end ?_
   intro w' hS
   have hD7 : Hid (DI wT w' (g + 1) g 2 (.slice none 0 0) (Y 6) bS (Y 13) (Y 6) bS (Y 13) K1 S T1) := ChainS.done (late := [5, 6, 11, 12, 13, 15, 17]) hS
   clear hS
   generalize Y 6 = v6 at hD7 ⊢
   generalize Y 13 = v13 at hD7 ⊢
   generalize Y 5 = v5
   generalize Y 11 = v11
   generalize Y 12 = v12
   obtain ⟨r1, r2, r3, r4, r5⟩ := hR.out
   have hsR : (R.extract 6 R.size).size = R.size - 6 := by rw [ByteArray.size_extract]; omega
   have hR6 : (R.extract 6 R.size).data.toList = R.data.toList.drop 6 := by rw [part_extract, part, List.take_of_length_le (by rw [List.length_drop, bytes_len]; omega)]
   have hRn : R.data.toList ≠ [] := by intro h2; have := congrArg List.length h2; rw [bytes_len, List.length_nil] at this; omega
   have hK1l : K1.length = K.length + 1 := by rw [← HK1.out]; simp
   have hT1l : T1.length = K1.length := by rw [← HT1.out, List.length_append, r3, hK1l]; rfl
   have R5 : Hid (∀ x ∈ S, -9223372036854775808 ≤ x.m) := r5
   have R1 := Lib.hid r1
   have HK1l := Lib.hid hK1l
   have HT1l := Lib.hid hT1l
   have hRs6i : (6 : Int) ≤ (R.size : Int) := by omega
   have hS1 : S.length ≤ 1000000 := by omega
   by_cases hK0 : K.length = 0
   ·have hKn : K = [] := List.eq_nil_of_length_eq_zero hK0
    have b1 : ((K.length : Int) == 0) = true := by rw [beq_iff_eq]; omega
    have hN : Hid (RdI B.data.toList K1 T1 S (R.extract 6 R.size).data.toList ∧ 6 * K1.length + (R.extract 6 R.size).size ≤ 3000 ∧ T1.length = K1.length ∧ S.length ≤ K1.length ∧ ∀ x ∈ S, -9223372036854775808 ≤ x.m) := by
     refine ⟨?_, by omega, hT1l, by omega, r5⟩
     have h1 := r1
     rw [hKn] at h1
     have := h1.first hRn
     rw [HX.out, HZ.out, HT1.out] at this
     rw [hR6, ← HK1.out, hKn]
     exact this
    have hms : Hid ((R.extract 6 R.size).size < R.size) := by show _ < _; omega
    clear hK1l hT1l hKn hR6 r1 r2 r3 r4 r5 hD hR hRn hx1 hz1 hcalm hK0
    go_wp2_with fail
    go_roundw
    case rel => exact ⟨_, _, _, _, _, _, _, rfl, by rw [HK1l.out]; go_num, hD7, hN⟩
    case measure => exact hms.out
   have b1 : ((K.length : Int) == 0) = false := by rw [beq_eq_false_iff_ne]; omega
   have hKp : 0 < K.length := by omega
   by_cases hd : decErr (R.data.toList.drop 6) = 0
   rotate_left
   ·have HNT : Hid (∀ kd' E' K' S' T', IsPg s.data.toList kd' E' K' S' T' → (2 : Int) = kd' ∧ [] = E' ∧ K1 = K' ∧ S = S' ∧ T1 = T') := show ∀ _, _ from fun kd' E' K' S' T' h => by
     obtain ⟨g1, g2, g3, g4⟩ := HB.out kd' E' K' S' T' h
     exact absurd g4 (r1.bad hRn hKp hd g3)
    have cG := fun u => get_bad' (R.extract 6 R.size) _ (by rw [hR6]) hd u
    have b2 : (decErr (R.data.toList.drop 6) != 0) = true := by simpa using hd
    generalize decErr (R.data.toList.drop 6) = E9 at cG b2
    obtain ⟨A3, c3, hbS, -⟩ := OwnS.lies hD7.out.s r5
    obtain ⟨A4, c4, hbT, -⟩ := OwnI.lies hD7.out.t
    obtain ⟨A6, c6, hbK1, -⟩ := OwnI.lies hD7.out.k
    subst hbS
    subst hbT
    subst hbK1
    have hcapT : ([] : List El).length ≤ 0 := Nat.le_refl _
    have hOT : Hid (NdOwn (g + 1) w' none A6 A3 A4 0 c6 c3 c4 [] K1 S T1) := ⟨OwnR.nil _ _, hD7.out.k, hD7.out.s, hD7.out.t, by simp, r5, by simp, by omega, by omega, by omega⟩
    have hxT := hD7.out.box
    have hzT := (hD7.out.low w.heap.size (by omega) (by omega)).trans hz
    have huT := hD7.out.low_calm hu (by omega)
    clear hK1l hT1l hR6 r1 r2 r3 r4 r5 hD hR hRn hx1 hz1 hcalm hK0 hd hD7 HB
    go_upto_region 19 with (go_at_call 21; (with_reducible refine (cG _).mono ?_); rintro e w5 ⟨rfl, hb1⟩; replace hb1 := hb1.alloc (.cells #[.int .i64 0, .int .i64 0, .int .i64 0, .int .i64 0, .int .i64 0, .string { data := #[] }] 25); replace hxT := (hb1.block (row5 hxT).2.2.2.2.2).trans hxT; replace hzT := (hb1.block (row5 hzT).2.2.2.2.2).trans hzT; replace huT := huT.call hb1; replace hOT := Lib.hid (hOT.out.calm hb1); clear hb1)
    generalize w5.alloc (.cells #[.int .i64 0, .int .i64 0, .int .i64 0, .int .i64 0, .int .i64 0, .string { data := #[] }] 25) = wQ at hxT hzT huT hOT ⊢
    have hvT := Calm.refl wQ
    obtain ⟨x0, x1, x2, x3, x4, hxs⟩ := row5 hxT
    have hNo : Hid (ndErr 2 [] K1 S T1 ≠ 0 ∨ pgEnc 2 [] K1 S T1 ≠ s.data.toList → ∀ kd E K S T, ¬ IsPg s.data.toList kd E K S T) := show _ → _ from fun h kd' E' K' S' T' hP => by
     obtain ⟨rfl, rfl, rfl, rfl, rfl⟩ := HNT.out kd' E' K' S' T' hP
     exact h.elim (fun h => h hP.1) (fun h => h hP.2)
    have cN := fun u (hu : Calm wQ u) => refNode_any 2 none A6 A3 A4 0 c6 c3 c4 [] K1 S T1 u (hOT.out.at_.calm hu) hcapT (by have := hOT.out.ne; omega) (by have := hOT.out.nk; omega) (by have := hOT.out.ns; omega) (by have := hOT.out.nt; omega)
    (try simp only [List.length_nil] at cN)
    by_cases hn : ndErr 2 [] K1 S T1 = 0
    rotate_left
    ·have HX := Lib.hid (hNo.out (Or.inl hn))
     have b1 : (ndErr 2 [] K1 S T1 != 0) = true := by simpa using hn
     generalize ndErr 2 [] K1 S T1 = R9 at cN b1
     clear hn hNo
     go_wp2_with (go_at_call 36; (with_reducible refine (cN _ hvT).mono ?_); rintro e w3 ⟨rfl, hb3⟩; replace huT := huT.call hb3; replace hxT := (hb3.block (row5 hxT).2.2.2.2.2).trans hxT; replace hzT := (hb3.block (row5 hzT).2.2.2.2.2).trans hzT; replace hvT := hvT.call hb3; clear hb3; obtain ⟨z0, z1, z2, z3, z4, hzs⟩ := row5 hzT; obtain ⟨f0, f1, f2, f3, f4⟩ := free5 hzT; obtain ⟨x0, x1, x2, x3, x4, hxs⟩ := row5 hxT)
     exact end_nd rfl rfl _ _ w.heap.size _ _ _ (0, 0) rfl rfl rfl (set5 hzT _ _ _ _ _) rfl ⟨huT.five (g := w.heap.size) (by omega) _ _ _ _ _, Or.inl ⟨by rw [H3.out]; rfl, HX.out⟩⟩
    have cP := fun u (hu : Calm wQ u) => refPage_any 2 none A6 A3 A4 0 c6 c3 c4 [] K1 S T1 u (hOT.out.at_.calm hu) hn
    (try simp only [List.length_nil] at cP)
    rw [hn] at cN
    by_cases hw : pgEnc 2 [] K1 S T1 = s.data.toList
    rotate_left
    ·have HX := Lib.hid (hNo.out (Or.inr hw))
     have hne : ¬ (⟨(pgEnc 2 [] K1 S T1).toArray⟩ : ByteArray) = s := fun h => hw (by rw [← h, bytes_list])
     generalize (⟨(pgEnc 2 [] K1 S T1).toArray⟩ : ByteArray) = W at cP hne
     have hs1 : (W.toList == s.toList) = false := str_ne hne
     clear hn hw hne hNo
     go_wp2_with (first
      |(go_at_call 36; (with_reducible refine (cN _ hvT).mono ?_); rintro e w3 ⟨rfl, hb3⟩; replace huT := huT.call hb3; replace hxT := (hb3.block (row5 hxT).2.2.2.2.2).trans hxT; replace hzT := (hb3.block (row5 hzT).2.2.2.2.2).trans hzT; replace hvT := hvT.call hb3; clear hb3; obtain ⟨z0, z1, z2, z3, z4, hzs⟩ := row5 hzT; obtain ⟨f0, f1, f2, f3, f4⟩ := free5 hzT; obtain ⟨x0, x1, x2, x3, x4, hxs⟩ := row5 hxT)
      |(go_at_call 37; (with_reducible refine (cP _ hvT).mono ?_); rintro e w4 ⟨rfl, hb3⟩; replace huT := huT.call hb3; replace hxT := (hb3.block (row5 hxT).2.2.2.2.2).trans hxT; replace hzT := (hb3.block (row5 hzT).2.2.2.2.2).trans hzT; replace hvT := hvT.call hb3; clear hb3; obtain ⟨z0, z1, z2, z3, z4, hzs⟩ := row5 hzT; obtain ⟨f0, f1, f2, f3, f4⟩ := free5 hzT; obtain ⟨x0, x1, x2, x3, x4, hxs⟩ := row5 hxT))
     exact end_nd rfl rfl _ _ w.heap.size _ _ _ (0, 0) rfl rfl rfl (set5 hzT _ _ _ _ _) rfl ⟨huT.five (g := w.heap.size) (by omega) _ _ _ _ _, Or.inl ⟨by rw [H3.out]; rfl, HX.out⟩⟩
    have HG : Hid (IsPg s.data.toList 2 [] K1 S T1) := ⟨hn, hw⟩
    rw [show (⟨(pgEnc 2 [] K1 S T1).toArray⟩ : ByteArray) = s from bytes_ext (by rw [bytes_list, hw])] at cP
    clear hn hw hNo
    go_wp2_with (first
     |(go_at_call 36; (with_reducible refine (cN _ hvT).mono ?_); rintro e w3 ⟨rfl, hb3⟩; replace huT := huT.call hb3; replace hxT := (hb3.block (row5 hxT).2.2.2.2.2).trans hxT; replace hzT := (hb3.block (row5 hzT).2.2.2.2.2).trans hzT; replace hvT := hvT.call hb3; clear hb3; obtain ⟨z0, z1, z2, z3, z4, hzs⟩ := row5 hzT; obtain ⟨f0, f1, f2, f3, f4⟩ := free5 hzT; obtain ⟨x0, x1, x2, x3, x4, hxs⟩ := row5 hxT)
     |(go_at_call 37; (with_reducible refine (cP _ hvT).mono ?_); rintro e w4 ⟨rfl, hb3⟩; replace huT := huT.call hb3; replace hxT := (hb3.block (row5 hxT).2.2.2.2.2).trans hxT; replace hzT := (hb3.block (row5 hzT).2.2.2.2.2).trans hzT; replace hvT := hvT.call hb3; clear hb3; obtain ⟨z0, z1, z2, z3, z4, hzs⟩ := row5 hzT; obtain ⟨f0, f1, f2, f3, f4⟩ := free5 hzT; obtain ⟨x0, x1, x2, x3, x4, hxs⟩ := row5 hxT))
    have hO9 := hOT.out.calm hvT
    exact end_nd rfl rfl _ _ w.heap.size _ _ _ (0, 0) rfl rfl rfl (set5 hzT _ _ _ _ _) rfl ⟨huT.five (g := w.heap.size) (by omega) _ _ _ _ _, Or.inr ⟨2, none, A6, A3, A4, 0, c6, c3, c4, [], K1, S, T1, rfl, (hO9.five (by omega) _ _ _ _ _).mono (by omega), HG.out⟩⟩
   have hdz := decErr_zero hd
   rw [List.length_drop, bytes_len] at hdz
   have hN18 : 18 ≤ decLen (R.data.toList.drop 6) := by unfold decLen; omega
   have hnx := R1.out.next hRn hKp
   rw [HX.out, HZ.out, HK1.out, HT1.out] at hnx
   have cG := fun u => get_good' (R.extract 6 R.size) _ _ (by rw [hR6]; exact hd) (by rw [hR6]) (by rw [hR6]) u
   have hDr : ((R.extract 6 R.size).extract (decLen (R.data.toList.drop 6)) (R.extract 6 R.size).size).data.toList = (R.data.toList.drop 6).drop (decLen (R.data.toList.drop 6)) := by
    rw [part_extract, part, List.take_of_length_le (by rw [List.length_drop, bytes_len]; exact Nat.le_refl _), hR6]
   rw [← hDr] at hnx
   have hme := (err_zero hdz.2.2).2.2.2.2.2.2.1
   generalize decEl (R.data.toList.drop 6) = x at cG hnx hme
   generalize decLen (R.data.toList.drop 6) = N at cG hnx hdz hN18
   obtain ⟨p, o, f, m, gg, sv'⟩ := x
   simp only at cG hnx hme
   obtain ⟨S1, HS1⟩ : ∃ S1, Hid (S ++ [(⟨p, o, f, m⟩ : Sp)] = S1) := ⟨_, rfl⟩
   rw [HS1.out] at hnx
   have hN2 : (N : Int) ≤ ((R.extract 6 R.size).size : Int) := by omega
   have hN3 : N ≤ (R.extract 6 R.size).size := by omega
   have hN0 : (0 : Int) ≤ (N : Int) := by omega
   have hsz2 : ((R.extract 6 R.size).extract N (R.extract 6 R.size).size).size = (R.extract 6 R.size).size - N := by rw [ByteArray.size_extract]; omega
   have hN : Hid (RdI B.data.toList K1 T1 S1 ((R.extract 6 R.size).extract N (R.extract 6 R.size).size).data.toList ∧ 6 * K1.length + ((R.extract 6 R.size).extract N (R.extract 6 R.size).size).size ≤ 3000 ∧ T1.length = K1.length ∧ S1.length ≤ K1.length ∧ ∀ x ∈ S1, -9223372036854775808 ≤ x.m) := by
    refine ⟨hnx, by omega, hT1l, by rw [← HS1.out, List.length_append, List.length_singleton]; omega, fun y hy => ?_⟩
    rw [← HS1.out] at hy
    rcases List.mem_append.1 hy with hy | hy
    ·exact R5.out y hy
    ·rw [List.mem_singleton] at hy; subst hy; simp only; omega
   have hms : Hid (((R.extract 6 R.size).extract N (R.extract 6 R.size).size).size < R.size) := by show _ < _; omega
   clear cX cZ
   generalize hRR : R.extract 6 R.size = RR at *
   clear hnx hDr hK1l hT1l hK0 hd hR6 hsR hdz hN18 hme hKp hRn R5 R1 hD hR r1 r2 r3 r4 r5 hx1 hz1 hcalm
   go_upto_region 17 with (go_at_call 21; (with_reducible refine (cG _).mono ?_); rintro e w5 ⟨rfl, hb1⟩; have hD5 := Lib.hid (hD7.out.calm (hb1.alloc (.cells #[.int .i64 p, .int .i64 o, .int .i64 f, .int .i64 m, .int .i64 gg, .string sv'] 25))); have hy := heap_new w5 (.cells #[.int .i64 p, .int .i64 o, .int .i64 f, .int .i64 m, .int .i64 gg, .string sv'] 25); clear hb1)
   generalize w5.alloc (.cells #[.int .i64 p, .int .i64 o, .int .i64 f, .int .i64 m, .int .i64 gg, .string sv'] 25) = wC at hD5 hy ⊢
   generalize w5.heap.size = yb at hy ⊢
   obtain ⟨x0, x1, x2, x3, x4, hxs⟩ := row5 hD5.out.box
   obtain ⟨y0, y1, y2, y3, y4, y5, hys⟩ := row6 hy
   refine wp_region_plan_tail 5 [.val (.pointer (some ⟨g, 3, none⟩)), .val (bS), .val (.agg #[.int .i64 p, .int .i64 o, .int .i64 f, .int .i64 m, .int .i64 gg, .string sv']), .val (.agg #[.int .i64 p, .int .i64 o, .int .i64 f, .int .i64 m]), .new #[.int .i64 p, .int .i64 o, .int .i64 f, .int .i64 m] 45 (some 1)] (by kernel_rfl) (by kernel_rfl) (by kernel_rfl) (by kernel_rfl) ?_
   intro X
   simp only [List.take_succ_cons, List.take_zero, List.drop_succ_cons, List.drop_zero]
   iterate 4
    refine plan_val (by kernel_rfl) (fun u hu => ?_) ?_
    ·obtain ⟨hc, hf, hz⟩ := hu.of_drew.facts
     go_simp
     all_goals first
      |((go_at_call 59; exact refSpot_any _ _ _ _ _ _ _))
    simp only [Act.put, List.setIfInBounds_toArray, List.set_cons_zero, List.set_cons_succ, Nat.reduceAdd]
   refine plan_lit (by kernel_rfl) (fun u => ?_) ?_
   ·go_simp
   simp only [Act.put, List.setIfInBounds_toArray, List.set_cons_zero, List.set_cons_succ, Nat.reduceAdd]
   refine plan_end ?_
   intro w' hB
   have hk := hB.calm.of_drew
   have hr5 := hB.row 4 _ _ rfl
   clear hB
   have hD1 := Lib.hid (hD5.out.calm hk)
   clear y0 y1 y2 y3 y4 y5 hys hy
   go_upto_region 18 with (at_builtin; refine wpList_append_sAt rfl _ _ rfl (g + 1) _ _ rfl hD1.out.s _ _ ⟨p, o, f, m⟩ _ rfl hr5.2 hS1 hD1.out.size ?_; intro v7 w7 ho7 hg7 hat7; have hD2 := Lib.hid (hD1.out.appS ho7 hg7 hat7); rw [HS1.out] at ho7 hD2; obtain ⟨A7, c7, rfl, hl7⟩ := ho7.lies hN.out.2.2.2.2; obtain ⟨x0, x1, x2, x3, x4, hxs⟩ := row5 hD2.out.box; obtain ⟨f0, f1, f2, f3, f4⟩ := free5 hD2.out.box; clear ho7 hg7 hat7 hl7)
   have hD6 := Lib.hid (hD2.out.set 3 (.slice A7 S1.length c7) rfl)
   clear hD2 hD1 hr5 hk x0 x1 x2 x3 x4 f0 f1 f2 f3 f4 hxs hD5
   generalize w7.setCell ⟨g, 3, none⟩ (.slice A7 S1.length c7) = wD at hD6 ⊢
   go_wp2_with fail
   go_roundw
   case rel => exact ⟨_, _, _, _, _, _, _, rfl, by rw [HK1l.out]; go_num, hD6, hN⟩
   case measure => exact hms.out
 have HU : Hid (∀ kd' E K S T, IsPg s.data.toList kd' E K S T → ndErr kd' E K S T = 0 ∧ kd' = k0 ∧ pgBody E K S T = B.data.toList) := show ∀ _, _ from fun kd' E K S T h => by
  obtain ⟨g1, g2, g3⟩ := HP.out kd' E K S T h
  exact ⟨g1, by omega, g3⟩
 by_cases h1 : k0 = 1
 ·subst h1
  have hlen := all_length B.data.toList.length B.data.toList (Nat.le_refl _)
  rw [bytes_len] at hlen
  have cA := fun u => allBytes_any B.size B u (Nat.le_refl _) (by omega)
  have HL : Hid (∀ kd' E' K' S' T', IsPg s.data.toList kd' E' K' S' T' → kd' = 1 ∧ E' = allVal B.data.toList ∧ K' = [] ∧ S' = [] ∧ T' = []) := show ∀ _, _ from fun kd' E' K' S' T' h => by
   obtain ⟨g1, rfl, g3⟩ := HU.out kd' E' K' S' T' h
   obtain ⟨rfl, rfl, rfl, _, hg⟩ := leaf_of g1
   rw [pgBody_leaf] at g3
   have := all_encs E' hg
   rw [g3] at this
   exact ⟨rfl, by unfold allVal; rw [if_pos this.1, this.2], rfl, rfl, rfl⟩
  have hvl : (allVal B.data.toList).length ≤ 1000000 := by
   unfold allVal; split
   ·omega
   ·simp
  have hwf := allVal_wf B.data.toList
  generalize allVal B.data.toList = E at cA HL hvl hwf
  generalize allErr B.data.toList = N at cA
  obtain ⟨x0, x1, x2, x3, x4, hxs⟩ := row5 hx
  clear HP HU hlen hBs h2 cG hf hk0 hk1 hk2
  go_upto_region 8 with (go_at_call 23; (with_reducible refine (cA _).mono ?_); rintro e w2 ⟨v, rfl, hS, hb1⟩; obtain ⟨A1, c1, rfl, hcapT, _, _⟩ := hS.lies hwf; have HS := Lib.hid hS; replace hu := hu.call hb1; replace hx := (hb1.block (row5 hx).2.2.2.2.2).trans hx; replace hz := (hb1.block (row5 hz).2.2.2.2.2).trans hz; clear hb1 hS; obtain ⟨x0, x1, x2, x3, x4, hxs⟩ := row5 hx; obtain ⟨f0, f1, f2, f3, f4⟩ := free5 hx)
  have hxT := heap_setCell_same w2 g 1 _ _ (.slice A1 E.length c1) hx
  have hzT := (heap_setCell_other w2 ⟨g, 1, none⟩ w.heap.size (.slice A1 E.length c1) (by simp; omega)).trans hz
  have huT := hu.setCell (p := ⟨g, 1, none⟩) (by simp; omega) (.slice A1 E.length c1)
  have hOT : Hid (NdOwn (g + 1) (w2.setCell ⟨g, 1, none⟩ (.slice A1 E.length c1)) A1 none none none c1 0 0 0 E [] [] []) := ⟨rows_set (rows_mono HS.out (by omega)) (by omega) 1 _, OwnI.nil _ _, OwnS.nil _ _, OwnI.nil _ _, hwf, by simp, hvl, by simp, by simp, by simp⟩
  simp only [List.setIfInBounds_toArray, List.set_cons_zero, List.set_cons_succ] at hxT
  generalize w2.setCell ⟨g, 1, none⟩ (.slice A1 E.length c1) = wT at hxT hzT huT hOT ⊢
  clear hx hz hu HS x0 x1 x2 x3 x4 hxs f0 f1 f2 f3 f4 cA hwf hvl
  have HNT : Hid (∀ kd' E' K' S' T', IsPg s.data.toList kd' E' K' S' T' → (1 : Int) = kd' ∧ E = E' ∧ [] = K' ∧ [] = S' ∧ [] = T') := show ∀ _, _ from fun kd' E' K' S' T' h => by
   obtain ⟨g1, g2, g3, g4, g5⟩ := HL.out kd' E' K' S' T' h
   exact ⟨g1.symm, g2.symm, g3.symm, g4.symm, g5.symm⟩
  clear HL
  have hvT := Calm.refl wT
  obtain ⟨x0, x1, x2, x3, x4, hxs⟩ := row5 hxT
  have hNo : Hid (ndErr 1 E [] [] [] ≠ 0 ∨ pgEnc 1 E [] [] [] ≠ s.data.toList → ∀ kd E K S T, ¬ IsPg s.data.toList kd E K S T) := show _ → _ from fun h kd' E' K' S' T' hP => by
   obtain ⟨rfl, rfl, rfl, rfl, rfl⟩ := HNT.out kd' E' K' S' T' hP
   exact h.elim (fun h => h hP.1) (fun h => h hP.2)
  have cN := fun u (hu : Calm wT u) => refNode_any 1 A1 none none none c1 0 0 0 E [] [] [] u (hOT.out.at_.calm hu) hcapT (by have := hOT.out.ne; omega) (by have := hOT.out.nk; omega) (by have := hOT.out.ns; omega) (by have := hOT.out.nt; omega)
  (try simp only [List.length_nil] at cN)
  by_cases hn : ndErr 1 E [] [] [] = 0
  rotate_left
  ·have HX := Lib.hid (hNo.out (Or.inl hn))
   have b1 : (ndErr 1 E [] [] [] != 0) = true := by simpa using hn
   generalize ndErr 1 E [] [] [] = R9 at cN b1
   clear hn hNo
   go_wp2_with (go_at_call 36; (with_reducible refine (cN _ hvT).mono ?_); rintro e w3 ⟨rfl, hb3⟩; replace huT := huT.call hb3; replace hxT := (hb3.block (row5 hxT).2.2.2.2.2).trans hxT; replace hzT := (hb3.block (row5 hzT).2.2.2.2.2).trans hzT; replace hvT := hvT.call hb3; clear hb3; obtain ⟨z0, z1, z2, z3, z4, hzs⟩ := row5 hzT; obtain ⟨f0, f1, f2, f3, f4⟩ := free5 hzT; obtain ⟨x0, x1, x2, x3, x4, hxs⟩ := row5 hxT)
   exact end_nd rfl rfl _ _ w.heap.size _ _ _ (0, 0) rfl rfl rfl (set5 hzT _ _ _ _ _) rfl ⟨huT.five (g := w.heap.size) (by omega) _ _ _ _ _, Or.inl ⟨by rw [H3.out]; rfl, HX.out⟩⟩
  have cP := fun u (hu : Calm wT u) => refPage_any 1 A1 none none none c1 0 0 0 E [] [] [] u (hOT.out.at_.calm hu) hn
  (try simp only [List.length_nil] at cP)
  rw [hn] at cN
  by_cases hw : pgEnc 1 E [] [] [] = s.data.toList
  rotate_left
  ·have HX := Lib.hid (hNo.out (Or.inr hw))
   have hne : ¬ (⟨(pgEnc 1 E [] [] []).toArray⟩ : ByteArray) = s := fun h => hw (by rw [← h, bytes_list])
   generalize (⟨(pgEnc 1 E [] [] []).toArray⟩ : ByteArray) = W at cP hne
   have hs1 : (W.toList == s.toList) = false := str_ne hne
   clear hn hw hne hNo
   go_wp2_with (first
    |(go_at_call 36; (with_reducible refine (cN _ hvT).mono ?_); rintro e w3 ⟨rfl, hb3⟩; replace huT := huT.call hb3; replace hxT := (hb3.block (row5 hxT).2.2.2.2.2).trans hxT; replace hzT := (hb3.block (row5 hzT).2.2.2.2.2).trans hzT; replace hvT := hvT.call hb3; clear hb3; obtain ⟨z0, z1, z2, z3, z4, hzs⟩ := row5 hzT; obtain ⟨f0, f1, f2, f3, f4⟩ := free5 hzT; obtain ⟨x0, x1, x2, x3, x4, hxs⟩ := row5 hxT)
    |(go_at_call 37; (with_reducible refine (cP _ hvT).mono ?_); rintro e w4 ⟨rfl, hb3⟩; replace huT := huT.call hb3; replace hxT := (hb3.block (row5 hxT).2.2.2.2.2).trans hxT; replace hzT := (hb3.block (row5 hzT).2.2.2.2.2).trans hzT; replace hvT := hvT.call hb3; clear hb3; obtain ⟨z0, z1, z2, z3, z4, hzs⟩ := row5 hzT; obtain ⟨f0, f1, f2, f3, f4⟩ := free5 hzT; obtain ⟨x0, x1, x2, x3, x4, hxs⟩ := row5 hxT))
   exact end_nd rfl rfl _ _ w.heap.size _ _ _ (0, 0) rfl rfl rfl (set5 hzT _ _ _ _ _) rfl ⟨huT.five (g := w.heap.size) (by omega) _ _ _ _ _, Or.inl ⟨by rw [H3.out]; rfl, HX.out⟩⟩
  have HG : Hid (IsPg s.data.toList 1 E [] [] []) := ⟨hn, hw⟩
  rw [show (⟨(pgEnc 1 E [] [] []).toArray⟩ : ByteArray) = s from bytes_ext (by rw [bytes_list, hw])] at cP
  clear hn hw hNo
  go_wp2_with (first
   |(go_at_call 36; (with_reducible refine (cN _ hvT).mono ?_); rintro e w3 ⟨rfl, hb3⟩; replace huT := huT.call hb3; replace hxT := (hb3.block (row5 hxT).2.2.2.2.2).trans hxT; replace hzT := (hb3.block (row5 hzT).2.2.2.2.2).trans hzT; replace hvT := hvT.call hb3; clear hb3; obtain ⟨z0, z1, z2, z3, z4, hzs⟩ := row5 hzT; obtain ⟨f0, f1, f2, f3, f4⟩ := free5 hzT; obtain ⟨x0, x1, x2, x3, x4, hxs⟩ := row5 hxT)
   |(go_at_call 37; (with_reducible refine (cP _ hvT).mono ?_); rintro e w4 ⟨rfl, hb3⟩; replace huT := huT.call hb3; replace hxT := (hb3.block (row5 hxT).2.2.2.2.2).trans hxT; replace hzT := (hb3.block (row5 hzT).2.2.2.2.2).trans hzT; replace hvT := hvT.call hb3; clear hb3; obtain ⟨z0, z1, z2, z3, z4, hzs⟩ := row5 hzT; obtain ⟨f0, f1, f2, f3, f4⟩ := free5 hzT; obtain ⟨x0, x1, x2, x3, x4, hxs⟩ := row5 hxT))
  have hO9 := hOT.out.calm hvT
  exact end_nd rfl rfl _ _ w.heap.size _ _ _ (0, 0) rfl rfl rfl (set5 hzT _ _ _ _ _) rfl ⟨huT.five (g := w.heap.size) (by omega) _ _ _ _ _, Or.inr ⟨1, A1, none, none, none, c1, 0, 0, 0, E, [], [], [], rfl, (hO9.five (by omega) _ _ _ _ _).mono (by omega), HG.out⟩⟩
 have HNT : Hid (∀ kd' E' K' S' T', IsPg s.data.toList kd' E' K' S' T' → k0 = kd' ∧ [] = E' ∧ [] = K' ∧ [] = S' ∧ [] = T') := show ∀ _, _ from fun kd' E' K' S' T' h => by
  obtain ⟨g1, g2, g3⟩ := HU.out kd' E' K' S' T' h
  rcases kind_of g1 with e | e | e
  ·subst e
   obtain ⟨rfl, rfl, rfl, rfl⟩ := free_of g1
   exact ⟨g2.symm, rfl, rfl, rfl, rfl⟩
  ·omega
  ·omega
 have b1 : (k0 == 1) = false := by rw [beq_eq_false_iff_ne]; exact h1
 have b2 : (k0 == 2) = false := by rw [beq_eq_false_iff_ne]; exact h2
 have hOT : Hid (NdOwn (g + 1) wT none none none none 0 0 0 0 [] [] [] []) := NdOwn.zero _ _
 have hcapT : ([] : List El).length ≤ 0 := Nat.le_refl _
 have hxT := hx
 have hzT := hz
 have huT := hu
 obtain ⟨x0, x1, x2, x3, x4, hxs⟩ := row5 hx
 clear HP HU hx hz hu hBs h1 h2 cG hf hk0 hk1 hk2
 go_upto_region 19 with fail
 clear b1 b2 x0 x1 x2 x3 x4 hxs
 have hvT := Calm.refl wT
 obtain ⟨x0, x1, x2, x3, x4, hxs⟩ := row5 hxT
 have hNo : Hid (ndErr k0 [] [] [] [] ≠ 0 ∨ pgEnc k0 [] [] [] [] ≠ s.data.toList → ∀ kd E K S T, ¬ IsPg s.data.toList kd E K S T) := show _ → _ from fun h kd' E' K' S' T' hP => by
  obtain ⟨rfl, rfl, rfl, rfl, rfl⟩ := HNT.out kd' E' K' S' T' hP
  exact h.elim (fun h => h hP.1) (fun h => h hP.2)
 have cN := fun u (hu : Calm wT u) => refNode_any k0 none none none none 0 0 0 0 [] [] [] [] u (hOT.out.at_.calm hu) hcapT (by have := hOT.out.ne; omega) (by have := hOT.out.nk; omega) (by have := hOT.out.ns; omega) (by have := hOT.out.nt; omega)
 (try simp only [List.length_nil] at cN)
 by_cases hn : ndErr k0 [] [] [] [] = 0
 rotate_left
 ·have HX := Lib.hid (hNo.out (Or.inl hn))
  have b1 : (ndErr k0 [] [] [] [] != 0) = true := by simpa using hn
  generalize ndErr k0 [] [] [] [] = R9 at cN b1
  clear hn hNo
  go_wp2_with (go_at_call 36; (with_reducible refine (cN _ hvT).mono ?_); rintro e w3 ⟨rfl, hb3⟩; replace huT := huT.call hb3; replace hxT := (hb3.block (row5 hxT).2.2.2.2.2).trans hxT; replace hzT := (hb3.block (row5 hzT).2.2.2.2.2).trans hzT; replace hvT := hvT.call hb3; clear hb3; obtain ⟨z0, z1, z2, z3, z4, hzs⟩ := row5 hzT; obtain ⟨f0, f1, f2, f3, f4⟩ := free5 hzT; obtain ⟨x0, x1, x2, x3, x4, hxs⟩ := row5 hxT)
  exact end_nd rfl rfl _ _ w.heap.size _ _ _ (0, 0) rfl rfl rfl (set5 hzT _ _ _ _ _) rfl ⟨huT.five (g := w.heap.size) (by omega) _ _ _ _ _, Or.inl ⟨by rw [H3.out]; rfl, HX.out⟩⟩
 have cP := fun u (hu : Calm wT u) => refPage_any k0 none none none none 0 0 0 0 [] [] [] [] u (hOT.out.at_.calm hu) hn
 (try simp only [List.length_nil] at cP)
 rw [hn] at cN
 by_cases hw : pgEnc k0 [] [] [] [] = s.data.toList
 rotate_left
 ·have HX := Lib.hid (hNo.out (Or.inr hw))
  have hne : ¬ (⟨(pgEnc k0 [] [] [] []).toArray⟩ : ByteArray) = s := fun h => hw (by rw [← h, bytes_list])
  generalize (⟨(pgEnc k0 [] [] [] []).toArray⟩ : ByteArray) = W at cP hne
  have hs1 : (W.toList == s.toList) = false := str_ne hne
  clear hn hw hne hNo
  go_wp2_with (first
   |(go_at_call 36; (with_reducible refine (cN _ hvT).mono ?_); rintro e w3 ⟨rfl, hb3⟩; replace huT := huT.call hb3; replace hxT := (hb3.block (row5 hxT).2.2.2.2.2).trans hxT; replace hzT := (hb3.block (row5 hzT).2.2.2.2.2).trans hzT; replace hvT := hvT.call hb3; clear hb3; obtain ⟨z0, z1, z2, z3, z4, hzs⟩ := row5 hzT; obtain ⟨f0, f1, f2, f3, f4⟩ := free5 hzT; obtain ⟨x0, x1, x2, x3, x4, hxs⟩ := row5 hxT)
   |(go_at_call 37; (with_reducible refine (cP _ hvT).mono ?_); rintro e w4 ⟨rfl, hb3⟩; replace huT := huT.call hb3; replace hxT := (hb3.block (row5 hxT).2.2.2.2.2).trans hxT; replace hzT := (hb3.block (row5 hzT).2.2.2.2.2).trans hzT; replace hvT := hvT.call hb3; clear hb3; obtain ⟨z0, z1, z2, z3, z4, hzs⟩ := row5 hzT; obtain ⟨f0, f1, f2, f3, f4⟩ := free5 hzT; obtain ⟨x0, x1, x2, x3, x4, hxs⟩ := row5 hxT))
  exact end_nd rfl rfl _ _ w.heap.size _ _ _ (0, 0) rfl rfl rfl (set5 hzT _ _ _ _ _) rfl ⟨huT.five (g := w.heap.size) (by omega) _ _ _ _ _, Or.inl ⟨by rw [H3.out]; rfl, HX.out⟩⟩
 have HG : Hid (IsPg s.data.toList k0 [] [] [] []) := ⟨hn, hw⟩
 rw [show (⟨(pgEnc k0 [] [] [] []).toArray⟩ : ByteArray) = s from bytes_ext (by rw [bytes_list, hw])] at cP
 clear hn hw hNo
 go_wp2_with (first
  |(go_at_call 36; (with_reducible refine (cN _ hvT).mono ?_); rintro e w3 ⟨rfl, hb3⟩; replace huT := huT.call hb3; replace hxT := (hb3.block (row5 hxT).2.2.2.2.2).trans hxT; replace hzT := (hb3.block (row5 hzT).2.2.2.2.2).trans hzT; replace hvT := hvT.call hb3; clear hb3; obtain ⟨z0, z1, z2, z3, z4, hzs⟩ := row5 hzT; obtain ⟨f0, f1, f2, f3, f4⟩ := free5 hzT; obtain ⟨x0, x1, x2, x3, x4, hxs⟩ := row5 hxT)
  |(go_at_call 37; (with_reducible refine (cP _ hvT).mono ?_); rintro e w4 ⟨rfl, hb3⟩; replace huT := huT.call hb3; replace hxT := (hb3.block (row5 hxT).2.2.2.2.2).trans hxT; replace hzT := (hb3.block (row5 hzT).2.2.2.2.2).trans hzT; replace hvT := hvT.call hb3; clear hb3; obtain ⟨z0, z1, z2, z3, z4, hzs⟩ := row5 hzT; obtain ⟨f0, f1, f2, f3, f4⟩ := free5 hzT; obtain ⟨x0, x1, x2, x3, x4, hxs⟩ := row5 hxT))
 have hO9 := hOT.out.calm hvT
 exact end_nd rfl rfl _ _ w.heap.size _ _ _ (0, 0) rfl rfl rfl (set5 hzT _ _ _ _ _) rfl ⟨huT.five (g := w.heap.size) (by omega) _ _ _ _ _, Or.inr ⟨k0, none, none, none, none, 0, 0, 0, 0, [], [], [], [], rfl, (hO9.five (by omega) _ _ _ _ _).mono (by omega), HG.out⟩⟩
open Go.ChangeShapes Go.WideShapes Go.ChangeAt Go.RowKit
theorem un_bad (s : ByteArray) (n : Int) (hE : rdErr s.data.toList = n) (hN : ∀ kd E K S T, ¬ IsPg s.data.toList kd E K S T) (w : World) : Calls Try.prog 39 #[.string s] w fun e w' => e = .returned (.tuple #[.agg #[.int .i64 0, .slice none 0 0, .slice none 0 0, .slice none 0 0, .slice none 0 0], .int .i64 n]) ∧ Calm w w' :=
 (unpage_any s w).mono fun e w' ⟨hc, h⟩ => by
  rcases h with ⟨rfl, _⟩ | ⟨kd, _, _, _, _, _, _, _, _, E, K, S, T, _, _, hP⟩
  ·exact ⟨by rw [hE], hc⟩
  ·exact absurd hP (hN kd E K S T)
theorem un_good (s : ByteArray) {kd : Int} {E : List El} {K : List Int} {S : List Sp} {T : List Int} (h : IsPg s.data.toList kd E K S T) (w : World) : Calls Try.prog 39 #[.string s] w fun e w' =>
  ∃ (A1 A2 A3 A4 : Option Addr) (c1 c2 c3 c4 : Nat), e = .returned (.tuple #[.agg #[.int .i64 kd, .slice A1 E.length c1, .slice A2 K.length c2, .slice A3 S.length c3, .slice A4 T.length c4], .int .i64 0]) ∧ NdOwn w.heap.size w' A1 A2 A3 A4 c1 c2 c3 c4 E K S T ∧ Calm w w' :=
 (unpage_any s w).mono fun e w' ⟨hc, h2⟩ => by
  rcases h2 with ⟨rfl, hN⟩ | ⟨kd', A1, A2, A3, A4, c1, c2, c3, c4, E', K', S', T', rfl, hO, hP⟩
  ·exact absurd h (hN kd E K S T)
  ·obtain ⟨rfl, rfl, rfl, rfl, rfl⟩ := h.one hP
   exact ⟨A1, A2, A3, A4, c1, c2, c3, c4, rfl, hO, hc⟩
set_option maxHeartbeats 8000000 in
theorem pageSays_walk (kd : Int) (A1 A2 A3 A4 : Option Addr) (c1 c2 c3 c4 : Nat) (E : List El) (K : List Int) (S : List Sp) (T : List Int) (s : ByteArray) (w : World) (h : NdAt w A1 A2 A3 A4 E K S T) (hcap : E.length ≤ c1)
    (hz : E.length ≤ 140737488351232 ∧ K.length ≤ 140737488351232 ∧ S.length ≤ 140737488351232 ∧ T.length ≤ 140737488351232) :
    Calls Try.prog 13 #[.agg #[.int .i64 kd, .slice A1 E.length c1, .slice A2 K.length c2, .slice A3 S.length c3, .slice A4 T.length c4], .string s] w fun e w' => e = .returned (.bool true) ∧ Calm w w' := by
  have hx := heap_new w (.cells #[.int .i64 kd, .slice A1 E.length c1, .slice A2 K.length c2, .slice A3 S.length c3, .slice A4 T.length c4] 63)
  have hu := (Calm.refl w).alloc (.cells #[.int .i64 kd, .slice A1 E.length c1, .slice A2 K.length c2, .slice A3 S.length c3, .slice A4 T.length c4] 63)
  have cN := fun u (hu : Calm w u) => refNode_any kd A1 A2 A3 A4 c1 c2 c3 c4 E K S T u (h.calm hu) hcap (by omega) (by omega) (by omega) (by omega)
  obtain ⟨x0, x1, x2, x3, x4, hxs⟩ := row5 hx
  by_cases hP : ∃ kd E K S T, IsPg s.data.toList kd E K S T
  rotate_left
  · have cR := fun u => rd_bad s _ rfl (fun kd E K S T h => hP ⟨kd, E, K, S, T, h⟩) u
    have cU := fun u => un_bad s _ rfl (fun kd E K S T h => hP ⟨kd, E, K, S, T, h⟩) u
    generalize rdErr s.data.toList = N9 at cR cU
    clear hP
    by_cases he : ndErr kd E K S T = 0
    · have cW := fun u (hu : Calm w u) => wr_good kd A1 A2 A3 A4 c1 c2 c3 c4 E K S T u (h.calm hu) he ⟨(pgEnc kd E K S T).toArray⟩ (by simp)
      have cP := fun u (hu : Calm w u) => refPage_any kd A1 A2 A3 A4 c1 c2 c3 c4 E K S T u (h.calm hu) he
      rw [he] at cN
      generalize (⟨(pgEnc kd E K S T).toArray⟩ : ByteArray) = W at cW cP
      clear he h hz hcap
      go_enter Try.func13, Try.ntmps13
      go_wp2_with (first
            | (go_at_call 35; (with_reducible refine (cW _ hu).mono ?_); rintro e w1 ⟨rfl, hb1⟩; replace hx := (hb1.block (row5 hx).2.2.2.2.2).trans hx; replace hu := hu.call hb1; clear hb1; obtain ⟨x0, x1, x2, x3, x4, hxs⟩ := row5 hx)
            | (go_at_call 36; (with_reducible refine (cN _ hu).mono ?_); rintro e w1 ⟨rfl, hb1⟩; replace hx := (hb1.block (row5 hx).2.2.2.2.2).trans hx; replace hu := hu.call hb1; clear hb1; obtain ⟨x0, x1, x2, x3, x4, hxs⟩ := row5 hx)
            | (go_at_call 37; (with_reducible refine (cP _ hu).mono ?_); rintro e w1 ⟨rfl, hb1⟩; replace hx := (hb1.block (row5 hx).2.2.2.2.2).trans hx; replace hu := hu.call hb1; clear hb1; obtain ⟨x0, x1, x2, x3, x4, hxs⟩ := row5 hx)
            | (go_at_call 38; (with_reducible refine (cR _).mono ?_); rintro e w2 ⟨rfl, hb1⟩; replace hu := (hu.call hb1).alloc (.cells #[.int .i64 0, .slice none 0 0, .slice none 0 0, .slice none 0 0, .slice none 0 0] 63); have hm := heap_new w2 (.cells #[.int .i64 0, .slice none 0 0, .slice none 0 0, .slice none 0 0, .slice none 0 0] 63); clear hb1)
            | (go_at_call 39; (with_reducible refine (cU _).mono ?_); rintro e w3 ⟨rfl, hb1⟩; replace hb1 := hb1.alloc (.cells #[.int .i64 0, .slice none 0 0, .slice none 0 0, .slice none 0 0, .slice none 0 0] 63); replace hu := hu.call hb1; have hl := heap_new w3 (.cells #[.int .i64 0, .slice none 0 0, .slice none 0 0, .slice none 0 0, .slice none 0 0] 63); replace hm := (hb1.block (row5 hm).2.2.2.2.2).trans hm; clear hb1; obtain ⟨m0, m1, m2, m3, m4, hms⟩ := row5 hm; obtain ⟨l0, l1, l2, l3, l4, hls⟩ := row5 hl)
            | (go_at_call 40; (with_reducible refine (same_zero _).mono ?_); rintro e w4 ⟨rfl, hb1⟩; replace hu := hu.call hb1; clear hb1))
      go_ret
      exact ⟨rfl, hu⟩
    · have cW := fun u (hu : Calm w u) => wr_bad kd A1 A2 A3 A4 c1 c2 c3 c4 E K S T u (h.calm hu) _ rfl he
      have b1 : (ndErr kd E K S T != 0) = true := by simpa using he
      generalize ndErr kd E K S T = N at cN cW b1
      clear he h hz hcap
      go_enter Try.func13, Try.ntmps13
      go_wp2_with (first
            | (go_at_call 35; (with_reducible refine (cW _ hu).mono ?_); rintro e w1 ⟨rfl, hb1⟩; replace hx := (hb1.block (row5 hx).2.2.2.2.2).trans hx; replace hu := hu.call hb1; clear hb1; obtain ⟨x0, x1, x2, x3, x4, hxs⟩ := row5 hx)
            | (go_at_call 36; (with_reducible refine (cN _ hu).mono ?_); rintro e w1 ⟨rfl, hb1⟩; replace hx := (hb1.block (row5 hx).2.2.2.2.2).trans hx; replace hu := hu.call hb1; clear hb1; obtain ⟨x0, x1, x2, x3, x4, hxs⟩ := row5 hx)
            | (go_at_call 38; (with_reducible refine (cR _).mono ?_); rintro e w2 ⟨rfl, hb1⟩; replace hu := (hu.call hb1).alloc (.cells #[.int .i64 0, .slice none 0 0, .slice none 0 0, .slice none 0 0, .slice none 0 0] 63); have hm := heap_new w2 (.cells #[.int .i64 0, .slice none 0 0, .slice none 0 0, .slice none 0 0, .slice none 0 0] 63); clear hb1)
            | (go_at_call 39; (with_reducible refine (cU _).mono ?_); rintro e w3 ⟨rfl, hb1⟩; replace hb1 := hb1.alloc (.cells #[.int .i64 0, .slice none 0 0, .slice none 0 0, .slice none 0 0, .slice none 0 0] 63); replace hu := hu.call hb1; have hl := heap_new w3 (.cells #[.int .i64 0, .slice none 0 0, .slice none 0 0, .slice none 0 0, .slice none 0 0] 63); replace hm := (hb1.block (row5 hm).2.2.2.2.2).trans hm; clear hb1; obtain ⟨m0, m1, m2, m3, m4, hms⟩ := row5 hm; obtain ⟨l0, l1, l2, l3, l4, hls⟩ := row5 hl)
            | (go_at_call 40; (with_reducible refine (same_zero _).mono ?_); rintro e w4 ⟨rfl, hb1⟩; replace hu := hu.call hb1; clear hb1))
      go_ret
      exact ⟨rfl, hu⟩
  obtain ⟨KD, EE, KK, SS, TT, hP⟩ := hP
  have cR := fun u => rd_good s hP u
  have cU := fun u => un_good s hP u
  clear hP
  by_cases he : ndErr kd E K S T = 0
  · have cW := fun u (hu : Calm w u) => wr_good kd A1 A2 A3 A4 c1 c2 c3 c4 E K S T u (h.calm hu) he ⟨(pgEnc kd E K S T).toArray⟩ (by simp)
    have cP := fun u (hu : Calm w u) => refPage_any kd A1 A2 A3 A4 c1 c2 c3 c4 E K S T u (h.calm hu) he
    rw [he] at cN
    generalize (⟨(pgEnc kd E K S T).toArray⟩ : ByteArray) = W at cW cP
    clear he h hz hcap
    go_enter Try.func13, Try.ntmps13
    go_wp2_with (first
          | (go_at_call 35; (with_reducible refine (cW _ hu).mono ?_); rintro e w1 ⟨rfl, hb1⟩; replace hx := (hb1.block (row5 hx).2.2.2.2.2).trans hx; replace hu := hu.call hb1; clear hb1; obtain ⟨x0, x1, x2, x3, x4, hxs⟩ := row5 hx)
          | (go_at_call 36; (with_reducible refine (cN _ hu).mono ?_); rintro e w1 ⟨rfl, hb1⟩; replace hx := (hb1.block (row5 hx).2.2.2.2.2).trans hx; replace hu := hu.call hb1; clear hb1; obtain ⟨x0, x1, x2, x3, x4, hxs⟩ := row5 hx)
          | (go_at_call 37; (with_reducible refine (cP _ hu).mono ?_); rintro e w1 ⟨rfl, hb1⟩; replace hx := (hb1.block (row5 hx).2.2.2.2.2).trans hx; replace hu := hu.call hb1; clear hb1; obtain ⟨x0, x1, x2, x3, x4, hxs⟩ := row5 hx)
          | (go_at_call 38; (with_reducible refine (cR _).mono ?_); rintro e w2 ⟨B1, B2, B3, B4, d1, d2, d3, d4, rfl, hO, hb1⟩; replace hu := (hu.call hb1).alloc (.cells #[.int .i64 KD, .slice B1 EE.length d1, .slice B2 KK.length d2, .slice B3 SS.length d3, .slice B4 TT.length d4] 63); have hm := heap_new w2 (.cells #[.int .i64 KD, .slice B1 EE.length d1, .slice B2 KK.length d2, .slice B3 SS.length d3, .slice B4 TT.length d4] 63); have HM := Lib.hid (hO.at_.calm ((Calm.refl w2).alloc (.cells #[.int .i64 KD, .slice B1 EE.length d1, .slice B2 KK.length d2, .slice B3 SS.length d3, .slice B4 TT.length d4] 63))); clear hb1 hO)
          | (go_at_call 39; (with_reducible refine (cU _).mono ?_); rintro e w3 ⟨C1, C2, C3, C4, e1, e2, e3, e4, rfl, hO, hb1⟩; replace hb1 := hb1.alloc (.cells #[.int .i64 KD, .slice C1 EE.length e1, .slice C2 KK.length e2, .slice C3 SS.length e3, .slice C4 TT.length e4] 63); replace hu := hu.call hb1; have hl := heap_new w3 (.cells #[.int .i64 KD, .slice C1 EE.length e1, .slice C2 KK.length e2, .slice C3 SS.length e3, .slice C4 TT.length e4] 63); replace hm := (hb1.block (row5 hm).2.2.2.2.2).trans hm; have cS := sameNode_any KD B1 B2 B3 B4 d1 d2 d3 d4 EE KK SS TT KD C1 C2 C3 C4 e1 e2 e3 e4 EE KK SS TT _ (HM.out.calm hb1) (hO.at_.calm ((Calm.refl w3).alloc (.cells #[.int .i64 KD, .slice C1 EE.length e1, .slice C2 KK.length e2, .slice C3 SS.length e3, .slice C4 TT.length e4] 63))); rw [decide_eq_true ⟨rfl, rfl, rfl, rfl, rfl⟩] at cS; clear hb1 hO; obtain ⟨m0, m1, m2, m3, m4, hms⟩ := row5 hm; obtain ⟨l0, l1, l2, l3, l4, hls⟩ := row5 hl)
          | (go_at_call 40; (with_reducible refine cS.mono ?_); rintro e w4 ⟨rfl, hb1⟩; replace hu := hu.call hb1; clear hb1))
    go_ret
    exact ⟨rfl, hu⟩
  · have cW := fun u (hu : Calm w u) => wr_bad kd A1 A2 A3 A4 c1 c2 c3 c4 E K S T u (h.calm hu) _ rfl he
    have b1 : (ndErr kd E K S T != 0) = true := by simpa using he
    generalize ndErr kd E K S T = N at cN cW b1
    clear he h hz hcap
    go_enter Try.func13, Try.ntmps13
    go_wp2_with (first
          | (go_at_call 35; (with_reducible refine (cW _ hu).mono ?_); rintro e w1 ⟨rfl, hb1⟩; replace hx := (hb1.block (row5 hx).2.2.2.2.2).trans hx; replace hu := hu.call hb1; clear hb1; obtain ⟨x0, x1, x2, x3, x4, hxs⟩ := row5 hx)
          | (go_at_call 36; (with_reducible refine (cN _ hu).mono ?_); rintro e w1 ⟨rfl, hb1⟩; replace hx := (hb1.block (row5 hx).2.2.2.2.2).trans hx; replace hu := hu.call hb1; clear hb1; obtain ⟨x0, x1, x2, x3, x4, hxs⟩ := row5 hx)
          | (go_at_call 38; (with_reducible refine (cR _).mono ?_); rintro e w2 ⟨B1, B2, B3, B4, d1, d2, d3, d4, rfl, hO, hb1⟩; replace hu := (hu.call hb1).alloc (.cells #[.int .i64 KD, .slice B1 EE.length d1, .slice B2 KK.length d2, .slice B3 SS.length d3, .slice B4 TT.length d4] 63); have hm := heap_new w2 (.cells #[.int .i64 KD, .slice B1 EE.length d1, .slice B2 KK.length d2, .slice B3 SS.length d3, .slice B4 TT.length d4] 63); have HM := Lib.hid (hO.at_.calm ((Calm.refl w2).alloc (.cells #[.int .i64 KD, .slice B1 EE.length d1, .slice B2 KK.length d2, .slice B3 SS.length d3, .slice B4 TT.length d4] 63))); clear hb1 hO)
          | (go_at_call 39; (with_reducible refine (cU _).mono ?_); rintro e w3 ⟨C1, C2, C3, C4, e1, e2, e3, e4, rfl, hO, hb1⟩; replace hb1 := hb1.alloc (.cells #[.int .i64 KD, .slice C1 EE.length e1, .slice C2 KK.length e2, .slice C3 SS.length e3, .slice C4 TT.length e4] 63); replace hu := hu.call hb1; have hl := heap_new w3 (.cells #[.int .i64 KD, .slice C1 EE.length e1, .slice C2 KK.length e2, .slice C3 SS.length e3, .slice C4 TT.length e4] 63); replace hm := (hb1.block (row5 hm).2.2.2.2.2).trans hm; have cS := sameNode_any KD B1 B2 B3 B4 d1 d2 d3 d4 EE KK SS TT KD C1 C2 C3 C4 e1 e2 e3 e4 EE KK SS TT _ (HM.out.calm hb1) (hO.at_.calm ((Calm.refl w3).alloc (.cells #[.int .i64 KD, .slice C1 EE.length e1, .slice C2 KK.length e2, .slice C3 SS.length e3, .slice C4 TT.length e4] 63))); rw [decide_eq_true ⟨rfl, rfl, rfl, rfl, rfl⟩] at cS; clear hb1 hO; obtain ⟨m0, m1, m2, m3, m4, hms⟩ := row5 hm; obtain ⟨l0, l1, l2, l3, l4, hls⟩ := row5 hl)
          | (go_at_call 40; (with_reducible refine cS.mono ?_); rintro e w4 ⟨rfl, hb1⟩; replace hu := hu.call hb1; clear hb1))
    go_ret
    exact ⟨rfl, hu⟩
end Go.Proofs.Ytoklknjjkchgmaa
