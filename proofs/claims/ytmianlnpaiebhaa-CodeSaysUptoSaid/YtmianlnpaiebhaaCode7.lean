/- Reading all records of a string, by the other road: annalref.AllBytes. -/
import Derived.Test.YtmianlnpaiebhaaCode6
namespace Go.Proofs.Ytmianlnpaiebhaa
open Go.RowKit

/-- append(out, more...): records of another row behind those of a row of the call's own. -/
theorem wpList_append_own2 {ops : Array Oper} {rest : List Oper} {o : Oper} {a : Act} {w : World} {Q : Exit → Act → World → Prop} (hgd : o.guard = none) (s x : Operand)
    (ho : o.op = .call { callee := .builtin .append, args := #[s, x], argTypes := #[33, 33] })
    (base : Nat) (v : Value) (l : List El) (hs : a.eval s = v) (hown : OwnR base w v l) (base2 : Nat) (u : Value) (l2 : List El) (hx : a.eval x = u) (hsrc : OwnR base2 w u l2)
    (hl : (l.length + l2.length) * 56 ≤ 140737488355328) (hbase : base ≤ w.heap.size)
    (h : ∀ v' w', OwnR base w' v' (l ++ l2) → (∀ w0 : World, w0.heap.size ≤ base → Calm w0 w → Calm w0 w') → wpList Try.prog ops Q rest (a.put o.dst v') w') : wpList Try.prog ops Q (o :: rest) a w := by
  obtain ⟨i0, hi, hz0, hz1, hz2⟩ := info_parts infoElem
  rcases hsrc.2 with ⟨rfl, h0⟩ | ⟨g, cap, cur, rfl, hb2, hg, hnc, hcm, hsz, ht⟩
  · have : l2 = [] := List.eq_nil_of_length_eq_zero h0
    subst this
    refine wpList_plain hgd fun K hK => ?_
    have hrun : (Builtin.append_ #[33, 33] o.type #[v, .slice none 0 0]).run Try.prog w = .ok v w := by
      rcases hown.2 with ⟨rfl, hn⟩ | ⟨g, cap, cur, rfl, _, _, hnc, _⟩
      · simp [Builtin.append_, run_underlying Try.underlying33, sizeOf, typeInfo, hi, Builtin.lenOf, Builtin.firstCells]
      · simp [Builtin.append_, run_underlying Try.underlying33, sizeOf, typeInfo, hi, Builtin.lenOf, Builtin.firstCells, hnc, storeCells]
    unfold Oper.wp execOp
    simp only [ho, resolve, invoke, builtin, Sem.run_bind, Sem.run_pure, Result.andThen_ok, List.map_toArray, List.map_cons, List.map_nil, hs, hx, hrun]
    exact hK _ _ (h v w (by simpa using hown) fun _ _ h => h)
  · refine wpList_append_own w hgd s x _ ho base 25 i0 _ 6 56 Try.underlying33 hi hz0 hz1 hz2 rfl (by decide) v _ _ hs hown ⟨g, 0, none⟩ l2.length cap (cellsOf l2) hx (cellsOf_len l2) (World.ownsRow.cells (g := g) hsrc rfl) (cellsOf_one l2) (by unfold maxLen; omega) (by omega) hbase fun v' w' h1 h2 _ => ?_
    refine h v' w' ?_ fun w0 h0 hc => hc.grown h0 hown h2
    unfold OwnR
    rw [List.length_append, show cellsOf (l ++ l2) = cellsOf l ++ cellsOf l2 from by simp [cellsOf]]
    exact h1
/-- A literal of one record. -/
theorem OwnR.lit {w : World} {base g : Nat} {p o f m gg : Int} {s : ByteArray} (h : w.heap[g]? = some (.cells #[.int .i64 p, .int .i64 o, .int .i64 f, .int .i64 m, .int .i64 gg, .string s] 25 (0, 0))) (hb : base ≤ g) : OwnR base w (.slice (some ⟨g, 0, none⟩) 1 1) [⟨p, o, f, m, gg, s⟩] :=
  ⟨rfl, .inr ⟨g, 1, _, rfl, hb, h, Nat.le_refl _, by unfold maxLen; omega, rfl, rfl⟩⟩

def AllOwn (l : List El) (n : Int) (w : World) (e : Ending) (w' : World) : Prop := ∃ v, e = .returned (.tuple #[v, .int .i64 n]) ∧ OwnR w.heap.size w' v l ∧ Calm w w'

theorem get_bad' (s : ByteArray) (n : Int) (hd : decErr s.data.toList = n) (hn : n ≠ 0) (w : World) : Calls Try.prog 19 #[.string s] w fun e w' => e = .returned (.tuple #[.agg #[.int .i64 0, .int .i64 0, .int .i64 0, .int .i64 0, .int .i64 0, .string { data := #[] }], .int .i64 0, .int .i64 n]) ∧ Calm w w' :=
  (unbytes_any s w).mono fun e w' ⟨h1, h2⟩ => ⟨by rw [h1, gotEl, gotLen, hd, if_neg hn, if_neg hn]; rfl, h2⟩
theorem get_good' (s : ByteArray) (x : El) (N : Nat) (hd : decErr s.data.toList = 0) (hx : decEl s.data.toList = x) (hN : decLen s.data.toList = N) (w : World) : Calls Try.prog 19 #[.string s] w fun e w' => e = .returned (.tuple #[.agg #[.int .i64 x.p, .int .i64 x.o, .int .i64 x.f, .int .i64 x.m, .int .i64 x.g, .string x.s], .int .i64 (N : Int), .int .i64 0]) ∧ Calm w w' :=
  (unbytes_any s w).mono fun e w' ⟨h1, h2⟩ => ⟨by rw [h1, gotEl, gotLen, hd, if_pos rfl, if_pos rfl, hx, hN]; rfl, h2⟩

set_option maxRecDepth 100000 in
set_option maxHeartbeats 8000000 in
theorem allBytes_any : ∀ (n : Nat) (s : ByteArray) (w : World), s.size ≤ n → (allEls s.data.toList).length * 56 ≤ 140737488355328 → Calls Try.prog 21 #[.string s] w (AllOwn (allVal s.data.toList) (allErr s.data.toList) w)
  | n, s, w, hn, hbig => by
    by_cases hz : s.size = 0
    · have hs : s = { data := #[] } := by
        apply ByteArray.ext
        apply Array.eq_empty_of_size_eq_zero
        exact hz
      subst hs
      clear hz hn hbig
      go_enter Try.func21, Try.ntmps21
      go_wp2_with fail
      go_ret2
      exact ⟨_, rfl, OwnR.nil _ _, Calm.refl _⟩
    have hpos : 0 < s.size := by omega
    have h0 : Reads s.data.toList [] s := ⟨rfl, rfl⟩
    have hemp : s.toList.isEmpty = false := by
      rw [ByteArray.toList_eq]
      cases h : s.data.toList with
      | nil => have := bytes_len s; rw [h] at this; simp at this; omega
      | cons => rfl
    by_cases hd : decErr s.data.toList = 0
    rotate_left
    · have hE := h0.bad hpos hd
      have cG := fun u => get_bad' s _ rfl hd u
      have hV : allVal s.data.toList = [] := by unfold allVal; rw [hE, if_neg hd]
      rw [hE, hV]
      have b1 : (decErr s.data.toList != 0) = true := by simpa using hd
      generalize decErr s.data.toList = E at cG b1 ⊢
      clear hE hV hd h0 hbig hn hz
      go_enter Try.func21, Try.ntmps21
      go_wp2_with (go_at_call 19; refine (cG _).mono ?_; rintro e w1 ⟨rfl, hb1⟩; have hu := (Calm.refl w).call hb1; clear hb1)
      go_ret2
      exact ⟨_, rfl, OwnR.nil _ _, hu.alloc _⟩
    have hdz := decErr_zero hd
    have hst := h0.step hpos hd
    have hN18 : 18 ≤ decLen s.data.toList := by unfold decLen; omega
    have cG := fun u => get_good' s _ _ hd rfl rfl u
    rw [bytes_len] at hdz
    generalize hX : decEl s.data.toList = x at cG hst hdz
    generalize hNn : decLen s.data.toList = N at cG hst hdz hN18
    obtain ⟨p, o, f, m, g, sv⟩ := x
    simp only at cG
    have hsz : (s.extract N s.size).size = s.size - N := by rw [ByteArray.size_extract]; omega
    have hN1 : (0 : Int) ≤ (N : Int) := by omega
    have hN2 : (N : Int) ≤ (s.size : Int) := by omega
    have hN3 : N ≤ s.size := hdz.2.1
    obtain ⟨e1, e2⟩ := hst
    have hlen : (allEls s.data.toList).length = 1 + (allEls (s.extract N s.size).data.toList).length := by rw [e2]; simp [Nat.add_comm]
    have cR : ∀ u, Calls Try.prog 21 #[.string (s.extract N s.size)] u (AllOwn (allVal (s.extract N s.size).data.toList) (allErr (s.extract N s.size).data.toList) u) := fun u => allBytes_any (n - 18) _ u (by omega) (by omega)
    have hV : allVal s.data.toList = if allErr (s.extract N s.size).data.toList = 0 then ⟨p, o, f, m, g, sv⟩ :: allEls (s.extract N s.size).data.toList else [] := by
      unfold allVal; rw [e1, e2]; rfl
    rw [hV, e1]
    have hw : (allVal (s.extract N s.size).data.toList) = if allErr (s.extract N s.size).data.toList = 0 then allEls (s.extract N s.size).data.toList else [] := rfl
    rw [hw] at cR
    generalize allEls (s.extract N s.size).data.toList = L at cR hlen ⊢
    generalize allErr (s.extract N s.size).data.toList = E at cR ⊢
    have hu := Calm.refl w
    have hwb := Nat.le_refl w.heap.size
    clear hV hw e1 e2 hX hNn hdz hd h0 hsz
    by_cases hE : E = 0
    · subst hE
      simp only [if_true] at cR ⊢
      have hLen : ([(⟨p, o, f, m, g, sv⟩ : El)].length + L.length) * 56 ≤ 140737488355328 := by simp only [List.length_cons, List.length_nil]; omega
      clear hbig hlen
      go_enter Try.func21, Try.ntmps21
      go_wp2_with (first
        | (go_at_call 19; (with_reducible refine (cG _).mono ?_); rintro e w1 ⟨rfl, hb1⟩; replace hu := (hu.call hb1).alloc (.cells #[.int .i64 p, .int .i64 o, .int .i64 f, .int .i64 m, .int .i64 g, .string sv] 25); have hx := heap_new w1 (.cells #[.int .i64 p, .int .i64 o, .int .i64 f, .int .i64 m, .int .i64 g, .string sv] 25); clear hb1)
        | (go_at_call 21; (with_reducible refine (cR _).mono ?_); rintro e w2 ⟨v, rfl, hov, hb1⟩; replace hx := (hb1.block (row6 hx).2.2.2.2.2.2).trans hx; replace hu := hu.call hb1; have hus := hu.size; clear hb1; have HOV := Lib.hid hov; clear hov; obtain ⟨x0, x1, x2, x3, x4, x5, hxs⟩ := row6 hx)
        | (at_builtin; go_must (refine wpList_append_own2 rfl _ _ rfl w.heap.size _ _ rfl (OwnR.lit (heap_new _ _) hus) _ _ L rfl (HOV.out.calm ((Calm.refl _).alloc _)) hLen (by simp; omega) ?_); intro v' w9 ho9 hc9; have hu9 := hc9 _ (Nat.le_refl _) (hu.alloc _); have HO := Lib.hid ho9; clear ho9 hc9))
      go_ret2
      exact ⟨_, rfl, HO.out, hu9⟩
    · simp only [if_neg hE] at cR ⊢
      have b1 : (E != 0) = true := by simpa using hE
      clear hbig hlen hE
      go_enter Try.func21, Try.ntmps21
      go_wp2_with (first
        | (go_at_call 19; (with_reducible refine (cG _).mono ?_); rintro e w1 ⟨rfl, hb1⟩; replace hu := (hu.call hb1).alloc (.cells #[.int .i64 p, .int .i64 o, .int .i64 f, .int .i64 m, .int .i64 g, .string sv] 25); clear hb1)
        | (go_at_call 21; (with_reducible refine (cR _).mono ?_); rintro e w2 ⟨v, rfl, hov, hb1⟩; replace hu := hu.call hb1; clear hb1 hov))
      go_ret2
      exact ⟨_, rfl, OwnR.nil _ _, hu⟩
termination_by n => n
decreasing_by omega
end Go.Proofs.Ytmianlnpaiebhaa
