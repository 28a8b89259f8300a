/- Slices of numbers that a call makes: append, slices.Clone, slices.Max; annalref.Tid. -/
import Derived.Test.YtccfcloekjogkaaRefN4
import Derived.Test.YtccfcloekjogkaaOwn
import Derived.Lib.SliceRun
import Derived.Lib.Hide
namespace Go.Proofs.Ytccfcloekjogkaa
open Go.RowKit

def iv (l : List Int) : List Value := l.map (Value.int .i64)
def OwnI (base : Nat) (w : World) (v : Value) (l : List Int) : Prop := w.ownsRow base 3 1 v l.length (iv l)
set_option maxRecDepth 100000 in
theorem iv_length (l : List Int) : (iv l).length = l.length := by simp [iv]
set_option maxRecDepth 100000 in
theorem iv_one (l : List Int) : ∀ u ∈ iv l, u.oneCell' = true := by
  intro u hu
  obtain ⟨n, _, rfl⟩ := List.mem_map.1 hu
  rfl
set_option maxRecDepth 100000 in
theorem infoInt : (Try.prog.info? 3).map (fun i => (i.zero, i.size, i.bytes)) = some (some (.int .i64 0), 1, 8) := by kernel_rfl
set_option maxRecDepth 100000 in
theorem OwnI.lt {base : Nat} {w : World} {v : Value} {l : List Int} (h : OwnI base w v l) : ∀ k, v.ownBlock = some k → base ≤ k ∧ k < w.heap.size := World.ownsRow.lt h
set_option maxRecDepth 100000 in
theorem OwnI.calm {base : Nat} {w w' : World} {v : Value} {l : List Int} (h : OwnI base w v l) (hb : Calm w w') : OwnI base w' v l := World.ownsRow.kept h (hb.grownBy none) (by
  rcases v.ownBlock with _ | k
  · exact .inl rfl
  · exact .inr (by simp))
set_option maxRecDepth 100000 in
theorem OwnI.nil (base : Nat) (w : World) : OwnI base w (.slice none 0 0) [] := World.ownsRow_nil _ _ _ _
set_option maxRecDepth 100000 in
theorem Calm.grownI {a w w' : World} {base : Nat} {v : Value} {l : List Int} (h : Calm a w) (hb : a.heap.size ≤ base) (ho : OwnI base w v l) (hg : w.grownBy w' v.ownBlock) : Calm a w' :=
  Below.grown h hg h.size fun k hk => Nat.le_trans hb (ho.lt k hk).1
set_option maxRecDepth 100000 in
theorem OwnI.lies {base : Nat} {w : World} {v : Value} {l : List Int} (h : OwnI base w v l) : ∃ A c, v = .slice A l.length c ∧ LiesI w A l := by
  rcases h.2 with ⟨rfl, hl⟩ | ⟨g, cap, cur, rfl, _, hg, hnc, hcm, _, ht⟩
  · have : l = [] := List.eq_nil_of_length_eq_zero hl
    subst this
    exact ⟨none, 0, rfl, fun h => absurd h (by simp)⟩
  · refine ⟨some ⟨g, 0, none⟩, cap, rfl, fun _ => ⟨g, 0, rfl, (Array.getElem?_eq_some_iff.1 hg).1, fun k x hx => ?_⟩⟩
    have hk : k < l.length := (List.getElem?_eq_some_iff.1 hx).1
    have h2 := congrArg (·[k]?) ht
    simp only [Nat.mul_one] at h2
    rw [List.getElem?_take_of_lt hk, Array.getElem?_toList] at h2
    rw [Nat.zero_add, cell_of_row w g _ cur _ (0, 0) hg, h2]
    simp [iv, hx]
set_option maxRecDepth 100000 in
/-- append(out, x). -/
theorem wpList_append_i {ops : Array Oper} {rest : List Oper} {o : Oper} {a : Act} {w : World} {Q : Exit → Act → World → Prop} (hgd : o.guard = none) (s x : Operand)
    (ho : o.op = .call { callee := .builtin .append, args := #[s, x], argTypes := #[56, 56] })
    (base : Nat) (v : Value) (l : List Int) (hs : a.eval s = v) (hown : OwnI base w v l) (g t : Nat) (n : Int) (fr : Nat × Nat)
    (hx : a.eval x = .slice (some ⟨g, 0, none⟩) 1 1) (hg : w.heap[g]? = some (.cells #[.int .i64 n] t fr)) (hl : l.length ≤ 1000000) (hbase : base ≤ w.heap.size)
    (h : ∀ v' w', OwnI base w' v' (l ++ [n]) → (∀ w0 : World, w0.heap.size ≤ base → Calm w0 w → Calm w0 w') → wpList Try.prog ops Q rest (a.put o.dst v') w') : wpList Try.prog ops Q (o :: rest) a w := by
  obtain ⟨i0, hi, hz0, hz1, hz2⟩ := info_parts infoInt
  refine wpList_append_own w hgd s x _ ho base 3 i0 _ 1 8 Try.underlying56 hi hz0 hz1 hz2 rfl (by decide) v _ _ hs hown ⟨g, 0, none⟩ 1 1 (iv [n]) hx rfl (fun j u hj => ?_) (iv_one _) (by unfold maxLen; omega) (by omega) hbase fun v' w' h1 h2 _ => ?_
  · have : (⟨g, 0, none⟩ : Addr).add j = ⟨g, j, none⟩ := by unfold Addr.add; split <;> simp_all
    rw [this, cell_of_row w g j _ t fr hg, ← hj]
    simp [iv]
  · refine h v' w' ?_ fun w0 h0 hc => hc.grownI h0 hown h2
    unfold OwnI
    rw [List.length_append, iv, List.map_append]
    exact h1

set_option maxRecDepth 100000 in
set_option maxHeartbeats 4000000 in
theorem cloneI_any (A : Option Addr) (c : Nat) (l : List Int) (w : World) (hn : l.length ≤ 400) (hL : LiesI w A l) :
    Calls Try.prog 37 #[.slice A l.length c] w fun e w' => ∃ v, e = .returned v ∧ OwnI w.heap.size w' v l ∧ Calm w w' := by
  rcases A with _ | ⟨b, q, sp⟩
  · have h0 : l = [] := by
      rcases Nat.eq_zero_or_pos l.length with h | h
      · exact List.eq_nil_of_length_eq_zero h
      · obtain ⟨_, _, h1, _⟩ := hL h; cases h1
    subst h0
    have q22 : ∀ (w : World) (n c n' c' : Nat), (binOp .eql 56 (.slice none n c) (.slice none n' c')).run Try.prog w = .ok (.bool true) w := fun w n c n' c' => Lib.run_eql_slice_nil w _ _ none n c n' c' Try.underlying56
    go_enter Try.func37, Try.ntmps37
    go_wp2_with fail
    go_ret
    exact ⟨_, rfl, OwnI.nil _ _, Calm.refl _⟩
  · obtain ⟨i0, hi, hz0, hz1, hz2⟩ := info_parts infoInt
    have q22 : ∀ (w : World) (a : Addr) (n c n' c' : Nat), (binOp .eql 56 (.slice (some a) n c) (.slice none n' c')).run Try.prog w = .ok (.bool false) w := fun w a n c n' c' => Lib.run_eql_slice_nil w _ _ (some a) n c n' c' Try.underlying56
    have hsrc : Hid (∀ j v, (iv l)[j]? = some v → (w.alloc (.cells #[] 3)).cell? ((⟨b, q, sp⟩ : Addr).add j) = some v) := show ∀ _, _ from fun j v hj => by
      have hlt : j < l.length := by rw [← iv_length]; exact (List.getElem?_eq_some_iff.1 hj).1
      obtain ⟨b', q', hA, hb, hk⟩ := hL (by omega)
      injection hA with hA
      injection hA with h1 h2 h3
      subst h1; subst h2; subst h3
      have e : (⟨b, q, none⟩ : Addr).add j = ⟨b, q + j, none⟩ := by unfold Addr.add; split <;> simp_all
      rw [e, World.cell?_alloc_lt _ _ _ hb]
      have h2 : l[j]? = some l[j] := List.getElem?_eq_getElem hlt
      have h3 := hk j _ h2
      rw [h3]
      simp [iv, h2] at hj
      rw [← hj]
    have hone : Hid (∀ u ∈ iv l, u.oneCell' = true) := iv_one l
    have HLEN := Lib.hid (show (iv l).length = l.length * 1 by rw [iv_length]; omega)
    have hbig : l.length * 8 ≤ 140737488355328 := by omega
    have hmax : l.length ≤ maxLen := by unfold maxLen; omega
    clear hL
    go_enter Try.func37, Try.ntmps37
    go_wp2_with (at_builtin; refine wpList_append_own _ rfl _ _ 56 rfl w.heap.size 3 i0 _ 1 8 Try.underlying56 hi hz0 hz1 hz2 rfl (by decide) _ _ _ rfl (World.ownsRow_made w #[] 0 (Nat.le_refl _) (Nat.zero_le _) (by simp)) ⟨b, q, sp⟩ l.length c (iv l) rfl HLEN.out hsrc.out hone.out (by rw [Nat.zero_add]; exact hmax) (by rw [Nat.zero_add]; exact hbig) (by simp) ?_; intro v' w1 hown hgrow _)
    have hO : OwnI w.heap.size w1 v' l := by unfold OwnI; simpa using hown
    have hC : Calm w w1 := Below.grown ((Calm.refl w).alloc _) hgrow (by simp) (by intro k hk; cases hk; exact Nat.le_refl _)
    clear hown hgrow
    go_wp2_with fail
    go_ret
    exact ⟨_, rfl, hO, hC⟩

set_option maxRecDepth 100000 in
theorem max_take {l : List Int} {k : Nat} {a x : Int} (h : l[k]? = some x) (hk : 1 ≤ k) : gMax a ((l.take (k + 1)).drop 1) = if gMax a ((l.take k).drop 1) < x then x else gMax a ((l.take k).drop 1) := by
  have hl : k < l.length := (List.getElem?_eq_some_iff.1 h).1
  rw [List.take_succ_eq_append_getElem hl, (List.getElem?_eq_some_iff.1 h).2, List.drop_append_of_le_length (by simp; omega), gMax_if]

set_option maxRecDepth 100000 in
theorem tid_same (E : List El) (T : List Int) : ∃ a, (T ++ E.map El.last ++ [0])[0]? = some a ∧ gMax a ((T ++ E.map El.last ++ [0]).drop 1) = ndTid E T := by
  have h : gMax 0 (T ++ E.map El.last) = ndTid E T := gMax_swap 0 _ _
  generalize T ++ E.map El.last = L at h
  cases L with
  | nil => exact ⟨0, rfl, h⟩
  | cons a L => exact ⟨a, rfl, (gMax_turn a L).trans h⟩

end Go.Proofs.Ytccfcloekjogkaa
