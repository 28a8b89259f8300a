/- Slices of bytes that a call makes: append. -/
import Derived.Test.YtimfjjnlbfcccaaBytes
import Derived.Test.YtimfjjnlbfcccaaOwn
import Derived.Lib.AppendStr
namespace Go.Proofs.Ytimfjjnlbfcccaa
open Go.RowKit

def OwnB (base : Nat) (w : World) (v : Value) (l : List UInt8) : Prop := w.ownsRow base 5 1 v l.length (bv l)
theorem OwnB.lt {base : Nat} {w : World} {v : Value} {l : List UInt8} (h : OwnB base w v l) : ∀ k, v.ownBlock = some k → base ≤ k ∧ k < w.heap.size := World.ownsRow.lt h
theorem OwnB.calm {base : Nat} {w w' : World} {v : Value} {l : List UInt8} (h : OwnB base w v l) (hb : Calm w w') : OwnB base w' v l := World.ownsRow.kept h (hb.grownBy none) (by
  rcases v.ownBlock with _ | k
  · exact .inl rfl
  · exact .inr (by simp))
theorem Calm.grownB {a w w' : World} {base : Nat} {v : Value} {l : List UInt8} (h : Calm a w) (hb : a.heap.size ≤ base) (ho : OwnB base w v l) (hg : w.grownBy w' v.ownBlock) : Calm a w' :=
  Below.grown h hg h.size fun k hk => Nat.le_trans hb (ho.lt k hk).1
theorem infoByte : (Try.prog.info? 5).map (fun i => (i.zero, i.size, i.bytes)) = some (some (.int .u8 0), 1, 1) := by kernel_rfl
/-- make([]byte, 0, k). -/
theorem makeRoom (w : World) (C : Int) (k : Nat) (hC : C = (k : Int)) (hk : k ≤ 281474976710656) : (Instr.makeSlice 49 (.int .i64 0) (.int .i64 C)).run Try.prog w =
    .ok (.slice (some ⟨w.heap.size, 0, none⟩) 0 k) (w.alloc (.cells (bv (List.replicate k 0)).toArray 5)) := by
  obtain ⟨i, hi, hz, h1, h2⟩ := info_parts infoByte
  subst hC
  rw [run_make w 49 5 i _ Try.underlying49 hi hz .i64 .i64 0 k (by omega) (by omega) (by rw [h2]; omega) (by omega), h1]
  have e : madeCells (Value.int .u8 0).cells (((k : Int)).toNat * 1) = (bv (List.replicate k 0)).toArray := by
    simp only [madeCells, bv, Value.cells, Int.toNat_natCast, Nat.mul_one]
    apply Array.ext
    · simp
    · intro i h1 h2
      simp [Nat.mod_one]
  rw [e]; rfl
theorem OwnB.made (base : Nat) (w : World) (k : Nat) (hb : base ≤ w.heap.size) (hk : k ≤ 281474976710656) : OwnB base (w.alloc (.cells (bv (List.replicate k 0)).toArray 5)) (.slice (some ⟨w.heap.size, 0, none⟩) 0 k) [] :=
  ⟨rfl, .inr ⟨w.heap.size, k, _, rfl, hb, heap_alloc_row _ _ _, Nat.zero_le _, by simp only [maxLen]; omega, by simp [bv], rfl⟩⟩

theorem wpList_append_bs {ops : Array Oper} {rest : List Oper} {o : Oper} {a : Act} {w : World} {Q : Exit → Act → World → Prop} (hgd : o.guard = none) (s x : Operand)
    (ho : o.op = .call { callee := .builtin .append, args := #[s, x], argTypes := #[49, 49] })
    (base : Nat) (v : Value) (l : List UInt8) (hs : a.eval s = v) (hown : OwnB base w v l) (g t : Nat) (xs : List Int) (fr : Nat × Nat)
    (hx : a.eval x = .slice (some ⟨g, 0, none⟩) xs.length xs.length) (hg : w.heap[g]? = some (.cells (xs.map (Value.int .u8)).toArray t fr)) (hxs : ∀ x ∈ xs, 0 ≤ x ∧ x < 256) (hl : l.length + xs.length ≤ 1000000000) (hbase : base ≤ w.heap.size)
    (h : ∀ v' w', OwnB base w' v' (l ++ xs.map fun n => UInt8.ofNat n.toNat) → (∀ w0 : World, w0.heap.size ≤ base → Calm w0 w → Calm w0 w') → wpList Try.prog ops Q rest (a.put o.dst v') w') : wpList Try.prog ops Q (o :: rest) a w := by
  obtain ⟨i0, hi, hz0, hz1, hz2⟩ := info_parts infoByte
  refine wpList_append_own w hgd s x _ ho base 5 i0 _ 1 1 Try.underlying49 hi hz0 hz1 hz2 rfl (by decide) v _ _ hs hown ⟨g, 0, none⟩ xs.length xs.length (xs.map (Value.int .u8)) hx (by simp) (fun j u hj => ?_) (fun u hu => ?_) (by unfold maxLen; omega) (by omega) hbase fun v' w' h1 h2 _ => ?_
  · have : (⟨g, 0, none⟩ : Addr).add j = ⟨g, j, none⟩ := by unfold Addr.add; split <;> simp_all
    rw [this, cell_of_row w g j _ t fr hg, ← hj]
    simp
  · obtain ⟨n, _, rfl⟩ := List.mem_map.1 hu; rfl
  · refine h v' w' ?_ fun w0 h0 hc => hc.grownB h0 hown h2
    unfold OwnB
    have e : bv (l ++ xs.map fun n => UInt8.ofNat n.toNat) = bv l ++ xs.map (Value.int .u8) := by
      rw [bv_append]
      congr 1
      simp only [bv, List.map_map]
      apply List.map_congr_left
      intro n hn
      have := hxs n hn
      simp only [Function.comp, UInt8.toNat_ofNat']
      congr 1
      omega
    rw [e, List.length_append, List.length_map]
    exact h1
/-- append(b, x). -/
theorem wpList_append_b1 {ops : Array Oper} {rest : List Oper} {o : Oper} {a : Act} {w : World} {Q : Exit → Act → World → Prop} (hgd : o.guard = none) (s x : Operand)
    (ho : o.op = .call { callee := .builtin .append, args := #[s, x], argTypes := #[49, 49] })
    (base : Nat) (v : Value) (l : List UInt8) (hs : a.eval s = v) (hown : OwnB base w v l) (g t : Nat) (n : Int) (fr : Nat × Nat)
    (hx : a.eval x = .slice (some ⟨g, 0, none⟩) 1 1) (hg : w.heap[g]? = some (.cells #[.int .u8 n] t fr)) (hn : 0 ≤ n ∧ n < 256) (hl : l.length ≤ 1000000) (hbase : base ≤ w.heap.size)
    (h : ∀ v' w', OwnB base w' v' (l ++ [UInt8.ofNat n.toNat]) → (∀ w0 : World, w0.heap.size ≤ base → Calm w0 w → Calm w0 w') → wpList Try.prog ops Q rest (a.put o.dst v') w') : wpList Try.prog ops Q (o :: rest) a w :=
  wpList_append_bs hgd s x ho base v l hs hown g t [n] fr hx hg (by simpa using hn) (by simp; omega) hbase h
/-- append(b, x, y, z, u). -/
theorem wpList_append_b4 {ops : Array Oper} {rest : List Oper} {o : Oper} {a : Act} {w : World} {Q : Exit → Act → World → Prop} (hgd : o.guard = none) (s x : Operand)
    (ho : o.op = .call { callee := .builtin .append, args := #[s, x], argTypes := #[49, 49] })
    (base : Nat) (v : Value) (l : List UInt8) (hs : a.eval s = v) (hown : OwnB base w v l) (g t : Nat) (n1 n2 n3 n4 : Int) (fr : Nat × Nat)
    (hx : a.eval x = .slice (some ⟨g, 0, none⟩) 4 4) (hg : w.heap[g]? = some (.cells #[.int .u8 n1, .int .u8 n2, .int .u8 n3, .int .u8 n4] t fr)) (N : Nat) (hn : (n1 : Int) = N / 16777216 ∧ n2 = N / 65536 % 256 ∧ n3 = N / 256 % 256 ∧ n4 = N % 256 ∧ N < 4294967296) (hl : l.length ≤ 1000000) (hbase : base ≤ w.heap.size)
    (h : ∀ v' w', OwnB base w' v' (l ++ [UInt8.ofNat (N / 16777216), UInt8.ofNat (N / 65536 % 256), UInt8.ofNat (N / 256 % 256), UInt8.ofNat (N % 256)]) → (∀ w0 : World, w0.heap.size ≤ base → Calm w0 w → Calm w0 w') → wpList Try.prog ops Q rest (a.put o.dst v') w') : wpList Try.prog ops Q (o :: rest) a w := by
  refine wpList_append_bs hgd s x ho base v l hs hown g t [n1, n2, n3, n4] fr hx hg (by simp; omega) (by simp; omega) hbase ?_
  have e : [n1, n2, n3, n4].map (fun n => UInt8.ofNat n.toNat) = [UInt8.ofNat (N / 16777216), UInt8.ofNat (N / 65536 % 256), UInt8.ofNat (N / 256 % 256), UInt8.ofNat (N % 256)] := by
    simp only [List.map_cons, List.map_nil]
    rw [show n1.toNat = N / 16777216 from by omega, show n2.toNat = N / 65536 % 256 from by omega, show n3.toNat = N / 256 % 256 from by omega, show n4.toNat = N % 256 from by omega]
  rw [e]
  exact h
/-- append(b, s...). -/
theorem wpList_append_st {ops : Array Oper} {rest : List Oper} {o : Oper} {a : Act} {w : World} {Q : Exit → Act → World → Prop} (hgd : o.guard = none) (sl x : Operand)
    (ho : o.op = .call { callee := .builtin .append, args := #[sl, x], argTypes := #[49, 9] })
    (base : Nat) (v : Value) (l : List UInt8) (hs : a.eval sl = v) (hown : OwnB base w v l) (s : ByteArray) (hx : a.eval x = .string s) (hl : l.length + s.size ≤ 1000000000) (hbase : base ≤ w.heap.size)
    (h : ∀ v' w', OwnB base w' v' (l ++ s.data.toList) → (∀ w0 : World, w0.heap.size ≤ base → Calm w0 w → Calm w0 w') → wpList Try.prog ops Q rest (a.put o.dst v') w') : wpList Try.prog ops Q (o :: rest) a w := by
  obtain ⟨i0, hi, hz0, hz1, hz2⟩ := info_parts infoByte
  refine Lib.wpList_append_own_string w hgd sl x _ _ ho base 5 i0 Try.underlying49 Try.underlying9 hi hz0 hz1 hz2 v _ _ hs hown s hx (by unfold maxLen; omega) (by omega) hbase fun v' w' h1 h2 _ => ?_
  refine h v' w' ?_ fun w0 h0 hc => hc.grownB h0 hown h2
  unfold OwnB
  rw [bv_append, List.length_append, Array.length_toList]
  exact h1
/-- string(b). -/
theorem OwnB.str {base : Nat} {w : World} {v : Value} {l : List UInt8} (h : OwnB base w v l) (hl : 0 < l.length) : (convert 49 9 v).run Try.prog w = .ok (.string ⟨l.toArray⟩) w := by
  rcases h.2 with ⟨rfl, h0⟩ | ⟨g, cap, cur, rfl, _, hg, hnc, hcm, _, ht⟩
  · omega
  · refine run_convert_bytes_back w _ _ 5 ⟨g, 0, none⟩ cap l Try.underlying49 Try.underlying5 Try.underlying9 fun j hj => ?_
    have : (⟨g, 0, none⟩ : Addr).add j = ⟨g, j, none⟩ := by unfold Addr.add; split <;> simp_all
    rw [this, cell_of_row w g _ cur _ (0, 0) hg]
    have h2 := congrArg (·[j]?) ht
    simp only [Nat.mul_one] at h2
    rw [List.getElem?_take_of_lt hj, Array.getElem?_toList] at h2
    rw [h2]
    simp [bv, hj]
end Go.Proofs.Ytimfjjnlbfcccaa
