/- Bytes in memory: a block that begins with the bytes l; annalkeep.Within. -/
import Derived.Test.YtccfcloekjogkaaMem
import Derived.Laws.BytesArg
import Derived.Laws.MakeOwn
import Derived.Laws.IdiomStrings
import Derived.IntWalk
import Derived.Laws.BitsAll
namespace Go.Proofs.Ytccfcloekjogkaa
open Go.RowKit

def bv (l : List UInt8) : List Value := l.map fun b => Value.int .u8 (b.toNat : Int)
set_option maxRecDepth 100000 in
theorem bv_length (l : List UInt8) : (bv l).length = l.length := by simp [bv]
set_option maxRecDepth 100000 in
theorem bv_append (a b : List UInt8) : bv (a ++ b) = bv a ++ bv b := by simp [bv]
/-- The block g begins with the bytes l, and none of them is frozen. -/
def BAt (w : World) (g : Nat) (l : List UInt8) (rest : List Value) (fr : Nat × Nat) : Prop := w.heap[g]? = some (.cells (bv l ++ rest).toArray 5 fr) ∧ (fr = (0, 0) ∨ l.length ≤ fr.1)
variable {w : World} {g : Nat} {l : List UInt8} {rest : List Value} {fr : Nat × Nat}
set_option maxRecDepth 100000 in
theorem BAt.lt (h : BAt w g l rest fr) : g < w.heap.size := (Array.getElem?_eq_some_iff.1 h.1).1
set_option maxRecDepth 100000 in
theorem BAt.cell (h : BAt w g l rest fr) {j : Nat} (hj : j < l.length) : w.cell? ⟨g, j, none⟩ = some (.int .u8 (l[j].toNat : Int)) := by
  rw [cell_of_row _ _ _ _ _ _ h.1, List.getElem?_toArray, List.getElem?_append_left (by rw [bv_length]; exact hj)]
  simp [bv, List.getElem?_eq_getElem hj]
set_option maxRecDepth 100000 in
theorem BAt.free (h : BAt w g l rest fr) {j : Nat} (hj : j < l.length) : w.frozen? ⟨g, j, none⟩ = false := by
  obtain ⟨h1, h2⟩ := h
  rcases h2 with rfl | h2
  · exact frozen_of_row _ _ _ _ _ h1
  · obtain ⟨lo, hi⟩ := fr
    have : ¬ lo ≤ j := by simp only at h2; omega
    simp [World.frozen?, h1, this]
set_option maxRecDepth 100000 in
theorem BAt.set (h : BAt w g l rest fr) {j : Nat} (hj : j < l.length) (c : UInt8) : BAt (w.setCell ⟨g, j, none⟩ (.int .u8 (c.toNat : Int))) g (l.set j c) rest fr := by
  obtain ⟨h1, h2⟩ := h
  refine ⟨?_, by simpa using h2⟩
  have : (w.setCell ⟨g, j, none⟩ (.int .u8 (c.toNat : Int))).heap[g]? = some (.cells ((bv l ++ rest).toArray.setIfInBounds j (.int .u8 (c.toNat : Int))) 5 fr) := by
    simp [World.setCell, Array.getElem?_modify, h1]
  rw [this]
  congr 2
  rw [List.setIfInBounds_toArray, List.set_append_left _ _ (by rw [bv_length]; exact hj)]
  simp [bv, List.map_set]
set_option maxRecDepth 100000 in
theorem BAt.calm {w' : World} (h : BAt w g l rest fr) (hb : Calm w w') : BAt w' g l rest fr := ⟨(hb.block h.lt).trans h.1, h.2⟩
set_option maxRecDepth 100000 in
theorem heap_alloc_row (w : World) (cs : Array Value) (t : TypeId) : (w.alloc (.cells cs t)).heap[w.heap.size]? = some (.cells cs t (0, 0)) := heap_new _ _

set_option maxRecDepth 100000 in
theorem xor_u8 (x y : UInt8) : bits .xor .u8 (x.toNat : Int) (y.toNat : Int) = ((x ^^^ y).toNat : Int) := by
  rw [Go.u8_xor_nat _ _ x.toNat_lt y.toNat_lt, UInt8.toNat_xor]
set_option maxRecDepth 100000 in
/-- []byte(s). -/
theorem bytesRow_at_ (w : World) (s : ByteArray) (cap : Nat) : BAt (w.alloc (.cells (bytesRow s cap) 5 ((bytesRow s cap).size, (bytesRow s cap).size + 1))) w.heap.size s.data.toList (List.replicate (cap - s.size) (.int .u8 0)) ((bytesRow s cap).size, (bytesRow s cap).size + 1) := by
  refine ⟨?_, Or.inr ?_⟩
  · rw [heap_new]
    congr 2
    apply Array.toList_inj.1
    simp [bytesRow, bv]
  · simp [bytesRow]
set_option maxRecDepth 100000 in
set_option maxHeartbeats 2000000 in
theorem within_any (k : Int) (n : Nat) (h0 : 0 < n) (hn : n < 9223372036854775808) : ∃ x : Nat, x < n ∧ ∀ w, Calls Try.prog 25 #[.int .i64 k, .int .i64 (n : Int)] w fun e w' => e = .returned (.int .i64 (x : Int)) ∧ w = w' := by
  have hk : 0 ≤ IntKind.u64.wrap k := by
    show 0 ≤ k % 18446744073709551616
    omega
  refine ⟨(IntKind.u64.wrap k % n).toNat, by have := Int.emod_lt_of_pos (IntKind.u64.wrap k) (b := n) (by omega); omega, fun w => ?_⟩
  go_enter Try.func25, Try.ntmps25
  go_wp2_with fail
  go_returns
  refine ⟨ret_int ?_, rfl⟩
  have h1 := Int.emod_lt_of_pos (IntKind.u64.wrap k) (b := n) (by omega)
  have h2 := Int.emod_nonneg (IntKind.u64.wrap k) (b := n) (by omega)
  generalize IntKind.u64.wrap k % (n : Int) = x at *
  rw [IntWalk.wrap64_in _ (by omega)]; omega
end Go.Proofs.Ytccfcloekjogkaa
