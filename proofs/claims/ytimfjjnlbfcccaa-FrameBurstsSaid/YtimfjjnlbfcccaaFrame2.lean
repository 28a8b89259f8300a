/- Writing a frame: frame.Put. -/
import Derived.Test.YtimfjjnlbfcccaaFrame1
import Derived.Test.YtimfjjnlbfcccaaLawS3
namespace Go.Proofs.Ytimfjjnlbfcccaa
open Go.RowKit

def frS (k : Int) (s : ByteArray) : ByteArray := if frErr k s.size = 0 then ⟨(encF k.toNat s.data.toList).toArray⟩ else { data := #[] }
def FPutEnd (k : Int) (s : ByteArray) (w : World) (e : Ending) (w' : World) : Prop := e = .returned (.tuple #[.string (frS k s), .int .i64 (frErr k s.size)]) ∧ Calm w w'
theorem row2 {w : World} {g t : Nat} {a b : Value} {fr : Nat × Nat} (h : w.heap[g]? = some (.cells #[a, b] t fr)) : w.cell? ⟨g, 0, none⟩ = some a ∧ w.cell? ⟨g, 1, none⟩ = some b ∧ g < w.heap.size :=
  ⟨cell_of_row _ _ 0 _ _ _ h, cell_of_row _ _ 1 _ _ _ h, (Array.getElem?_eq_some_iff.1 h).1⟩
theorem heap_new3 (w : World) (o o' o'' : Obj) : (((w.alloc o).alloc o').alloc o'').heap[w.heap.size + 1 + 1]? = some o'' := by simpa using heap_new ((w.alloc o).alloc o') o''
theorem bytes_size (l : List UInt8) : (⟨l.toArray⟩ : ByteArray).size = l.length := by show l.toArray.size = _; simp
theorem bytes_list (l : List UInt8) : (⟨l.toArray⟩ : ByteArray).data.toList = l := by simp

set_option maxRecDepth 100000 in
set_option maxHeartbeats 8000000 in
theorem framePut_any (k : Int) (s : ByteArray) (w : World) : Calls Try.prog 11 #[.agg #[.int .i64 k, .string s]] w (FPutEnd k s w) := by
  have hx := heap_new w (.cells #[.int .i64 k, .string s] 23)
  have hu := (Calm.refl w).alloc (.cells #[.int .i64 k, .string s] 23)
  by_cases h1 : k < 1 ∨ 255 < k
  · have e1 : frErr k s.size = 1 := if_pos h1
    have e2 : FPutEnd k s w = fun e w' => e = .returned (.tuple #[.string { data := #[] }, .int .i64 1]) ∧ Calm w w' := by
      funext e w'; simp [FPutEnd, frS, e1]
    rw [e2]
    clear e1 e2
    rcases h1 with h1 | h1
    · obtain ⟨x0, x1, hxs⟩ := row2 hx
      go_enter Try.func11, Try.ntmps11
      go_wp2
      go_ret2
      exact ⟨rfl, hu⟩
    · obtain ⟨x0, x1, hxs⟩ := row2 hx
      have h1' : (1 : Int) ≤ k := by omega
      go_enter Try.func11, Try.ntmps11
      go_wp2
      go_ret2
      exact ⟨rfl, hu⟩
  have h1' : (1 : Int) ≤ k := by omega
  have h2' : k ≤ (255 : Int) := by omega
  by_cases h3 : 3000 < s.size
  · have e1 : frErr k s.size = 2 := by unfold frErr; rw [if_neg h1, if_pos h3]
    have e2 : FPutEnd k s w = fun e w' => e = .returned (.tuple #[.string { data := #[] }, .int .i64 2]) ∧ Calm w w' := by
      funext e w'; simp [FPutEnd, frS, e1]
    rw [e2]
    clear e1 e2 h1
    have h3' : (3000 : Int) < s.size := by omega
    obtain ⟨x0, x1, hxs⟩ := row2 hx
    go_enter Try.func11, Try.ntmps11
    go_wp2
    go_ret2
    exact ⟨rfl, hu⟩
  have h3' : (s.size : Int) ≤ 3000 := by omega
  have h3n : s.size ≤ 3000 := by omega
  have e1 : frErr k s.size = 0 := by unfold frErr; rw [if_neg h1, if_neg h3]
  have hW : Hid (frS k s = ⟨(encF k.toNat s.data.toList).toArray⟩) := by show _ = _; unfold frS; exact if_pos e1
  have G : FPutEnd k s w = fun e w' => e = .returned (.tuple #[.string (frS k s), .int .i64 0]) ∧ Calm w w' := by
    funext e w'; simp [FPutEnd, e1]
  rw [G]
  generalize frS k s = W at hW ⊢
  clear G e1 h1 h3
  obtain ⟨K, rfl⟩ : ∃ n : Nat, k = (n : Int) := ⟨k.toNat, by omega⟩
  have i8 : IntKind.u8.wrap (K : Int) = (K : Int) := IntWalk.u8_in _ (by omega)
  have hmk := fun u => makeRoom u ((3 : Int) + (s.size : Int) + 2) (5 + s.size) (by omega) (by omega)
  have hsl : s.data.toList.length = s.size := by simp
  have hx0 := hx
  obtain ⟨x0, x1, hxs⟩ := row2 hx
  have cS := fun u => sumOf_any ⟨(frHead K s.data.toList).toArray⟩ u (by rw [bytes_size, frHead_length]; simp only [maxLen]; omega)
  rw [bytes_list] at cS
  have hC := (crc (frHead K s.data.toList)).isLt
  have hE : Hid (W = ⟨(frHead K s.data.toList ++ be 2 (crc (frHead K s.data.toList)).toNat).toArray⟩) := by show _ = _; rw [hW.out]; rfl
  have hH : Hid ([] ++ [UInt8.ofNat (K : Int).toNat] ++ be 2 s.size ++ s.data.toList = frHead K s.data.toList) := by show _ = _; rw [frHead, be1 K (by omega), hsl]; simp
  have hHl := frHead_length K s.data.toList
  generalize (crc (frHead K s.data.toList)).toNat = C at cS hC hE
  generalize frHead K s.data.toList = H at cS hE hH hHl
  clear hW
  have hv := (Calm.refl (w.alloc (.cells #[.int .i64 (K : Int), .string s] 23))).alloc (.cells (bv (List.replicate (5 + s.size) 0)).toArray 5)
  have ho0 := (OwnB.made (w.heap.size + 1) (w.alloc (.cells #[.int .i64 (K : Int), .string s] 23)) (5 + s.size) (by simp) (by omega))
  simp only [World.size_alloc] at ho0
  have ho := Lib.hid ho0
  clear ho0
  go_enter Try.func11, Try.ntmps11
  go_wp2_with (first
    | (at_builtin; refine wpList_append_st rfl _ _ rfl (w.heap.size + 1) _ _ rfl ho.out _ rfl ?_ ?_ ?_; (· simp [be_length]; omega); (· omega); intro v' w9 ho9 hc9; replace hv := hc9 (w.alloc (.cells #[.int .i64 (K : Int), .string s] 23)) (by simp) hv; replace hx := (hv.block (by simp)).trans hx0; have hvs := hv.size; simp only [World.size_alloc] at hvs; rw [hH.out] at ho9; replace ho := Lib.hid ho9; clear ho9 hc9; have hcv := ho.out.str (by rw [hHl]; omega); obtain ⟨x0, x1, hxs⟩ := row2 hx)
    | (go_at_call 25; refine (appendPair_any (w.heap.size + 1) _ _ _ _ ?_ ho.out ?_ ?_).mono ?_; (· omega); (· first | (rw [hHl]; omega) | simp); (· omega); rintro e w9 ⟨v', rfl, ho9, hc9⟩; replace hv := hc9 (w.alloc (.cells #[.int .i64 (K : Int), .string s] 23)) (by simp) hv; replace hx := (hv.block (by simp)).trans hx0; have hvs := hv.size; simp only [World.size_alloc] at hvs; replace ho := Lib.hid ho9; clear ho9 hc9; have hcv := ho.out.str (by rw [List.length_append, be_length]; omega); obtain ⟨x0, x1, hxs⟩ := row2 hx)
    | (at_builtin; go_must (refine wpList_append_b1 rfl _ _ rfl (w.heap.size + 1) _ _ rfl (ho.out.calm ((Calm.refl _).alloc _)) _ _ _ _ rfl (heap_new3 _ _ _ _) ?_ ?_ ?_ ?_); (· omega); (· simp only [List.length_nil]; omega); (· simp only [World.size_alloc]; omega); intro v' w9 ho9 hc9; replace hv := hc9 (w.alloc (.cells #[.int .i64 (K : Int), .string s] 23)) (by simp) (hv.alloc _); replace hx := (hv.block (by simp)).trans hx0; have hvs := hv.size; simp only [World.size_alloc] at hvs; replace ho := Lib.hid ho9; clear ho9 hc9; obtain ⟨x0, x1, hxs⟩ := row2 hx)
    | (go_at_call 26; refine (cS _).mono ?_; rintro e w1 ⟨rfl, rfl⟩))
  have hu9 := ((Calm.refl w).alloc (.cells #[.int .i64 (K : Int), .string s] 23)).call hv
  go_ret2
  exact ⟨by rw [hE.out]; rfl, hu9⟩
end Go.Proofs.Ytimfjjnlbfcccaa
