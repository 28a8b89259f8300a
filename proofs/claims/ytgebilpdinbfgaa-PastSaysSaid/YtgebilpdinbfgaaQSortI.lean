/- slices.Sort and slices.Compact at []int, of a row that the call owns. -/
import Derived.Test.YtgebilpdinbfgaaShelf
import Derived.Sort.OwnSortedInts
import Derived.Test.YtgebilpdinbfgaaML
namespace Go.Proofs.Ytgebilpdinbfgaa
open Go.RowKit

set_option maxRecDepth 100000 in
theorem grownBy_put {w : World} {g n : Nat} (d : Array Int) : w.grownBy (Sort.putRow (Value.int .i64) (Sort.ahead w n) g 0 d) (some g) := by
  have h := grownBy_sortedI (w := w) (g := g) (n := n) (os := #[]) d
  rwa [Sort.grow_empty] at h
/-- Sorted as slices.Sort does. -/
def sortI (N : List Int) : List Int := N.mergeSort fun x y => decide (x ≤ y)
set_option maxRecDepth 100000 in
theorem sortI_perm (N : List Int) : (sortI N).Perm N := List.mergeSort_perm _ _
set_option maxRecDepth 100000 in
theorem sortI_len (N : List Int) : (sortI N).length = N.length := (sortI_perm N).length_eq
set_option maxRecDepth 100000 in
theorem sortI_sorted (N : List Int) : (sortI N).Pairwise (· ≤ ·) := by
  have h := List.pairwise_mergeSort (le := fun x y : Int => decide (x ≤ y)) (by intro a b c h1 h2; simp at *; omega) (by intro a b; simp; omega) N
  exact h.imp (by intro a b h; simpa using h)
set_option maxRecDepth 100000 in
theorem sort_any (B : Nat) (v : Value) (N : List Int) (w : World) (h : OwnI B w v N) (h0 : 0 < N.length) (hN : N.length ≤ 1000000) :
    Calls Try.prog 24 #[v] w fun e w' => e = .returned (.tuple #[]) ∧ OwnI B w' v (sortI N) ∧ w.grownBy w' v.ownBlock := by
  rcases h.2 with ⟨rfl, hz⟩ | ⟨g, cap, cur, rfl, hg, hb, hnc, hcm, hsz, ht⟩
  · omega
  have hg2 : g < w.heap.size := (Array.getElem?_eq_some_iff.1 hb).1
  rw [Nat.mul_one] at ht
  refine (Try.slices_Sort_int g 0 cap N w (holds_of_blockI hb ht) hg2 (by omega)).mono ?_
  rintro e w' ⟨rfl, n, os, rfl⟩
  refine ⟨rfl, ?_, grownBy_sortedI _⟩
  unfold OwnI
  rw [sortI_len]
  exact ownsRow_sortedI (ss := N) (ts := sortI N) (sortI_len N) hg hb hnc hcm (by simpa using hsz)
set_option maxRecDepth 100000 in
/-- How long slices.Compact leaves it. -/
theorem compact_any (B : Nat) (v : Value) (N : List Int) (w : World) (h : OwnI B w v N) (h0 : 0 < N.length) (hN : N.length ≤ 1000000) :
    Calls Try.prog 25 #[v] w fun e w' => ∃ A c, e = .returned (.slice A (Lib.compact N).length c) ∧ w.grownBy w' v.ownBlock := by
  rcases h.2 with ⟨rfl, hz⟩ | ⟨g, cap, cur, rfl, hg, hb, hnc, hcm, hsz, ht⟩
  · omega
  rw [Nat.mul_one] at ht
  refine (Try.slices_Compact_int g 0 cap N w (holds_of_blockI hb ht) (by omega) hnc).mono ?_
  rintro e w' ⟨rfl, q, rfl⟩
  exact ⟨_, _, rfl, grownBy_put _⟩
set_option maxRecDepth 100000 in
theorem compact_len {N : List Int} (hs : N.Pairwise (· ≤ ·)) : (Lib.compact N).length = N.length ↔ N.Nodup := by
  unfold Lib.compact Lib.compactUpTo
  rw [List.length_map]
  have key : ((List.range N.length).filter (Lib.keeps N.toArray)).length = N.length ↔ ∀ i, i < N.length → Lib.keeps N.toArray i = true := by
    constructor
    · intro h i hi
      have h2 : ((List.range N.length).filter (Lib.keeps N.toArray)).length = (List.range N.length).length := by rw [h, List.length_range]
      exact List.length_filter_eq_length_iff.1 h2 i (List.mem_range.2 hi)
    · intro h
      rw [List.filter_eq_self.2 fun i hi => h i (List.mem_range.1 hi), List.length_range]
  rw [key]
  constructor
  · intro h
    rw [List.nodup_iff_pairwise_ne, List.pairwise_iff_getElem]
    intro i j hi hj hij he
    have h1 := List.pairwise_iff_getElem.1 hs
    have h2 := h j hj
    have h3 : N[j - 1] = N[j] := by
      have a : N[i] ≤ N[j - 1] := by
        rcases Nat.lt_or_ge i (j - 1) with h4 | h4
        · exact h1 i (j - 1) hi (by omega) h4
        · have : i = j - 1 := by omega
          subst this; omega
      have b := h1 (j - 1) j (by omega) hj (by omega)
      omega
    have h4 : decide (j = 0 ∨ N.toArray[j]! ≠ N.toArray[j - 1]!) = true := h2
    have hj1 : j - 1 < N.length := by omega
    rcases of_decide_eq_true h4 with h5 | h5
    · omega
    · apply h5
      rw [show N.toArray[j]! = N[j] by simp [hj], show N.toArray[j - 1]! = N[j - 1] by simp [hj1]]
      exact h3.symm
  · intro h i hi
    show decide (i = 0 ∨ N.toArray[i]! ≠ N.toArray[i - 1]!) = true
    apply decide_eq_true
    by_cases h0 : i = 0
    · exact .inl h0
    · refine .inr fun he => ?_
      have hj1 : i - 1 < N.length := by omega
      rw [show N.toArray[i]! = N[i] by simp [hi], show N.toArray[i - 1]! = N[i - 1] by simp [hj1]] at he
      exact List.pairwise_iff_getElem.1 h (i - 1) i hj1 hi (by omega) he.symm
end Go.Proofs.Ytgebilpdinbfgaa
