/- The stages of any number of writes in one forced order. -/
import Derived.Test.YtpmibedgjhjjfaaMB
namespace Go.Proofs.Ytpmibedgjhjjfaa
open Go.RowKit
section
variable {P : Program} {ops : Array Oper}
/-- So many of the writes have been, in their order. -/
def ChainS (n : Nat) (A : Nat → (Nat → Value) → World → Prop) : Stages := fun bs Y w => ∃ m, m ≤ n ∧ bs = List.replicate m true ++ List.replicate (n - m) false ∧ A m Y w
variable {late : List Nat} {A : Nat → (Nat → Value) → World → Prop} {Y : Nat → Value} {L : Nat → Bool} {w : World}
set_option maxRecDepth 100000 in
theorem chain_at {m n j : Nat} (hj : j < n) (hm : m ≤ n) : (List.replicate m true ++ List.replicate (n - m) false)[j]? = some (decide (j < m)) := by
  rw [List.getElem?_append, List.length_replicate]
  split
  · rw [List.getElem?_replicate, if_pos (by assumption), decide_eq_true (by assumption)]
  · rw [List.getElem?_replicate, if_pos (by omega), decide_eq_false (by assumption)]
set_option maxRecDepth 100000 in
theorem ChainS.upto {m : Nat} {i : Nat} (h : ChainS late.length A (late.map L) Y w) (hi : late[m]? = some i) (hl : L i = false) : ∃ k, k ≤ m ∧ A k Y w := by
  obtain ⟨k, hk, hb, hA⟩ := h
  refine ⟨k, ?_, hA⟩
  have hml : m < late.length := (List.getElem?_eq_some_iff.1 hi).1
  have h1 := congrArg (·[m]?) hb
  simp only [List.getElem?_map, hi, Option.map_some, chain_at hml hk, hl, Option.some.injEq] at h1
  have := of_decide_eq_false h1.symm
  omega
set_option maxRecDepth 100000 in
theorem ChainS.any (h : ChainS late.length A (late.map L) Y w) : ∃ k, k ≤ late.length ∧ A k Y w := by
  obtain ⟨k, hk, _, hA⟩ := h
  exact ⟨k, hk, hA⟩
set_option maxRecDepth 100000 in
theorem ChainS.step {m : Nat} {i : Nat} (h : ChainS late.length A (late.map L) Y w) (hi : late[m]? = some i) (hl : L i = false) (hp : ∀ j, 0 < m → late[m - 1]? = some j → L j = true) (hd : late.Nodup) :
    A m Y w ∧ ∀ y w', A (m + 1) (updV Y i y) w' → ChainS late.length A (late.map (updB L i)) (updV Y i y) w' := by
  obtain ⟨k, hk, hb, hA⟩ := h
  have hml : m < late.length := (List.getElem?_eq_some_iff.1 hi).1
  have key : ∀ j, j < late.length → L (late[j]!) = decide (j < k) := fun j hj => by
    have h1 := congrArg (·[j]?) hb
    simp only [List.getElem?_map, List.getElem?_eq_getElem hj, Option.map_some, chain_at hj hk, Option.some.injEq] at h1
    rw [← h1]; congr 1; simp [hj]
  have hmk : k = m := by
    have h1 := key m hml
    rw [show late[m]! = i from by simp [hi], hl] at h1
    have h2 := of_decide_eq_false h1.symm
    rcases Nat.eq_zero_or_pos m with h0 | h0
    · omega
    · have hm1 : m - 1 < late.length := by omega
      have h3 := key (m - 1) hm1
      rw [hp _ h0 (by rw [List.getElem?_eq_getElem hm1]; simp [hm1])] at h3
      have := of_decide_eq_true h3.symm
      omega
  subst hmk
  refine ⟨hA, fun y w' h' => ⟨k + 1, hml, ?_, h'⟩⟩
  apply List.ext_getElem?
  intro j
  by_cases hj : j < late.length
  · rw [chain_at hj hml, List.getElem?_map, List.getElem?_eq_getElem hj]
    simp only [Option.map_some, Option.some.injEq, updB]
    have h1 := key j hj
    rw [show late[j]! = late[j] from by simp [hj]] at h1
    by_cases he : late[j] = i
    · have : j = k := by
        have h2 := (List.getElem?_eq_some_iff.1 hi).2
        have h3 := he.trans h2.symm
        have h4 := List.pairwise_iff_getElem.1 hd
        rcases Nat.lt_trichotomy j k with h5 | h5 | h5
        · exact absurd h3 (h4 j k hj hml h5)
        · exact h5
        · exact absurd h3.symm (h4 k j hml hj h5)
      subst this
      rw [if_pos he]; simp
    · rw [if_neg he, h1]
      have : j ≠ k := fun e => he (by subst e; exact (List.getElem?_eq_some_iff.1 hi).2)
      by_cases hjk : j < k
      · rw [decide_eq_true hjk, decide_eq_true (by omega)]
      · rw [decide_eq_false hjk, decide_eq_false (by omega)]
  · rw [List.getElem?_eq_none (by simpa using hj), List.getElem?_eq_none (by simp; omega)]
set_option maxRecDepth 100000 in
theorem ChainS.done (h : ChainS late.length A (late.map fun _ => true) Y w) : A late.length Y w := by
  obtain ⟨k, hk, hb, hA⟩ := h
  rcases Nat.lt_or_ge k late.length with hlt | hge
  · have h1 := congrArg (·[k]?) hb
    simp only [List.getElem?_map, List.getElem?_eq_getElem hlt, Option.map_some, chain_at hlt hk, Option.some.injEq] at h1
    simp at h1
  · rw [show late.length = k from by omega]; exact hA
set_option maxRecDepth 100000 in
theorem ChainS.start (h : A 0 Y w) : ChainS late.length A (late.map fun _ => false) Y w := ⟨0, Nat.zero_le _, by rw [List.replicate_zero, List.nil_append]; exact List.eq_replicate_iff.2 ⟨by simp, by simp⟩, h⟩
set_option maxRecDepth 100000 in
theorem ChainS.stay {n : Nat} (hc : ∀ m Y w w', A m Y w → Calm w w' → A m Y w') : ∀ bs Y w w', ChainS n A bs Y w → Calm w w' → ChainS n A bs Y w' :=
  fun _ _ _ _ ⟨m, h1, h2, h3⟩ hb => ⟨m, h1, h2, hc _ _ _ _ h3 hb⟩
end
end Go.Proofs.Ytpmibedgjhjjfaa
