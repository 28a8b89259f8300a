/- The child of a spot, plainly: where it lies, and that it is monotone. No function of the program. -/
import Derived.Test.YtimfjjnlbfcccaaPureN
import Derived.Test.YtimfjjnlbfcccaaPure
namespace Go.Proofs.Ytimfjjnlbfcccaa

theorem pos_iff {k : Int × Int × Int} {t : Int} : ∀ {l : List El}, l.Pairwise Rise → ∀ i (h : i < l.length), i < pos l k t ↔ ¬ sLt k t l[i].key l[i].m
  | [], _, i, h => by simp at h
  | x :: l, hS, i, h => by
    rw [List.pairwise_cons] at hS
    by_cases hx : sLt k t x.key x.m
    · have h0 : pos (x :: l) k t = 0 := by
        unfold pos
        rw [List.countP_eq_zero]
        intro y hy
        simp only [Bool.not_eq_true', decide_eq_false_iff_not, Classical.not_not]
        rcases List.mem_cons.1 hy with rfl | hy
        · exact hx
        · exact sLt_trans hx (hS.1 y hy)
      rw [h0]
      constructor
      · intro h1; omega
      · intro h1
        exfalso
        apply h1
        rcases List.mem_cons.1 (List.getElem_mem h) with h2 | h2
        · rw [h2]; exact hx
        · exact sLt_trans hx (hS.1 _ h2)
    · have h1 : pos (x :: l) k t = pos l k t + 1 := by
        unfold pos
        rw [List.countP_cons_of_pos (by simpa using hx)]
      rw [h1]
      cases i with
      | zero => simpa using hx
      | succ i =>
        have ih := pos_iff (k := k) (t := t) hS.2 i (by simpa using h)
        simpa using ih
theorem pos_mono {l : List El} {k k' : Int × Int × Int} {t t' : Int} (h : ¬ sLt k' t' k t) : pos l k t ≤ pos l k' t' := by
  unfold pos
  refine List.countP_mono_left fun e _ he => ?_
  simp only [Bool.not_eq_true', decide_eq_false_iff_not] at he ⊢
  intro h2
  rcases sLt_tri k t k' t' with h3 | ⟨rfl, rfl⟩ | h3
  · exact he (sLt_trans h3 h2)
  · exact he h2
  · exact h h3
theorem pos_self {l : List El} (hS : l.Pairwise Rise) {j : Nat} (hj : j < l.length) : pos l l[j].key l[j].m = j + 1 := by
  refine pos_part (by omega) (fun i h hi => ?_) (fun i h hi => ?_)
  · rcases Nat.lt_or_ge i j with h1 | h1
    · exact sLt_asymm (List.pairwise_iff_getElem.1 hS i j h hj h1)
    · obtain rfl : i = j := by omega
      exact sLt_irrefl _ _
  · exact List.pairwise_iff_getElem.1 hS j i hj h (by omega)
theorem scmp_le {p o f m p' o' f' m' : Int} : scmp p o f m p' o' f' m' ≤ 0 ↔ ¬ sLt (p', o', f') m' (p, o, f) m := by
  have h := scmp_sLt (a := ⟨p', o', f', m', 0, ByteArray.empty⟩) (b := ⟨p, o, f, m, 0, ByteArray.empty⟩)
  have h2 := scmp_sLt (a := ⟨p, o, f, m, 0, ByteArray.empty⟩) (b := ⟨p', o', f', m', 0, ByteArray.empty⟩)
  simp only [El.key] at h h2
  have h0 : scmp p o f m p' o' f' m' = 0 ↔ (p, o, f) = (p', o', f') ∧ m = m' := by rw [scmp_eq, kcmp_key]
  rcases sLt_tri (p, o, f) m (p', o', f') m' with h1 | h1 | h1
  · rw [h2.2 h1]; exact ⟨fun _ => sLt_asymm h1, fun _ => by omega⟩
  · rw [h0.2 h1]
    obtain ⟨e1, e2⟩ := h1
    rw [e1, e2]
    exact ⟨fun _ => sLt_irrefl _ _, fun _ => by omega⟩
  · constructor
    · intro h3
      rcases scmp_or p o f m p' o' f' m' with h4 | h4 | h4
      · exact sLt_asymm (h2.1 h4)
      · obtain ⟨e1, e2⟩ := h0.1 h4
        rw [e1, e2]; exact sLt_irrefl _ _
      · omega
    · intro h3; exact absurd h1 h3
theorem scmp_neg {p o f m p' o' f' m' : Int} : scmp p o f m p' o' f' m' < 0 ↔ sLt (p, o, f) m (p', o', f') m' := by
  have h2 := scmp_sLt (a := ⟨p, o, f, m, 0, ByteArray.empty⟩) (b := ⟨p', o', f', m', 0, ByteArray.empty⟩)
  simp only [El.key] at h2
  rw [← h2]
  rcases scmp_or p o f m p' o' f' m' with h | h | h <;> rw [h] <;> omega
end Go.Proofs.Ytimfjjnlbfcccaa
