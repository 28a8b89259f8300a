/- Parts of runs, plainly: what is left out, what is cut. No function of the program. -/
import Derived.Test.YtccfcloekjogkaaPure2
namespace Go.Proofs.Ytccfcloekjogkaa

set_option maxRecDepth 100000 in
theorem good_sub {l l' : List El} (h : Good l) (hs : l'.Sublist l) : Good l' :=
  ⟨Nat.le_trans hs.length_le h.1, fun e he => h.2.1 e (hs.subset he), h.2.2.sublist hs⟩
set_option maxRecDepth 100000 in
theorem latest_sub {l l' : List El} (hs : l'.Sublist l) : latest l' ≤ latest l := latest_le (latest_nonneg l) fun _ he => latest_ge (hs.subset he)
def isK (k : Int × Int × Int) (e : El) : Bool := decide (e.key = k)
def delR (l : List El) (k : Int × Int × Int) : List El := l.filter fun e => !isK k e
set_option maxRecDepth 100000 in
theorem delR_take {l : List El} {j : Nat} {e : El} (h : l[j]? = some e) (k : Int × Int × Int) : delR (l.take (j + 1)) k = delR (l.take j) k ++ (if isK k e = true then [] else [e]) := by
  obtain ⟨hj, he⟩ := List.getElem?_eq_some_iff.1 h
  unfold delR
  rw [List.take_succ_eq_append_getElem hj, List.filter_append, he]
  congr 1
  cases hk : isK k e <;> simp [hk]
set_option maxRecDepth 100000 in
theorem delR_len (l : List El) (k : Int × Int × Int) : (delR l k).length ≤ l.length := List.length_filter_le _ _
/-- Where a deletion stands: j records have been looked at, i have been kept and stand in front. -/
def Dels (l : List El) (k : Int × Int × Int) (i j : Nat) (L : List El) : Prop := L.length = l.length ∧ L.take i = delR (l.take j) k ∧ L.drop j = l.drop j
set_option maxRecDepth 100000 in
theorem Dels.at_ {l L : List El} {k : Int × Int × Int} {i j : Nat} (h : Dels l k i j L) : L[j]? = l[j]? := by
  have := congrArg (·[0]?) h.2.2
  simpa using this
set_option maxRecDepth 100000 in
theorem Dels.skip {l L : List El} {k : Int × Int × Int} {i j : Nat} {e : El} (h : Dels l k i j L) (he : l[j]? = some e) (hk : isK k e = true) : Dels l k i (j + 1) L := by
  obtain ⟨h1, h2, h3⟩ := h
  refine ⟨h1, ?_, ?_⟩
  · rw [delR_take he, if_pos hk, List.append_nil, h2]
  · rw [← List.drop_drop, ← List.drop_drop, h3]
set_option maxRecDepth 100000 in
theorem Dels.keep {l L : List El} {k : Int × Int × Int} {i j : Nat} {e : El} (h : Dels l k i j L) (hij : i ≤ j) (he : l[j]? = some e) (hk : isK k e = false) : Dels l k (i + 1) (j + 1) (L.set i e) := by
  obtain ⟨h1, h2, h3⟩ := h
  have hj := (List.getElem?_eq_some_iff.1 he).1
  refine ⟨by simpa using h1, ?_, ?_⟩
  · have hi : i < (L.set i e).length := by rw [List.length_set]; omega
    rw [delR_take he, if_neg (by rw [hk]; simp), List.take_succ_eq_append_getElem hi, List.take_set_of_le (Nat.le_refl _), h2, List.getElem_set_self]
  · rw [List.drop_set_of_lt (by omega), ← List.drop_drop, ← List.drop_drop, h3]
set_option maxRecDepth 100000 in
theorem Dels.first {l : List El} {k : Int × Int × Int} {i : Nat} (hi : i < l.length) (h1 : isK k l[i] = true) (h0 : ∀ j (hj : j < l.length), j < i → isK k l[j] = false) : Dels l k i (i + 1) l := by
  refine ⟨rfl, ?_, rfl⟩
  rw [delR_take (List.getElem?_eq_getElem hi), if_pos h1, List.append_nil]
  unfold delR
  symm
  rw [List.filter_eq_self]
  intro e he
  obtain ⟨j, hj, rfl⟩ := List.getElem_of_mem he
  rw [List.length_take] at hj
  rw [List.getElem_take, h0 j (by omega) (by omega)]
  rfl
set_option maxRecDepth 100000 in
theorem Dels.end_ {l L : List El} {k : Int × Int × Int} {i : Nat} (h : Dels l k i l.length L) : L.take i = delR l k := by
  have := h.2.1
  rwa [List.take_length] at this
set_option maxRecDepth 100000 in
theorem delR_none {l : List El} {k : Int × Int × Int} (h : ∀ e ∈ l, isK k e = false) : delR l k = l := by
  unfold delR
  rw [List.filter_eq_self]
  intro e he
  rw [h e he]; rfl
set_option maxRecDepth 100000 in
theorem delR_sub (l : List El) (k : Int × Int × Int) : (delR l k).Sublist l := List.filter_sublist
def FIK (l : List El) (k : Int × Int × Int) (r : Int) : Prop := (r = -1 ∧ ∀ e ∈ l, isK k e = false) ∨ (∃ (i : Nat) (h : i < l.length), r = i ∧ isK k l[i] = true ∧ ∀ j (hj : j < l.length), j < i → isK k l[j] = false)
set_option maxRecDepth 100000 in
theorem FIK_ex (l : List El) (k : Int × Int × Int) : ∃ r, FIK l k r := by
  have E : ∀ n, n ≤ l.length → (∃ (i : Nat) (h : i < l.length), isK k l[i] = true ∧ ∀ j (hj : j < l.length), j < i → isK k l[j] = false) ∨ ∀ j (hj : j < l.length), j < n → isK k l[j] = false := fun n => by
    induction n with
    | zero => intro _; right; intro j hj h0; omega
    | succ n ih =>
      intro hn
      rcases ih (by omega) with h | h
      · exact .inl h
      · cases hp : isK k l[n]
        · right; intro j hj h1
          rcases Nat.lt_or_ge j n with h2 | h2
          · exact h j hj h2
          · rw [show l[j] = l[n] from by congr 1; omega]; exact hp
        · exact .inl ⟨n, by omega, hp, h⟩
  rcases E l.length (Nat.le_refl _) with ⟨i, h, h1, h2⟩ | h
  · exact ⟨i, .inr ⟨i, h, rfl, h1, h2⟩⟩
  · exact ⟨-1, .inl ⟨rfl, fun e he => by obtain ⟨j, hj, rfl⟩ := List.getElem_of_mem he; exact h j hj hj⟩⟩
end Go.Proofs.Ytccfcloekjogkaa
