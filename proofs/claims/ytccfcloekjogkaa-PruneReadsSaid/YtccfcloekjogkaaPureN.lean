/- Nodes, plainly: what is wrong with one, its greatest time, the child of a spot. No function of the program. -/
import Derived.Test.YtccfcloekjogkaaPure2
namespace Go.Proofs.Ytccfcloekjogkaa

/-- A spot. -/
structure Sp where
  p : Int
  o : Int
  f : Int
  m : Int
def Sp.el (s : Sp) : El := ⟨s.p, s.o, s.f, s.m, 0, { data := #[] }⟩
def Rise (a b : El) : Prop := sLt a.key a.m b.key b.m
instance (a b : El) : Decidable (Rise a b) := inferInstanceAs (Decidable (sLt _ _ _ _))
/-- What is wrong with the record at i, in a row whose spots must rise. -/
def sStep (l : List El) (i : Nat) : Int :=
  match l[i]? with
  | none => 0
  | some e => if e.err ≠ 0 then e.err else
    match (if i = 0 then none else l[i - 1]?) with
    | none => 0
    | some q => if Rise q e then 0 else 3
def elsErr (l : List El) : Int := firstErr (sStep l) l.length

set_option maxRecDepth 100000 in
theorem sStep_zero {l : List El} {i : Nat} (hi : i < l.length) : sStep l i = 0 ↔ l[i].err = 0 ∧ (∀ h : 0 < i, Rise (l[i - 1]'(by omega)) l[i]) := by
  unfold sStep
  rw [List.getElem?_eq_getElem hi]
  simp only
  by_cases he : l[i].err = 0
  · rw [if_neg (by simpa using he)]
    by_cases h0 : i = 0
    · subst h0; simp [he]
    · rw [if_neg h0, List.getElem?_eq_getElem (by omega)]
      simp only
      by_cases hF : Rise (l[i - 1]'(by omega)) l[i]
      · simp [hF, he]
      · simp only [hF, if_false]
        constructor
        · intro h; omega
        · intro h; exact absurd (h.2 (by omega)) id
  · rw [if_pos he]; simp [he]
set_option maxRecDepth 100000 in
theorem rise_pairwise {l : List El} (h : ∀ i (hi : i + 1 < l.length), Rise l[i] l[i + 1]) : l.Pairwise Rise := by
  rw [List.pairwise_iff_getElem]
  intro i j hi hj hij
  obtain ⟨d, rfl⟩ : ∃ d, j = i + 1 + d := ⟨j - (i + 1), by omega⟩
  induction d with
  | zero => exact h i hj
  | succ d ih => exact sLt_trans (ih (by omega) (by omega)) (h (i + 1 + d) hj)
set_option maxRecDepth 100000 in
theorem elsErr_zero {l : List El} : elsErr l = 0 ↔ (∀ e ∈ l, e.err = 0) ∧ l.Pairwise Rise := by
  unfold elsErr
  rw [firstErr_zero]
  constructor
  · intro h
    refine ⟨fun e he => ?_, rise_pairwise fun i hi => ((sStep_zero hi).1 (h (i + 1) hi)).2 (by omega)⟩
    obtain ⟨i, hi, rfl⟩ := List.getElem_of_mem he
    exact ((sStep_zero hi).1 (h i hi)).1
  · rintro ⟨h1, h2⟩ i hi
    rw [sStep_zero hi]
    exact ⟨h1 _ (List.getElem_mem _), fun h => List.pairwise_iff_getElem.1 h2 (i - 1) i (by omega) hi (by omega)⟩
set_option maxRecDepth 100000 in
theorem sStep_err {l : List El} {k : Nat} {e : El} (h : l[k]? = some e) (he : e.err ≠ 0) : sStep l k = e.err := by
  unfold sStep; rw [h]; simp only; rw [if_pos he]
set_option maxRecDepth 100000 in
theorem sStep_form {l : List El} {k : Nat} {e d : El} (h : l[k]? = some e) (he : e.err = 0) (h0 : 0 < k) (hd : l[k - 1]? = some d) : sStep l k = if Rise d e then 0 else 3 := by
  unfold sStep; rw [h]; simp only; rw [if_neg (by simpa using he), if_neg (by omega), hd]
set_option maxRecDepth 100000 in
theorem sStep_first {l : List El} {e : El} (h : l[0]? = some e) (he : e.err = 0) : sStep l 0 = 0 := by
  unfold sStep; rw [h]; simp only; rw [if_neg (by simpa using he)]; rfl
def NoStep (l : List El) (k : Nat) : Prop := ∀ j, j < k → sStep l j = 0
set_option maxRecDepth 100000 in
theorem NoStep.zero (l : List El) : NoStep l 0 := fun _ hj => absurd hj (Nat.not_lt_zero _)
set_option maxRecDepth 100000 in
theorem NoStep.succ {l : List El} {k : Nat} (h : NoStep l k) (hk : sStep l k = 0) : NoStep l (k + 1) := fun j hj => by
  rcases Nat.lt_or_ge j k with h1 | h1
  · exact h j h1
  · rw [show j = k by omega]; exact hk
set_option maxRecDepth 100000 in
theorem NoStep.bad {l : List El} {k : Nat} (h : NoStep l k) (hk : sStep l k ≠ 0) (hlt : k < l.length) : sStep l k = elsErr l := (firstErr_at h hk hlt).symm
set_option maxRecDepth 100000 in
theorem NoStep.good {l : List El} {k : Nat} (h : NoStep l k) (hk : l.length ≤ k) : 0 = elsErr l := (firstErr_zero.2 fun i hi => h i (by omega)).symm

/-- What is wrong with the child at i. -/
def kStep (K T : List Int) (i : Nat) : Int :=
  match K[i]?, T[i]? with
  | some x, some y => if 0 ≤ x ∧ x ≤ 399 then (if 0 ≤ y ∧ y ≤ 2147483647 then 0 else 9) else 1
  | _, _ => 0
def kidsErr (K T : List Int) : Int := firstErr (kStep K T) K.length
set_option maxRecDepth 100000 in
theorem kStep_at {K T : List Int} {i : Nat} {x y : Int} (h1 : K[i]? = some x) (h2 : T[i]? = some y) : kStep K T i = if 0 ≤ x ∧ x ≤ 399 then (if 0 ≤ y ∧ y ≤ 2147483647 then 0 else 9) else 1 := by
  unfold kStep; rw [h1, h2]
def NoKid (K T : List Int) (k : Nat) : Prop := ∀ j, j < k → kStep K T j = 0
set_option maxRecDepth 100000 in
theorem NoKid.zero (K T : List Int) : NoKid K T 0 := fun _ hj => absurd hj (Nat.not_lt_zero _)
set_option maxRecDepth 100000 in
theorem NoKid.succ {K T : List Int} {k : Nat} (h : NoKid K T k) (hk : kStep K T k = 0) : NoKid K T (k + 1) := fun j hj => by
  rcases Nat.lt_or_ge j k with h1 | h1
  · exact h j h1
  · rw [show j = k by omega]; exact hk
set_option maxRecDepth 100000 in
theorem NoKid.bad {K T : List Int} {k : Nat} (h : NoKid K T k) (hk : kStep K T k ≠ 0) (hlt : k < K.length) : kStep K T k = kidsErr K T := (firstErr_at h hk hlt).symm
set_option maxRecDepth 100000 in
theorem NoKid.good {K T : List Int} {k : Nat} (h : NoKid K T k) (hk : K.length ≤ k) : kidsErr K T = 0 := firstErr_zero.2 fun i hi => h i (by omega)
set_option maxRecDepth 100000 in
theorem kidsErr_zero {K T : List Int} (hl : T.length = K.length) : kidsErr K T = 0 ↔ (∀ x ∈ K, 0 ≤ x ∧ x ≤ 399) ∧ (∀ y ∈ T, 0 ≤ y ∧ y ≤ 2147483647) := by
  unfold kidsErr
  rw [firstErr_zero]
  have key : ∀ i (hi : i < K.length), kStep K T i = 0 ↔ (0 ≤ K[i] ∧ K[i] ≤ 399) ∧ (0 ≤ T[i]'(by omega) ∧ T[i]'(by omega) ≤ 2147483647) := fun i hi => by
    rw [kStep_at (List.getElem?_eq_getElem hi) (List.getElem?_eq_getElem (by omega))]
    by_cases h1 : 0 ≤ K[i] ∧ K[i] ≤ 399
    · by_cases h2 : 0 ≤ T[i]'(by omega) ∧ T[i]'(by omega) ≤ 2147483647
      · simp [h1, h2]
      · simp [h1, h2]
    · simp [h1]
  constructor
  · intro h
    refine ⟨fun x hx => ?_, fun y hy => ?_⟩
    · obtain ⟨i, hi, rfl⟩ := List.getElem_of_mem hx
      exact ((key i hi).1 (h i hi)).1
    · obtain ⟨i, hi, rfl⟩ := List.getElem_of_mem hy
      exact ((key i (by omega)).1 (h i (by omega))).2
  · rintro ⟨h1, h2⟩ i hi
    exact (key i hi).2 ⟨h1 _ (List.getElem_mem _), h2 _ (List.getElem_mem _)⟩

/-! ### A node -/
def freeErr (E : List El) (K : List Int) (S : List Sp) (T : List Int) : Int := if 0 < E.length ∨ 0 < K.length ∨ 0 < S.length ∨ 0 < T.length then 3 else 0
def leafErr (E : List El) (K : List Int) (S : List Sp) (T : List Int) : Int := if 0 < K.length ∨ 0 < S.length ∨ 0 < T.length then 3 else if 8 < E.length then 2 else elsErr E
def formI (E : List El) (K : List Int) (S : List Sp) (T : List Int) : Prop := 0 < E.length ∨ K.length < 2 ∨ S.length + 1 ≠ K.length ∨ T.length ≠ K.length
instance (E : List El) (K : List Int) (S : List Sp) (T : List Int) : Decidable (formI E K S T) := inferInstanceAs (Decidable (_ ∨ _))
def innerErr (E : List El) (K : List Int) (S : List Sp) (T : List Int) : Int :=
  if formI E K S T then 3 else if 8 < K.length then 2 else if kidsErr K T ≠ 0 then kidsErr K T else elsErr (S.map Sp.el)
def ndErr (kd : Int) (E : List El) (K : List Int) (S : List Sp) (T : List Int) : Int :=
  if kd = 0 then freeErr E K S T else if kd = 1 then leafErr E K S T else if kd = 2 then innerErr E K S T else 3

/-- The greatest of some numbers, at least t. -/
def gMax (t : Int) (l : List Int) : Int := l.foldl max t
set_option maxRecDepth 100000 in
theorem gMax_snoc (t : Int) (l : List Int) (x : Int) : gMax t (l ++ [x]) = max (gMax t l) x := by simp [gMax]
set_option maxRecDepth 100000 in
theorem gMax_append (t : Int) (a b : List Int) : gMax t (a ++ b) = gMax (gMax t a) b := by simp [gMax]
set_option maxRecDepth 100000 in
theorem gMax_ge (l : List Int) : ∀ t, t ≤ gMax t l ∧ ∀ x ∈ l, x ≤ gMax t l := by
  induction l with
  | nil => intro t; simp [gMax]
  | cons a l ih =>
    intro t
    obtain ⟨h1, h2⟩ := ih (max t a)
    have e : gMax t (a :: l) = gMax (max t a) l := rfl
    rw [e]
    refine ⟨by omega, fun x hx => ?_⟩
    rcases List.mem_cons.1 hx with rfl | hx
    · omega
    · exact h2 x hx
set_option maxRecDepth 100000 in
theorem gMax_or (l : List Int) : ∀ t, gMax t l = t ∨ gMax t l ∈ l := by
  induction l with
  | nil => intro t; simp [gMax]
  | cons a l ih =>
    intro t
    have e : gMax t (a :: l) = gMax (max t a) l := rfl
    rw [e]
    rcases ih (max t a) with h | h
    · rw [h]
      rcases Int.le_total t a with h1 | h1
      · right; rw [Int.max_eq_right h1]; simp
      · left; exact Int.max_eq_left h1
    · right; exact List.mem_cons_of_mem _ h
set_option maxRecDepth 100000 in
theorem gMax_eq {t : Int} {l : List Int} {m : Int} (h1 : t ≤ m) (h2 : ∀ x ∈ l, x ≤ m) (h3 : m = t ∨ m ∈ l) : gMax t l = m := by
  obtain ⟨g1, g2⟩ := gMax_ge l t
  rcases gMax_or l t with h | h
  · rcases h3 with h3 | h3
    · omega
    · have := g2 m h3; omega
  · have := h2 _ h
    rcases h3 with h3 | h3
    · omega
    · have := g2 m h3; omega
/-- The greatest time of a node. -/
def ndTid (E : List El) (T : List Int) : Int := gMax 0 (E.map El.last ++ T)
set_option maxRecDepth 100000 in
/-- The same by the reference's road: a first number, and the others behind it. -/
theorem gMax_turn (a : Int) (l : List Int) : gMax a (l ++ [0]) = gMax 0 (a :: l) := by
  obtain ⟨g1, g2⟩ := gMax_ge (a :: l) 0
  refine gMax_eq (g2 a (by simp)) (fun x hx => ?_) ?_
  · rcases List.mem_append.1 hx with hx | hx
    · exact g2 x (List.mem_cons_of_mem _ hx)
    · simp at hx; omega
  · rcases gMax_or (a :: l) 0 with h | h
    · right; rw [h]; simp
    · rcases List.mem_cons.1 h with h | h
      · left; exact h
      · right; exact List.mem_append_left _ h
set_option maxRecDepth 100000 in
theorem gMax_swap (t : Int) (a b : List Int) : gMax t (a ++ b) = gMax t (b ++ a) := by
  obtain ⟨g1, g2⟩ := gMax_ge (b ++ a) t
  refine gMax_eq g1 (fun x hx => g2 x ?_) ?_
  · rcases List.mem_append.1 hx with hx | hx
    · exact List.mem_append_right _ hx
    · exact List.mem_append_left _ hx
  · rcases gMax_or (b ++ a) t with h | h
    · left; exact h
    · right
      rcases List.mem_append.1 h with h | h
      · exact List.mem_append_right _ h
      · exact List.mem_append_left _ h

/-- The child of a spot. -/
def ndKid (S : List Sp) (p o f m : Int) : Nat := pos (S.map Sp.el) (p, o, f) m
end Go.Proofs.Ytccfcloekjogkaa
