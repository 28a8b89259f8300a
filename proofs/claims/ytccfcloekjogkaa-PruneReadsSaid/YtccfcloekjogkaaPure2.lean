/- Plain mathematics: reading a run at a time. -/
import Derived.Test.YtccfcloekjogkaaPure
namespace Go.Proofs.Ytccfcloekjogkaa

/-- Is it a record of k that is live at t? -/
def isAt (k : Int × Int × Int) (t : Int) (e : El) : Bool := decide (e.key = k ∧ e.live t)
def zeroEl : El := ⟨0, 0, 0, 0, 0, { data := #[] }⟩
/-- The record of k that is live at t. -/
def atR (l : List El) (k : Int × Int × Int) (t : Int) : Option El := l.find? (isAt k t)
def kErr (k : Int × Int × Int) : Int := keyErr k.1 k.2.1 k.2.2
def askErr (l : List El) (ks : List (Int × Int × Int)) : Int := if runErr l = 0 then firstErr (fun i => kErr (ks.getD i (0, 0, 0))) ks.length else runErr l
def askErr1 (l : List El) (k : Int × Int × Int) : Int := if runErr l = 0 then kErr k else runErr l
def atErr (l : List El) (k : Int × Int × Int) (t : Int) : Int := if askErr1 l k = 0 then (if (atR l k t).isSome then 0 else 4) else askErr1 l k
def atVal (l : List El) (k : Int × Int × Int) (t : Int) : El := if askErr1 l k = 0 then (atR l k t).getD zeroEl else zeroEl

set_option maxRecDepth 100000 in
theorem uniqAt {l : List El} (h : l.Pairwise Fol) {k : Int × Int × Int} {t : Int} {i j : Nat} (hi : i < l.length) (hj : j < l.length) (h1 : isAt k t l[i] = true) (h2 : isAt k t l[j] = true) : i = j := by
  unfold isAt at h1 h2
  rw [decide_eq_true_eq] at h1 h2
  have key : ∀ a b (ha : a < l.length) (hb : b < l.length), a < b → (l[a].key = k ∧ l[a].live t) → (l[b].key = k ∧ l[b].live t) → False := fun a b ha hb hab p q => by
    have hF := (List.pairwise_iff_getElem.1 h a b ha hb hab).2 (p.1.trans q.1.symm)
    have p2 := p.2; have q2 := q.2
    unfold El.live liveP at p2 q2
    omega
  rcases Nat.lt_trichotomy i j with h3 | h3 | h3
  · exact (key i j hi hj h3 h1 h2).elim
  · exact h3
  · exact (key j i hj hi h3 h2 h1).elim

set_option maxRecDepth 100000 in
theorem find_of {l : List El} (h : l.Pairwise Fol) {k : Int × Int × Int} {t : Int} {i : Nat} (hi : i < l.length) (h1 : isAt k t l[i] = true) : atR l k t = some l[i] := by
  unfold atR
  have hs : (l.find? (isAt k t)).isSome = true := by rw [List.find?_isSome]; exact ⟨_, List.getElem_mem hi, h1⟩
  obtain ⟨e, he⟩ := Option.isSome_iff_exists.1 hs
  rw [he]
  have hp := List.find?_some he
  obtain ⟨j, hj, rfl⟩ := List.getElem_of_mem (List.mem_of_find?_eq_some he)
  have := uniqAt h hj hi hp h1
  subst this; rfl
set_option maxRecDepth 100000 in
theorem find_none {l : List El} {k : Int × Int × Int} {t : Int} (h : ∀ e ∈ l, isAt k t e = false) : atR l k t = none := by
  unfold atR; rw [List.find?_eq_none]; intro e he; simp [h e he]

/-- How many records have a spot up to (k, t). -/
def pos (l : List El) (k : Int × Int × Int) (t : Int) : Nat := l.countP (fun e => !decide (sLt k t e.key e.m))
set_option maxRecDepth 100000 in
theorem pos_le (l : List El) (k : Int × Int × Int) (t : Int) : pos l k t ≤ l.length := List.countP_le_length
set_option maxRecDepth 100000 in
theorem pos_part {l : List El} {k : Int × Int × Int} {t : Int} {c : Nat} (hc : c ≤ l.length) (h1 : ∀ i (h : i < l.length), i < c → ¬ sLt k t l[i].key l[i].m) (h2 : ∀ i (h : i < l.length), c ≤ i → sLt k t l[i].key l[i].m) : pos l k t = c := by
  unfold pos
  rw [← List.take_append_drop c l, List.countP_append]
  have e1 : (l.take c).countP (fun e => !decide (sLt k t e.key e.m)) = (l.take c).length := by
    rw [List.countP_eq_length]
    intro e he
    obtain ⟨i, hi, rfl⟩ := List.getElem_of_mem he
    simp at hi
    simp only [List.getElem_take, Bool.not_eq_true', decide_eq_false_iff_not]
    exact h1 i (by omega) (by omega)
  have e2 : (l.drop c).countP (fun e => !decide (sLt k t e.key e.m)) = 0 := by
    rw [List.countP_eq_zero]
    intro e he
    obtain ⟨i, hi, rfl⟩ := List.getElem_of_mem he
    simp at hi
    simp only [List.getElem_drop, Bool.not_eq_true', decide_eq_false_iff_not, Classical.not_not]
    exact h2 (c + i) (by omega) (by omega)
  rw [e1, e2]; simp; omega

/-- Is the record at c - 1 one of k that is live at t? -/
def hitB (l : List El) (c : Nat) (k : Int × Int × Int) (t : Int) : Bool :=
  match l[c - 1]? with
  | some e => decide (0 < c ∧ e.key = k ∧ e.live t)
  | none => false
set_option maxRecDepth 100000 in
theorem hitB_none {l : List El} (k : Int × Int × Int) (t : Int) : hitB l 0 k t = false := by
  unfold hitB; split <;> simp
set_option maxRecDepth 100000 in
theorem hitB_some {l : List El} {c : Nat} {k : Int × Int × Int} {t : Int} {e : El} (h0 : 0 < c) (h : l[c - 1]? = some e) : hitB l c k t = decide (e.key = k ∧ e.live t) := by
  unfold hitB; rw [h]; simp [h0]

/-! ### the record at pos - 1 -/
set_option maxRecDepth 100000 in
theorem pos_spec {l : List El} (h : l.Pairwise Fol) (k : Int × Int × Int) (t : Int) : (∀ i (hi : i < l.length), i < pos l k t → ¬ sLt k t l[i].key l[i].m) ∧ (∀ i (hi : i < l.length), pos l k t ≤ i → sLt k t l[i].key l[i].m) := by
  have M : ∀ i j (hi : i < l.length) (hj : j < l.length), i ≤ j → sLt k t l[i].key l[i].m → sLt k t l[j].key l[j].m := fun i j hi hj hij h' => by
    rcases Nat.lt_or_eq_of_le hij with h1 | h1
    · exact sLt_trans h' (List.pairwise_iff_getElem.1 h i j hi hj h1).1
    · subst h1; exact h'
  have E : ∀ n, n ≤ l.length → ∃ c, c ≤ n ∧ (∀ i (hi : i < l.length), i < c → ¬ sLt k t l[i].key l[i].m) ∧ (∀ i (hi : i < l.length), c ≤ i → i < n → sLt k t l[i].key l[i].m) := fun n => by
    induction n with
    | zero => intro _; exact ⟨0, Nat.le_refl _, fun i _ h0 => absurd h0 (Nat.not_lt_zero _), fun i _ _ h0 => absurd h0 (Nat.not_lt_zero _)⟩
    | succ n ih =>
      intro hn
      obtain ⟨c, hc, h1, h2⟩ := ih (by omega)
      by_cases hp : sLt k t l[n].key l[n].m
      · refine ⟨c, by omega, h1, fun i hi hci hin => ?_⟩
        rcases Nat.lt_or_ge i n with h3 | h3
        · exact h2 i hi hci h3
        · rw [show l[i] = l[n] from by congr 1; omega]; exact hp
      · refine ⟨n + 1, Nat.le_refl _, fun i hi hin h3 => ?_, fun i hi h3 h4 => by omega⟩
        exact hp (M i n hi (by omega) (by omega) h3)
  obtain ⟨c, hc, h1, h2⟩ := E l.length (Nat.le_refl _)
  rw [pos_part hc h1 (fun i hi hci => h2 i hi hci hi)]
  exact ⟨h1, fun i hi hci => h2 i hi hci hi⟩
set_option maxRecDepth 100000 in
theorem pos_of_at {l : List El} (h : l.Pairwise Fol) {k : Int × Int × Int} {t : Int} {i : Nat} (hi : i < l.length) (h1 : isAt k t l[i] = true) : pos l k t = i + 1 := by
  unfold isAt at h1
  rw [decide_eq_true_eq] at h1
  obtain ⟨hk, hl⟩ := h1
  unfold El.live liveP at hl
  refine pos_part (by omega) (fun j hj hji h2 => ?_) (fun j hj hij => ?_)
  · rcases Nat.lt_or_eq_of_le (Nat.le_of_lt_succ hji) with h3 | h3
    · have hF := (List.pairwise_iff_getElem.1 h j i hj hi h3).1
      have := sLt_trans h2 hF
      rw [hk, sLt_same] at this; omega
    · subst h3; rw [hk, sLt_same] at h2; omega
  · have hF := List.pairwise_iff_getElem.1 h i j hi hj (by omega)
    have h5 := hF.1
    rw [hk] at h5
    rcases h5 with h5 | ⟨h5, h6⟩
    · exact .inl h5
    · have := hF.2 (hk.trans h5); exact .inr ⟨h5, by omega⟩
set_option maxRecDepth 100000 in
theorem hitB_pos {l : List El} (h : l.Pairwise Fol) (k : Int × Int × Int) (t : Int) :
    (hitB l (pos l k t) k t = true ∧ ∃ (hi : pos l k t - 1 < l.length), isAt k t l[pos l k t - 1] = true ∧ 0 < pos l k t ∧ atR l k t = some l[pos l k t - 1]) ∨ (hitB l (pos l k t) k t = false ∧ atR l k t = none ∧ ∀ e ∈ l, isAt k t e = false) := by
  by_cases hx : ∃ e ∈ l, isAt k t e = true
  · obtain ⟨e, he, hp⟩ := hx
    obtain ⟨i, hi, rfl⟩ := List.getElem_of_mem he
    have hpos := pos_of_at h hi hp
    left
    have h1 : pos l k t - 1 = i := by omega
    refine ⟨?_, by omega, ?_, by omega, ?_⟩
    · rw [hitB_some (by omega) (by rw [h1]; exact List.getElem?_eq_getElem hi)]; exact hp
    · simp only [h1]; exact hp
    · simp only [h1]; exact find_of h hi hp
  · have hn : ∀ e ∈ l, isAt k t e = false := fun e he => by
      cases hp : isAt k t e
      · rfl
      · exact absurd ⟨e, he, hp⟩ hx
    right
    refine ⟨?_, find_none hn, hn⟩
    unfold hitB
    split
    · rename_i e he
      have := hn e (List.mem_of_getElem? he)
      unfold isAt at this
      rw [decide_eq_false_iff_not] at this ⊢
      exact fun h2 => this h2.2
    · rfl

/-! ### ranges -/
def inR (lo hi : Int × Int × Int) (t : Int) (e : El) : Bool := decide (¬ kLt e.key lo ∧ ¬ kLt hi e.key ∧ e.live t)
def rangeR (l : List El) (lo hi : Int × Int × Int) (t : Int) : List El := l.filter (inR lo hi t)
def rgErr (l : List El) (lo hi : Int × Int × Int) : Int := if runErr l = 0 then (if kErr lo = 0 then kErr hi else kErr lo) else runErr l
set_option maxRecDepth 100000 in
theorem rangeR_take {l : List El} {k : Nat} {e : El} (h : l[k]? = some e) (lo hi : Int × Int × Int) (t : Int) : rangeR (l.take (k + 1)) lo hi t = rangeR (l.take k) lo hi t ++ (if inR lo hi t e then [e] else []) := by
  obtain ⟨hk, he⟩ := List.getElem?_eq_some_iff.1 h
  unfold rangeR
  rw [List.take_succ_eq_append_getElem hk, List.filter_append, he]
  by_cases hi : inR lo ‹_› t e <;> simp [hi]
set_option maxRecDepth 100000 in
theorem rangeR_le (l : List El) (lo hi : Int × Int × Int) (t : Int) : (rangeR l lo hi t).length ≤ l.length := List.length_filter_le _ _

end Go.Proofs.Ytccfcloekjogkaa
