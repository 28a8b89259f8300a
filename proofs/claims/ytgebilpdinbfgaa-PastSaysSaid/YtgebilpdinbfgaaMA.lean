/- MA: texts of one kind in one file. -/
import Derived.Below
import Derived.Laws.BitsAll
import Derived.IntWalk
/- Plain mathematics: keys, spots, records, runs, and what the document asks of runs. No program here. -/
namespace Go.Proofs.Ytgebilpdinbfgaa

def keyErr (p o f : Int) : Int := if 0 ≤ p ∧ p ≤ 15 ∧ 0 ≤ o ∧ o ≤ 1048576 ∧ 0 ≤ f ∧ f ≤ 1073741824 then 0 else 1
def icmp (a b : Int) : Int := if a < b then -1 else if b < a then 1 else 0
def kcmp (p o f p' o' f' : Int) : Int := if icmp p p' = 0 then (if icmp o o' = 0 then icmp f f' else icmp o o') else icmp p p'
def scmp (p o f m p' o' f' m' : Int) : Int := if kcmp p o f p' o' f' = 0 then icmp m m' else kcmp p o f p' o' f'
def aheadB (p o f p' o' f' : Int) : Bool := decide (kcmp p o f p' o' f' = -1)
def aheadS (p o f m p' o' f' m' : Int) : Bool := decide (scmp p o f m p' o' f' m' = -1)
def timeOk (m g : Int) : Prop := 1 ≤ m ∧ m ≤ 2147483647 ∧ (g = 0 ∨ (m < g ∧ g ≤ 2147483647))
instance (m g : Int) : Decidable (timeOk m g) := by unfold timeOk; infer_instance
def elemErr (p o f m g n : Int) : Int := if keyErr p o f = 0 then (if timeOk m g then (if n ≤ 40 then 0 else 2) else 9) else keyErr p o f
def liveP (m g t : Int) : Prop := m ≤ t ∧ (g = 0 ∨ t < g)
instance (m g t : Int) : Decidable (liveP m g t) := by unfold liveP; infer_instance
def lastOf (m g : Int) : Int := if m < g then g else m

set_option maxRecDepth 100000 in
theorem keyErr_ok {p o f : Int} (h1 : 0 ≤ p) (h2 : p ≤ 15) (h3 : 0 ≤ o) (h4 : o ≤ 1048576) (h5 : 0 ≤ f) (h6 : f ≤ 1073741824) : keyErr p o f = 0 := by
  unfold keyErr; rw [if_pos ⟨h1, h2, h3, h4, h5, h6⟩]
set_option maxRecDepth 100000 in
theorem keyErr_no {p o f : Int} (h : p < 0 ∨ 15 < p ∨ o < 0 ∨ 1048576 < o ∨ f < 0 ∨ 1073741824 < f) : keyErr p o f = 1 := by
  unfold keyErr; rw [if_neg (by omega)]

set_option maxRecDepth 100000 in
theorem ahead_lt {p o f p' o' f' : Int} (h : p < p') : aheadB p o f p' o' f' = true := by
  unfold aheadB kcmp icmp; simp [h]
set_option maxRecDepth 100000 in
theorem kcmp_lt {p o f p' o' f' : Int} : kcmp p o f p' o' f' = -1 ↔ (p < p' ∨ p = p' ∧ (o < o' ∨ o = o' ∧ f < f')) := by
  unfold kcmp icmp
  by_cases h1 : p < p' <;> by_cases h2 : p' < p <;> by_cases h3 : o < o' <;> by_cases h4 : o' < o <;> by_cases h5 : f < f' <;> by_cases h6 : f' < f <;> simp [*] <;> omega
set_option maxRecDepth 100000 in
theorem kcmp_eq {p o f p' o' f' : Int} : kcmp p o f p' o' f' = 0 ↔ (p = p' ∧ o = o' ∧ f = f') := by
  unfold kcmp icmp
  by_cases h1 : p < p' <;> by_cases h2 : p' < p <;> by_cases h3 : o < o' <;> by_cases h4 : o' < o <;> by_cases h5 : f < f' <;> by_cases h6 : f' < f <;> simp [*] <;> omega
set_option maxRecDepth 100000 in
theorem kcmp_gt {p o f p' o' f' : Int} : kcmp p o f p' o' f' = 1 ↔ (p' < p ∨ p = p' ∧ (o' < o ∨ o = o' ∧ f' < f)) := by
  unfold kcmp icmp
  by_cases h1 : p < p' <;> by_cases h2 : p' < p <;> by_cases h3 : o < o' <;> by_cases h4 : o' < o <;> by_cases h5 : f < f' <;> by_cases h6 : f' < f <;> simp [*] <;> omega
set_option maxRecDepth 100000 in
theorem icmp_or (a b : Int) : icmp a b = -1 ∨ icmp a b = 0 ∨ icmp a b = 1 := by
  unfold icmp; split <;> (try split) <;> simp
set_option maxRecDepth 100000 in
theorem kcmp_or (p o f p' o' f' : Int) : kcmp p o f p' o' f' = -1 ∨ kcmp p o f p' o' f' = 0 ∨ kcmp p o f p' o' f' = 1 := by
  unfold kcmp
  split
  · split
    · exact icmp_or _ _
    · exact icmp_or _ _
  · exact icmp_or _ _
set_option maxRecDepth 100000 in
theorem aheadB_iff {p o f p' o' f' : Int} : aheadB p o f p' o' f' = true ↔ (p < p' ∨ p = p' ∧ (o < o' ∨ o = o' ∧ f < f')) := by
  unfold aheadB; rw [decide_eq_true_eq, kcmp_lt]
set_option maxRecDepth 100000 in
theorem scmp_lt {p o f m p' o' f' m' : Int} : scmp p o f m p' o' f' m' = -1 ↔ (kcmp p o f p' o' f' = -1 ∨ kcmp p o f p' o' f' = 0 ∧ m < m') := by
  unfold scmp icmp
  rcases kcmp_or p o f p' o' f' with h | h | h <;> rw [h] <;> simp
  by_cases h1 : m < m' <;> by_cases h2 : m' < m <;> simp [*]
set_option maxRecDepth 100000 in
theorem scmp_eq {p o f m p' o' f' m' : Int} : scmp p o f m p' o' f' m' = 0 ↔ (kcmp p o f p' o' f' = 0 ∧ m = m') := by
  unfold scmp icmp
  rcases kcmp_or p o f p' o' f' with h | h | h <;> rw [h] <;> simp
  by_cases h1 : m < m' <;> by_cases h2 : m' < m <;> simp [*] <;> omega
set_option maxRecDepth 100000 in
theorem aheadS_iff {p o f m p' o' f' m' : Int} : aheadS p o f m p' o' f' m' = true ↔ (aheadB p o f p' o' f' = true ∨ (p = p' ∧ o = o' ∧ f = f') ∧ m < m') := by
  unfold aheadS aheadB; rw [decide_eq_true_eq, decide_eq_true_eq, scmp_lt, kcmp_eq]
set_option maxRecDepth 100000 in
theorem scmp_or (p o f m p' o' f' m' : Int) : scmp p o f m p' o' f' m' = -1 ∨ scmp p o f m p' o' f' m' = 0 ∨ scmp p o f m p' o' f' m' = 1 := by
  unfold scmp
  split
  · exact icmp_or _ _
  · exact kcmp_or _ _ _ _ _ _
set_option maxRecDepth 100000 in
theorem elemErr_key {p o f m g n : Int} (h : keyErr p o f ≠ 0) : elemErr p o f m g n = keyErr p o f := by unfold elemErr; rw [if_neg h]
set_option maxRecDepth 100000 in
theorem elemErr_time {p o f m g n : Int} (h : keyErr p o f = 0) (h2 : ¬ timeOk m g) : elemErr p o f m g n = 9 := by unfold elemErr; rw [if_pos h, if_neg h2]
set_option maxRecDepth 100000 in
theorem elemErr_long {p o f m g n : Int} (h : keyErr p o f = 0) (h2 : timeOk m g) (h3 : 40 < n) : elemErr p o f m g n = 2 := by unfold elemErr; rw [if_pos h, if_pos h2, if_neg (by omega)]
set_option maxRecDepth 100000 in
theorem elemErr_ok {p o f m g n : Int} (h : keyErr p o f = 0) (h2 : timeOk m g) (h3 : n ≤ 40) : elemErr p o f m g n = 0 := by unfold elemErr; rw [if_pos h, if_pos h2, if_pos h3]
set_option maxRecDepth 100000 in
theorem elemErr_zero {p o f m g n : Int} : elemErr p o f m g n = 0 ↔ keyErr p o f = 0 ∧ timeOk m g ∧ n ≤ 40 := by
  unfold elemErr
  by_cases h1 : keyErr p o f = 0
  · rw [if_pos h1]
    by_cases h2 : timeOk m g
    · rw [if_pos h2]
      by_cases h3 : n ≤ 40
      · simp [h1, h2, h3]
      · simp [h3]
    · simp [h2]
  · simp [h1]

/-! ### Records -/
structure El where
  p : Int
  o : Int
  f : Int
  m : Int
  g : Int
  s : ByteArray
set_option maxRecDepth 100000 in
theorem El.ext_iff' {a b : El} : a = b ↔ a.p = b.p ∧ a.o = b.o ∧ a.f = b.f ∧ a.m = b.m ∧ a.g = b.g ∧ a.s = b.s := by
  cases a; cases b; simp
instance : DecidableEq El := fun _ _ => decidable_of_iff _ El.ext_iff'.symm
def El.key (e : El) : Int × Int × Int := (e.p, e.o, e.f)
def kLt (a b : Int × Int × Int) : Prop := a.1 < b.1 ∨ a.1 = b.1 ∧ (a.2.1 < b.2.1 ∨ a.2.1 = b.2.1 ∧ a.2.2 < b.2.2)
instance (a b : Int × Int × Int) : Decidable (kLt a b) := by unfold kLt; infer_instance
def sLt (a : Int × Int × Int) (m : Int) (b : Int × Int × Int) (n : Int) : Prop := kLt a b ∨ a = b ∧ m < n
instance (a : Int × Int × Int) (m : Int) (b : Int × Int × Int) (n : Int) : Decidable (sLt a m b n) := by unfold sLt; infer_instance

set_option maxRecDepth 100000 in
theorem key3_eq {a b : Int × Int × Int} : a = b ↔ a.1 = b.1 ∧ a.2.1 = b.2.1 ∧ a.2.2 = b.2.2 := by
  obtain ⟨a1, a2, a3⟩ := a; obtain ⟨b1, b2, b3⟩ := b; simp
set_option maxRecDepth 100000 in
theorem kLt_irrefl (a : Int × Int × Int) : ¬ kLt a a := by unfold kLt; omega
set_option maxRecDepth 100000 in
theorem kLt_trans {a b c : Int × Int × Int} (h : kLt a b) (k : kLt b c) : kLt a c := by unfold kLt at *; omega
set_option maxRecDepth 100000 in
theorem kLt_tri (a b : Int × Int × Int) : kLt a b ∨ a = b ∨ kLt b a := by rw [key3_eq]; unfold kLt; omega
set_option maxRecDepth 100000 in
theorem kLt_asymm {a b : Int × Int × Int} (h : kLt a b) : ¬ kLt b a := fun k => kLt_irrefl _ (kLt_trans h k)
set_option maxRecDepth 100000 in
theorem kLt_ne {a b : Int × Int × Int} (h : kLt a b) : a ≠ b := fun e => by subst e; exact kLt_irrefl _ h
set_option maxRecDepth 100000 in
theorem sLt_irrefl (a : Int × Int × Int) (m : Int) : ¬ sLt a m a m := by
  rintro (h | ⟨_, h⟩)
  · exact kLt_irrefl _ h
  · omega
set_option maxRecDepth 100000 in
theorem sLt_trans {a b c : Int × Int × Int} {m n k : Int} (h : sLt a m b n) (h' : sLt b n c k) : sLt a m c k := by
  rcases h with h | ⟨rfl, h⟩
  · rcases h' with h' | ⟨rfl, h'⟩
    · exact .inl (kLt_trans h h')
    · exact .inl h
  · rcases h' with h' | ⟨rfl, h'⟩
    · exact .inl h'
    · exact .inr ⟨rfl, by omega⟩
set_option maxRecDepth 100000 in
theorem sLt_tri (a : Int × Int × Int) (m : Int) (b : Int × Int × Int) (n : Int) : sLt a m b n ∨ (a = b ∧ m = n) ∨ sLt b n a m := by
  rcases kLt_tri a b with h | rfl | h
  · exact .inl (.inl h)
  · rcases Int.lt_trichotomy m n with h | h | h
    · exact .inl (.inr ⟨rfl, h⟩)
    · exact .inr (.inl ⟨rfl, h⟩)
    · exact .inr (.inr (.inr ⟨rfl, h⟩))
  · exact .inr (.inr (.inl h))
set_option maxRecDepth 100000 in
theorem sLt_asymm {a b : Int × Int × Int} {m n : Int} (h : sLt a m b n) : ¬ sLt b n a m := fun k => sLt_irrefl _ _ (sLt_trans h k)
set_option maxRecDepth 100000 in
theorem sLt_same {a : Int × Int × Int} {m n : Int} : sLt a m a n ↔ m < n := ⟨fun h => by
  rcases h with h | ⟨_, h⟩
  · exact absurd h (kLt_irrefl _)
  · exact h, fun h => .inr ⟨rfl, h⟩⟩

set_option maxRecDepth 100000 in
theorem scmp_sLt {a b : El} : scmp a.p a.o a.f a.m b.p b.o b.f b.m = -1 ↔ sLt a.key a.m b.key b.m := by
  rw [scmp_lt, kcmp_lt, kcmp_eq]; unfold sLt; rw [key3_eq]; exact Iff.rfl
set_option maxRecDepth 100000 in
theorem kcmp_kLt {p o f p' o' f' : Int} : kcmp p o f p' o' f' = -1 ↔ kLt (p, o, f) (p', o', f') := kcmp_lt
set_option maxRecDepth 100000 in
theorem kcmp_key {p o f p' o' f' : Int} : kcmp p o f p' o' f' = 0 ↔ (p, o, f) = (p', o', f') := by rw [kcmp_eq, key3_eq]
set_option maxRecDepth 100000 in
theorem kcmp_kGt {p o f p' o' f' : Int} : kcmp p o f p' o' f' = 1 ↔ kLt (p', o', f') (p, o, f) := by rw [kcmp_gt]; unfold kLt; simp only; omega

def El.err (e : El) : Int := elemErr e.p e.o e.f e.m e.g e.s.size
def El.live (e : El) (t : Int) : Prop := liveP e.m e.g t
instance (e : El) (t : Int) : Decidable (e.live t) := by unfold El.live; infer_instance
def El.last (e : El) : Int := lastOf e.m e.g
def Fol (a b : El) : Prop := sLt a.key a.m b.key b.m ∧ (a.key = b.key → a.g ≠ 0 ∧ a.g ≤ b.m)
instance (a b : El) : Decidable (Fol a b) := by unfold Fol; infer_instance

set_option maxRecDepth 100000 in
theorem err_time {e : El} (h : e.err = 0) : timeOk e.m e.g := (elemErr_zero.1 h).2.1
set_option maxRecDepth 100000 in
theorem Fol.trans {a b c : El} (hb : b.err = 0) (h : Fol a b) (k : Fol b c) : Fol a c := by
  have ht := err_time hb
  unfold timeOk at ht
  refine ⟨sLt_trans h.1 k.1, fun e => ?_⟩
  have hab : a.key = b.key := by
    rcases h.1 with h1 | ⟨h1, _⟩
    · rcases k.1 with k1 | ⟨k1, _⟩
      · exact absurd e (kLt_ne (kLt_trans h1 k1))
      · rw [k1] at h1; exact absurd e (kLt_ne h1)
    · exact h1
  have h2 := h.2 hab
  have k2 := k.2 (hab ▸ e)
  omega

/-! ### The first error -/
def firstErr (f : Nat → Int) : Nat → Int
  | 0 => 0
  | n + 1 => if firstErr f n = 0 then f n else firstErr f n
set_option maxRecDepth 100000 in
theorem firstErr_zero {f : Nat → Int} : ∀ {n : Nat}, firstErr f n = 0 ↔ ∀ i, i < n → f i = 0
  | 0 => by simp [firstErr]
  | n + 1 => by
    have ih := firstErr_zero (f := f) (n := n)
    unfold firstErr
    constructor
    · intro h i hi
      by_cases h0 : firstErr f n = 0
      · rw [if_pos h0] at h
        rcases Nat.lt_or_ge i n with h1 | h1
        · exact ih.1 h0 i h1
        · rw [show i = n by omega]; exact h
      · rw [if_neg h0] at h; exact absurd h h0
    · intro h
      rw [if_pos (ih.2 fun i hi => h i (by omega))]
      exact h n (by omega)
set_option maxRecDepth 100000 in
theorem firstErr_at {f : Nat → Int} {k n : Nat} (h : ∀ i, i < k → f i = 0) (hk : f k ≠ 0) (hn : k < n) : firstErr f n = f k := by
  induction n with
  | zero => omega
  | succ n ih =>
    unfold firstErr
    rcases Nat.lt_or_ge k n with h1 | h1
    · rw [if_neg (by rw [ih h1]; exact hk), ih h1]
    · rw [show n = k by omega, if_pos (firstErr_zero.2 h)]

/-- What Check says of the record at i. -/
def stepErr (l : List El) (i : Nat) : Int :=
  match l[i]? with
  | none => 0
  | some e => if e.err ≠ 0 then e.err else
    match (if i = 0 then none else l[i - 1]?) with
    | none => 0
    | some q => if Fol q e then 0 else 3
def runErr (l : List El) : Int := if 400 < l.length then 2 else firstErr (stepErr l) l.length

set_option maxRecDepth 100000 in
theorem stepErr_zero {l : List El} {i : Nat} (hi : i < l.length) : stepErr l i = 0 ↔ l[i].err = 0 ∧ (∀ h : 0 < i, Fol (l[i - 1]'(by omega)) l[i]) := by
  unfold stepErr
  rw [List.getElem?_eq_getElem hi]
  simp only
  by_cases he : l[i].err = 0
  · rw [if_neg (by simpa using he)]
    by_cases h0 : i = 0
    · subst h0; simp [he]
    · rw [if_neg h0, List.getElem?_eq_getElem (by omega)]
      simp only
      by_cases hF : Fol (l[i - 1]'(by omega)) l[i]
      · simp [hF, he]
      · simp only [hF, if_false]
        constructor
        · intro h; omega
        · intro h; exact absurd (h.2 (by omega)) id
  · rw [if_pos he]; simp [he]

def Good (l : List El) : Prop := l.length ≤ 400 ∧ (∀ e ∈ l, e.err = 0) ∧ l.Pairwise Fol

set_option maxRecDepth 100000 in
theorem pairwise_of_steps {l : List El} (ho : ∀ e ∈ l, e.err = 0) (h : ∀ i (hi : i + 1 < l.length), Fol l[i] l[i + 1]) : l.Pairwise Fol := by
  rw [List.pairwise_iff_getElem]
  intro i j hi hj hij
  obtain ⟨d, rfl⟩ : ∃ d, j = i + 1 + d := ⟨j - (i + 1), by omega⟩
  induction d with
  | zero => exact h i hj
  | succ d ih =>
    have := ih (by omega) (by omega)
    exact Fol.trans (ho _ (List.getElem_mem _)) this (h (i + 1 + d) hj)

set_option maxRecDepth 100000 in
theorem steps_good {l : List El} (h : ∀ i, i < l.length → stepErr l i = 0) : (∀ e ∈ l, e.err = 0) ∧ l.Pairwise Fol := by
  have h1 : ∀ e ∈ l, e.err = 0 := fun e he => by
    obtain ⟨i, hi, rfl⟩ := List.getElem_of_mem he
    exact ((stepErr_zero hi).1 (h i hi)).1
  refine ⟨h1, pairwise_of_steps h1 fun i hi => ?_⟩
  exact ((stepErr_zero hi).1 (h (i + 1) hi)).2 (by omega)
set_option maxRecDepth 100000 in
theorem runErr_zero {l : List El} : runErr l = 0 ↔ Good l := by
  unfold runErr Good
  by_cases hl : 400 < l.length
  · rw [if_pos hl]; constructor
    · intro h; omega
    · intro h; omega
  · rw [if_neg hl, firstErr_zero]
    constructor
    · intro h; exact ⟨by omega, steps_good h⟩
    · rintro ⟨_, h1, h2⟩ i hi
      rw [stepErr_zero hi]
      exact ⟨h1 _ (List.getElem_mem _), fun h => List.pairwise_iff_getElem.1 h2 (i - 1) i (by omega) hi (by omega)⟩

/-! ### The last time -/
def latest (l : List El) : Int := l.foldl (fun t e => if t < e.last then e.last else t) 0
set_option maxRecDepth 100000 in
theorem latest_snoc (l : List El) (e : El) : latest (l ++ [e]) = if latest l < e.last then e.last else latest l := by
  unfold latest; rw [List.foldl_append]; rfl
set_option maxRecDepth 100000 in
theorem latest_take {l : List El} {k : Nat} (hk : k < l.length) : latest (l.take (k + 1)) = if latest (l.take k) < l[k].last then l[k].last else latest (l.take k) := by
  rw [List.take_succ_eq_append_getElem hk, latest_snoc]
set_option maxRecDepth 100000 in
theorem foldl_latest_ge (l : List El) : ∀ t, t ≤ l.foldl (fun t (e : El) => if t < e.last then e.last else t) t ∧ ∀ e ∈ l, e.last ≤ l.foldl (fun t (e : El) => if t < e.last then e.last else t) t := by
  induction l with
  | nil => intro t; exact ⟨Int.le_refl _, by simp⟩
  | cons x l ih =>
    intro t
    rw [List.foldl_cons]
    have h := ih (if t < x.last then x.last else t)
    refine ⟨Int.le_trans (by split <;> omega) h.1, fun e he => ?_⟩
    · rcases List.mem_cons.1 he with rfl | h2
      · exact Int.le_trans (by split <;> omega) h.1
      · exact h.2 e h2
set_option maxRecDepth 100000 in
theorem latest_ge {l : List El} {e : El} (h : e ∈ l) : e.last ≤ latest l := (foldl_latest_ge l 0).2 e h
set_option maxRecDepth 100000 in
theorem latest_nonneg (l : List El) : 0 ≤ latest l := (foldl_latest_ge l 0).1
set_option maxRecDepth 100000 in
theorem foldl_latest_le (l : List El) : ∀ t b, t ≤ b → (∀ e ∈ l, e.last ≤ b) → l.foldl (fun t (e : El) => if t < e.last then e.last else t) t ≤ b := by
  induction l with
  | nil => intro t b h _; exact h
  | cons x l ih =>
    intro t b h h2
    rw [List.foldl_cons]
    refine ih _ b ?_ fun e he => h2 e (by simp [he])
    have := h2 x (by simp)
    split
    · exact this
    · exact h
set_option maxRecDepth 100000 in
theorem latest_le {l : List El} {b : Int} (hb : 0 ≤ b) (h : ∀ e ∈ l, e.last ≤ b) : latest l ≤ b := foldl_latest_le l 0 b hb h
set_option maxRecDepth 100000 in
theorem last_ge (e : El) : e.m ≤ e.last ∧ e.g ≤ e.last := by unfold El.last lastOf; split <;> omega
set_option maxRecDepth 100000 in
theorem last_le {e : El} {b : Int} (h1 : e.m ≤ b) (h2 : e.g ≤ b) : e.last ≤ b := by unfold El.last lastOf; split <;> omega
set_option maxRecDepth 100000 in
theorem last_or (e : El) : e.last = e.m ∨ e.last = e.g := by unfold El.last lastOf; split <;> omega
set_option maxRecDepth 100000 in
theorem latest_max {l : List El} (h : Good l) : latest l ≤ 2147483647 := latest_le (by omega) fun e he => by
  have ht := err_time (h.2.1 e he); unfold timeOk at ht
  exact last_le (by omega) (by omega)

end Go.Proofs.Ytgebilpdinbfgaa

/- Plain mathematics: reading a run at a time. -/
namespace Go.Proofs.Ytgebilpdinbfgaa

/-- Is it a record of k that is live at t? -/
def isAt (k : Int × Int × Int) (t : Int) (e : El) : Bool := decide (e.key = k ∧ e.live t)
def zeroEl : El := ⟨0, 0, 0, 0, 0, { data := #[] }⟩
/-- The record of k that is live at t. -/
def atR (l : List El) (k : Int × Int × Int) (t : Int) : Option El := l.find? (isAt k t)
def kErr (k : Int × Int × Int) : Int := keyErr k.1 k.2.1 k.2.2
def askErr (l : List El) (ks : List (Int × Int × Int)) : Int := if runErr l = 0 then firstErr (fun i => kErr (ks.getD i (0, 0, 0))) ks.length else runErr l
def askErr1 (l : List El) (k : Int × Int × Int) : Int := if runErr l = 0 then kErr k else runErr l
def atErr (l : List El) (k : Int × Int × Int) (t : Int) : Int := if askErr1 l k = 0 then (if (atR l k t).isSome then 0 else 4) else askErr1 l k
def atVal (l : List El) (k : Int × Int × Int) (t : Int) : El := if askErr1 l k = 0 then (atR l k t).getD zeroEl else zeroEl

set_option maxRecDepth 100000 in
theorem uniqAt {l : List El} (h : l.Pairwise Fol) {k : Int × Int × Int} {t : Int} {i j : Nat} (hi : i < l.length) (hj : j < l.length) (h1 : isAt k t l[i] = true) (h2 : isAt k t l[j] = true) : i = j := by
  unfold isAt at h1 h2
  rw [decide_eq_true_eq] at h1 h2
  have key : ∀ a b (ha : a < l.length) (hb : b < l.length), a < b → (l[a].key = k ∧ l[a].live t) → (l[b].key = k ∧ l[b].live t) → False := fun a b ha hb hab p q => by
    have hF := (List.pairwise_iff_getElem.1 h a b ha hb hab).2 (p.1.trans q.1.symm)
    have p2 := p.2; have q2 := q.2
    unfold El.live liveP at p2 q2
    omega
  rcases Nat.lt_trichotomy i j with h3 | h3 | h3
  · exact (key i j hi hj h3 h1 h2).elim
  · exact h3
  · exact (key j i hj hi h3 h2 h1).elim

set_option maxRecDepth 100000 in
theorem find_of {l : List El} (h : l.Pairwise Fol) {k : Int × Int × Int} {t : Int} {i : Nat} (hi : i < l.length) (h1 : isAt k t l[i] = true) : atR l k t = some l[i] := by
  unfold atR
  have hs : (l.find? (isAt k t)).isSome = true := by rw [List.find?_isSome]; exact ⟨_, List.getElem_mem hi, h1⟩
  obtain ⟨e, he⟩ := Option.isSome_iff_exists.1 hs
  rw [he]
  have hp := List.find?_some he
  obtain ⟨j, hj, rfl⟩ := List.getElem_of_mem (List.mem_of_find?_eq_some he)
  have := uniqAt h hj hi hp h1
  subst this; rfl
set_option maxRecDepth 100000 in
theorem find_none {l : List El} {k : Int × Int × Int} {t : Int} (h : ∀ e ∈ l, isAt k t e = false) : atR l k t = none := by
  unfold atR; rw [List.find?_eq_none]; intro e he; simp [h e he]

/-- How many records have a spot up to (k, t). -/
def pos (l : List El) (k : Int × Int × Int) (t : Int) : Nat := l.countP (fun e => !decide (sLt k t e.key e.m))
set_option maxRecDepth 100000 in
theorem pos_le (l : List El) (k : Int × Int × Int) (t : Int) : pos l k t ≤ l.length := List.countP_le_length
set_option maxRecDepth 100000 in
theorem pos_part {l : List El} {k : Int × Int × Int} {t : Int} {c : Nat} (hc : c ≤ l.length) (h1 : ∀ i (h : i < l.length), i < c → ¬ sLt k t l[i].key l[i].m) (h2 : ∀ i (h : i < l.length), c ≤ i → sLt k t l[i].key l[i].m) : pos l k t = c := by
  unfold pos
  rw [← List.take_append_drop c l, List.countP_append]
  have e1 : (l.take c).countP (fun e => !decide (sLt k t e.key e.m)) = (l.take c).length := by
    rw [List.countP_eq_length]
    intro e he
    obtain ⟨i, hi, rfl⟩ := List.getElem_of_mem he
    simp at hi
    simp only [List.getElem_take, Bool.not_eq_true', decide_eq_false_iff_not]
    exact h1 i (by omega) (by omega)
  have e2 : (l.drop c).countP (fun e => !decide (sLt k t e.key e.m)) = 0 := by
    rw [List.countP_eq_zero]
    intro e he
    obtain ⟨i, hi, rfl⟩ := List.getElem_of_mem he
    simp at hi
    simp only [List.getElem_drop, Bool.not_eq_true', decide_eq_false_iff_not, Classical.not_not]
    exact h2 (c + i) (by omega) (by omega)
  rw [e1, e2]; simp; omega

/-- Is the record at c - 1 one of k that is live at t? -/
def hitB (l : List El) (c : Nat) (k : Int × Int × Int) (t : Int) : Bool :=
  match l[c - 1]? with
  | some e => decide (0 < c ∧ e.key = k ∧ e.live t)
  | none => false
set_option maxRecDepth 100000 in
theorem hitB_none {l : List El} (k : Int × Int × Int) (t : Int) : hitB l 0 k t = false := by
  unfold hitB; split <;> simp
set_option maxRecDepth 100000 in
theorem hitB_some {l : List El} {c : Nat} {k : Int × Int × Int} {t : Int} {e : El} (h0 : 0 < c) (h : l[c - 1]? = some e) : hitB l c k t = decide (e.key = k ∧ e.live t) := by
  unfold hitB; rw [h]; simp [h0]

/-! ### the record at pos - 1 -/
set_option maxRecDepth 100000 in
theorem pos_spec {l : List El} (h : l.Pairwise Fol) (k : Int × Int × Int) (t : Int) : (∀ i (hi : i < l.length), i < pos l k t → ¬ sLt k t l[i].key l[i].m) ∧ (∀ i (hi : i < l.length), pos l k t ≤ i → sLt k t l[i].key l[i].m) := by
  have M : ∀ i j (hi : i < l.length) (hj : j < l.length), i ≤ j → sLt k t l[i].key l[i].m → sLt k t l[j].key l[j].m := fun i j hi hj hij h' => by
    rcases Nat.lt_or_eq_of_le hij with h1 | h1
    · exact sLt_trans h' (List.pairwise_iff_getElem.1 h i j hi hj h1).1
    · subst h1; exact h'
  have E : ∀ n, n ≤ l.length → ∃ c, c ≤ n ∧ (∀ i (hi : i < l.length), i < c → ¬ sLt k t l[i].key l[i].m) ∧ (∀ i (hi : i < l.length), c ≤ i → i < n → sLt k t l[i].key l[i].m) := fun n => by
    induction n with
    | zero => intro _; exact ⟨0, Nat.le_refl _, fun i _ h0 => absurd h0 (Nat.not_lt_zero _), fun i _ _ h0 => absurd h0 (Nat.not_lt_zero _)⟩
    | succ n ih =>
      intro hn
      obtain ⟨c, hc, h1, h2⟩ := ih (by omega)
      by_cases hp : sLt k t l[n].key l[n].m
      · refine ⟨c, by omega, h1, fun i hi hci hin => ?_⟩
        rcases Nat.lt_or_ge i n with h3 | h3
        · exact h2 i hi hci h3
        · rw [show l[i] = l[n] from by congr 1; omega]; exact hp
      · refine ⟨n + 1, Nat.le_refl _, fun i hi hin h3 => ?_, fun i hi h3 h4 => by omega⟩
        exact hp (M i n hi (by omega) (by omega) h3)
  obtain ⟨c, hc, h1, h2⟩ := E l.length (Nat.le_refl _)
  rw [pos_part hc h1 (fun i hi hci => h2 i hi hci hi)]
  exact ⟨h1, fun i hi hci => h2 i hi hci hi⟩
set_option maxRecDepth 100000 in
theorem pos_of_at {l : List El} (h : l.Pairwise Fol) {k : Int × Int × Int} {t : Int} {i : Nat} (hi : i < l.length) (h1 : isAt k t l[i] = true) : pos l k t = i + 1 := by
  unfold isAt at h1
  rw [decide_eq_true_eq] at h1
  obtain ⟨hk, hl⟩ := h1
  unfold El.live liveP at hl
  refine pos_part (by omega) (fun j hj hji h2 => ?_) (fun j hj hij => ?_)
  · rcases Nat.lt_or_eq_of_le (Nat.le_of_lt_succ hji) with h3 | h3
    · have hF := (List.pairwise_iff_getElem.1 h j i hj hi h3).1
      have := sLt_trans h2 hF
      rw [hk, sLt_same] at this; omega
    · subst h3; rw [hk, sLt_same] at h2; omega
  · have hF := List.pairwise_iff_getElem.1 h i j hi hj (by omega)
    have h5 := hF.1
    rw [hk] at h5
    rcases h5 with h5 | ⟨h5, h6⟩
    · exact .inl h5
    · have := hF.2 (hk.trans h5); exact .inr ⟨h5, by omega⟩
set_option maxRecDepth 100000 in
theorem hitB_pos {l : List El} (h : l.Pairwise Fol) (k : Int × Int × Int) (t : Int) :
    (hitB l (pos l k t) k t = true ∧ ∃ (hi : pos l k t - 1 < l.length), isAt k t l[pos l k t - 1] = true ∧ 0 < pos l k t ∧ atR l k t = some l[pos l k t - 1]) ∨ (hitB l (pos l k t) k t = false ∧ atR l k t = none ∧ ∀ e ∈ l, isAt k t e = false) := by
  by_cases hx : ∃ e ∈ l, isAt k t e = true
  · obtain ⟨e, he, hp⟩ := hx
    obtain ⟨i, hi, rfl⟩ := List.getElem_of_mem he
    have hpos := pos_of_at h hi hp
    left
    have h1 : pos l k t - 1 = i := by omega
    refine ⟨?_, by omega, ?_, by omega, ?_⟩
    · rw [hitB_some (by omega) (by rw [h1]; exact List.getElem?_eq_getElem hi)]; exact hp
    · simp only [h1]; exact hp
    · simp only [h1]; exact find_of h hi hp
  · have hn : ∀ e ∈ l, isAt k t e = false := fun e he => by
      cases hp : isAt k t e
      · rfl
      · exact absurd ⟨e, he, hp⟩ hx
    right
    refine ⟨?_, find_none hn, hn⟩
    unfold hitB
    split
    · rename_i e he
      have := hn e (List.mem_of_getElem? he)
      unfold isAt at this
      rw [decide_eq_false_iff_not] at this ⊢
      exact fun h2 => this h2.2
    · rfl

/-! ### ranges -/
def inR (lo hi : Int × Int × Int) (t : Int) (e : El) : Bool := decide (¬ kLt e.key lo ∧ ¬ kLt hi e.key ∧ e.live t)
def rangeR (l : List El) (lo hi : Int × Int × Int) (t : Int) : List El := l.filter (inR lo hi t)
def rgErr (l : List El) (lo hi : Int × Int × Int) : Int := if runErr l = 0 then (if kErr lo = 0 then kErr hi else kErr lo) else runErr l
set_option maxRecDepth 100000 in
theorem rangeR_take {l : List El} {k : Nat} {e : El} (h : l[k]? = some e) (lo hi : Int × Int × Int) (t : Int) : rangeR (l.take (k + 1)) lo hi t = rangeR (l.take k) lo hi t ++ (if inR lo hi t e then [e] else []) := by
  obtain ⟨hk, he⟩ := List.getElem?_eq_some_iff.1 h
  unfold rangeR
  rw [List.take_succ_eq_append_getElem hk, List.filter_append, he]
  by_cases hi : inR lo ‹_› t e <;> simp [hi]
set_option maxRecDepth 100000 in
theorem rangeR_le (l : List El) (lo hi : Int × Int × Int) (t : Int) : (rangeR l lo hi t).length ≤ l.length := List.length_filter_le _ _

end Go.Proofs.Ytgebilpdinbfgaa

/- Plain mathematics: writing and deleting in a run. -/
namespace Go.Proofs.Ytgebilpdinbfgaa

def upd (k : Int × Int × Int) (s : ByteArray) (t : Int) (e : El) : El := if e.key = k ∧ e.g = 0 then (if e.m = t then { e with s := s } else { e with g := t }) else e
def isSame (k : Int × Int × Int) (t : Int) (e : El) : Bool := decide (e.key = k ∧ e.g = 0 ∧ e.m = t)
def isOpen (k : Int × Int × Int) (e : El) : Bool := decide (e.key = k ∧ e.g = 0)
def fresh (k : Int × Int × Int) (s : ByteArray) (t : Int) : El := ⟨k.1, k.2.1, k.2.2, t, 0, s⟩
def ins (x : El) : List El → List El
  | [] => [x]
  | y :: l => if sLt x.key x.m y.key y.m then x :: y :: l else y :: ins x l
def putR (l : List El) (k : Int × Int × Int) (s : ByteArray) (t : Int) : List El := if l.any (isSame k t) then l.map (upd k s t) else ins (fresh k s t) (l.map (upd k s t))
def wrErr (l : List El) (x : El) : Int := if runErr l = 0 then (if x.err = 0 then (if x.m < latest l then 9 else 0) else x.err) else runErr l
def putErr (l : List El) (k : Int × Int × Int) (s : ByteArray) (t : Int) : Int := if wrErr l (fresh k s t) = 0 then (if l.any (isSame k t) then 0 else if 400 ≤ l.length then 8 else 0) else wrErr l (fresh k s t)
def cutStep (k : Int × Int × Int) (t : Int) (e : El) : Option El := if e.key = k ∧ e.g = 0 then (if e.m = t then none else some { e with g := t }) else some e
def cutR (l : List El) (k : Int × Int × Int) (t : Int) : List El := l.filterMap (cutStep k t)
def cutErr (l : List El) (k : Int × Int × Int) (t : Int) : Int := if wrErr l (fresh k { data := #[] } t) = 0 then (if l.any (isOpen k) then 0 else 4) else wrErr l (fresh k { data := #[] } t)
def insAt (l : List El) (i : Nat) (e : El) : List El := l.take i ++ e :: l.drop i
def delAt (l : List El) (i : Nat) : List El := l.take i ++ l.drop (i + 1)

set_option maxRecDepth 100000 in
theorem fresh_key (k : Int × Int × Int) (s : ByteArray) (t : Int) : (fresh k s t).key = k := rfl
set_option maxRecDepth 100000 in
theorem wrErr_zero {l : List El} {x : El} : wrErr l x = 0 ↔ Good l ∧ x.err = 0 ∧ latest l ≤ x.m := by
  unfold wrErr
  by_cases h1 : runErr l = 0
  · rw [if_pos h1]
    have hG := runErr_zero.1 h1
    by_cases h2 : x.err = 0
    · rw [if_pos h2]
      by_cases h3 : x.m < latest l
      · rw [if_pos h3]; constructor
        · intro h; omega
        · intro h; omega
      · rw [if_neg h3]; constructor
        · intro _; exact ⟨hG, h2, by omega⟩
        · intro _; rfl
    · rw [if_neg h2]; constructor
      · intro h; exact absurd h h2
      · intro h; exact h.2.1
  · rw [if_neg h1]; constructor
    · intro h; exact absurd h h1
    · intro h; exact absurd (runErr_zero.2 h.1) h1

set_option maxRecDepth 100000 in
theorem mem_bounds {l : List El} (h : Good l) {e : El} (he : e ∈ l) : 1 ≤ e.m ∧ e.m ≤ latest l ∧ e.g ≤ latest l ∧ (e.g = 0 ∨ e.m < e.g) := by
  have ht := err_time (h.2.1 e he)
  unfold timeOk at ht
  have h1 := latest_ge he
  have h2 := last_ge e
  omega
set_option maxRecDepth 100000 in
theorem open_at {l : List El} (h : Good l) {t : Int} (hl : latest l ≤ t) {k : Int × Int × Int} {e : El} (he : e ∈ l) : isAt k t e = isOpen k e := by
  have hb := mem_bounds h he
  unfold isAt isOpen El.live liveP
  rw [Bool.eq_iff_iff, decide_eq_true_eq, decide_eq_true_eq]
  constructor
  · rintro ⟨h1, h2⟩; exact ⟨h1, by omega⟩
  · rintro ⟨h1, h2⟩; exact ⟨h1, by omega⟩
set_option maxRecDepth 100000 in
theorem upd_not {k : Int × Int × Int} {s : ByteArray} {t : Int} {e : El} (h : isOpen k e = false) : upd k s t e = e := by
  unfold isOpen at h; rw [decide_eq_false_iff_not] at h
  unfold upd; rw [if_neg h]
set_option maxRecDepth 100000 in
theorem upd_open {k : Int × Int × Int} {s : ByteArray} {t : Int} {e : El} (h : isOpen k e = true) : upd k s t e = if e.m = t then { e with s := s } else { e with g := t } := by
  unfold isOpen at h; rw [decide_eq_true_eq] at h
  unfold upd; rw [if_pos h]
set_option maxRecDepth 100000 in
theorem upd_key (k : Int × Int × Int) (s : ByteArray) (t : Int) (e : El) : (upd k s t e).key = e.key := by
  unfold upd El.key; split <;> (try split) <;> rfl
set_option maxRecDepth 100000 in
theorem upd_m (k : Int × Int × Int) (s : ByteArray) (t : Int) (e : El) : (upd k s t e).m = e.m := by
  unfold upd; split <;> (try split) <;> rfl
set_option maxRecDepth 100000 in
/-- At most one record of a key is open. -/
theorem open_uniq {l : List El} (h : Good l) {k : Int × Int × Int} {i j : Nat} (hi : i < l.length) (hj : j < l.length) (h1 : isOpen k l[i] = true) (h2 : isOpen k l[j] = true) : i = j := by
  refine uniqAt h.2.2 (k := k) (t := latest l) hi hj ?_ ?_
  · rw [open_at h (Int.le_refl _) (List.getElem_mem hi)]; exact h1
  · rw [open_at h (Int.le_refl _) (List.getElem_mem hj)]; exact h2
set_option maxRecDepth 100000 in
/-- The open record of k, if there is one. -/
theorem hit_open {l : List El} (h : Good l) (k : Int × Int × Int) {t : Int} (hl : latest l ≤ t) :
    (hitB l (pos l k t) k t = true ∧ 0 < pos l k t ∧ ∃ (hi : pos l k t - 1 < l.length), isOpen k l[pos l k t - 1] = true ∧ (∀ j (hj : j < l.length), j ≠ pos l k t - 1 → isOpen k l[j] = false)) ∨
    (hitB l (pos l k t) k t = false ∧ ∀ e ∈ l, isOpen k e = false) := by
  rcases hitB_pos h.2.2 k t with ⟨h1, hi, h2, h3, _⟩ | ⟨h1, _, h3⟩
  · left
    rw [open_at h hl (List.getElem_mem hi)] at h2
    refine ⟨h1, h3, hi, h2, fun j hj hne => ?_⟩
    cases hp : isOpen k l[j]
    · rfl
    · exact absurd (open_uniq h hj hi hp h2) hne
  · right
    exact ⟨h1, fun e he => by rw [← open_at h hl he]; exact h3 e he⟩
set_option maxRecDepth 100000 in
theorem map_none {l : List El} {k : Int × Int × Int} {s : ByteArray} {t : Int} (h : ∀ e ∈ l, isOpen k e = false) : l.map (upd k s t) = l := by
  conv => rhs; rw [← List.map_id l]
  exact List.map_congr_left fun e he => upd_not (h e he)
set_option maxRecDepth 100000 in
theorem map_set {l : List El} {k : Int × Int × Int} {s : ByteArray} {t : Int} {i : Nat} (hi : i < l.length) (h : ∀ j (hj : j < l.length), j ≠ i → isOpen k l[j] = false) : l.map (upd k s t) = l.set i (upd k s t l[i]) := by
  refine List.ext_getElem (by simp) fun j h1 h2 => ?_
  rw [List.getElem_map, List.getElem_set]
  split
  · subst_vars; rfl
  · exact upd_not (h j (by simpa using h1) (by omega))
set_option maxRecDepth 100000 in
theorem same_none {l : List El} {k : Int × Int × Int} {t : Int} (h : ∀ e ∈ l, isOpen k e = false) : l.any (isSame k t) = false := by
  rw [List.any_eq_false]
  intro e he h2
  have := h e he
  unfold isOpen at this; unfold isSame at h2
  rw [decide_eq_false_iff_not] at this; rw [decide_eq_true_eq] at h2
  exact this ⟨h2.1, h2.2.1⟩
set_option maxRecDepth 100000 in
theorem same_at {l : List El} {k : Int × Int × Int} {t : Int} {i : Nat} (hi : i < l.length) (ho : isOpen k l[i] = true) (h : ∀ j (hj : j < l.length), j ≠ i → isOpen k l[j] = false) : l.any (isSame k t) = decide (l[i].m = t) := by
  unfold isOpen at ho; rw [decide_eq_true_eq] at ho
  rw [Bool.eq_iff_iff, List.any_eq_true, decide_eq_true_eq]
  constructor
  · rintro ⟨e, he, h2⟩
    obtain ⟨j, hj, rfl⟩ := List.getElem_of_mem he
    unfold isSame at h2; rw [decide_eq_true_eq] at h2
    by_cases hji : j = i
    · subst hji; exact h2.2.2
    · have := h j hj hji
      unfold isOpen at this; rw [decide_eq_false_iff_not] at this
      exact absurd ⟨h2.1, h2.2.1⟩ this
  · intro h2
    exact ⟨_, List.getElem_mem hi, by unfold isSame; rw [decide_eq_true_eq]; exact ⟨ho.1, ho.2, h2⟩⟩

set_option maxRecDepth 100000 in
/-- The place of x in rising records. -/
theorem ins_at {x : El} : ∀ {l : List El}, l.Pairwise (fun a b => sLt a.key a.m b.key b.m) → ins x l = insAt l (pos l x.key x.m) x
  | [], _ => rfl
  | y :: l, h => by
    rw [List.pairwise_cons] at h
    unfold ins
    by_cases hx : sLt x.key x.m y.key y.m
    · rw [if_pos hx]
      have h0 : pos (y :: l) x.key x.m = 0 := by
        unfold pos
        rw [List.countP_eq_zero]
        intro e he
        simp only [Bool.not_eq_true', decide_eq_false_iff_not, Classical.not_not]
        rcases List.mem_cons.1 he with rfl | he
        · exact hx
        · exact sLt_trans hx (h.1 e he)
      rw [h0]; rfl
    · rw [if_neg hx]
      have h1 : pos (y :: l) x.key x.m = pos l x.key x.m + 1 := by
        unfold pos
        rw [List.countP_cons_of_pos (by simp [hx])]
      rw [h1, ins_at h.2]
      rfl
set_option maxRecDepth 100000 in
theorem pos_map (l : List El) (k' : Int × Int × Int) (s : ByteArray) (t : Int) (k : Int × Int × Int) (u : Int) : pos (l.map (upd k' s t)) k u = pos l k u := by
  unfold pos
  rw [List.countP_map]
  congr 1
  funext e
  simp only [Function.comp, upd_key, upd_m]
set_option maxRecDepth 100000 in
theorem Fol.rise {l : List El} (h : l.Pairwise Fol) : l.Pairwise (fun a b => sLt a.key a.m b.key b.m) := h.imp fun h => h.1

set_option maxRecDepth 100000 in
/-- What a write makes of the records that were there is a run again. -/
theorem good_map {l : List El} (h : Good l) {k : Int × Int × Int} {s : ByteArray} {t : Int} (hl : latest l ≤ t) (ht : t ≤ 2147483647) (hs : (s.size : Int) ≤ 40) : Good (l.map (upd k s t)) := by
  refine ⟨by rw [List.length_map]; exact h.1, fun e he => ?_, ?_⟩
  · obtain ⟨x, hx, rfl⟩ := List.mem_map.1 he
    have hb := mem_bounds h hx
    have hx0 := h.2.1 x hx
    cases ho : isOpen k x
    · rw [upd_not ho]; exact hx0
    · rw [upd_open ho]
      unfold isOpen at ho; rw [decide_eq_true_eq] at ho
      unfold El.err at hx0 ⊢
      rw [elemErr_zero] at hx0
      split
      · exact elemErr_zero.2 ⟨hx0.1, hx0.2.1, hs⟩
      · refine elemErr_zero.2 ⟨hx0.1, ?_, hx0.2.2⟩
        unfold timeOk; simp only; omega
  · rw [List.pairwise_map, List.pairwise_iff_getElem]
    intro i j hi hj hij
    have hF := List.pairwise_iff_getElem.1 h.2.2 i j hi hj hij
    refine ⟨by rw [upd_key, upd_key, upd_m, upd_m]; exact hF.1, fun hk => ?_⟩
    rw [upd_key, upd_key] at hk
    have h2 := hF.2 hk
    have ho : isOpen k l[i] = false := by
      unfold isOpen; rw [decide_eq_false_iff_not]; exact fun h3 => h2.1 h3.2
    rw [upd_not ho, upd_m]
    exact h2
set_option maxRecDepth 100000 in
theorem pairwise_ins {l : List El} {i : Nat} {x : El} (h : l.Pairwise Fol) (h1 : ∀ e ∈ l.take i, Fol e x) (h2 : ∀ e ∈ l.drop i, Fol x e) : (insAt l i x).Pairwise Fol := by
  unfold insAt
  rw [List.pairwise_append, List.pairwise_cons]
  refine ⟨h.sublist (List.take_sublist _ _), ⟨h2, h.sublist (List.drop_sublist _ _)⟩, fun a ha b hb => ?_⟩
  rcases List.mem_cons.1 hb with rfl | hb
  · exact h1 a ha
  · have := List.take_append_drop i l
    rw [← this, List.pairwise_append] at h
    exact h.2.2 a ha b hb
set_option maxRecDepth 100000 in
/-- A new record among records of which none of its key is open. -/
theorem good_ins {l : List El} (h : Good l) {x : El} (hx : x.err = 0) (hl : latest l ≤ x.m) (hn : ∀ e ∈ l, e.key = x.key → e.g ≠ 0) (h4 : l.length < 400) : Good (insAt l (pos l x.key x.m) x) := by
  have hp := pos_spec h.2.2 x.key x.m
  refine ⟨?_, fun e he => ?_, pairwise_ins h.2.2 (fun e he => ?_) (fun e he => ?_)⟩
  · unfold insAt; rw [List.length_append, List.length_cons, List.length_take, List.length_drop]; omega
  · unfold insAt at he
    rcases List.mem_append.1 he with h1 | h1
    · exact h.2.1 e (List.mem_of_mem_take h1)
    · rcases List.mem_cons.1 h1 with rfl | h1
      · exact hx
      · exact h.2.1 e (List.mem_of_mem_drop h1)
  · have he2 := List.mem_of_mem_take he
    obtain ⟨i, hi, rfl⟩ := List.getElem_of_mem he
    rw [List.length_take] at hi
    have h1 := hp.1 i (by omega) (by omega)
    rw [List.getElem_take] at he2 ⊢
    have hb := mem_bounds h he2
    rcases sLt_tri l[i].key l[i].m x.key x.m with h3 | ⟨h3, h5⟩ | h3
    · exact ⟨h3, fun hk => ⟨hn _ he2 hk, by omega⟩⟩
    · have := hn _ he2 h3
      omega
    · exact absurd h3 h1
  · have he2 := List.mem_of_mem_drop he
    obtain ⟨i, hi, rfl⟩ := List.getElem_of_mem he
    rw [List.length_drop] at hi
    have h1 := hp.2 (pos l x.key x.m + i) (by omega) (by omega)
    rw [List.getElem_drop] at he2 ⊢
    have hb := mem_bounds h he2
    refine ⟨h1, fun hk => ?_⟩
    rw [← hk, sLt_same] at h1
    omega

/-! ### the three ways of a write -/
set_option maxRecDepth 100000 in
theorem sizes {l : List El} {x : El} (h : wrErr l x = 0) : (x.s.size : Int) ≤ 40 ∧ x.m ≤ 2147483647 ∧ 1 ≤ x.m := by
  have h2 := (wrErr_zero.1 h).2.1
  have ht := err_time h2
  unfold El.err at h2
  rw [elemErr_zero] at h2
  unfold timeOk at ht
  exact ⟨h2.2.2, by omega, by omega⟩
set_option maxRecDepth 100000 in
theorem put_same {l : List El} {k : Int × Int × Int} {s : ByteArray} {t : Int} {i : Nat} (hi : i < l.length) (ho : isOpen k l[i] = true) (h : ∀ j (hj : j < l.length), j ≠ i → isOpen k l[j] = false) (hm : l[i].m = t) :
    l.any (isSame k t) = true ∧ putR l k s t = l.set i { l[i] with s := s } := by
  have h1 : l.any (isSame k t) = true := by rw [same_at hi ho h]; exact decide_eq_true hm
  refine ⟨h1, ?_⟩
  unfold putR
  rw [if_pos h1, map_set hi h, upd_open ho, if_pos hm]
set_option maxRecDepth 100000 in
theorem put_new {l : List El} {k : Int × Int × Int} {s : ByteArray} {t : Int} (hG : Good l) {i : Nat} (hi : i < l.length) (ho : isOpen k l[i] = true) (h : ∀ j (hj : j < l.length), j ≠ i → isOpen k l[j] = false) (hm : l[i].m ≠ t) (hl : latest l ≤ t) (ht : t ≤ 2147483647) (hs : (s.size : Int) ≤ 40) :
    l.any (isSame k t) = false ∧ Good (l.set i { l[i] with g := t }) ∧ pos (l.set i { l[i] with g := t }) k t = pos l k t ∧ putR l k s t = insAt (l.set i { l[i] with g := t }) (pos l k t) (fresh k s t) := by
  have h1 : l.any (isSame k t) = false := by rw [same_at hi ho h]; exact decide_eq_false hm
  have h2 : l.map (upd k s t) = l.set i { l[i] with g := t } := by rw [map_set hi h, upd_open ho, if_neg hm]
  have h3 := good_map hG (k := k) (s := s) hl ht hs
  have h4 := pos_map l k s t k t
  refine ⟨h1, by rw [← h2]; exact h3, by rw [← h2]; exact h4, ?_⟩
  unfold putR
  rw [h1]
  show ins _ _ = _
  rw [ins_at (Fol.rise h3.2.2)]
  show insAt _ (pos _ k t) _ = _
  rw [h4, h2]
set_option maxRecDepth 100000 in
theorem put_none {l : List El} {k : Int × Int × Int} {s : ByteArray} {t : Int} (hG : Good l) (h : ∀ e ∈ l, isOpen k e = false) : l.any (isSame k t) = false ∧ putR l k s t = insAt l (pos l k t) (fresh k s t) := by
  refine ⟨same_none h, ?_⟩
  unfold putR
  rw [same_none h]
  show ins _ _ = _
  rw [map_none h, ins_at (Fol.rise hG.2.2)]
  rfl
set_option maxRecDepth 100000 in
theorem cut_filter {l : List El} {k : Int × Int × Int} {t : Int} (h : ∀ e ∈ l, isOpen k e = false) : cutR l k t = l := by
  unfold cutR
  induction l with
  | nil => rfl
  | cons x l ih =>
    have h1 := h x (by simp)
    unfold isOpen at h1; rw [decide_eq_false_iff_not] at h1
    rw [List.filterMap_cons]
    simp only [cutStep, if_neg h1]
    rw [ih fun e he => h e (by simp [he])]
set_option maxRecDepth 100000 in
theorem cut_at {l : List El} {k : Int × Int × Int} {t : Int} {i : Nat} (hi : i < l.length) (ho : isOpen k l[i] = true) (h : ∀ j (hj : j < l.length), j ≠ i → isOpen k l[j] = false) :
    cutR l k t = if l[i].m = t then delAt l i else l.set i { l[i] with g := t } := by
  have e : l = l.take i ++ l[i] :: l.drop (i + 1) := by rw [← List.drop_eq_getElem_cons hi, List.take_append_drop]
  have h1 : cutR (l.take i) k t = l.take i := cut_filter fun x hx => by
    obtain ⟨j, hj, rfl⟩ := List.getElem_of_mem hx
    rw [List.length_take] at hj
    rw [List.getElem_take]; exact h j (by omega) (by omega)
  have h2 : cutR (l.drop (i + 1)) k t = l.drop (i + 1) := cut_filter fun x hx => by
    obtain ⟨j, hj, rfl⟩ := List.getElem_of_mem hx
    rw [List.length_drop] at hj
    rw [List.getElem_drop]; exact h _ (by omega) (by omega)
  have h3 : cutR l k t = cutR (l.take i) k t ++ (cutR [l[i]] k t ++ cutR (l.drop (i + 1)) k t) := by
    unfold cutR
    conv => lhs; rw [e]
    rw [List.filterMap_append, ← List.singleton_append, List.filterMap_append]
  unfold isOpen at ho; rw [decide_eq_true_eq] at ho
  rw [h3, h1, h2]
  by_cases hm : l[i].m = t
  · rw [if_pos hm]
    simp [cutR, cutStep, ho, hm, delAt]
  · rw [if_neg hm, List.set_eq_take_append_cons_drop, if_pos hi]
    simp [cutR, cutStep, ho, hm]
set_option maxRecDepth 100000 in
theorem open_any {l : List El} {k : Int × Int × Int} {i : Nat} (hi : i < l.length) (ho : isOpen k l[i] = true) : l.any (isOpen k) = true := List.any_eq_true.2 ⟨_, List.getElem_mem hi, ho⟩
set_option maxRecDepth 100000 in
theorem open_no {l : List El} {k : Int × Int × Int} (h : ∀ e ∈ l, isOpen k e = false) : l.any (isOpen k) = false := by
  rw [List.any_eq_false]; intro e he; rw [h e he]; simp
set_option maxRecDepth 100000 in
theorem good_del {l : List El} (h : Good l) (i : Nat) : Good (delAt l i) := by
  have hs : (delAt l i).Sublist l := by
    unfold delAt
    conv => rhs; rw [← List.take_append_drop i l]
    refine List.Sublist.append (List.Sublist.refl _) ?_
    rw [← List.drop_drop]
    exact List.drop_sublist _ _
  exact ⟨Nat.le_trans hs.length_le h.1, fun e he => h.2.1 e (hs.mem he), h.2.2.sublist hs⟩

set_option maxRecDepth 100000 in
theorem set_key {l : List El} {i : Nat} (hi : i < l.length) {x : El} (hk : x.key = l[i].key) : ∀ e ∈ l.set i x, ∃ d ∈ l, d.key = e.key := fun e he => by
  rcases List.mem_or_eq_of_mem_set he with h | h
  · exact ⟨e, h, rfl⟩
  · exact ⟨l[i], List.getElem_mem hi, by rw [h, hk]⟩
set_option maxRecDepth 100000 in
theorem latest_set {l : List El} {i : Nat} {t : Int} (h : Good l) (hl : latest l ≤ t) (hi : i < l.length) : latest (l.set i { l[i] with g := t }) ≤ t := by
  have h0 := latest_nonneg l
  refine latest_le (by omega) fun e he => ?_
  rcases List.mem_or_eq_of_mem_set he with h1 | h1
  · exact Int.le_trans (latest_ge h1) hl
  · subst h1
    have hb := mem_bounds h (List.getElem_mem hi)
    exact last_le (by simp only; omega) (by simp only; omega)
set_option maxRecDepth 100000 in
/-- What Put makes of a run is a run. -/
theorem put_good {l : List El} {k : Int × Int × Int} {s : ByteArray} {t : Int} (hw : wrErr l (fresh k s t) = 0) (hp : putErr l k s t = 0) : Good (putR l k s t) := by
  obtain ⟨hG, hx, hl⟩ := wrErr_zero.1 hw
  obtain ⟨z1, z2, z3⟩ := sizes hw
  unfold putErr at hp
  rw [if_pos hw] at hp
  have hlt : latest l ≤ t := hl
  have z4 : 1 ≤ t := z3
  rcases hit_open hG k hlt with ⟨h1, h2, hi, h3, h4⟩ | ⟨h1, h2⟩
  · by_cases hm : l[pos l k t - 1].m = t
    · obtain ⟨e1, e2⟩ := put_same (s := s) hi h3 h4 hm
      rw [e2]
      have h5 := good_map hG (k := k) (s := s) hlt z2 z1
      rw [map_set hi h4, upd_open h3, if_pos hm] at h5
      exact h5
    · obtain ⟨e1, e2, e3, e4⟩ := put_new (s := s) hG hi h3 h4 hm hlt z2 z1
      rw [e1] at hp
      have h4' : l.length < 400 := by
        rcases Nat.lt_or_ge l.length 400 with h | h
        · exact h
        · rw [if_neg (by simp), if_pos h] at hp; omega
      have hno : ∀ e ∈ l.set (pos l k t - 1) { l[pos l k t - 1] with g := t }, e.key = (fresh k s t).key → e.g ≠ 0 := fun e he hk hg => by
        rw [fresh_key] at hk
        obtain ⟨j, hj, rfl⟩ := List.getElem_of_mem he
        rw [List.length_set] at hj
        rw [List.getElem_set] at hk hg
        split at hg
        · simp only at hg; omega
        · rename_i hne
          rw [if_neg hne] at hk
          have := h4 j hj (by omega)
          unfold isOpen at this; rw [decide_eq_false_iff_not] at this
          exact this ⟨hk, hg⟩
      have h9 : Good (insAt (l.set (pos l k t - 1) { l[pos l k t - 1] with g := t }) (pos (l.set (pos l k t - 1) { l[pos l k t - 1] with g := t }) k t) (fresh k s t)) := good_ins (x := fresh k s t) e2 hx (latest_set hG hlt hi) hno (by rw [List.length_set]; exact h4')
      rw [e3] at h9
      rw [e4]
      exact h9
  · obtain ⟨e1, e2⟩ := put_none (s := s) (t := t) hG h2
    rw [e1] at hp
    have h4' : l.length < 400 := by
      rcases Nat.lt_or_ge l.length 400 with h | h
      · exact h
      · rw [if_neg (by simp), if_pos h] at hp; omega
    rw [e2]
    exact good_ins (x := fresh k s t) hG hx hl (fun e he hk hg => by
      have := h2 e he
      unfold isOpen at this; rw [decide_eq_false_iff_not] at this
      exact this ⟨hk, hg⟩) h4'
set_option maxRecDepth 100000 in
theorem cut_good {l : List El} {k : Int × Int × Int} {t : Int} (hw : wrErr l (fresh k { data := #[] } t) = 0) : Good (cutR l k t) := by
  obtain ⟨hG, hx, hl⟩ := wrErr_zero.1 hw
  obtain ⟨z1, z2, z3⟩ := sizes hw
  have hlt : latest l ≤ t := hl
  rcases hit_open hG k hlt with ⟨h1, h2, hi, h3, h4⟩ | ⟨h1, h2⟩
  · rw [cut_at hi h3 h4]
    by_cases hm : l[pos l k t - 1].m = t
    · rw [if_pos hm]; exact good_del hG _
    · rw [if_neg hm]
      exact (put_new (s := { data := #[] }) hG hi h3 h4 hm hlt z2 z1).2.1
  · rw [cut_filter h2]; exact hG

/-! ### what the document's loops collect -/
def beyond (x : El) (y : El) : Bool := decide (sLt x.key x.m y.key y.m)
set_option maxRecDepth 100000 in
theorem ins_none {x : El} : ∀ {l : List El}, (∀ y ∈ l, beyond x y = false) → ins x l = l ++ [x]
  | [], _ => rfl
  | y :: l, h => by
    have h1 := h y (by simp)
    unfold beyond at h1; rw [decide_eq_false_iff_not] at h1
    unfold ins
    rw [if_neg h1, ins_none fun z hz => h z (by simp [hz])]
    rfl
set_option maxRecDepth 100000 in
theorem ins_some {x : El} : ∀ {a : List El} (b : List El), a.any (beyond x) = true → ins x (a ++ b) = ins x a ++ b
  | [], _, h => by simp at h
  | y :: a, b, h => by
    show ins x (y :: (a ++ b)) = _
    unfold ins
    by_cases h1 : sLt x.key x.m y.key y.m
    · rw [if_pos h1, if_pos h1]; rfl
    · rw [if_neg h1, if_neg h1]
      rw [List.any_cons] at h
      have h2 : beyond x y = false := by unfold beyond; rw [decide_eq_false_iff_not]; exact h1
      rw [h2, Bool.false_or] at h
      rw [ins_some b h]; rfl
set_option maxRecDepth 100000 in
theorem ins_first {x e : El} : ∀ {a : List El}, (∀ y ∈ a, beyond x y = false) → beyond x e = true → ins x (a ++ [e]) = a ++ [x] ++ [e]
  | [], _, h => by
    unfold beyond at h; rw [decide_eq_true_eq] at h
    show ins x [e] = _
    unfold ins
    rw [if_pos h]; rfl
  | y :: a, h0, h => by
    have h1 := h0 y (by simp)
    unfold beyond at h1; rw [decide_eq_false_iff_not] at h1
    show ins x (y :: (a ++ [e])) = _
    unfold ins
    rw [if_neg h1, ins_first (fun z hz => h0 z (by simp [hz])) h]
    rfl
set_option maxRecDepth 100000 in
theorem ins_mem {x e : El} : ∀ {l : List El}, e ∈ ins x l → e = x ∨ e ∈ l
  | [], h => by simp [ins] at h; exact .inl h
  | y :: l, h => by
    unfold ins at h
    split at h
    · rcases List.mem_cons.1 h with h | h
      · exact .inl h
      · exact .inr h
    · rcases List.mem_cons.1 h with h | h
      · exact .inr (by simp [h])
      · rcases ins_mem h with h | h
        · exact .inl h
        · exact .inr (by simp [h])
set_option maxRecDepth 100000 in
theorem any_not {x : El} {l : List El} (h : l.any (beyond x) = false) : ∀ y ∈ l, beyond x y = false := fun y hy => by
  rw [List.any_eq_false] at h
  have := h y hy
  simpa using this
set_option maxRecDepth 100000 in
theorem take_snoc3 {l : List El} {k : Nat} {e : El} (h : l[k]? = some e) : l.take (k + 1) = l.take k ++ [e] := by
  obtain ⟨hk, he⟩ := List.getElem?_eq_some_iff.1 h
  rw [List.take_succ_eq_append_getElem hk, he]

end Go.Proofs.Ytgebilpdinbfgaa

/- The bytes of a record, plainly. No function of the program. -/
namespace Go.Proofs.Ytgebilpdinbfgaa

/-- A number in k bytes, the highest first. -/
def be : Nat → Nat → List UInt8
  | 0, _ => []
  | k + 1, n => be k (n / 256) ++ [UInt8.ofNat (n % 256)]
def num (l : List UInt8) : Nat := l.foldl (fun n b => 256 * n + b.toNat) 0
set_option maxRecDepth 100000 in
theorem be_length (k n : Nat) : (be k n).length = k := by
  induction k generalizing n with
  | zero => rfl
  | succ k ih => rw [be, List.length_append, ih]; rfl
set_option maxRecDepth 100000 in
theorem num_snoc (l : List UInt8) (b : UInt8) : num (l ++ [b]) = 256 * num l + b.toNat := by simp [num]
set_option maxRecDepth 100000 in
theorem snoc_of {l : List UInt8} {k : Nat} (h : l.length = k + 1) : ∃ r b, l = r ++ [b] ∧ r.length = k := by
  have hne : l ≠ [] := by intro h2; subst h2; simp at h
  exact ⟨l.dropLast, l.getLast hne, (List.dropLast_concat_getLast hne).symm, by rw [List.length_dropLast, h]; rfl⟩
set_option maxRecDepth 100000 in
theorem num_lt : ∀ (k : Nat) (l : List UInt8), l.length = k → num l < 256 ^ k
  | 0, l, h => by have := List.eq_nil_of_length_eq_zero h; subst this; decide
  | k + 1, l, h => by
    obtain ⟨r, b, rfl, hr⟩ := snoc_of h
    have := num_lt k r hr
    have hb := b.toNat_lt
    rw [num_snoc, Nat.pow_succ]
    omega
set_option maxRecDepth 100000 in
theorem num_be : ∀ (k n : Nat), n < 256 ^ k → num (be k n) = n
  | 0, n, h => by simp at h; subst h; rfl
  | k + 1, n, h => by
    have hb : (UInt8.ofNat (n % 256)).toNat = n % 256 := by rw [UInt8.toNat_ofNat']; omega
    rw [be, num_snoc, num_be k (n / 256) (by rw [Nat.pow_succ] at h; omega), hb]
    omega
set_option maxRecDepth 100000 in
theorem be_num : ∀ (k : Nat) (l : List UInt8), l.length = k → be k (num l) = l
  | 0, l, h => by have := List.eq_nil_of_length_eq_zero h; subst this; rfl
  | k + 1, l, h => by
    obtain ⟨r, b, rfl, hr⟩ := snoc_of h
    have hb := b.toNat_lt
    rw [num_snoc, be, show (256 * num r + b.toNat) / 256 = num r from by omega, be_num k r hr, show (256 * num r + b.toNat) % 256 = b.toNat from by omega]
    simp

/-! ### One record -/
def enc (e : El) : List UInt8 := be 1 e.p.toNat ++ (be 4 e.o.toNat ++ (be 4 e.f.toNat ++ (be 4 e.m.toNat ++ (be 4 e.g.toNat ++ (be 1 e.s.size ++ e.s.data.toList)))))
def part (l : List UInt8) (i k : Nat) : List UInt8 := (l.drop i).take k
def lenB (l : List UInt8) : Nat := num (part l 17 1)
def decEl (l : List UInt8) : El := ⟨num (part l 0 1), num (part l 1 4), num (part l 5 4), num (part l 9 4), num (part l 13 4), ⟨(part l 18 (lenB l)).toArray⟩⟩
def decErr (l : List UInt8) : Int := if l.length < 18 ∨ l.length < 18 + lenB l then 7 else if (decEl l).err = 0 then 0 else 3
def decLen (l : List UInt8) : Nat := 18 + lenB l

set_option maxRecDepth 100000 in
theorem part_skip {a b : List UInt8} {n : Nat} (h : a.length = n) (i k : Nat) : part (a ++ b) (n + i) k = part b i k := by
  subst h; unfold part; rw [List.drop_append, List.drop_eq_nil_of_le (by omega), List.nil_append, Nat.add_sub_cancel_left]
set_option maxRecDepth 100000 in
theorem part_here {a b : List UInt8} {k : Nat} (h : a.length = k) : part (a ++ b) 0 k = a := by
  subst h; simp [part]
set_option maxRecDepth 100000 in
theorem part_length {l : List UInt8} {i k : Nat} (h : i + k ≤ l.length) : (part l i k).length = k := by simp [part]; omega
set_option maxRecDepth 100000 in
theorem bytes_len (s : ByteArray) : s.data.toList.length = s.size := by simp
set_option maxRecDepth 100000 in
theorem enc_length (e : El) : (enc e).length = 18 + e.s.size := by
  simp only [enc, List.length_append, be_length, bytes_len]; omega
set_option maxRecDepth 100000 in
theorem err_zero {e : El} (h : e.err = 0) : 0 ≤ e.p ∧ e.p ≤ 15 ∧ 0 ≤ e.o ∧ e.o ≤ 1048576 ∧ 0 ≤ e.f ∧ e.f ≤ 1073741824 ∧ 1 ≤ e.m ∧ e.m ≤ 2147483647 ∧ 0 ≤ e.g ∧ e.g ≤ 2147483647 ∧ e.s.size ≤ 40 := by
  obtain ⟨h1, h2, h3⟩ := elemErr_zero.1 h
  have hk : 0 ≤ e.p ∧ e.p ≤ 15 ∧ 0 ≤ e.o ∧ e.o ≤ 1048576 ∧ 0 ≤ e.f ∧ e.f ≤ 1073741824 := by
    unfold keyErr at h1; split at h1
    · assumption
    · cases h1
  unfold timeOk at h2
  omega

section
variable {e : El} (he : e.err = 0) (r : List UInt8)
include he
set_option maxRecDepth 100000 in
theorem parts_enc : num (part (enc e ++ r) 0 1) = e.p.toNat ∧ num (part (enc e ++ r) 1 4) = e.o.toNat ∧ num (part (enc e ++ r) 5 4) = e.f.toNat ∧ num (part (enc e ++ r) 9 4) = e.m.toNat ∧ num (part (enc e ++ r) 13 4) = e.g.toNat ∧ lenB (enc e ++ r) = e.s.size ∧ part (enc e ++ r) 18 e.s.size = e.s.data.toList := by
  obtain ⟨h1, h2, h3, h4, h5, h6, h7, h8, h9, h10, h11⟩ := err_zero he
  have E : enc e ++ r = be 1 e.p.toNat ++ (be 4 e.o.toNat ++ (be 4 e.f.toNat ++ (be 4 e.m.toNat ++ (be 4 e.g.toNat ++ (be 1 e.s.size ++ (e.s.data.toList ++ r)))))) := by simp [enc]
  have s1 := fun (b : List UInt8) (i k : Nat) => part_skip (b := b) (be_length 1 e.p.toNat) i k
  have s2 := fun (b : List UInt8) (i k : Nat) => part_skip (b := b) (be_length 4 e.o.toNat) i k
  have s3 := fun (b : List UInt8) (i k : Nat) => part_skip (b := b) (be_length 4 e.f.toNat) i k
  have s4 := fun (b : List UInt8) (i k : Nat) => part_skip (b := b) (be_length 4 e.m.toNat) i k
  have s5 := fun (b : List UInt8) (i k : Nat) => part_skip (b := b) (be_length 4 e.g.toNat) i k
  have s6 := fun (b : List UInt8) (i k : Nat) => part_skip (b := b) (be_length 1 e.s.size) i k
  refine ⟨?_, ?_, ?_, ?_, ?_, ?_, ?_⟩
  · rw [E, part_here (be_length _ _), num_be _ _ (by omega)]
  · rw [E, show 1 = 1 + 0 from rfl, s1, part_here (be_length _ _), num_be _ _ (by omega)]
  · rw [E, show 5 = 1 + (4 + 0) from rfl, s1, s2, part_here (be_length _ _), num_be _ _ (by omega)]
  · rw [E, show 9 = 1 + (4 + (4 + 0)) from rfl, s1, s2, s3, part_here (be_length _ _), num_be _ _ (by omega)]
  · rw [E, show 13 = 1 + (4 + (4 + (4 + 0))) from rfl, s1, s2, s3, s4, part_here (be_length _ _), num_be _ _ (by omega)]
  · rw [lenB, E, show 17 = 1 + (4 + (4 + (4 + (4 + 0)))) from rfl, s1, s2, s3, s4, s5, part_here (be_length _ _), num_be _ _ (by omega)]
  · rw [E, show 18 = 1 + (4 + (4 + (4 + (4 + (1 + 0))))) from rfl, s1, s2, s3, s4, s5, s6, part_here (bytes_len _)]
set_option maxRecDepth 100000 in
theorem decEl_enc : decEl (enc e ++ r) = e := by
  obtain ⟨h1, h2, h3, h4, h5, h6, h7, h8, h9, h10, h11⟩ := err_zero he
  obtain ⟨p1, p2, p3, p4, p5, p6, p7⟩ := parts_enc he r
  unfold decEl
  rw [p1, p2, p3, p4, p5, p6, p7]
  apply El.ext_iff'.2
  refine ⟨?_, ?_, ?_, ?_, ?_, ?_⟩ <;> simp only <;> omega
set_option maxRecDepth 100000 in
theorem dec_enc : decErr (enc e ++ r) = 0 ∧ decEl (enc e ++ r) = e ∧ decLen (enc e ++ r) = (enc e).length := by
  have p6 := (parts_enc he r).2.2.2.2.2.1
  have hE := decEl_enc he r
  have hl := enc_length e
  refine ⟨?_, hE, ?_⟩
  · unfold decErr
    rw [if_neg (by rw [p6, List.length_append, hl]; omega), hE, if_pos he]
  · unfold decLen; rw [p6, hl]
set_option maxRecDepth 100000 in
theorem dec_short {k : Nat} (hk : k < (enc e).length) : decErr ((enc e).take k) = 7 := by
  have hl := enc_length e
  have hlt : ((enc e).take k).length = k := by simp; omega
  unfold decErr
  rw [if_pos]
  by_cases h18 : k < 18
  · left; omega
  · right
    have p6 := (parts_enc he []).2.2.2.2.2.1
    rw [List.append_nil] at p6
    have : lenB ((enc e).take k) = lenB (enc e) := by
      unfold lenB part
      congr 1
      rw [List.drop_take, List.take_take]
      congr 1
      omega
    rw [this, p6, hlt]; omega
end
set_option maxRecDepth 100000 in
theorem decErr_or (l : List UInt8) : decErr l = 0 ∨ decErr l = 3 ∨ decErr l = 7 := by
  unfold decErr; split
  · simp
  · split <;> simp
set_option maxRecDepth 100000 in
theorem decErr_zero {l : List UInt8} (h : decErr l = 0) : 18 ≤ l.length ∧ decLen l ≤ l.length ∧ (decEl l).err = 0 := by
  unfold decErr at h
  split at h
  · cases h
  · split at h
    · unfold decLen; exact ⟨by omega, by omega, by assumption⟩
    · cases h
set_option maxRecDepth 100000 in
theorem enc_dec {l : List UInt8} (h : decErr l = 0) : enc (decEl l) = l.take (decLen l) := by
  obtain ⟨h1, h2, h3⟩ := decErr_zero h
  unfold decLen at *
  have hs : (decEl l).s.size = lenB l := by
    show (part l 18 (lenB l)).toArray.size = _
    rw [List.size_toArray, part_length (by omega)]
  have n1 : ∀ i k, i + k ≤ l.length → be k (num (part l i k)) = part l i k := fun i k hk => be_num k _ (part_length hk)
  unfold enc
  rw [hs]
  show be 1 ((num (part l 0 1) : Int)).toNat ++ (be 4 ((num (part l 1 4) : Int)).toNat ++ (be 4 ((num (part l 5 4) : Int)).toNat ++ (be 4 ((num (part l 9 4) : Int)).toNat ++ (be 4 ((num (part l 13 4) : Int)).toNat ++ (be 1 (lenB l) ++ (part l 18 (lenB l)).toArray.toList))))) = _
  simp only [Int.toNat_natCast]
  rw [n1 0 1 (by omega), n1 1 4 (by omega), n1 5 4 (by omega), n1 9 4 (by omega), n1 13 4 (by omega), show be 1 (lenB l) = part l 17 1 from n1 17 1 (by omega)]
  show part l 0 1 ++ (part l 1 4 ++ (part l 5 4 ++ (part l 9 4 ++ (part l 13 4 ++ (part l 17 1 ++ part l 18 (lenB l)))))) = _
  have j : ∀ i a b, part l i a ++ part l (i + a) b = part l i (a + b) := fun i a b => by
    unfold part; rw [List.take_add, List.drop_drop]
  rw [j 17 1 (lenB l), j 13 4, j 9 4, j 5 4, j 1 4, j 0 1]
  unfold part
  rw [List.drop_zero]
  congr 1; omega

/-! ### Many records -/
def decs : Nat → List UInt8 → Int × List El
  | 0, _ => (0, [])
  | n + 1, l => if l = [] then (0, []) else if decErr l = 0 then ((decs n (l.drop (decLen l))).1, decEl l :: (decs n (l.drop (decLen l))).2) else (decErr l, [])
set_option maxRecDepth 100000 in
theorem decs_more : ∀ (n m : Nat) (l : List UInt8), l.length ≤ n → l.length ≤ m → decs n l = decs m l
  | 0, 0, l, _, _ => rfl
  | 0, m + 1, l, h, _ => by have := List.eq_nil_of_length_eq_zero (Nat.le_zero.1 h); subst this; simp [decs]
  | n + 1, 0, l, _, h => by have := List.eq_nil_of_length_eq_zero (Nat.le_zero.1 h); subst this; simp [decs]
  | n + 1, m + 1, l, h1, h2 => by
    have hd : (l.drop (decLen l)).length ≤ n ∧ (l.drop (decLen l)).length ≤ m := by rw [List.length_drop]; unfold decLen; omega
    rw [decs, decs, decs_more n m _ hd.1 hd.2]
def allErr (l : List UInt8) : Int := (decs l.length l).1
def allEls (l : List UInt8) : List El := (decs l.length l).2
set_option maxRecDepth 100000 in
theorem decs_one {l : List UInt8} (hne : l ≠ []) (h : decErr l = 0) : decs l.length l = ((decs (l.drop (decLen l)).length (l.drop (decLen l))).1, decEl l :: (decs (l.drop (decLen l)).length (l.drop (decLen l))).2) := by
  obtain ⟨x, r, rfl⟩ := List.exists_cons_of_ne_nil hne
  rw [List.length_cons, decs, if_neg (by simp), if_pos h, decs_more r.length ((x :: r).drop (decLen (x :: r))).length _ (by rw [List.length_drop, List.length_cons]; unfold decLen; omega) (Nat.le_refl _)]
set_option maxRecDepth 100000 in
theorem all_nil : allErr [] = 0 ∧ allEls [] = [] := ⟨rfl, rfl⟩
set_option maxRecDepth 100000 in
theorem all_step {l : List UInt8} (hne : l ≠ []) (h : decErr l = 0) : allErr l = allErr (l.drop (decLen l)) ∧ allEls l = decEl l :: allEls (l.drop (decLen l)) := by
  unfold allErr allEls
  rw [decs_one hne h]
  exact ⟨rfl, rfl⟩
set_option maxRecDepth 100000 in
theorem all_bad {l : List UInt8} (hne : l ≠ []) (h : decErr l ≠ 0) : allErr l = decErr l ∧ allEls l = [] := by
  obtain ⟨x, r, rfl⟩ := List.exists_cons_of_ne_nil hne
  unfold allErr allEls
  rw [List.length_cons, decs, if_neg (by simp), if_neg h]
  exact ⟨rfl, rfl⟩
set_option maxRecDepth 100000 in
theorem all_length (n : Nat) : ∀ l : List UInt8, l.length ≤ n → 18 * (allEls l).length ≤ l.length := by
  induction n with
  | zero => intro l h; have := List.eq_nil_of_length_eq_zero (Nat.le_zero.1 h); subst this; simp [all_nil.2]
  | succ n ih =>
    intro l h
    by_cases hne : l = []
    · subst hne; simp [all_nil.2]
    by_cases hd : decErr l = 0
    · rw [(all_step hne hd).2]
      have h1 := decErr_zero hd
      have hdl : (l.drop (decLen l)).length = l.length - decLen l := List.length_drop
      have := ih (l.drop (decLen l)) (by rw [hdl]; unfold decLen; omega)
      rw [List.length_cons]
      unfold decLen at *
      omega
    · rw [(all_bad hne hd).2]; simp
set_option maxRecDepth 100000 in
theorem all_encs : ∀ l : List El, (∀ e ∈ l, e.err = 0) → allErr (l.flatMap enc) = 0 ∧ allEls (l.flatMap enc) = l
  | [], _ => all_nil
  | e :: l, h => by
    obtain ⟨d1, d2, d3⟩ := dec_enc (h e (by simp)) (l.flatMap enc)
    have hE : (e :: l).flatMap enc = enc e ++ l.flatMap enc := rfl
    have hne : enc e ++ l.flatMap enc ≠ [] := by
      intro h2; have := congrArg List.length h2; rw [List.length_append, enc_length] at this; simp at this
    have hdr : (enc e ++ l.flatMap enc).drop (decLen (enc e ++ l.flatMap enc)) = l.flatMap enc := by rw [d3, List.drop_left]
    rw [hE, (all_step hne d1).1, (all_step hne d1).2, hdr, d2]
    have := all_encs l fun x hx => h x (by simp [hx])
    exact ⟨this.1, by rw [this.2]⟩
set_option maxRecDepth 100000 in
theorem all_good (n : Nat) : ∀ l : List UInt8, l.length ≤ n → ∀ e ∈ allEls l, e.err = 0 := by
  induction n with
  | zero => intro l h; have := List.eq_nil_of_length_eq_zero (Nat.le_zero.1 h); subst this; simp [all_nil.2]
  | succ n ih =>
    intro l h
    by_cases hne : l = []
    · subst hne; simp [all_nil.2]
    by_cases hd : decErr l = 0
    · rw [(all_step hne hd).2]
      have hdl : (l.drop (decLen l)).length = l.length - decLen l := List.length_drop
      intro e he
      rcases List.mem_cons.1 he with rfl | he
      · exact (decErr_zero hd).2.2
      · exact ih (l.drop (decLen l)) (by rw [hdl]; unfold decLen; omega) e he
    · rw [(all_bad hne hd).2]; simp
end Go.Proofs.Ytgebilpdinbfgaa

/- CRC-16, plainly: the register's step is linear and loses nothing; a string's bits one after another. No function of the program. -/
namespace Go.Proofs.Ytgebilpdinbfgaa

/-- The register moved by one bit. -/
def shB (r : BitVec 16) : BitVec 16 := (r <<< 1) ^^^ (if r.msb then 0x1021#16 else 0#16)
def shN : Nat → BitVec 16 → BitVec 16
  | 0, r => r
  | n + 1, r => shN n (shB r)
/-- One byte. -/
def stp (r : BitVec 16) (c : UInt8) : BitVec 16 := shN 8 (r ^^^ (BitVec.ofNat 16 c.toNat <<< 8))
def crcF (r : BitVec 16) (l : List UInt8) : BitVec 16 := l.foldl stp r
def crc (l : List UInt8) : BitVec 16 := crcF 0#16 l

set_option maxRecDepth 100000 in
theorem xor4 (a b c d : BitVec 16) : a ^^^ b ^^^ (c ^^^ d) = a ^^^ c ^^^ (b ^^^ d) := by
  rw [BitVec.xor_assoc, BitVec.xor_assoc, ← BitVec.xor_assoc b c d, BitVec.xor_comm b c, BitVec.xor_assoc c b d]
set_option maxRecDepth 100000 in
theorem shB_xor (a b : BitVec 16) : shB (a ^^^ b) = shB a ^^^ shB b := by
  unfold shB
  rw [xor4, BitVec.shiftLeft_xor_distrib, BitVec.msb_xor]
  cases a.msb <;> cases b.msb <;> simp
set_option maxRecDepth 100000 in
theorem shB_zero : shB 0#16 = 0#16 := by decide
set_option maxRecDepth 100000 in
theorem shN_zero (n : Nat) : shN n 0#16 = 0#16 := by induction n with
  | zero => rfl
  | succ n ih => rw [shN, shB_zero, ih]
set_option maxRecDepth 100000 in
theorem shN_xor (n : Nat) (a b : BitVec 16) : shN n (a ^^^ b) = shN n a ^^^ shN n b := by induction n generalizing a b with
  | zero => rfl
  | succ n ih => rw [shN, shB_xor, ih]; rfl
set_option maxRecDepth 100000 in
theorem shN_add (m n : Nat) (a : BitVec 16) : shN (m + n) a = shN n (shN m a) := by induction m generalizing a with
  | zero => simp [shN]
  | succ m ih => rw [show m + 1 + n = (m + n) + 1 from by omega, shN, ih]; rfl
set_option maxRecDepth 100000 in
theorem shN_one (a : BitVec 16) : shN 1 a = shB a := rfl
set_option maxRecDepth 100000 in
theorem shN_comm (m n : Nat) (a : BitVec 16) : shN m (shN n a) = shN n (shN m a) := by rw [← shN_add, ← shN_add, Nat.add_comm]

set_option maxRecDepth 100000 in
theorem shB_nonzero (a : BitVec 16) (h : shB a = 0#16) : a = 0#16 := by
  have hm : a.msb = false := by
    cases hm : a.msb with
    | false => rfl
    | true =>
      have h0 : (shB a).getLsbD 0 = (0#16).getLsbD 0 := by rw [h]
      unfold shB at h0
      rw [hm] at h0
      simp at h0
  unfold shB at h
  rw [hm] at h
  simp at h
  apply BitVec.eq_of_getLsbD_eq
  intro i hi
  rcases Nat.lt_or_ge i 15 with hlt | hge
  · have := congrArg (fun x => x.getLsbD (i + 1)) h
    simp at this
    have h2 := this (by omega)
    simpa using h2
  · have : i = 15 := by omega
    subst this
    simpa [BitVec.msb_eq_getLsbD_last] using hm
set_option maxRecDepth 100000 in
theorem shN_nonzero (n : Nat) (a : BitVec 16) (h : shN n a = 0#16) : a = 0#16 := by induction n generalizing a with
  | zero => exact h
  | succ n ih => exact shB_nonzero _ (ih _ h)

set_option maxRecDepth 100000 in
theorem stp_xor (r d : BitVec 16) (c : UInt8) : stp (r ^^^ d) c = stp r c ^^^ shN 8 d := by
  unfold stp
  rw [← shN_xor, BitVec.xor_assoc, BitVec.xor_comm d, ← BitVec.xor_assoc]
set_option maxRecDepth 100000 in
theorem crcF_xor (l : List UInt8) (r d : BitVec 16) : crcF (r ^^^ d) l = crcF r l ^^^ shN (8 * l.length) d := by
  induction l generalizing r d with
  | nil => simp [crcF, shN]
  | cons c l ih =>
    show crcF (stp (r ^^^ d) c) l = crcF (stp r c) l ^^^ _
    rw [stp_xor, ih, ← shN_add]
    congr 2
    simp; omega
set_option maxRecDepth 100000 in
theorem crcF_append (r : BitVec 16) (a b : List UInt8) : crcF r (a ++ b) = crcF (crcF r a) b := by simp [crcF]
set_option maxRecDepth 100000 in
theorem crc_snoc (l : List UInt8) (c : UInt8) : crc (l ++ [c]) = stp (crc l) c := by simp [crc, crcF]

/-! ### Two strings together -/
set_option maxRecDepth 100000 in
theorem byte_xor (a b : UInt8) : BitVec.ofNat 16 (a ^^^ b).toNat <<< 8 = (BitVec.ofNat 16 a.toNat <<< 8) ^^^ (BitVec.ofNat 16 b.toNat <<< 8) := by
  rw [← BitVec.shiftLeft_xor_distrib, UInt8.toNat_xor]
  congr 1
  apply BitVec.eq_of_toNat_eq
  rw [BitVec.toNat_xor, BitVec.toNat_ofNat, BitVec.toNat_ofNat, BitVec.toNat_ofNat]
  have ha := a.toNat_lt; have hb := b.toNat_lt
  have hx : a.toNat ^^^ b.toNat < 2 ^ 8 := Nat.xor_lt_two_pow (by omega) (by omega)
  rw [Nat.mod_eq_of_lt (by omega), Nat.mod_eq_of_lt (by omega), Nat.mod_eq_of_lt (by omega)]
set_option maxRecDepth 100000 in
theorem stp_both (r d : BitVec 16) (a b : UInt8) : stp (r ^^^ d) (a ^^^ b) = stp r a ^^^ stp d b := by
  unfold stp
  rw [← shN_xor, byte_xor, xor4]
set_option maxRecDepth 100000 in
theorem crcF_both (a b : List UInt8) (h : a.length = b.length) (r d : BitVec 16) : crcF (r ^^^ d) (List.zipWith (· ^^^ ·) a b) = crcF r a ^^^ crcF d b := by
  induction a generalizing b r d with
  | nil => cases b with
    | nil => rfl
    | cons => simp at h
  | cons x a ih => cases b with
    | nil => simp at h
    | cons y b =>
      show crcF (stp (r ^^^ d) (x ^^^ y)) _ = crcF (stp r x) a ^^^ crcF (stp d y) b
      rw [stp_both, ih b (by simpa using h)]
set_option maxRecDepth 100000 in
theorem crc_both (a b : List UInt8) (h : a.length = b.length) : crc (List.zipWith (· ^^^ ·) a b) = crc a ^^^ crc b := by
  have := crcF_both a b h 0#16 0#16
  simpa [crc] using this
set_option maxRecDepth 100000 in
theorem crc_noughts (n : Nat) (l : List UInt8) : crc (List.replicate n 0 ++ l) = crc l := by
  unfold crc
  rw [crcF_append]
  congr 1
  induction n with
  | zero => rfl
  | succ n ih =>
    rw [List.replicate_succ]
    show crcF (stp 0#16 0) (List.replicate n 0) = _
    rw [show stp 0#16 0 = 0#16 from by decide]
    exact ih

/-! ### A string and its check sum -/
set_option maxRecDepth 100000 in
theorem small8 (n : Nat) (h : n < 256) : shN 8 (BitVec.ofNat 16 n) = BitVec.ofNat 16 n <<< 8 := by
  have : ∀ n : Fin 256, shN 8 (BitVec.ofNat 16 n.val) = BitVec.ofNat 16 n.val <<< 8 := by decide +kernel
  exact this ⟨n, h⟩
set_option maxRecDepth 100000 in
theorem halves (x : BitVec 16) : x = (BitVec.ofNat 16 (x.toNat / 256) <<< 8) ^^^ BitVec.ofNat 16 (x.toNat % 256) := by
  have hx := x.isLt
  apply BitVec.eq_of_toNat_eq
  rw [BitVec.toNat_xor, BitVec.toNat_shiftLeft, BitVec.toNat_ofNat, BitVec.toNat_ofNat]
  rw [Nat.mod_eq_of_lt (a := x.toNat / 256) (by omega), Nat.mod_eq_of_lt (a := x.toNat % 256) (by omega), Nat.shiftLeft_eq, Nat.mod_eq_of_lt (a := x.toNat / 256 * 2 ^ 8) (by omega)]
  apply Nat.eq_of_testBit_eq
  intro i
  rw [Nat.testBit_xor]
  have e1 : x.toNat / 256 * 2 ^ 8 = (x.toNat / 2 ^ 8) <<< 8 := by rw [Nat.shiftLeft_eq]
  have e2 : x.toNat % 256 = x.toNat % 2 ^ 8 := rfl
  rw [e1, e2, Nat.testBit_shiftLeft, Nat.testBit_mod_two_pow, Nat.testBit_div_two_pow]
  by_cases h : 8 ≤ i
  · have h' : ¬ i < 8 := by omega
    simp [h, h']
  · have h' : i < 8 := by omega
    simp [h, h']
set_option maxRecDepth 100000 in
theorem xor_part {x a b : BitVec 16} (h : x = a ^^^ b) : x ^^^ a = b := by
  rw [h, BitVec.xor_comm a b, BitVec.xor_assoc, BitVec.xor_self, BitVec.xor_zero]
set_option maxRecDepth 100000 in
theorem crc_nought (l : List UInt8) (a b : UInt8) (ha : a.toNat = (crc l).toNat / 256) (hb : b.toNat = (crc l).toNat % 256) : crc (l ++ [a, b]) = 0#16 := by
  have e : crc (l ++ [a, b]) = stp (stp (crc l) a) b := by simp [crc, crcF]
  rw [e]
  have h1 : stp (crc l) a = BitVec.ofNat 16 b.toNat <<< 8 := by
    unfold stp
    have hx := halves (crc l)
    rw [ha]
    have h2 : crc l ^^^ BitVec.ofNat 16 ((crc l).toNat / 256) <<< 8 = BitVec.ofNat 16 ((crc l).toNat % 256) := xor_part hx
    rw [h2, ← hb, small8 _ b.toNat_lt]
  rw [h1]
  unfold stp
  simp [shN_zero]

/-! ### A burst -/
set_option maxRecDepth 100000 in
theorem mask_one (q : Nat) (h : q < 8) : shN 8 (BitVec.ofNat 16 (128 >>> q) <<< 8) = shN (8 - q) 0x8000#16 := by
  have : ∀ q : Fin 8, shN 8 (BitVec.ofNat 16 (128 >>> q.val) <<< 8) = shN (8 - q.val) 0x8000#16 := by decide +kernel
  exact this ⟨q, h⟩
set_option maxRecDepth 100000 in
theorem crcF_flip (l : List UInt8) (r : BitVec 16) (j q : Nat) (hj : j < l.length) (hq : q < 8) (c m : UInt8) (hc : l[j]? = some c) (hm : m.toNat = 128 >>> q) :
    crcF r (l.set j (c ^^^ m)) = crcF r l ^^^ shN (8 * l.length - (8 * j + q)) 0x8000#16 := by
  induction l generalizing r j with
  | nil => simp at hj
  | cons x l ih =>
    cases j with
    | zero =>
      simp at hc; subst hc
      show crcF (stp r (x ^^^ m)) l = crcF (stp r x) l ^^^ _
      have h1 : stp r (x ^^^ m) = stp r x ^^^ shN (8 - q) 0x8000#16 := by
        have := stp_both r 0#16 x m
        rw [BitVec.xor_zero] at this
        rw [this]; congr 1
        unfold stp
        rw [hm, BitVec.zero_xor, mask_one q hq]
      rw [h1, crcF_xor, ← shN_add]
      congr 2; simp; omega
    | succ j =>
      show crcF (stp r x) (l.set j _) = crcF (stp r x) l ^^^ _
      rw [ih _ j (by simpa using hj) (by simpa using hc)]
      congr 2; simp; omega
set_option maxRecDepth 100000 in
theorem top_one (i : Nat) (h : i < 16) : shN i (0x8000#16 >>> i) = 0x8000#16 := by
  have : ∀ i : Fin 16, shN i.val (0x8000#16 >>> i.val) = 0x8000#16 := by decide +kernel
  exact this ⟨i, h⟩
/-- The burst, written from the top. -/
def burst (t : Nat) : Nat → BitVec 16
  | 0 => 0#16
  | i + 1 => burst t i ^^^ (if t.testBit i then 0x8000#16 >>> i else 0#16)
set_option maxRecDepth 100000 in
theorem burst_bit (t : Nat) (i k : Nat) (hk : k < 16) : (burst t i).getLsbD k = (decide (15 - k < i) && t.testBit (15 - k)) := by
  induction i with
  | zero => simp [burst]
  | succ i ih =>
    rw [burst, BitVec.getLsbD_xor, ih]
    have h8 : ∀ i k : Fin 16, (0x8000#16 >>> i.val).getLsbD k.val = decide (15 - k.val = i.val) := by decide +kernel
    by_cases h : 15 - k = i
    · have := h8 ⟨i, by omega⟩ ⟨k, hk⟩
      simp only [h, decide_true] at this
      have h1 : ¬ 15 - k < i := by omega
      have h2 : 15 - k < i + 1 := by omega
      rw [h]
      cases ht : t.testBit i <;> simp [this]
    · have hz : (if t.testBit i then 0x8000#16 >>> i else 0#16).getLsbD k = false := by
        split
        · rcases Nat.lt_or_ge i 16 with hi | hi
          · have := h8 ⟨i, hi⟩ ⟨k, hk⟩
            simp only [h, decide_false] at this
            exact this
          · rw [BitVec.getLsbD_ushiftRight]
            exact BitVec.getLsbD_of_ge _ _ (by omega)
        · simp
      rw [hz, Bool.xor_false]
      congr 1
      rw [decide_eq_decide]; omega
set_option maxRecDepth 100000 in
theorem burst_nonzero (t : Nat) (ht : 0 < t) (h16 : t < 65536) : burst t 16 ≠ 0#16 := by
  intro h
  have h0 : t = 0 := by
    apply Nat.eq_of_testBit_eq
    intro i
    rw [Nat.zero_testBit]
    rcases Nat.lt_or_ge i 16 with hi | hi
    · have := burst_bit t 16 (15 - i) (by omega)
      rw [h] at this
      simp at this
      have := this (by omega)
      rwa [show 15 - (15 - i) = i from by omega] at this
    · exact Nat.testBit_lt_two_pow (Nat.lt_of_lt_of_le h16 (Nat.pow_le_pow_right (n := 2) (i := 16) (by omega) hi))
  omega
/-- The bytes after i steps of the burst at the bit 'at'. -/
def flips (l : List UInt8) (at_ t : Nat) : Nat → List UInt8
  | 0 => l
  | i + 1 => if t.testBit i then (flips l at_ t i).set ((at_ + i) / 8) (((flips l at_ t i)[(at_ + i) / 8]?.getD 0) ^^^ UInt8.ofNat (128 >>> ((at_ + i) % 8))) else flips l at_ t i
set_option maxRecDepth 100000 in
theorem flips_length (l : List UInt8) (at_ t i : Nat) : (flips l at_ t i).length = l.length := by
  induction i with
  | zero => rfl
  | succ i ih => rw [flips]; split <;> simp [ih]
set_option maxRecDepth 100000 in
theorem crc_flips (l : List UInt8) (at_ t i : Nat) (hi : i ≤ 16) (h : at_ + 16 ≤ 8 * l.length) : crc (flips l at_ t i) = crc l ^^^ shN (8 * l.length - at_) (burst t i) := by
  induction i with
  | zero => simp [flips, burst, shN_zero]
  | succ i ih =>
    rw [flips, burst, shN_xor, ← BitVec.xor_assoc, ← ih (by omega)]
    split
    · have hl := flips_length l at_ t i
      have hj : (at_ + i) / 8 < (flips l at_ t i).length := by omega
      have hc : (flips l at_ t i)[(at_ + i) / 8]? = some ((flips l at_ t i)[(at_ + i) / 8]?.getD 0) := by
        rw [List.getElem?_eq_getElem hj]; rfl
      have hm : ∀ q : Fin 8, (UInt8.ofNat (128 >>> q.val)).toNat = 128 >>> q.val := by decide +kernel
      unfold crc
      rw [crcF_flip _ 0#16 _ ((at_ + i) % 8) hj (by omega) _ _ hc (hm ⟨_, Nat.mod_lt _ (by omega)⟩)]
      congr 1
      rw [hl, ← top_one i (by omega), ← shN_add, top_one i (by omega)]
      congr 1; omega
    · simp [shN_zero]
set_option maxRecDepth 100000 in
theorem crc_burst (l : List UInt8) (at_ t : Nat) (ht : 0 < t) (h16 : t < 65536) (h : at_ + 16 ≤ 8 * l.length) : crc (flips l at_ t 16) ≠ crc l := by
  intro he
  rw [crc_flips l at_ t 16 (by omega) h] at he
  have h2 : shN (8 * l.length - at_) (burst t 16) = 0#16 := by
    have := congrArg (fun x => crc l ^^^ x) he
    simp only [← BitVec.xor_assoc, BitVec.xor_self, BitVec.zero_xor] at this
    exact this
  exact burst_nonzero t ht h16 (shN_nonzero _ _ h2)

/-! ### By another road: the bits of the text behind which nothing stands -/
def bitN (l : List UInt8) (i : Nat) : Nat := if i < 8 * l.length then ((l[i / 8]?.getD 0).toNat >>> (7 - i % 8)) % 2 else 0
set_option maxRecDepth 100000 in
theorem bitN_lt (l : List UInt8) (i : Nat) : bitN l i < 2 := by unfold bitN; split <;> omega
def refS (l : List UInt8) : Nat → BitVec 16
  | 0 => 0#16
  | i + 1 => shB (refS l i) ^^^ BitVec.ofNat 16 (bitN l i)
set_option maxRecDepth 100000 in
theorem byte_bits (c : UInt8) : shN 23 (BitVec.ofNat 16 ((c.toNat >>> 7) % 2)) ^^^ shN 22 (BitVec.ofNat 16 ((c.toNat >>> 6) % 2)) ^^^ shN 21 (BitVec.ofNat 16 ((c.toNat >>> 5) % 2)) ^^^ shN 20 (BitVec.ofNat 16 ((c.toNat >>> 4) % 2)) ^^^
    shN 19 (BitVec.ofNat 16 ((c.toNat >>> 3) % 2)) ^^^ shN 18 (BitVec.ofNat 16 ((c.toNat >>> 2) % 2)) ^^^ shN 17 (BitVec.ofNat 16 ((c.toNat >>> 1) % 2)) ^^^ shN 16 (BitVec.ofNat 16 ((c.toNat >>> 0) % 2)) = shN 8 (BitVec.ofNat 16 c.toNat <<< 8) := by
  have : ∀ c : Fin 256, shN 23 (BitVec.ofNat 16 ((c.val >>> 7) % 2)) ^^^ shN 22 (BitVec.ofNat 16 ((c.val >>> 6) % 2)) ^^^ shN 21 (BitVec.ofNat 16 ((c.val >>> 5) % 2)) ^^^ shN 20 (BitVec.ofNat 16 ((c.val >>> 4) % 2)) ^^^
    shN 19 (BitVec.ofNat 16 ((c.val >>> 3) % 2)) ^^^ shN 18 (BitVec.ofNat 16 ((c.val >>> 2) % 2)) ^^^ shN 17 (BitVec.ofNat 16 ((c.val >>> 1) % 2)) ^^^ shN 16 (BitVec.ofNat 16 ((c.val >>> 0) % 2)) = shN 8 (BitVec.ofNat 16 c.val <<< 8) := by decide +kernel
  exact this ⟨c.toNat, c.toNat_lt⟩
set_option maxRecDepth 100000 in
theorem shB_shN (n : Nat) (a : BitVec 16) : shB (shN n a) = shN (n + 1) a := by rw [← shN_one, ← shN_add]
set_option maxRecDepth 100000 in
theorem refS_byte (l : List UInt8) (k : Nat) (hk : k < l.length) : shN 16 (refS l (8 * k + 8)) = stp (shN 16 (refS l (8 * k))) (l[k]?.getD 0) := by
  have hb : ∀ q, q < 8 → bitN l (8 * k + q) = ((l[k]?.getD 0).toNat >>> (7 - q)) % 2 := fun q hq => by
    unfold bitN
    rw [if_pos (by omega), show (8 * k + q) / 8 = k from by omega, show (8 * k + q) % 8 = q from by omega]
  have b0 := hb 0 (by omega); have b1 := hb 1 (by omega); have b2 := hb 2 (by omega); have b3 := hb 3 (by omega)
  have b4 := hb 4 (by omega); have b5 := hb 5 (by omega); have b6 := hb 6 (by omega); have b7 := hb 7 (by omega)
  rw [Nat.add_zero] at b0
  simp only [Nat.reduceSub, Nat.sub_zero, Nat.sub_self] at b0 b1 b2 b3 b4 b5 b6 b7
  have e : ∀ q, 8 * k + (q + 1) = (8 * k + q) + 1 := fun q => by omega
  rw [show 8 * k + 8 = 8 * k + 7 + 1 from rfl, refS, show 8 * k + 7 = 8 * k + 6 + 1 from rfl, refS, show 8 * k + 6 = 8 * k + 5 + 1 from rfl, refS, show 8 * k + 5 = 8 * k + 4 + 1 from rfl, refS,
    show 8 * k + 4 = 8 * k + 3 + 1 from rfl, refS, show 8 * k + 3 = 8 * k + 2 + 1 from rfl, refS, show 8 * k + 2 = 8 * k + 1 + 1 from rfl, refS, refS]
  simp only [show 8 * k + 1 + 1 = 8 * k + 2 from rfl, show 8 * k + 2 + 1 = 8 * k + 3 from rfl, show 8 * k + 3 + 1 = 8 * k + 4 from rfl, show 8 * k + 4 + 1 = 8 * k + 5 from rfl, show 8 * k + 5 + 1 = 8 * k + 6 from rfl, show 8 * k + 6 + 1 = 8 * k + 7 from rfl, b0, b1, b2, b3, b4, b5, b6, b7]
  unfold stp
  rw [shN_xor 8, ← byte_bits]
  simp only [shN_xor, ← shN_one, ← shN_add, Nat.reduceAdd]
  simp only [BitVec.xor_assoc]
set_option maxRecDepth 100000 in
theorem refS_take (l : List UInt8) (k : Nat) (hk : k ≤ l.length) : shN 16 (refS l (8 * k)) = crc (l.take k) := by
  induction k with
  | zero => simp [refS, shN_zero, crc, crcF]
  | succ k ih =>
    rw [show 8 * (k + 1) = 8 * k + 8 from by omega, refS_byte l k (by omega), ih (by omega), List.take_succ_eq_append_getElem (by omega), crc_snoc, List.getElem?_eq_getElem (by omega)]
    rfl
set_option maxRecDepth 100000 in
theorem refS_end (l : List UInt8) (j : Nat) : refS l (8 * l.length + j) = shN j (refS l (8 * l.length)) := by
  induction j with
  | zero => rfl
  | succ j ih =>
    rw [show 8 * l.length + (j + 1) = 8 * l.length + j + 1 from rfl, refS, ih, shB_shN]
    have : bitN l (8 * l.length + j) = 0 := by unfold bitN; rw [if_neg (by omega)]
    rw [this]; simp
set_option maxRecDepth 100000 in
theorem refS_crc (l : List UInt8) : refS l (8 * (l.length + 2)) = crc l := by
  rw [show 8 * (l.length + 2) = 8 * l.length + 16 from by omega, refS_end, refS_take l l.length (Nat.le_refl _), List.take_length]
set_option maxRecDepth 100000 in
theorem even_xor (m b : Nat) (hb : b < 2) : 2 * m ^^^ b = 2 * m + b := by
  apply Nat.eq_of_testBit_eq
  intro i
  cases i with
  | zero => simp [Nat.testBit_zero]
  | succ i =>
    rw [Nat.testBit_xor, Nat.testBit_succ, Nat.testBit_succ, Nat.testBit_succ, show b / 2 = 0 from by omega, show 2 * m / 2 = m from by omega, show (2 * m + b) / 2 = m from by omega]; simp
set_option maxRecDepth 100000 in
theorem ref_step (r : BitVec 16) (b : Nat) (hb : b < 2) : ((shB r ^^^ BitVec.ofNat 16 b).toNat : Nat) = if 65536 ≤ r.toNat * 2 + b then (r.toNat * 2 + b - 65536) ^^^ 4129 else r.toNat * 2 + b := by
  have hr := r.isLt
  have hx : (r <<< 1 ^^^ BitVec.ofNat 16 b).toNat = r.toNat * 2 % 65536 + b := by
    rw [BitVec.toNat_xor, BitVec.toNat_shiftLeft, BitVec.toNat_ofNat, Nat.mod_eq_of_lt (a := b) (by omega), Nat.shiftLeft_eq]
    have : r.toNat * 2 ^ 1 % 2 ^ 16 = 2 * (r.toNat % 32768) := by omega
    rw [this, even_xor _ _ hb]
  unfold shB
  cases hm : r.msb with
  | false =>
    have h2 : r.toNat < 32768 := by
      have := BitVec.msb_eq_decide r; rw [hm] at this; simpa using this.symm
    rw [if_neg (by simp), BitVec.xor_zero, hx, if_neg (by omega)]; omega
  | true =>
    have h2 : 32768 ≤ r.toNat := by
      have := BitVec.msb_eq_decide r; rw [hm] at this; simpa using this.symm
    rw [if_pos rfl, BitVec.xor_assoc, BitVec.xor_comm 0x1021#16, ← BitVec.xor_assoc, BitVec.toNat_xor, hx, if_pos (by omega)]
    have : r.toNat * 2 % 65536 + b = r.toNat * 2 + b - 65536 := by omega
    rw [this]; rfl
set_option maxRecDepth 100000 in
/-- How the program moves the register. -/
theorem shB_top (r : BitVec 16) (h : 32768 ≤ r.toNat) : (shB r).toNat = (r.toNat * 2 % 65536) ^^^ 4129 := by
  have hr := r.isLt
  have := ref_step r 0 (by omega)
  simp only [BitVec.xor_zero, Nat.add_zero] at this
  rw [this, if_pos (by omega), show r.toNat * 2 - 65536 = r.toNat * 2 % 65536 from by omega]
set_option maxRecDepth 100000 in
theorem shB_low (r : BitVec 16) (h : r.toNat < 32768) : (shB r).toNat = r.toNat * 2 := by
  have := ref_step r 0 (by omega)
  simp only [BitVec.xor_zero, Nat.add_zero] at this
  rw [this, if_neg (by omega)]
set_option maxRecDepth 100000 in
theorem stp_in (r : BitVec 16) (c : UInt8) : (r ^^^ (BitVec.ofNat 16 c.toNat <<< 8)).toNat = r.toNat ^^^ (c.toNat * 256) := by
  have hc := c.toNat_lt
  rw [BitVec.toNat_xor, BitVec.toNat_shiftLeft, BitVec.toNat_ofNat, Nat.mod_eq_of_lt (a := c.toNat) (by omega), Nat.shiftLeft_eq, Nat.mod_eq_of_lt (by omega)]
set_option maxRecDepth 100000 in
theorem crc_check : crc [49, 50, 51, 52, 53, 54, 55, 56, 57] = 0x31c3#16 := by decide +kernel
set_option maxRecDepth 100000 in
theorem crc_check0 : crc [49, 50, 51, 52, 53, 54, 55, 56, 57, 49, 195] = 0#16 := by decide +kernel
set_option maxRecDepth 100000 in
theorem crc_a : (crc [97]).toNat = 31879 := by decide +kernel
set_option maxRecDepth 100000 in
theorem crc_b : (crc [98]).toNat = 19684 := by decide +kernel
end Go.Proofs.Ytgebilpdinbfgaa

/- Nodes, plainly: what is wrong with one, its greatest time, the child of a spot. No function of the program. -/
namespace Go.Proofs.Ytgebilpdinbfgaa

/-- A spot. -/
structure Sp where
  p : Int
  o : Int
  f : Int
  m : Int
def Sp.el (s : Sp) : El := ⟨s.p, s.o, s.f, s.m, 0, { data := #[] }⟩
def Rise (a b : El) : Prop := sLt a.key a.m b.key b.m
instance (a b : El) : Decidable (Rise a b) := inferInstanceAs (Decidable (sLt _ _ _ _))
/-- What is wrong with the record at i, in a row whose spots must rise. -/
def sStep (l : List El) (i : Nat) : Int :=
  match l[i]? with
  | none => 0
  | some e => if e.err ≠ 0 then e.err else
    match (if i = 0 then none else l[i - 1]?) with
    | none => 0
    | some q => if Rise q e then 0 else 3
def elsErr (l : List El) : Int := firstErr (sStep l) l.length

set_option maxRecDepth 100000 in
theorem sStep_zero {l : List El} {i : Nat} (hi : i < l.length) : sStep l i = 0 ↔ l[i].err = 0 ∧ (∀ h : 0 < i, Rise (l[i - 1]'(by omega)) l[i]) := by
  unfold sStep
  rw [List.getElem?_eq_getElem hi]
  simp only
  by_cases he : l[i].err = 0
  · rw [if_neg (by simpa using he)]
    by_cases h0 : i = 0
    · subst h0; simp [he]
    · rw [if_neg h0, List.getElem?_eq_getElem (by omega)]
      simp only
      by_cases hF : Rise (l[i - 1]'(by omega)) l[i]
      · simp [hF, he]
      · simp only [hF, if_false]
        constructor
        · intro h; omega
        · intro h; exact absurd (h.2 (by omega)) id
  · rw [if_pos he]; simp [he]
set_option maxRecDepth 100000 in
theorem rise_pairwise {l : List El} (h : ∀ i (hi : i + 1 < l.length), Rise l[i] l[i + 1]) : l.Pairwise Rise := by
  rw [List.pairwise_iff_getElem]
  intro i j hi hj hij
  obtain ⟨d, rfl⟩ : ∃ d, j = i + 1 + d := ⟨j - (i + 1), by omega⟩
  induction d with
  | zero => exact h i hj
  | succ d ih => exact sLt_trans (ih (by omega) (by omega)) (h (i + 1 + d) hj)
set_option maxRecDepth 100000 in
theorem elsErr_zero {l : List El} : elsErr l = 0 ↔ (∀ e ∈ l, e.err = 0) ∧ l.Pairwise Rise := by
  unfold elsErr
  rw [firstErr_zero]
  constructor
  · intro h
    refine ⟨fun e he => ?_, rise_pairwise fun i hi => ((sStep_zero hi).1 (h (i + 1) hi)).2 (by omega)⟩
    obtain ⟨i, hi, rfl⟩ := List.getElem_of_mem he
    exact ((sStep_zero hi).1 (h i hi)).1
  · rintro ⟨h1, h2⟩ i hi
    rw [sStep_zero hi]
    exact ⟨h1 _ (List.getElem_mem _), fun h => List.pairwise_iff_getElem.1 h2 (i - 1) i (by omega) hi (by omega)⟩
set_option maxRecDepth 100000 in
theorem sStep_err {l : List El} {k : Nat} {e : El} (h : l[k]? = some e) (he : e.err ≠ 0) : sStep l k = e.err := by
  unfold sStep; rw [h]; simp only; rw [if_pos he]
set_option maxRecDepth 100000 in
theorem sStep_form {l : List El} {k : Nat} {e d : El} (h : l[k]? = some e) (he : e.err = 0) (h0 : 0 < k) (hd : l[k - 1]? = some d) : sStep l k = if Rise d e then 0 else 3 := by
  unfold sStep; rw [h]; simp only; rw [if_neg (by simpa using he), if_neg (by omega), hd]
set_option maxRecDepth 100000 in
theorem sStep_first {l : List El} {e : El} (h : l[0]? = some e) (he : e.err = 0) : sStep l 0 = 0 := by
  unfold sStep; rw [h]; simp only; rw [if_neg (by simpa using he)]; rfl
def NoStep (l : List El) (k : Nat) : Prop := ∀ j, j < k → sStep l j = 0
set_option maxRecDepth 100000 in
theorem NoStep.zero (l : List El) : NoStep l 0 := fun _ hj => absurd hj (Nat.not_lt_zero _)
set_option maxRecDepth 100000 in
theorem NoStep.succ {l : List El} {k : Nat} (h : NoStep l k) (hk : sStep l k = 0) : NoStep l (k + 1) := fun j hj => by
  rcases Nat.lt_or_ge j k with h1 | h1
  · exact h j h1
  · rw [show j = k by omega]; exact hk
set_option maxRecDepth 100000 in
theorem NoStep.bad {l : List El} {k : Nat} (h : NoStep l k) (hk : sStep l k ≠ 0) (hlt : k < l.length) : sStep l k = elsErr l := (firstErr_at h hk hlt).symm
set_option maxRecDepth 100000 in
theorem NoStep.good {l : List El} {k : Nat} (h : NoStep l k) (hk : l.length ≤ k) : 0 = elsErr l := (firstErr_zero.2 fun i hi => h i (by omega)).symm

/-- What is wrong with the child at i. -/
def kStep (K T : List Int) (i : Nat) : Int :=
  match K[i]?, T[i]? with
  | some x, some y => if 0 ≤ x ∧ x ≤ 399 then (if 0 ≤ y ∧ y ≤ 2147483647 then 0 else 9) else 1
  | _, _ => 0
def kidsErr (K T : List Int) : Int := firstErr (kStep K T) K.length
set_option maxRecDepth 100000 in
theorem kStep_at {K T : List Int} {i : Nat} {x y : Int} (h1 : K[i]? = some x) (h2 : T[i]? = some y) : kStep K T i = if 0 ≤ x ∧ x ≤ 399 then (if 0 ≤ y ∧ y ≤ 2147483647 then 0 else 9) else 1 := by
  unfold kStep; rw [h1, h2]
def NoKid (K T : List Int) (k : Nat) : Prop := ∀ j, j < k → kStep K T j = 0
set_option maxRecDepth 100000 in
theorem NoKid.zero (K T : List Int) : NoKid K T 0 := fun _ hj => absurd hj (Nat.not_lt_zero _)
set_option maxRecDepth 100000 in
theorem NoKid.succ {K T : List Int} {k : Nat} (h : NoKid K T k) (hk : kStep K T k = 0) : NoKid K T (k + 1) := fun j hj => by
  rcases Nat.lt_or_ge j k with h1 | h1
  · exact h j h1
  · rw [show j = k by omega]; exact hk
set_option maxRecDepth 100000 in
theorem NoKid.bad {K T : List Int} {k : Nat} (h : NoKid K T k) (hk : kStep K T k ≠ 0) (hlt : k < K.length) : kStep K T k = kidsErr K T := (firstErr_at h hk hlt).symm
set_option maxRecDepth 100000 in
theorem NoKid.good {K T : List Int} {k : Nat} (h : NoKid K T k) (hk : K.length ≤ k) : kidsErr K T = 0 := firstErr_zero.2 fun i hi => h i (by omega)
set_option maxRecDepth 100000 in
theorem kidsErr_zero {K T : List Int} (hl : T.length = K.length) : kidsErr K T = 0 ↔ (∀ x ∈ K, 0 ≤ x ∧ x ≤ 399) ∧ (∀ y ∈ T, 0 ≤ y ∧ y ≤ 2147483647) := by
  unfold kidsErr
  rw [firstErr_zero]
  have key : ∀ i (hi : i < K.length), kStep K T i = 0 ↔ (0 ≤ K[i] ∧ K[i] ≤ 399) ∧ (0 ≤ T[i]'(by omega) ∧ T[i]'(by omega) ≤ 2147483647) := fun i hi => by
    rw [kStep_at (List.getElem?_eq_getElem hi) (List.getElem?_eq_getElem (by omega))]
    by_cases h1 : 0 ≤ K[i] ∧ K[i] ≤ 399
    · by_cases h2 : 0 ≤ T[i]'(by omega) ∧ T[i]'(by omega) ≤ 2147483647
      · simp [h1, h2]
      · simp [h1, h2]
    · simp [h1]
  constructor
  · intro h
    refine ⟨fun x hx => ?_, fun y hy => ?_⟩
    · obtain ⟨i, hi, rfl⟩ := List.getElem_of_mem hx
      exact ((key i hi).1 (h i hi)).1
    · obtain ⟨i, hi, rfl⟩ := List.getElem_of_mem hy
      exact ((key i (by omega)).1 (h i (by omega))).2
  · rintro ⟨h1, h2⟩ i hi
    exact (key i hi).2 ⟨h1 _ (List.getElem_mem _), h2 _ (List.getElem_mem _)⟩

/-! ### A node -/
def freeErr (E : List El) (K : List Int) (S : List Sp) (T : List Int) : Int := if 0 < E.length ∨ 0 < K.length ∨ 0 < S.length ∨ 0 < T.length then 3 else 0
def leafErr (E : List El) (K : List Int) (S : List Sp) (T : List Int) : Int := if 0 < K.length ∨ 0 < S.length ∨ 0 < T.length then 3 else if 8 < E.length then 2 else elsErr E
def formI (E : List El) (K : List Int) (S : List Sp) (T : List Int) : Prop := 0 < E.length ∨ K.length < 2 ∨ S.length + 1 ≠ K.length ∨ T.length ≠ K.length
instance (E : List El) (K : List Int) (S : List Sp) (T : List Int) : Decidable (formI E K S T) := inferInstanceAs (Decidable (_ ∨ _))
def innerErr (E : List El) (K : List Int) (S : List Sp) (T : List Int) : Int :=
  if formI E K S T then 3 else if 8 < K.length then 2 else if kidsErr K T ≠ 0 then kidsErr K T else elsErr (S.map Sp.el)
def ndErr (kd : Int) (E : List El) (K : List Int) (S : List Sp) (T : List Int) : Int :=
  if kd = 0 then freeErr E K S T else if kd = 1 then leafErr E K S T else if kd = 2 then innerErr E K S T else 3

/-- The greatest of some numbers, at least t. -/
def gMax (t : Int) (l : List Int) : Int := l.foldl max t
set_option maxRecDepth 100000 in
theorem gMax_snoc (t : Int) (l : List Int) (x : Int) : gMax t (l ++ [x]) = max (gMax t l) x := by simp [gMax]
set_option maxRecDepth 100000 in
theorem gMax_append (t : Int) (a b : List Int) : gMax t (a ++ b) = gMax (gMax t a) b := by simp [gMax]
set_option maxRecDepth 100000 in
theorem gMax_ge (l : List Int) : ∀ t, t ≤ gMax t l ∧ ∀ x ∈ l, x ≤ gMax t l := by
  induction l with
  | nil => intro t; simp [gMax]
  | cons a l ih =>
    intro t
    obtain ⟨h1, h2⟩ := ih (max t a)
    have e : gMax t (a :: l) = gMax (max t a) l := rfl
    rw [e]
    refine ⟨by omega, fun x hx => ?_⟩
    rcases List.mem_cons.1 hx with rfl | hx
    · omega
    · exact h2 x hx
set_option maxRecDepth 100000 in
theorem gMax_or (l : List Int) : ∀ t, gMax t l = t ∨ gMax t l ∈ l := by
  induction l with
  | nil => intro t; simp [gMax]
  | cons a l ih =>
    intro t
    have e : gMax t (a :: l) = gMax (max t a) l := rfl
    rw [e]
    rcases ih (max t a) with h | h
    · rw [h]
      rcases Int.le_total t a with h1 | h1
      · right; rw [Int.max_eq_right h1]; simp
      · left; exact Int.max_eq_left h1
    · right; exact List.mem_cons_of_mem _ h
set_option maxRecDepth 100000 in
theorem gMax_eq {t : Int} {l : List Int} {m : Int} (h1 : t ≤ m) (h2 : ∀ x ∈ l, x ≤ m) (h3 : m = t ∨ m ∈ l) : gMax t l = m := by
  obtain ⟨g1, g2⟩ := gMax_ge l t
  rcases gMax_or l t with h | h
  · rcases h3 with h3 | h3
    · omega
    · have := g2 m h3; omega
  · have := h2 _ h
    rcases h3 with h3 | h3
    · omega
    · have := g2 m h3; omega
/-- The greatest time of a node. -/
def ndTid (E : List El) (T : List Int) : Int := gMax 0 (E.map El.last ++ T)
set_option maxRecDepth 100000 in
/-- The same by the reference's road: a first number, and the others behind it. -/
theorem gMax_turn (a : Int) (l : List Int) : gMax a (l ++ [0]) = gMax 0 (a :: l) := by
  obtain ⟨g1, g2⟩ := gMax_ge (a :: l) 0
  refine gMax_eq (g2 a (by simp)) (fun x hx => ?_) ?_
  · rcases List.mem_append.1 hx with hx | hx
    · exact g2 x (List.mem_cons_of_mem _ hx)
    · simp at hx; omega
  · rcases gMax_or (a :: l) 0 with h | h
    · right; rw [h]; simp
    · rcases List.mem_cons.1 h with h | h
      · left; exact h
      · right; exact List.mem_append_left _ h
set_option maxRecDepth 100000 in
theorem gMax_swap (t : Int) (a b : List Int) : gMax t (a ++ b) = gMax t (b ++ a) := by
  obtain ⟨g1, g2⟩ := gMax_ge (b ++ a) t
  refine gMax_eq g1 (fun x hx => g2 x ?_) ?_
  · rcases List.mem_append.1 hx with hx | hx
    · exact List.mem_append_right _ hx
    · exact List.mem_append_left _ hx
  · rcases gMax_or (b ++ a) t with h | h
    · left; exact h
    · right
      rcases List.mem_append.1 h with h | h
      · exact List.mem_append_right _ h
      · exact List.mem_append_left _ h

/-- The child of a spot. -/
def ndKid (S : List Sp) (p o f m : Int) : Nat := pos (S.map Sp.el) (p, o, f) m
end Go.Proofs.Ytgebilpdinbfgaa

/- The child of a spot, plainly: where it lies, and that it is monotone. No function of the program. -/
namespace Go.Proofs.Ytgebilpdinbfgaa

set_option maxRecDepth 100000 in
theorem pos_iff {k : Int × Int × Int} {t : Int} : ∀ {l : List El}, l.Pairwise Rise → ∀ i (h : i < l.length), i < pos l k t ↔ ¬ sLt k t l[i].key l[i].m
  | [], _, i, h => by simp at h
  | x :: l, hS, i, h => by
    rw [List.pairwise_cons] at hS
    by_cases hx : sLt k t x.key x.m
    · have h0 : pos (x :: l) k t = 0 := by
        unfold pos
        rw [List.countP_eq_zero]
        intro y hy
        simp only [Bool.not_eq_true', decide_eq_false_iff_not, Classical.not_not]
        rcases List.mem_cons.1 hy with rfl | hy
        · exact hx
        · exact sLt_trans hx (hS.1 y hy)
      rw [h0]
      constructor
      · intro h1; omega
      · intro h1
        exfalso
        apply h1
        rcases List.mem_cons.1 (List.getElem_mem h) with h2 | h2
        · rw [h2]; exact hx
        · exact sLt_trans hx (hS.1 _ h2)
    · have h1 : pos (x :: l) k t = pos l k t + 1 := by
        unfold pos
        rw [List.countP_cons_of_pos (by simpa using hx)]
      rw [h1]
      cases i with
      | zero => simpa using hx
      | succ i =>
        have ih := pos_iff (k := k) (t := t) hS.2 i (by simpa using h)
        simpa using ih
set_option maxRecDepth 100000 in
theorem pos_mono {l : List El} {k k' : Int × Int × Int} {t t' : Int} (h : ¬ sLt k' t' k t) : pos l k t ≤ pos l k' t' := by
  unfold pos
  refine List.countP_mono_left fun e _ he => ?_
  simp only [Bool.not_eq_true', decide_eq_false_iff_not] at he ⊢
  intro h2
  rcases sLt_tri k t k' t' with h3 | ⟨rfl, rfl⟩ | h3
  · exact he (sLt_trans h3 h2)
  · exact he h2
  · exact h h3
set_option maxRecDepth 100000 in
theorem pos_self {l : List El} (hS : l.Pairwise Rise) {j : Nat} (hj : j < l.length) : pos l l[j].key l[j].m = j + 1 := by
  refine pos_part (by omega) (fun i h hi => ?_) (fun i h hi => ?_)
  · rcases Nat.lt_or_ge i j with h1 | h1
    · exact sLt_asymm (List.pairwise_iff_getElem.1 hS i j h hj h1)
    · obtain rfl : i = j := by omega
      exact sLt_irrefl _ _
  · exact List.pairwise_iff_getElem.1 hS j i hj h (by omega)
set_option maxRecDepth 100000 in
theorem scmp_le {p o f m p' o' f' m' : Int} : scmp p o f m p' o' f' m' ≤ 0 ↔ ¬ sLt (p', o', f') m' (p, o, f) m := by
  have h := scmp_sLt (a := ⟨p', o', f', m', 0, ByteArray.empty⟩) (b := ⟨p, o, f, m, 0, ByteArray.empty⟩)
  have h2 := scmp_sLt (a := ⟨p, o, f, m, 0, ByteArray.empty⟩) (b := ⟨p', o', f', m', 0, ByteArray.empty⟩)
  simp only [El.key] at h h2
  have h0 : scmp p o f m p' o' f' m' = 0 ↔ (p, o, f) = (p', o', f') ∧ m = m' := by rw [scmp_eq, kcmp_key]
  rcases sLt_tri (p, o, f) m (p', o', f') m' with h1 | h1 | h1
  · rw [h2.2 h1]; exact ⟨fun _ => sLt_asymm h1, fun _ => by omega⟩
  · rw [h0.2 h1]
    obtain ⟨e1, e2⟩ := h1
    rw [e1, e2]
    exact ⟨fun _ => sLt_irrefl _ _, fun _ => by omega⟩
  · constructor
    · intro h3
      rcases scmp_or p o f m p' o' f' m' with h4 | h4 | h4
      · exact sLt_asymm (h2.1 h4)
      · obtain ⟨e1, e2⟩ := h0.1 h4
        rw [e1, e2]; exact sLt_irrefl _ _
      · omega
    · intro h3; exact absurd h1 h3
set_option maxRecDepth 100000 in
theorem scmp_neg {p o f m p' o' f' m' : Int} : scmp p o f m p' o' f' m' < 0 ↔ sLt (p, o, f) m (p', o', f') m' := by
  have h2 := scmp_sLt (a := ⟨p, o, f, m, 0, ByteArray.empty⟩) (b := ⟨p', o', f', m', 0, ByteArray.empty⟩)
  simp only [El.key] at h2
  rw [← h2]
  rcases scmp_or p o f m p' o' f' m' with h | h | h <;> rw [h] <;> omega
end Go.Proofs.Ytgebilpdinbfgaa

/- Bits of int64 numbers that are not negative, as naturals'. -/
namespace Go.Proofs.Ytgebilpdinbfgaa
open Go.RowKit

set_option maxRecDepth 100000 in
theorem ofInt_64 (a : Nat) (ha : a < 18446744073709551616) : (BitVec.ofInt 64 (a : Int)).toNat = a := by
  rw [BitVec.ofInt_natCast, BitVec.toNat_ofNat]; exact Nat.mod_eq_of_lt (by omega)
set_option maxRecDepth 100000 in
theorem i64_and (a b : Nat) (ha : a < 9223372036854775808) (hb : b < 9223372036854775808) : bits .and .i64 (a : Int) (b : Int) = ((a &&& b : Nat) : Int) := by
  have hx : a &&& b < 2 ^ 63 := Nat.and_lt_two_pow _ (by omega)
  show IntKind.i64.wrap ((BitVec.ofInt 64 (a : Int) &&& BitVec.ofInt 64 (b : Int)).toNat : Int) = _
  rw [BitVec.toNat_and, ofInt_64 a (by omega), ofInt_64 b (by omega)]
  exact IntWalk.i64_in _ (by omega)
set_option maxRecDepth 100000 in
theorem i64_or (a b : Nat) (ha : a < 9223372036854775808) (hb : b < 9223372036854775808) : bits .or .i64 (a : Int) (b : Int) = ((a ||| b : Nat) : Int) := by
  have hx : a ||| b < 2 ^ 63 := Nat.or_lt_two_pow (by omega) (by omega)
  show IntKind.i64.wrap ((BitVec.ofInt 64 (a : Int) ||| BitVec.ofInt 64 (b : Int)).toNat : Int) = _
  rw [BitVec.toNat_or, ofInt_64 a (by omega), ofInt_64 b (by omega)]
  exact IntWalk.i64_in _ (by omega)
set_option maxRecDepth 100000 in
theorem i64_xor (a b : Nat) (ha : a < 9223372036854775808) (hb : b < 9223372036854775808) : bits .xor .i64 (a : Int) (b : Int) = ((a ^^^ b : Nat) : Int) := by
  have hx : a ^^^ b < 2 ^ 63 := Nat.xor_lt_two_pow (by omega) (by omega)
  show IntKind.i64.wrap ((BitVec.ofInt 64 (a : Int) ^^^ BitVec.ofInt 64 (b : Int)).toNat : Int) = _
  rw [BitVec.toNat_xor, ofInt_64 a (by omega), ofInt_64 b (by omega)]
  exact IntWalk.i64_in _ (by omega)

set_option maxRecDepth 100000 in
/-- One bit of a byte. -/
theorem bit_of (c : UInt8) (n : Nat) : bits .and .i64 (wrap64 ((c.toNat : Int) / 2 ^ n)) 1 = ((c.toNat >>> n % 2 : Nat) : Int) := by
  have hc := c.toNat_lt
  have e : (c.toNat : Int) / 2 ^ n = ((c.toNat >>> n : Nat) : Int) := by
    rw [Nat.shiftRight_eq_div_pow]; push_cast; rfl
  have hs : c.toNat >>> n ≤ c.toNat := by rw [Nat.shiftRight_eq_div_pow]; exact Nat.div_le_self _ _
  rw [e]
  generalize c.toNat >>> n = x at *
  rw [IntWalk.wrap64_in _ (by omega)]
  have := i64_and x 1 (by omega) (by omega)
  rw [Go.nat_mask1] at this
  exact this

set_option maxRecDepth 100000 in
/-- The reference's step. -/
theorem ref_low (r : BitVec 16) (b : Nat) (hb : b < 2) (h : wrap64 ((r.toNat : Int) * 2 + (b : Int)) < 65536) : wrap64 ((r.toNat : Int) * 2 + (b : Int)) = ((shB r ^^^ BitVec.ofNat 16 b).toNat : Int) := by
  have hr := r.isLt
  rw [IntWalk.wrap64_in _ (by omega)] at h ⊢
  rw [ref_step r b hb, if_neg (by omega)]; push_cast; rfl
set_option maxRecDepth 100000 in
theorem ref_top (r : BitVec 16) (b : Nat) (hb : b < 2) (h : 65536 ≤ wrap64 ((r.toNat : Int) * 2 + (b : Int))) : bits .xor .i64 (wrap64 (wrap64 ((r.toNat : Int) * 2 + (b : Int)) - 65536)) 4129 = ((shB r ^^^ BitVec.ofNat 16 b).toNat : Int) := by
  have hr := r.isLt
  have e := IntWalk.wrap64_in ((r.toNat : Int) * 2 + (b : Int)) (by omega)
  rw [e] at h ⊢
  rw [IntWalk.wrap64_in _ (by omega)]
  rw [ref_step r b hb, if_pos (by omega)]
  have := i64_xor (r.toNat * 2 + b - 65536) 4129 (by omega) (by omega)
  rw [← this]
  congr 1
  omega
set_option maxRecDepth 100000 in
theorem ref_low0 (r : BitVec 16) (h : wrap64 (wrap64 ((r.toNat : Int) * 2)) < 65536) : wrap64 (wrap64 ((r.toNat : Int) * 2)) = ((shB r).toNat : Int) := by
  have hr := r.isLt
  have e := IntWalk.wrap64_in ((r.toNat : Int) * 2) (by omega)
  rw [e, e] at h ⊢
  rw [shB_low r (by omega)]; push_cast; rfl
set_option maxRecDepth 100000 in
theorem ref_top0 (r : BitVec 16) (h : 65536 ≤ wrap64 (wrap64 ((r.toNat : Int) * 2))) : bits .xor .i64 (wrap64 (wrap64 (wrap64 ((r.toNat : Int) * 2)) - 65536)) 4129 = ((shB r).toNat : Int) := by
  have hr := r.isLt
  have e := IntWalk.wrap64_in ((r.toNat : Int) * 2) (by omega)
  rw [e, e] at h ⊢
  rw [IntWalk.wrap64_in _ (by omega), shB_top r (by omega)]
  have := i64_xor (r.toNat * 2 % 65536) 4129 (by omega) (by omega)
  rw [← this]
  congr 1
  omega
end Go.Proofs.Ytgebilpdinbfgaa

