/- Plain mathematics: keys, spots, records, runs, and what the document asks of runs. No program here. -/
import Derived.Below
namespace Go.Proofs.Ytccfcloekjogkaa

def keyErr (p o f : Int) : Int := if 0 ≤ p ∧ p ≤ 15 ∧ 0 ≤ o ∧ o ≤ 1048576 ∧ 0 ≤ f ∧ f ≤ 1073741824 then 0 else 1
def icmp (a b : Int) : Int := if a < b then -1 else if b < a then 1 else 0
def kcmp (p o f p' o' f' : Int) : Int := if icmp p p' = 0 then (if icmp o o' = 0 then icmp f f' else icmp o o') else icmp p p'
def scmp (p o f m p' o' f' m' : Int) : Int := if kcmp p o f p' o' f' = 0 then icmp m m' else kcmp p o f p' o' f'
def aheadB (p o f p' o' f' : Int) : Bool := decide (kcmp p o f p' o' f' = -1)
def aheadS (p o f m p' o' f' m' : Int) : Bool := decide (scmp p o f m p' o' f' m' = -1)
def timeOk (m g : Int) : Prop := 1 ≤ m ∧ m ≤ 2147483647 ∧ (g = 0 ∨ (m < g ∧ g ≤ 2147483647))
instance (m g : Int) : Decidable (timeOk m g) := by unfold timeOk; infer_instance
def elemErr (p o f m g n : Int) : Int := if keyErr p o f = 0 then (if timeOk m g then (if n ≤ 40 then 0 else 2) else 9) else keyErr p o f
def liveP (m g t : Int) : Prop := m ≤ t ∧ (g = 0 ∨ t < g)
instance (m g t : Int) : Decidable (liveP m g t) := by unfold liveP; infer_instance
def lastOf (m g : Int) : Int := if m < g then g else m

set_option maxRecDepth 100000 in
theorem keyErr_ok {p o f : Int} (h1 : 0 ≤ p) (h2 : p ≤ 15) (h3 : 0 ≤ o) (h4 : o ≤ 1048576) (h5 : 0 ≤ f) (h6 : f ≤ 1073741824) : keyErr p o f = 0 := by
  unfold keyErr; rw [if_pos ⟨h1, h2, h3, h4, h5, h6⟩]
set_option maxRecDepth 100000 in
theorem keyErr_no {p o f : Int} (h : p < 0 ∨ 15 < p ∨ o < 0 ∨ 1048576 < o ∨ f < 0 ∨ 1073741824 < f) : keyErr p o f = 1 := by
  unfold keyErr; rw [if_neg (by omega)]

set_option maxRecDepth 100000 in
theorem ahead_lt {p o f p' o' f' : Int} (h : p < p') : aheadB p o f p' o' f' = true := by
  unfold aheadB kcmp icmp; simp [h]
set_option maxRecDepth 100000 in
theorem kcmp_lt {p o f p' o' f' : Int} : kcmp p o f p' o' f' = -1 ↔ (p < p' ∨ p = p' ∧ (o < o' ∨ o = o' ∧ f < f')) := by
  unfold kcmp icmp
  by_cases h1 : p < p' <;> by_cases h2 : p' < p <;> by_cases h3 : o < o' <;> by_cases h4 : o' < o <;> by_cases h5 : f < f' <;> by_cases h6 : f' < f <;> simp [*] <;> omega
set_option maxRecDepth 100000 in
theorem kcmp_eq {p o f p' o' f' : Int} : kcmp p o f p' o' f' = 0 ↔ (p = p' ∧ o = o' ∧ f = f') := by
  unfold kcmp icmp
  by_cases h1 : p < p' <;> by_cases h2 : p' < p <;> by_cases h3 : o < o' <;> by_cases h4 : o' < o <;> by_cases h5 : f < f' <;> by_cases h6 : f' < f <;> simp [*] <;> omega
set_option maxRecDepth 100000 in
theorem kcmp_gt {p o f p' o' f' : Int} : kcmp p o f p' o' f' = 1 ↔ (p' < p ∨ p = p' ∧ (o' < o ∨ o = o' ∧ f' < f)) := by
  unfold kcmp icmp
  by_cases h1 : p < p' <;> by_cases h2 : p' < p <;> by_cases h3 : o < o' <;> by_cases h4 : o' < o <;> by_cases h5 : f < f' <;> by_cases h6 : f' < f <;> simp [*] <;> omega
set_option maxRecDepth 100000 in
theorem icmp_or (a b : Int) : icmp a b = -1 ∨ icmp a b = 0 ∨ icmp a b = 1 := by
  unfold icmp; split <;> (try split) <;> simp
set_option maxRecDepth 100000 in
theorem kcmp_or (p o f p' o' f' : Int) : kcmp p o f p' o' f' = -1 ∨ kcmp p o f p' o' f' = 0 ∨ kcmp p o f p' o' f' = 1 := by
  unfold kcmp
  split
  · split
    · exact icmp_or _ _
    · exact icmp_or _ _
  · exact icmp_or _ _
set_option maxRecDepth 100000 in
theorem aheadB_iff {p o f p' o' f' : Int} : aheadB p o f p' o' f' = true ↔ (p < p' ∨ p = p' ∧ (o < o' ∨ o = o' ∧ f < f')) := by
  unfold aheadB; rw [decide_eq_true_eq, kcmp_lt]
set_option maxRecDepth 100000 in
theorem scmp_lt {p o f m p' o' f' m' : Int} : scmp p o f m p' o' f' m' = -1 ↔ (kcmp p o f p' o' f' = -1 ∨ kcmp p o f p' o' f' = 0 ∧ m < m') := by
  unfold scmp icmp
  rcases kcmp_or p o f p' o' f' with h | h | h <;> rw [h] <;> simp
  by_cases h1 : m < m' <;> by_cases h2 : m' < m <;> simp [*]
set_option maxRecDepth 100000 in
theorem scmp_eq {p o f m p' o' f' m' : Int} : scmp p o f m p' o' f' m' = 0 ↔ (kcmp p o f p' o' f' = 0 ∧ m = m') := by
  unfold scmp icmp
  rcases kcmp_or p o f p' o' f' with h | h | h <;> rw [h] <;> simp
  by_cases h1 : m < m' <;> by_cases h2 : m' < m <;> simp [*] <;> omega
set_option maxRecDepth 100000 in
theorem aheadS_iff {p o f m p' o' f' m' : Int} : aheadS p o f m p' o' f' m' = true ↔ (aheadB p o f p' o' f' = true ∨ (p = p' ∧ o = o' ∧ f = f') ∧ m < m') := by
  unfold aheadS aheadB; rw [decide_eq_true_eq, decide_eq_true_eq, scmp_lt, kcmp_eq]
set_option maxRecDepth 100000 in
theorem scmp_or (p o f m p' o' f' m' : Int) : scmp p o f m p' o' f' m' = -1 ∨ scmp p o f m p' o' f' m' = 0 ∨ scmp p o f m p' o' f' m' = 1 := by
  unfold scmp
  split
  · exact icmp_or _ _
  · exact kcmp_or _ _ _ _ _ _
set_option maxRecDepth 100000 in
theorem elemErr_key {p o f m g n : Int} (h : keyErr p o f ≠ 0) : elemErr p o f m g n = keyErr p o f := by unfold elemErr; rw [if_neg h]
set_option maxRecDepth 100000 in
theorem elemErr_time {p o f m g n : Int} (h : keyErr p o f = 0) (h2 : ¬ timeOk m g) : elemErr p o f m g n = 9 := by unfold elemErr; rw [if_pos h, if_neg h2]
set_option maxRecDepth 100000 in
theorem elemErr_long {p o f m g n : Int} (h : keyErr p o f = 0) (h2 : timeOk m g) (h3 : 40 < n) : elemErr p o f m g n = 2 := by unfold elemErr; rw [if_pos h, if_pos h2, if_neg (by omega)]
set_option maxRecDepth 100000 in
theorem elemErr_ok {p o f m g n : Int} (h : keyErr p o f = 0) (h2 : timeOk m g) (h3 : n ≤ 40) : elemErr p o f m g n = 0 := by unfold elemErr; rw [if_pos h, if_pos h2, if_pos h3]
set_option maxRecDepth 100000 in
theorem elemErr_zero {p o f m g n : Int} : elemErr p o f m g n = 0 ↔ keyErr p o f = 0 ∧ timeOk m g ∧ n ≤ 40 := by
  unfold elemErr
  by_cases h1 : keyErr p o f = 0
  · rw [if_pos h1]
    by_cases h2 : timeOk m g
    · rw [if_pos h2]
      by_cases h3 : n ≤ 40
      · simp [h1, h2, h3]
      · simp [h3]
    · simp [h2]
  · simp [h1]

/-! ### Records -/
structure El where
  p : Int
  o : Int
  f : Int
  m : Int
  g : Int
  s : ByteArray
set_option maxRecDepth 100000 in
theorem El.ext_iff' {a b : El} : a = b ↔ a.p = b.p ∧ a.o = b.o ∧ a.f = b.f ∧ a.m = b.m ∧ a.g = b.g ∧ a.s = b.s := by
  cases a; cases b; simp
instance : DecidableEq El := fun _ _ => decidable_of_iff _ El.ext_iff'.symm
def El.key (e : El) : Int × Int × Int := (e.p, e.o, e.f)
def kLt (a b : Int × Int × Int) : Prop := a.1 < b.1 ∨ a.1 = b.1 ∧ (a.2.1 < b.2.1 ∨ a.2.1 = b.2.1 ∧ a.2.2 < b.2.2)
instance (a b : Int × Int × Int) : Decidable (kLt a b) := by unfold kLt; infer_instance
def sLt (a : Int × Int × Int) (m : Int) (b : Int × Int × Int) (n : Int) : Prop := kLt a b ∨ a = b ∧ m < n
instance (a : Int × Int × Int) (m : Int) (b : Int × Int × Int) (n : Int) : Decidable (sLt a m b n) := by unfold sLt; infer_instance

set_option maxRecDepth 100000 in
theorem key3_eq {a b : Int × Int × Int} : a = b ↔ a.1 = b.1 ∧ a.2.1 = b.2.1 ∧ a.2.2 = b.2.2 := by
  obtain ⟨a1, a2, a3⟩ := a; obtain ⟨b1, b2, b3⟩ := b; simp
set_option maxRecDepth 100000 in
theorem kLt_irrefl (a : Int × Int × Int) : ¬ kLt a a := by unfold kLt; omega
set_option maxRecDepth 100000 in
theorem kLt_trans {a b c : Int × Int × Int} (h : kLt a b) (k : kLt b c) : kLt a c := by unfold kLt at *; omega
set_option maxRecDepth 100000 in
theorem kLt_tri (a b : Int × Int × Int) : kLt a b ∨ a = b ∨ kLt b a := by rw [key3_eq]; unfold kLt; omega
set_option maxRecDepth 100000 in
theorem kLt_asymm {a b : Int × Int × Int} (h : kLt a b) : ¬ kLt b a := fun k => kLt_irrefl _ (kLt_trans h k)
set_option maxRecDepth 100000 in
theorem kLt_ne {a b : Int × Int × Int} (h : kLt a b) : a ≠ b := fun e => by subst e; exact kLt_irrefl _ h
set_option maxRecDepth 100000 in
theorem sLt_irrefl (a : Int × Int × Int) (m : Int) : ¬ sLt a m a m := by
  rintro (h | ⟨_, h⟩)
  · exact kLt_irrefl _ h
  · omega
set_option maxRecDepth 100000 in
theorem sLt_trans {a b c : Int × Int × Int} {m n k : Int} (h : sLt a m b n) (h' : sLt b n c k) : sLt a m c k := by
  rcases h with h | ⟨rfl, h⟩
  · rcases h' with h' | ⟨rfl, h'⟩
    · exact .inl (kLt_trans h h')
    · exact .inl h
  · rcases h' with h' | ⟨rfl, h'⟩
    · exact .inl h'
    · exact .inr ⟨rfl, by omega⟩
set_option maxRecDepth 100000 in
theorem sLt_tri (a : Int × Int × Int) (m : Int) (b : Int × Int × Int) (n : Int) : sLt a m b n ∨ (a = b ∧ m = n) ∨ sLt b n a m := by
  rcases kLt_tri a b with h | rfl | h
  · exact .inl (.inl h)
  · rcases Int.lt_trichotomy m n with h | h | h
    · exact .inl (.inr ⟨rfl, h⟩)
    · exact .inr (.inl ⟨rfl, h⟩)
    · exact .inr (.inr (.inr ⟨rfl, h⟩))
  · exact .inr (.inr (.inl h))
set_option maxRecDepth 100000 in
theorem sLt_asymm {a b : Int × Int × Int} {m n : Int} (h : sLt a m b n) : ¬ sLt b n a m := fun k => sLt_irrefl _ _ (sLt_trans h k)
set_option maxRecDepth 100000 in
theorem sLt_same {a : Int × Int × Int} {m n : Int} : sLt a m a n ↔ m < n := ⟨fun h => by
  rcases h with h | ⟨_, h⟩
  · exact absurd h (kLt_irrefl _)
  · exact h, fun h => .inr ⟨rfl, h⟩⟩

set_option maxRecDepth 100000 in
theorem scmp_sLt {a b : El} : scmp a.p a.o a.f a.m b.p b.o b.f b.m = -1 ↔ sLt a.key a.m b.key b.m := by
  rw [scmp_lt, kcmp_lt, kcmp_eq]; unfold sLt; rw [key3_eq]; exact Iff.rfl
set_option maxRecDepth 100000 in
theorem kcmp_kLt {p o f p' o' f' : Int} : kcmp p o f p' o' f' = -1 ↔ kLt (p, o, f) (p', o', f') := kcmp_lt
set_option maxRecDepth 100000 in
theorem kcmp_key {p o f p' o' f' : Int} : kcmp p o f p' o' f' = 0 ↔ (p, o, f) = (p', o', f') := by rw [kcmp_eq, key3_eq]
set_option maxRecDepth 100000 in
theorem kcmp_kGt {p o f p' o' f' : Int} : kcmp p o f p' o' f' = 1 ↔ kLt (p', o', f') (p, o, f) := by rw [kcmp_gt]; unfold kLt; simp only; omega

def El.err (e : El) : Int := elemErr e.p e.o e.f e.m e.g e.s.size
def El.live (e : El) (t : Int) : Prop := liveP e.m e.g t
instance (e : El) (t : Int) : Decidable (e.live t) := by unfold El.live; infer_instance
def El.last (e : El) : Int := lastOf e.m e.g
def Fol (a b : El) : Prop := sLt a.key a.m b.key b.m ∧ (a.key = b.key → a.g ≠ 0 ∧ a.g ≤ b.m)
instance (a b : El) : Decidable (Fol a b) := by unfold Fol; infer_instance

set_option maxRecDepth 100000 in
theorem err_time {e : El} (h : e.err = 0) : timeOk e.m e.g := (elemErr_zero.1 h).2.1
set_option maxRecDepth 100000 in
theorem Fol.trans {a b c : El} (hb : b.err = 0) (h : Fol a b) (k : Fol b c) : Fol a c := by
  have ht := err_time hb
  unfold timeOk at ht
  refine ⟨sLt_trans h.1 k.1, fun e => ?_⟩
  have hab : a.key = b.key := by
    rcases h.1 with h1 | ⟨h1, _⟩
    · rcases k.1 with k1 | ⟨k1, _⟩
      · exact absurd e (kLt_ne (kLt_trans h1 k1))
      · rw [k1] at h1; exact absurd e (kLt_ne h1)
    · exact h1
  have h2 := h.2 hab
  have k2 := k.2 (hab ▸ e)
  omega

/-! ### The first error -/
def firstErr (f : Nat → Int) : Nat → Int
  | 0 => 0
  | n + 1 => if firstErr f n = 0 then f n else firstErr f n
set_option maxRecDepth 100000 in
theorem firstErr_zero {f : Nat → Int} : ∀ {n : Nat}, firstErr f n = 0 ↔ ∀ i, i < n → f i = 0
  | 0 => by simp [firstErr]
  | n + 1 => by
    have ih := firstErr_zero (f := f) (n := n)
    unfold firstErr
    constructor
    · intro h i hi
      by_cases h0 : firstErr f n = 0
      · rw [if_pos h0] at h
        rcases Nat.lt_or_ge i n with h1 | h1
        · exact ih.1 h0 i h1
        · rw [show i = n by omega]; exact h
      · rw [if_neg h0] at h; exact absurd h h0
    · intro h
      rw [if_pos (ih.2 fun i hi => h i (by omega))]
      exact h n (by omega)
set_option maxRecDepth 100000 in
theorem firstErr_at {f : Nat → Int} {k n : Nat} (h : ∀ i, i < k → f i = 0) (hk : f k ≠ 0) (hn : k < n) : firstErr f n = f k := by
  induction n with
  | zero => omega
  | succ n ih =>
    unfold firstErr
    rcases Nat.lt_or_ge k n with h1 | h1
    · rw [if_neg (by rw [ih h1]; exact hk), ih h1]
    · rw [show n = k by omega, if_pos (firstErr_zero.2 h)]

/-- What Check says of the record at i. -/
def stepErr (l : List El) (i : Nat) : Int :=
  match l[i]? with
  | none => 0
  | some e => if e.err ≠ 0 then e.err else
    match (if i = 0 then none else l[i - 1]?) with
    | none => 0
    | some q => if Fol q e then 0 else 3
def runErr (l : List El) : Int := if 400 < l.length then 2 else firstErr (stepErr l) l.length

set_option maxRecDepth 100000 in
theorem stepErr_zero {l : List El} {i : Nat} (hi : i < l.length) : stepErr l i = 0 ↔ l[i].err = 0 ∧ (∀ h : 0 < i, Fol (l[i - 1]'(by omega)) l[i]) := by
  unfold stepErr
  rw [List.getElem?_eq_getElem hi]
  simp only
  by_cases he : l[i].err = 0
  · rw [if_neg (by simpa using he)]
    by_cases h0 : i = 0
    · subst h0; simp [he]
    · rw [if_neg h0, List.getElem?_eq_getElem (by omega)]
      simp only
      by_cases hF : Fol (l[i - 1]'(by omega)) l[i]
      · simp [hF, he]
      · simp only [hF, if_false]
        constructor
        · intro h; omega
        · intro h; exact absurd (h.2 (by omega)) id
  · rw [if_pos he]; simp [he]

def Good (l : List El) : Prop := l.length ≤ 400 ∧ (∀ e ∈ l, e.err = 0) ∧ l.Pairwise Fol

set_option maxRecDepth 100000 in
theorem pairwise_of_steps {l : List El} (ho : ∀ e ∈ l, e.err = 0) (h : ∀ i (hi : i + 1 < l.length), Fol l[i] l[i + 1]) : l.Pairwise Fol := by
  rw [List.pairwise_iff_getElem]
  intro i j hi hj hij
  obtain ⟨d, rfl⟩ : ∃ d, j = i + 1 + d := ⟨j - (i + 1), by omega⟩
  induction d with
  | zero => exact h i hj
  | succ d ih =>
    have := ih (by omega) (by omega)
    exact Fol.trans (ho _ (List.getElem_mem _)) this (h (i + 1 + d) hj)

set_option maxRecDepth 100000 in
theorem steps_good {l : List El} (h : ∀ i, i < l.length → stepErr l i = 0) : (∀ e ∈ l, e.err = 0) ∧ l.Pairwise Fol := by
  have h1 : ∀ e ∈ l, e.err = 0 := fun e he => by
    obtain ⟨i, hi, rfl⟩ := List.getElem_of_mem he
    exact ((stepErr_zero hi).1 (h i hi)).1
  refine ⟨h1, pairwise_of_steps h1 fun i hi => ?_⟩
  exact ((stepErr_zero hi).1 (h (i + 1) hi)).2 (by omega)
set_option maxRecDepth 100000 in
theorem runErr_zero {l : List El} : runErr l = 0 ↔ Good l := by
  unfold runErr Good
  by_cases hl : 400 < l.length
  · rw [if_pos hl]; constructor
    · intro h; omega
    · intro h; omega
  · rw [if_neg hl, firstErr_zero]
    constructor
    · intro h; exact ⟨by omega, steps_good h⟩
    · rintro ⟨_, h1, h2⟩ i hi
      rw [stepErr_zero hi]
      exact ⟨h1 _ (List.getElem_mem _), fun h => List.pairwise_iff_getElem.1 h2 (i - 1) i (by omega) hi (by omega)⟩

/-! ### The last time -/
def latest (l : List El) : Int := l.foldl (fun t e => if t < e.last then e.last else t) 0
set_option maxRecDepth 100000 in
theorem latest_snoc (l : List El) (e : El) : latest (l ++ [e]) = if latest l < e.last then e.last else latest l := by
  unfold latest; rw [List.foldl_append]; rfl
set_option maxRecDepth 100000 in
theorem latest_take {l : List El} {k : Nat} (hk : k < l.length) : latest (l.take (k + 1)) = if latest (l.take k) < l[k].last then l[k].last else latest (l.take k) := by
  rw [List.take_succ_eq_append_getElem hk, latest_snoc]
set_option maxRecDepth 100000 in
theorem foldl_latest_ge (l : List El) : ∀ t, t ≤ l.foldl (fun t (e : El) => if t < e.last then e.last else t) t ∧ ∀ e ∈ l, e.last ≤ l.foldl (fun t (e : El) => if t < e.last then e.last else t) t := by
  induction l with
  | nil => intro t; exact ⟨Int.le_refl _, by simp⟩
  | cons x l ih =>
    intro t
    rw [List.foldl_cons]
    have h := ih (if t < x.last then x.last else t)
    refine ⟨Int.le_trans (by split <;> omega) h.1, fun e he => ?_⟩
    · rcases List.mem_cons.1 he with rfl | h2
      · exact Int.le_trans (by split <;> omega) h.1
      · exact h.2 e h2
set_option maxRecDepth 100000 in
theorem latest_ge {l : List El} {e : El} (h : e ∈ l) : e.last ≤ latest l := (foldl_latest_ge l 0).2 e h
set_option maxRecDepth 100000 in
theorem latest_nonneg (l : List El) : 0 ≤ latest l := (foldl_latest_ge l 0).1
set_option maxRecDepth 100000 in
theorem foldl_latest_le (l : List El) : ∀ t b, t ≤ b → (∀ e ∈ l, e.last ≤ b) → l.foldl (fun t (e : El) => if t < e.last then e.last else t) t ≤ b := by
  induction l with
  | nil => intro t b h _; exact h
  | cons x l ih =>
    intro t b h h2
    rw [List.foldl_cons]
    refine ih _ b ?_ fun e he => h2 e (by simp [he])
    have := h2 x (by simp)
    split
    · exact this
    · exact h
set_option maxRecDepth 100000 in
theorem latest_le {l : List El} {b : Int} (hb : 0 ≤ b) (h : ∀ e ∈ l, e.last ≤ b) : latest l ≤ b := foldl_latest_le l 0 b hb h
set_option maxRecDepth 100000 in
theorem last_ge (e : El) : e.m ≤ e.last ∧ e.g ≤ e.last := by unfold El.last lastOf; split <;> omega
set_option maxRecDepth 100000 in
theorem last_le {e : El} {b : Int} (h1 : e.m ≤ b) (h2 : e.g ≤ b) : e.last ≤ b := by unfold El.last lastOf; split <;> omega
set_option maxRecDepth 100000 in
theorem last_or (e : El) : e.last = e.m ∨ e.last = e.g := by unfold El.last lastOf; split <;> omega
set_option maxRecDepth 100000 in
theorem latest_max {l : List El} (h : Good l) : latest l ≤ 2147483647 := latest_le (by omega) fun e he => by
  have ht := err_time (h.2.1 e he); unfold timeOk at ht
  exact last_le (by omega) (by omega)

end Go.Proofs.Ytccfcloekjogkaa
