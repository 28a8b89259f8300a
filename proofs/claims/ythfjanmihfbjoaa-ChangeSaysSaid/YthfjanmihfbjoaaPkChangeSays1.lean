/- Texts of one kind in one file. -/
import Derived.Below
import Derived.Test.YthfjanmihfbjoaaRows
import Derived.Handy
import Derived.Deep.Quiet
import Derived.Deep.QuietTactic
import Derived.Laws.Tables
import Derived.StillTail
import Derived.WalkSpells
import Derived.WalkLawsBesides
import Derived.Lib.Hide
import Derived.Deep.RegionWith
import Derived.Deep.RegionHeld3
import Derived.Deep.DeepCutAuto
import Derived.BigQuiet
import Derived.Laws.OwnMore
import Derived.Deep.AppendLies
import Derived.Deep.Draws
import Derived.OwnWalk
import Derived.Deep.Slices
import Derived.ProofKit
import Derived.OpenShut
import Derived.Lib.SmallJoins
import Derived.SizedLaws
import Derived.Deep.LoopGhost
import Derived.Outline
import Derived.IntWalk
import Derived.Deep.AppendSrc
import Derived.Deep.RegionLaw
import Derived.Laws.Externs
import Derived.Lib.AppendZerosOnto
import Derived.Lib.Overlaps
import Derived.Lib.SliceRun
set_option maxRecDepth 100000
namespace Go.Proofs.Ythfjanmihfbjoaa
def keyErr (p o f : Int) : Int := if 0 ≤ p ∧ p ≤ 15 ∧ 0 ≤ o ∧ o ≤ 1048576 ∧ 0 ≤ f ∧ f ≤ 1073741824 then 0 else 1
def icmp (a b : Int) : Int := if a < b then -1 else if b < a then 1 else 0
def kcmp (p o f p' o' f' : Int) : Int := if icmp p p' = 0 then (if icmp o o' = 0 then icmp f f' else icmp o o') else icmp p p'
def scmp (p o f m p' o' f' m' : Int) : Int := if kcmp p o f p' o' f' = 0 then icmp m m' else kcmp p o f p' o' f'
def aheadB (p o f p' o' f' : Int) : Bool := decide (kcmp p o f p' o' f' = -1)
def aheadS (p o f m p' o' f' m' : Int) : Bool := decide (scmp p o f m p' o' f' m' = -1)
def timeOk (m g : Int) : Prop := 1 ≤ m ∧ m ≤ 2147483647 ∧ (g = 0 ∨ (m < g ∧ g ≤ 2147483647))
instance (m g : Int) : Decidable (timeOk m g) := by unfold timeOk; infer_instance
def elemErr (p o f m g n : Int) : Int := if keyErr p o f = 0 then (if timeOk m g then (if n ≤ 40 then 0 else 2) else 9) else keyErr p o f
def liveP (m g t : Int) : Prop := m ≤ t ∧ (g = 0 ∨ t < g)
instance (m g t : Int) : Decidable (liveP m g t) := by unfold liveP; infer_instance
theorem keyErr_ok {p o f : Int} (h1 : 0 ≤ p) (h2 : p ≤ 15) (h3 : 0 ≤ o) (h4 : o ≤ 1048576) (h5 : 0 ≤ f) (h6 : f ≤ 1073741824) : keyErr p o f = 0 := by
 unfold keyErr; rw [if_pos ⟨h1, h2, h3, h4, h5, h6⟩]
theorem keyErr_no {p o f : Int} (h : p < 0 ∨ 15 < p ∨ o < 0 ∨ 1048576 < o ∨ f < 0 ∨ 1073741824 < f) : keyErr p o f = 1 := by
 unfold keyErr; rw [if_neg (by omega)]
theorem kcmp_lt {p o f p' o' f' : Int} : kcmp p o f p' o' f' = -1 ↔ (p < p' ∨ p = p' ∧ (o < o' ∨ o = o' ∧ f < f')) := by
 unfold kcmp icmp
 by_cases h1 : p < p' <;> by_cases h2 : p' < p <;> by_cases h3 : o < o' <;> by_cases h4 : o' < o <;> by_cases h5 : f < f' <;> by_cases h6 : f' < f <;> simp [*] <;> omega
theorem kcmp_eq {p o f p' o' f' : Int} : kcmp p o f p' o' f' = 0 ↔ (p = p' ∧ o = o' ∧ f = f') := by
 unfold kcmp icmp
 by_cases h1 : p < p' <;> by_cases h2 : p' < p <;> by_cases h3 : o < o' <;> by_cases h4 : o' < o <;> by_cases h5 : f < f' <;> by_cases h6 : f' < f <;> simp [*] <;> omega
theorem kcmp_gt {p o f p' o' f' : Int} : kcmp p o f p' o' f' = 1 ↔ (p' < p ∨ p = p' ∧ (o' < o ∨ o = o' ∧ f' < f)) := by
 unfold kcmp icmp
 by_cases h1 : p < p' <;> by_cases h2 : p' < p <;> by_cases h3 : o < o' <;> by_cases h4 : o' < o <;> by_cases h5 : f < f' <;> by_cases h6 : f' < f <;> simp [*] <;> omega
theorem icmp_or (a b : Int) : icmp a b = -1 ∨ icmp a b = 0 ∨ icmp a b = 1 := by
 unfold icmp; split <;> (try split) <;> simp
theorem kcmp_or (p o f p' o' f' : Int) : kcmp p o f p' o' f' = -1 ∨ kcmp p o f p' o' f' = 0 ∨ kcmp p o f p' o' f' = 1 := by
 unfold kcmp
 split
 ·split
  ·exact icmp_or _ _
  ·exact icmp_or _ _
 ·exact icmp_or _ _
theorem aheadB_iff {p o f p' o' f' : Int} : aheadB p o f p' o' f' = true ↔ (p < p' ∨ p = p' ∧ (o < o' ∨ o = o' ∧ f < f')) := by
 unfold aheadB; rw [decide_eq_true_eq, kcmp_lt]
theorem scmp_lt {p o f m p' o' f' m' : Int} : scmp p o f m p' o' f' m' = -1 ↔ (kcmp p o f p' o' f' = -1 ∨ kcmp p o f p' o' f' = 0 ∧ m < m') := by
 unfold scmp icmp
 rcases kcmp_or p o f p' o' f' with h | h | h <;> rw [h] <;> simp
 by_cases h1 : m < m' <;> by_cases h2 : m' < m <;> simp [*]
theorem aheadS_iff {p o f m p' o' f' m' : Int} : aheadS p o f m p' o' f' m' = true ↔ (aheadB p o f p' o' f' = true ∨ (p = p' ∧ o = o' ∧ f = f') ∧ m < m') := by
 unfold aheadS aheadB; rw [decide_eq_true_eq, decide_eq_true_eq, scmp_lt, kcmp_eq]
theorem scmp_or (p o f m p' o' f' m' : Int) : scmp p o f m p' o' f' m' = -1 ∨ scmp p o f m p' o' f' m' = 0 ∨ scmp p o f m p' o' f' m' = 1 := by
 unfold scmp
 split
 ·exact icmp_or _ _
 ·exact kcmp_or _ _ _ _ _ _
theorem elemErr_key {p o f m g n : Int} (h : keyErr p o f ≠ 0) : elemErr p o f m g n = keyErr p o f := by unfold elemErr; rw [if_neg h]
theorem elemErr_time {p o f m g n : Int} (h : keyErr p o f = 0) (h2 : ¬ timeOk m g) : elemErr p o f m g n = 9 := by unfold elemErr; rw [if_pos h, if_neg h2]
theorem elemErr_long {p o f m g n : Int} (h : keyErr p o f = 0) (h2 : timeOk m g) (h3 : 40 < n) : elemErr p o f m g n = 2 := by unfold elemErr; rw [if_pos h, if_pos h2, if_neg (by omega)]
theorem elemErr_ok {p o f m g n : Int} (h : keyErr p o f = 0) (h2 : timeOk m g) (h3 : n ≤ 40) : elemErr p o f m g n = 0 := by unfold elemErr; rw [if_pos h, if_pos h2, if_pos h3]
theorem elemErr_zero {p o f m g n : Int} : elemErr p o f m g n = 0 ↔ keyErr p o f = 0 ∧ timeOk m g ∧ n ≤ 40 := by
 unfold elemErr
 by_cases h1 : keyErr p o f = 0
 ·rw [if_pos h1]
  by_cases h2 : timeOk m g
  ·rw [if_pos h2]
   by_cases h3 : n ≤ 40
   ·simp [h1, h2, h3]
   ·simp [h3]
  ·simp [h2]
 ·simp [h1]
structure El where
 p : Int
 o : Int
 f : Int
 m : Int
 g : Int
 s : ByteArray
theorem El.ext_iff' {a b : El} : a = b ↔ a.p = b.p ∧ a.o = b.o ∧ a.f = b.f ∧ a.m = b.m ∧ a.g = b.g ∧ a.s = b.s := by
 cases a; cases b; simp
instance : DecidableEq El := fun _ _ => decidable_of_iff _ El.ext_iff'.symm
def El.key (e : El) : Int × Int × Int := (e.p, e.o, e.f)
def kLt (a b : Int × Int × Int) : Prop := a.1 < b.1 ∨ a.1 = b.1 ∧ (a.2.1 < b.2.1 ∨ a.2.1 = b.2.1 ∧ a.2.2 < b.2.2)
instance (a b : Int × Int × Int) : Decidable (kLt a b) := by unfold kLt; infer_instance
def sLt (a : Int × Int × Int) (m : Int) (b : Int × Int × Int) (n : Int) : Prop := kLt a b ∨ a = b ∧ m < n
instance (a : Int × Int × Int) (m : Int) (b : Int × Int × Int) (n : Int) : Decidable (sLt a m b n) := by unfold sLt; infer_instance
theorem key3_eq {a b : Int × Int × Int} : a = b ↔ a.1 = b.1 ∧ a.2.1 = b.2.1 ∧ a.2.2 = b.2.2 := by
 obtain ⟨a1, a2, a3⟩ := a; obtain ⟨b1, b2, b3⟩ := b; simp
theorem kLt_irrefl (a : Int × Int × Int) : ¬ kLt a a := by unfold kLt; omega
theorem kLt_trans {a b c : Int × Int × Int} (h : kLt a b) (k : kLt b c) : kLt a c := by unfold kLt at *; omega
theorem kLt_tri (a b : Int × Int × Int) : kLt a b ∨ a = b ∨ kLt b a := by rw [key3_eq]; unfold kLt; omega
theorem kLt_asymm {a b : Int × Int × Int} (h : kLt a b) : ¬ kLt b a := fun k => kLt_irrefl _ (kLt_trans h k)
theorem kLt_ne {a b : Int × Int × Int} (h : kLt a b) : a ≠ b := fun e => by subst e; exact kLt_irrefl _ h
theorem sLt_trans {a b c : Int × Int × Int} {m n k : Int} (h : sLt a m b n) (h' : sLt b n c k) : sLt a m c k := by
 rcases h with h | ⟨rfl, h⟩
 ·rcases h' with h' | ⟨rfl, h'⟩
  ·exact .inl (kLt_trans h h')
  ·exact .inl h
 ·rcases h' with h' | ⟨rfl, h'⟩
  ·exact .inl h'
  ·exact .inr ⟨rfl, by omega⟩
theorem sLt_same {a : Int × Int × Int} {m n : Int} : sLt a m a n ↔ m < n := ⟨fun h => by
 rcases h with h | ⟨_, h⟩
 ·exact absurd h (kLt_irrefl _)
 ·exact h, fun h => .inr ⟨rfl, h⟩⟩
theorem scmp_sLt {a b : El} : scmp a.p a.o a.f a.m b.p b.o b.f b.m = -1 ↔ sLt a.key a.m b.key b.m := by
 rw [scmp_lt, kcmp_lt, kcmp_eq]; unfold sLt; rw [key3_eq]; exact Iff.rfl
theorem kcmp_kLt {p o f p' o' f' : Int} : kcmp p o f p' o' f' = -1 ↔ kLt (p, o, f) (p', o', f') := kcmp_lt
theorem kcmp_kGt {p o f p' o' f' : Int} : kcmp p o f p' o' f' = 1 ↔ kLt (p', o', f') (p, o, f) := by rw [kcmp_gt]; unfold kLt; simp only; omega
def El.err (e : El) : Int := elemErr e.p e.o e.f e.m e.g e.s.size
def El.live (e : El) (t : Int) : Prop := liveP e.m e.g t
instance (e : El) (t : Int) : Decidable (e.live t) := by unfold El.live; infer_instance
def Fol (a b : El) : Prop := sLt a.key a.m b.key b.m ∧ (a.key = b.key → a.g ≠ 0 ∧ a.g ≤ b.m)
instance (a b : El) : Decidable (Fol a b) := by unfold Fol; infer_instance
theorem err_time {e : El} (h : e.err = 0) : timeOk e.m e.g := (elemErr_zero.1 h).2.1
theorem Fol.trans {a b c : El} (hb : b.err = 0) (h : Fol a b) (k : Fol b c) : Fol a c := by
 have ht := err_time hb
 unfold timeOk at ht
 refine ⟨sLt_trans h.1 k.1, fun e => ?_⟩
 have hab : a.key = b.key := by
  rcases h.1 with h1 | ⟨h1, _⟩
  ·rcases k.1 with k1 | ⟨k1, _⟩
   ·exact absurd e (kLt_ne (kLt_trans h1 k1))
   ·rw [k1] at h1; exact absurd e (kLt_ne h1)
  ·exact h1
 have h2 := h.2 hab
 have k2 := k.2 (hab ▸ e)
 omega
def firstErr (f : Nat → Int) : Nat → Int
 | 0 => 0
 |n + 1 => if firstErr f n = 0 then f n else firstErr f n
theorem firstErr_zero {f : Nat → Int} : ∀ {n : Nat}, firstErr f n = 0 ↔ ∀ i, i < n → f i = 0
 | 0 => by simp [firstErr]
 |n + 1 => by
  have ih := firstErr_zero (f := f) (n := n)
  unfold firstErr
  constructor
  ·intro h i hi
   by_cases h0 : firstErr f n = 0
   ·rw [if_pos h0] at h
    rcases Nat.lt_or_ge i n with h1 | h1
    ·exact ih.1 h0 i h1
    ·rw [show i = n by omega]; exact h
   ·rw [if_neg h0] at h; exact absurd h h0
  ·intro h
   rw [if_pos (ih.2 fun i hi => h i (by omega))]
   exact h n (by omega)
theorem firstErr_at {f : Nat → Int} {k n : Nat} (h : ∀ i, i < k → f i = 0) (hk : f k ≠ 0) (hn : k < n) : firstErr f n = f k := by
 induction n with
 |zero => omega
 |succ n ih =>
  unfold firstErr
  rcases Nat.lt_or_ge k n with h1 | h1
  ·rw [if_neg (by rw [ih h1]; exact hk), ih h1]
  ·rw [show n = k by omega, if_pos (firstErr_zero.2 h)]
def stepErr (l : List El) (i : Nat) : Int :=
 match l[i]? with
 |none => 0
 |some e => if e.err ≠ 0 then e.err else
  match (if i = 0 then none else l[i - 1]?) with
  |none => 0
  |some q => if Fol q e then 0 else 3
def runErr (l : List El) : Int := if 400 < l.length then 2 else firstErr (stepErr l) l.length
theorem stepErr_zero {l : List El} {i : Nat} (hi : i < l.length) : stepErr l i = 0 ↔ l[i].err = 0 ∧ (∀ h : 0 < i, Fol (l[i - 1]'(by omega)) l[i]) := by
 unfold stepErr
 rw [List.getElem?_eq_getElem hi]
 simp only
 by_cases he : l[i].err = 0
 ·rw [if_neg (by simpa using he)]
  by_cases h0 : i = 0
  ·subst h0; simp [he]
  ·rw [if_neg h0, List.getElem?_eq_getElem (by omega)]
   simp only
   by_cases hF : Fol (l[i - 1]'(by omega)) l[i]
   ·simp [hF, he]
   ·simp only [hF, if_false]
    constructor
    ·intro h; omega
    ·intro h; exact absurd (h.2 (by omega)) id
 ·rw [if_pos he]; simp [he]
def Good (l : List El) : Prop := l.length ≤ 400 ∧ (∀ e ∈ l, e.err = 0) ∧ l.Pairwise Fol
theorem pairwise_of_steps {l : List El} (ho : ∀ e ∈ l, e.err = 0) (h : ∀ i (hi : i + 1 < l.length), Fol l[i] l[i + 1]) : l.Pairwise Fol := by
 rw [List.pairwise_iff_getElem]
 intro i j hi hj hij
 obtain ⟨d, rfl⟩ : ∃ d, j = i + 1 + d := ⟨j - (i + 1), by omega⟩
 induction d with
 |zero => exact h i hj
 |succ d ih =>
  have := ih (by omega) (by omega)
  exact Fol.trans (ho _ (List.getElem_mem _)) this (h (i + 1 + d) hj)
theorem steps_good {l : List El} (h : ∀ i, i < l.length → stepErr l i = 0) : (∀ e ∈ l, e.err = 0) ∧ l.Pairwise Fol := by
 have h1 : ∀ e ∈ l, e.err = 0 := fun e he => by
  obtain ⟨i, hi, rfl⟩ := List.getElem_of_mem he
  exact ((stepErr_zero hi).1 (h i hi)).1
 refine ⟨h1, pairwise_of_steps h1 fun i hi => ?_⟩
 exact ((stepErr_zero hi).1 (h (i + 1) hi)).2 (by omega)
theorem runErr_zero {l : List El} : runErr l = 0 ↔ Good l := by
 unfold runErr Good
 by_cases hl : 400 < l.length
 ·rw [if_pos hl]; constructor
  ·intro h; omega
  ·intro h; omega
 ·rw [if_neg hl, firstErr_zero]
  constructor
  ·intro h; exact ⟨by omega, steps_good h⟩
  ·rintro ⟨_, h1, h2⟩ i hi
   rw [stepErr_zero hi]
   exact ⟨h1 _ (List.getElem_mem _), fun h => List.pairwise_iff_getElem.1 h2 (i - 1) i (by omega) hi (by omega)⟩
def isAt (k : Int × Int × Int) (t : Int) (e : El) : Bool := decide (e.key = k ∧ e.live t)
def zeroEl : El := ⟨0, 0, 0, 0, 0, { data := #[] }⟩
def atR (l : List El) (k : Int × Int × Int) (t : Int) : Option El := l.find? (isAt k t)
def kErr (k : Int × Int × Int) : Int := keyErr k.1 k.2.1 k.2.2
theorem uniqAt {l : List El} (h : l.Pairwise Fol) {k : Int × Int × Int} {t : Int} {i j : Nat} (hi : i < l.length) (hj : j < l.length) (h1 : isAt k t l[i] = true) (h2 : isAt k t l[j] = true) : i = j := by
 unfold isAt at h1 h2
 rw [decide_eq_true_eq] at h1 h2
 have key : ∀ a b (ha : a < l.length) (hb : b < l.length), a < b → (l[a].key = k ∧ l[a].live t) → (l[b].key = k ∧ l[b].live t) → False := fun a b ha hb hab p q => by
  have hF := (List.pairwise_iff_getElem.1 h a b ha hb hab).2 (p.1.trans q.1.symm)
  have p2 := p.2; have q2 := q.2
  unfold El.live liveP at p2 q2
  omega
 rcases Nat.lt_trichotomy i j with h3 | h3 | h3
 ·exact (key i j hi hj h3 h1 h2).elim
 ·exact h3
 ·exact (key j i hj hi h3 h2 h1).elim
theorem find_of {l : List El} (h : l.Pairwise Fol) {k : Int × Int × Int} {t : Int} {i : Nat} (hi : i < l.length) (h1 : isAt k t l[i] = true) : atR l k t = some l[i] := by
 unfold atR
 have hs : (l.find? (isAt k t)).isSome = true := by rw [List.find?_isSome]; exact ⟨_, List.getElem_mem hi, h1⟩
 obtain ⟨e, he⟩ := Option.isSome_iff_exists.1 hs
 rw [he]
 have hp := List.find?_some he
 obtain ⟨j, hj, rfl⟩ := List.getElem_of_mem (List.mem_of_find?_eq_some he)
 have := uniqAt h hj hi hp h1
 subst this; rfl
theorem find_none {l : List El} {k : Int × Int × Int} {t : Int} (h : ∀ e ∈ l, isAt k t e = false) : atR l k t = none := by
 unfold atR; rw [List.find?_eq_none]; intro e he; simp [h e he]
def inR (lo hi : Int × Int × Int) (t : Int) (e : El) : Bool := decide (¬ kLt e.key lo ∧ ¬ kLt hi e.key ∧ e.live t)
def rangeR (l : List El) (lo hi : Int × Int × Int) (t : Int) : List El := l.filter (inR lo hi t)
def rgErr (l : List El) (lo hi : Int × Int × Int) : Int := if runErr l = 0 then (if kErr lo = 0 then kErr hi else kErr lo) else runErr l
theorem rangeR_take {l : List El} {k : Nat} {e : El} (h : l[k]? = some e) (lo hi : Int × Int × Int) (t : Int) : rangeR (l.take (k + 1)) lo hi t = rangeR (l.take k) lo hi t ++ (if inR lo hi t e then [e] else []) := by
 obtain ⟨hk, he⟩ := List.getElem?_eq_some_iff.1 h
 unfold rangeR
 rw [List.take_succ_eq_append_getElem hk, List.filter_append, he]
 by_cases hi : inR lo ‹_› t e <;> simp [hi]
theorem rangeR_le (l : List El) (lo hi : Int × Int × Int) (t : Int) : (rangeR l lo hi t).length ≤ l.length := List.length_filter_le _ _
open Go.RowKit
def Calm (w w' : World) : Prop := Below w.heap.size w w'
theorem Calm.refl (w : World) : Calm w w := Below.refl _ _
theorem Calm.alloc {a w : World} (h : Calm a w) (o : Obj) : Calm a (w.alloc o) := Below.alloc h (Below.size h) o
theorem Calm.drew {a w : World} (h : Calm a w) : Calm a w.drew := Below.drew h
theorem Calm.drewN {a w : World} (h : Calm a w) (n : Nat) : Calm a (w.drewN n) := Below.trans h ⟨rfl, rfl, rfl, Nat.le_refl _, fun _ _ => rfl⟩
theorem Calm.of_drew {a w : World} (h : Calm a.drew w) : Calm a w := Below.trans (Calm.refl a).drew h
theorem Calm.setCell {a w : World} (h : Calm a w) {p : Addr} (hp : a.heap.size ≤ p.block) (u : Value) : Calm a (w.setCell p u) := Below.setCell h hp u
theorem Calm.setRow {a w : World} (h : Calm a w) {g : Nat} (hg : a.heap.size ≤ g) (cs : Array Value) : Calm a (w.setRow g cs) :=
 Below.trans h ⟨rfl, rfl, rfl, by simp, fun k hk => setRow_other w g k cs (by omega)⟩
theorem Calm.call {a w w1 : World} (h : Calm a w) (hb : Calm w w1) : Calm a w1 := Below.trans h (Below.mono hb (Below.size h))
theorem Calm.size {a w : World} (h : Calm a w) : a.heap.size ≤ w.heap.size := Below.size h
theorem Calm.block {a w : World} (h : Calm a w) {k : Nat} (hk : k < a.heap.size) : w.heap[k]? = a.heap[k]? := Below.block h k hk
/-- Of such a call: cells, marks, how many blocks. -/
theorem Calm.facts {W w1 : World} (hb : Calm W w1) : (∀ b o, b < W.heap.size → w1.cell? ⟨b, o, none⟩ = W.cell? ⟨b, o, none⟩) ∧ (∀ b o, b < W.heap.size → w1.frozen? ⟨b, o, none⟩ = W.frozen? ⟨b, o, none⟩) ∧ (∀ n : Nat, n < W.heap.size → n < w1.heap.size ∧ n < w1.heap.size + 1 ∧ n < w1.heap.size + 1 + 1 ∧ n < w1.heap.size + 1 + 1 + 1 ∧ n < w1.heap.size + 1 + 1 + 1 + 1) :=
 ⟨fun b o h => Below.cell hb (p := ⟨b, o, none⟩) h, fun b o h => Below.frozen hb (p := ⟨b, o, none⟩) h, fun _ h => by have := Below.size hb; omega⟩
section
variable {P : Program} {ops : Array Oper} {Q : Exit → Act → World → Prop} {md : Region.Mode}
def unlisted (listed : Array Bool) : Nat := listed.toList.countP (· == false)
theorem unlisted_set {listed : Array Bool} {i : Nat} (h : listed.getD i true = false) : unlisted (listed.setIfInBounds i true) + 1 = unlisted listed := by
 have hi : i < listed.size := by
  rcases Nat.lt_or_ge i listed.size with h' | h'
  ·exact h'
  ·simp [Array.getElem?_eq_none h'] at h
 have hv : listed[i] = false := by simpa [hi] using h
 have hm : false ∈ listed.toList := by rw [← hv]; simp
 have hpos : 0 < listed.toList.countP (· == false) := List.countP_pos_iff.2 ⟨false, hm, rfl⟩
 have hl : listed.toList[i]'(by simpa using hi) = false := by simpa using hv
 unfold unlisted
 rw [Array.toList_setIfInBounds, List.countP_set (by simpa using hi), hl]
 simp only [beq_self_eq_true, if_true, show ((true == false) = false) from rfl, Bool.false_eq_true, if_false]
 omega
theorem wpAny_inv (J : Array Bool → Act → World → Prop)
    (hstep : ∀ (listed : Array Bool) (a : Act) (w : World) (i : Nat), J listed a w → i ∈ Region.ready md ops listed → wpOp P ops Q i (fun a' w' => J (listed.setIfInBounds i true) a' w') a w)
    (hend : ∀ (listed : Array Bool) (a : Act) (w : World), J listed a w → Region.ready md ops listed = [] → Q .normal a w) :
    ∀ (fuel : Nat) (listed : Array Bool) (a : Act) (w : World), unlisted listed ≤ fuel → J listed a w → wpAny P md ops Q fuel listed a w
  | 0, listed, a, w, hf, hj => by
    have hr : Region.ready md ops listed = [] := by
      cases h : Region.ready md ops listed with
      | nil => rfl
      | cons i r =>
        have hm : i ∈ Region.ready md ops listed := by rw [h]; simp
        have := unlisted_set (mem_ready.1 hm).1
        omega
    exact ⟨hr, hend _ _ _ hj hr⟩
  | fuel + 1, listed, a, w, hf, hj => by
    refine ⟨fun h0 => hend _ _ _ hj h0, fun i hi => ?_⟩
    have := unlisted_set (mem_ready.1 hi).1
    exact wpOp_mono (fun a' w' h => wpAny_inv J hstep hend fuel _ a' w' (by omega) h) (hstep _ _ _ _ hj hi)
inductive Does where
 |val (v : Value)
 |idle
 |new (z : Array Value) (t : TypeId) (kd : Option Nat := none)
 |fill (k : Nat) (cs : Array Value)
 |look (k : Nat) (v : Value)
def newOut (b : Nat) : Option Nat → Value
 |none => .pointer (some ⟨b, 0, none⟩)
 |some n => .slice (some ⟨b, 0, none⟩) n n
def Does.out (X : Nat → Nat) (i : Nat) : Does → Value
 | .val v => v
 | .idle => undef
 | .new _ _ kd => newOut (X i) kd
 | .fill _ _ => undef
 | .look _ v => v
def noFillB (p : List Does) (k : Nat) : Bool := p.all fun d => match d with | .fill m _ => m != k | _ => true
theorem noFillB_spec {p : List Does} {k : Nat} (h : noFillB p k = true) {j : Nat} {cs : Array Value} : p[j]? ≠ some (.fill k cs) := fun hj => by
 have := List.all_eq_true.1 h _ (List.mem_of_getElem? hj)
 simp at this
def Does.fits (P : Program) (ops : Array Oper) (w0 : World) (X : Nat → Nat) (p : List Does) (o : Oper) (a : Act) : Does → Prop
  | .val v => Region.wanted o (yielded ops a.tmps) = true ∧ ∀ w, Calm w0 w → Oper.quietUpon P (Calm w) w v ((execOp a.eval o).run P w)
  | .idle => Region.wanted o (yielded ops a.tmps) = false
  | .new z t kd => Region.wanted o (yielded ops a.tmps) = true ∧ ∀ w, (execOp a.eval o).run P w = .ok (.value (newOut w.heap.size kd)) (w.alloc (.cells z t))
  | .fill k cs => Region.wanted o (yielded ops a.tmps) = true ∧ o.dst = none ∧ o.after.any (fun e => Region.binds .any e && e.on == k) = true ∧ ∃ z t kd, p[k]? = some (.new z t kd) ∧
      ∀ w, w.heap[X k]? = some (.cells z t (0, 0)) → (execOp a.eval o).run P w = .ok .skip (w.setRow (X k) cs) ∨ (execOp a.eval o).run P w = .ok (.value undef) (w.setRow (X k) cs)
  | .look k v => Region.wanted o (yielded ops a.tmps) = true ∧ o.after.any (fun e => Region.binds .any e && e.on == k) = true ∧ ∃ z t kd, p[k]? = some (.new z t kd) ∧ noFillB p k = true ∧
      ∀ w, Calm w0 w → w.heap[X k]? = some (.cells z t (0, 0)) → Oper.quietUpon P (Calm w) w v ((execOp a.eval o).run P w)
def Plan (P : Program) (ops : Array Oper) (w0 : World) (X : Nat → Nat) (p : List Does) (R : Act → Prop) : Nat → List Oper → List Does → Act → Prop
 |_, [], [], a => R a
 |i, o :: os, d :: ds, a => d.fits P ops w0 X p o a ∧ Plan P ops w0 X p R (i + 1) os ds (a.put o.dst (d.out X i))
 |_, _, _, _ => False
def planB (ops : Array Oper) : Bool :=
  Region.noSelect ops && (List.range ops.size).all fun j => match ops[j]? with
    | none => true
    | some o => o.after.all (fun e => !Region.binds .any e || decide (e.on < j)) &&
        (List.range ops.size).all fun i => match ops[i]? with
          | none => true
          | some x => match x.dst with
            | none => true
            | some d => (!(o.looksAt ops).contains d || (decide (i < j) && o.after.any (fun e => Region.binds .any e && e.on == i))) && (i == j || o.dst != some d)
def rowNow (p : List Does) (listed : Array Bool) (k : Nat) (z : Array Value) : Array Value :=
 match (List.range p.length).findSome? (fun j => if listed.getD j false then (match p[j]? with | some (.fill m cs) => if m == k then some cs else none | _ => none) else none) with
 |some cs => cs
 |none => z
def fillsB (p : List Does) : Bool :=
 (List.range p.length).all fun i => (List.range p.length).all fun j => i == j || match p[i]?, p[j]? with
  |some (.fill m _), some (.fill n _) => m != n
  |_, _ => true
/-- Two frames that hold the same wherever an operation looks: it does the same. -/
theorem same_look {o : Oper} (hs : ∀ cs b, o.op ≠ .select cs b) {a b : Act} (h : ∀ t ∈ o.looksAt ops, a.tmps[t]? = b.tmps[t]?) :
    execOp a.eval o = execOp b.eval o ∧ Region.wanted o (yielded ops a.tmps) = Region.wanted o (yielded ops b.tmps) := by
  constructor
  · refine execOp_congr o hs fun x hx => ?_
    cases x with
    | tmp t =>
      have : t ∈ o.looksAt ops := List.mem_append_left _ (List.mem_filterMap.2 ⟨.tmp t, by simpa using hx, rfl⟩)
      have h1 := h t this
      simp [Act.eval, h1]
    | _ => rfl
  · unfold Region.wanted
    cases hg : o.guard with
    | none => rfl
    | some gw =>
      obtain ⟨g, want⟩ := gw
      have : yielded ops a.tmps g = yielded ops b.tmps g := by
        unfold yielded
        cases ht : (ops[g]?).bind (·.dst) with
        | none => rfl
        | some t =>
          have h1 := h t (by simp [Oper.looksAt, hg, ht])
          simp [h1]
      simp only [this]
theorem put_get (a : Act) (d : Option Tmp) (v : Value) (t : Nat) : (a.put d v).tmps[t]? = if d = some t ∧ t < a.tmps.size then some v else a.tmps[t]? := by
 cases d with
 |none => simp [Act.put]
 |some d =>
  simp only [Act.put, Array.getElem?_setIfInBounds, Option.some.injEq]
  by_cases h : d = t
  ·subst h
   by_cases h2 : d < a.tmps.size
   ·simp [h2]
   ·simp [h2]
  ·simp [h]
theorem put_size (a : Act) (d : Option Tmp) (v : Value) : (a.put d v).tmps.size = a.tmps.size := by cases d <;> simp [Act.put]
theorem put_def (a : Act) (d : Option Tmp) (v : Value) : (a.put d v).defers = a.defers := by cases d <;> simp [Act.put]
structure Agree (ops : Array Oper) (p : List Does) (a0 : Act) (X : Nat → Nat) (S : Nat → Prop) (a : Act) : Prop where
 defers : a.defers = a0.defers
 size : a.tmps.size = a0.tmps.size
 put : ∀ i o d t, ops[i]? = some o → p[i]? = some d → S i → o.dst = some t → t < a0.tmps.size → a.tmps[t]? = some (d.out X i)
 old : ∀ t, (∀ i o, ops[i]? = some o → S i → o.dst ≠ some t) → a.tmps[t]? = a0.tmps[t]?
structure Sound (ops : Array Oper) : Prop where
 noSelect : ∀ (j : Nat) (o : Oper) cs b, ops[j]? = some o → o.op ≠ .select cs b
 before : ∀ (j : Nat) (o : Oper) (e : Edge), ops[j]? = some o → e ∈ o.after → Region.binds .any e = true → e.on < j
 looks : ∀ (j i : Nat) (o x : Oper) (d : Tmp), ops[j]? = some o → ops[i]? = some x → x.dst = some d → d ∈ o.looksAt ops → i < j ∧ ∃ e ∈ o.after, Region.binds .any e = true ∧ e.on = i
 apart : ∀ (j i : Nat) (o x : Oper) (d : Tmp), ops[j]? = some o → ops[i]? = some x → x.dst = some d → o.dst = some d → i = j
theorem planB_sound (h : planB ops = true) : Sound ops := by
 simp only [planB, Bool.and_eq_true, List.all_eq_true, List.mem_range] at h
 obtain ⟨h1, h2⟩ := h
 have lt : ∀ {j : Nat} {o : Oper}, ops[j]? = some o → j < ops.size := fun ho => (Array.getElem?_eq_some_iff.1 ho).1
 refine ⟨fun j o cs b ho => Region.noSelect_spec h1 j o cs b ho, fun j o e ho he hb => ?_, fun j i o x d ho hx hd hl => ?_, fun j i o x d ho hx hd hod => ?_⟩
 ·have := h2 j (lt ho)
  simp only [ho, Bool.and_eq_true, Array.all_eq_true_iff_forall_mem] at this
  have h3 := this.1 e he
  simpa [hb] using h3
 ·have := h2 j (lt ho)
  simp only [ho, Bool.and_eq_true, List.all_eq_true, List.mem_range] at this
  have h3 := this.2 i (lt hx)
  simp only [hx, hd, Bool.and_eq_true] at h3
  have h4 := h3.1
  rw [List.contains_iff_mem.2 hl] at h4
  simp only [Bool.not_true, Bool.false_or, Bool.and_eq_true, decide_eq_true_eq] at h4
  obtain ⟨e, he, hb⟩ := Array.any_eq_true'.1 h4.2
  simp only [Bool.and_eq_true, beq_iff_eq] at hb
  exact ⟨h4.1, e, he, hb⟩
 ·have := h2 j (lt ho)
  simp only [ho, Bool.and_eq_true, List.all_eq_true, List.mem_range] at this
  have h3 := this.2 i (lt hx)
  simp only [hx, hd, Bool.and_eq_true] at h3
  have h4 := h3.2
  simpa [hod] using h4
/-- One operation more. -/
theorem Agree.step {p : List Does} {a0 : Act} {X : Nat → Nat} {S T : Nat → Prop} {a : Act} (hs : Sound ops) (h : Agree ops p a0 X S a) {j : Nat} {o : Oper} {d : Does} (ho : ops[j]? = some o) (hd : p[j]? = some d)
    (hT : ∀ i, T i ↔ (S i ∨ i = j)) : Agree ops p a0 X T (a.put o.dst (d.out X j)) := by
  refine ⟨by rw [put_def, h.defers], by rw [put_size, h.size], fun i oi di t hoi hdi hi ht hlt => ?_, fun t ht => ?_⟩
  · rw [put_get]
    rcases (hT i).1 hi with hi | rfl
    · by_cases hc : o.dst = some t ∧ t < a.tmps.size
      · rw [if_pos hc]
        obtain rfl := hs.apart j i o oi t ho hoi ht hc.1
        rw [hd] at hdi
        cases hdi
        rfl
      · rw [if_neg hc]
        exact h.put i oi di t hoi hdi hi ht hlt
    · rw [ho] at hoi; cases hoi
      rw [hd] at hdi; cases hdi
      rw [if_pos ⟨ht, by rw [h.size]; exact hlt⟩]
  · rw [put_get, if_neg (fun hc => ht j o ho ((hT j).2 (Or.inr rfl)) hc.1)]
    exact h.old t fun i oi hoi hi => ht i oi hoi ((hT i).2 (Or.inl hi))
/-- Off the plan: what each operation does in a frame of the text's order, and the frame at the end. -/
theorem plan_get {w0 : World} {X : Nat → Nat} {p : List Does} {a0 : Act} {R : Act → Prop} (hs : Sound ops) : ∀ (os : List Oper) (ds : List Does) (i : Nat) (a : Act), os = ops.toList.drop i → ds = p.drop i →
    Agree ops p a0 X (· < i) a → Plan P ops w0 X p R i os ds a →
    (∀ j o, i ≤ j → ops[j]? = some o → ∃ d b, p[j]? = some d ∧ Agree ops p a0 X (· < j) b ∧ d.fits P ops w0 X p o b) ∧ (∃ b, Agree ops p a0 X (· < ops.size) b ∧ R b) ∧ (i ≤ ops.size → i ≤ p.length → p.length = ops.size)
  | [], [], i, a, hos, hds, ha, h => by
    have hl : ops.size ≤ i := by have := congrArg List.length hos; simp at this; omega
    refine ⟨fun j o hj hoj => ?_, ⟨a, ⟨ha.defers, ha.size, fun k o d t ho hd hk ht hlt => ha.put k o d t ho hd (by omega) ht hlt, fun t ht => ha.old t fun k o ho hk => ht k o ho ?_⟩, h⟩, fun hi hi2 => ?_⟩
    · have := (Array.getElem?_eq_some_iff.1 hoj).1; omega
    · exact (Array.getElem?_eq_some_iff.1 ho).1
    · have := congrArg List.length hds; simp at this; omega
  | [], d :: ds, i, a, _, _, _, h => absurd h (by simp [Plan])
  | o :: os, [], i, a, _, _, _, h => absurd h (by simp [Plan])
  | o :: os, d :: ds, i, a, hos, hds, ha, h => by
    have hlen : i < ops.size := by have := congrArg List.length hos; simp at this; omega
    have ho : ops[i]? = some o := by
      have := congrArg (·[0]?) hos
      simpa using this.symm
    have hd : p[i]? = some d := by
      have := congrArg (·[0]?) hds
      simpa using this.symm
    have hos' : os = ops.toList.drop (i + 1) := by rw [← List.tail_drop, ← hos]; rfl
    have hds' : ds = p.drop (i + 1) := by rw [← List.tail_drop, ← hds]; rfl
    obtain ⟨h1, h2⟩ := h
    have hplen : i < p.length := by have := congrArg List.length hds; simp at this; omega
    obtain ⟨g1, g2, g3⟩ := plan_get hs os ds (i + 1) (a.put o.dst (d.out X i)) hos' hds' (ha.step hs ho hd (fun k => by omega)) h2
    refine ⟨fun j oj hj hoj => ?_, g2, fun _ _ => g3 (by omega) (by omega)⟩
    rcases Nat.eq_or_lt_of_le hj with rfl | hj
    · rw [ho] at hoj; cases hoj
      exact ⟨d, a, hd, ha, h1⟩
    · exact g1 j oj hj hoj
theorem rowNow_same {p : List Does} {listed : Array Bool} {j k : Nat} {z : Array Value} (h : ∀ m cs, p[j]? = some (.fill m cs) → m ≠ k) : rowNow p (listed.setIfInBounds j true) k z = rowNow p listed k z := by
 unfold rowNow
 have : (fun i => if (listed.setIfInBounds j true).getD i false then (match p[i]? with | some (Does.fill m cs) => if m == k then some cs else none | _ => none) else none) = (fun i => if listed.getD i false then (match p[i]? with | some (Does.fill m cs) => if m == k then some cs else none | _ => none) else none) := by
  funext i
  by_cases hij : j = i
  ·subst hij
   have hn : (match p[j]? with | some (Does.fill m cs) => if m == k then some cs else none | _ => none) = none := by
    cases hp : p[j]? with
    |none => rfl
    |some d =>
     cases d with
     |fill m cs => simp [h m cs hp]
     |_ => rfl
   simp only [hn, ite_self]
  ·rw [getD_set_ne false hij]
 rw [this]
theorem fillsB_spec {p : List Does} (h : fillsB p = true) {i j m : Nat} {cs cs' : Array Value} (hi : p[i]? = some (.fill m cs)) (hj : p[j]? = some (.fill m cs')) : i = j := by
 simp only [fillsB, List.all_eq_true, List.mem_range] at h
 have := h i (List.getElem?_eq_some_iff.1 hi).1 j (List.getElem?_eq_some_iff.1 hj).1
 simpa [hi, hj] using this
theorem rowNow_fill {p : List Does} (h : fillsB p = true) {listed : Array Bool} {j k : Nat} {z cs : Array Value} (hj : p[j]? = some (.fill k cs)) (hl : listed.getD j false = true) : rowNow p listed k z = cs := by
 unfold rowNow
 have hjl : j < p.length := (List.getElem?_eq_some_iff.1 hj).1
 have hsome : ((List.range p.length).findSome? (fun j => if listed.getD j false then (match p[j]? with | some (Does.fill m cs) => if m == k then some cs else none | _ => none) else none)).isSome = true := by
  rw [List.findSome?_isSome_iff]
  exact ⟨j, List.mem_range.2 hjl, by simp only [hl, if_true, hj]; simp⟩
 cases hf : (List.range p.length).findSome? (fun j => if listed.getD j false then (match p[j]? with | some (Does.fill m cs) => if m == k then some cs else none | _ => none) else none) with
 |none => rw [hf] at hsome; cases hsome
 |some c =>
  obtain ⟨i, hi, he⟩ := List.exists_of_findSome?_eq_some hf
  simp only
  split at he
  ·split at he
   ·rename_i m c' hp
    split at he
    ·rename_i hm
     cases he
     have hm' : m = k := by simpa using hm
     subst hm'
     obtain rfl := fillsB_spec h hj hp
     rw [hj] at hp
     cases hp
     rfl
    ·cases he
   ·cases he
  ·cases he
theorem rowNow_none {p : List Does} {listed : Array Bool} {k : Nat} {z : Array Value} (h : ∀ j cs, p[j]? = some (.fill k cs) → listed.getD j false = false) : rowNow p listed k z = z := by
 unfold rowNow
 cases hf : (List.range p.length).findSome? (fun j => if listed.getD j false then (match p[j]? with | some (Does.fill m cs) => if m == k then some cs else none | _ => none) else none) with
 |none => rfl
 |some c =>
  obtain ⟨i, hi, he⟩ := List.exists_of_findSome?_eq_some hf
  split at he
  ·rename_i hl
   split at he
   ·rename_i m c' hp
    split at he
    ·rename_i hm
     have hm' : m = k := by simpa using hm
     subst hm'
     rw [h i c' hp] at hl
     cases hl
    ·cases he
   ·cases he
  ·cases he
structure Rows0 (p : List Does) (w0 : World) (X : Nat → Nat) (listed : Array Bool) (w : World) : Prop where
 calm : Calm w0 w
 row : ∀ i z t {kd}, p[i]? = some (.new z t kd) → listed.getD i false = true → w0.heap.size ≤ X i ∧ w.heap[X i]? = some (.cells (rowNow p listed i z) t (0, 0))
 apart : ∀ i j z t z' t' {kd kd'}, p[i]? = some (.new z t kd) → p[j]? = some (.new z' t' kd') → listed.getD i false = true → listed.getD j false = true → i ≠ j → X i ≠ X j
structure Inv (ops : Array Oper) (p : List Does) (a0 : Act) (w0 : World) (X : Nat → Nat) (listed : Array Bool) (a : Act) (w : World) : Prop where
 size : listed.size = ops.size
 act : Agree ops p a0 X (fun i => listed.getD i false = true) a
 rows : Rows0 p w0 X listed w
 down : ∀ i o e, ops[i]? = some o → listed.getD i false = true → e ∈ o.after → Region.binds .any e = true → listed.getD e.on false = true
theorem getD_set_iff {listed : Array Bool} {i j : Nat} (hi : i < listed.size) : (listed.setIfInBounds i true).getD j false = true ↔ (listed.getD j false = true ∨ j = i) := by
 by_cases h : i = j
 ·subst h; simp [hi]
 ·rw [getD_set_ne false h]
  exact ⟨Or.inl, fun h' => h'.resolve_right (fun e => h e.symm)⟩
theorem Inv.step {p : List Does} {a0 : Act} {w0 : World} {R : (Nat → Nat) → Act → Prop} {Q : Exit → Act → World → Prop} (hs : Sound ops) (hf : fillsB p = true)
    (hp : ∀ X, Plan P ops w0 X p (R X) 0 ops.toList p a0) {X : Nat → Nat} {listed : Array Bool} {a : Act} {w : World} {j : Nat} (h : Inv ops p a0 w0 X listed a w) (hj : j ∈ Region.ready .any ops listed) :
    wpOp P ops Q j (fun a' w' => ∃ X', Inv ops p a0 w0 X' (listed.setIfInBounds j true) a' w') a w := by
  obtain ⟨hun, o, ho, hall⟩ := mem_ready.1 hj
  have hjs : j < listed.size := by rw [h.size]; exact (Array.getElem?_eq_some_iff.1 ho).1
  have hnl : listed.getD j false = false := by
    rw [Array.getD_eq_getD_getElem?] at hun ⊢
    rw [Array.getElem?_eq_getElem hjs] at hun ⊢
    simpa using hun
  obtain ⟨g1, _, g3⟩ := plan_get (X := X) hs ops.toList p 0 a0 rfl rfl ⟨rfl, rfl, fun i o d t _ _ hi => absurd hi (Nat.not_lt_zero _), fun t _ => rfl⟩ (hp X)
  obtain ⟨d, b, hd, hb, hfit⟩ := g1 j o (Nat.zero_le _) ho
  have hlook : ∀ t ∈ o.looksAt ops, a.tmps[t]? = b.tmps[t]? := fun t ht => by
    by_cases hw : ∃ (i : Nat) (x : Oper), ops[i]? = some x ∧ x.dst = some t
    · obtain ⟨i, x, hx, hxt⟩ := hw
      obtain ⟨hij, e, he, hbe, rfl⟩ := hs.looks j i o x t ho hx hxt ht
      have hli := hall e he hbe
      have hpi : ∃ di, p[e.on]? = some di := by
        have := g3 (Nat.zero_le _) (Nat.zero_le _)
        have hlt : e.on < p.length := by rw [this]; exact (Array.getElem?_eq_some_iff.1 hx).1
        exact ⟨p[e.on], List.getElem?_eq_getElem hlt⟩
      obtain ⟨di, hdi⟩ := hpi
      by_cases hlt : t < a0.tmps.size
      · rw [h.act.put e.on x di t hx hdi hli hxt hlt, hb.put e.on x di t hx hdi hij hxt hlt]
      · have e1 : a.tmps[t]? = none := Array.getElem?_eq_none (by rw [h.act.size]; exact Nat.le_of_not_lt hlt)
        have e2 : b.tmps[t]? = none := Array.getElem?_eq_none (by rw [hb.size]; exact Nat.le_of_not_lt hlt)
        rw [e1, e2]
    · have hno : ∀ (i : Nat) (x : Oper), ops[i]? = some x → x.dst ≠ some t := fun i x hx hxt => hw ⟨i, x, hx, hxt⟩
      rw [h.act.old t fun i x hx _ => hno i x hx, hb.old t fun i x hx _ => hno i x hx]
  obtain ⟨hex, hwant⟩ := same_look (hs.noSelect j o · · ho) hlook
  have hdown : ∀ i o' e, ops[i]? = some o' → (listed.setIfInBounds j true).getD i false = true → e ∈ o'.after → Region.binds .any e = true → (listed.setIfInBounds j true).getD e.on false = true := fun i o' e ho' hi he hbe => by
    rcases (getD_set_iff hjs).1 hi with hi | rfl
    · exact getD_set_true (h.down i o' e ho' hi he hbe)
    · rw [ho] at ho'; cases ho'
      exact getD_set_true (hall e he hbe)
  have hact : ∀ Y : Nat → Nat, (∀ i, i ≠ j → Y i = X i) → Agree ops p a0 Y (fun i => (listed.setIfInBounds j true).getD i false = true) (a.put o.dst (d.out Y j)) := fun Y hY => by
    have ha : Agree ops p a0 Y (fun i => listed.getD i false = true) a := ⟨h.act.defers, h.act.size, fun i oi di t hoi hdi hi ht hlt => by
      have hij : i ≠ j := fun e => by subst e; rw [hnl] at hi; cases hi
      rw [h.act.put i oi di t hoi hdi hi ht hlt]
      cases di <;> simp [Does.out, hY i hij], h.act.old⟩
    exact ha.step hs ho hd fun i => getD_set_iff hjs
  have rowsSame : ∀ w', Calm w w' → (∀ z t kd, d ≠ .new z t kd) → (∀ k cs, d ≠ .fill k cs) → Rows0 p w0 X (listed.setIfInBounds j true) w' := fun w' hw' hdn hdf => by
    have hne : ∀ i z t kd, p[i]? = some (.new z t kd) → (listed.setIfInBounds j true).getD i false = true → listed.getD i false = true := fun i z t kd hi hl => by
      rcases (getD_set_iff hjs).1 hl with hl | rfl
      · exact hl
      · rw [hd] at hi; cases hi; exact absurd rfl (hdn z t kd)
    refine ⟨h.rows.calm.call hw', fun i z t kd hi hl => ?_, fun i k z t z' t' kd kd' hi hk hl hl' hik => h.rows.apart i k z t z' t' hi hk (hne i z t kd hi hl) (hne k z' t' kd' hk hl') hik⟩
    obtain ⟨r1, r2⟩ := h.rows.row i z t hi (hne i z t kd hi hl)
    refine ⟨r1, ?_⟩
    rw [rowNow_same fun m cs hm => by rw [hd] at hm; cases hm; exact absurd rfl (hdf m cs)]
    rw [hw'.block (Array.getElem?_eq_some_iff.1 r2).1, r2]
  unfold wpOp
  simp only [ho]
  cases d with
  | val v =>
    obtain ⟨f1, f2⟩ := hfit
    rw [hwant, f1, if_pos rfl]
    left
    unfold Oper.wp
    rw [hex]
    have f3 := f2 w h.rows.calm
    have fin : ∀ w', Calm w w' → ∃ X', Inv ops p a0 w0 X' (listed.setIfInBounds j true) (a.put o.dst v) w' := fun w' hw' =>
      ⟨X, by simp [h.size], hact X fun _ _ => rfl, rowsSame w' hw' (fun _ _ _ e => by cases e) (fun _ _ e => by cases e), hdown⟩
    generalize (execOp b.eval o).run P w = r at *
    cases r with
    | ok n w' =>
      cases n <;> simp only [Oper.quietUpon] at f3 <;> simp only [Oper.upon]
      case value u => obtain ⟨e1, e2⟩ := f3; rw [e1, e2]; exact fin w (Calm.refl w)
      case skip => obtain ⟨e1, e2⟩ := f3; rw [e1, ← e2]; exact fin w (Calm.refl w)
      case enter f args =>
        obtain ⟨e1, hc⟩ := f3
        rw [e1]
        exact hc.mono fun e w'' ⟨he, hw''⟩ => by subst he; exact fin w'' hw''
    | halt x w' => simp only [Oper.quietUpon] at f3
  | look k v =>
    obtain ⟨f1, f3, z, t, kd, hk, hnf, f2⟩ := hfit
    rw [hwant, f1, if_pos rfl]
    left
    obtain ⟨e, he, hbe⟩ := Array.any_eq_true'.1 f3
    simp only [Bool.and_eq_true, beq_iff_eq] at hbe
    have hlk : listed.getD k false = true := by rw [← hbe.2]; exact hall e he hbe.1
    obtain ⟨r1, r2⟩ := h.rows.row k z t hk hlk
    rw [rowNow_none fun m cs' hm => absurd hm (noFillB_spec hnf)] at r2
    unfold Oper.wp
    rw [hex]
    have f4 := f2 w h.rows.calm r2
    have fin : ∀ w', Calm w w' → ∃ X', Inv ops p a0 w0 X' (listed.setIfInBounds j true) (a.put o.dst v) w' := fun w' hw' =>
      ⟨X, by simp [h.size], hact X fun _ _ => rfl, rowsSame w' hw' (fun _ _ _ e => by cases e) (fun _ _ e => by cases e), hdown⟩
    generalize (execOp b.eval o).run P w = r at *
    cases r with
    | ok n w' =>
      cases n <;> simp only [Oper.quietUpon] at f4 <;> simp only [Oper.upon]
      case value u => obtain ⟨e1, e2⟩ := f4; rw [e1, e2]; exact fin w (Calm.refl w)
      case skip => obtain ⟨e1, e2⟩ := f4; rw [e1, ← e2]; exact fin w (Calm.refl w)
      case enter f args =>
        obtain ⟨e1, hc⟩ := f4
        rw [e1]
        exact hc.mono fun e w'' ⟨he, hw''⟩ => by subst he; exact fin w'' hw''
    | halt x w' => simp only [Oper.quietUpon] at f4
  | idle =>
    have f1 : Region.wanted o (yielded ops b.tmps) = false := hfit
    rw [hwant, f1, if_neg (by simp)]
    exact ⟨X, by simp [h.size], hact X fun _ _ => rfl, rowsSame w (Calm.refl w) (fun _ _ _ e => by cases e) (fun _ _ e => by cases e), hdown⟩
  | new z t kd =>
    obtain ⟨f1, f2⟩ := hfit
    rw [hwant, f1, if_pos rfl]
    left
    unfold Oper.wp
    rw [hex, f2 w]
    simp only [Oper.upon]
    let Y : Nat → Nat := fun i => if i = j then w.heap.size else X i
    have hYj : Y j = w.heap.size := by simp [Y]
    have hY : ∀ i, i ≠ j → Y i = X i := fun i hi => by simp [Y, hi]
    have ha := hact Y hY
    simp only [Does.out, hYj] at ha
    have hcw := h.rows.calm
    refine ⟨Y, by simp [h.size], ha, ⟨hcw.alloc _, fun i z' t' _ hi hl => ?_, fun i k z1 t1 z2 t2 _ _ hi hk hl hl' hik => ?_⟩, hdown⟩
    · rcases (getD_set_iff hjs).1 hl with hl1 | rfl
      · have hij : i ≠ j := fun e => by subst e; rw [hnl] at hl1; cases hl1
        obtain ⟨r1, r2⟩ := h.rows.row i z' t' hi hl1
        rw [hY i hij, rowNow_same fun m cs hm => by rw [hd] at hm; cases hm]
        exact ⟨r1, by rw [Below.heap_alloc _ _ _ (Array.getElem?_eq_some_iff.1 r2).1, r2]⟩
      · rw [hd] at hi; cases hi
        refine ⟨by rw [hYj]; exact hcw.size, ?_⟩
        rw [hYj, rowNow_none]
        · show (w.heap.push _)[w.heap.size]? = _
          simp
        · intro m cs hm
          cases hl2 : (listed.setIfInBounds i true).getD m false with
          | false => rfl
          | true =>
            have hlt : m < ops.size := by
              have := g3 (Nat.zero_le _) (Nat.zero_le _)
              rw [← this]; exact (List.getElem?_eq_some_iff.1 hm).1
            obtain ⟨dm, bm, hdm, _, hfm⟩ := g1 m ops[m] (Nat.zero_le _) (Array.getElem?_eq_getElem hlt)
            rw [hm] at hdm; cases hdm
            obtain ⟨_, _, haf, _⟩ := hfm
            obtain ⟨e, he, hbe⟩ := Array.any_eq_true'.1 haf
            simp only [Bool.and_eq_true, beq_iff_eq] at hbe
            have hmi : m ≠ i := fun e' => by subst e'; rw [hd] at hm; cases hm
            have hlm : listed.getD m false = true := ((getD_set_iff hjs).1 hl2).resolve_right hmi
            have := h.down m ops[m] e (Array.getElem?_eq_getElem hlt) hlm he hbe.1
            rw [hbe.2, hnl] at this
            cases this
    · have key : ∀ i z t kd, p[i]? = some (.new z t kd) → listed.getD i false = true → X i < w.heap.size := fun i z t _ hi hl => (Array.getElem?_eq_some_iff.1 (h.rows.row i z t hi hl).2).1
      rcases (getD_set_iff hjs).1 hl with hl1 | rfl
      · have hij : i ≠ j := fun e => by subst e; rw [hnl] at hl1; cases hl1
        rcases (getD_set_iff hjs).1 hl' with hl2 | rfl
        · have hkj : k ≠ j := fun e => by subst e; rw [hnl] at hl2; cases hl2
          rw [hY i hij, hY k hkj]
          exact h.rows.apart i k z1 t1 z2 t2 hi hk hl1 hl2 hik
        · rw [hY i hij, hYj]
          have := key i z1 t1 _ hi hl1
          omega
      · rcases (getD_set_iff hjs).1 hl' with hl2 | rfl
        · have hkj : k ≠ i := Ne.symm hik
          rw [hYj, hY k hkj]
          have := key k z2 t2 _ hk hl2
          omega
        · exact absurd rfl hik
  | fill k cs =>
    obtain ⟨f1, f0, f3, z, t, kd, hk, f2⟩ := hfit
    rw [hwant, f1, if_pos rfl]
    left
    obtain ⟨e, he, hbe⟩ := Array.any_eq_true'.1 f3
    simp only [Bool.and_eq_true, beq_iff_eq] at hbe
    have hlk : listed.getD k false = true := by rw [← hbe.2]; exact hall e he hbe.1
    obtain ⟨r1, r2⟩ := h.rows.row k z t hk hlk
    rw [rowNow_none fun m cs' hm => by
      cases hl2 : listed.getD m false with
      | false => rfl
      | true => rw [fillsB_spec hf hm hd] at hl2; rw [hnl] at hl2; cases hl2] at r2
    have fin : ∃ X', Inv ops p a0 w0 X' (listed.setIfInBounds j true) (a.put o.dst undef) (w.setRow (X k) cs) := by
      have hlist : ∀ i z t kd, p[i]? = some (.new z t kd) → (listed.setIfInBounds j true).getD i false = true → listed.getD i false = true := fun i z t kd hi hl => by
        rcases (getD_set_iff hjs).1 hl with hl | rfl
        · exact hl
        · rw [hd] at hi; cases hi
      refine ⟨X, by simp [h.size], hact X fun _ _ => rfl, ⟨h.rows.calm.setRow r1 cs, fun i z' t' _ hi hl => ?_, fun i k z t z' t' _ _ hi hk hl hl' hik => h.rows.apart i k z t z' t' hi hk (hlist i z t _ hi hl) (hlist k z' t' _ hk hl') hik⟩, hdown⟩
      obtain ⟨q1, q2⟩ := h.rows.row i z' t' hi (hlist i z' t' _ hi hl)
      refine ⟨q1, ?_⟩
      by_cases hik : i = k
      · subst hik
        rw [hk] at hi; cases hi
        rw [rowNow_fill hf hd (by simp [hjs]), setRow_heap w (X i) _ cs t (0, 0) r2]
      · rw [setRow_other w _ _ cs (h.rows.apart i k z' t' z t hi hk (hlist i z' t' _ hi hl) hlk hik)]
        rw [rowNow_same fun m cs' hm => by rw [hd] at hm; cases hm; exact fun e => hik e.symm]
        exact q2
    unfold Oper.wp
    rw [hex]
    rcases f2 w r2 with f2 | f2 <;> rw [f2] <;> simp only [Oper.upon] <;> exact fin
theorem all_listed (hs : Sound ops) {listed : Array Bool} (h : Region.ready .any ops listed = []) : ∀ (n i : Nat), i ≤ n → i < ops.size → listed.size = ops.size → listed.getD i false = true := by
 intro n
 induction n with
 |zero =>
  intro i hi hlt hsz
  cases hl : listed.getD i false with
  |true => rfl
  |false =>
   have : i ∈ Region.ready .any ops listed := mem_ready.2 ⟨by
    have : i < listed.size := by omega
    simpa [this] using hl, ops[i], Array.getElem?_eq_getElem hlt, fun e he hb => by
     have := hs.before i ops[i] e (Array.getElem?_eq_getElem hlt) he hb
     omega⟩
   rw [h] at this
   cases this
 |succ n ih =>
  intro i hi hlt hsz
  cases hl : listed.getD i false with
  |true => rfl
  |false =>
   have : i ∈ Region.ready .any ops listed := mem_ready.2 ⟨by
    have : i < listed.size := by omega
    simpa [this] using hl, ops[i], Array.getElem?_eq_getElem hlt, fun e he hb => by
     have := hs.before i ops[i] e (Array.getElem?_eq_getElem hlt) he hb
     exact ih e.on (by omega) (by omega) hsz⟩
   rw [h] at this
   cases this
theorem Agree.same {p : List Does} {a0 : Act} {X : Nat → Nat} {S T : Nat → Prop} {a b : Act} (hST : ∀ i, i < ops.size → (S i ∧ T i)) (hp : ops.size ≤ p.length) (ha : Agree ops p a0 X S a) (hb : Agree ops p a0 X T b) : a = b := by
 cases a with
 |mk ta da =>
 cases b with
 |mk tb db =>
 have h1 : da = db := by have := ha.defers; have := hb.defers; simp_all
 have h2 : ta = tb := by
  apply Array.ext_getElem?
  intro t
  by_cases hw : ∃ (i : Nat) (x : Oper), ops[i]? = some x ∧ x.dst = some t
  ·obtain ⟨i, x, hx, hxt⟩ := hw
   have hi : i < ops.size := (Array.getElem?_eq_some_iff.1 hx).1
   by_cases hlt : t < a0.tmps.size
   ·have e1 := ha.put i x p[i] t hx (List.getElem?_eq_getElem (by omega)) (hST i hi).1 hxt hlt
    have e2 := hb.put i x p[i] t hx (List.getElem?_eq_getElem (by omega)) (hST i hi).2 hxt hlt
    exact e1.trans e2.symm
   ·have s1 := ha.size
    have s2 := hb.size
    simp only at s1 s2
    have e1 : ta[t]? = none := Array.getElem?_eq_none (by omega)
    have e2 : tb[t]? = none := Array.getElem?_eq_none (by omega)
    rw [e1, e2]
  ·have hno : ∀ (i : Nat) (x : Oper), ops[i]? = some x → x.dst ≠ some t := fun i x hx hxt => hw ⟨i, x, hx, hxt⟩
   have e1 := ha.old t fun i x hx _ => hno i x hx
   have e2 := hb.old t fun i x hx _ => hno i x hx
   exact e1.trans e2.symm
 rw [h1, h2]
def rowEnd (p : List Does) (i : Nat) (z : Array Value) : Array Value :=
 match (List.range p.length).findSome? (fun j => match p[j]? with | some (Does.fill m cs) => if m == i then some cs else none | _ => none) with
 |some cs => cs
 |none => z
structure Behind (p : List Does) (w0 : World) (X : Nat → Nat) (w : World) : Prop where
 calm : Calm w0 w
 row : ∀ i z t {kd}, p[i]? = some (.new z t kd) → w0.heap.size ≤ X i ∧ w.heap[X i]? = some (.cells (rowEnd p i z) t (0, 0))
 apart : ∀ i j z t z' t' {kd kd'}, p[i]? = some (.new z t kd) → p[j]? = some (.new z' t' kd') → i ≠ j → X i ≠ X j
theorem rowNow_end {p : List Does} {listed : Array Bool} (h : ∀ i, i < p.length → listed.getD i false = true) (i : Nat) (z : Array Value) : rowNow p listed i z = rowEnd p i z := by
 have key : ∀ l : List Nat, (∀ j, j ∈ l → j < p.length) → l.findSome? (fun j => if listed.getD j false then (match p[j]? with | some (Does.fill m cs) => if m == i then some cs else none | _ => none) else none) = l.findSome? (fun j => match p[j]? with | some (Does.fill m cs) => if m == i then some cs else none | _ => none) := by
  intro l
  induction l with
  |nil => intro _; rfl
  |cons j l ih =>
   intro hl
   simp only [List.findSome?_cons, h j (hl j (by simp)), if_true]
   rw [ih fun k hk => hl k (by simp [hk])]
 unfold rowNow rowEnd
 rw [key _ fun j hj => List.mem_range.1 hj]
/-- A REGION THAT DRAWS ITS ORDER, BY A PLAN: one walk in the text's order serves every order. -/
theorem wp_region_plan {id : Nat} {Q : Exit → Act → World → Prop} {a0 : Act} {w0 : World} {l : List Oper} (p : List Does) (hm : P.follows .mixedOrders = true) (hB : planB l.toArray = true) (hf : fillsB p = true)
    (hp : ∀ X : Nat → Nat, Plan P l.toArray w0.drew X p (fun a => ∀ w', Behind p w0.drew X w' → Q .normal a w') 0 l p a0) : (Code.region id l.toArray true).wp P Q a0 w0 := by
  have hs := planB_sound hB
  refine wp_region_any hm (wpAny_inv (fun listed a w => ∃ X, Inv l.toArray p a0 w0.drew X listed a w) (fun listed a w j h hj => ?_) (fun listed a w h h0 => ?_) _ _ _ _ (by simp [unlisted, List.countP_replicate]) ⟨fun _ => 0, by simp, ?_, ⟨Calm.refl _, ?_, ?_⟩, ?_⟩)
  · obtain ⟨X, h⟩ := h
    exact Inv.step hs hf hp h hj
  · obtain ⟨X, h⟩ := h
    have hall := fun i (hi : i < l.toArray.size) => all_listed hs h0 i i (Nat.le_refl _) hi h.size
    obtain ⟨_, ⟨b, hb, hR⟩, g3⟩ := plan_get (X := X) hs l p 0 a0 rfl rfl ⟨rfl, rfl, fun i o d t _ _ hi => absurd hi (Nat.not_lt_zero _), fun t _ => rfl⟩ (hp X)
    have hlen := g3 (Nat.zero_le _) (Nat.zero_le _)
    obtain rfl := Agree.same (fun i hi => ⟨hall i hi, hi⟩) (by omega) h.act hb
    refine hR w ⟨h.rows.calm, fun i z t _ hi => ?_, fun i j z t z' t' _ _ hi hj hij => ?_⟩
    · have hlt : i < l.toArray.size := by rw [← hlen]; exact (List.getElem?_eq_some_iff.1 hi).1
      have := h.rows.row i z t hi (hall i hlt)
      rw [rowNow_end (fun k hk => hall k (by omega))] at this
      exact this
    · have hlt : i < l.toArray.size := by rw [← hlen]; exact (List.getElem?_eq_some_iff.1 hi).1
      have hlt' : j < l.toArray.size := by rw [← hlen]; exact (List.getElem?_eq_some_iff.1 hj).1
      exact h.rows.apart i j z t z' t' hi hj (hall i hlt) (hall j hlt') hij
  · refine ⟨rfl, rfl, fun i o d t _ _ hi => ?_, fun _ _ => rfl⟩
    simp [Array.getElem?_replicate] at hi
    split at hi <;> simp at hi
  · intro i z t _ _ hi
    simp [Array.getElem?_replicate] at hi
    split at hi <;> simp at hi
  · intro i j z t z' t' _ _ _ _ hi
    simp [Array.getElem?_replicate] at hi
    split at hi <;> simp at hi
  · intro i o e _ hi
    simp [Array.getElem?_replicate] at hi
    split at hi <;> simp at hi
def headListed (m n : Nat) : Array Bool := Array.ofFn fun i : Fin m => decide (i.1 < n)
def guardsB (ops : Array Oper) (n : Nat) : Bool :=
 (List.range n).all fun j => match ops[j]? with
  |some o => (match o.guard with | some (g, _) => decide (g < n) | none => true)
  |none => true
def tailB (ops : Array Oper) (n : Nat) : Bool :=
 decide (n < ops.size) && Region.sinkB .any ops n && Region.chainB .any ops n && guardsB ops n && Region.seqB .any ops (ops.size - n) n (headListed ops.size n) && unlisted (headListed ops.size n) == ops.size - n
theorem Inv.done {p : List Does} {a0 : Act} {w0 : World} {R : Act → Prop} (hs : Sound ops) {X : Nat → Nat} (hp : Plan P ops w0 X p R 0 ops.toList p a0) {listed : Array Bool} {a : Act} {w : World} (h : Inv ops p a0 w0 X listed a w)
    (hall : ∀ i, i < ops.size → listed.getD i false = true) : R a ∧ Behind p w0 X w := by
  obtain ⟨_, ⟨b, hb, hR⟩, g3⟩ := plan_get (X := X) hs ops.toList p 0 a0 rfl rfl ⟨rfl, rfl, fun i o d t _ _ hi => absurd hi (Nat.not_lt_zero _), fun t _ => rfl⟩ hp
  have hlen := g3 (Nat.zero_le _) (Nat.zero_le _)
  obtain rfl := Agree.same (fun i hi => ⟨hall i hi, hi⟩) (by omega) h.act hb
  refine ⟨hR, h.rows.calm, fun i z t _ hi => ?_, fun i j z t z' t' _ _ hi hj hij => ?_⟩
  · have hlt : i < ops.size := by rw [← hlen]; exact (List.getElem?_eq_some_iff.1 hi).1
    have := h.rows.row i z t hi (hall i hlt)
    rw [rowNow_end (fun k hk => hall k (by omega))] at this
    exact this
  · have hlt : i < ops.size := by rw [← hlen]; exact (List.getElem?_eq_some_iff.1 hi).1
    have hlt' : j < ops.size := by rw [← hlen]; exact (List.getElem?_eq_some_iff.1 hj).1
    exact h.rows.apart i j z t z' t' hi hj (hall i hlt) (hall j hlt') hij
section
variable {l : List Oper} {n : Nat}
theorem pre_get (_hn : n < l.length) {j : Nat} (hj : j < n) : (l.take n).toArray[j]? = l.toArray[j]? := by simp [hj]
theorem getD_pre {listed : Array Bool} (hs : n ≤ listed.size) {j : Nat} (hj : j < n) (d : Bool) : (listed.extract 0 n).getD j d = listed.getD j d := by
 rw [Array.getD_eq_getD_getElem?, Array.getD_eq_getD_getElem?, Array.getElem?_extract]
 rw [if_pos (by omega)]
 simp
theorem wanted_pre (hn : n < l.length) (hg : guardsB l.toArray n = true) {j : Nat} {o : Oper} (hj : j < n) (ho : l.toArray[j]? = some o) (tmps : Array Value) : Region.wanted o (yielded (l.take n).toArray tmps) = Region.wanted o (yielded l.toArray tmps) := by
 unfold Region.wanted
 cases hgd : o.guard with
 |none => rfl
 |some gw =>
  obtain ⟨g, want⟩ := gw
  have h1 := List.all_eq_true.1 hg j (List.mem_range.2 hj)
  rw [ho] at h1
  simp only [hgd, decide_eq_true_eq] at h1
  have : yielded (l.take n).toArray tmps g = yielded l.toArray tmps g := by
   unfold yielded
   rw [pre_get hn h1]
  simp only [this]
theorem wpOp_pre {Q : Exit → Act → World → Prop} (hn : n < l.length) (hg : guardsB l.toArray n = true) {j : Nat} (hj : j < n) {K : Act → World → Prop} {a : Act} {w : World} (h : wpOp P (l.take n).toArray Q j K a w) : wpOp P l.toArray Q j K a w := by
 unfold wpOp at h ⊢
 rw [pre_get hn hj] at h
 cases ho : l.toArray[j]? with
 |none => rw [ho] at h; exact h
 |some o =>
  rw [ho] at h
  simp only at h ⊢
  rw [wanted_pre hn hg hj ho] at h
  exact h
theorem ready_pre (hn : n < l.length) {listed : Array Bool} (hsz : listed.size = l.toArray.size) {j : Nat} (hj : j < n) (hs : Sound (l.take n).toArray) : j ∈ Region.ready .any l.toArray listed ↔ j ∈ Region.ready .any (l.take n).toArray (listed.extract 0 n) := by
 have hle : n ≤ listed.size := by rw [hsz]; simp; omega
 rw [mem_ready, mem_ready, getD_pre hle hj, pre_get hn hj]
 constructor
 ·rintro ⟨h1, o, ho, h2⟩
  refine ⟨h1, o, ho, fun e he hb => ?_⟩
  have := hs.before j o e (by rw [pre_get hn hj]; exact ho) he hb
  rw [getD_pre hle (by omega)]
  exact h2 e he hb
 ·rintro ⟨h1, o, ho, h2⟩
  refine ⟨h1, o, ho, fun e he hb => ?_⟩
  have := hs.before j o e (by rw [pre_get hn hj]; exact ho) he hb
  rw [← getD_pre hle (by omega)]
  exact h2 e he hb
theorem wpAny_tail {Q : Exit → Act → World → Prop} {p : List Does} {a0 : Act} {w0 : World} (hs : Sound (l.take n).toArray) (hf : fillsB p = true) (hT : tailB l.toArray n = true)
    (hp : ∀ X : Nat → Nat, Plan P (l.take n).toArray w0 X p (fun a => ∀ w', Behind p w0 X w' → wpList P l.toArray Q (l.drop n) a w') 0 (l.take n) p a0) :
    ∀ (fuel : Nat) (listed : Array Bool) (a : Act) (w : World), unlisted listed = fuel → HeadInv .any l.toArray n listed → (∃ X, Inv (l.take n).toArray p a0 w0 X (listed.extract 0 n) a w) → wpAny P .any l.toArray Q fuel listed a w := by
  simp only [tailB, Bool.and_eq_true, decide_eq_true_eq, beq_iff_eq] at hT
  obtain ⟨⟨⟨⟨⟨hn0, hsink⟩, hchain⟩, hg⟩, hseq⟩, hcount⟩ := hT
  have hn : n < l.length := by simpa using hn0
  have hpre : (l.take n).toArray.size = n := by simp; omega
  intro fuel
  induction fuel with
  | zero =>
    intro listed a w hu hh hinv
    have hle : n ≤ listed.size := by rw [hh.size]; exact Nat.le_of_lt hn0
    have h1 := hh.tail n (Nat.le_refl _) hn0
    have := unlisted_set h1
    omega
  | succ f ih =>
    intro listed a w hu hh hinv
    have hle : n ≤ listed.size := by rw [hh.size]; exact Nat.le_of_lt hn0
    by_cases hA : ∃ i, i < n ∧ listed.getD i true = false
    · obtain ⟨i, hin, hui⟩ := hA
      obtain ⟨X, hinv⟩ := hinv
      refine ⟨fun h0 => ?_, fun j hj => ?_⟩
      · exfalso
        have h1 : Region.ready .any (l.take n).toArray (listed.extract 0 n) = [] := by
          cases hr : Region.ready .any (l.take n).toArray (listed.extract 0 n) with
          | nil => rfl
          | cons k r =>
            have hk : k ∈ Region.ready .any (l.take n).toArray (listed.extract 0 n) := by rw [hr]; simp
            obtain ⟨_, o, ho, _⟩ := mem_ready.1 hk
            have hkn : k < n := by have := (Array.getElem?_eq_some_iff.1 ho).1; omega
            have h2 := (ready_pre hn hh.size hkn hs).2 hk
            rw [h0] at h2; cases h2
        have h2 := all_listed hs h1 i i (Nat.le_refl _) (by omega) hinv.size
        rw [getD_pre hle hin, getD_both hui] at h2
        cases h2
      · have hjn : j < n := by
          rcases Nat.lt_or_ge j n with h | h
          · exact h
          · exact absurd hj (tail_waits hsink hchain hn0 hh (n - i) i rfl hin hui j h)
        have hjr := (ready_pre hn hh.size hjn hs).1 hj
        have hst := Inv.step (R := fun X a => ∀ w', Behind p w0 X w' → wpList P l.toArray Q (l.drop n) a w') (Q := Q) hs hf (by simpa using hp) hinv hjr
        refine wpOp_mono (fun a' w' hX => ih _ a' w' ?_ (hh.set hj hjn) ?_) (wpOp_pre hn hg hjn hst)
        · have := unlisted_set (mem_ready.1 hj).1
          omega
        · obtain ⟨X', hX⟩ := hX
          refine ⟨X', ?_⟩
          have he : (listed.setIfInBounds j true).extract 0 n = (listed.extract 0 n).setIfInBounds j true := by
            apply Array.ext_getElem?
            intro k
            simp only [Array.getElem?_extract, Array.getElem?_setIfInBounds, Array.size_setIfInBounds, Array.size_extract]
            by_cases hkj : j = k
            · subst hkj
              have : j < listed.size := by omega
              simp [this]
            · simp [hkj]
          rw [he]; exact hX
    · have hall : ∀ i, i < n → listed.getD i true = true := fun i hi => by
        cases h : listed.getD i true with
        | true => rfl
        | false => exact absurd ⟨i, hi, h⟩ hA
      have hallF : ∀ i, i < n → listed.getD i false = true := fun i hi => by
        have h1 := hall i hi
        have hlt : i < listed.size := by omega
        simp [hlt] at h1 ⊢; exact h1
      have hL : listed = headListed l.toArray.size n := by
        apply Array.ext_getElem?
        intro k
        unfold headListed
        rw [Array.getElem?_ofFn]
        rcases Nat.lt_or_ge k l.toArray.size with hk | hk
        · have hk2 : k < listed.size := by rw [hh.size]; exact hk
          rw [dif_pos hk]
          rcases Nat.lt_or_ge k n with hkn | hkn
          · have := hall k hkn
            simp [hk2] at this
            simp [hk2, hkn, this]
          · have := hh.tail k hkn hk
            simp [hk2] at this
            simp [hk2, this]; omega
        · rw [dif_neg (by omega), Array.getElem?_eq_none (by rw [hh.size]; exact hk)]
      obtain ⟨X, hinv⟩ := hinv
      have hd := Inv.done hs (hp := by simpa using hp X) hinv (fun i hi => by rw [hpre] at hi; rw [getD_pre hle hi]; exact hallF i hi)
      have hfl : f + 1 = (l.drop n).length := by
        rw [hL, hcount] at hu
        simp at hu ⊢; omega
      rw [hfl]
      refine wpAny_of_seq (l.drop n) n listed a w (fun j => by simp [List.getElem?_drop]) ?_ (hd.1 w hd.2)
      have : (l.drop n).length = l.toArray.size - n := by simp
      rw [this, hL]
      exact hseq
/-- A REGION THAT DRAWS ITS ORDER, BY A PLAN, and behind it operations in one forced order (a writing call, the assignments). -/
theorem wp_region_plan_tail {id : Nat} {Q : Exit → Act → World → Prop} {a0 : Act} {w0 : World} (n : Nat) (p : List Does) (hm : P.follows .mixedOrders = true) (hB : planB (l.take n).toArray = true) (hf : fillsB p = true) (hT : tailB l.toArray n = true)
    (hp : ∀ X : Nat → Nat, Plan P (l.take n).toArray w0.drew X p (fun a => ∀ w', Behind p w0.drew X w' → wpList P l.toArray Q (l.drop n) a w') 0 (l.take n) p a0) : (Code.region id l.toArray true).wp P Q a0 w0 := by
  have hn0 : n < l.toArray.size := by simp only [tailB, Bool.and_eq_true, decide_eq_true_eq] at hT; exact hT.1.1.1.1.1
  have hn : n < l.length := by simpa using hn0
  refine wp_region_any hm (wpAny_tail (planB_sound hB) hf hT hp _ _ _ _ ?_ ?_ ⟨fun _ => 0, ?_, ?_, ⟨Calm.refl _, ?_, ?_⟩, ?_⟩)
  · simp [unlisted, List.countP_replicate]
  · exact ⟨by simp, fun j oj _ hl => (by rw [getD_replicate_false] at hl; cases hl), fun t _ ht => getD_in (by simpa using ht) (getD_replicate_false _ _)⟩
  · simp
  · refine ⟨rfl, rfl, fun i o d t ho _ hi => ?_, fun _ _ => rfl⟩
    have hi2 : i < n := by have := (Array.getElem?_eq_some_iff.1 ho).1; simp at this; omega
    rw [getD_pre (by simp; omega) hi2, getD_replicate_false] at hi
    cases hi
  · intro i z t _ hp2 hi
    have hi2 : i < n ∨ n ≤ i := Nat.lt_or_ge i n
    rcases hi2 with hi2 | hi2
    · rw [getD_pre (by simp; omega) hi2, getD_replicate_false] at hi; cases hi
    · rw [Array.getD_eq_getD_getElem?, Array.getElem?_extract, if_neg (by simp; omega)] at hi; cases hi
  · intro i j z t z' t' _ _ _ _ hi
    have hi2 : i < n ∨ n ≤ i := Nat.lt_or_ge i n
    rcases hi2 with hi2 | hi2
    · rw [getD_pre (by simp; omega) hi2, getD_replicate_false] at hi; cases hi
    · rw [Array.getD_eq_getD_getElem?, Array.getElem?_extract, if_neg (by simp; omega)] at hi; cases hi
  · intro i o e ho hi
    have hi2 : i < n := by have := (Array.getElem?_eq_some_iff.1 ho).1; simp at this; omega
    rw [getD_pre (by simp; omega) hi2, getD_replicate_false] at hi
    cases hi
end
section
variable {w0 : World} {X : Nat → Nat} {p : List Does} {R : Act → Prop}
theorem plan_val {i : Nat} {o : Oper} {os : List Oper} {ds : List Does} {a : Act} {v : Value} (h1 : Region.wanted o (yielded ops a.tmps) = true) (h2 : ∀ w, Calm w0 w → Oper.quietUpon P (Calm w) w v ((execOp a.eval o).run P w))
    (h3 : Plan P ops w0 X p R (i + 1) os ds (a.put o.dst v)) : Plan P ops w0 X p R i (o :: os) (.val v :: ds) a := ⟨⟨h1, h2⟩, h3⟩
theorem plan_idle {i : Nat} {o : Oper} {os : List Oper} {ds : List Does} {a : Act} (h1 : Region.wanted o (yielded ops a.tmps) = false)
    (h3 : Plan P ops w0 X p R (i + 1) os ds (a.put o.dst undef)) : Plan P ops w0 X p R i (o :: os) (.idle :: ds) a := ⟨h1, h3⟩
theorem plan_new {i : Nat} {o : Oper} {os : List Oper} {ds : List Does} {a : Act} {z : Array Value} {t : TypeId} (h1 : Region.wanted o (yielded ops a.tmps) = true)
    (h2 : ∀ w, (execOp a.eval o).run P w = .ok (.value (.pointer (some ⟨w.heap.size, 0, none⟩))) (w.alloc (.cells z t)))
    (h3 : Plan P ops w0 X p R (i + 1) os ds (a.put o.dst (.pointer (some ⟨X i, 0, none⟩)))) : Plan P ops w0 X p R i (o :: os) (.new z t :: ds) a := ⟨⟨h1, h2⟩, h3⟩
/-- A slice literal of records. -/
theorem plan_lit {i : Nat} {o : Oper} {os : List Oper} {ds : List Does} {a : Act} {z : Array Value} {t : TypeId} {n : Nat} (h1 : Region.wanted o (yielded ops a.tmps) = true)
    (h2 : ∀ w, (execOp a.eval o).run P w = .ok (.value (.slice (some ⟨w.heap.size, 0, none⟩) n n)) (w.alloc (.cells z t)))
    (h3 : Plan P ops w0 X p R (i + 1) os ds (a.put o.dst (.slice (some ⟨X i, 0, none⟩) n n))) : Plan P ops w0 X p R i (o :: os) (.new z t (some n) :: ds) a := ⟨⟨h1, h2⟩, h3⟩
theorem plan_fill {i : Nat} {o : Oper} {os : List Oper} {ds : List Does} {a : Act} {k : Nat} {cs z : Array Value} {t : TypeId} (h1 : Region.wanted o (yielded ops a.tmps) = true) (hd : o.dst = none)
    (ha : o.after.any (fun e => Region.binds .any e && e.on == k) = true) (hk : p[k]? = some (.new z t))
    (h2 : ∀ w, w.heap[X k]? = some (.cells z t (0, 0)) → (execOp a.eval o).run P w = .ok .skip (w.setRow (X k) cs) ∨ (execOp a.eval o).run P w = .ok (.value undef) (w.setRow (X k) cs))
    (h3 : Plan P ops w0 X p R (i + 1) os ds (a.put o.dst undef)) : Plan P ops w0 X p R i (o :: os) (.fill k cs :: ds) a := ⟨⟨h1, hd, ha, z, t, none, hk, h2⟩, h3⟩
/-- The first store of a whole struct or array. -/
theorem plan_fill_row {i : Nat} {o : Oper} {os : List Oper} {ds : List Does} {a : Act} {k : Nat} {cs z : Array Value} {t ty : TypeId} {x y : Operand} (ho : o.op = .store ty x y) (hg : o.guard = none) (hd : o.dst = none)
    (ha : o.after.any (fun e => Region.binds .any e && e.on == k) = true) (hk : p[k]? = some (.new z t)) (hx : a.eval x = .pointer (some ⟨X k, 0, none⟩)) (hy : a.eval y = .agg cs)
    (hi : (P.info? ty).map (·.size) = some cs.size) (hz : z.size = cs.size) (h1 : cs.all (·.oneCell') = true)
    (h3 : Plan P ops w0 X p R (i + 1) os ds (a.put o.dst undef)) : Plan P ops w0 X p R i (o :: os) (.fill k cs :: ds) a := by
  refine plan_fill (by simp [Region.wanted, hg]) hd ha hk (fun w hw => Or.inl ?_) h3
  unfold execOp
  simp only [ho, hx, hy, Instr.storeAt, Instr.sureAddr, Sem.run_bind, Sem.run_pure, Result.andThen_ok, run_storeVar_row w (X k) t ty z cs hw hi hz h1]
theorem plan_end {i : Nat} {a : Act} (h : R a) : Plan P ops w0 X p R i [] [] a := h
end
/-- A contract of a function that leaves the world alone, met in a region that only reads. -/
theorem quiet_same {f : FuncId} {args : Array Value} {w b : World} {v : Value} (h : Calls P f args w fun e w' => e = .returned v ∧ w = w') (hw : ∃ m, w = b.drewN m) :
    Calls P f args w fun e w' => e = .returned v ∧ ∃ m, w' = b.drewN m := h.mono fun _ _ ⟨h1, h2⟩ => ⟨h1, h2 ▸ hw⟩
end
open Go.RowKit
section
variable {P : Program} {ops : Array Oper}
inductive Doing where
 |val (v : Value) (bef : List Nat := [])
 |idle
 |late (aft : List Nat := [])
def Doing.out (Y : Nat → Value) (i : Nat) : Doing → Value
 | .val v _ => v
 | .idle => undef
 | .late _ => Y i
def updV (Y : Nat → Value) (i : Nat) (y : Value) : Nat → Value := fun j => if j = i then y else Y j
def updB (L : Nat → Bool) (i : Nat) : Nat → Bool := fun j => if j = i then true else L j
abbrev Stages := List Bool → (Nat → Value) → World → Prop
def Doing.fits (P : Program) (ops : Array Oper) (late : List Nat) (St : Stages) (Y : Nat → Value) (i : Nat) (o : Oper) (a : Act) : Doing → Prop
  | .val v bef => Region.wanted o (yielded ops a.tmps) = true ∧ ∀ (L : Nat → Bool) (w : World), (∀ j ∈ bef, L j = false) → St (late.map L) Y w → Oper.quietUpon P (Calm w) w v ((execOp a.eval o).run P w)
  | .idle => Region.wanted o (yielded ops a.tmps) = false
  | .late aft => ∀ (L : Nat → Bool) (w : World), L i = false → (∀ j ∈ aft, L j = true) → St (late.map L) Y w →
      wpList P ops (fun x a' w' => x = .normal ∧ ∃ y, a' = a.put o.dst y ∧ St (late.map (updB L i)) (updV Y i y) w') [o] a w
def PlanS (P : Program) (ops : Array Oper) (late : List Nat) (St : Stages) (Y : Nat → Value) (R : Act → Prop) : Nat → List Oper → List Doing → Act → Prop
 |_, [], [], a => R a
 |i, o :: os, d :: ds, a => d.fits P ops late St Y i o a ∧ PlanS P ops late St Y R (i + 1) os ds (a.put o.dst (d.out Y i))
 |_, _, _, _ => False
def stagesB (ops : Array Oper) (late : List Nat) (p : List Doing) : Bool :=
  late.all (fun i => decide (i < p.length)) && (List.range p.length).all fun i => match p[i]? with
    | none => true
    | some (.val _ bef) => !late.contains i && bef.all fun j => match ops[j]? with
        | none => false
        | some x => x.after.any fun e => Region.binds .any e && e.on == i
    | some .idle => !late.contains i
    | some (.late aft) => late.contains i && aft.all fun j => match ops[i]? with
        | none => false
        | some x => x.after.any fun e => Region.binds .any e && e.on == j
structure AgreeV (ops : Array Oper) (val : Nat → Value) (a0 : Act) (S : Nat → Prop) (a : Act) : Prop where
 defers : a.defers = a0.defers
 size : a.tmps.size = a0.tmps.size
 put : ∀ i o t, ops[i]? = some o → S i → o.dst = some t → t < a0.tmps.size → a.tmps[t]? = some (val i)
 old : ∀ t, (∀ i o, ops[i]? = some o → S i → o.dst ≠ some t) → a.tmps[t]? = a0.tmps[t]?
theorem AgreeV.step {val val' : Nat → Value} {a0 : Act} {S T : Nat → Prop} {a : Act} (hs : Sound ops) (h : AgreeV ops val a0 S a) {j : Nat} {o : Oper} (ho : ops[j]? = some o)
    (hT : ∀ i, T i ↔ (S i ∨ i = j)) (hv : ∀ i, S i → i ≠ j → val' i = val i) (hj : ¬ S j) {v : Value} (hvj : ∀ t, o.dst = some t → t < a0.tmps.size → val' j = v) : AgreeV ops val' a0 T (a.put o.dst v) := by
  refine ⟨by rw [put_def, h.defers], by rw [put_size, h.size], fun i oi t hoi hi ht hlt => ?_, fun t ht => ?_⟩
  · rw [put_get]
    rcases (hT i).1 hi with hi | rfl
    · have hij : i ≠ j := fun e => by subst e; exact hj hi
      by_cases hc : o.dst = some t ∧ t < a.tmps.size
      · obtain rfl := hs.apart j i o oi t ho hoi ht hc.1
        exact absurd rfl hij
      · rw [if_neg hc, hv i hi hij]
        exact h.put i oi t hoi hi ht hlt
    · rw [ho] at hoi; cases hoi
      rw [if_pos ⟨ht, by rw [h.size]; exact hlt⟩, hvj t ht hlt]
  · rw [put_get, if_neg (fun hc => ht j o ho ((hT j).2 (Or.inr rfl)) hc.1)]
    exact h.old t fun i oi hoi hi => ht i oi hoi ((hT i).2 (Or.inl hi))
theorem AgreeV.same {val : Nat → Value} {a0 : Act} {S T : Nat → Prop} {a b : Act} (hST : ∀ i, i < ops.size → (S i ∧ T i)) (ha : AgreeV ops val a0 S a) (hb : AgreeV ops val a0 T b) : a = b := by
 obtain ⟨at_, ad⟩ := a
 obtain ⟨bt, bd⟩ := b
 have h1 : ad = bd := ha.defers.trans hb.defers.symm
 subst h1
 congr 1
 apply Array.ext_getElem?
 intro t
 by_cases hw : ∃ (i : Nat) (x : Oper), ops[i]? = some x ∧ x.dst = some t
 ·obtain ⟨i, x, hx, hxt⟩ := hw
  have hi : i < ops.size := (Array.getElem?_eq_some_iff.1 hx).1
  by_cases hlt : t < a0.tmps.size
  ·exact (ha.put i x t hx (hST i hi).1 hxt hlt).trans (hb.put i x t hx (hST i hi).2 hxt hlt).symm
  ·rw [Array.getElem?_eq_none (by have := ha.size; simp only at this; omega), Array.getElem?_eq_none (by have := hb.size; simp only at this; omega)]
 ·have hno : ∀ (i : Nat) (x : Oper), ops[i]? = some x → x.dst ≠ some t := fun i x hx hxt => hw ⟨i, x, hx, hxt⟩
  exact (ha.old t fun i x hx _ => hno i x hx).trans (hb.old t fun i x hx _ => hno i x hx).symm
def valsOf (p : List Doing) (Y : Nat → Value) (i : Nat) : Value := match p[i]? with | some d => d.out Y i | none => undef
theorem planS_get {late : List Nat} {St : Stages} {Y : Nat → Value} {p : List Doing} {a0 : Act} {R : Act → Prop} (hs : Sound ops) : ∀ (os : List Oper) (ds : List Doing) (i : Nat) (a : Act), os = ops.toList.drop i → ds = p.drop i →
    AgreeV ops (valsOf p Y) a0 (· < i) a → PlanS P ops late St Y R i os ds a →
    (∀ j o, i ≤ j → ops[j]? = some o → ∃ d b, p[j]? = some d ∧ AgreeV ops (valsOf p Y) a0 (· < j) b ∧ d.fits P ops late St Y j o b) ∧ (∃ b, AgreeV ops (valsOf p Y) a0 (· < ops.size) b ∧ R b) ∧ (i ≤ ops.size → i ≤ p.length → p.length = ops.size)
  | [], [], i, a, hos, hds, ha, h => by
    have hl : ops.size ≤ i := by have := congrArg List.length hos; simp at this; omega
    refine ⟨fun j o hj hoj => ?_, ⟨a, ⟨ha.defers, ha.size, fun k o t ho hk ht hlt => ha.put k o t ho (by omega) ht hlt, fun t ht => ha.old t fun k o ho hk => ht k o ho ?_⟩, h⟩, fun hi hi2 => ?_⟩
    · have := (Array.getElem?_eq_some_iff.1 hoj).1; omega
    · exact (Array.getElem?_eq_some_iff.1 ho).1
    · have := congrArg List.length hds; simp at this; omega
  | [], d :: ds, i, a, _, _, _, h => absurd h (by simp [PlanS])
  | o :: os, [], i, a, _, _, _, h => absurd h (by simp [PlanS])
  | o :: os, d :: ds, i, a, hos, hds, ha, h => by
    have hlen : i < ops.size := by have := congrArg List.length hos; simp at this; omega
    have ho : ops[i]? = some o := by
      have := congrArg (·[0]?) hos
      simpa using this.symm
    have hd : p[i]? = some d := by
      have := congrArg (·[0]?) hds
      simpa using this.symm
    have hos' : os = ops.toList.drop (i + 1) := by rw [← List.tail_drop, ← hos]; rfl
    have hds' : ds = p.drop (i + 1) := by rw [← List.tail_drop, ← hds]; rfl
    obtain ⟨h1, h2⟩ := h
    have hplen : i < p.length := by have := congrArg List.length hds; simp at this; omega
    have hval : valsOf p Y i = d.out Y i := by unfold valsOf; rw [hd]
    obtain ⟨g1, g2, g3⟩ := planS_get hs os ds (i + 1) (a.put o.dst (d.out Y i)) hos' hds' (ha.step hs ho (fun k => by omega) (fun _ _ _ => rfl) (by omega) (fun _ _ _ => hval)) h2
    refine ⟨fun j oj hj hoj => ?_, g2, fun _ _ => g3 (by omega) (by omega)⟩
    rcases Nat.eq_or_lt_of_le hj with rfl | hj
    · rw [ho] at hoj; cases hoj
      exact ⟨d, a, hd, ha, h1⟩
    · exact g1 j oj hj hoj
structure InvS (ops : Array Oper) (late : List Nat) (St : Stages) (p : List Doing) (a0 : Act) (Y : Nat → Value) (listed : Array Bool) (a : Act) (w : World) : Prop where
 size : listed.size = ops.size
 act : AgreeV ops (valsOf p Y) a0 (fun i => listed.getD i false = true) a
 st : St (late.map fun i => listed.getD i false) Y w
 down : ∀ i o e, ops[i]? = some o → listed.getD i false = true → e ∈ o.after → Region.binds .any e = true → listed.getD e.on false = true
theorem map_early {late : List Nat} {L M : Nat → Bool} {i : Nat} (hi : late.contains i = false) (h : ∀ j, j ≠ i → M j = L j) : late.map M = late.map L := by
 apply List.map_congr_left
 intro j hj
 refine h j fun e => ?_
 subst e
 rw [List.contains_iff_mem.2 hj] at hi
 cases hi
theorem InvS.step {late : List Nat} {St : Stages} {p : List Doing} {a0 : Act} {R : (Nat → Value) → Act → Prop} {Q : Exit → Act → World → Prop} (hs : Sound ops) (hB : stagesB ops late p = true)
    (hC : ∀ bs Y w w', St bs Y w → Calm w w' → St bs Y w') (hp : ∀ Y, PlanS P ops late St Y (R Y) 0 ops.toList p a0) {Y : Nat → Value} {listed : Array Bool} {a : Act} {w : World} {j : Nat}
    (h : InvS ops late St p a0 Y listed a w) (hj : j ∈ Region.ready .any ops listed) :
    wpOp P ops Q j (fun a' w' => ∃ Y', InvS ops late St p a0 Y' (listed.setIfInBounds j true) a' w') a w := by
  obtain ⟨hun, o, ho, hall⟩ := mem_ready.1 hj
  have hjs : j < listed.size := by rw [h.size]; exact (Array.getElem?_eq_some_iff.1 ho).1
  have hnl : listed.getD j false = false := by
    rw [Array.getD_eq_getD_getElem?] at hun ⊢
    rw [Array.getElem?_eq_getElem hjs] at hun ⊢
    simpa using hun
  obtain ⟨g1, _, g3⟩ := planS_get (Y := Y) hs ops.toList p 0 a0 rfl rfl ⟨rfl, rfl, fun i o t _ hi => absurd hi (Nat.not_lt_zero _), fun t _ => rfl⟩ (hp Y)
  obtain ⟨d, b, hd, hb, hfit⟩ := g1 j o (Nat.zero_le _) ho
  have hlook : ∀ t ∈ o.looksAt ops, a.tmps[t]? = b.tmps[t]? := fun t ht => by
    by_cases hw : ∃ (i : Nat) (x : Oper), ops[i]? = some x ∧ x.dst = some t
    · obtain ⟨i, x, hx, hxt⟩ := hw
      obtain ⟨hij, e, he, hbe, rfl⟩ := hs.looks j i o x t ho hx hxt ht
      have hli := hall e he hbe
      by_cases hlt : t < a0.tmps.size
      · rw [h.act.put e.on x t hx hli hxt hlt, hb.put e.on x t hx hij hxt hlt]
      · have e1 : a.tmps[t]? = none := Array.getElem?_eq_none (by rw [h.act.size]; exact Nat.le_of_not_lt hlt)
        have e2 : b.tmps[t]? = none := Array.getElem?_eq_none (by rw [hb.size]; exact Nat.le_of_not_lt hlt)
        rw [e1, e2]
    · have hno : ∀ (i : Nat) (x : Oper), ops[i]? = some x → x.dst ≠ some t := fun i x hx hxt => hw ⟨i, x, hx, hxt⟩
      rw [h.act.old t fun i x hx _ => hno i x hx, hb.old t fun i x hx _ => hno i x hx]
  obtain ⟨hex, hwant⟩ := same_look (hs.noSelect j o · · ho) hlook
  have hdown : ∀ i o' e, ops[i]? = some o' → (listed.setIfInBounds j true).getD i false = true → e ∈ o'.after → Region.binds .any e = true → (listed.setIfInBounds j true).getD e.on false = true := fun i o' e ho' hi he hbe => by
    rcases (getD_set_iff hjs).1 hi with hi | rfl
    · exact getD_set_true (h.down i o' e ho' hi he hbe)
    · rw [ho] at ho'; cases ho'
      exact getD_set_true (hall e he hbe)
  have hpB := List.all_eq_true.1 (Bool.and_eq_true_iff.1 hB).2 j (List.mem_range.2 (List.getElem?_eq_some_iff.1 hd).1)
  rw [hd] at hpB
  have hmapE : late.contains j = false → (late.map fun i => (listed.setIfInBounds j true).getD i false) = late.map fun i => listed.getD i false := fun hl =>
    map_early hl fun i hi => getD_set_ne false (Ne.symm hi)
  have hmapL : (late.map fun i => (listed.setIfInBounds j true).getD i false) = late.map (updB (fun i => listed.getD i false) j) := by
    apply List.map_congr_left
    intro i _
    unfold updB
    by_cases hij : i = j
    · subst hij; rw [if_pos rfl]; exact (getD_set_iff hjs).2 (Or.inr rfl)
    · rw [if_neg hij]; exact getD_set_ne false (Ne.symm hij)
  have hvalj : valsOf p Y j = d.out Y j := by unfold valsOf; rw [hd]
  have hnS : ¬ (listed.getD j false = true) := by rw [hnl]; simp
  unfold wpOp
  simp only [ho]
  cases d with
  | val v bef =>
    simp only [Bool.and_eq_true, Bool.not_eq_true'] at hpB
    obtain ⟨f1, f2⟩ := hfit
    rw [hwant, f1, if_pos rfl]
    left
    unfold Oper.wp
    rw [hex]
    have hbef : ∀ k ∈ bef, listed.getD k false = false := fun k hk => by
      have h1 := List.all_eq_true.1 hpB.2 k hk
      cases hok : ops[k]? with
      | none => rw [hok] at h1; cases h1
      | some x =>
        rw [hok] at h1
        obtain ⟨e, he, h2⟩ := Array.any_eq_true'.1 h1
        simp only [Bool.and_eq_true, beq_iff_eq] at h2
        cases hlk : listed.getD k false with
        | false => rfl
        | true =>
          have := h.down k x e hok hlk he h2.1
          rw [h2.2, hnl] at this
          cases this
    have f3 := f2 (fun i => listed.getD i false) w hbef h.st
    have fin : ∀ w', Calm w w' → ∃ Y', InvS ops late St p a0 Y' (listed.setIfInBounds j true) (a.put o.dst v) w' := fun w' hw' =>
      ⟨Y, by simp [h.size], h.act.step hs ho (fun i => getD_set_iff hjs) (fun _ _ _ => rfl) hnS (fun _ _ _ => hvalj), by rw [hmapE hpB.1]; exact hC _ _ _ _ h.st hw', hdown⟩
    generalize (execOp b.eval o).run P w = r at *
    cases r with
    | ok n w' =>
      cases n <;> simp only [Oper.quietUpon] at f3 <;> simp only [Oper.upon]
      case value u => obtain ⟨e1, e2⟩ := f3; rw [e1, e2]; exact fin w (Calm.refl w)
      case skip => obtain ⟨e1, e2⟩ := f3; rw [e1, ← e2]; exact fin w (Calm.refl w)
      case enter f args =>
        obtain ⟨e1, hc⟩ := f3
        rw [e1]
        exact hc.mono fun e w'' ⟨he, hw''⟩ => by subst he; exact fin w'' hw''
    | halt x w' => simp only [Oper.quietUpon] at f3
  | idle =>
    simp only [Bool.not_eq_true'] at hpB
    have f1 : Region.wanted o (yielded ops b.tmps) = false := hfit
    rw [hwant, f1, if_neg (by simp)]
    exact ⟨Y, by simp [h.size], h.act.step hs ho (fun i => getD_set_iff hjs) (fun _ _ _ => rfl) hnS (fun _ _ _ => hvalj), by rw [hmapE hpB]; exact h.st, hdown⟩
  | late aft =>
    simp only [Bool.and_eq_true] at hpB
    have haft : ∀ k ∈ aft, listed.getD k false = true := fun k hk => by
      have h1 := List.all_eq_true.1 hpB.2 k hk
      rw [ho] at h1
      obtain ⟨e, he, h2⟩ := Array.any_eq_true'.1 h1
      simp only [Bool.and_eq_true, beq_iff_eq] at h2
      rw [← h2.2]
      exact hall e he h2.1
    have f2 := hfit (fun i => listed.getD i false) w hnl haft h.st
    rw [← hmapL] at f2
    have fin : ∀ (v : Value) (w' : World), (∃ y, b.put o.dst v = b.put o.dst y ∧ St (late.map fun i => (listed.setIfInBounds j true).getD i false) (updV Y j y) w') →
        ∃ Y', InvS ops late St p a0 Y' (listed.setIfInBounds j true) (a.put o.dst v) w' := fun v w' ⟨y, hy, hst⟩ => by
      refine ⟨updV Y j y, by simp [h.size], h.act.step hs ho (fun i => getD_set_iff hjs) (fun i _ hij => ?_) hnS (fun t ht hlt => ?_), hst, hdown⟩
      · unfold valsOf
        cases hpi : p[i]? with
        | none => rfl
        | some di => cases di <;> simp [Doing.out, updV, hij]
      · have h1 := congrArg (fun c : Act => c.tmps[t]?) hy
        simp only [put_get] at h1
        have hlb : t < b.tmps.size := by rw [hb.size]; exact hlt
        rw [if_pos ⟨ht, hlb⟩, if_pos ⟨ht, hlb⟩] at h1
        unfold valsOf
        rw [hd]
        simp only [Doing.out, updV, if_pos]
        exact (Option.some.inj h1).symm
    simp only [wpList] at f2
    rw [hwant]
    cases hw : Region.wanted o (yielded ops b.tmps) with
    | false =>
      rw [hw] at f2
      rw [if_neg (by simp)] at f2 ⊢
      obtain ⟨_, y, hy, hst⟩ := f2
      exact fin undef w ⟨y, hy, hst⟩
    | true =>
      rw [hw] at f2
      rw [if_pos rfl] at f2 ⊢
      left
      rcases f2 with f2 | ⟨_, x, w2, hx, _⟩
      rotate_left
      · cases hx
      unfold Oper.wp at f2 ⊢
      rw [hex]
      generalize (execOp b.eval o).run P w = r at *
      cases r with
      | ok n w' =>
        cases n <;> simp only [Oper.upon] at f2 ⊢
        case value v => exact fin v w' f2.2
        case skip => exact fin undef w' f2.2
        case defer dd =>
          obtain ⟨_, y, hy, _⟩ := f2
          have h1 := congrArg Act.defers hy
          rw [put_def, put_def] at h1
          simp at h1
        case enter f args =>
          refine f2.mono fun e w'' he => ?_
          cases e with
          | returned v => exact fin v w'' he.2
          | panicked c => cases he.1
          | outgrown => obtain ⟨x, w2, hx, _⟩ := he; cases hx
        case row row args => exact f2.mono fun v w'' he => fin v w'' he.2
      | halt x w' =>
        cases x <;> simp only [Oper.upon] at f2
        case panic v => cases f2.1
/-- A REGION THAT DRAWS ITS ORDER AND WRITES, by stages. -/
theorem wp_region_stages {id : Nat} {Q : Exit → Act → World → Prop} {a0 : Act} {w0 : World} {l : List Oper} (p : List Doing) (late : List Nat) (St : Stages) (hm : P.follows .mixedOrders = true) (hB : planB l.toArray = true) (hS : stagesB l.toArray late p = true)
    (hC : ∀ bs Y w w', St bs Y w → Calm w w' → St bs Y w') (h0 : ∀ Y, St (late.map fun _ => false) Y w0.drew)
    (hp : ∀ Y, PlanS P l.toArray late St Y (fun a => ∀ w', St (late.map fun _ => true) Y w' → Q .normal a w') 0 l p a0) : (Code.region id l.toArray true).wp P Q a0 w0 := by
  have hs := planB_sound hB
  refine wp_region_any hm (wpAny_inv (fun listed a w => ∃ Y, InvS l.toArray late St p a0 Y listed a w) (fun listed a w j h hj => ?_) (fun listed a w h h0 => ?_) _ _ _ _ (by simp [unlisted, List.countP_replicate]) ⟨fun _ => undef, by simp, ?_, ?_, ?_⟩)
  · obtain ⟨Y, h⟩ := h
    exact InvS.step hs hS hC hp h hj
  · obtain ⟨Y, h⟩ := h
    have hall := fun i (hi : i < l.toArray.size) => all_listed hs h0 i i (Nat.le_refl _) hi h.size
    obtain ⟨_, ⟨b, hb, hR⟩, g3⟩ := planS_get (Y := Y) hs l p 0 a0 rfl rfl ⟨rfl, rfl, fun i o t _ hi => absurd hi (Nat.not_lt_zero _), fun t _ => rfl⟩ (hp Y)
    have hlen := g3 (Nat.zero_le _) (Nat.zero_le _)
    obtain rfl := AgreeV.same (fun i hi => ⟨hall i hi, hi⟩) h.act hb
    refine hR w ?_
    have hst := h.st
    have e : (late.map fun i => listed.getD i false) = late.map fun _ => true := by
      apply List.map_congr_left
      intro i hi
      have hil : i < p.length := of_decide_eq_true (List.all_eq_true.1 (Bool.and_eq_true_iff.1 hS).1 i hi)
      exact hall i (by omega)
    rw [e] at hst
    exact hst
  · refine ⟨rfl, rfl, fun i o t _ hi => ?_, fun _ _ => rfl⟩
    simp [Array.getElem?_replicate] at hi
    split at hi <;> simp at hi
  · have e : (late.map fun i => (Array.replicate l.toArray.size false).getD i false) = late.map fun _ => false := by
      apply List.map_congr_left
      intro i _
      exact getD_replicate_false _ _
    rw [e]
    exact h0 _
  · intro i o e _ hi
    simp [Array.getElem?_replicate] at hi
    split at hi <;> simp at hi
end
open Go.RowKit
section
variable {P : Program} {ops : Array Oper}
theorem planS_val {late : List Nat} {St : Stages} {Y : Nat → Value} {R : Act → Prop} {i : Nat} {o : Oper} {os : List Oper} {ds : List Doing} {a : Act} {v : Value} {bef : List Nat} (h1 : Region.wanted o (yielded ops a.tmps) = true)
    (h2 : ∀ (L : Nat → Bool) (w : World), (∀ j ∈ bef, L j = false) → St (late.map L) Y w → Oper.quietUpon P (Calm w) w v ((execOp a.eval o).run P w))
    (h3 : PlanS P ops late St Y R (i + 1) os ds (a.put o.dst v)) : PlanS P ops late St Y R i (o :: os) (.val v bef :: ds) a := ⟨⟨h1, h2⟩, h3⟩
theorem planS_late {late : List Nat} {St : Stages} {Y : Nat → Value} {R : Act → Prop} {i : Nat} {o : Oper} {os : List Oper} {ds : List Doing} {a : Act} {aft : List Nat}
    (h2 : ∀ (L : Nat → Bool) (w : World), L i = false → (∀ j ∈ aft, L j = true) → St (late.map L) Y w → wpList P ops (fun x a' w' => x = .normal ∧ ∃ y, a' = a.put o.dst y ∧ St (late.map (updB L i)) (updV Y i y) w') [o] a w)
    (h3 : PlanS P ops late St Y R (i + 1) os ds (a.put o.dst (Y i))) : PlanS P ops late St Y R i (o :: os) (.late aft :: ds) a := ⟨h2, h3⟩
theorem planS_end {late : List Nat} {St : Stages} {Y : Nat → Value} {R : Act → Prop} {i : Nat} {a : Act} (h : R a) : PlanS P ops late St Y R i [] [] a := h
variable {i j k : Nat} {A0 : World → Prop} {A1 A2 A3 : Value → World → Prop} {Y : Nat → Value} {L : Nat → Bool} {w : World}
end
open Go.RowKit
section
variable {P : Program} {ops : Array Oper}
def ChainS (n : Nat) (A : Nat → (Nat → Value) → World → Prop) : Stages := fun bs Y w => ∃ m, m ≤ n ∧ bs = List.replicate m true ++ List.replicate (n - m) false ∧ A m Y w
variable {late : List Nat} {A : Nat → (Nat → Value) → World → Prop} {Y : Nat → Value} {L : Nat → Bool} {w : World}
theorem chain_at {m n j : Nat} (hj : j < n) (hm : m ≤ n) : (List.replicate m true ++ List.replicate (n - m) false)[j]? = some (decide (j < m)) := by
 rw [List.getElem?_append, List.length_replicate]
 split
 ·rw [List.getElem?_replicate, if_pos (by assumption), decide_eq_true (by assumption)]
 ·rw [List.getElem?_replicate, if_pos (by omega), decide_eq_false (by assumption)]
theorem ChainS.any (h : ChainS late.length A (late.map L) Y w) : ∃ k, k ≤ late.length ∧ A k Y w := by
 obtain ⟨k, hk, _, hA⟩ := h
 exact ⟨k, hk, hA⟩
theorem ChainS.step {m : Nat} {i : Nat} (h : ChainS late.length A (late.map L) Y w) (hi : late[m]? = some i) (hl : L i = false) (hp : ∀ j, 0 < m → late[m - 1]? = some j → L j = true) (hd : late.Nodup) :
    A m Y w ∧ ∀ y w', A (m + 1) (updV Y i y) w' → ChainS late.length A (late.map (updB L i)) (updV Y i y) w' := by
  obtain ⟨k, hk, hb, hA⟩ := h
  have hml : m < late.length := (List.getElem?_eq_some_iff.1 hi).1
  have key : ∀ j, j < late.length → L (late[j]!) = decide (j < k) := fun j hj => by
    have h1 := congrArg (·[j]?) hb
    simp only [List.getElem?_map, List.getElem?_eq_getElem hj, Option.map_some, chain_at hj hk, Option.some.injEq] at h1
    rw [← h1]; congr 1; simp [hj]
  have hmk : k = m := by
    have h1 := key m hml
    rw [show late[m]! = i from by simp [hi], hl] at h1
    have h2 := of_decide_eq_false h1.symm
    rcases Nat.eq_zero_or_pos m with h0 | h0
    · omega
    · have hm1 : m - 1 < late.length := by omega
      have h3 := key (m - 1) hm1
      rw [hp _ h0 (by rw [List.getElem?_eq_getElem hm1]; simp [hm1])] at h3
      have := of_decide_eq_true h3.symm
      omega
  subst hmk
  refine ⟨hA, fun y w' h' => ⟨k + 1, hml, ?_, h'⟩⟩
  apply List.ext_getElem?
  intro j
  by_cases hj : j < late.length
  · rw [chain_at hj hml, List.getElem?_map, List.getElem?_eq_getElem hj]
    simp only [Option.map_some, Option.some.injEq, updB]
    have h1 := key j hj
    rw [show late[j]! = late[j] from by simp [hj]] at h1
    by_cases he : late[j] = i
    · have : j = k := by
        have h2 := (List.getElem?_eq_some_iff.1 hi).2
        have h3 := he.trans h2.symm
        have h4 := List.pairwise_iff_getElem.1 hd
        rcases Nat.lt_trichotomy j k with h5 | h5 | h5
        · exact absurd h3 (h4 j k hj hml h5)
        · exact h5
        · exact absurd h3.symm (h4 k j hml hj h5)
      subst this
      rw [if_pos he]; simp
    · rw [if_neg he, h1]
      have : j ≠ k := fun e => he (by subst e; exact (List.getElem?_eq_some_iff.1 hi).2)
      by_cases hjk : j < k
      · rw [decide_eq_true hjk, decide_eq_true (by omega)]
      · rw [decide_eq_false hjk, decide_eq_false (by omega)]
  · rw [List.getElem?_eq_none (by simpa using hj), List.getElem?_eq_none (by simp; omega)]
theorem ChainS.done (h : ChainS late.length A (late.map fun _ => true) Y w) : A late.length Y w := by
 obtain ⟨k, hk, hb, hA⟩ := h
 rcases Nat.lt_or_ge k late.length with hlt | hge
 ·have h1 := congrArg (·[k]?) hb
  simp only [List.getElem?_map, List.getElem?_eq_getElem hlt, Option.map_some, chain_at hlt hk, Option.some.injEq] at h1
  simp at h1
 ·rw [show late.length = k from by omega]; exact hA
theorem ChainS.start (h : A 0 Y w) : ChainS late.length A (late.map fun _ => false) Y w := ⟨0, Nat.zero_le _, by rw [List.replicate_zero, List.nil_append]; exact List.eq_replicate_iff.2 ⟨by simp, by simp⟩, h⟩
theorem ChainS.stay {n : Nat} (hc : ∀ m Y w w', A m Y w → Calm w w' → A m Y w') : ∀ bs Y w w', ChainS n A bs Y w → Calm w w' → ChainS n A bs Y w' :=
 fun _ _ _ _ ⟨m, h1, h2, h3⟩ hb => ⟨m, h1, h2, hc _ _ _ _ h3 hb⟩
end
open Go.RowKit
theorem ret_int {a b : Int} (h : a = b) : Ending.returned (.int .i64 a) = .returned (.int .i64 b) := by rw [h]
theorem ret_bool {a b : Bool} (h : a = b) : Ending.returned (.bool a) = .returned (.bool b) := by rw [h]
set_option maxHeartbeats 400000 in
theorem components_any (p o f : Int) (w : World) :
    Calls Try.prog 67 #[.agg #[.int .i64 p, .int .i64 o, .int .i64 f]] w fun e w' => e = .returned (.agg #[.int .i64 p, .int .i64 o, .int .i64 f]) ∧ Calm w w' := by
  go_enter Try.func67, Try.ntmps67
  go_wp2
  go_returns
  exact ⟨rfl, by repeat (first | exact Calm.refl _ | refine Calm.alloc ?_ _)⟩
theorem index3 (x y z : Value) (w : World) : (Instr.index 92 (.agg #[x, y, z]) (.int .i64 0)).run Try.prog w = .ok x w ∧ (Instr.index 92 (.agg #[x, y, z]) (.int .i64 1)).run Try.prog w = .ok y w ∧ (Instr.index 92 (.agg #[x, y, z]) (.int .i64 2)).run Try.prog w = .ok z w :=
 ⟨by kernel_rfl, by kernel_rfl, by kernel_rfl⟩
set_option maxHeartbeats 1000000 in
theorem keyCheck_any (p o f : Int) (w : World) :
    Calls Try.prog 54 #[.agg #[.int .i64 p, .int .i64 o, .int .i64 f]] w fun e w' => e = .returned (.int .i64 (keyErr p o f)) ∧ Calm w w' := by
  have i0 := fun x y z w => (index3 x y z w).1
  have i1 := fun x y z w => (index3 x y z w).2.1
  have i2 := fun x y z w => (index3 x y z w).2.2
  by_cases h1 : p < 0
  rotate_left
  by_cases h2 : 15 < p
  rotate_left
  by_cases h3 : o < 0
  rotate_left
  by_cases h4 : 1048576 < o
  rotate_left
  by_cases h5 : f < 0
  rotate_left
  by_cases h6 : 1073741824 < f
  rotate_left
  all_goals
    first | rw [keyErr_no (by omega)] | rw [keyErr_ok (by omega) (by omega) (by omega) (by omega) (by omega) (by omega)]
    go_enter Try.func54, Try.ntmps54
    go_wp2_with (go_at_call 67; refine (components_any _ _ _ _).mono ?_; rintro e w1 ⟨rfl, hb1⟩; obtain ⟨hc1, hf1, hz1⟩ := hb1.facts)
    refine wp_loop_rounds 4 ?_
    rw [rounds_succ]
    go_wp2
    repeat (rw [rounds_succ]; go_wp2)
    go_returns
    exact ⟨rfl, by repeat (first | (with_reducible exact Calm.refl _) | (with_reducible refine Calm.alloc ?_ _) | (refine Calm.call ?_ (by with_reducible assumption)))⟩
open Go.RowKit
set_option maxHeartbeats 400000 in
theorem isNaN_any (a : Int) (w : World) : Calls Try.prog 82 #[.int .i64 a] w fun e w' => e = .returned (.bool false) ∧ w = w' := by
 go_enter Try.func82, Try.ntmps82
 go_wp2
 go_ret
 simp
set_option maxHeartbeats 400000 in
theorem compare_any (a b : Int) (w : World) : Calls Try.prog 68 #[.int .i64 a, .int .i64 b] w fun e w' => e = .returned (.int .i64 (icmp a b)) ∧ w = w' := by
 by_cases h1 : a < b
 rotate_left
 by_cases h2 : b < a
 rotate_left
 all_goals
  unfold icmp
  first | rw [if_pos (by assumption)] | rw [if_neg (by assumption), if_pos (by assumption)] | rw [if_neg (by assumption), if_neg (by assumption)]
  go_enter Try.func68, Try.ntmps68
  go_wp2_with (go_at_call 82; refine (isNaN_any _ _).mono ?_; rintro e w1 ⟨rfl, rfl⟩)
  go_ret
  exact ⟨rfl, rfl⟩
def KeysAt (w : World) (x y : Nat) (p o f p' o' f' : Int) (wx : World) : Prop :=
 wx.cell? ⟨x, 0, none⟩ = some (.int .i64 p) ∧ wx.cell? ⟨x, 1, none⟩ = some (.int .i64 o) ∧ wx.cell? ⟨x, 2, none⟩ = some (.int .i64 f) ∧
  wx.cell? ⟨y, 0, none⟩ = some (.int .i64 p') ∧ wx.cell? ⟨y, 1, none⟩ = some (.int .i64 o') ∧ wx.cell? ⟨y, 2, none⟩ = some (.int .i64 f') ∧ x < wx.heap.size ∧ y < wx.heap.size ∧ Calm w wx
theorem KeysAt.drewN {w wx : World} {x y : Nat} {p o f p' o' f' : Int} (h : KeysAt w x y p o f p' o' f' wx) (n : Nat) : KeysAt w x y p o f p' o' f' (wx.drewN n) := by
 obtain ⟨h1, h2, h3, h4, h5, h6, h7, h8, h9⟩ := h
 exact ⟨h1, h2, h3, h4, h5, h6, h7, h8, h9.drewN n⟩
def TwoKeys (w : World) (p o f p' o' f' : Int) (s2 s3 : Value) (wx : World) : Prop :=
 ∃ x y : Nat, s2 = .pointer (some ⟨x, 0, none⟩) ∧ s3 = .pointer (some ⟨y, 0, none⟩) ∧ KeysAt w x y p o f p' o' f' wx
set_option maxHeartbeats 4000000 in
theorem cmp_any (p o f p' o' f' : Int) (w : World) :
    Calls Try.prog 38 #[.agg #[.int .i64 p, .int .i64 o, .int .i64 f], .agg #[.int .i64 p', .int .i64 o', .int .i64 f']] w fun e w' => e = .returned (.int .i64 (kcmp p o f p' o' f')) ∧ Calm w w' := by
  go_enter Try.func38, Try.ntmps38
  go_upto_region 0 with fail
  go_cut [2, 3, 4] (fun s2 s3 s4 wx => TwoKeys w p o f p' o' f' s2 s3 wx ∧ s4 = .int .i64 0)
  case first =>
    go_wp2_with fail
    go_meet
    refine ⟨⟨_, _, rfl, rfl, ?_, ?_, ?_, ?_, ?_, ?_, ?_, ?_, ?_⟩, rfl⟩
    all_goals first | (with_reducible exact ((Calm.refl _).alloc _).alloc _) | go_simp
  case rest =>
  obtain ⟨⟨x, y, rfl, rfl, x0, x1, x2, y0, y1, y2, hx, hy, hu⟩, rfl⟩ := hcut
  go_upto_region 1 with fail
  go_cut [5, 6] (fun s5 s6 wx => TwoKeys w p o f p' o' f' s5 s6 wx)
  case first =>
    refine wp_region_plan [.val (.agg #[.int .i64 p, .int .i64 o, .int .i64 f]), .val (.agg #[.int .i64 p, .int .i64 o, .int .i64 f]), .val (.agg #[.int .i64 p', .int .i64 o', .int .i64 f']), .val (.agg #[.int .i64 p', .int .i64 o', .int .i64 f']),
      .new #[.int .i64 0, .int .i64 0, .int .i64 0] 92, .new #[.int .i64 0, .int .i64 0, .int .i64 0] 92, .fill 4 #[.int .i64 p, .int .i64 o, .int .i64 f], .fill 5 #[.int .i64 p', .int .i64 o', .int .i64 f']] (by kernel_rfl) (by kernel_rfl) (by kernel_rfl) ?_
    intro X
    refine plan_val (by kernel_rfl) (fun u hu => ?_) ?_
    · obtain ⟨hc, hf, hz⟩ := hu.of_drew.facts
      go_simp
    simp only [Act.put, List.setIfInBounds_toArray, List.set_cons_zero, List.set_cons_succ]
    refine plan_val (by kernel_rfl) (fun u hu => ?_) ?_
    · go_simp
      exact components_any _ _ _ _
    simp only [Act.put, List.setIfInBounds_toArray, List.set_cons_zero, List.set_cons_succ]
    refine plan_val (by kernel_rfl) (fun u hu => ?_) ?_
    · obtain ⟨hc, hf, hz⟩ := hu.of_drew.facts
      go_simp
    simp only [Act.put, List.setIfInBounds_toArray, List.set_cons_zero, List.set_cons_succ]
    refine plan_val (by kernel_rfl) (fun u hu => ?_) ?_
    · go_simp
      exact components_any _ _ _ _
    simp only [Act.put, List.setIfInBounds_toArray, List.set_cons_zero, List.set_cons_succ]
    refine plan_new (by kernel_rfl) (fun u => ?_) ?_
    · go_simp
    simp only [Act.put, List.setIfInBounds_toArray, List.set_cons_zero, List.set_cons_succ]
    refine plan_new (by kernel_rfl) (fun u => ?_) ?_
    · go_simp
    simp only [Act.put, List.setIfInBounds_toArray, List.set_cons_zero, List.set_cons_succ]
    refine plan_fill_row rfl rfl rfl (by kernel_rfl) rfl rfl rfl (by kernel_rfl) rfl (by simp [Value.oneCell']) ?_
    refine plan_fill_row rfl rfl rfl (by kernel_rfl) rfl rfl rfl (by kernel_rfl) rfl (by simp [Value.oneCell']) ?_
    refine plan_end ?_
    intro w' hB
    have r4 : w'.heap[X 4]? = some (.cells #[.int .i64 p, .int .i64 o, .int .i64 f] 92) := (hB.row 4 _ _ rfl).2
    have r5 : w'.heap[X 5]? = some (.cells #[.int .i64 p', .int .i64 o', .int .i64 f'] 92) := (hB.row 5 _ _ rfl).2
    go_wp2_with fail
    go_meet
    exact ⟨X 4, X 5, rfl, rfl, cell_of_row _ _ 0 _ _ _ r4, cell_of_row _ _ 1 _ _ _ r4, cell_of_row _ _ 2 _ _ _ r4, cell_of_row _ _ 0 _ _ _ r5, cell_of_row _ _ 1 _ _ _ r5, cell_of_row _ _ 2 _ _ _ r5, (Array.getElem?_eq_some_iff.1 r4).1, (Array.getElem?_eq_some_iff.1 r5).1, hu.call hB.calm.of_drew⟩
  case rest =>
  obtain ⟨x, y, rfl, rfl, hK⟩ := hcut
  obtain ⟨x0, x1, x2, y0, y1, y2, hx, hy, hu⟩ := id hK
  go_wp2_with fail
  by_cases e1 : icmp p p' = 0
  rotate_left
  · have b1 : (icmp p p' != 0) = true := by simpa using e1
    have K : Hid (icmp p p' = kcmp p o f p' o' f') := by show _ = _; simp [kcmp, e1]
    clear e1
    refine wp_loop_rounds 4 ?_
    rw [rounds_succ]
    go_wp2_with fail
    go_quiet ((go_at_call 68; exact quiet_same (compare_any _ _ _) ⟨_, rfl⟩))
    go_wp2_with fail
    go_ret
    exact ⟨ret_int K.out, hu.drewN _⟩
  have b1 : (icmp p p' != 0) = false := by simpa using e1
  by_cases e2 : icmp o o' = 0
  rotate_left
  · have b2 : (icmp o o' != 0) = true := by simpa using e2
    have K : Hid (icmp o o' = kcmp p o f p' o' f') := by show _ = _; simp [kcmp, e1, e2]
    clear e1 e2
    refine wp_loop_rounds 4 ?_
    rw [rounds_succ]
    go_wp2_with fail
    go_quiet ((go_at_call 68; exact quiet_same (compare_any _ _ _) ⟨_, rfl⟩))
    replace hK := hK.drewN nq
    generalize wc.drewN nq = wd at hK ⊢
    clear hx hy hu x0 x1 x2 y0 y1 y2 wc
    obtain ⟨x0, x1, x2, y0, y1, y2, hx, hy, hu⟩ := id hK
    rename World => wc
    go_wp2_with fail
    rw [rounds_succ]
    go_wp2_with fail
    go_quiet ((go_at_call 68; exact quiet_same (compare_any _ _ _) ⟨_, rfl⟩))
    go_wp2_with fail
    go_ret
    exact ⟨ret_int K.out, hu.drewN _⟩
  have b2 : (icmp o o' != 0) = false := by simpa using e2
  by_cases e3 : icmp f f' = 0
  all_goals
    have b3 : (icmp f f' != 0) = !decide (icmp f f' = 0) := by by_cases h : icmp f f' = 0 <;> simp [h]
    have e4 : kcmp p o f p' o' f' = icmp f f' := by simp [kcmp, e1, e2]
    first
      | (have e5 : decide (icmp f f' = 0) = true := decide_eq_true e3
         rw [e5] at b3
         have K : Hid (0 = kcmp p o f p' o' f') := by show _ = _; rw [e4, e3]
         clear e1 e2 e3 e4 e5)
      | (have e5 : decide (icmp f f' = 0) = false := decide_eq_false e3
         rw [e5] at b3
         have K : Hid (icmp f f' = kcmp p o f p' o' f') := by show _ = _; rw [e4]
         clear e1 e2 e3 e4 e5)
    refine wp_loop_rounds 4 ?_
    rw [rounds_succ]
    go_wp2_with fail
    go_quiet ((go_at_call 68; exact quiet_same (compare_any _ _ _) ⟨_, rfl⟩))
    replace hK := hK.drewN nq
    generalize wc.drewN nq = wd at hK ⊢
    clear hx hy hu x0 x1 x2 y0 y1 y2 wc
    obtain ⟨x0, x1, x2, y0, y1, y2, hx, hy, hu⟩ := id hK
    rename World => wc
    go_wp2_with fail
    rw [rounds_succ]
    go_wp2_with fail
    go_quiet ((go_at_call 68; exact quiet_same (compare_any _ _ _) ⟨_, rfl⟩))
    replace hK := hK.drewN nq
    generalize wc.drewN nq = wd at hK ⊢
    clear hx hy hu x0 x1 x2 y0 y1 y2 wc
    obtain ⟨x0, x1, x2, y0, y1, y2, hx, hy, hu⟩ := id hK
    rename World => wc
    go_wp2_with fail
    rw [rounds_succ]
    go_wp2_with fail
    go_quiet ((go_at_call 68; exact quiet_same (compare_any _ _ _) ⟨_, rfl⟩))
    go_wp2_with fail
    try (rw [rounds_succ]; go_wp2_with fail)
    go_ret
    exact ⟨ret_int K.out, hu.drewN _⟩
open Go.RowKit
set_option maxHeartbeats 1000000 in
theorem cmpSpot_any (p o f m p' o' f' m' : Int) (w : World) :
    Calls Try.prog 80 #[.agg #[.int .i64 p, .int .i64 o, .int .i64 f, .int .i64 m], .agg #[.int .i64 p', .int .i64 o', .int .i64 f', .int .i64 m']] w fun e w' => e = .returned (.int .i64 (scmp p o f m p' o' f' m')) ∧ Calm w w' := by
  by_cases e1 : kcmp p o f p' o' f' = 0
  · have b1 : (kcmp p o f p' o' f' != 0) = false := by simpa using e1
    have K : Hid (icmp m m' = scmp p o f m p' o' f' m') := by show _ = _; simp [scmp, e1]
    clear e1
    go_enter Try.func80, Try.ntmps80
    go_wp2_with (first
      | (go_at_call 38; refine (cmp_any _ _ _ _ _ _ _).mono ?_; rintro e w1 ⟨rfl, hb1⟩; obtain ⟨hc1, hf1, hz1⟩ := hb1.facts; (try simp only [World.size_drew] at hc1 hf1 hz1); (try simp only [World.size_alloc] at hc1 hf1 hz1))
      | (go_at_call 68; refine (compare_any _ _ _).mono ?_; rintro e w1 ⟨rfl, rfl⟩))
    go_ret
    exact ⟨ret_int K.out, by repeat (first | (with_reducible exact Calm.refl _) | (with_reducible refine Calm.alloc ?_ _) | (with_reducible refine Calm.drew ?_) | (with_reducible refine Calm.drewN ?_ _) | (refine Calm.call ?_ (by with_reducible assumption)))⟩
  · have b1 : (kcmp p o f p' o' f' != 0) = true := by simpa using e1
    have K : Hid (kcmp p o f p' o' f' = scmp p o f m p' o' f' m') := by show _ = _; simp [scmp, e1]
    clear e1
    go_enter Try.func80, Try.ntmps80
    go_wp2_with (first
      | (go_at_call 38; refine (cmp_any _ _ _ _ _ _ _).mono ?_; rintro e w1 ⟨rfl, hb1⟩; obtain ⟨hc1, hf1, hz1⟩ := hb1.facts; (try simp only [World.size_drew] at hc1 hf1 hz1); (try simp only [World.size_alloc] at hc1 hf1 hz1))
      | (go_at_call 68; refine (compare_any _ _ _).mono ?_; rintro e w1 ⟨rfl, rfl⟩))
    go_ret
    exact ⟨ret_int K.out, by repeat (first | (with_reducible exact Calm.refl _) | (with_reducible refine Calm.alloc ?_ _) | (with_reducible refine Calm.drew ?_) | (with_reducible refine Calm.drewN ?_ _) | (refine Calm.call ?_ (by with_reducible assumption)))⟩
set_option maxHeartbeats 400000 in
theorem between_any (x n : Int) (w : World) : Calls Try.prog 65 #[.int .i64 x, .int .i64 n] w fun e w' => e = .returned (.bool (decide (0 ≤ x ∧ x ≤ n))) ∧ w = w' := by
 go_enter Try.func65, Try.ntmps65
 go_wp2
 all_goals
  go_ret
  exact ⟨ret_bool (Bool.eq_iff_iff.2 (by simp; omega)), rfl⟩
set_option maxHeartbeats 400000 in
theorem isTime_any (x : Int) (w : World) : Calls Try.prog 98 #[.int .i64 x] w fun e w' => e = .returned (.bool (decide (1 ≤ x ∧ x ≤ 2147483647))) ∧ w = w' := by
 go_enter Try.func98, Try.ntmps98
 go_wp2
 all_goals
  go_ret
  exact ⟨ret_bool (Bool.eq_iff_iff.2 (by simp; omega)), rfl⟩
set_option maxHeartbeats 1000000 in
theorem refKey_any (p o f : Int) (w : World) : Calls Try.prog 35 #[.agg #[.int .i64 p, .int .i64 o, .int .i64 f]] w fun e w' => e = .returned (.int .i64 (keyErr p o f)) ∧ Calm w w' := by
 go_enter Try.func35, Try.ntmps35
 go_wp2_with (go_at_call 65; refine (between_any _ _ _).mono ?_; rintro e w1 ⟨rfl, rfl⟩)
 all_goals
  go_ret
  exact ⟨ret_int (by first | rw [keyErr_ok (by omega) (by omega) (by omega) (by omega) (by omega) (by omega)] | rw [keyErr_no (by omega)]), by repeat (first | (with_reducible exact Calm.refl _) | (with_reducible refine Calm.alloc ?_ _) | (with_reducible refine Calm.drew ?_) | (with_reducible refine Calm.drewN ?_ _) | (refine Calm.call ?_ (by with_reducible assumption)))⟩
set_option maxHeartbeats 1000000 in
theorem ahead_any (p o f p' o' f' : Int) (w : World) : Calls Try.prog 36 #[.agg #[.int .i64 p, .int .i64 o, .int .i64 f], .agg #[.int .i64 p', .int .i64 o', .int .i64 f']] w fun e w' => e = .returned (.bool (aheadB p o f p' o' f')) ∧ Calm w w' := by
 go_enter Try.func36, Try.ntmps36
 go_wp2
 all_goals
  go_ret
  exact ⟨ret_bool (Bool.eq_iff_iff.2 (by rw [aheadB_iff]; simp_all; try omega)), by repeat (first | (with_reducible exact Calm.refl _) | (with_reducible refine Calm.alloc ?_ _) | (with_reducible refine Calm.drew ?_) | (with_reducible refine Calm.drewN ?_ _) | (refine Calm.call ?_ (by with_reducible assumption)))⟩
set_option maxHeartbeats 1000000 in
theorem aheadSpot_any (p o f m p' o' f' m' : Int) (w : World) : Calls Try.prog 32 #[.agg #[.int .i64 p, .int .i64 o, .int .i64 f, .int .i64 m], .agg #[.int .i64 p', .int .i64 o', .int .i64 f', .int .i64 m']] w fun e w' => e = .returned (.bool (aheadS p o f m p' o' f' m')) ∧ Calm w w' := by
 cases hA : aheadB p o f p' o' f'
 all_goals
  go_enter Try.func32, Try.ntmps32
  go_wp2_with (go_at_call 36; refine (ahead_any _ _ _ _ _ _ _).mono ?_; rintro e w1 ⟨rfl, hb1⟩; obtain ⟨hc1, hf1, hz1⟩ := hb1.facts; (try simp only [World.size_drew] at hc1 hf1 hz1); (try simp only [World.size_alloc] at hc1 hf1 hz1))
  all_goals
   go_ret
   exact ⟨ret_bool (Bool.eq_iff_iff.2 (by rw [aheadS_iff, hA]; simp_all)), by repeat (first | (with_reducible exact Calm.refl _) | (with_reducible refine Calm.alloc ?_ _) | (with_reducible refine Calm.drew ?_) | (with_reducible refine Calm.drewN ?_ _) | (refine Calm.call ?_ (by with_reducible assumption)))⟩
set_option maxHeartbeats 1000000 in
theorem timesFit_any (m g : Int) (w : World) : Calls Try.prog 79 #[.int .i64 m, .int .i64 g] w fun e w' => e = .returned (.bool (decide (timeOk m g))) ∧ w = w' := by
 go_enter Try.func79, Try.ntmps79
 go_wp2_with (go_at_call 98; refine (isTime_any _ _).mono ?_; rintro e w1 ⟨rfl, rfl⟩)
 all_goals
  go_ret
  exact ⟨ret_bool (Bool.eq_iff_iff.2 (by rw [decide_eq_true_eq]; unfold timeOk; simp at * <;> omega)), rfl⟩
set_option maxHeartbeats 1000000 in
theorem elemCheck_any (p o f m g : Int) (s : ByteArray) (w : World) : Calls Try.prog 56 #[.agg #[.int .i64 p, .int .i64 o, .int .i64 f, .int .i64 m, .int .i64 g, .string s]] w fun e w' => e = .returned (.int .i64 (elemErr p o f m g s.size)) ∧ Calm w w' := by
 by_cases h1 : keyErr p o f = 0
 rotate_left
 ·have b1 : (keyErr p o f != 0) = true := by simpa using h1
  have K : Hid (keyErr p o f = elemErr p o f m g s.size) := (elemErr_key h1).symm
  clear h1
  go_enter Try.func56, Try.ntmps56
  go_wp2_with (go_at_call 54; refine (keyCheck_any _ _ _ _).mono ?_; rintro e w1 ⟨rfl, hb1⟩; obtain ⟨hc1, hf1, hz1⟩ := hb1.facts; (try simp only [World.size_drew] at hc1 hf1 hz1); (try simp only [World.size_alloc] at hc1 hf1 hz1))
  go_ret
  exact ⟨ret_int K.out, by repeat (first | (with_reducible exact Calm.refl _) | (with_reducible refine Calm.alloc ?_ _) | (with_reducible refine Calm.drew ?_) | (with_reducible refine Calm.drewN ?_ _) | (refine Calm.call ?_ (by with_reducible assumption)))⟩
 have b1 : (keyErr p o f != 0) = false := by simpa using h1
 by_cases h2 : timeOk m g
 rotate_left
 ·have b2 : decide (timeOk m g) = false := by simpa using h2
  have K : Hid (9 = elemErr p o f m g s.size) := (elemErr_time h1 h2).symm
  clear h1 h2
  go_enter Try.func56, Try.ntmps56
  go_wp2_with (first
   |(go_at_call 54; refine (keyCheck_any _ _ _ _).mono ?_; rintro e w1 ⟨rfl, hb1⟩; obtain ⟨hc1, hf1, hz1⟩ := hb1.facts; (try simp only [World.size_drew] at hc1 hf1 hz1); (try simp only [World.size_alloc] at hc1 hf1 hz1))
   |(go_at_call 79; refine (timesFit_any _ _ _).mono ?_; rintro e w1 ⟨rfl, rfl⟩))
  go_ret
  exact ⟨ret_int K.out, by repeat (first | (with_reducible exact Calm.refl _) | (with_reducible refine Calm.alloc ?_ _) | (with_reducible refine Calm.drew ?_) | (with_reducible refine Calm.drewN ?_ _) | (refine Calm.call ?_ (by with_reducible assumption)))⟩
 have b2 : decide (timeOk m g) = true := by simpa using h2
 by_cases h3 : (40 : Int) < s.size
 ·have K : Hid (2 = elemErr p o f m g s.size) := (elemErr_long h1 h2 h3).symm
  clear h1 h2
  go_enter Try.func56, Try.ntmps56
  go_wp2_with (first
   |(go_at_call 54; refine (keyCheck_any _ _ _ _).mono ?_; rintro e w1 ⟨rfl, hb1⟩; obtain ⟨hc1, hf1, hz1⟩ := hb1.facts; (try simp only [World.size_drew] at hc1 hf1 hz1); (try simp only [World.size_alloc] at hc1 hf1 hz1))
   |(go_at_call 79; refine (timesFit_any _ _ _).mono ?_; rintro e w1 ⟨rfl, rfl⟩))
  go_ret
  exact ⟨ret_int K.out, by repeat (first | (with_reducible exact Calm.refl _) | (with_reducible refine Calm.alloc ?_ _) | (with_reducible refine Calm.drew ?_) | (with_reducible refine Calm.drewN ?_ _) | (refine Calm.call ?_ (by with_reducible assumption)))⟩
 ·have K : Hid (0 = elemErr p o f m g s.size) := (elemErr_ok h1 h2 (by omega)).symm
  clear h1 h2
  go_enter Try.func56, Try.ntmps56
  go_wp2_with (first
   |(go_at_call 54; refine (keyCheck_any _ _ _ _).mono ?_; rintro e w1 ⟨rfl, hb1⟩; obtain ⟨hc1, hf1, hz1⟩ := hb1.facts; (try simp only [World.size_drew] at hc1 hf1 hz1); (try simp only [World.size_alloc] at hc1 hf1 hz1))
   |(go_at_call 79; refine (timesFit_any _ _ _).mono ?_; rintro e w1 ⟨rfl, rfl⟩))
  go_ret
  exact ⟨ret_int K.out, by repeat (first | (with_reducible exact Calm.refl _) | (with_reducible refine Calm.alloc ?_ _) | (with_reducible refine Calm.drew ?_) | (with_reducible refine Calm.drewN ?_ _) | (refine Calm.call ?_ (by with_reducible assumption)))⟩
set_option maxHeartbeats 2000000 in
theorem refElem_any (p o f m g : Int) (s : ByteArray) (w : World) (hm : -9223372036854775808 ≤ m) : Calls Try.prog 31 #[.agg #[.int .i64 p, .int .i64 o, .int .i64 f, .int .i64 m, .int .i64 g, .string s]] w fun e w' => e = .returned (.int .i64 (elemErr p o f m g s.size)) ∧ Calm w w' := by
 by_cases h1 : keyErr p o f = 0
 rotate_left
 ·have b1 : (keyErr p o f != 0) = true := by simpa using h1
  have K : Hid (keyErr p o f = elemErr p o f m g s.size) := (elemErr_key h1).symm
  clear h1
  go_enter Try.func31, Try.ntmps31
  go_wp2_with (go_at_call 35; refine (refKey_any _ _ _ _).mono ?_; rintro e w1 ⟨rfl, hb1⟩; obtain ⟨hc1, hf1, hz1⟩ := hb1.facts; (try simp only [World.size_drew] at hc1 hf1 hz1); (try simp only [World.size_alloc] at hc1 hf1 hz1))
  go_ret
  exact ⟨ret_int K.out, by repeat (first | (with_reducible exact Calm.refl _) | (with_reducible refine Calm.alloc ?_ _) | (with_reducible refine Calm.drew ?_) | (with_reducible refine Calm.drewN ?_ _) | (refine Calm.call ?_ (by with_reducible assumption)))⟩
 have b1 : (keyErr p o f != 0) = false := by simpa using h1
 have H1 : Hid (keyErr p o f = 0) := h1
 clear h1
 go_enter Try.func31, Try.ntmps31
 go_wp2_with (go_at_call 35; refine (refKey_any _ _ _ _).mono ?_; rintro e w1 ⟨rfl, hb1⟩; obtain ⟨hc1, hf1, hz1⟩ := hb1.facts; (try simp only [World.size_drew] at hc1 hf1 hz1); (try simp only [World.size_alloc] at hc1 hf1 hz1))
 all_goals
  go_ret
  exact ⟨ret_int (by
   first
    |(rw [elemErr_time H1.out]; (unfold timeOk; simp at *; omega))
    |(rw [elemErr_long H1.out (by unfold timeOk; simp at *; omega) (by omega)])
    |(rw [elemErr_ok H1.out (by unfold timeOk; simp at *; omega) (by omega)])), by repeat (first | (with_reducible exact Calm.refl _) | (with_reducible refine Calm.alloc ?_ _) | (with_reducible refine Calm.drew ?_) | (with_reducible refine Calm.drewN ?_ _) | (refine Calm.call ?_ (by with_reducible assumption)))⟩
set_option maxHeartbeats 1000000 in
theorem spot_any (p o f m g : Int) (s : ByteArray) (w : World) : Calls Try.prog 81 #[.agg #[.int .i64 p, .int .i64 o, .int .i64 f, .int .i64 m, .int .i64 g, .string s]] w fun e w' => e = .returned (.agg #[.int .i64 p, .int .i64 o, .int .i64 f, .int .i64 m]) ∧ Calm w w' := by
 go_enter Try.func81, Try.ntmps81
 go_wp2
 go_returns
 exact ⟨rfl, by repeat (first | (with_reducible exact Calm.refl _) | (with_reducible refine Calm.alloc ?_ _) | (with_reducible refine Calm.drew ?_) | (with_reducible refine Calm.drewN ?_ _) | (refine Calm.call ?_ (by with_reducible assumption)))⟩
set_option maxHeartbeats 1000000 in
theorem refSpot_any (p o f m g : Int) (s : ByteArray) (w : World) : Calls Try.prog 33 #[.agg #[.int .i64 p, .int .i64 o, .int .i64 f, .int .i64 m, .int .i64 g, .string s]] w fun e w' => e = .returned (.agg #[.int .i64 p, .int .i64 o, .int .i64 f, .int .i64 m]) ∧ Calm w w' := by
 go_enter Try.func33, Try.ntmps33
 go_wp2
 go_returns
 exact ⟨rfl, by repeat (first | (with_reducible exact Calm.refl _) | (with_reducible refine Calm.alloc ?_ _) | (with_reducible refine Calm.drew ?_) | (with_reducible refine Calm.drewN ?_ _) | (refine Calm.call ?_ (by with_reducible assumption)))⟩
set_option maxHeartbeats 1000000 in
theorem live_any (p o f m g t : Int) (s : ByteArray) (w : World) : Calls Try.prog 78 #[.agg #[.int .i64 p, .int .i64 o, .int .i64 f, .int .i64 m, .int .i64 g, .string s], .int .i64 t] w fun e w' => e = .returned (.bool (decide (liveP m g t))) ∧ Calm w w' := by
 go_enter Try.func78, Try.ntmps78
 go_wp2
 all_goals
  go_ret
  exact ⟨ret_bool (Bool.eq_iff_iff.2 (by rw [decide_eq_true_eq]; unfold liveP; simp at * <;> omega)), by repeat (first | (with_reducible exact Calm.refl _) | (with_reducible refine Calm.alloc ?_ _) | (with_reducible refine Calm.drew ?_) | (with_reducible refine Calm.drewN ?_ _) | (refine Calm.call ?_ (by with_reducible assumption)))⟩
set_option maxHeartbeats 1000000 in
theorem refLive_any (p o f m g t : Int) (s : ByteArray) (w : World) : Calls Try.prog 64 #[.agg #[.int .i64 p, .int .i64 o, .int .i64 f, .int .i64 m, .int .i64 g, .string s], .int .i64 t] w fun e w' => e = .returned (.bool (decide (liveP m g t))) ∧ Calm w w' := by
 go_enter Try.func64, Try.ntmps64
 go_wp2
 all_goals
  go_ret
  exact ⟨ret_bool (Bool.eq_iff_iff.2 (by rw [decide_eq_true_eq]; unfold liveP; simp at * <;> omega)), by repeat (first | (with_reducible exact Calm.refl _) | (with_reducible refine Calm.alloc ?_ _) | (with_reducible refine Calm.drew ?_) | (with_reducible refine Calm.drewN ?_ _) | (refine Calm.call ?_ (by with_reducible assumption)))⟩
open Go.RowKit
def El.cells (e : El) : List Value := [.int .i64 e.p, .int .i64 e.o, .int .i64 e.f, .int .i64 e.m, .int .i64 e.g, .string e.s]
def El.wf (e : El) : Prop := -9223372036854775808 ≤ e.m
def ElAt (w : World) (b q : Nat) (e : El) : Prop :=
 w.cell? ⟨b, q, none⟩ = some (.int .i64 e.p) ∧ w.cell? ⟨b, q + 1, none⟩ = some (.int .i64 e.o) ∧ w.cell? ⟨b, q + 2, none⟩ = some (.int .i64 e.f) ∧ w.cell? ⟨b, q + 3, none⟩ = some (.int .i64 e.m) ∧ w.cell? ⟨b, q + 4, none⟩ = some (.int .i64 e.g) ∧ w.cell? ⟨b, q + 5, none⟩ = some (.string e.s)
def Lies (w : World) (A : Option Addr) (l : List El) : Prop :=
 (∀ e ∈ l, e.wf) ∧ (0 < l.length → ∃ b q, A = some ⟨b, q, none⟩ ∧ b < w.heap.size ∧ ∀ k e, l[k]? = some e → ElAt w b (q + k * 6) e)
def Sl (w : World) (v : Value) (l : List El) : Prop := ∃ A c, v = .slice A l.length c ∧ l.length ≤ 9223372036854775807 ∧ Lies w A l
theorem ElAt.calm {w w' : World} {b q : Nat} {e : El} (h : ElAt w b q e) (hb : Calm w w') (hlt : b < w.heap.size) : ElAt w' b q e := by
 obtain ⟨h0, h1, h2, h3, h4, h5⟩ := h
 have hc := hb.facts.1
 exact ⟨(hc b _ hlt).trans h0, (hc b _ hlt).trans h1, (hc b _ hlt).trans h2, (hc b _ hlt).trans h3, (hc b _ hlt).trans h4, (hc b _ hlt).trans h5⟩
theorem Lies.calm {w w' : World} {A : Option Addr} {l : List El} (h : Lies w A l) (hb : Calm w w') : Lies w' A l :=
 ⟨h.1, fun hl => by
  obtain ⟨b, q, hA, hlt, hk⟩ := h.2 hl
  exact ⟨b, q, hA, Nat.lt_of_lt_of_le hlt hb.size, fun k e he => (hk k e he).calm hb hlt⟩⟩
theorem Sl.nil (w : World) (c : Nat) (A : Option Addr) : Sl w (.slice A 0 c) [] := ⟨A, c, rfl, by simp, by simp, fun h => absurd h (by simp)⟩
theorem Lies.at_ {w : World} {A : Option Addr} {l : List El} (h : Lies w A l) {k : Nat} (hk : k < l.length) : ∃ b q e, A = some ⟨b, q, none⟩ ∧ b < w.heap.size ∧ l[k]? = some e ∧ e.wf ∧ ElAt w b (q + k * 6) e := by
 obtain ⟨b, q, hA, hlt, h2⟩ := h.2 (by omega)
 exact ⟨b, q, l[k], hA, hlt, List.getElem?_eq_getElem hk, h.1 _ (List.getElem_mem _), h2 _ _ (List.getElem?_eq_getElem hk)⟩
theorem free6 {w : World} {g t : Nat} {cs : Array Value} (h : w.heap[g]? = some (.cells cs t (0, 0))) : w.frozen? ⟨g, 0, none⟩ = false ∧ w.frozen? ⟨g, 1, none⟩ = false ∧ w.frozen? ⟨g, 2, none⟩ = false ∧ w.frozen? ⟨g, 3, none⟩ = false ∧ w.frozen? ⟨g, 4, none⟩ = false ∧ w.frozen? ⟨g, 5, none⟩ = false :=
 ⟨frozen_of_row _ _ _ _ _ h, frozen_of_row _ _ _ _ _ h, frozen_of_row _ _ _ _ _ h, frozen_of_row _ _ _ _ _ h, frozen_of_row _ _ _ _ _ h, frozen_of_row _ _ _ _ _ h⟩
theorem heap_new (w : World) (o : Obj) : (w.alloc o).heap[w.heap.size]? = some o := by show (w.heap.push o)[w.heap.size]? = _; simp
theorem heap_past {w : World} {g : Nat} {c : Obj} (o : Obj) (h : w.heap[g]? = some c) : (w.alloc o).heap[g]? = some c := by
 rw [Below.heap_alloc _ _ _ (Array.getElem?_eq_some_iff.1 h).1, h]
/-- What a walk reads of a record: its cells' numbers. -/
theorem Lies.get {w : World} {A : Option Addr} {l : List El} (h : Lies w A l) {k : Nat} (hk : k < l.length) : ∃ (b q : Nat) (p o f m g : Int) (s : ByteArray), A = some ⟨b, q, none⟩ ∧ b < w.heap.size ∧ Hid (l[k]? = some ⟨p, o, f, m, g, s⟩) ∧ -9223372036854775808 ≤ m ∧
    w.cell? ⟨b, q + k * 6, none⟩ = some (.int .i64 p) ∧ w.cell? ⟨b, q + k * 6 + 1, none⟩ = some (.int .i64 o) ∧ w.cell? ⟨b, q + k * 6 + 2, none⟩ = some (.int .i64 f) ∧ w.cell? ⟨b, q + k * 6 + 3, none⟩ = some (.int .i64 m) ∧ w.cell? ⟨b, q + k * 6 + 4, none⟩ = some (.int .i64 g) ∧ w.cell? ⟨b, q + k * 6 + 5, none⟩ = some (.string s) := by
  obtain ⟨b, q, ⟨p, o, f, m, g, s⟩, hA, hlt, he, hw, h0, h1, h2, h3, h4, h5⟩ := h.at_ hk
  exact ⟨b, q, p, o, f, m, g, s, hA, hlt, he, hw, h0, h1, h2, h3, h4, h5⟩
/-- The same of a record and the one ahead of it. -/
theorem Lies.get2 {w : World} {b q : Nat} {l : List El} (h : Lies w (some ⟨b, q, none⟩) l) {k : Nat} (hk : k < l.length) : ∃ (p o f m g : Int) (s : ByteArray), Hid (l[k]? = some ⟨p, o, f, m, g, s⟩) ∧ -9223372036854775808 ≤ m ∧
    w.cell? ⟨b, q + k * 6, none⟩ = some (.int .i64 p) ∧ w.cell? ⟨b, q + k * 6 + 1, none⟩ = some (.int .i64 o) ∧ w.cell? ⟨b, q + k * 6 + 2, none⟩ = some (.int .i64 f) ∧ w.cell? ⟨b, q + k * 6 + 3, none⟩ = some (.int .i64 m) ∧ w.cell? ⟨b, q + k * 6 + 4, none⟩ = some (.int .i64 g) ∧ w.cell? ⟨b, q + k * 6 + 5, none⟩ = some (.string s) := by
  obtain ⟨b', q', p, o, f, m, g, s, hA, hlt, he, hw, h0, h1, h2, h3, h4, h5⟩ := h.get hk
  injection hA with hA
  injection hA with h6 h7
  subst h6; subst h7
  exact ⟨p, o, f, m, g, s, he, hw, h0, h1, h2, h3, h4, h5⟩
theorem row3 {w : World} {g t : Nat} {a b c : Value} {fr : Nat × Nat} (h : w.heap[g]? = some (.cells #[a, b, c] t fr)) : w.cell? ⟨g, 0, none⟩ = some a ∧ w.cell? ⟨g, 1, none⟩ = some b ∧ w.cell? ⟨g, 2, none⟩ = some c ∧ g < w.heap.size :=
 ⟨cell_of_row _ _ 0 _ _ _ h, cell_of_row _ _ 1 _ _ _ h, cell_of_row _ _ 2 _ _ _ h, (Array.getElem?_eq_some_iff.1 h).1⟩
theorem row6 {w : World} {g t : Nat} {a b c d e f : Value} {fr : Nat × Nat} (h : w.heap[g]? = some (.cells #[a, b, c, d, e, f] t fr)) : w.cell? ⟨g, 0, none⟩ = some a ∧ w.cell? ⟨g, 1, none⟩ = some b ∧ w.cell? ⟨g, 2, none⟩ = some c ∧ w.cell? ⟨g, 3, none⟩ = some d ∧ w.cell? ⟨g, 4, none⟩ = some e ∧ w.cell? ⟨g, 5, none⟩ = some f ∧ g < w.heap.size :=
 ⟨cell_of_row _ _ 0 _ _ _ h, cell_of_row _ _ 1 _ _ _ h, cell_of_row _ _ 2 _ _ _ h, cell_of_row _ _ 3 _ _ _ h, cell_of_row _ _ 4 _ _ _ h, cell_of_row _ _ 5 _ _ _ h, (Array.getElem?_eq_some_iff.1 h).1⟩
/-- Two results: a record that lies in memory, and a temporary. -/
theorem results_two {fn : Func} {p q : Tmp} (h : fn.results = #[.cell p 43, .tmp q]) (tmps : Array Value) (w : World) (g : Nat) (t : TypeId) (cs : Array Value) (v : Value) (fr : Nat × Nat)
    (hp : tmps.getD p undef = .pointer (some ⟨g, 0, none⟩)) (hq : tmps.getD q undef = v) (hg : w.heap[g]? = some (.cells cs t fr)) (hsz : cs.size = 6) :
    (results fn tmps).run Try.prog w = .ok (.tuple #[.agg cs, v]) w := by
  have hp' : tmps[p]?.getD undef = .pointer (some ⟨g, 0, none⟩) := by simpa using hp
  have hq' : tmps[q]?.getD undef = v := by simpa using hq
  have hi : (Try.prog.info? 43).map (·.size) = some cs.size := by rw [hsz]; kernel_rfl
  simp [results, h, hp', hq', asAddr, run_loadVar_row w g t 43 cs fr _ hg Try.underlying43 rfl hi]
theorem end_two {P : Program} {fn : Func} {p q : Tmp} {Q : Ending → World → Prop} (hP : P = Try.prog) (h : fn.results = #[.cell p 43, .tmp q]) (a : Act) (w : World) (g : Nat) (t : TypeId) (cs : Array Value) (v : Value) (fr : Nat × Nat) (hd : a.defers = [])
    (hp : a.tmps.getD p undef = .pointer (some ⟨g, 0, none⟩)) (hq : a.tmps.getD q undef = v) (hg : w.heap[g]? = some (.cells cs t fr)) (hsz : cs.size = 6) (hQ : Q (.returned (.tuple #[.agg cs, v])) w) : bodyPost P fn Q .ret a w := by
  subst hP
  exact bodyPost_ret (v := .tuple #[.agg cs, v]) (results_two h a.tmps w g t cs v fr hp hq hg hsz) hd hQ
def World.six (w : World) (g : Nat) (b0 b1 b2 b3 b4 b5 : Value) : World :=
 (((((w.setCell ⟨g, 0, none⟩ b0).setCell ⟨g, 1, none⟩ b1).setCell ⟨g, 2, none⟩ b2).setCell ⟨g, 3, none⟩ b3).setCell ⟨g, 4, none⟩ b4).setCell ⟨g, 5, none⟩ b5
theorem set6 {w : World} {g t : Nat} {a0 a1 a2 a3 a4 a5 : Value} (h : w.heap[g]? = some (.cells #[a0, a1, a2, a3, a4, a5] t (0, 0))) (b0 b1 b2 b3 b4 b5 : Value) :
    (World.six w g b0 b1 b2 b3 b4 b5).heap[g]? = some (.cells #[b0, b1, b2, b3, b4, b5] t (0, 0)) := by
  have h1 := heap_setCell_same w g 0 _ t b0 h
  have h2 := heap_setCell_same _ g 1 _ t b1 h1
  have h3 := heap_setCell_same _ g 2 _ t b2 h2
  have h4 := heap_setCell_same _ g 3 _ t b3 h3
  have h5 := heap_setCell_same _ g 4 _ t b4 h4
  exact heap_setCell_same _ g 5 _ t b5 h5
theorem Calm.six {a w : World} (h : Calm a w) {g : Nat} (hg : a.heap.size ≤ g) (b0 b1 b2 b3 b4 b5 : Value) : Calm a (World.six w g b0 b1 b2 b3 b4 b5) :=
 (((((h.setCell (p := ⟨g, 0, none⟩) hg b0).setCell (p := ⟨g, 1, none⟩) hg b1).setCell (p := ⟨g, 2, none⟩) hg b2).setCell (p := ⟨g, 3, none⟩) hg b3).setCell (p := ⟨g, 4, none⟩) hg b4).setCell (p := ⟨g, 5, none⟩) hg b5
open Go.RowKit
def cellsOf (l : List El) : List Value := l.flatMap El.cells
def OwnR (base : Nat) (w : World) (v : Value) (l : List El) : Prop := w.ownsRow base 43 6 v l.length (cellsOf l)
theorem cells_len (e : El) : e.cells.length = 6 := rfl
theorem cellsOf_at : ∀ (l : List El) (k j : Nat) (e : El), l[k]? = some e → j < 6 → (cellsOf l)[k * 6 + j]? = e.cells[j]?
 | [], k, j, e, h, _ => by simp at h
 |x :: l, 0, j, e, h, hj => by
  simp at h; subst h
  show (x.cells ++ cellsOf l)[0 * 6 + j]? = _
  rw [Nat.zero_mul, Nat.zero_add, List.getElem?_append_left (by rw [cells_len]; exact hj)]
 |x :: l, k + 1, j, e, h, hj => by
  show (x.cells ++ cellsOf l)[(k + 1) * 6 + j]? = _
  rw [List.getElem?_append_right (by rw [cells_len]; omega), cells_len]
  rw [show (k + 1) * 6 + j - 6 = k * 6 + j by omega]
  exact cellsOf_at l k j e (by simpa using h) hj
theorem cellsOf_snoc (l : List El) (e : El) : cellsOf (l ++ [e]) = cellsOf l ++ e.cells := by unfold cellsOf; simp
theorem Calm.grownBy {w w' : World} (h : Calm w w') (row : Option Nat) : w.grownBy w' row := ⟨Below.os h, Below.tape h, Below.output h, Below.size h, fun _ hk _ => h.block hk⟩
theorem OwnR.lt {base : Nat} {w : World} {v : Value} {l : List El} (h : OwnR base w v l) : ∀ k, v.ownBlock = some k → base ≤ k ∧ k < w.heap.size := World.ownsRow.lt h
theorem OwnR.calm {base : Nat} {w w' : World} {v : Value} {l : List El} (h : OwnR base w v l) (hb : Calm w w') : OwnR base w' v l := World.ownsRow.kept h (hb.grownBy none) (by
 rcases v.ownBlock with _ | k
 ·exact .inl rfl
 ·exact .inr (by simp))
theorem OwnR.nil (base : Nat) (w : World) : OwnR base w (.slice none 0 0) [] := World.ownsRow_nil _ _ _ _
theorem Calm.grown {a w w' : World} {base : Nat} {v : Value} {l : List El} (h : Calm a w) (hb : a.heap.size ≤ base) (ho : OwnR base w v l) (hg : w.grownBy w' v.ownBlock) : Calm a w' :=
 Below.grown h hg h.size fun k hk => Nat.le_trans hb (ho.lt k hk).1
/-- What a call owns reads as its list. -/
theorem OwnR.lies {base : Nat} {w : World} {v : Value} {l : List El} (h : OwnR base w v l) (hw : ∀ e ∈ l, e.wf) : ∃ A c, v = .slice A l.length c ∧ l.length ≤ c ∧ c ≤ 9223372036854775807 ∧ Lies w A l := by
 rcases h.2 with ⟨rfl, hl⟩ | ⟨g, cap, cur, rfl, _, hg, hnc, hcm, _, ht⟩
 ·have : l = [] := List.eq_nil_of_length_eq_zero hl
  subst this
  exact ⟨none, 0, rfl, Nat.le_refl _, by omega, by simp, fun h => absurd h (by simp)⟩
 ·refine ⟨some ⟨g, 0, none⟩, cap, rfl, hnc, by simp only [maxLen] at hcm; omega, hw, fun hpos => ⟨g, 0, rfl, (Array.getElem?_eq_some_iff.1 hg).1, fun k e he => ?_⟩⟩
  have hk : k < l.length := (List.getElem?_eq_some_iff.1 he).1
  have key : ∀ j, j < 6 → w.cell? ⟨g, 0 + k * 6 + j, none⟩ = e.cells[j]? := fun j hj => by
   rw [cell_of_row w g _ cur _ (0, 0) hg, ← cellsOf_at l k j e he hj, ← ht, List.getElem?_take, if_pos (by omega), Nat.zero_add, Array.getElem?_toList]
  exact ⟨key 0 (by omega), key 1 (by omega), key 2 (by omega), key 3 (by omega), key 4 (by omega), key 5 (by omega)⟩
theorem infoElem : (Try.prog.info? 43).map (fun i => (i.zero, i.size, i.bytes)) = some (some (.agg #[.int .i64 0, .int .i64 0, .int .i64 0, .int .i64 0, .int .i64 0, .string ByteArray.empty]), 6, 56) := by kernel_rfl
theorem cells_one (e : El) : ∀ u ∈ e.cells, u.oneCell' = true := by
 intro u hu
 simp only [El.cells, List.mem_cons, List.not_mem_nil, or_false] at hu
 rcases hu with rfl | rfl | rfl | rfl | rfl | rfl <;> rfl
/-- append(out, e): one record more in a row of the call's own. -/
theorem wpList_append_el {ops : Array Oper} {rest : List Oper} {o : Oper} {a : Act} {w : World} {Q : Exit → Act → World → Prop} (hgd : o.guard = none) (s x : Operand)
    (ho : o.op = .call { callee := .builtin .append, args := #[s, x], argTypes := #[22, 22] })
    (base : Nat) (v : Value) (l : List El) (hs : a.eval s = v) (hown : OwnR base w v l) (g t : Nat) (p o' f m gg : Int) (sv : ByteArray) (fr : Nat × Nat)
    (hx : a.eval x = .slice (some ⟨g, 0, none⟩) 1 1) (hg : w.heap[g]? = some (.cells #[.int .i64 p, .int .i64 o', .int .i64 f, .int .i64 m, .int .i64 gg, .string sv] t fr)) (hl : l.length ≤ 1000000) (hbase : base ≤ w.heap.size)
    (h : ∀ v' w', OwnR base w' v' (l ++ [⟨p, o', f, m, gg, sv⟩]) → (∀ w0 : World, w0.heap.size ≤ base → Calm w0 w → Calm w0 w') → wpList Try.prog ops Q rest (a.put o.dst v') w') : wpList Try.prog ops Q (o :: rest) a w := by
  obtain ⟨i0, hi, hz0, hz1, hz2⟩ := info_parts infoElem
  refine wpList_append_own w hgd s x _ ho base 43 i0 _ 6 56 Try.underlying22 hi hz0 hz1 hz2 rfl (by decide) v _ _ hs hown ⟨g, 0, none⟩ 1 1 (El.cells ⟨p, o', f, m, gg, sv⟩) hx rfl (fun j u hj => ?_) (cells_one _) (by unfold maxLen; omega) (by omega) hbase fun v' w' h1 h2 _ => ?_
  · have : (⟨g, 0, none⟩ : Addr).add j = ⟨g, j, none⟩ := by unfold Addr.add; split <;> simp_all
    rw [this, cell_of_row w g j _ t fr hg, ← hj]
    simp [El.cells]
  · refine h v' w' ?_ fun w0 h0 hc => hc.grown h0 hown h2
    unfold OwnR
    rw [List.length_append, cellsOf_snoc]
    exact h1
open Go.ChangeShapes Go.WideShapes Go.ChangeAt Go.RowKit
theorem own : ownKnob Try.prog.godebug = none := by kernel_rfl
theorem laidOut : laidOutB Try.prog = true := by kernel_rfl
section
variable {H : Type} {enc : TypeId × Value → H} {P : Program}
theorem trodAll_stays (hl : laidOutB P = true) {W W' : World} (hb : Calm W W') : ∀ (ts : List TypeId) (vs : List Value) (ds : List (DataW H)) (ps : List MemPlace), ts.all (fun t => P.readableRec t && decide (t < P.types.size)) = true →
    DataW.TrodAll enc P W 0 (fun _ => true) true ts vs ds ps → (∀ x ∈ ps, x.block < W.heap.size) → DataW.TrodAll enc P W' 0 (fun b => decide (b < W.heap.size)) true ts vs ds ps
  | [], [], [], ps, _, h, _ => h
  | t :: ts, v :: vs, d :: ds, ps, ht, h, hlt => by
    obtain ⟨p, q, h1, h2, rfl⟩ := h
    simp only [List.all_cons, Bool.and_eq_true, decide_eq_true_eq] at ht
    exact ⟨p, q, Below.trod hl ht.1.1 ht.1.2 h1 hb fun x hx => hlt x (List.mem_append_left _ hx), trodAll_stays hl hb ts vs ds q (by simpa using ht.2) h2 fun x hx => hlt x (List.mem_append_right _ hx), rfl⟩
  | [], _ :: _, _, _, _, h, _ => absurd h (by simp [DataW.TrodAll])
  | [], [], _ :: _, _, _, h, _ => absurd h (by simp [DataW.TrodAll])
  | _ :: _, [], _, _, _, h, _ => absurd h (by simp [DataW.TrodAll])
  | _ :: _, _ :: _, [], _, _, h, _ => absurd h (by simp [DataW.TrodAll])
/-- The row's post, of a law: it answers true, and nothing that was there has turned. -/
theorem law_post (hl : laidOutB P = true) {f : Func} {s : ChangeSpec} {apart fresh handsOn : Bool} {W W' : World} {args : Array Value} {ds gs : List (DataW H)} {before : List MemPlace}
    (hW : DataW.Whole enc P f.params.toList s.vars apart W args.toList ds gs before) (hb : Calm W W') (hbool : ∃ t, f.resultTypes = #[t] ∧ P.underlying t = some .bool)
    (hts : f.params.toList.all (fun t => P.readableRec t && decide (t < P.types.size)) = true) (hvars : s.vars = []) (hspec : (s.fn H (ds ++ gs)).results = [.lit (.bool true)] ∧ (s.fn H (ds ++ gs)).args = ds ∧ (s.fn H (ds ++ gs)).vars = []) :
    s.post enc P f apart fresh handsOn false W args (.bool true) W' := by
  obtain ⟨t, ht, hu⟩ := hbool
  obtain ⟨h1, h2, h3⟩ := hspec
  have hlt := hW.lt
  obtain ⟨p, q, hA, hV, rfl, hz, hn⟩ := id hW
  rw [hvars] at hV
  obtain ⟨rfl, rfl⟩ := trodVars_none hV
  refine ⟨ds, [], p ++ [], [], p, [], hW, ?_, ?_, ?_, World.keptBut_mono (fun _ h => h) (Below.frame hb _), fun h => by cases h⟩
  · rw [h1, ht]
    exact trodAll_mk1 (shut_bool hu true)
  · rw [h2]
    exact trodAll_stays hl hb _ _ _ _ hts hA fun x hx => hlt x (by simpa using hx)
  · rw [h3, hvars]
    exact rfl
end
section
variable {H : Type} {enc : TypeId × Value → H} {w : World} {base : Nat} {spare : Nat → Bool} {held : Bool}
theorem cellsInt : Try.prog.cellsOf 3 = 1 := by kernel_rfl
theorem cellsStr : Try.prog.cellsOf 9 = 1 := by kernel_rfl
theorem cellsKey : Try.prog.cellsOf 31 = 3 := by kernel_rfl
theorem cellsElem : Try.prog.cellsOf 43 = 6 := by kernel_rfl
theorem wf_range {n : Int} (h : (Lit.int .i64 n).wf = true) : -9223372036854775808 ≤ n ∧ n ≤ 9223372036854775807 := by
 have e1 : IntKind.i64.min = -9223372036854775808 := by decide
 simp [Lit.wf] at h
 omega
theorem key_cells {fuel : Nat} {cs : List Value} {x : DataW H × List MemPlace} (h : DataW.trod enc Try.prog w base spare held fuel 31 cs = some x) :
    ∃ p o f : Int, cs = [.int .i64 p, .int .i64 o, .int .i64 f] ∧ (Lit.int .i64 p).wf = true ∧ (Lit.int .i64 o).wf = true ∧ (Lit.int .i64 f).wf = true := by
  obtain ⟨y0, y1, y2, n, _, hl, h0, h1, h2⟩ := Go.Deep.trod_struct3 Try.underlying31 h
  obtain ⟨p, e0, _, w0⟩ := DataW.trod_int Try.underlying3 h0
  obtain ⟨o, e1, _, w1⟩ := DataW.trod_int Try.underlying3 h1
  obtain ⟨f, e2, _, w2⟩ := DataW.trod_int Try.underlying3 h2
  simp only [cellsInt, cellsKey] at e0 e1 e2 hl
  match cs, hl with
  | [c0, c1, c2], _ =>
    simp at e0 e1 e2
    exact ⟨p, o, f, by rw [e0, e1, e2], w0, w1, w2⟩
theorem elem_cells {fuel : Nat} {cs : List Value} {x : DataW H × List MemPlace} (h : DataW.trod enc Try.prog w base spare held fuel 43 cs = some x) :
    ∃ (p o f m g : Int) (s : ByteArray), cs = [.int .i64 p, .int .i64 o, .int .i64 f, .int .i64 m, .int .i64 g, .string s] ∧ (Lit.int .i64 p).wf = true ∧ (Lit.int .i64 o).wf = true ∧ (Lit.int .i64 f).wf = true ∧ (Lit.int .i64 m).wf = true ∧ (Lit.int .i64 g).wf = true ∧ s.size ≤ maxLen := by
  obtain ⟨y0, y1, y2, y3, n, _, hl, h0, h1, h2, h3⟩ := Go.Joins.trod_struct4 Try.underlying43 h
  obtain ⟨p, o, f, e0, w0, w1, w2⟩ := key_cells h0
  obtain ⟨m, e1, _, w3⟩ := DataW.trod_int Try.underlying3 h1
  obtain ⟨g, e2, _, w4⟩ := DataW.trod_int Try.underlying3 h2
  obtain ⟨s, e3, _, w5⟩ := DataW.trod_string Try.underlying9 h3
  simp only [cellsInt, cellsKey, cellsStr, cellsElem] at e0 e1 e2 e3 hl
  match cs, hl with
  | [c0, c1, c2, c3, c4, c5], _ =>
    simp at e0 e1 e2 e3
    obtain ⟨a0, a1, a2⟩ := e0
    exact ⟨p, o, f, m, g, s, by rw [a0, a1, a2, e1, e2, e3], w0, w1, w2, w3, w4, w5⟩
variable {r : Reach} {b0 : Nat} {v : Value} {d : DataW H} {ps : List MemPlace}
theorem elems_of (R : Nat → El → Prop) : ∀ n, (∀ i, i < n → ∃ e, R i e) → ∃ l : List El, l.length = n ∧ ∀ k e, l[k]? = some e → R k e
 | 0, _ => ⟨[], rfl, by simp⟩
 |n + 1, h => by
  obtain ⟨l, hl, hk⟩ := elems_of R n fun i hi => h i (by omega)
  obtain ⟨e, he⟩ := h n (by omega)
  refine ⟨l ++ [e], by simp [hl], fun k x hx => ?_⟩
  rcases Nat.lt_or_ge k n with hlt | hge
  ·rw [List.getElem?_append_left (by omega)] at hx; exact hk k x hx
  ·rw [List.getElem?_append_right (by omega)] at hx
   have : k = n := by
    have := (List.getElem?_eq_some_iff.1 hx).1
    simp at this; omega
   subst this
   rw [hl] at hx; simp at hx; subst hx; exact he
theorem open_elems (hv : Value.okWide Try.prog w r b0 22 v) (h : DataW.Trod enc Try.prog w base spare held 22 v d ps) :
    ∃ (A : Option Addr) (c : Nat) (l : List El), v = .slice A l.length c ∧ l.length ≤ 9223372036854775807 ∧ Lies w A l := by
  obtain ⟨A, len, cap, rfl⟩ := okWide_slice Try.underlying22 hv
  obtain ⟨fuel, hf⟩ := h
  rcases Go.Deep.open_slice Try.underlying22 hf with ⟨h0, _⟩ | ⟨a, len', cap', m, n, D, Pl, hcs, _, hl, hm, hmm, _, hi⟩
  · have h0' : Value.slice A len cap = .slice none 0 0 := by simpa [Value.cells] using h0
    injection h0' with h1 h2 h3
    subst h1; subst h2; subst h3
    exact ⟨none, 0, [], rfl, by simp, by simp, fun h => absurd h (by simp)⟩
  · have h0' : Value.slice A len cap = .slice (some a) len' cap' := by simpa [Value.cells] using hcs
    injection h0' with h1 h2 h3
    subst h1; subst h2; subst h3
    have hlm : len ≤ m := by rw [hmm]; split <;> omega
    have each : ∀ i, i < len → ∃ e : El, e.wf ∧ a.spot = none ∧ a.block < w.heap.size ∧ ElAt w a.block (a.off + i * 6) e := fun i hil => by
      obtain ⟨cs', hc, ht⟩ := hi i (by omega)
      obtain ⟨p, o, f, m, g, s, rfl, _, _, _, w3, _, _⟩ := elem_cells ht
      rw [cellsElem] at hc
      obtain ⟨_, _, hat⟩ := World.cells?_some hc
      have g0 := hat 0 (by omega); have g1 := hat 1 (by omega); have g2 := hat 2 (by omega); have g3 := hat 3 (by omega); have g4 := hat 4 (by omega); have g5 := hat 5 (by omega)
      simp only [List.getElem?_cons_zero, List.getElem?_cons_succ] at g0 g1 g2 g3 g4 g5
      have hsp : ((a.add (i * 6)).add 0).spot = none := World.cell?_spot g0
      have hbl := World.block_lt_of_cell? _ _ g0
      have hne : ∀ j, j ≠ 0 → (a.add (i * 6)).add j = ⟨a.block, a.off + i * 6 + j, none⟩ := fun j hj => by
        unfold Addr.add
        by_cases h6 : i * 6 = 0 <;> simp [h6, hj]
      have hz : (a.add (i * 6)).add 0 = ⟨a.block, a.off + i * 6, (a.add (i * 6)).spot⟩ := by
        unfold Addr.add
        by_cases h6 : i * 6 = 0 <;> simp [h6]
      rw [hz] at hsp hbl g0
      simp only at hsp hbl
      rw [hsp] at g0
      rw [hne 1 (by omega)] at g1; rw [hne 2 (by omega)] at g2; rw [hne 3 (by omega)] at g3; rw [hne 4 (by omega)] at g4; rw [hne 5 (by omega)] at g5
      refine ⟨⟨p, o, f, m, g, s⟩, (wf_range w3).1, ?_, hbl, g0, g1, g2, g3, g4, g5⟩
      obtain ⟨cs0, hc0, ht0⟩ := hi 0 (by omega)
      obtain ⟨p, o, f, m, g, s, rfl, _⟩ := elem_cells ht0
      rw [cellsElem] at hc0
      have k0 := (World.cells?_some hc0).2.2 0 (by omega)
      simp only [List.getElem?_cons_zero, Nat.zero_mul] at k0
      exact World.cell?_spot (by simpa [Addr.add] using k0)
    obtain ⟨l, rfl, hk⟩ := elems_of (fun i e => e.wf ∧ a.spot = none ∧ a.block < w.heap.size ∧ ElAt w a.block (a.off + i * 6) e) len each
    refine ⟨some a, cap, l, rfl, by simp only [maxLen] at hm; omega, fun e he => ?_, fun hpos => ?_⟩
    · obtain ⟨k, hkl, rfl⟩ := List.getElem_of_mem he
      exact (hk k _ (List.getElem?_eq_getElem hkl)).1
    · have h0 := hk 0 _ (List.getElem?_eq_getElem hpos)
      refine ⟨a.block, a.off, ?_, h0.2.2.1, fun k e he => (hk k e he).2.2.2⟩
      obtain ⟨b, q, sp⟩ := a
      have hsp : sp = none := h0.2.1
      subst hsp; rfl
end
open Go.ChangeShapes Go.WideShapes Go.ChangeAt Go.RowKit
section
variable {H : Type} {enc : TypeId × Value → H} {w : World} {base : Nat} {spare : Nat → Bool} {held : Bool}
theorem list_of {α : Type} (R : Nat → α → Prop) : ∀ n, (∀ i, i < n → ∃ e, R i e) → ∃ l : List α, l.length = n ∧ ∀ k e, l[k]? = some e → R k e
 | 0, _ => ⟨[], rfl, by simp⟩
 |n + 1, h => by
  obtain ⟨l, hl, hk⟩ := list_of R n fun i hi => h i (by omega)
  obtain ⟨e, he⟩ := h n (by omega)
  refine ⟨l ++ [e], by simp [hl], fun k x hx => ?_⟩
  rcases Nat.lt_or_ge k n with hlt | hge
  ·rw [List.getElem?_append_left (by omega)] at hx; exact hk k x hx
  ·rw [List.getElem?_append_right (by omega)] at hx
   have : k = n := by
    have := (List.getElem?_eq_some_iff.1 hx).1
    simp at this; omega
   subst this
   rw [hl] at hx; simp at hx; subst hx; exact he
theorem add_add (b q i j : Nat) : ((⟨b, q, none⟩ : Addr).add i).add j = ⟨b, q + i + j, none⟩ := by
 unfold Addr.add
 split <;> split <;> simp_all
/-- A slice of rows of N cells each. -/
theorem rows_open {t e : TypeId} {fuel : Nat} {cs : List Value} {x : DataW H × List MemPlace} {α : Type} (cv : α → List Value) (wf : α → Prop) (N : Nat) (ht : Try.prog.underlying t = some (.slice e)) (hN : Try.prog.cellsOf e = N) (h0 : 0 < N)
    (hel : ∀ fuel cs x, DataW.trod enc Try.prog w base spare held fuel e cs = some x → ∃ y, cs = cv y ∧ wf y) (h : DataW.trod enc Try.prog w base spare held fuel t cs = some x) :
    ∃ (A : Option Addr) (c : Nat) (l : List α), cs = [.slice A l.length c] ∧ l.length ≤ 9223372036854775807 ∧ l.length ≤ c ∧ (∀ y ∈ l, wf y) ∧
      (0 < l.length → ∃ b q, A = some ⟨b, q, none⟩ ∧ b < w.heap.size ∧ ∀ (k : Nat) (y : α), l[k]? = some y → ∀ j, j < N → w.cell? ⟨b, q + k * N + j, none⟩ = (cv y)[j]?) ∧
      (x.1 = .nil ∧ l.length = 0 ∨ ∃ els sp : List (DataW H), x.1 = .slice els sp ∧ l.length ≤ els.length) := by
  rcases Go.Deep.open_slice ht h with ⟨hcs, hx⟩ | ⟨a, len, cap, m, n, D, Pl, hcs, _, hl, hm, hmm, hx, hi⟩
  · exact ⟨none, 0, [], hcs, by simp, by simp, by simp, fun h => absurd h (by simp), Or.inl ⟨by rw [hx], rfl⟩⟩
  · have hlm : len ≤ m := by rw [hmm]; split <;> omega
    have hsp : 0 < len → a.spot = none := fun hpos => by
      obtain ⟨cs0, hc0, ht0⟩ := hi 0 (by omega)
      rw [hN] at hc0
      obtain ⟨_, hlc, hat⟩ := World.cells?_some hc0
      have k0 := hat 0 h0
      obtain ⟨v0, hv0⟩ : ∃ v, cs0[0]? = some v := ⟨_, List.getElem?_eq_getElem (by omega)⟩
      rw [hv0, Nat.zero_mul] at k0
      exact World.cell?_spot (by simpa [Addr.add] using k0)
    have each : ∀ i, i < len → ∃ y : α, wf y ∧ a.block < w.heap.size ∧ ∀ j, j < N → w.cell? ⟨a.block, a.off + i * N + j, none⟩ = (cv y)[j]? := fun i hil => by
      obtain ⟨cs', hc, ht'⟩ := hi i (by omega)
      obtain ⟨y, rfl, hwf⟩ := hel _ _ _ ht'
      rw [hN] at hc
      obtain ⟨_, hlc, hat⟩ := World.cells?_some hc
      have hs := hsp (by omega)
      obtain ⟨b, q, sp⟩ := a
      simp only at hs
      subst hs
      simp only [add_add] at hat
      refine ⟨y, hwf, ?_, fun j hj => hat j hj⟩
      have k0 := hat 0 h0
      obtain ⟨v0, hv0⟩ : ∃ v, (cv y)[0]? = some v := ⟨_, List.getElem?_eq_getElem (by omega)⟩
      rw [hv0] at k0
      have hbl := World.block_lt_of_cell? _ _ k0
      exact hbl
    obtain ⟨l, rfl, hk⟩ := list_of (fun i y => wf y ∧ a.block < w.heap.size ∧ ∀ j, j < N → w.cell? ⟨a.block, a.off + i * N + j, none⟩ = (cv y)[j]?) len each
    refine ⟨some a, cap, l, hcs, by simp only [maxLen] at hm; omega, hl, fun y hy => ?_, fun hpos => ?_, Or.inr ⟨_, _, by rw [hx], by simp⟩⟩
    · obtain ⟨k, hkl, rfl⟩ := List.getElem_of_mem hy
      exact (hk k _ (List.getElem?_eq_getElem hkl)).1
    · have hs := hsp hpos
      obtain ⟨b, q, sp⟩ := a
      simp only at hs
      subst hs
      exact ⟨b, q, rfl, (hk 0 _ (List.getElem?_eq_getElem hpos)).2.1, fun k y hy => (hk k y hy).2.2⟩
theorem trod_struct5 {P : Program} {t : TypeId} {f0 f1 f2 f3 f4 : Field} {fuel : Nat} {cs : List Value} {x : DataW H × List MemPlace} (ht : P.underlying t = some (.struct #[f0, f1, f2, f3, f4])) (h : DataW.trod enc P w base spare held fuel t cs = some x) :
    ∃ y0 y1 y2 y3 y4 n, x.1 = .agg [y0.1, y1.1, y2.1, y3.1, y4.1] ∧ cs.length = P.cellsOf t ∧ DataW.trod enc P w base spare held n f0.type ((cs.drop f0.offset).take (P.cellsOf f0.type)) = some y0 ∧
      DataW.trod enc P w base spare held n f1.type ((cs.drop f1.offset).take (P.cellsOf f1.type)) = some y1 ∧ DataW.trod enc P w base spare held n f2.type ((cs.drop f2.offset).take (P.cellsOf f2.type)) = some y2 ∧
      DataW.trod enc P w base spare held n f3.type ((cs.drop f3.offset).take (P.cellsOf f3.type)) = some y3 ∧ DataW.trod enc P w base spare held n f4.type ((cs.drop f4.offset).take (P.cellsOf f4.type)) = some y4 := by
  obtain ⟨xs, n, _, rfl, hl, hlen, hf⟩ := DataW.trod_struct ht h
  match xs, hlen with
  | [y0, y1, y2, y3, y4], _ => exact ⟨y0, y1, y2, y3, y4, n, by simp, hl, by simpa using hf 0 f0 rfl, by simpa using hf 1 f1 rfl, by simpa using hf 2 f2 rfl, by simpa using hf 3 f3 rfl, by simpa using hf 4 f4 rfl⟩
variable {r : Reach} {b0 : Nat} {v : Value} {d : DataW H} {ps : List MemPlace}
end
open Go.RowKit
theorem decide_Fol (p o f m g : Int) (s : ByteArray) (p' o' f' m' g' : Int) (s' : ByteArray) :
    decide (Fol ⟨p, o, f, m, g, s⟩ ⟨p', o', f', m', g', s'⟩) = (decide (scmp p o f m p' o' f' m' = -1) && (!decide ((p, o, f) = (p', o', f')) || !decide (liveP m g m'))) := by
  rw [Bool.eq_iff_iff]
  simp only [Bool.and_eq_true, Bool.or_eq_true, decide_eq_true_eq, Bool.not_eq_true', decide_eq_false_iff_not]
  have h := scmp_sLt (a := ⟨p, o, f, m, g, s⟩) (b := ⟨p', o', f', m', g', s'⟩)
  simp only at h
  rw [h]
  unfold Fol
  simp only [El.key]
  constructor
  · rintro ⟨h1, h2⟩
    refine ⟨h1, ?_⟩
    by_cases e : (p, o, f) = (p', o', f')
    · right; have := h2 e; unfold liveP; omega
    · exact .inl e
  · rintro ⟨h1, h2⟩
    refine ⟨h1, fun e => ?_⟩
    rcases h2 with h2 | h2
    · exact absurd e h2
    · rw [e, sLt_same] at h1
      unfold liveP at h2; omega
set_option maxHeartbeats 2000000 in
theorem follows_any (p o f m g : Int) (s : ByteArray) (p' o' f' m' g' : Int) (s' : ByteArray) (w : World) :
    Calls Try.prog 57 #[.agg #[.int .i64 p, .int .i64 o, .int .i64 f, .int .i64 m, .int .i64 g, .string s], .agg #[.int .i64 p', .int .i64 o', .int .i64 f', .int .i64 m', .int .i64 g', .string s']] w fun e w' => e = .returned (.bool (decide (Fol ⟨p, o, f, m, g, s⟩ ⟨p', o', f', m', g', s'⟩))) ∧ Calm w w' := by
  rw [decide_Fol]
  have hc := scmp_or p o f m p' o' f' m'
  generalize hK : scmp p o f m p' o' f' m' = c at hc ⊢
  have cS : ∀ u, Calls Try.prog 80 #[.agg #[.int .i64 p, .int .i64 o, .int .i64 f, .int .i64 m], .agg #[.int .i64 p', .int .i64 o', .int .i64 f', .int .i64 m']] u fun e w' => e = .returned (.int .i64 c) ∧ Calm u w' := fun u => hK ▸ cmpSpot_any p o f m p' o' f' m' u
  clear hK
  go_enter Try.func57, Try.ntmps57
  go_upto_region 1 with fail
  have hx : ((w.alloc (.cells #[.int .i64 p, .int .i64 o, .int .i64 f, .int .i64 m, .int .i64 g, .string s] 43)).alloc (.cells #[.int .i64 p', .int .i64 o', .int .i64 f', .int .i64 m', .int .i64 g', .string s'] 43)).heap[w.heap.size]? = some (.cells #[.int .i64 p, .int .i64 o, .int .i64 f, .int .i64 m, .int .i64 g, .string s] 43 (0, 0)) := heap_past _ (heap_new _ _)
  have hy : ((w.alloc (.cells #[.int .i64 p, .int .i64 o, .int .i64 f, .int .i64 m, .int .i64 g, .string s] 43)).alloc (.cells #[.int .i64 p', .int .i64 o', .int .i64 f', .int .i64 m', .int .i64 g', .string s'] 43)).heap[w.heap.size + 1]? = some (.cells #[.int .i64 p', .int .i64 o', .int .i64 f', .int .i64 m', .int .i64 g', .string s'] 43 (0, 0)) := by simpa using heap_new (w.alloc (.cells #[.int .i64 p, .int .i64 o, .int .i64 f, .int .i64 m, .int .i64 g, .string s] 43)) (.cells #[.int .i64 p', .int .i64 o', .int .i64 f', .int .i64 m', .int .i64 g', .string s'] 43)
  have hu : Calm w ((w.alloc (.cells #[.int .i64 p, .int .i64 o, .int .i64 f, .int .i64 m, .int .i64 g, .string s] 43)).alloc (.cells #[.int .i64 p', .int .i64 o', .int .i64 f', .int .i64 m', .int .i64 g', .string s'] 43)) := ((Calm.refl _).alloc _).alloc _
  generalize ((w.alloc (.cells #[.int .i64 p, .int .i64 o, .int .i64 f, .int .i64 m, .int .i64 g, .string s] 43)).alloc (.cells #[.int .i64 p', .int .i64 o', .int .i64 f', .int .i64 m', .int .i64 g', .string s'] 43)) = wc at hx hy hu ⊢
  obtain ⟨x0, x1, x2, x3, x4, x5, hxs⟩ := row6 hx
  obtain ⟨y0, y1, y2, y3, y4, y5, hys⟩ := row6 hy
  refine wp_region_plan [.val (.agg #[.int .i64 p, .int .i64 o, .int .i64 f, .int .i64 m, .int .i64 g, .string s]), .val (.agg #[.int .i64 p, .int .i64 o, .int .i64 f, .int .i64 m]), .val (.agg #[.int .i64 p', .int .i64 o', .int .i64 f', .int .i64 m', .int .i64 g', .string s']), .val (.agg #[.int .i64 p', .int .i64 o', .int .i64 f', .int .i64 m']), .val (.int .i64 c), .val (.bool (decide (0 ≤ c)))] (by kernel_rfl) (by kernel_rfl) (by kernel_rfl) ?_
  intro X
  iterate 6
    refine plan_val (by kernel_rfl) (fun u hu => ?_) ?_
    · obtain ⟨hc, hf, hz⟩ := hu.of_drew.facts
      go_simp
      all_goals first
        | (go_at_call 81; exact spot_any _ _ _ _ _ _ _)
        | (go_at_call 80; exact cS _)
    simp only [Act.put, List.setIfInBounds_toArray, List.set_cons_zero, List.set_cons_succ, Nat.reduceAdd]
  refine plan_end ?_
  intro w' hB
  have hk := hB.calm.of_drew
  clear hB cS
  replace hx := (hk.block hxs).trans hx
  replace hy := (hk.block hys).trans hy
  replace hu := hu.call hk
  clear hk x0 x1 x2 x3 x4 x5 y0 y1 y2 y3 y4 y5 hxs hys
  obtain ⟨x0, x1, x2, x3, x4, x5, hxs⟩ := row6 hx
  obtain ⟨y0, y1, y2, y3, y4, y5, hys⟩ := row6 hy
  by_cases h1 : 0 ≤ c
  · have e1 : decide (0 ≤ c) = true := decide_eq_true h1
    have e2 : decide (c = -1) = false := decide_eq_false (by omega)
    go_wp2_with fail
    go_ret
    exact ⟨by rw [e2]; rfl, hu⟩
  · have e1 : decide (0 ≤ c) = false := decide_eq_false h1
    have e2 : c = -1 := by omega
    subst e2
    clear hc h1
    go_wp2_with (go_at_call 78; refine (live_any _ _ _ _ _ _ _ _).mono ?_; rintro e w1 ⟨rfl, hb1⟩)
    all_goals
      go_ret
      exact ⟨rfl, by first | exact hu | exact hu.call (by assumption)⟩
theorem stepErr_err {l : List El} {k : Nat} {e : El} (h : l[k]? = some e) (he : e.err ≠ 0) : stepErr l k = e.err := by
 unfold stepErr; rw [h]; simp only; rw [if_pos he]
theorem runErr_at {l : List El} {k : Nat} (hl : ¬ 400 < l.length) (h : ∀ j, j < k → stepErr l j = 0) (hk : stepErr l k ≠ 0) (hlt : k < l.length) : stepErr l k = runErr l := by
 unfold runErr; rw [if_neg hl, firstErr_at h hk hlt]
theorem runErr_good {l : List El} (hl : ¬ 400 < l.length) (h : ∀ j, j < l.length → stepErr l j = 0) : 0 = runErr l := by
 unfold runErr; rw [if_neg hl, firstErr_zero.2 h]
theorem stepErr_form {l : List El} {k : Nat} {e d : El} (h : l[k]? = some e) (he : e.err = 0) (h0 : 0 < k) (hd : l[k - 1]? = some d) : stepErr l k = if Fol d e then 0 else 3 := by
 unfold stepErr; rw [h]; simp only; rw [if_neg (by simpa using he), if_neg (by omega), hd]
theorem stepErr_first {l : List El} {e : El} (h : l[0]? = some e) (he : e.err = 0) : stepErr l 0 = 0 := by
 unfold stepErr; rw [h]; simp only; rw [if_neg (by simpa using he)]; rfl
def NoErr (l : List El) (k : Nat) : Prop := ∀ j, j < k → stepErr l j = 0
set_option maxHeartbeats 4000000 in
theorem runCheck_any (A : Option Addr) (c : Nat) (l : List El) (w : World) (hn : l.length ≤ 9223372036854775807) (hL : Lies w A l) :
    Calls Try.prog 26 #[.slice A l.length c] w fun e w' => e = .returned (.int .i64 (runErr l)) ∧ Calm w w' := by
  by_cases hbig : 400 < l.length
  · have K : Hid (2 = runErr l) := by show _ = _; unfold runErr; rw [if_pos hbig]
    go_enter Try.func26, Try.ntmps26
    go_wp2_with fail
    go_ret
    exact ⟨ret_int K.out, Calm.refl _⟩
  go_enter Try.func26, Try.ntmps26
  go_wp2_with fail
  go_loopw [11] (fun i wr => ∃ k : Nat, k ≤ l.length ∧ i = .int .i64 k ∧ Calm w wr ∧ NoErr l k) (fun i _ => l.length - (intOf i).toNat)
  case atStart => exact ⟨0, Nat.zero_le _, rfl, Calm.refl _, fun j hj => absurd hj (Nat.not_lt_zero _)⟩
  case round =>
    obtain ⟨k, hk, rfl, hu, hN⟩ := hrel
    by_cases hlt : k < l.length
    rotate_left
    · have hkl : k = l.length := by omega
      have K : Hid (0 = runErr l) := runErr_good hbig (by rw [← hkl]; exact hN)
      clear hkl
      go_wp2_with fail
      go_ret
      exact ⟨ret_int K.out, hu⟩
    obtain ⟨b, q, p, o, f, m, g, s, rfl, hb, HE, hm, c0, c1, c2, c3, c4, c5⟩ := (hL.calm hu).get hlt
    by_cases he : elemErr p o f m g s.size = 0
    rotate_left
    · have b1 : (elemErr p o f m g s.size != 0) = true := by simpa using he
      have K : Hid (elemErr p o f m g s.size = runErr l) := by
        have h1 := stepErr_err HE.out (show El.err ⟨p, o, f, m, g, s⟩ ≠ 0 from he)
        rw [← runErr_at hbig hN (by rw [h1]; exact he) hlt, h1]; rfl
      clear he
      go_wp2_with (go_at_call 56; refine (elemCheck_any _ _ _ _ _ _ _).mono ?_; rintro e w1 ⟨rfl, hb1⟩)
      go_ret
      exact ⟨ret_int K.out, by repeat (first | (with_reducible exact Calm.refl _) | (with_reducible refine Calm.alloc ?_ _) | (with_reducible refine Calm.drew ?_) | (with_reducible refine Calm.drewN ?_ _) | (refine Calm.call ?_ (by with_reducible assumption)))⟩
    have b1 : (elemErr p o f m g s.size != 0) = false := by simpa using he
    have HE0 : Hid (elemErr p o f m g s.size = 0) := he
    clear he
    by_cases hk0 : k = 0
    · subst hk0
      have hN1 : NoErr l 1 := fun j hj => by
        have : j = 0 := by omega
        subst this
        exact stepErr_first HE.out HE0.out
      simp only [Nat.zero_mul, Nat.add_zero] at c0 c1 c2 c3 c4 c5
      go_wp2_with (go_at_call 56; refine (elemCheck_any _ _ _ _ _ _ _).mono ?_; rintro e w1 ⟨rfl, hb1⟩)
      refine wp_region_plan [.val (.int .i64 0), .val (.bool false), .val (.bool false), .idle, .idle, .idle, .idle, .idle, .idle, .idle, .idle, .val (.bool false)] (by kernel_rfl) (by kernel_rfl) (by kernel_rfl) ?_
      intro X
      iterate 3
        refine plan_val (by kernel_rfl) (fun u hu => ?_) ?_
        · obtain ⟨hc, hf, hz⟩ := hu.of_drew.facts
          go_simp
        simp only [Act.put, List.setIfInBounds_toArray, List.set_cons_zero, List.set_cons_succ, Nat.reduceAdd]
      iterate 8
        refine plan_idle (by kernel_rfl) ?_
        simp only [Act.put, List.setIfInBounds_toArray, List.set_cons_zero, List.set_cons_succ, Nat.reduceAdd]
      iterate 1
        refine plan_val (by kernel_rfl) (fun u hu => ?_) ?_
        · obtain ⟨hc, hf, hz⟩ := hu.of_drew.facts
          go_simp
        simp only [Act.put, List.setIfInBounds_toArray, List.set_cons_zero, List.set_cons_succ, Nat.reduceAdd]
      refine plan_end ?_
      intro w' hB
      have hk := hB.calm.of_drew
      clear hB
      go_wp2_with fail
      exact ⟨⟨1, by omega, rfl, ((hu.alloc _).call hb1).call hk, hN1⟩, by simp [intOf]; omega⟩
    obtain ⟨p', o', f', m', g', s', HE', hm', d0, d1, d2, d3, d4, d5⟩ := (hL.calm hu).get2 (k := k - 1) (by omega)
    have hS := stepErr_form HE.out HE0.out (by omega) HE'.out
    have hk1 : 1 ≤ k := by omega
    by_cases hF : Fol ⟨p', o', f', m', g', s'⟩ ⟨p, o, f, m, g, s⟩
    · have b2 : decide (Fol ⟨p', o', f', m', g', s'⟩ ⟨p, o, f, m, g, s⟩) = true := decide_eq_true hF
      rw [if_pos hF] at hS
      have hN1 : NoErr l (k + 1) := fun j hj => by
        rcases Nat.lt_or_ge j k with h | h
        · exact hN j h
        · rw [show j = k by omega]; exact hS
      clear hS hF hk0
      go_wp2_with (go_at_call 56; refine (elemCheck_any _ _ _ _ _ _ _).mono ?_; rintro e w1 ⟨rfl, hb1⟩)
      have hx := (hb1.block (k := wr.heap.size) (by simp)).trans (heap_new wr _)
      obtain ⟨x0, x1, x2, x3, x4, x5, hxs⟩ := row6 hx
      have hv := ((Calm.refl wr).alloc _).call hb1
      have hv1 := hu.call hv
      have hb2 : b < w1.heap.size := Nat.lt_of_lt_of_le hb hv.size
      have hvc := hv.facts.1
      replace d0 := (hvc _ _ hb).trans d0; replace d1 := (hvc _ _ hb).trans d1; replace d2 := (hvc _ _ hb).trans d2; replace d3 := (hvc _ _ hb).trans d3; replace d4 := (hvc _ _ hb).trans d4; replace d5 := (hvc _ _ hb).trans d5
      clear hvc hv hb1 hx c0 c1 c2 c3 c4 c5 b1 hL
      have F : ∀ u, Calls Try.prog 57 #[.agg #[.int .i64 p', .int .i64 o', .int .i64 f', .int .i64 m', .int .i64 g', .string s'], .agg #[.int .i64 p, .int .i64 o, .int .i64 f, .int .i64 m, .int .i64 g, .string s]] u fun e w' => e = .returned (.bool true) ∧ Calm u w' := fun u => by
        rw [← b2]; exact follows_any p' o' f' m' g' s' p o f m g s u
      clear b2
      have z0 : 0 < k := hk1
      have z1 : IntKind.i64.wrap ((k : Int) - 1) = (k : Int) - 1 := IntWalk.i64_in _ (by omega)
      have z2 : ((k : Int) - 1).toNat = k - 1 := by omega
      have z3 : 0 ≤ (k : Int) - 1 := by omega
      have z4 : (k : Int) - 1 < l.length := by omega
      have z5 : 1 ≤ (k : Int) := by omega
      refine wp_region_plan [.val (.int .i64 k), .val (.bool true), .val (.bool true), .val (.slice (some ⟨b, q, none⟩) l.length c), .val (.int .i64 k), .val (.int .i64 (k - 1)), .val (.pointer (some ⟨b, q + (k - 1) * 6, none⟩)), .val (.agg #[.int .i64 p', .int .i64 o', .int .i64 f', .int .i64 m', .int .i64 g', .string s']), .val (.agg #[.int .i64 p, .int .i64 o, .int .i64 f, .int .i64 m, .int .i64 g, .string s]), .val (.bool true), .val (.bool false), .val (.bool false)] (by kernel_rfl) (by kernel_rfl) (by kernel_rfl) ?_
      intro X
      iterate 12
        refine plan_val (by kernel_rfl) (fun u hu => ?_) ?_
        · obtain ⟨hc, hf, hz⟩ := hu.of_drew.facts
          go_simp
          all_goals first
            | (go_at_call 57; exact F _)
        simp only [Act.put, List.setIfInBounds_toArray, List.set_cons_zero, List.set_cons_succ, Nat.reduceAdd]
      refine plan_end ?_
      intro w' hB
      have hk := hB.calm.of_drew
      clear hB z0 z1 z2 z3 z4 z5
      go_wp2_with fail
      go_roundw
      case rel => exact ⟨k + 1, by omega, by go_num, hv1.call hk, hN1⟩
      case measure => simp [intOf]; omega
    · have b2 : decide (Fol ⟨p', o', f', m', g', s'⟩ ⟨p, o, f, m, g, s⟩) = false := decide_eq_false hF
      rw [if_neg hF] at hS
      have K : Hid (3 = runErr l) := hS.symm.trans (runErr_at hbig hN (by rw [hS]; decide) hlt)
      clear hS hF hk0
      go_wp2_with (go_at_call 56; refine (elemCheck_any _ _ _ _ _ _ _).mono ?_; rintro e w1 ⟨rfl, hb1⟩)
      have hx := (hb1.block (k := wr.heap.size) (by simp)).trans (heap_new wr _)
      obtain ⟨x0, x1, x2, x3, x4, x5, hxs⟩ := row6 hx
      have hv := ((Calm.refl wr).alloc _).call hb1
      have hv1 := hu.call hv
      have hb2 : b < w1.heap.size := Nat.lt_of_lt_of_le hb hv.size
      have hvc := hv.facts.1
      replace d0 := (hvc _ _ hb).trans d0; replace d1 := (hvc _ _ hb).trans d1; replace d2 := (hvc _ _ hb).trans d2; replace d3 := (hvc _ _ hb).trans d3; replace d4 := (hvc _ _ hb).trans d4; replace d5 := (hvc _ _ hb).trans d5
      clear hvc hv hb1 hx c0 c1 c2 c3 c4 c5 b1 hL
      have F : ∀ u, Calls Try.prog 57 #[.agg #[.int .i64 p', .int .i64 o', .int .i64 f', .int .i64 m', .int .i64 g', .string s'], .agg #[.int .i64 p, .int .i64 o, .int .i64 f, .int .i64 m, .int .i64 g, .string s]] u fun e w' => e = .returned (.bool false) ∧ Calm u w' := fun u => by
        rw [← b2]; exact follows_any p' o' f' m' g' s' p o f m g s u
      clear b2
      have z0 : 0 < k := hk1
      have z1 : IntKind.i64.wrap ((k : Int) - 1) = (k : Int) - 1 := IntWalk.i64_in _ (by omega)
      have z2 : ((k : Int) - 1).toNat = k - 1 := by omega
      have z3 : 0 ≤ (k : Int) - 1 := by omega
      have z4 : (k : Int) - 1 < l.length := by omega
      have z5 : 1 ≤ (k : Int) := by omega
      refine wp_region_plan [.val (.int .i64 k), .val (.bool true), .val (.bool true), .val (.slice (some ⟨b, q, none⟩) l.length c), .val (.int .i64 k), .val (.int .i64 (k - 1)), .val (.pointer (some ⟨b, q + (k - 1) * 6, none⟩)), .val (.agg #[.int .i64 p', .int .i64 o', .int .i64 f', .int .i64 m', .int .i64 g', .string s']), .val (.agg #[.int .i64 p, .int .i64 o, .int .i64 f, .int .i64 m, .int .i64 g, .string s]), .val (.bool false), .val (.bool true), .val (.bool true)] (by kernel_rfl) (by kernel_rfl) (by kernel_rfl) ?_
      intro X
      iterate 12
        refine plan_val (by kernel_rfl) (fun u hu => ?_) ?_
        · obtain ⟨hc, hf, hz⟩ := hu.of_drew.facts
          go_simp
          all_goals first
            | (go_at_call 57; exact F _)
        simp only [Act.put, List.setIfInBounds_toArray, List.set_cons_zero, List.set_cons_succ, Nat.reduceAdd]
      refine plan_end ?_
      intro w' hB
      have hk := hB.calm.of_drew
      clear hB z0 z1 z2 z3 z4 z5
      go_wp2_with fail
      go_ret
      exact ⟨ret_int K.out, hv1.call hk⟩
open Go.RowKit
theorem str_ne {s s' : ByteArray} (h : ¬ s = s') : (s.toList == s'.toList) = false := by
 cases e : s.toList == s'.toList
 ·rfl
 ·exfalso
  have h2 := eq_of_beq e
  rw [ByteArray.toList_eq, ByteArray.toList_eq] at h2
  exact h (ByteArray.ext (Array.toList_inj.1 h2))
theorem atR_iff {l : List El} (h : l.Pairwise Fol) {k : Int × Int × Int} {t : Int} {e : El} : atR l k t = some e ↔ e ∈ l ∧ isAt k t e = true := by
 constructor
 ·intro h1
  exact ⟨List.mem_of_find?_eq_some h1, List.find?_some h1⟩
 ·rintro ⟨h1, h2⟩
  obtain ⟨i, hi, rfl⟩ := List.getElem_of_mem h1
  exact find_of h hi h2
theorem atR_none {l : List El} {k : Int × Int × Int} {t : Int} : atR l k t = none ↔ ∀ e ∈ l, isAt k t e = false := by
 unfold atR
 rw [List.find?_eq_none]
 constructor
 ·intro h e he; have := h e he; simpa using this
 ·intro h e he; rw [h e he]; simp
theorem sorted_ext {α : Type} {r : α → α → Prop} (ir : ∀ a, ¬ r a a) (asy : ∀ a b, r a b → ¬ r b a) : ∀ {l l' : List α}, l.Pairwise r → l'.Pairwise r → (∀ e, e ∈ l ↔ e ∈ l') → l = l'
 | [], [], _, _, _ => rfl
 | [], y :: l', _, _, h => absurd ((h y).2 (by simp)) (by simp)
 |x :: l, [], _, _, h => absurd ((h x).1 (by simp)) (by simp)
 |x :: l, y :: l', hl, hl', h => by
  rw [List.pairwise_cons] at hl hl'
  have hxy : x = y := by
   rcases List.mem_cons.1 ((h x).1 (by simp)) with h1 | h1
   ·exact h1
   rcases List.mem_cons.1 ((h y).2 (by simp)) with h2 | h2
   ·exact h2.symm
   exact absurd (hl.1 y h2) (asy _ _ (hl'.1 x h1))
  subst hxy
  rw [sorted_ext ir asy hl.2 hl'.2 fun e => ?_]
  constructor
  ·intro he
   rcases List.mem_cons.1 ((h e).1 (by simp [he])) with h1 | h1
   ·subst h1; exact absurd (hl.1 e he) (ir e)
   ·exact h1
  ·intro he
   rcases List.mem_cons.1 ((h e).2 (by simp [he])) with h1 | h1
   ·subst h1; exact absurd (hl'.1 e he) (ir e)
   ·exact h1
/-- What a range answers of a key is what At answers. -/
theorem at_range {l : List El} (hG : Good l) {lo hi : Int × Int × Int} {t : Int} {e : El} (he : e ∈ rangeR l lo hi t) : atR l e.key t = some e := by
 obtain ⟨h1, h2⟩ := List.mem_filter.1 he
 unfold inR at h2; rw [decide_eq_true_eq] at h2
 refine (atR_iff hG.2.2).2 ⟨h1, ?_⟩
 unfold isAt; rw [decide_eq_true_eq]; exact ⟨rfl, h2.2.2⟩
/-- The keys of a range rise: no two records of one key are live at one time. -/
theorem range_rise {l : List El} (hG : Good l) (lo hi : Int × Int × Int) (t : Int) : (rangeR l lo hi t).Pairwise (fun a b => kLt a.key b.key) := by
 unfold rangeR
 rw [List.pairwise_filter]
 refine hG.2.2.imp fun {a b} h ha hb => ?_
 unfold inR at ha hb; rw [decide_eq_true_eq] at ha hb
 rcases h.1 with h1 | ⟨h1, _⟩
 ·exact h1
 ·have h2 := h.2 h1
  have h3 := ha.2.2
  have h4 := hb.2.2
  unfold El.live liveP at h3 h4
  omega
theorem key_good {l : List El} (hG : Good l) {e : El} (he : e ∈ l) : kErr e.key = 0 := by
 have h := hG.2.1 e he
 unfold El.err at h
 rw [elemErr_zero] at h
 exact h.1
end Go.Proofs.Ythfjanmihfbjoaa
