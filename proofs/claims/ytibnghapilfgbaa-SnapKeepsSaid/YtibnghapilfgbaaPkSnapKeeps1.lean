/- Texts of one kind in one file. -/
import Derived.Below
import Derived.Laws.BitsAll
import Derived.IntWalk
import Derived.Test.YtibnghapilfgbaaRows
import Derived.Handy
import Derived.Deep.Quiet
import Derived.Deep.QuietTactic
import Derived.Laws.Tables
import Derived.StillTail
import Derived.WalkSpells
import Derived.WalkLawsBesides
import Derived.Lib.Hide
import Derived.Deep.RegionWith
import Derived.Deep.RegionHeld3
import Derived.Deep.DeepCutAuto
import Derived.BigQuiet
import Derived.Laws.OwnMore
import Derived.Deep.AppendLies
import Derived.Deep.Draws
import Derived.Laws.BytesArg
import Derived.Laws.MakeOwn
import Derived.Laws.IdiomStrings
import Derived.OwnWalk
import Derived.Lib.AppendStr
import Derived.Deep.Slices
import Derived.ProofKit
import Derived.OpenShut
import Derived.Lib.SmallJoins
import Derived.SizedLaws
import Derived.Deep.LoopGhost
import Derived.Outline
import Derived.Lib.SliceRun
import Derived.Maps.AppendAt
import Derived.RangeFuncNested
import Derived.RangeFuncBound
import Derived.RangeFuncCalls
import Derived.RangeFuncLeaves
import Derived.Shelf.Abstract
import Derived.Shelf.RegionOpen
import Derived.WalkKit
import Derived.OwnWalkIn
import Derived.TacticsInMore
import Derived.LoopNIn
import Derived.LoopIn
import Derived.Deep.AppendSrc
import Derived.Deep.RegionLaw
import Derived.Laws.Externs
import Derived.Lib.AppendZerosOnto
import Derived.Lib.Overlaps
import Derived.Lib.Bytealg
import Derived.Sort.Walk0
set_option maxRecDepth 100000
namespace Go.Proofs.Ytibnghapilfgbaa
def keyErr (p o f : Int) : Int := if 0 ≤ p ∧ p ≤ 15 ∧ 0 ≤ o ∧ o ≤ 1048576 ∧ 0 ≤ f ∧ f ≤ 1073741824 then 0 else 1
def icmp (a b : Int) : Int := if a < b then -1 else if b < a then 1 else 0
def kcmp (p o f p' o' f' : Int) : Int := if icmp p p' = 0 then (if icmp o o' = 0 then icmp f f' else icmp o o') else icmp p p'
def scmp (p o f m p' o' f' m' : Int) : Int := if kcmp p o f p' o' f' = 0 then icmp m m' else kcmp p o f p' o' f'
def timeOk (m g : Int) : Prop := 1 ≤ m ∧ m ≤ 2147483647 ∧ (g = 0 ∨ (m < g ∧ g ≤ 2147483647))
instance (m g : Int) : Decidable (timeOk m g) := by unfold timeOk; infer_instance
def elemErr (p o f m g n : Int) : Int := if keyErr p o f = 0 then (if timeOk m g then (if n ≤ 40 then 0 else 2) else 9) else keyErr p o f
def liveP (m g t : Int) : Prop := m ≤ t ∧ (g = 0 ∨ t < g)
instance (m g t : Int) : Decidable (liveP m g t) := by unfold liveP; infer_instance
theorem keyErr_ok {p o f : Int} (h1 : 0 ≤ p) (h2 : p ≤ 15) (h3 : 0 ≤ o) (h4 : o ≤ 1048576) (h5 : 0 ≤ f) (h6 : f ≤ 1073741824) : keyErr p o f = 0 := by
 unfold keyErr; rw [if_pos ⟨h1, h2, h3, h4, h5, h6⟩]
theorem keyErr_no {p o f : Int} (h : p < 0 ∨ 15 < p ∨ o < 0 ∨ 1048576 < o ∨ f < 0 ∨ 1073741824 < f) : keyErr p o f = 1 := by
 unfold keyErr; rw [if_neg (by omega)]
theorem kcmp_lt {p o f p' o' f' : Int} : kcmp p o f p' o' f' = -1 ↔ (p < p' ∨ p = p' ∧ (o < o' ∨ o = o' ∧ f < f')) := by
 unfold kcmp icmp
 by_cases h1 : p < p' <;> by_cases h2 : p' < p <;> by_cases h3 : o < o' <;> by_cases h4 : o' < o <;> by_cases h5 : f < f' <;> by_cases h6 : f' < f <;> simp [*] <;> omega
theorem kcmp_eq {p o f p' o' f' : Int} : kcmp p o f p' o' f' = 0 ↔ (p = p' ∧ o = o' ∧ f = f') := by
 unfold kcmp icmp
 by_cases h1 : p < p' <;> by_cases h2 : p' < p <;> by_cases h3 : o < o' <;> by_cases h4 : o' < o <;> by_cases h5 : f < f' <;> by_cases h6 : f' < f <;> simp [*] <;> omega
theorem kcmp_gt {p o f p' o' f' : Int} : kcmp p o f p' o' f' = 1 ↔ (p' < p ∨ p = p' ∧ (o' < o ∨ o = o' ∧ f' < f)) := by
 unfold kcmp icmp
 by_cases h1 : p < p' <;> by_cases h2 : p' < p <;> by_cases h3 : o < o' <;> by_cases h4 : o' < o <;> by_cases h5 : f < f' <;> by_cases h6 : f' < f <;> simp [*] <;> omega
theorem icmp_or (a b : Int) : icmp a b = -1 ∨ icmp a b = 0 ∨ icmp a b = 1 := by
 unfold icmp; split <;> (try split) <;> simp
theorem kcmp_or (p o f p' o' f' : Int) : kcmp p o f p' o' f' = -1 ∨ kcmp p o f p' o' f' = 0 ∨ kcmp p o f p' o' f' = 1 := by
 unfold kcmp
 split
 ·split
  ·exact icmp_or _ _
  ·exact icmp_or _ _
 ·exact icmp_or _ _
theorem scmp_lt {p o f m p' o' f' m' : Int} : scmp p o f m p' o' f' m' = -1 ↔ (kcmp p o f p' o' f' = -1 ∨ kcmp p o f p' o' f' = 0 ∧ m < m') := by
 unfold scmp icmp
 rcases kcmp_or p o f p' o' f' with h | h | h <;> rw [h] <;> simp
 by_cases h1 : m < m' <;> by_cases h2 : m' < m <;> simp [*]
theorem scmp_or (p o f m p' o' f' m' : Int) : scmp p o f m p' o' f' m' = -1 ∨ scmp p o f m p' o' f' m' = 0 ∨ scmp p o f m p' o' f' m' = 1 := by
 unfold scmp
 split
 ·exact icmp_or _ _
 ·exact kcmp_or _ _ _ _ _ _
theorem elemErr_key {p o f m g n : Int} (h : keyErr p o f ≠ 0) : elemErr p o f m g n = keyErr p o f := by unfold elemErr; rw [if_neg h]
theorem elemErr_time {p o f m g n : Int} (h : keyErr p o f = 0) (h2 : ¬ timeOk m g) : elemErr p o f m g n = 9 := by unfold elemErr; rw [if_pos h, if_neg h2]
theorem elemErr_long {p o f m g n : Int} (h : keyErr p o f = 0) (h2 : timeOk m g) (h3 : 40 < n) : elemErr p o f m g n = 2 := by unfold elemErr; rw [if_pos h, if_pos h2, if_neg (by omega)]
theorem elemErr_ok {p o f m g n : Int} (h : keyErr p o f = 0) (h2 : timeOk m g) (h3 : n ≤ 40) : elemErr p o f m g n = 0 := by unfold elemErr; rw [if_pos h, if_pos h2, if_pos h3]
theorem elemErr_zero {p o f m g n : Int} : elemErr p o f m g n = 0 ↔ keyErr p o f = 0 ∧ timeOk m g ∧ n ≤ 40 := by
 unfold elemErr
 by_cases h1 : keyErr p o f = 0
 ·rw [if_pos h1]
  by_cases h2 : timeOk m g
  ·rw [if_pos h2]
   by_cases h3 : n ≤ 40
   ·simp [h1, h2, h3]
   ·simp [h3]
  ·simp [h2]
 ·simp [h1]
structure El where
 p : Int
 o : Int
 f : Int
 m : Int
 g : Int
 s : ByteArray
theorem El.ext_iff' {a b : El} : a = b ↔ a.p = b.p ∧ a.o = b.o ∧ a.f = b.f ∧ a.m = b.m ∧ a.g = b.g ∧ a.s = b.s := by
 cases a; cases b; simp
instance : DecidableEq El := fun _ _ => decidable_of_iff _ El.ext_iff'.symm
def El.key (e : El) : Int × Int × Int := (e.p, e.o, e.f)
def kLt (a b : Int × Int × Int) : Prop := a.1 < b.1 ∨ a.1 = b.1 ∧ (a.2.1 < b.2.1 ∨ a.2.1 = b.2.1 ∧ a.2.2 < b.2.2)
instance (a b : Int × Int × Int) : Decidable (kLt a b) := by unfold kLt; infer_instance
def sLt (a : Int × Int × Int) (m : Int) (b : Int × Int × Int) (n : Int) : Prop := kLt a b ∨ a = b ∧ m < n
instance (a : Int × Int × Int) (m : Int) (b : Int × Int × Int) (n : Int) : Decidable (sLt a m b n) := by unfold sLt; infer_instance
theorem key3_eq {a b : Int × Int × Int} : a = b ↔ a.1 = b.1 ∧ a.2.1 = b.2.1 ∧ a.2.2 = b.2.2 := by
 obtain ⟨a1, a2, a3⟩ := a; obtain ⟨b1, b2, b3⟩ := b; simp
theorem kLt_irrefl (a : Int × Int × Int) : ¬ kLt a a := by unfold kLt; omega
theorem kLt_trans {a b c : Int × Int × Int} (h : kLt a b) (k : kLt b c) : kLt a c := by unfold kLt at *; omega
theorem kLt_ne {a b : Int × Int × Int} (h : kLt a b) : a ≠ b := fun e => by subst e; exact kLt_irrefl _ h
theorem sLt_trans {a b c : Int × Int × Int} {m n k : Int} (h : sLt a m b n) (h' : sLt b n c k) : sLt a m c k := by
 rcases h with h | ⟨rfl, h⟩
 ·rcases h' with h' | ⟨rfl, h'⟩
  ·exact .inl (kLt_trans h h')
  ·exact .inl h
 ·rcases h' with h' | ⟨rfl, h'⟩
  ·exact .inl h'
  ·exact .inr ⟨rfl, by omega⟩
theorem sLt_same {a : Int × Int × Int} {m n : Int} : sLt a m a n ↔ m < n := ⟨fun h => by
 rcases h with h | ⟨_, h⟩
 ·exact absurd h (kLt_irrefl _)
 ·exact h, fun h => .inr ⟨rfl, h⟩⟩
theorem scmp_sLt {a b : El} : scmp a.p a.o a.f a.m b.p b.o b.f b.m = -1 ↔ sLt a.key a.m b.key b.m := by
 rw [scmp_lt, kcmp_lt, kcmp_eq]; unfold sLt; rw [key3_eq]; exact Iff.rfl
theorem kcmp_kGt {p o f p' o' f' : Int} : kcmp p o f p' o' f' = 1 ↔ kLt (p', o', f') (p, o, f) := by rw [kcmp_gt]; unfold kLt; simp only; omega
def El.err (e : El) : Int := elemErr e.p e.o e.f e.m e.g e.s.size
def El.live (e : El) (t : Int) : Prop := liveP e.m e.g t
instance (e : El) (t : Int) : Decidable (e.live t) := by unfold El.live; infer_instance
def Fol (a b : El) : Prop := sLt a.key a.m b.key b.m ∧ (a.key = b.key → a.g ≠ 0 ∧ a.g ≤ b.m)
instance (a b : El) : Decidable (Fol a b) := by unfold Fol; infer_instance
theorem err_time {e : El} (h : e.err = 0) : timeOk e.m e.g := (elemErr_zero.1 h).2.1
theorem Fol.trans {a b c : El} (hb : b.err = 0) (h : Fol a b) (k : Fol b c) : Fol a c := by
 have ht := err_time hb
 unfold timeOk at ht
 refine ⟨sLt_trans h.1 k.1, fun e => ?_⟩
 have hab : a.key = b.key := by
  rcases h.1 with h1 | ⟨h1, _⟩
  ·rcases k.1 with k1 | ⟨k1, _⟩
   ·exact absurd e (kLt_ne (kLt_trans h1 k1))
   ·rw [k1] at h1; exact absurd e (kLt_ne h1)
  ·exact h1
 have h2 := h.2 hab
 have k2 := k.2 (hab ▸ e)
 omega
def firstErr (f : Nat → Int) : Nat → Int
 | 0 => 0
 |n + 1 => if firstErr f n = 0 then f n else firstErr f n
theorem firstErr_zero {f : Nat → Int} : ∀ {n : Nat}, firstErr f n = 0 ↔ ∀ i, i < n → f i = 0
 | 0 => by simp [firstErr]
 |n + 1 => by
  have ih := firstErr_zero (f := f) (n := n)
  unfold firstErr
  constructor
  ·intro h i hi
   by_cases h0 : firstErr f n = 0
   ·rw [if_pos h0] at h
    rcases Nat.lt_or_ge i n with h1 | h1
    ·exact ih.1 h0 i h1
    ·rw [show i = n by omega]; exact h
   ·rw [if_neg h0] at h; exact absurd h h0
  ·intro h
   rw [if_pos (ih.2 fun i hi => h i (by omega))]
   exact h n (by omega)
theorem firstErr_at {f : Nat → Int} {k n : Nat} (h : ∀ i, i < k → f i = 0) (hk : f k ≠ 0) (hn : k < n) : firstErr f n = f k := by
 induction n with
 |zero => omega
 |succ n ih =>
  unfold firstErr
  rcases Nat.lt_or_ge k n with h1 | h1
  ·rw [if_neg (by rw [ih h1]; exact hk), ih h1]
  ·rw [show n = k by omega, if_pos (firstErr_zero.2 h)]
def stepErr (l : List El) (i : Nat) : Int :=
 match l[i]? with
 |none => 0
 |some e => if e.err ≠ 0 then e.err else
  match (if i = 0 then none else l[i - 1]?) with
  |none => 0
  |some q => if Fol q e then 0 else 3
def runErr (l : List El) : Int := if 400 < l.length then 2 else firstErr (stepErr l) l.length
theorem stepErr_zero {l : List El} {i : Nat} (hi : i < l.length) : stepErr l i = 0 ↔ l[i].err = 0 ∧ (∀ h : 0 < i, Fol (l[i - 1]'(by omega)) l[i]) := by
 unfold stepErr
 rw [List.getElem?_eq_getElem hi]
 simp only
 by_cases he : l[i].err = 0
 ·rw [if_neg (by simpa using he)]
  by_cases h0 : i = 0
  ·subst h0; simp [he]
  ·rw [if_neg h0, List.getElem?_eq_getElem (by omega)]
   simp only
   by_cases hF : Fol (l[i - 1]'(by omega)) l[i]
   ·simp [hF, he]
   ·simp only [hF, if_false]
    constructor
    ·intro h; omega
    ·intro h; exact absurd (h.2 (by omega)) id
 ·rw [if_pos he]; simp [he]
def Good (l : List El) : Prop := l.length ≤ 400 ∧ (∀ e ∈ l, e.err = 0) ∧ l.Pairwise Fol
theorem pairwise_of_steps {l : List El} (ho : ∀ e ∈ l, e.err = 0) (h : ∀ i (hi : i + 1 < l.length), Fol l[i] l[i + 1]) : l.Pairwise Fol := by
 rw [List.pairwise_iff_getElem]
 intro i j hi hj hij
 obtain ⟨d, rfl⟩ : ∃ d, j = i + 1 + d := ⟨j - (i + 1), by omega⟩
 induction d with
 |zero => exact h i hj
 |succ d ih =>
  have := ih (by omega) (by omega)
  exact Fol.trans (ho _ (List.getElem_mem _)) this (h (i + 1 + d) hj)
theorem steps_good {l : List El} (h : ∀ i, i < l.length → stepErr l i = 0) : (∀ e ∈ l, e.err = 0) ∧ l.Pairwise Fol := by
 have h1 : ∀ e ∈ l, e.err = 0 := fun e he => by
  obtain ⟨i, hi, rfl⟩ := List.getElem_of_mem he
  exact ((stepErr_zero hi).1 (h i hi)).1
 refine ⟨h1, pairwise_of_steps h1 fun i hi => ?_⟩
 exact ((stepErr_zero hi).1 (h (i + 1) hi)).2 (by omega)
theorem runErr_zero {l : List El} : runErr l = 0 ↔ Good l := by
 unfold runErr Good
 by_cases hl : 400 < l.length
 ·rw [if_pos hl]; constructor
  ·intro h; omega
  ·intro h; omega
 ·rw [if_neg hl, firstErr_zero]
  constructor
  ·intro h; exact ⟨by omega, steps_good h⟩
  ·rintro ⟨_, h1, h2⟩ i hi
   rw [stepErr_zero hi]
   exact ⟨h1 _ (List.getElem_mem _), fun h => List.pairwise_iff_getElem.1 h2 (i - 1) i (by omega) hi (by omega)⟩
def isAt (k : Int × Int × Int) (t : Int) (e : El) : Bool := decide (e.key = k ∧ e.live t)
def zeroEl : El := ⟨0, 0, 0, 0, 0, { data := #[] }⟩
def atR (l : List El) (k : Int × Int × Int) (t : Int) : Option El := l.find? (isAt k t)
def kErr (k : Int × Int × Int) : Int := keyErr k.1 k.2.1 k.2.2
def askErr1 (l : List El) (k : Int × Int × Int) : Int := if runErr l = 0 then kErr k else runErr l
def atErr (l : List El) (k : Int × Int × Int) (t : Int) : Int := if askErr1 l k = 0 then (if (atR l k t).isSome then 0 else 4) else askErr1 l k
def atVal (l : List El) (k : Int × Int × Int) (t : Int) : El := if askErr1 l k = 0 then (atR l k t).getD zeroEl else zeroEl
def inR (lo hi : Int × Int × Int) (t : Int) (e : El) : Bool := decide (¬ kLt e.key lo ∧ ¬ kLt hi e.key ∧ e.live t)
def rangeR (l : List El) (lo hi : Int × Int × Int) (t : Int) : List El := l.filter (inR lo hi t)
def rgErr (l : List El) (lo hi : Int × Int × Int) : Int := if runErr l = 0 then (if kErr lo = 0 then kErr hi else kErr lo) else runErr l
theorem rangeR_take {l : List El} {k : Nat} {e : El} (h : l[k]? = some e) (lo hi : Int × Int × Int) (t : Int) : rangeR (l.take (k + 1)) lo hi t = rangeR (l.take k) lo hi t ++ (if inR lo hi t e then [e] else []) := by
 obtain ⟨hk, he⟩ := List.getElem?_eq_some_iff.1 h
 unfold rangeR
 rw [List.take_succ_eq_append_getElem hk, List.filter_append, he]
 by_cases hi : inR lo ‹_› t e <;> simp [hi]
theorem rangeR_le (l : List El) (lo hi : Int × Int × Int) (t : Int) : (rangeR l lo hi t).length ≤ l.length := List.length_filter_le _ _
open Go.RowKit
def Calm (w w' : World) : Prop := Below w.heap.size w w'
theorem Calm.refl (w : World) : Calm w w := Below.refl _ _
theorem Calm.alloc {a w : World} (h : Calm a w) (o : Obj) : Calm a (w.alloc o) := Below.alloc h (Below.size h) o
theorem Calm.drew {a w : World} (h : Calm a w) : Calm a w.drew := Below.drew h
theorem Calm.drewN {a w : World} (h : Calm a w) (n : Nat) : Calm a (w.drewN n) := Below.trans h ⟨rfl, rfl, rfl, Nat.le_refl _, fun _ _ => rfl⟩
theorem Calm.of_drew {a w : World} (h : Calm a.drew w) : Calm a w := Below.trans (Calm.refl a).drew h
theorem Calm.setRow {a w : World} (h : Calm a w) {g : Nat} (hg : a.heap.size ≤ g) (cs : Array Value) : Calm a (w.setRow g cs) :=
 Below.trans h ⟨rfl, rfl, rfl, by simp, fun k hk => setRow_other w g k cs (by omega)⟩
theorem Calm.call {a w w1 : World} (h : Calm a w) (hb : Calm w w1) : Calm a w1 := Below.trans h (Below.mono hb (Below.size h))
theorem Calm.size {a w : World} (h : Calm a w) : a.heap.size ≤ w.heap.size := Below.size h
theorem Calm.block {a w : World} (h : Calm a w) {k : Nat} (hk : k < a.heap.size) : w.heap[k]? = a.heap[k]? := Below.block h k hk
/-- Of such a call: cells, marks, how many blocks. -/
theorem Calm.facts {W w1 : World} (hb : Calm W w1) : (∀ b o, b < W.heap.size → w1.cell? ⟨b, o, none⟩ = W.cell? ⟨b, o, none⟩) ∧ (∀ b o, b < W.heap.size → w1.frozen? ⟨b, o, none⟩ = W.frozen? ⟨b, o, none⟩) ∧ (∀ n : Nat, n < W.heap.size → n < w1.heap.size ∧ n < w1.heap.size + 1 ∧ n < w1.heap.size + 1 + 1 ∧ n < w1.heap.size + 1 + 1 + 1 ∧ n < w1.heap.size + 1 + 1 + 1 + 1) :=
 ⟨fun b o h => Below.cell hb (p := ⟨b, o, none⟩) h, fun b o h => Below.frozen hb (p := ⟨b, o, none⟩) h, fun _ h => by have := Below.size hb; omega⟩
section
variable {P : Program} {ops : Array Oper} {Q : Exit → Act → World → Prop} {md : Region.Mode}
def unlisted (listed : Array Bool) : Nat := listed.toList.countP (· == false)
theorem unlisted_set {listed : Array Bool} {i : Nat} (h : listed.getD i true = false) : unlisted (listed.setIfInBounds i true) + 1 = unlisted listed := by
 have hi : i < listed.size := by
  rcases Nat.lt_or_ge i listed.size with h' | h'
  ·exact h'
  ·simp [Array.getElem?_eq_none h'] at h
 have hv : listed[i] = false := by simpa [hi] using h
 have hm : false ∈ listed.toList := by rw [← hv]; simp
 have hpos : 0 < listed.toList.countP (· == false) := List.countP_pos_iff.2 ⟨false, hm, rfl⟩
 have hl : listed.toList[i]'(by simpa using hi) = false := by simpa using hv
 unfold unlisted
 rw [Array.toList_setIfInBounds, List.countP_set (by simpa using hi), hl]
 simp only [beq_self_eq_true, if_true, show ((true == false) = false) from rfl, Bool.false_eq_true, if_false]
 omega
theorem wpAny_inv (J : Array Bool → Act → World → Prop)
    (hstep : ∀ (listed : Array Bool) (a : Act) (w : World) (i : Nat), J listed a w → i ∈ Region.ready md ops listed → wpOp P ops Q i (fun a' w' => J (listed.setIfInBounds i true) a' w') a w)
    (hend : ∀ (listed : Array Bool) (a : Act) (w : World), J listed a w → Region.ready md ops listed = [] → Q .normal a w) :
    ∀ (fuel : Nat) (listed : Array Bool) (a : Act) (w : World), unlisted listed ≤ fuel → J listed a w → wpAny P md ops Q fuel listed a w
  | 0, listed, a, w, hf, hj => by
    have hr : Region.ready md ops listed = [] := by
      cases h : Region.ready md ops listed with
      | nil => rfl
      | cons i r =>
        have hm : i ∈ Region.ready md ops listed := by rw [h]; simp
        have := unlisted_set (mem_ready.1 hm).1
        omega
    exact ⟨hr, hend _ _ _ hj hr⟩
  | fuel + 1, listed, a, w, hf, hj => by
    refine ⟨fun h0 => hend _ _ _ hj h0, fun i hi => ?_⟩
    have := unlisted_set (mem_ready.1 hi).1
    exact wpOp_mono (fun a' w' h => wpAny_inv J hstep hend fuel _ a' w' (by omega) h) (hstep _ _ _ _ hj hi)
inductive Does where
 |val (v : Value)
 |idle
 |new (z : Array Value) (t : TypeId) (kd : Option Nat := none)
 |fill (k : Nat) (cs : Array Value)
 |look (k : Nat) (v : Value)
def newOut (b : Nat) : Option Nat → Value
 |none => .pointer (some ⟨b, 0, none⟩)
 |some n => .slice (some ⟨b, 0, none⟩) n n
def Does.out (X : Nat → Nat) (i : Nat) : Does → Value
 | .val v => v
 | .idle => undef
 | .new _ _ kd => newOut (X i) kd
 | .fill _ _ => undef
 | .look _ v => v
def noFillB (p : List Does) (k : Nat) : Bool := p.all fun d => match d with | .fill m _ => m != k | _ => true
theorem noFillB_spec {p : List Does} {k : Nat} (h : noFillB p k = true) {j : Nat} {cs : Array Value} : p[j]? ≠ some (.fill k cs) := fun hj => by
 have := List.all_eq_true.1 h _ (List.mem_of_getElem? hj)
 simp at this
def Does.fits (P : Program) (ops : Array Oper) (w0 : World) (X : Nat → Nat) (p : List Does) (o : Oper) (a : Act) : Does → Prop
  | .val v => Region.wanted o (yielded ops a.tmps) = true ∧ ∀ w, Calm w0 w → Oper.quietUpon P (Calm w) w v ((execOp a.eval o).run P w)
  | .idle => Region.wanted o (yielded ops a.tmps) = false
  | .new z t kd => Region.wanted o (yielded ops a.tmps) = true ∧ ∀ w, (execOp a.eval o).run P w = .ok (.value (newOut w.heap.size kd)) (w.alloc (.cells z t))
  | .fill k cs => Region.wanted o (yielded ops a.tmps) = true ∧ o.dst = none ∧ o.after.any (fun e => Region.binds .any e && e.on == k) = true ∧ ∃ z t kd, p[k]? = some (.new z t kd) ∧
      ∀ w, w.heap[X k]? = some (.cells z t (0, 0)) → (execOp a.eval o).run P w = .ok .skip (w.setRow (X k) cs) ∨ (execOp a.eval o).run P w = .ok (.value undef) (w.setRow (X k) cs)
  | .look k v => Region.wanted o (yielded ops a.tmps) = true ∧ o.after.any (fun e => Region.binds .any e && e.on == k) = true ∧ ∃ z t kd, p[k]? = some (.new z t kd) ∧ noFillB p k = true ∧
      ∀ w, Calm w0 w → w.heap[X k]? = some (.cells z t (0, 0)) → Oper.quietUpon P (Calm w) w v ((execOp a.eval o).run P w)
def Plan (P : Program) (ops : Array Oper) (w0 : World) (X : Nat → Nat) (p : List Does) (R : Act → Prop) : Nat → List Oper → List Does → Act → Prop
 |_, [], [], a => R a
 |i, o :: os, d :: ds, a => d.fits P ops w0 X p o a ∧ Plan P ops w0 X p R (i + 1) os ds (a.put o.dst (d.out X i))
 |_, _, _, _ => False
def planB (ops : Array Oper) : Bool :=
  Region.noSelect ops && (List.range ops.size).all fun j => match ops[j]? with
    | none => true
    | some o => o.after.all (fun e => !Region.binds .any e || decide (e.on < j)) &&
        (List.range ops.size).all fun i => match ops[i]? with
          | none => true
          | some x => match x.dst with
            | none => true
            | some d => (!(o.looksAt ops).contains d || (decide (i < j) && o.after.any (fun e => Region.binds .any e && e.on == i))) && (i == j || o.dst != some d)
def rowNow (p : List Does) (listed : Array Bool) (k : Nat) (z : Array Value) : Array Value :=
 match (List.range p.length).findSome? (fun j => if listed.getD j false then (match p[j]? with | some (.fill m cs) => if m == k then some cs else none | _ => none) else none) with
 |some cs => cs
 |none => z
def fillsB (p : List Does) : Bool :=
 (List.range p.length).all fun i => (List.range p.length).all fun j => i == j || match p[i]?, p[j]? with
  |some (.fill m _), some (.fill n _) => m != n
  |_, _ => true
/-- Two frames that hold the same wherever an operation looks: it does the same. -/
theorem same_look {o : Oper} (hs : ∀ cs b, o.op ≠ .select cs b) {a b : Act} (h : ∀ t ∈ o.looksAt ops, a.tmps[t]? = b.tmps[t]?) :
    execOp a.eval o = execOp b.eval o ∧ Region.wanted o (yielded ops a.tmps) = Region.wanted o (yielded ops b.tmps) := by
  constructor
  · refine execOp_congr o hs fun x hx => ?_
    cases x with
    | tmp t =>
      have : t ∈ o.looksAt ops := List.mem_append_left _ (List.mem_filterMap.2 ⟨.tmp t, by simpa using hx, rfl⟩)
      have h1 := h t this
      simp [Act.eval, h1]
    | _ => rfl
  · unfold Region.wanted
    cases hg : o.guard with
    | none => rfl
    | some gw =>
      obtain ⟨g, want⟩ := gw
      have : yielded ops a.tmps g = yielded ops b.tmps g := by
        unfold yielded
        cases ht : (ops[g]?).bind (·.dst) with
        | none => rfl
        | some t =>
          have h1 := h t (by simp [Oper.looksAt, hg, ht])
          simp [h1]
      simp only [this]
theorem put_get (a : Act) (d : Option Tmp) (v : Value) (t : Nat) : (a.put d v).tmps[t]? = if d = some t ∧ t < a.tmps.size then some v else a.tmps[t]? := by
 cases d with
 |none => simp [Act.put]
 |some d =>
  simp only [Act.put, Array.getElem?_setIfInBounds, Option.some.injEq]
  by_cases h : d = t
  ·subst h
   by_cases h2 : d < a.tmps.size
   ·simp [h2]
   ·simp [h2]
  ·simp [h]
theorem put_size (a : Act) (d : Option Tmp) (v : Value) : (a.put d v).tmps.size = a.tmps.size := by cases d <;> simp [Act.put]
theorem put_def (a : Act) (d : Option Tmp) (v : Value) : (a.put d v).defers = a.defers := by cases d <;> simp [Act.put]
structure Agree (ops : Array Oper) (p : List Does) (a0 : Act) (X : Nat → Nat) (S : Nat → Prop) (a : Act) : Prop where
 defers : a.defers = a0.defers
 size : a.tmps.size = a0.tmps.size
 put : ∀ i o d t, ops[i]? = some o → p[i]? = some d → S i → o.dst = some t → t < a0.tmps.size → a.tmps[t]? = some (d.out X i)
 old : ∀ t, (∀ i o, ops[i]? = some o → S i → o.dst ≠ some t) → a.tmps[t]? = a0.tmps[t]?
structure Sound (ops : Array Oper) : Prop where
 noSelect : ∀ (j : Nat) (o : Oper) cs b, ops[j]? = some o → o.op ≠ .select cs b
 before : ∀ (j : Nat) (o : Oper) (e : Edge), ops[j]? = some o → e ∈ o.after → Region.binds .any e = true → e.on < j
 looks : ∀ (j i : Nat) (o x : Oper) (d : Tmp), ops[j]? = some o → ops[i]? = some x → x.dst = some d → d ∈ o.looksAt ops → i < j ∧ ∃ e ∈ o.after, Region.binds .any e = true ∧ e.on = i
 apart : ∀ (j i : Nat) (o x : Oper) (d : Tmp), ops[j]? = some o → ops[i]? = some x → x.dst = some d → o.dst = some d → i = j
theorem planB_sound (h : planB ops = true) : Sound ops := by
 simp only [planB, Bool.and_eq_true, List.all_eq_true, List.mem_range] at h
 obtain ⟨h1, h2⟩ := h
 have lt : ∀ {j : Nat} {o : Oper}, ops[j]? = some o → j < ops.size := fun ho => (Array.getElem?_eq_some_iff.1 ho).1
 refine ⟨fun j o cs b ho => Region.noSelect_spec h1 j o cs b ho, fun j o e ho he hb => ?_, fun j i o x d ho hx hd hl => ?_, fun j i o x d ho hx hd hod => ?_⟩
 ·have := h2 j (lt ho)
  simp only [ho, Bool.and_eq_true, Array.all_eq_true_iff_forall_mem] at this
  have h3 := this.1 e he
  simpa [hb] using h3
 ·have := h2 j (lt ho)
  simp only [ho, Bool.and_eq_true, List.all_eq_true, List.mem_range] at this
  have h3 := this.2 i (lt hx)
  simp only [hx, hd, Bool.and_eq_true] at h3
  have h4 := h3.1
  rw [List.contains_iff_mem.2 hl] at h4
  simp only [Bool.not_true, Bool.false_or, Bool.and_eq_true, decide_eq_true_eq] at h4
  obtain ⟨e, he, hb⟩ := Array.any_eq_true'.1 h4.2
  simp only [Bool.and_eq_true, beq_iff_eq] at hb
  exact ⟨h4.1, e, he, hb⟩
 ·have := h2 j (lt ho)
  simp only [ho, Bool.and_eq_true, List.all_eq_true, List.mem_range] at this
  have h3 := this.2 i (lt hx)
  simp only [hx, hd, Bool.and_eq_true] at h3
  have h4 := h3.2
  simpa [hod] using h4
/-- One operation more. -/
theorem Agree.step {p : List Does} {a0 : Act} {X : Nat → Nat} {S T : Nat → Prop} {a : Act} (hs : Sound ops) (h : Agree ops p a0 X S a) {j : Nat} {o : Oper} {d : Does} (ho : ops[j]? = some o) (hd : p[j]? = some d)
    (hT : ∀ i, T i ↔ (S i ∨ i = j)) : Agree ops p a0 X T (a.put o.dst (d.out X j)) := by
  refine ⟨by rw [put_def, h.defers], by rw [put_size, h.size], fun i oi di t hoi hdi hi ht hlt => ?_, fun t ht => ?_⟩
  · rw [put_get]
    rcases (hT i).1 hi with hi | rfl
    · by_cases hc : o.dst = some t ∧ t < a.tmps.size
      · rw [if_pos hc]
        obtain rfl := hs.apart j i o oi t ho hoi ht hc.1
        rw [hd] at hdi
        cases hdi
        rfl
      · rw [if_neg hc]
        exact h.put i oi di t hoi hdi hi ht hlt
    · rw [ho] at hoi; cases hoi
      rw [hd] at hdi; cases hdi
      rw [if_pos ⟨ht, by rw [h.size]; exact hlt⟩]
  · rw [put_get, if_neg (fun hc => ht j o ho ((hT j).2 (Or.inr rfl)) hc.1)]
    exact h.old t fun i oi hoi hi => ht i oi hoi ((hT i).2 (Or.inl hi))
/-- Off the plan: what each operation does in a frame of the text's order, and the frame at the end. -/
theorem plan_get {w0 : World} {X : Nat → Nat} {p : List Does} {a0 : Act} {R : Act → Prop} (hs : Sound ops) : ∀ (os : List Oper) (ds : List Does) (i : Nat) (a : Act), os = ops.toList.drop i → ds = p.drop i →
    Agree ops p a0 X (· < i) a → Plan P ops w0 X p R i os ds a →
    (∀ j o, i ≤ j → ops[j]? = some o → ∃ d b, p[j]? = some d ∧ Agree ops p a0 X (· < j) b ∧ d.fits P ops w0 X p o b) ∧ (∃ b, Agree ops p a0 X (· < ops.size) b ∧ R b) ∧ (i ≤ ops.size → i ≤ p.length → p.length = ops.size)
  | [], [], i, a, hos, hds, ha, h => by
    have hl : ops.size ≤ i := by have := congrArg List.length hos; simp at this; omega
    refine ⟨fun j o hj hoj => ?_, ⟨a, ⟨ha.defers, ha.size, fun k o d t ho hd hk ht hlt => ha.put k o d t ho hd (by omega) ht hlt, fun t ht => ha.old t fun k o ho hk => ht k o ho ?_⟩, h⟩, fun hi hi2 => ?_⟩
    · have := (Array.getElem?_eq_some_iff.1 hoj).1; omega
    · exact (Array.getElem?_eq_some_iff.1 ho).1
    · have := congrArg List.length hds; simp at this; omega
  | [], d :: ds, i, a, _, _, _, h => absurd h (by simp [Plan])
  | o :: os, [], i, a, _, _, _, h => absurd h (by simp [Plan])
  | o :: os, d :: ds, i, a, hos, hds, ha, h => by
    have hlen : i < ops.size := by have := congrArg List.length hos; simp at this; omega
    have ho : ops[i]? = some o := by
      have := congrArg (·[0]?) hos
      simpa using this.symm
    have hd : p[i]? = some d := by
      have := congrArg (·[0]?) hds
      simpa using this.symm
    have hos' : os = ops.toList.drop (i + 1) := by rw [← List.tail_drop, ← hos]; rfl
    have hds' : ds = p.drop (i + 1) := by rw [← List.tail_drop, ← hds]; rfl
    obtain ⟨h1, h2⟩ := h
    have hplen : i < p.length := by have := congrArg List.length hds; simp at this; omega
    obtain ⟨g1, g2, g3⟩ := plan_get hs os ds (i + 1) (a.put o.dst (d.out X i)) hos' hds' (ha.step hs ho hd (fun k => by omega)) h2
    refine ⟨fun j oj hj hoj => ?_, g2, fun _ _ => g3 (by omega) (by omega)⟩
    rcases Nat.eq_or_lt_of_le hj with rfl | hj
    · rw [ho] at hoj; cases hoj
      exact ⟨d, a, hd, ha, h1⟩
    · exact g1 j oj hj hoj
theorem rowNow_same {p : List Does} {listed : Array Bool} {j k : Nat} {z : Array Value} (h : ∀ m cs, p[j]? = some (.fill m cs) → m ≠ k) : rowNow p (listed.setIfInBounds j true) k z = rowNow p listed k z := by
 unfold rowNow
 have : (fun i => if (listed.setIfInBounds j true).getD i false then (match p[i]? with | some (Does.fill m cs) => if m == k then some cs else none | _ => none) else none) = (fun i => if listed.getD i false then (match p[i]? with | some (Does.fill m cs) => if m == k then some cs else none | _ => none) else none) := by
  funext i
  by_cases hij : j = i
  ·subst hij
   have hn : (match p[j]? with | some (Does.fill m cs) => if m == k then some cs else none | _ => none) = none := by
    cases hp : p[j]? with
    |none => rfl
    |some d =>
     cases d with
     |fill m cs => simp [h m cs hp]
     |_ => rfl
   simp only [hn, ite_self]
  ·rw [getD_set_ne false hij]
 rw [this]
theorem fillsB_spec {p : List Does} (h : fillsB p = true) {i j m : Nat} {cs cs' : Array Value} (hi : p[i]? = some (.fill m cs)) (hj : p[j]? = some (.fill m cs')) : i = j := by
 simp only [fillsB, List.all_eq_true, List.mem_range] at h
 have := h i (List.getElem?_eq_some_iff.1 hi).1 j (List.getElem?_eq_some_iff.1 hj).1
 simpa [hi, hj] using this
theorem rowNow_fill {p : List Does} (h : fillsB p = true) {listed : Array Bool} {j k : Nat} {z cs : Array Value} (hj : p[j]? = some (.fill k cs)) (hl : listed.getD j false = true) : rowNow p listed k z = cs := by
 unfold rowNow
 have hjl : j < p.length := (List.getElem?_eq_some_iff.1 hj).1
 have hsome : ((List.range p.length).findSome? (fun j => if listed.getD j false then (match p[j]? with | some (Does.fill m cs) => if m == k then some cs else none | _ => none) else none)).isSome = true := by
  rw [List.findSome?_isSome_iff]
  exact ⟨j, List.mem_range.2 hjl, by simp only [hl, if_true, hj]; simp⟩
 cases hf : (List.range p.length).findSome? (fun j => if listed.getD j false then (match p[j]? with | some (Does.fill m cs) => if m == k then some cs else none | _ => none) else none) with
 |none => rw [hf] at hsome; cases hsome
 |some c =>
  obtain ⟨i, hi, he⟩ := List.exists_of_findSome?_eq_some hf
  simp only
  split at he
  ·split at he
   ·rename_i m c' hp
    split at he
    ·rename_i hm
     cases he
     have hm' : m = k := by simpa using hm
     subst hm'
     obtain rfl := fillsB_spec h hj hp
     rw [hj] at hp
     cases hp
     rfl
    ·cases he
   ·cases he
  ·cases he
theorem rowNow_none {p : List Does} {listed : Array Bool} {k : Nat} {z : Array Value} (h : ∀ j cs, p[j]? = some (.fill k cs) → listed.getD j false = false) : rowNow p listed k z = z := by
 unfold rowNow
 cases hf : (List.range p.length).findSome? (fun j => if listed.getD j false then (match p[j]? with | some (Does.fill m cs) => if m == k then some cs else none | _ => none) else none) with
 |none => rfl
 |some c =>
  obtain ⟨i, hi, he⟩ := List.exists_of_findSome?_eq_some hf
  split at he
  ·rename_i hl
   split at he
   ·rename_i m c' hp
    split at he
    ·rename_i hm
     have hm' : m = k := by simpa using hm
     subst hm'
     rw [h i c' hp] at hl
     cases hl
    ·cases he
   ·cases he
  ·cases he
structure Rows0 (p : List Does) (w0 : World) (X : Nat → Nat) (listed : Array Bool) (w : World) : Prop where
 calm : Calm w0 w
 row : ∀ i z t {kd}, p[i]? = some (.new z t kd) → listed.getD i false = true → w0.heap.size ≤ X i ∧ w.heap[X i]? = some (.cells (rowNow p listed i z) t (0, 0))
 apart : ∀ i j z t z' t' {kd kd'}, p[i]? = some (.new z t kd) → p[j]? = some (.new z' t' kd') → listed.getD i false = true → listed.getD j false = true → i ≠ j → X i ≠ X j
structure Inv (ops : Array Oper) (p : List Does) (a0 : Act) (w0 : World) (X : Nat → Nat) (listed : Array Bool) (a : Act) (w : World) : Prop where
 size : listed.size = ops.size
 act : Agree ops p a0 X (fun i => listed.getD i false = true) a
 rows : Rows0 p w0 X listed w
 down : ∀ i o e, ops[i]? = some o → listed.getD i false = true → e ∈ o.after → Region.binds .any e = true → listed.getD e.on false = true
theorem getD_set_iff {listed : Array Bool} {i j : Nat} (hi : i < listed.size) : (listed.setIfInBounds i true).getD j false = true ↔ (listed.getD j false = true ∨ j = i) := by
 by_cases h : i = j
 ·subst h; simp [hi]
 ·rw [getD_set_ne false h]
  exact ⟨Or.inl, fun h' => h'.resolve_right (fun e => h e.symm)⟩
theorem Inv.step {p : List Does} {a0 : Act} {w0 : World} {R : (Nat → Nat) → Act → Prop} {Q : Exit → Act → World → Prop} (hs : Sound ops) (hf : fillsB p = true)
    (hp : ∀ X, Plan P ops w0 X p (R X) 0 ops.toList p a0) {X : Nat → Nat} {listed : Array Bool} {a : Act} {w : World} {j : Nat} (h : Inv ops p a0 w0 X listed a w) (hj : j ∈ Region.ready .any ops listed) :
    wpOp P ops Q j (fun a' w' => ∃ X', Inv ops p a0 w0 X' (listed.setIfInBounds j true) a' w') a w := by
  obtain ⟨hun, o, ho, hall⟩ := mem_ready.1 hj
  have hjs : j < listed.size := by rw [h.size]; exact (Array.getElem?_eq_some_iff.1 ho).1
  have hnl : listed.getD j false = false := by
    rw [Array.getD_eq_getD_getElem?] at hun ⊢
    rw [Array.getElem?_eq_getElem hjs] at hun ⊢
    simpa using hun
  obtain ⟨g1, _, g3⟩ := plan_get (X := X) hs ops.toList p 0 a0 rfl rfl ⟨rfl, rfl, fun i o d t _ _ hi => absurd hi (Nat.not_lt_zero _), fun t _ => rfl⟩ (hp X)
  obtain ⟨d, b, hd, hb, hfit⟩ := g1 j o (Nat.zero_le _) ho
  have hlook : ∀ t ∈ o.looksAt ops, a.tmps[t]? = b.tmps[t]? := fun t ht => by
    by_cases hw : ∃ (i : Nat) (x : Oper), ops[i]? = some x ∧ x.dst = some t
    · obtain ⟨i, x, hx, hxt⟩ := hw
      obtain ⟨hij, e, he, hbe, rfl⟩ := hs.looks j i o x t ho hx hxt ht
      have hli := hall e he hbe
      have hpi : ∃ di, p[e.on]? = some di := by
        have := g3 (Nat.zero_le _) (Nat.zero_le _)
        have hlt : e.on < p.length := by rw [this]; exact (Array.getElem?_eq_some_iff.1 hx).1
        exact ⟨p[e.on], List.getElem?_eq_getElem hlt⟩
      obtain ⟨di, hdi⟩ := hpi
      by_cases hlt : t < a0.tmps.size
      · rw [h.act.put e.on x di t hx hdi hli hxt hlt, hb.put e.on x di t hx hdi hij hxt hlt]
      · have e1 : a.tmps[t]? = none := Array.getElem?_eq_none (by rw [h.act.size]; exact Nat.le_of_not_lt hlt)
        have e2 : b.tmps[t]? = none := Array.getElem?_eq_none (by rw [hb.size]; exact Nat.le_of_not_lt hlt)
        rw [e1, e2]
    · have hno : ∀ (i : Nat) (x : Oper), ops[i]? = some x → x.dst ≠ some t := fun i x hx hxt => hw ⟨i, x, hx, hxt⟩
      rw [h.act.old t fun i x hx _ => hno i x hx, hb.old t fun i x hx _ => hno i x hx]
  obtain ⟨hex, hwant⟩ := same_look (hs.noSelect j o · · ho) hlook
  have hdown : ∀ i o' e, ops[i]? = some o' → (listed.setIfInBounds j true).getD i false = true → e ∈ o'.after → Region.binds .any e = true → (listed.setIfInBounds j true).getD e.on false = true := fun i o' e ho' hi he hbe => by
    rcases (getD_set_iff hjs).1 hi with hi | rfl
    · exact getD_set_true (h.down i o' e ho' hi he hbe)
    · rw [ho] at ho'; cases ho'
      exact getD_set_true (hall e he hbe)
  have hact : ∀ Y : Nat → Nat, (∀ i, i ≠ j → Y i = X i) → Agree ops p a0 Y (fun i => (listed.setIfInBounds j true).getD i false = true) (a.put o.dst (d.out Y j)) := fun Y hY => by
    have ha : Agree ops p a0 Y (fun i => listed.getD i false = true) a := ⟨h.act.defers, h.act.size, fun i oi di t hoi hdi hi ht hlt => by
      have hij : i ≠ j := fun e => by subst e; rw [hnl] at hi; cases hi
      rw [h.act.put i oi di t hoi hdi hi ht hlt]
      cases di <;> simp [Does.out, hY i hij], h.act.old⟩
    exact ha.step hs ho hd fun i => getD_set_iff hjs
  have rowsSame : ∀ w', Calm w w' → (∀ z t kd, d ≠ .new z t kd) → (∀ k cs, d ≠ .fill k cs) → Rows0 p w0 X (listed.setIfInBounds j true) w' := fun w' hw' hdn hdf => by
    have hne : ∀ i z t kd, p[i]? = some (.new z t kd) → (listed.setIfInBounds j true).getD i false = true → listed.getD i false = true := fun i z t kd hi hl => by
      rcases (getD_set_iff hjs).1 hl with hl | rfl
      · exact hl
      · rw [hd] at hi; cases hi; exact absurd rfl (hdn z t kd)
    refine ⟨h.rows.calm.call hw', fun i z t kd hi hl => ?_, fun i k z t z' t' kd kd' hi hk hl hl' hik => h.rows.apart i k z t z' t' hi hk (hne i z t kd hi hl) (hne k z' t' kd' hk hl') hik⟩
    obtain ⟨r1, r2⟩ := h.rows.row i z t hi (hne i z t kd hi hl)
    refine ⟨r1, ?_⟩
    rw [rowNow_same fun m cs hm => by rw [hd] at hm; cases hm; exact absurd rfl (hdf m cs)]
    rw [hw'.block (Array.getElem?_eq_some_iff.1 r2).1, r2]
  unfold wpOp
  simp only [ho]
  cases d with
  | val v =>
    obtain ⟨f1, f2⟩ := hfit
    rw [hwant, f1, if_pos rfl]
    left
    unfold Oper.wp
    rw [hex]
    have f3 := f2 w h.rows.calm
    have fin : ∀ w', Calm w w' → ∃ X', Inv ops p a0 w0 X' (listed.setIfInBounds j true) (a.put o.dst v) w' := fun w' hw' =>
      ⟨X, by simp [h.size], hact X fun _ _ => rfl, rowsSame w' hw' (fun _ _ _ e => by cases e) (fun _ _ e => by cases e), hdown⟩
    generalize (execOp b.eval o).run P w = r at *
    cases r with
    | ok n w' =>
      cases n <;> simp only [Oper.quietUpon] at f3 <;> simp only [Oper.upon]
      case value u => obtain ⟨e1, e2⟩ := f3; rw [e1, e2]; exact fin w (Calm.refl w)
      case skip => obtain ⟨e1, e2⟩ := f3; rw [e1, ← e2]; exact fin w (Calm.refl w)
      case enter f args =>
        obtain ⟨e1, hc⟩ := f3
        rw [e1]
        exact hc.mono fun e w'' ⟨he, hw''⟩ => by subst he; exact fin w'' hw''
    | halt x w' => simp only [Oper.quietUpon] at f3
  | look k v =>
    obtain ⟨f1, f3, z, t, kd, hk, hnf, f2⟩ := hfit
    rw [hwant, f1, if_pos rfl]
    left
    obtain ⟨e, he, hbe⟩ := Array.any_eq_true'.1 f3
    simp only [Bool.and_eq_true, beq_iff_eq] at hbe
    have hlk : listed.getD k false = true := by rw [← hbe.2]; exact hall e he hbe.1
    obtain ⟨r1, r2⟩ := h.rows.row k z t hk hlk
    rw [rowNow_none fun m cs' hm => absurd hm (noFillB_spec hnf)] at r2
    unfold Oper.wp
    rw [hex]
    have f4 := f2 w h.rows.calm r2
    have fin : ∀ w', Calm w w' → ∃ X', Inv ops p a0 w0 X' (listed.setIfInBounds j true) (a.put o.dst v) w' := fun w' hw' =>
      ⟨X, by simp [h.size], hact X fun _ _ => rfl, rowsSame w' hw' (fun _ _ _ e => by cases e) (fun _ _ e => by cases e), hdown⟩
    generalize (execOp b.eval o).run P w = r at *
    cases r with
    | ok n w' =>
      cases n <;> simp only [Oper.quietUpon] at f4 <;> simp only [Oper.upon]
      case value u => obtain ⟨e1, e2⟩ := f4; rw [e1, e2]; exact fin w (Calm.refl w)
      case skip => obtain ⟨e1, e2⟩ := f4; rw [e1, ← e2]; exact fin w (Calm.refl w)
      case enter f args =>
        obtain ⟨e1, hc⟩ := f4
        rw [e1]
        exact hc.mono fun e w'' ⟨he, hw''⟩ => by subst he; exact fin w'' hw''
    | halt x w' => simp only [Oper.quietUpon] at f4
  | idle =>
    have f1 : Region.wanted o (yielded ops b.tmps) = false := hfit
    rw [hwant, f1, if_neg (by simp)]
    exact ⟨X, by simp [h.size], hact X fun _ _ => rfl, rowsSame w (Calm.refl w) (fun _ _ _ e => by cases e) (fun _ _ e => by cases e), hdown⟩
  | new z t kd =>
    obtain ⟨f1, f2⟩ := hfit
    rw [hwant, f1, if_pos rfl]
    left
    unfold Oper.wp
    rw [hex, f2 w]
    simp only [Oper.upon]
    let Y : Nat → Nat := fun i => if i = j then w.heap.size else X i
    have hYj : Y j = w.heap.size := by simp [Y]
    have hY : ∀ i, i ≠ j → Y i = X i := fun i hi => by simp [Y, hi]
    have ha := hact Y hY
    simp only [Does.out, hYj] at ha
    have hcw := h.rows.calm
    refine ⟨Y, by simp [h.size], ha, ⟨hcw.alloc _, fun i z' t' _ hi hl => ?_, fun i k z1 t1 z2 t2 _ _ hi hk hl hl' hik => ?_⟩, hdown⟩
    · rcases (getD_set_iff hjs).1 hl with hl1 | rfl
      · have hij : i ≠ j := fun e => by subst e; rw [hnl] at hl1; cases hl1
        obtain ⟨r1, r2⟩ := h.rows.row i z' t' hi hl1
        rw [hY i hij, rowNow_same fun m cs hm => by rw [hd] at hm; cases hm]
        exact ⟨r1, by rw [Below.heap_alloc _ _ _ (Array.getElem?_eq_some_iff.1 r2).1, r2]⟩
      · rw [hd] at hi; cases hi
        refine ⟨by rw [hYj]; exact hcw.size, ?_⟩
        rw [hYj, rowNow_none]
        · show (w.heap.push _)[w.heap.size]? = _
          simp
        · intro m cs hm
          cases hl2 : (listed.setIfInBounds i true).getD m false with
          | false => rfl
          | true =>
            have hlt : m < ops.size := by
              have := g3 (Nat.zero_le _) (Nat.zero_le _)
              rw [← this]; exact (List.getElem?_eq_some_iff.1 hm).1
            obtain ⟨dm, bm, hdm, _, hfm⟩ := g1 m ops[m] (Nat.zero_le _) (Array.getElem?_eq_getElem hlt)
            rw [hm] at hdm; cases hdm
            obtain ⟨_, _, haf, _⟩ := hfm
            obtain ⟨e, he, hbe⟩ := Array.any_eq_true'.1 haf
            simp only [Bool.and_eq_true, beq_iff_eq] at hbe
            have hmi : m ≠ i := fun e' => by subst e'; rw [hd] at hm; cases hm
            have hlm : listed.getD m false = true := ((getD_set_iff hjs).1 hl2).resolve_right hmi
            have := h.down m ops[m] e (Array.getElem?_eq_getElem hlt) hlm he hbe.1
            rw [hbe.2, hnl] at this
            cases this
    · have key : ∀ i z t kd, p[i]? = some (.new z t kd) → listed.getD i false = true → X i < w.heap.size := fun i z t _ hi hl => (Array.getElem?_eq_some_iff.1 (h.rows.row i z t hi hl).2).1
      rcases (getD_set_iff hjs).1 hl with hl1 | rfl
      · have hij : i ≠ j := fun e => by subst e; rw [hnl] at hl1; cases hl1
        rcases (getD_set_iff hjs).1 hl' with hl2 | rfl
        · have hkj : k ≠ j := fun e => by subst e; rw [hnl] at hl2; cases hl2
          rw [hY i hij, hY k hkj]
          exact h.rows.apart i k z1 t1 z2 t2 hi hk hl1 hl2 hik
        · rw [hY i hij, hYj]
          have := key i z1 t1 _ hi hl1
          omega
      · rcases (getD_set_iff hjs).1 hl' with hl2 | rfl
        · have hkj : k ≠ i := Ne.symm hik
          rw [hYj, hY k hkj]
          have := key k z2 t2 _ hk hl2
          omega
        · exact absurd rfl hik
  | fill k cs =>
    obtain ⟨f1, f0, f3, z, t, kd, hk, f2⟩ := hfit
    rw [hwant, f1, if_pos rfl]
    left
    obtain ⟨e, he, hbe⟩ := Array.any_eq_true'.1 f3
    simp only [Bool.and_eq_true, beq_iff_eq] at hbe
    have hlk : listed.getD k false = true := by rw [← hbe.2]; exact hall e he hbe.1
    obtain ⟨r1, r2⟩ := h.rows.row k z t hk hlk
    rw [rowNow_none fun m cs' hm => by
      cases hl2 : listed.getD m false with
      | false => rfl
      | true => rw [fillsB_spec hf hm hd] at hl2; rw [hnl] at hl2; cases hl2] at r2
    have fin : ∃ X', Inv ops p a0 w0 X' (listed.setIfInBounds j true) (a.put o.dst undef) (w.setRow (X k) cs) := by
      have hlist : ∀ i z t kd, p[i]? = some (.new z t kd) → (listed.setIfInBounds j true).getD i false = true → listed.getD i false = true := fun i z t kd hi hl => by
        rcases (getD_set_iff hjs).1 hl with hl | rfl
        · exact hl
        · rw [hd] at hi; cases hi
      refine ⟨X, by simp [h.size], hact X fun _ _ => rfl, ⟨h.rows.calm.setRow r1 cs, fun i z' t' _ hi hl => ?_, fun i k z t z' t' _ _ hi hk hl hl' hik => h.rows.apart i k z t z' t' hi hk (hlist i z t _ hi hl) (hlist k z' t' _ hk hl') hik⟩, hdown⟩
      obtain ⟨q1, q2⟩ := h.rows.row i z' t' hi (hlist i z' t' _ hi hl)
      refine ⟨q1, ?_⟩
      by_cases hik : i = k
      · subst hik
        rw [hk] at hi; cases hi
        rw [rowNow_fill hf hd (by simp [hjs]), setRow_heap w (X i) _ cs t (0, 0) r2]
      · rw [setRow_other w _ _ cs (h.rows.apart i k z' t' z t hi hk (hlist i z' t' _ hi hl) hlk hik)]
        rw [rowNow_same fun m cs' hm => by rw [hd] at hm; cases hm; exact fun e => hik e.symm]
        exact q2
    unfold Oper.wp
    rw [hex]
    rcases f2 w r2 with f2 | f2 <;> rw [f2] <;> simp only [Oper.upon] <;> exact fin
theorem all_listed (hs : Sound ops) {listed : Array Bool} (h : Region.ready .any ops listed = []) : ∀ (n i : Nat), i ≤ n → i < ops.size → listed.size = ops.size → listed.getD i false = true := by
 intro n
 induction n with
 |zero =>
  intro i hi hlt hsz
  cases hl : listed.getD i false with
  |true => rfl
  |false =>
   have : i ∈ Region.ready .any ops listed := mem_ready.2 ⟨by
    have : i < listed.size := by omega
    simpa [this] using hl, ops[i], Array.getElem?_eq_getElem hlt, fun e he hb => by
     have := hs.before i ops[i] e (Array.getElem?_eq_getElem hlt) he hb
     omega⟩
   rw [h] at this
   cases this
 |succ n ih =>
  intro i hi hlt hsz
  cases hl : listed.getD i false with
  |true => rfl
  |false =>
   have : i ∈ Region.ready .any ops listed := mem_ready.2 ⟨by
    have : i < listed.size := by omega
    simpa [this] using hl, ops[i], Array.getElem?_eq_getElem hlt, fun e he hb => by
     have := hs.before i ops[i] e (Array.getElem?_eq_getElem hlt) he hb
     exact ih e.on (by omega) (by omega) hsz⟩
   rw [h] at this
   cases this
theorem Agree.same {p : List Does} {a0 : Act} {X : Nat → Nat} {S T : Nat → Prop} {a b : Act} (hST : ∀ i, i < ops.size → (S i ∧ T i)) (hp : ops.size ≤ p.length) (ha : Agree ops p a0 X S a) (hb : Agree ops p a0 X T b) : a = b := by
 cases a with
 |mk ta da =>
 cases b with
 |mk tb db =>
 have h1 : da = db := by have := ha.defers; have := hb.defers; simp_all
 have h2 : ta = tb := by
  apply Array.ext_getElem?
  intro t
  by_cases hw : ∃ (i : Nat) (x : Oper), ops[i]? = some x ∧ x.dst = some t
  ·obtain ⟨i, x, hx, hxt⟩ := hw
   have hi : i < ops.size := (Array.getElem?_eq_some_iff.1 hx).1
   by_cases hlt : t < a0.tmps.size
   ·have e1 := ha.put i x p[i] t hx (List.getElem?_eq_getElem (by omega)) (hST i hi).1 hxt hlt
    have e2 := hb.put i x p[i] t hx (List.getElem?_eq_getElem (by omega)) (hST i hi).2 hxt hlt
    exact e1.trans e2.symm
   ·have s1 := ha.size
    have s2 := hb.size
    simp only at s1 s2
    have e1 : ta[t]? = none := Array.getElem?_eq_none (by omega)
    have e2 : tb[t]? = none := Array.getElem?_eq_none (by omega)
    rw [e1, e2]
  ·have hno : ∀ (i : Nat) (x : Oper), ops[i]? = some x → x.dst ≠ some t := fun i x hx hxt => hw ⟨i, x, hx, hxt⟩
   have e1 := ha.old t fun i x hx _ => hno i x hx
   have e2 := hb.old t fun i x hx _ => hno i x hx
   exact e1.trans e2.symm
 rw [h1, h2]
def rowEnd (p : List Does) (i : Nat) (z : Array Value) : Array Value :=
 match (List.range p.length).findSome? (fun j => match p[j]? with | some (Does.fill m cs) => if m == i then some cs else none | _ => none) with
 |some cs => cs
 |none => z
structure Behind (p : List Does) (w0 : World) (X : Nat → Nat) (w : World) : Prop where
 calm : Calm w0 w
 row : ∀ i z t {kd}, p[i]? = some (.new z t kd) → w0.heap.size ≤ X i ∧ w.heap[X i]? = some (.cells (rowEnd p i z) t (0, 0))
 apart : ∀ i j z t z' t' {kd kd'}, p[i]? = some (.new z t kd) → p[j]? = some (.new z' t' kd') → i ≠ j → X i ≠ X j
theorem rowNow_end {p : List Does} {listed : Array Bool} (h : ∀ i, i < p.length → listed.getD i false = true) (i : Nat) (z : Array Value) : rowNow p listed i z = rowEnd p i z := by
 have key : ∀ l : List Nat, (∀ j, j ∈ l → j < p.length) → l.findSome? (fun j => if listed.getD j false then (match p[j]? with | some (Does.fill m cs) => if m == i then some cs else none | _ => none) else none) = l.findSome? (fun j => match p[j]? with | some (Does.fill m cs) => if m == i then some cs else none | _ => none) := by
  intro l
  induction l with
  |nil => intro _; rfl
  |cons j l ih =>
   intro hl
   simp only [List.findSome?_cons, h j (hl j (by simp)), if_true]
   rw [ih fun k hk => hl k (by simp [hk])]
 unfold rowNow rowEnd
 rw [key _ fun j hj => List.mem_range.1 hj]
/-- A REGION THAT DRAWS ITS ORDER, BY A PLAN: one walk in the text's order serves every order. -/
theorem wp_region_plan {id : Nat} {Q : Exit → Act → World → Prop} {a0 : Act} {w0 : World} {l : List Oper} (p : List Does) (hm : P.follows .mixedOrders = true) (hB : planB l.toArray = true) (hf : fillsB p = true)
    (hp : ∀ X : Nat → Nat, Plan P l.toArray w0.drew X p (fun a => ∀ w', Behind p w0.drew X w' → Q .normal a w') 0 l p a0) : (Code.region id l.toArray true).wp P Q a0 w0 := by
  have hs := planB_sound hB
  refine wp_region_any hm (wpAny_inv (fun listed a w => ∃ X, Inv l.toArray p a0 w0.drew X listed a w) (fun listed a w j h hj => ?_) (fun listed a w h h0 => ?_) _ _ _ _ (by simp [unlisted, List.countP_replicate]) ⟨fun _ => 0, by simp, ?_, ⟨Calm.refl _, ?_, ?_⟩, ?_⟩)
  · obtain ⟨X, h⟩ := h
    exact Inv.step hs hf hp h hj
  · obtain ⟨X, h⟩ := h
    have hall := fun i (hi : i < l.toArray.size) => all_listed hs h0 i i (Nat.le_refl _) hi h.size
    obtain ⟨_, ⟨b, hb, hR⟩, g3⟩ := plan_get (X := X) hs l p 0 a0 rfl rfl ⟨rfl, rfl, fun i o d t _ _ hi => absurd hi (Nat.not_lt_zero _), fun t _ => rfl⟩ (hp X)
    have hlen := g3 (Nat.zero_le _) (Nat.zero_le _)
    obtain rfl := Agree.same (fun i hi => ⟨hall i hi, hi⟩) (by omega) h.act hb
    refine hR w ⟨h.rows.calm, fun i z t _ hi => ?_, fun i j z t z' t' _ _ hi hj hij => ?_⟩
    · have hlt : i < l.toArray.size := by rw [← hlen]; exact (List.getElem?_eq_some_iff.1 hi).1
      have := h.rows.row i z t hi (hall i hlt)
      rw [rowNow_end (fun k hk => hall k (by omega))] at this
      exact this
    · have hlt : i < l.toArray.size := by rw [← hlen]; exact (List.getElem?_eq_some_iff.1 hi).1
      have hlt' : j < l.toArray.size := by rw [← hlen]; exact (List.getElem?_eq_some_iff.1 hj).1
      exact h.rows.apart i j z t z' t' hi hj (hall i hlt) (hall j hlt') hij
  · refine ⟨rfl, rfl, fun i o d t _ _ hi => ?_, fun _ _ => rfl⟩
    simp [Array.getElem?_replicate] at hi
    split at hi <;> simp at hi
  · intro i z t _ _ hi
    simp [Array.getElem?_replicate] at hi
    split at hi <;> simp at hi
  · intro i j z t z' t' _ _ _ _ hi
    simp [Array.getElem?_replicate] at hi
    split at hi <;> simp at hi
  · intro i o e _ hi
    simp [Array.getElem?_replicate] at hi
    split at hi <;> simp at hi
section
variable {w0 : World} {X : Nat → Nat} {p : List Does} {R : Act → Prop}
theorem plan_val {i : Nat} {o : Oper} {os : List Oper} {ds : List Does} {a : Act} {v : Value} (h1 : Region.wanted o (yielded ops a.tmps) = true) (h2 : ∀ w, Calm w0 w → Oper.quietUpon P (Calm w) w v ((execOp a.eval o).run P w))
    (h3 : Plan P ops w0 X p R (i + 1) os ds (a.put o.dst v)) : Plan P ops w0 X p R i (o :: os) (.val v :: ds) a := ⟨⟨h1, h2⟩, h3⟩
theorem plan_idle {i : Nat} {o : Oper} {os : List Oper} {ds : List Does} {a : Act} (h1 : Region.wanted o (yielded ops a.tmps) = false)
    (h3 : Plan P ops w0 X p R (i + 1) os ds (a.put o.dst undef)) : Plan P ops w0 X p R i (o :: os) (.idle :: ds) a := ⟨h1, h3⟩
theorem plan_new {i : Nat} {o : Oper} {os : List Oper} {ds : List Does} {a : Act} {z : Array Value} {t : TypeId} (h1 : Region.wanted o (yielded ops a.tmps) = true)
    (h2 : ∀ w, (execOp a.eval o).run P w = .ok (.value (.pointer (some ⟨w.heap.size, 0, none⟩))) (w.alloc (.cells z t)))
    (h3 : Plan P ops w0 X p R (i + 1) os ds (a.put o.dst (.pointer (some ⟨X i, 0, none⟩)))) : Plan P ops w0 X p R i (o :: os) (.new z t :: ds) a := ⟨⟨h1, h2⟩, h3⟩
theorem plan_fill {i : Nat} {o : Oper} {os : List Oper} {ds : List Does} {a : Act} {k : Nat} {cs z : Array Value} {t : TypeId} (h1 : Region.wanted o (yielded ops a.tmps) = true) (hd : o.dst = none)
    (ha : o.after.any (fun e => Region.binds .any e && e.on == k) = true) (hk : p[k]? = some (.new z t))
    (h2 : ∀ w, w.heap[X k]? = some (.cells z t (0, 0)) → (execOp a.eval o).run P w = .ok .skip (w.setRow (X k) cs) ∨ (execOp a.eval o).run P w = .ok (.value undef) (w.setRow (X k) cs))
    (h3 : Plan P ops w0 X p R (i + 1) os ds (a.put o.dst undef)) : Plan P ops w0 X p R i (o :: os) (.fill k cs :: ds) a := ⟨⟨h1, hd, ha, z, t, none, hk, h2⟩, h3⟩
/-- The first store of a whole struct or array. -/
theorem plan_fill_row {i : Nat} {o : Oper} {os : List Oper} {ds : List Does} {a : Act} {k : Nat} {cs z : Array Value} {t ty : TypeId} {x y : Operand} (ho : o.op = .store ty x y) (hg : o.guard = none) (hd : o.dst = none)
    (ha : o.after.any (fun e => Region.binds .any e && e.on == k) = true) (hk : p[k]? = some (.new z t)) (hx : a.eval x = .pointer (some ⟨X k, 0, none⟩)) (hy : a.eval y = .agg cs)
    (hi : (P.info? ty).map (·.size) = some cs.size) (hz : z.size = cs.size) (h1 : cs.all (·.oneCell') = true)
    (h3 : Plan P ops w0 X p R (i + 1) os ds (a.put o.dst undef)) : Plan P ops w0 X p R i (o :: os) (.fill k cs :: ds) a := by
  refine plan_fill (by simp [Region.wanted, hg]) hd ha hk (fun w hw => Or.inl ?_) h3
  unfold execOp
  simp only [ho, hx, hy, Instr.storeAt, Instr.sureAddr, Sem.run_bind, Sem.run_pure, Result.andThen_ok, run_storeVar_row w (X k) t ty z cs hw hi hz h1]
theorem plan_end {i : Nat} {a : Act} (h : R a) : Plan P ops w0 X p R i [] [] a := h
end
/-- A contract of a function that leaves the world alone, met in a region that only reads. -/
theorem quiet_same {f : FuncId} {args : Array Value} {w b : World} {v : Value} (h : Calls P f args w fun e w' => e = .returned v ∧ w = w') (hw : ∃ m, w = b.drewN m) :
    Calls P f args w fun e w' => e = .returned v ∧ ∃ m, w' = b.drewN m := h.mono fun _ _ ⟨h1, h2⟩ => ⟨h1, h2 ▸ hw⟩
end
open Go.RowKit
theorem ret_int {a b : Int} (h : a = b) : Ending.returned (.int .i64 a) = .returned (.int .i64 b) := by rw [h]
theorem ret_bool {a b : Bool} (h : a = b) : Ending.returned (.bool a) = .returned (.bool b) := by rw [h]
set_option maxHeartbeats 400000 in
theorem components_any (p o f : Int) (w : World) :
    Calls Try.prog 56 #[.agg #[.int .i64 p, .int .i64 o, .int .i64 f]] w fun e w' => e = .returned (.agg #[.int .i64 p, .int .i64 o, .int .i64 f]) ∧ Calm w w' := by
  go_enter Try.func56, Try.ntmps56
  go_wp2
  go_returns
  exact ⟨rfl, by repeat (first | exact Calm.refl _ | refine Calm.alloc ?_ _)⟩
theorem index3 (x y z : Value) (w : World) : (Instr.index 86 (.agg #[x, y, z]) (.int .i64 0)).run Try.prog w = .ok x w ∧ (Instr.index 86 (.agg #[x, y, z]) (.int .i64 1)).run Try.prog w = .ok y w ∧ (Instr.index 86 (.agg #[x, y, z]) (.int .i64 2)).run Try.prog w = .ok z w :=
 ⟨by kernel_rfl, by kernel_rfl, by kernel_rfl⟩
set_option maxHeartbeats 1000000 in
theorem keyCheck_any (p o f : Int) (w : World) :
    Calls Try.prog 41 #[.agg #[.int .i64 p, .int .i64 o, .int .i64 f]] w fun e w' => e = .returned (.int .i64 (keyErr p o f)) ∧ Calm w w' := by
  have i0 := fun x y z w => (index3 x y z w).1
  have i1 := fun x y z w => (index3 x y z w).2.1
  have i2 := fun x y z w => (index3 x y z w).2.2
  by_cases h1 : p < 0
  rotate_left
  by_cases h2 : 15 < p
  rotate_left
  by_cases h3 : o < 0
  rotate_left
  by_cases h4 : 1048576 < o
  rotate_left
  by_cases h5 : f < 0
  rotate_left
  by_cases h6 : 1073741824 < f
  rotate_left
  all_goals
    first | rw [keyErr_no (by omega)] | rw [keyErr_ok (by omega) (by omega) (by omega) (by omega) (by omega) (by omega)]
    go_enter Try.func41, Try.ntmps41
    go_wp2_with (go_at_call 56; refine (components_any _ _ _ _).mono ?_; rintro e w1 ⟨rfl, hb1⟩; obtain ⟨hc1, hf1, hz1⟩ := hb1.facts)
    refine wp_loop_rounds 4 ?_
    rw [rounds_succ]
    go_wp2
    repeat (rw [rounds_succ]; go_wp2)
    go_returns
    exact ⟨rfl, by repeat (first | (with_reducible exact Calm.refl _) | (with_reducible refine Calm.alloc ?_ _) | (refine Calm.call ?_ (by with_reducible assumption)))⟩
open Go.RowKit
set_option maxHeartbeats 400000 in
theorem isNaN_any (a : Int) (w : World) : Calls Try.prog 77 #[.int .i64 a] w fun e w' => e = .returned (.bool false) ∧ w = w' := by
 go_enter Try.func77, Try.ntmps77
 go_wp2
 go_ret
 simp
set_option maxHeartbeats 400000 in
theorem compare_any (a b : Int) (w : World) : Calls Try.prog 57 #[.int .i64 a, .int .i64 b] w fun e w' => e = .returned (.int .i64 (icmp a b)) ∧ w = w' := by
 by_cases h1 : a < b
 rotate_left
 by_cases h2 : b < a
 rotate_left
 all_goals
  unfold icmp
  first | rw [if_pos (by assumption)] | rw [if_neg (by assumption), if_pos (by assumption)] | rw [if_neg (by assumption), if_neg (by assumption)]
  go_enter Try.func57, Try.ntmps57
  go_wp2_with (go_at_call 77; refine (isNaN_any _ _).mono ?_; rintro e w1 ⟨rfl, rfl⟩)
  go_ret
  exact ⟨rfl, rfl⟩
def KeysAt (w : World) (x y : Nat) (p o f p' o' f' : Int) (wx : World) : Prop :=
 wx.cell? ⟨x, 0, none⟩ = some (.int .i64 p) ∧ wx.cell? ⟨x, 1, none⟩ = some (.int .i64 o) ∧ wx.cell? ⟨x, 2, none⟩ = some (.int .i64 f) ∧
  wx.cell? ⟨y, 0, none⟩ = some (.int .i64 p') ∧ wx.cell? ⟨y, 1, none⟩ = some (.int .i64 o') ∧ wx.cell? ⟨y, 2, none⟩ = some (.int .i64 f') ∧ x < wx.heap.size ∧ y < wx.heap.size ∧ Calm w wx
theorem KeysAt.drewN {w wx : World} {x y : Nat} {p o f p' o' f' : Int} (h : KeysAt w x y p o f p' o' f' wx) (n : Nat) : KeysAt w x y p o f p' o' f' (wx.drewN n) := by
 obtain ⟨h1, h2, h3, h4, h5, h6, h7, h8, h9⟩ := h
 exact ⟨h1, h2, h3, h4, h5, h6, h7, h8, h9.drewN n⟩
def TwoKeys (w : World) (p o f p' o' f' : Int) (s2 s3 : Value) (wx : World) : Prop :=
 ∃ x y : Nat, s2 = .pointer (some ⟨x, 0, none⟩) ∧ s3 = .pointer (some ⟨y, 0, none⟩) ∧ KeysAt w x y p o f p' o' f' wx
set_option maxHeartbeats 4000000 in
theorem cmp_any (p o f p' o' f' : Int) (w : World) :
    Calls Try.prog 42 #[.agg #[.int .i64 p, .int .i64 o, .int .i64 f], .agg #[.int .i64 p', .int .i64 o', .int .i64 f']] w fun e w' => e = .returned (.int .i64 (kcmp p o f p' o' f')) ∧ Calm w w' := by
  go_enter Try.func42, Try.ntmps42
  go_upto_region 0 with fail
  go_cut [2, 3, 4] (fun s2 s3 s4 wx => TwoKeys w p o f p' o' f' s2 s3 wx ∧ s4 = .int .i64 0)
  case first =>
    go_wp2_with fail
    go_meet
    refine ⟨⟨_, _, rfl, rfl, ?_, ?_, ?_, ?_, ?_, ?_, ?_, ?_, ?_⟩, rfl⟩
    all_goals first | (with_reducible exact ((Calm.refl _).alloc _).alloc _) | go_simp
  case rest =>
  obtain ⟨⟨x, y, rfl, rfl, x0, x1, x2, y0, y1, y2, hx, hy, hu⟩, rfl⟩ := hcut
  go_upto_region 1 with fail
  go_cut [5, 6] (fun s5 s6 wx => TwoKeys w p o f p' o' f' s5 s6 wx)
  case first =>
    refine wp_region_plan [.val (.agg #[.int .i64 p, .int .i64 o, .int .i64 f]), .val (.agg #[.int .i64 p, .int .i64 o, .int .i64 f]), .val (.agg #[.int .i64 p', .int .i64 o', .int .i64 f']), .val (.agg #[.int .i64 p', .int .i64 o', .int .i64 f']),
      .new #[.int .i64 0, .int .i64 0, .int .i64 0] 86, .new #[.int .i64 0, .int .i64 0, .int .i64 0] 86, .fill 4 #[.int .i64 p, .int .i64 o, .int .i64 f], .fill 5 #[.int .i64 p', .int .i64 o', .int .i64 f']] (by kernel_rfl) (by kernel_rfl) (by kernel_rfl) ?_
    intro X
    refine plan_val (by kernel_rfl) (fun u hu => ?_) ?_
    · obtain ⟨hc, hf, hz⟩ := hu.of_drew.facts
      go_simp
    simp only [Act.put, List.setIfInBounds_toArray, List.set_cons_zero, List.set_cons_succ]
    refine plan_val (by kernel_rfl) (fun u hu => ?_) ?_
    · go_simp
      exact components_any _ _ _ _
    simp only [Act.put, List.setIfInBounds_toArray, List.set_cons_zero, List.set_cons_succ]
    refine plan_val (by kernel_rfl) (fun u hu => ?_) ?_
    · obtain ⟨hc, hf, hz⟩ := hu.of_drew.facts
      go_simp
    simp only [Act.put, List.setIfInBounds_toArray, List.set_cons_zero, List.set_cons_succ]
    refine plan_val (by kernel_rfl) (fun u hu => ?_) ?_
    · go_simp
      exact components_any _ _ _ _
    simp only [Act.put, List.setIfInBounds_toArray, List.set_cons_zero, List.set_cons_succ]
    refine plan_new (by kernel_rfl) (fun u => ?_) ?_
    · go_simp
    simp only [Act.put, List.setIfInBounds_toArray, List.set_cons_zero, List.set_cons_succ]
    refine plan_new (by kernel_rfl) (fun u => ?_) ?_
    · go_simp
    simp only [Act.put, List.setIfInBounds_toArray, List.set_cons_zero, List.set_cons_succ]
    refine plan_fill_row rfl rfl rfl (by kernel_rfl) rfl rfl rfl (by kernel_rfl) rfl (by simp [Value.oneCell']) ?_
    refine plan_fill_row rfl rfl rfl (by kernel_rfl) rfl rfl rfl (by kernel_rfl) rfl (by simp [Value.oneCell']) ?_
    refine plan_end ?_
    intro w' hB
    have r4 : w'.heap[X 4]? = some (.cells #[.int .i64 p, .int .i64 o, .int .i64 f] 86) := (hB.row 4 _ _ rfl).2
    have r5 : w'.heap[X 5]? = some (.cells #[.int .i64 p', .int .i64 o', .int .i64 f'] 86) := (hB.row 5 _ _ rfl).2
    go_wp2_with fail
    go_meet
    exact ⟨X 4, X 5, rfl, rfl, cell_of_row _ _ 0 _ _ _ r4, cell_of_row _ _ 1 _ _ _ r4, cell_of_row _ _ 2 _ _ _ r4, cell_of_row _ _ 0 _ _ _ r5, cell_of_row _ _ 1 _ _ _ r5, cell_of_row _ _ 2 _ _ _ r5, (Array.getElem?_eq_some_iff.1 r4).1, (Array.getElem?_eq_some_iff.1 r5).1, hu.call hB.calm.of_drew⟩
  case rest =>
  obtain ⟨x, y, rfl, rfl, hK⟩ := hcut
  obtain ⟨x0, x1, x2, y0, y1, y2, hx, hy, hu⟩ := id hK
  go_wp2_with fail
  by_cases e1 : icmp p p' = 0
  rotate_left
  · have b1 : (icmp p p' != 0) = true := by simpa using e1
    have K : Hid (icmp p p' = kcmp p o f p' o' f') := by show _ = _; simp [kcmp, e1]
    clear e1
    refine wp_loop_rounds 4 ?_
    rw [rounds_succ]
    go_wp2_with fail
    go_quiet ((go_at_call 57; exact quiet_same (compare_any _ _ _) ⟨_, rfl⟩))
    go_wp2_with fail
    go_ret
    exact ⟨ret_int K.out, hu.drewN _⟩
  have b1 : (icmp p p' != 0) = false := by simpa using e1
  by_cases e2 : icmp o o' = 0
  rotate_left
  · have b2 : (icmp o o' != 0) = true := by simpa using e2
    have K : Hid (icmp o o' = kcmp p o f p' o' f') := by show _ = _; simp [kcmp, e1, e2]
    clear e1 e2
    refine wp_loop_rounds 4 ?_
    rw [rounds_succ]
    go_wp2_with fail
    go_quiet ((go_at_call 57; exact quiet_same (compare_any _ _ _) ⟨_, rfl⟩))
    replace hK := hK.drewN nq
    generalize wc.drewN nq = wd at hK ⊢
    clear hx hy hu x0 x1 x2 y0 y1 y2 wc
    obtain ⟨x0, x1, x2, y0, y1, y2, hx, hy, hu⟩ := id hK
    rename World => wc
    go_wp2_with fail
    rw [rounds_succ]
    go_wp2_with fail
    go_quiet ((go_at_call 57; exact quiet_same (compare_any _ _ _) ⟨_, rfl⟩))
    go_wp2_with fail
    go_ret
    exact ⟨ret_int K.out, hu.drewN _⟩
  have b2 : (icmp o o' != 0) = false := by simpa using e2
  by_cases e3 : icmp f f' = 0
  all_goals
    have b3 : (icmp f f' != 0) = !decide (icmp f f' = 0) := by by_cases h : icmp f f' = 0 <;> simp [h]
    have e4 : kcmp p o f p' o' f' = icmp f f' := by simp [kcmp, e1, e2]
    first
      | (have e5 : decide (icmp f f' = 0) = true := decide_eq_true e3
         rw [e5] at b3
         have K : Hid (0 = kcmp p o f p' o' f') := by show _ = _; rw [e4, e3]
         clear e1 e2 e3 e4 e5)
      | (have e5 : decide (icmp f f' = 0) = false := decide_eq_false e3
         rw [e5] at b3
         have K : Hid (icmp f f' = kcmp p o f p' o' f') := by show _ = _; rw [e4]
         clear e1 e2 e3 e4 e5)
    refine wp_loop_rounds 4 ?_
    rw [rounds_succ]
    go_wp2_with fail
    go_quiet ((go_at_call 57; exact quiet_same (compare_any _ _ _) ⟨_, rfl⟩))
    replace hK := hK.drewN nq
    generalize wc.drewN nq = wd at hK ⊢
    clear hx hy hu x0 x1 x2 y0 y1 y2 wc
    obtain ⟨x0, x1, x2, y0, y1, y2, hx, hy, hu⟩ := id hK
    rename World => wc
    go_wp2_with fail
    rw [rounds_succ]
    go_wp2_with fail
    go_quiet ((go_at_call 57; exact quiet_same (compare_any _ _ _) ⟨_, rfl⟩))
    replace hK := hK.drewN nq
    generalize wc.drewN nq = wd at hK ⊢
    clear hx hy hu x0 x1 x2 y0 y1 y2 wc
    obtain ⟨x0, x1, x2, y0, y1, y2, hx, hy, hu⟩ := id hK
    rename World => wc
    go_wp2_with fail
    rw [rounds_succ]
    go_wp2_with fail
    go_quiet ((go_at_call 57; exact quiet_same (compare_any _ _ _) ⟨_, rfl⟩))
    go_wp2_with fail
    try (rw [rounds_succ]; go_wp2_with fail)
    go_ret
    exact ⟨ret_int K.out, hu.drewN _⟩
open Go.RowKit
set_option maxHeartbeats 1000000 in
theorem cmpSpot_any (p o f m p' o' f' m' : Int) (w : World) :
    Calls Try.prog 75 #[.agg #[.int .i64 p, .int .i64 o, .int .i64 f, .int .i64 m], .agg #[.int .i64 p', .int .i64 o', .int .i64 f', .int .i64 m']] w fun e w' => e = .returned (.int .i64 (scmp p o f m p' o' f' m')) ∧ Calm w w' := by
  by_cases e1 : kcmp p o f p' o' f' = 0
  · have b1 : (kcmp p o f p' o' f' != 0) = false := by simpa using e1
    have K : Hid (icmp m m' = scmp p o f m p' o' f' m') := by show _ = _; simp [scmp, e1]
    clear e1
    go_enter Try.func75, Try.ntmps75
    go_wp2_with (first
      | (go_at_call 42; refine (cmp_any _ _ _ _ _ _ _).mono ?_; rintro e w1 ⟨rfl, hb1⟩; obtain ⟨hc1, hf1, hz1⟩ := hb1.facts; (try simp only [World.size_drew] at hc1 hf1 hz1); (try simp only [World.size_alloc] at hc1 hf1 hz1))
      | (go_at_call 57; refine (compare_any _ _ _).mono ?_; rintro e w1 ⟨rfl, rfl⟩))
    go_ret
    exact ⟨ret_int K.out, by repeat (first | (with_reducible exact Calm.refl _) | (with_reducible refine Calm.alloc ?_ _) | (with_reducible refine Calm.drew ?_) | (with_reducible refine Calm.drewN ?_ _) | (refine Calm.call ?_ (by with_reducible assumption)))⟩
  · have b1 : (kcmp p o f p' o' f' != 0) = true := by simpa using e1
    have K : Hid (kcmp p o f p' o' f' = scmp p o f m p' o' f' m') := by show _ = _; simp [scmp, e1]
    clear e1
    go_enter Try.func75, Try.ntmps75
    go_wp2_with (first
      | (go_at_call 42; refine (cmp_any _ _ _ _ _ _ _).mono ?_; rintro e w1 ⟨rfl, hb1⟩; obtain ⟨hc1, hf1, hz1⟩ := hb1.facts; (try simp only [World.size_drew] at hc1 hf1 hz1); (try simp only [World.size_alloc] at hc1 hf1 hz1))
      | (go_at_call 57; refine (compare_any _ _ _).mono ?_; rintro e w1 ⟨rfl, rfl⟩))
    go_ret
    exact ⟨ret_int K.out, by repeat (first | (with_reducible exact Calm.refl _) | (with_reducible refine Calm.alloc ?_ _) | (with_reducible refine Calm.drew ?_) | (with_reducible refine Calm.drewN ?_ _) | (refine Calm.call ?_ (by with_reducible assumption)))⟩
set_option maxHeartbeats 400000 in
theorem isTime_any (x : Int) (w : World) : Calls Try.prog 85 #[.int .i64 x] w fun e w' => e = .returned (.bool (decide (1 ≤ x ∧ x ≤ 2147483647))) ∧ w = w' := by
 go_enter Try.func85, Try.ntmps85
 go_wp2
 all_goals
  go_ret
  exact ⟨ret_bool (Bool.eq_iff_iff.2 (by simp; omega)), rfl⟩
set_option maxHeartbeats 1000000 in
theorem timesFit_any (m g : Int) (w : World) : Calls Try.prog 74 #[.int .i64 m, .int .i64 g] w fun e w' => e = .returned (.bool (decide (timeOk m g))) ∧ w = w' := by
 go_enter Try.func74, Try.ntmps74
 go_wp2_with (go_at_call 85; refine (isTime_any _ _).mono ?_; rintro e w1 ⟨rfl, rfl⟩)
 all_goals
  go_ret
  exact ⟨ret_bool (Bool.eq_iff_iff.2 (by rw [decide_eq_true_eq]; unfold timeOk; simp at * <;> omega)), rfl⟩
set_option maxHeartbeats 1000000 in
theorem elemCheck_any (p o f m g : Int) (s : ByteArray) (w : World) : Calls Try.prog 54 #[.agg #[.int .i64 p, .int .i64 o, .int .i64 f, .int .i64 m, .int .i64 g, .string s]] w fun e w' => e = .returned (.int .i64 (elemErr p o f m g s.size)) ∧ Calm w w' := by
 by_cases h1 : keyErr p o f = 0
 rotate_left
 ·have b1 : (keyErr p o f != 0) = true := by simpa using h1
  have K : Hid (keyErr p o f = elemErr p o f m g s.size) := (elemErr_key h1).symm
  clear h1
  go_enter Try.func54, Try.ntmps54
  go_wp2_with (go_at_call 41; refine (keyCheck_any _ _ _ _).mono ?_; rintro e w1 ⟨rfl, hb1⟩; obtain ⟨hc1, hf1, hz1⟩ := hb1.facts; (try simp only [World.size_drew] at hc1 hf1 hz1); (try simp only [World.size_alloc] at hc1 hf1 hz1))
  go_ret
  exact ⟨ret_int K.out, by repeat (first | (with_reducible exact Calm.refl _) | (with_reducible refine Calm.alloc ?_ _) | (with_reducible refine Calm.drew ?_) | (with_reducible refine Calm.drewN ?_ _) | (refine Calm.call ?_ (by with_reducible assumption)))⟩
 have b1 : (keyErr p o f != 0) = false := by simpa using h1
 by_cases h2 : timeOk m g
 rotate_left
 ·have b2 : decide (timeOk m g) = false := by simpa using h2
  have K : Hid (9 = elemErr p o f m g s.size) := (elemErr_time h1 h2).symm
  clear h1 h2
  go_enter Try.func54, Try.ntmps54
  go_wp2_with (first
   |(go_at_call 41; refine (keyCheck_any _ _ _ _).mono ?_; rintro e w1 ⟨rfl, hb1⟩; obtain ⟨hc1, hf1, hz1⟩ := hb1.facts; (try simp only [World.size_drew] at hc1 hf1 hz1); (try simp only [World.size_alloc] at hc1 hf1 hz1))
   |(go_at_call 74; refine (timesFit_any _ _ _).mono ?_; rintro e w1 ⟨rfl, rfl⟩))
  go_ret
  exact ⟨ret_int K.out, by repeat (first | (with_reducible exact Calm.refl _) | (with_reducible refine Calm.alloc ?_ _) | (with_reducible refine Calm.drew ?_) | (with_reducible refine Calm.drewN ?_ _) | (refine Calm.call ?_ (by with_reducible assumption)))⟩
 have b2 : decide (timeOk m g) = true := by simpa using h2
 by_cases h3 : (40 : Int) < s.size
 ·have K : Hid (2 = elemErr p o f m g s.size) := (elemErr_long h1 h2 h3).symm
  clear h1 h2
  go_enter Try.func54, Try.ntmps54
  go_wp2_with (first
   |(go_at_call 41; refine (keyCheck_any _ _ _ _).mono ?_; rintro e w1 ⟨rfl, hb1⟩; obtain ⟨hc1, hf1, hz1⟩ := hb1.facts; (try simp only [World.size_drew] at hc1 hf1 hz1); (try simp only [World.size_alloc] at hc1 hf1 hz1))
   |(go_at_call 74; refine (timesFit_any _ _ _).mono ?_; rintro e w1 ⟨rfl, rfl⟩))
  go_ret
  exact ⟨ret_int K.out, by repeat (first | (with_reducible exact Calm.refl _) | (with_reducible refine Calm.alloc ?_ _) | (with_reducible refine Calm.drew ?_) | (with_reducible refine Calm.drewN ?_ _) | (refine Calm.call ?_ (by with_reducible assumption)))⟩
 ·have K : Hid (0 = elemErr p o f m g s.size) := (elemErr_ok h1 h2 (by omega)).symm
  clear h1 h2
  go_enter Try.func54, Try.ntmps54
  go_wp2_with (first
   |(go_at_call 41; refine (keyCheck_any _ _ _ _).mono ?_; rintro e w1 ⟨rfl, hb1⟩; obtain ⟨hc1, hf1, hz1⟩ := hb1.facts; (try simp only [World.size_drew] at hc1 hf1 hz1); (try simp only [World.size_alloc] at hc1 hf1 hz1))
   |(go_at_call 74; refine (timesFit_any _ _ _).mono ?_; rintro e w1 ⟨rfl, rfl⟩))
  go_ret
  exact ⟨ret_int K.out, by repeat (first | (with_reducible exact Calm.refl _) | (with_reducible refine Calm.alloc ?_ _) | (with_reducible refine Calm.drew ?_) | (with_reducible refine Calm.drewN ?_ _) | (refine Calm.call ?_ (by with_reducible assumption)))⟩
set_option maxHeartbeats 1000000 in
theorem spot_any (p o f m g : Int) (s : ByteArray) (w : World) : Calls Try.prog 76 #[.agg #[.int .i64 p, .int .i64 o, .int .i64 f, .int .i64 m, .int .i64 g, .string s]] w fun e w' => e = .returned (.agg #[.int .i64 p, .int .i64 o, .int .i64 f, .int .i64 m]) ∧ Calm w w' := by
 go_enter Try.func76, Try.ntmps76
 go_wp2
 go_returns
 exact ⟨rfl, by repeat (first | (with_reducible exact Calm.refl _) | (with_reducible refine Calm.alloc ?_ _) | (with_reducible refine Calm.drew ?_) | (with_reducible refine Calm.drewN ?_ _) | (refine Calm.call ?_ (by with_reducible assumption)))⟩
set_option maxHeartbeats 1000000 in
theorem live_any (p o f m g t : Int) (s : ByteArray) (w : World) : Calls Try.prog 43 #[.agg #[.int .i64 p, .int .i64 o, .int .i64 f, .int .i64 m, .int .i64 g, .string s], .int .i64 t] w fun e w' => e = .returned (.bool (decide (liveP m g t))) ∧ Calm w w' := by
 go_enter Try.func43, Try.ntmps43
 go_wp2
 all_goals
  go_ret
  exact ⟨ret_bool (Bool.eq_iff_iff.2 (by rw [decide_eq_true_eq]; unfold liveP; simp at * <;> omega)), by repeat (first | (with_reducible exact Calm.refl _) | (with_reducible refine Calm.alloc ?_ _) | (with_reducible refine Calm.drew ?_) | (with_reducible refine Calm.drewN ?_ _) | (refine Calm.call ?_ (by with_reducible assumption)))⟩
open Go.RowKit
def El.cells (e : El) : List Value := [.int .i64 e.p, .int .i64 e.o, .int .i64 e.f, .int .i64 e.m, .int .i64 e.g, .string e.s]
def El.wf (e : El) : Prop := -9223372036854775808 ≤ e.m
def ElAt (w : World) (b q : Nat) (e : El) : Prop :=
 w.cell? ⟨b, q, none⟩ = some (.int .i64 e.p) ∧ w.cell? ⟨b, q + 1, none⟩ = some (.int .i64 e.o) ∧ w.cell? ⟨b, q + 2, none⟩ = some (.int .i64 e.f) ∧ w.cell? ⟨b, q + 3, none⟩ = some (.int .i64 e.m) ∧ w.cell? ⟨b, q + 4, none⟩ = some (.int .i64 e.g) ∧ w.cell? ⟨b, q + 5, none⟩ = some (.string e.s)
def Lies (w : World) (A : Option Addr) (l : List El) : Prop :=
 (∀ e ∈ l, e.wf) ∧ (0 < l.length → ∃ b q, A = some ⟨b, q, none⟩ ∧ b < w.heap.size ∧ ∀ k e, l[k]? = some e → ElAt w b (q + k * 6) e)
def Sl (w : World) (v : Value) (l : List El) : Prop := ∃ A c, v = .slice A l.length c ∧ l.length ≤ 9223372036854775807 ∧ Lies w A l
theorem ElAt.calm {w w' : World} {b q : Nat} {e : El} (h : ElAt w b q e) (hb : Calm w w') (hlt : b < w.heap.size) : ElAt w' b q e := by
 obtain ⟨h0, h1, h2, h3, h4, h5⟩ := h
 have hc := hb.facts.1
 exact ⟨(hc b _ hlt).trans h0, (hc b _ hlt).trans h1, (hc b _ hlt).trans h2, (hc b _ hlt).trans h3, (hc b _ hlt).trans h4, (hc b _ hlt).trans h5⟩
theorem Lies.calm {w w' : World} {A : Option Addr} {l : List El} (h : Lies w A l) (hb : Calm w w') : Lies w' A l :=
 ⟨h.1, fun hl => by
  obtain ⟨b, q, hA, hlt, hk⟩ := h.2 hl
  exact ⟨b, q, hA, Nat.lt_of_lt_of_le hlt hb.size, fun k e he => (hk k e he).calm hb hlt⟩⟩
theorem Sl.calm {w w' : World} {v : Value} {l : List El} (h : Sl w v l) (hb : Calm w w') : Sl w' v l := by
 obtain ⟨A, c, hv, hl, h⟩ := h
 exact ⟨A, c, hv, hl, h.calm hb⟩
theorem Sl.nil (w : World) (c : Nat) (A : Option Addr) : Sl w (.slice A 0 c) [] := ⟨A, c, rfl, by simp, by simp, fun h => absurd h (by simp)⟩
theorem Lies.at_ {w : World} {A : Option Addr} {l : List El} (h : Lies w A l) {k : Nat} (hk : k < l.length) : ∃ b q e, A = some ⟨b, q, none⟩ ∧ b < w.heap.size ∧ l[k]? = some e ∧ e.wf ∧ ElAt w b (q + k * 6) e := by
 obtain ⟨b, q, hA, hlt, h2⟩ := h.2 (by omega)
 exact ⟨b, q, l[k], hA, hlt, List.getElem?_eq_getElem hk, h.1 _ (List.getElem_mem _), h2 _ _ (List.getElem?_eq_getElem hk)⟩
theorem heap_new (w : World) (o : Obj) : (w.alloc o).heap[w.heap.size]? = some o := by show (w.heap.push o)[w.heap.size]? = _; simp
theorem heap_past {w : World} {g : Nat} {c : Obj} (o : Obj) (h : w.heap[g]? = some c) : (w.alloc o).heap[g]? = some c := by
 rw [Below.heap_alloc _ _ _ (Array.getElem?_eq_some_iff.1 h).1, h]
/-- What a walk reads of a record: its cells' numbers. -/
theorem Lies.get {w : World} {A : Option Addr} {l : List El} (h : Lies w A l) {k : Nat} (hk : k < l.length) : ∃ (b q : Nat) (p o f m g : Int) (s : ByteArray), A = some ⟨b, q, none⟩ ∧ b < w.heap.size ∧ Hid (l[k]? = some ⟨p, o, f, m, g, s⟩) ∧ -9223372036854775808 ≤ m ∧
    w.cell? ⟨b, q + k * 6, none⟩ = some (.int .i64 p) ∧ w.cell? ⟨b, q + k * 6 + 1, none⟩ = some (.int .i64 o) ∧ w.cell? ⟨b, q + k * 6 + 2, none⟩ = some (.int .i64 f) ∧ w.cell? ⟨b, q + k * 6 + 3, none⟩ = some (.int .i64 m) ∧ w.cell? ⟨b, q + k * 6 + 4, none⟩ = some (.int .i64 g) ∧ w.cell? ⟨b, q + k * 6 + 5, none⟩ = some (.string s) := by
  obtain ⟨b, q, ⟨p, o, f, m, g, s⟩, hA, hlt, he, hw, h0, h1, h2, h3, h4, h5⟩ := h.at_ hk
  exact ⟨b, q, p, o, f, m, g, s, hA, hlt, he, hw, h0, h1, h2, h3, h4, h5⟩
/-- The same of a record and the one ahead of it. -/
theorem Lies.get2 {w : World} {b q : Nat} {l : List El} (h : Lies w (some ⟨b, q, none⟩) l) {k : Nat} (hk : k < l.length) : ∃ (p o f m g : Int) (s : ByteArray), Hid (l[k]? = some ⟨p, o, f, m, g, s⟩) ∧ -9223372036854775808 ≤ m ∧
    w.cell? ⟨b, q + k * 6, none⟩ = some (.int .i64 p) ∧ w.cell? ⟨b, q + k * 6 + 1, none⟩ = some (.int .i64 o) ∧ w.cell? ⟨b, q + k * 6 + 2, none⟩ = some (.int .i64 f) ∧ w.cell? ⟨b, q + k * 6 + 3, none⟩ = some (.int .i64 m) ∧ w.cell? ⟨b, q + k * 6 + 4, none⟩ = some (.int .i64 g) ∧ w.cell? ⟨b, q + k * 6 + 5, none⟩ = some (.string s) := by
  obtain ⟨b', q', p, o, f, m, g, s, hA, hlt, he, hw, h0, h1, h2, h3, h4, h5⟩ := h.get hk
  injection hA with hA
  injection hA with h6 h7
  subst h6; subst h7
  exact ⟨p, o, f, m, g, s, he, hw, h0, h1, h2, h3, h4, h5⟩
theorem row3 {w : World} {g t : Nat} {a b c : Value} {fr : Nat × Nat} (h : w.heap[g]? = some (.cells #[a, b, c] t fr)) : w.cell? ⟨g, 0, none⟩ = some a ∧ w.cell? ⟨g, 1, none⟩ = some b ∧ w.cell? ⟨g, 2, none⟩ = some c ∧ g < w.heap.size :=
 ⟨cell_of_row _ _ 0 _ _ _ h, cell_of_row _ _ 1 _ _ _ h, cell_of_row _ _ 2 _ _ _ h, (Array.getElem?_eq_some_iff.1 h).1⟩
theorem row6 {w : World} {g t : Nat} {a b c d e f : Value} {fr : Nat × Nat} (h : w.heap[g]? = some (.cells #[a, b, c, d, e, f] t fr)) : w.cell? ⟨g, 0, none⟩ = some a ∧ w.cell? ⟨g, 1, none⟩ = some b ∧ w.cell? ⟨g, 2, none⟩ = some c ∧ w.cell? ⟨g, 3, none⟩ = some d ∧ w.cell? ⟨g, 4, none⟩ = some e ∧ w.cell? ⟨g, 5, none⟩ = some f ∧ g < w.heap.size :=
 ⟨cell_of_row _ _ 0 _ _ _ h, cell_of_row _ _ 1 _ _ _ h, cell_of_row _ _ 2 _ _ _ h, cell_of_row _ _ 3 _ _ _ h, cell_of_row _ _ 4 _ _ _ h, cell_of_row _ _ 5 _ _ _ h, (Array.getElem?_eq_some_iff.1 h).1⟩
open Go.RowKit
def cellsOf (l : List El) : List Value := l.flatMap El.cells
def OwnR (base : Nat) (w : World) (v : Value) (l : List El) : Prop := w.ownsRow base 52 6 v l.length (cellsOf l)
theorem cells_len (e : El) : e.cells.length = 6 := rfl
theorem cellsOf_at : ∀ (l : List El) (k j : Nat) (e : El), l[k]? = some e → j < 6 → (cellsOf l)[k * 6 + j]? = e.cells[j]?
 | [], k, j, e, h, _ => by simp at h
 |x :: l, 0, j, e, h, hj => by
  simp at h; subst h
  show (x.cells ++ cellsOf l)[0 * 6 + j]? = _
  rw [Nat.zero_mul, Nat.zero_add, List.getElem?_append_left (by rw [cells_len]; exact hj)]
 |x :: l, k + 1, j, e, h, hj => by
  show (x.cells ++ cellsOf l)[(k + 1) * 6 + j]? = _
  rw [List.getElem?_append_right (by rw [cells_len]; omega), cells_len]
  rw [show (k + 1) * 6 + j - 6 = k * 6 + j by omega]
  exact cellsOf_at l k j e (by simpa using h) hj
theorem cellsOf_snoc (l : List El) (e : El) : cellsOf (l ++ [e]) = cellsOf l ++ e.cells := by unfold cellsOf; simp
theorem Calm.grownBy {w w' : World} (h : Calm w w') (row : Option Nat) : w.grownBy w' row := ⟨Below.os h, Below.tape h, Below.output h, Below.size h, fun _ hk _ => h.block hk⟩
theorem OwnR.lt {base : Nat} {w : World} {v : Value} {l : List El} (h : OwnR base w v l) : ∀ k, v.ownBlock = some k → base ≤ k ∧ k < w.heap.size := World.ownsRow.lt h
theorem OwnR.calm {base : Nat} {w w' : World} {v : Value} {l : List El} (h : OwnR base w v l) (hb : Calm w w') : OwnR base w' v l := World.ownsRow.kept h (hb.grownBy none) (by
 rcases v.ownBlock with _ | k
 ·exact .inl rfl
 ·exact .inr (by simp))
theorem OwnR.nil (base : Nat) (w : World) : OwnR base w (.slice none 0 0) [] := World.ownsRow_nil _ _ _ _
theorem Calm.grown {a w w' : World} {base : Nat} {v : Value} {l : List El} (h : Calm a w) (hb : a.heap.size ≤ base) (ho : OwnR base w v l) (hg : w.grownBy w' v.ownBlock) : Calm a w' :=
 Below.grown h hg h.size fun k hk => Nat.le_trans hb (ho.lt k hk).1
/-- What a call owns reads as its list. -/
theorem OwnR.lies {base : Nat} {w : World} {v : Value} {l : List El} (h : OwnR base w v l) (hw : ∀ e ∈ l, e.wf) : ∃ A c, v = .slice A l.length c ∧ l.length ≤ c ∧ c ≤ 9223372036854775807 ∧ Lies w A l := by
 rcases h.2 with ⟨rfl, hl⟩ | ⟨g, cap, cur, rfl, _, hg, hnc, hcm, _, ht⟩
 ·have : l = [] := List.eq_nil_of_length_eq_zero hl
  subst this
  exact ⟨none, 0, rfl, Nat.le_refl _, by omega, by simp, fun h => absurd h (by simp)⟩
 ·refine ⟨some ⟨g, 0, none⟩, cap, rfl, hnc, by simp only [maxLen] at hcm; omega, hw, fun hpos => ⟨g, 0, rfl, (Array.getElem?_eq_some_iff.1 hg).1, fun k e he => ?_⟩⟩
  have hk : k < l.length := (List.getElem?_eq_some_iff.1 he).1
  have key : ∀ j, j < 6 → w.cell? ⟨g, 0 + k * 6 + j, none⟩ = e.cells[j]? := fun j hj => by
   rw [cell_of_row w g _ cur _ (0, 0) hg, ← cellsOf_at l k j e he hj, ← ht, List.getElem?_take, if_pos (by omega), Nat.zero_add, Array.getElem?_toList]
  exact ⟨key 0 (by omega), key 1 (by omega), key 2 (by omega), key 3 (by omega), key 4 (by omega), key 5 (by omega)⟩
theorem infoElem : (Try.prog.info? 52).map (fun i => (i.zero, i.size, i.bytes)) = some (some (.agg #[.int .i64 0, .int .i64 0, .int .i64 0, .int .i64 0, .int .i64 0, .string ByteArray.empty]), 6, 56) := by kernel_rfl
theorem cells_one (e : El) : ∀ u ∈ e.cells, u.oneCell' = true := by
 intro u hu
 simp only [El.cells, List.mem_cons, List.not_mem_nil, or_false] at hu
 rcases hu with rfl | rfl | rfl | rfl | rfl | rfl <;> rfl
/-- append(out, e): one record more in a row of the call's own. -/
theorem wpList_append_el {ops : Array Oper} {rest : List Oper} {o : Oper} {a : Act} {w : World} {Q : Exit → Act → World → Prop} (hgd : o.guard = none) (s x : Operand)
    (ho : o.op = .call { callee := .builtin .append, args := #[s, x], argTypes := #[43, 43] })
    (base : Nat) (v : Value) (l : List El) (hs : a.eval s = v) (hown : OwnR base w v l) (g t : Nat) (p o' f m gg : Int) (sv : ByteArray) (fr : Nat × Nat)
    (hx : a.eval x = .slice (some ⟨g, 0, none⟩) 1 1) (hg : w.heap[g]? = some (.cells #[.int .i64 p, .int .i64 o', .int .i64 f, .int .i64 m, .int .i64 gg, .string sv] t fr)) (hl : l.length ≤ 1000000) (hbase : base ≤ w.heap.size)
    (h : ∀ v' w', OwnR base w' v' (l ++ [⟨p, o', f, m, gg, sv⟩]) → (∀ w0 : World, w0.heap.size ≤ base → Calm w0 w → Calm w0 w') → wpList Try.prog ops Q rest (a.put o.dst v') w') : wpList Try.prog ops Q (o :: rest) a w := by
  obtain ⟨i0, hi, hz0, hz1, hz2⟩ := info_parts infoElem
  refine wpList_append_own w hgd s x _ ho base 52 i0 _ 6 56 Try.underlying43 hi hz0 hz1 hz2 rfl (by decide) v _ _ hs hown ⟨g, 0, none⟩ 1 1 (El.cells ⟨p, o', f, m, gg, sv⟩) hx rfl (fun j u hj => ?_) (cells_one _) (by unfold maxLen; omega) (by omega) hbase fun v' w' h1 h2 _ => ?_
  · have : (⟨g, 0, none⟩ : Addr).add j = ⟨g, j, none⟩ := by unfold Addr.add; split <;> simp_all
    rw [this, cell_of_row w g j _ t fr hg, ← hj]
    simp [El.cells]
  · refine h v' w' ?_ fun w0 h0 hc => hc.grown h0 hown h2
    unfold OwnR
    rw [List.length_append, cellsOf_snoc]
    exact h1
open Go.RowKit
def LiesI (w : World) (A : Option Addr) (l : List Int) : Prop :=
 0 < l.length → ∃ b q, A = some ⟨b, q, none⟩ ∧ b < w.heap.size ∧ ∀ (k : Nat) (x : Int), l[k]? = some x → w.cell? ⟨b, q + k, none⟩ = some (.int .i64 x)
theorem LiesI.calm {w w' : World} {A : Option Addr} {l : List Int} (h : LiesI w A l) (hb : Calm w w') : LiesI w' A l := fun hl => by
 obtain ⟨b, q, hA, hlt, hk⟩ := h hl
 exact ⟨b, q, hA, Nat.lt_of_lt_of_le hlt hb.size, fun k x hx => (hb.facts.1 b _ hlt).trans (hk k x hx)⟩
theorem LiesI.get {w : World} {A : Option Addr} {l : List Int} (h : LiesI w A l) {k : Nat} (hk : k < l.length) : ∃ (b q : Nat) (x : Int), A = some ⟨b, q, none⟩ ∧ b < w.heap.size ∧ Hid (l[k]? = some x) ∧ w.cell? ⟨b, q + k, none⟩ = some (.int .i64 x) := by
 obtain ⟨b, q, hA, hlt, h2⟩ := h (by omega)
 exact ⟨b, q, l[k], hA, hlt, List.getElem?_eq_getElem hk, h2 _ _ (List.getElem?_eq_getElem hk)⟩
open Go.ChangeShapes Go.WideShapes Go.ChangeAt Go.RowKit
theorem own : ownKnob Try.prog.godebug = none := by kernel_rfl
theorem laidOut : laidOutB Try.prog = true := by kernel_rfl
section
variable {H : Type} {enc : TypeId × Value → H} {P : Program}
theorem trodAll_stays (hl : laidOutB P = true) {W W' : World} (hb : Calm W W') : ∀ (ts : List TypeId) (vs : List Value) (ds : List (DataW H)) (ps : List MemPlace), ts.all (fun t => P.readableRec t && decide (t < P.types.size)) = true →
    DataW.TrodAll enc P W 0 (fun _ => true) true ts vs ds ps → (∀ x ∈ ps, x.block < W.heap.size) → DataW.TrodAll enc P W' 0 (fun b => decide (b < W.heap.size)) true ts vs ds ps
  | [], [], [], ps, _, h, _ => h
  | t :: ts, v :: vs, d :: ds, ps, ht, h, hlt => by
    obtain ⟨p, q, h1, h2, rfl⟩ := h
    simp only [List.all_cons, Bool.and_eq_true, decide_eq_true_eq] at ht
    exact ⟨p, q, Below.trod hl ht.1.1 ht.1.2 h1 hb fun x hx => hlt x (List.mem_append_left _ hx), trodAll_stays hl hb ts vs ds q (by simpa using ht.2) h2 fun x hx => hlt x (List.mem_append_right _ hx), rfl⟩
  | [], _ :: _, _, _, _, h, _ => absurd h (by simp [DataW.TrodAll])
  | [], [], _ :: _, _, _, h, _ => absurd h (by simp [DataW.TrodAll])
  | _ :: _, [], _, _, _, h, _ => absurd h (by simp [DataW.TrodAll])
  | _ :: _, _ :: _, [], _, _, h, _ => absurd h (by simp [DataW.TrodAll])
/-- The row's post, of a law: it answers true, and nothing that was there has turned. -/
theorem law_post (hl : laidOutB P = true) {f : Func} {s : ChangeSpec} {apart fresh handsOn : Bool} {W W' : World} {args : Array Value} {ds gs : List (DataW H)} {before : List MemPlace}
    (hW : DataW.Whole enc P f.params.toList s.vars apart W args.toList ds gs before) (hb : Calm W W') (hbool : ∃ t, f.resultTypes = #[t] ∧ P.underlying t = some .bool)
    (hts : f.params.toList.all (fun t => P.readableRec t && decide (t < P.types.size)) = true) (hvars : s.vars = []) (hspec : (s.fn H (ds ++ gs)).results = [.lit (.bool true)] ∧ (s.fn H (ds ++ gs)).args = ds ∧ (s.fn H (ds ++ gs)).vars = []) :
    s.post enc P f apart fresh handsOn false W args (.bool true) W' := by
  obtain ⟨t, ht, hu⟩ := hbool
  obtain ⟨h1, h2, h3⟩ := hspec
  have hlt := hW.lt
  obtain ⟨p, q, hA, hV, rfl, hz, hn⟩ := id hW
  rw [hvars] at hV
  obtain ⟨rfl, rfl⟩ := trodVars_none hV
  refine ⟨ds, [], p ++ [], [], p, [], hW, ?_, ?_, ?_, World.keptBut_mono (fun _ h => h) (Below.frame hb _), fun h => by cases h⟩
  · rw [h1, ht]
    exact trodAll_mk1 (shut_bool hu true)
  · rw [h2]
    exact trodAll_stays hl hb _ _ _ _ hts hA fun x hx => hlt x (by simpa using hx)
  · rw [h3, hvars]
    exact rfl
end
section
variable {H : Type} {enc : TypeId × Value → H} {w : World} {base : Nat} {spare : Nat → Bool} {held : Bool}
theorem cellsInt : Try.prog.cellsOf 3 = 1 := by kernel_rfl
theorem cellsStr : Try.prog.cellsOf 9 = 1 := by kernel_rfl
theorem cellsKey : Try.prog.cellsOf 45 = 3 := by kernel_rfl
theorem cellsElem : Try.prog.cellsOf 52 = 6 := by kernel_rfl
theorem wf_range {n : Int} (h : (Lit.int .i64 n).wf = true) : -9223372036854775808 ≤ n ∧ n ≤ 9223372036854775807 := by
 have e1 : IntKind.i64.min = -9223372036854775808 := by decide
 simp [Lit.wf] at h
 omega
theorem key_cells {fuel : Nat} {cs : List Value} {x : DataW H × List MemPlace} (h : DataW.trod enc Try.prog w base spare held fuel 45 cs = some x) :
    ∃ p o f : Int, cs = [.int .i64 p, .int .i64 o, .int .i64 f] ∧ (Lit.int .i64 p).wf = true ∧ (Lit.int .i64 o).wf = true ∧ (Lit.int .i64 f).wf = true := by
  obtain ⟨y0, y1, y2, n, _, hl, h0, h1, h2⟩ := Go.Deep.trod_struct3 Try.underlying45 h
  obtain ⟨p, e0, _, w0⟩ := DataW.trod_int Try.underlying3 h0
  obtain ⟨o, e1, _, w1⟩ := DataW.trod_int Try.underlying3 h1
  obtain ⟨f, e2, _, w2⟩ := DataW.trod_int Try.underlying3 h2
  simp only [cellsInt, cellsKey] at e0 e1 e2 hl
  match cs, hl with
  | [c0, c1, c2], _ =>
    simp at e0 e1 e2
    exact ⟨p, o, f, by rw [e0, e1, e2], w0, w1, w2⟩
theorem elem_cells {fuel : Nat} {cs : List Value} {x : DataW H × List MemPlace} (h : DataW.trod enc Try.prog w base spare held fuel 52 cs = some x) :
    ∃ (p o f m g : Int) (s : ByteArray), cs = [.int .i64 p, .int .i64 o, .int .i64 f, .int .i64 m, .int .i64 g, .string s] ∧ (Lit.int .i64 p).wf = true ∧ (Lit.int .i64 o).wf = true ∧ (Lit.int .i64 f).wf = true ∧ (Lit.int .i64 m).wf = true ∧ (Lit.int .i64 g).wf = true ∧ s.size ≤ maxLen := by
  obtain ⟨y0, y1, y2, y3, n, _, hl, h0, h1, h2, h3⟩ := Go.Joins.trod_struct4 Try.underlying52 h
  obtain ⟨p, o, f, e0, w0, w1, w2⟩ := key_cells h0
  obtain ⟨m, e1, _, w3⟩ := DataW.trod_int Try.underlying3 h1
  obtain ⟨g, e2, _, w4⟩ := DataW.trod_int Try.underlying3 h2
  obtain ⟨s, e3, _, w5⟩ := DataW.trod_string Try.underlying9 h3
  simp only [cellsInt, cellsKey, cellsStr, cellsElem] at e0 e1 e2 e3 hl
  match cs, hl with
  | [c0, c1, c2, c3, c4, c5], _ =>
    simp at e0 e1 e2 e3
    obtain ⟨a0, a1, a2⟩ := e0
    exact ⟨p, o, f, m, g, s, by rw [a0, a1, a2, e1, e2, e3], w0, w1, w2, w3, w4, w5⟩
variable {r : Reach} {b0 : Nat} {v : Value} {d : DataW H} {ps : List MemPlace}
theorem open_key (hv : Value.okWide Try.prog w r b0 45 v) (h : DataW.Trod enc Try.prog w base spare held 45 v d ps) :
    ∃ p o f : Int, v = .agg #[.int .i64 p, .int .i64 o, .int .i64 f] ∧ (Lit.int .i64 p).wf = true ∧ (Lit.int .i64 o).wf = true ∧ (Lit.int .i64 f).wf = true := by
  obtain ⟨cs, rfl, _⟩ := okWide_struct Try.underlying45 hv
  obtain ⟨fuel, hf⟩ := h
  obtain ⟨p, o, f, e, ws⟩ := key_cells hf
  exact ⟨p, o, f, by rw [show cs = _ from Array.toList_inj.1 e], ws⟩
theorem elems_of (R : Nat → El → Prop) : ∀ n, (∀ i, i < n → ∃ e, R i e) → ∃ l : List El, l.length = n ∧ ∀ k e, l[k]? = some e → R k e
 | 0, _ => ⟨[], rfl, by simp⟩
 |n + 1, h => by
  obtain ⟨l, hl, hk⟩ := elems_of R n fun i hi => h i (by omega)
  obtain ⟨e, he⟩ := h n (by omega)
  refine ⟨l ++ [e], by simp [hl], fun k x hx => ?_⟩
  rcases Nat.lt_or_ge k n with hlt | hge
  ·rw [List.getElem?_append_left (by omega)] at hx; exact hk k x hx
  ·rw [List.getElem?_append_right (by omega)] at hx
   have : k = n := by
    have := (List.getElem?_eq_some_iff.1 hx).1
    simp at this; omega
   subst this
   rw [hl] at hx; simp at hx; subst hx; exact he
theorem open_elems (hv : Value.okWide Try.prog w r b0 43 v) (h : DataW.Trod enc Try.prog w base spare held 43 v d ps) :
    ∃ (A : Option Addr) (c : Nat) (l : List El), v = .slice A l.length c ∧ l.length ≤ 9223372036854775807 ∧ Lies w A l := by
  obtain ⟨A, len, cap, rfl⟩ := okWide_slice Try.underlying43 hv
  obtain ⟨fuel, hf⟩ := h
  rcases Go.Deep.open_slice Try.underlying43 hf with ⟨h0, _⟩ | ⟨a, len', cap', m, n, D, Pl, hcs, _, hl, hm, hmm, _, hi⟩
  · have h0' : Value.slice A len cap = .slice none 0 0 := by simpa [Value.cells] using h0
    injection h0' with h1 h2 h3
    subst h1; subst h2; subst h3
    exact ⟨none, 0, [], rfl, by simp, by simp, fun h => absurd h (by simp)⟩
  · have h0' : Value.slice A len cap = .slice (some a) len' cap' := by simpa [Value.cells] using hcs
    injection h0' with h1 h2 h3
    subst h1; subst h2; subst h3
    have hlm : len ≤ m := by rw [hmm]; split <;> omega
    have each : ∀ i, i < len → ∃ e : El, e.wf ∧ a.spot = none ∧ a.block < w.heap.size ∧ ElAt w a.block (a.off + i * 6) e := fun i hil => by
      obtain ⟨cs', hc, ht⟩ := hi i (by omega)
      obtain ⟨p, o, f, m, g, s, rfl, _, _, _, w3, _, _⟩ := elem_cells ht
      rw [cellsElem] at hc
      obtain ⟨_, _, hat⟩ := World.cells?_some hc
      have g0 := hat 0 (by omega); have g1 := hat 1 (by omega); have g2 := hat 2 (by omega); have g3 := hat 3 (by omega); have g4 := hat 4 (by omega); have g5 := hat 5 (by omega)
      simp only [List.getElem?_cons_zero, List.getElem?_cons_succ] at g0 g1 g2 g3 g4 g5
      have hsp : ((a.add (i * 6)).add 0).spot = none := World.cell?_spot g0
      have hbl := World.block_lt_of_cell? _ _ g0
      have hne : ∀ j, j ≠ 0 → (a.add (i * 6)).add j = ⟨a.block, a.off + i * 6 + j, none⟩ := fun j hj => by
        unfold Addr.add
        by_cases h6 : i * 6 = 0 <;> simp [h6, hj]
      have hz : (a.add (i * 6)).add 0 = ⟨a.block, a.off + i * 6, (a.add (i * 6)).spot⟩ := by
        unfold Addr.add
        by_cases h6 : i * 6 = 0 <;> simp [h6]
      rw [hz] at hsp hbl g0
      simp only at hsp hbl
      rw [hsp] at g0
      rw [hne 1 (by omega)] at g1; rw [hne 2 (by omega)] at g2; rw [hne 3 (by omega)] at g3; rw [hne 4 (by omega)] at g4; rw [hne 5 (by omega)] at g5
      refine ⟨⟨p, o, f, m, g, s⟩, (wf_range w3).1, ?_, hbl, g0, g1, g2, g3, g4, g5⟩
      obtain ⟨cs0, hc0, ht0⟩ := hi 0 (by omega)
      obtain ⟨p, o, f, m, g, s, rfl, _⟩ := elem_cells ht0
      rw [cellsElem] at hc0
      have k0 := (World.cells?_some hc0).2.2 0 (by omega)
      simp only [List.getElem?_cons_zero, Nat.zero_mul] at k0
      exact World.cell?_spot (by simpa [Addr.add] using k0)
    obtain ⟨l, rfl, hk⟩ := elems_of (fun i e => e.wf ∧ a.spot = none ∧ a.block < w.heap.size ∧ ElAt w a.block (a.off + i * 6) e) len each
    refine ⟨some a, cap, l, rfl, by simp only [maxLen] at hm; omega, fun e he => ?_, fun hpos => ?_⟩
    · obtain ⟨k, hkl, rfl⟩ := List.getElem_of_mem he
      exact (hk k _ (List.getElem?_eq_getElem hkl)).1
    · have h0 := hk 0 _ (List.getElem?_eq_getElem hpos)
      refine ⟨a.block, a.off, ?_, h0.2.2.1, fun k e he => (hk k e he).2.2.2⟩
      obtain ⟨b, q, sp⟩ := a
      have hsp : sp = none := h0.2.1
      subst hsp; rfl
end
open Go.ChangeShapes Go.WideShapes Go.ChangeAt Go.RowKit
section
variable {H : Type} {enc : TypeId × Value → H} {w : World} {base : Nat} {spare : Nat → Bool} {held : Bool}
theorem list_of {α : Type} (R : Nat → α → Prop) : ∀ n, (∀ i, i < n → ∃ e, R i e) → ∃ l : List α, l.length = n ∧ ∀ k e, l[k]? = some e → R k e
 | 0, _ => ⟨[], rfl, by simp⟩
 |n + 1, h => by
  obtain ⟨l, hl, hk⟩ := list_of R n fun i hi => h i (by omega)
  obtain ⟨e, he⟩ := h n (by omega)
  refine ⟨l ++ [e], by simp [hl], fun k x hx => ?_⟩
  rcases Nat.lt_or_ge k n with hlt | hge
  ·rw [List.getElem?_append_left (by omega)] at hx; exact hk k x hx
  ·rw [List.getElem?_append_right (by omega)] at hx
   have : k = n := by
    have := (List.getElem?_eq_some_iff.1 hx).1
    simp at this; omega
   subst this
   rw [hl] at hx; simp at hx; subst hx; exact he
theorem add_add (b q i j : Nat) : ((⟨b, q, none⟩ : Addr).add i).add j = ⟨b, q + i + j, none⟩ := by
 unfold Addr.add
 split <;> split <;> simp_all
/-- A slice of rows of N cells each. -/
theorem rows_open {t e : TypeId} {fuel : Nat} {cs : List Value} {x : DataW H × List MemPlace} {α : Type} (cv : α → List Value) (wf : α → Prop) (N : Nat) (ht : Try.prog.underlying t = some (.slice e)) (hN : Try.prog.cellsOf e = N) (h0 : 0 < N)
    (hel : ∀ fuel cs x, DataW.trod enc Try.prog w base spare held fuel e cs = some x → ∃ y, cs = cv y ∧ wf y) (h : DataW.trod enc Try.prog w base spare held fuel t cs = some x) :
    ∃ (A : Option Addr) (c : Nat) (l : List α), cs = [.slice A l.length c] ∧ l.length ≤ 9223372036854775807 ∧ l.length ≤ c ∧ (∀ y ∈ l, wf y) ∧
      (0 < l.length → ∃ b q, A = some ⟨b, q, none⟩ ∧ b < w.heap.size ∧ ∀ (k : Nat) (y : α), l[k]? = some y → ∀ j, j < N → w.cell? ⟨b, q + k * N + j, none⟩ = (cv y)[j]?) ∧
      (x.1 = .nil ∧ l.length = 0 ∨ ∃ els sp : List (DataW H), x.1 = .slice els sp ∧ l.length ≤ els.length) := by
  rcases Go.Deep.open_slice ht h with ⟨hcs, hx⟩ | ⟨a, len, cap, m, n, D, Pl, hcs, _, hl, hm, hmm, hx, hi⟩
  · exact ⟨none, 0, [], hcs, by simp, by simp, by simp, fun h => absurd h (by simp), Or.inl ⟨by rw [hx], rfl⟩⟩
  · have hlm : len ≤ m := by rw [hmm]; split <;> omega
    have hsp : 0 < len → a.spot = none := fun hpos => by
      obtain ⟨cs0, hc0, ht0⟩ := hi 0 (by omega)
      rw [hN] at hc0
      obtain ⟨_, hlc, hat⟩ := World.cells?_some hc0
      have k0 := hat 0 h0
      obtain ⟨v0, hv0⟩ : ∃ v, cs0[0]? = some v := ⟨_, List.getElem?_eq_getElem (by omega)⟩
      rw [hv0, Nat.zero_mul] at k0
      exact World.cell?_spot (by simpa [Addr.add] using k0)
    have each : ∀ i, i < len → ∃ y : α, wf y ∧ a.block < w.heap.size ∧ ∀ j, j < N → w.cell? ⟨a.block, a.off + i * N + j, none⟩ = (cv y)[j]? := fun i hil => by
      obtain ⟨cs', hc, ht'⟩ := hi i (by omega)
      obtain ⟨y, rfl, hwf⟩ := hel _ _ _ ht'
      rw [hN] at hc
      obtain ⟨_, hlc, hat⟩ := World.cells?_some hc
      have hs := hsp (by omega)
      obtain ⟨b, q, sp⟩ := a
      simp only at hs
      subst hs
      simp only [add_add] at hat
      refine ⟨y, hwf, ?_, fun j hj => hat j hj⟩
      have k0 := hat 0 h0
      obtain ⟨v0, hv0⟩ : ∃ v, (cv y)[0]? = some v := ⟨_, List.getElem?_eq_getElem (by omega)⟩
      rw [hv0] at k0
      have hbl := World.block_lt_of_cell? _ _ k0
      exact hbl
    obtain ⟨l, rfl, hk⟩ := list_of (fun i y => wf y ∧ a.block < w.heap.size ∧ ∀ j, j < N → w.cell? ⟨a.block, a.off + i * N + j, none⟩ = (cv y)[j]?) len each
    refine ⟨some a, cap, l, hcs, by simp only [maxLen] at hm; omega, hl, fun y hy => ?_, fun hpos => ?_, Or.inr ⟨_, _, by rw [hx], by simp⟩⟩
    · obtain ⟨k, hkl, rfl⟩ := List.getElem_of_mem hy
      exact (hk k _ (List.getElem?_eq_getElem hkl)).1
    · have hs := hsp hpos
      obtain ⟨b, q, sp⟩ := a
      simp only at hs
      subst hs
      exact ⟨b, q, rfl, (hk 0 _ (List.getElem?_eq_getElem hpos)).2.1, fun k y hy => (hk k y hy).2.2⟩
variable {r : Reach} {b0 : Nat} {v : Value} {d : DataW H} {ps : List MemPlace}
end
open Go.RowKit
theorem decide_Fol (p o f m g : Int) (s : ByteArray) (p' o' f' m' g' : Int) (s' : ByteArray) :
    decide (Fol ⟨p, o, f, m, g, s⟩ ⟨p', o', f', m', g', s'⟩) = (decide (scmp p o f m p' o' f' m' = -1) && (!decide ((p, o, f) = (p', o', f')) || !decide (liveP m g m'))) := by
  rw [Bool.eq_iff_iff]
  simp only [Bool.and_eq_true, Bool.or_eq_true, decide_eq_true_eq, Bool.not_eq_true', decide_eq_false_iff_not]
  have h := scmp_sLt (a := ⟨p, o, f, m, g, s⟩) (b := ⟨p', o', f', m', g', s'⟩)
  simp only at h
  rw [h]
  unfold Fol
  simp only [El.key]
  constructor
  · rintro ⟨h1, h2⟩
    refine ⟨h1, ?_⟩
    by_cases e : (p, o, f) = (p', o', f')
    · right; have := h2 e; unfold liveP; omega
    · exact .inl e
  · rintro ⟨h1, h2⟩
    refine ⟨h1, fun e => ?_⟩
    rcases h2 with h2 | h2
    · exact absurd e h2
    · rw [e, sLt_same] at h1
      unfold liveP at h2; omega
set_option maxHeartbeats 2000000 in
theorem follows_any (p o f m g : Int) (s : ByteArray) (p' o' f' m' g' : Int) (s' : ByteArray) (w : World) :
    Calls Try.prog 55 #[.agg #[.int .i64 p, .int .i64 o, .int .i64 f, .int .i64 m, .int .i64 g, .string s], .agg #[.int .i64 p', .int .i64 o', .int .i64 f', .int .i64 m', .int .i64 g', .string s']] w fun e w' => e = .returned (.bool (decide (Fol ⟨p, o, f, m, g, s⟩ ⟨p', o', f', m', g', s'⟩))) ∧ Calm w w' := by
  rw [decide_Fol]
  have hc := scmp_or p o f m p' o' f' m'
  generalize hK : scmp p o f m p' o' f' m' = c at hc ⊢
  have cS : ∀ u, Calls Try.prog 75 #[.agg #[.int .i64 p, .int .i64 o, .int .i64 f, .int .i64 m], .agg #[.int .i64 p', .int .i64 o', .int .i64 f', .int .i64 m']] u fun e w' => e = .returned (.int .i64 c) ∧ Calm u w' := fun u => hK ▸ cmpSpot_any p o f m p' o' f' m' u
  clear hK
  go_enter Try.func55, Try.ntmps55
  go_upto_region 1 with fail
  have hx : ((w.alloc (.cells #[.int .i64 p, .int .i64 o, .int .i64 f, .int .i64 m, .int .i64 g, .string s] 52)).alloc (.cells #[.int .i64 p', .int .i64 o', .int .i64 f', .int .i64 m', .int .i64 g', .string s'] 52)).heap[w.heap.size]? = some (.cells #[.int .i64 p, .int .i64 o, .int .i64 f, .int .i64 m, .int .i64 g, .string s] 52 (0, 0)) := heap_past _ (heap_new _ _)
  have hy : ((w.alloc (.cells #[.int .i64 p, .int .i64 o, .int .i64 f, .int .i64 m, .int .i64 g, .string s] 52)).alloc (.cells #[.int .i64 p', .int .i64 o', .int .i64 f', .int .i64 m', .int .i64 g', .string s'] 52)).heap[w.heap.size + 1]? = some (.cells #[.int .i64 p', .int .i64 o', .int .i64 f', .int .i64 m', .int .i64 g', .string s'] 52 (0, 0)) := by simpa using heap_new (w.alloc (.cells #[.int .i64 p, .int .i64 o, .int .i64 f, .int .i64 m, .int .i64 g, .string s] 52)) (.cells #[.int .i64 p', .int .i64 o', .int .i64 f', .int .i64 m', .int .i64 g', .string s'] 52)
  have hu : Calm w ((w.alloc (.cells #[.int .i64 p, .int .i64 o, .int .i64 f, .int .i64 m, .int .i64 g, .string s] 52)).alloc (.cells #[.int .i64 p', .int .i64 o', .int .i64 f', .int .i64 m', .int .i64 g', .string s'] 52)) := ((Calm.refl _).alloc _).alloc _
  generalize ((w.alloc (.cells #[.int .i64 p, .int .i64 o, .int .i64 f, .int .i64 m, .int .i64 g, .string s] 52)).alloc (.cells #[.int .i64 p', .int .i64 o', .int .i64 f', .int .i64 m', .int .i64 g', .string s'] 52)) = wc at hx hy hu ⊢
  obtain ⟨x0, x1, x2, x3, x4, x5, hxs⟩ := row6 hx
  obtain ⟨y0, y1, y2, y3, y4, y5, hys⟩ := row6 hy
  refine wp_region_plan [.val (.agg #[.int .i64 p, .int .i64 o, .int .i64 f, .int .i64 m, .int .i64 g, .string s]), .val (.agg #[.int .i64 p, .int .i64 o, .int .i64 f, .int .i64 m]), .val (.agg #[.int .i64 p', .int .i64 o', .int .i64 f', .int .i64 m', .int .i64 g', .string s']), .val (.agg #[.int .i64 p', .int .i64 o', .int .i64 f', .int .i64 m']), .val (.int .i64 c), .val (.bool (decide (0 ≤ c)))] (by kernel_rfl) (by kernel_rfl) (by kernel_rfl) ?_
  intro X
  iterate 6
    refine plan_val (by kernel_rfl) (fun u hu => ?_) ?_
    · obtain ⟨hc, hf, hz⟩ := hu.of_drew.facts
      go_simp
      all_goals first
        | (go_at_call 76; exact spot_any _ _ _ _ _ _ _)
        | (go_at_call 75; exact cS _)
    simp only [Act.put, List.setIfInBounds_toArray, List.set_cons_zero, List.set_cons_succ, Nat.reduceAdd]
  refine plan_end ?_
  intro w' hB
  have hk := hB.calm.of_drew
  clear hB cS
  replace hx := (hk.block hxs).trans hx
  replace hy := (hk.block hys).trans hy
  replace hu := hu.call hk
  clear hk x0 x1 x2 x3 x4 x5 y0 y1 y2 y3 y4 y5 hxs hys
  obtain ⟨x0, x1, x2, x3, x4, x5, hxs⟩ := row6 hx
  obtain ⟨y0, y1, y2, y3, y4, y5, hys⟩ := row6 hy
  by_cases h1 : 0 ≤ c
  · have e1 : decide (0 ≤ c) = true := decide_eq_true h1
    have e2 : decide (c = -1) = false := decide_eq_false (by omega)
    go_wp2_with fail
    go_ret
    exact ⟨by rw [e2]; rfl, hu⟩
  · have e1 : decide (0 ≤ c) = false := decide_eq_false h1
    have e2 : c = -1 := by omega
    subst e2
    clear hc h1
    go_wp2_with (go_at_call 43; refine (live_any _ _ _ _ _ _ _ _).mono ?_; rintro e w1 ⟨rfl, hb1⟩)
    all_goals
      go_ret
      exact ⟨rfl, by first | exact hu | exact hu.call (by assumption)⟩
theorem stepErr_err {l : List El} {k : Nat} {e : El} (h : l[k]? = some e) (he : e.err ≠ 0) : stepErr l k = e.err := by
 unfold stepErr; rw [h]; simp only; rw [if_pos he]
theorem runErr_at {l : List El} {k : Nat} (hl : ¬ 400 < l.length) (h : ∀ j, j < k → stepErr l j = 0) (hk : stepErr l k ≠ 0) (hlt : k < l.length) : stepErr l k = runErr l := by
 unfold runErr; rw [if_neg hl, firstErr_at h hk hlt]
theorem runErr_good {l : List El} (hl : ¬ 400 < l.length) (h : ∀ j, j < l.length → stepErr l j = 0) : 0 = runErr l := by
 unfold runErr; rw [if_neg hl, firstErr_zero.2 h]
theorem stepErr_form {l : List El} {k : Nat} {e d : El} (h : l[k]? = some e) (he : e.err = 0) (h0 : 0 < k) (hd : l[k - 1]? = some d) : stepErr l k = if Fol d e then 0 else 3 := by
 unfold stepErr; rw [h]; simp only; rw [if_neg (by simpa using he), if_neg (by omega), hd]
theorem stepErr_first {l : List El} {e : El} (h : l[0]? = some e) (he : e.err = 0) : stepErr l 0 = 0 := by
 unfold stepErr; rw [h]; simp only; rw [if_neg (by simpa using he)]; rfl
def NoErr (l : List El) (k : Nat) : Prop := ∀ j, j < k → stepErr l j = 0
set_option maxHeartbeats 4000000 in
theorem runCheck_any (A : Option Addr) (c : Nat) (l : List El) (w : World) (hn : l.length ≤ 9223372036854775807) (hL : Lies w A l) :
    Calls Try.prog 40 #[.slice A l.length c] w fun e w' => e = .returned (.int .i64 (runErr l)) ∧ Calm w w' := by
  by_cases hbig : 400 < l.length
  · have K : Hid (2 = runErr l) := by show _ = _; unfold runErr; rw [if_pos hbig]
    go_enter Try.func40, Try.ntmps40
    go_wp2_with fail
    go_ret
    exact ⟨ret_int K.out, Calm.refl _⟩
  go_enter Try.func40, Try.ntmps40
  go_wp2_with fail
  go_loopw [11] (fun i wr => ∃ k : Nat, k ≤ l.length ∧ i = .int .i64 k ∧ Calm w wr ∧ NoErr l k) (fun i _ => l.length - (intOf i).toNat)
  case atStart => exact ⟨0, Nat.zero_le _, rfl, Calm.refl _, fun j hj => absurd hj (Nat.not_lt_zero _)⟩
  case round =>
    obtain ⟨k, hk, rfl, hu, hN⟩ := hrel
    by_cases hlt : k < l.length
    rotate_left
    · have hkl : k = l.length := by omega
      have K : Hid (0 = runErr l) := runErr_good hbig (by rw [← hkl]; exact hN)
      clear hkl
      go_wp2_with fail
      go_ret
      exact ⟨ret_int K.out, hu⟩
    obtain ⟨b, q, p, o, f, m, g, s, rfl, hb, HE, hm, c0, c1, c2, c3, c4, c5⟩ := (hL.calm hu).get hlt
    by_cases he : elemErr p o f m g s.size = 0
    rotate_left
    · have b1 : (elemErr p o f m g s.size != 0) = true := by simpa using he
      have K : Hid (elemErr p o f m g s.size = runErr l) := by
        have h1 := stepErr_err HE.out (show El.err ⟨p, o, f, m, g, s⟩ ≠ 0 from he)
        rw [← runErr_at hbig hN (by rw [h1]; exact he) hlt, h1]; rfl
      clear he
      go_wp2_with (go_at_call 54; refine (elemCheck_any _ _ _ _ _ _ _).mono ?_; rintro e w1 ⟨rfl, hb1⟩)
      go_ret
      exact ⟨ret_int K.out, by repeat (first | (with_reducible exact Calm.refl _) | (with_reducible refine Calm.alloc ?_ _) | (with_reducible refine Calm.drew ?_) | (with_reducible refine Calm.drewN ?_ _) | (refine Calm.call ?_ (by with_reducible assumption)))⟩
    have b1 : (elemErr p o f m g s.size != 0) = false := by simpa using he
    have HE0 : Hid (elemErr p o f m g s.size = 0) := he
    clear he
    by_cases hk0 : k = 0
    · subst hk0
      have hN1 : NoErr l 1 := fun j hj => by
        have : j = 0 := by omega
        subst this
        exact stepErr_first HE.out HE0.out
      simp only [Nat.zero_mul, Nat.add_zero] at c0 c1 c2 c3 c4 c5
      go_wp2_with (go_at_call 54; refine (elemCheck_any _ _ _ _ _ _ _).mono ?_; rintro e w1 ⟨rfl, hb1⟩)
      refine wp_region_plan [.val (.int .i64 0), .val (.bool false), .val (.bool false), .idle, .idle, .idle, .idle, .idle, .idle, .idle, .idle, .val (.bool false)] (by kernel_rfl) (by kernel_rfl) (by kernel_rfl) ?_
      intro X
      iterate 3
        refine plan_val (by kernel_rfl) (fun u hu => ?_) ?_
        · obtain ⟨hc, hf, hz⟩ := hu.of_drew.facts
          go_simp
        simp only [Act.put, List.setIfInBounds_toArray, List.set_cons_zero, List.set_cons_succ, Nat.reduceAdd]
      iterate 8
        refine plan_idle (by kernel_rfl) ?_
        simp only [Act.put, List.setIfInBounds_toArray, List.set_cons_zero, List.set_cons_succ, Nat.reduceAdd]
      iterate 1
        refine plan_val (by kernel_rfl) (fun u hu => ?_) ?_
        · obtain ⟨hc, hf, hz⟩ := hu.of_drew.facts
          go_simp
        simp only [Act.put, List.setIfInBounds_toArray, List.set_cons_zero, List.set_cons_succ, Nat.reduceAdd]
      refine plan_end ?_
      intro w' hB
      have hk := hB.calm.of_drew
      clear hB
      go_wp2_with fail
      exact ⟨⟨1, by omega, rfl, ((hu.alloc _).call hb1).call hk, hN1⟩, by simp [intOf]; omega⟩
    obtain ⟨p', o', f', m', g', s', HE', hm', d0, d1, d2, d3, d4, d5⟩ := (hL.calm hu).get2 (k := k - 1) (by omega)
    have hS := stepErr_form HE.out HE0.out (by omega) HE'.out
    have hk1 : 1 ≤ k := by omega
    by_cases hF : Fol ⟨p', o', f', m', g', s'⟩ ⟨p, o, f, m, g, s⟩
    · have b2 : decide (Fol ⟨p', o', f', m', g', s'⟩ ⟨p, o, f, m, g, s⟩) = true := decide_eq_true hF
      rw [if_pos hF] at hS
      have hN1 : NoErr l (k + 1) := fun j hj => by
        rcases Nat.lt_or_ge j k with h | h
        · exact hN j h
        · rw [show j = k by omega]; exact hS
      clear hS hF hk0
      go_wp2_with (go_at_call 54; refine (elemCheck_any _ _ _ _ _ _ _).mono ?_; rintro e w1 ⟨rfl, hb1⟩)
      have hx := (hb1.block (k := wr.heap.size) (by simp)).trans (heap_new wr _)
      obtain ⟨x0, x1, x2, x3, x4, x5, hxs⟩ := row6 hx
      have hv := ((Calm.refl wr).alloc _).call hb1
      have hv1 := hu.call hv
      have hb2 : b < w1.heap.size := Nat.lt_of_lt_of_le hb hv.size
      have hvc := hv.facts.1
      replace d0 := (hvc _ _ hb).trans d0; replace d1 := (hvc _ _ hb).trans d1; replace d2 := (hvc _ _ hb).trans d2; replace d3 := (hvc _ _ hb).trans d3; replace d4 := (hvc _ _ hb).trans d4; replace d5 := (hvc _ _ hb).trans d5
      clear hvc hv hb1 hx c0 c1 c2 c3 c4 c5 b1 hL
      have F : ∀ u, Calls Try.prog 55 #[.agg #[.int .i64 p', .int .i64 o', .int .i64 f', .int .i64 m', .int .i64 g', .string s'], .agg #[.int .i64 p, .int .i64 o, .int .i64 f, .int .i64 m, .int .i64 g, .string s]] u fun e w' => e = .returned (.bool true) ∧ Calm u w' := fun u => by
        rw [← b2]; exact follows_any p' o' f' m' g' s' p o f m g s u
      clear b2
      have z0 : 0 < k := hk1
      have z1 : IntKind.i64.wrap ((k : Int) - 1) = (k : Int) - 1 := IntWalk.i64_in _ (by omega)
      have z2 : ((k : Int) - 1).toNat = k - 1 := by omega
      have z3 : 0 ≤ (k : Int) - 1 := by omega
      have z4 : (k : Int) - 1 < l.length := by omega
      have z5 : 1 ≤ (k : Int) := by omega
      refine wp_region_plan [.val (.int .i64 k), .val (.bool true), .val (.bool true), .val (.slice (some ⟨b, q, none⟩) l.length c), .val (.int .i64 k), .val (.int .i64 (k - 1)), .val (.pointer (some ⟨b, q + (k - 1) * 6, none⟩)), .val (.agg #[.int .i64 p', .int .i64 o', .int .i64 f', .int .i64 m', .int .i64 g', .string s']), .val (.agg #[.int .i64 p, .int .i64 o, .int .i64 f, .int .i64 m, .int .i64 g, .string s]), .val (.bool true), .val (.bool false), .val (.bool false)] (by kernel_rfl) (by kernel_rfl) (by kernel_rfl) ?_
      intro X
      iterate 12
        refine plan_val (by kernel_rfl) (fun u hu => ?_) ?_
        · obtain ⟨hc, hf, hz⟩ := hu.of_drew.facts
          go_simp
          all_goals first
            | (go_at_call 55; exact F _)
        simp only [Act.put, List.setIfInBounds_toArray, List.set_cons_zero, List.set_cons_succ, Nat.reduceAdd]
      refine plan_end ?_
      intro w' hB
      have hk := hB.calm.of_drew
      clear hB z0 z1 z2 z3 z4 z5
      go_wp2_with fail
      go_roundw
      case rel => exact ⟨k + 1, by omega, by go_num, hv1.call hk, hN1⟩
      case measure => simp [intOf]; omega
    · have b2 : decide (Fol ⟨p', o', f', m', g', s'⟩ ⟨p, o, f, m, g, s⟩) = false := decide_eq_false hF
      rw [if_neg hF] at hS
      have K : Hid (3 = runErr l) := hS.symm.trans (runErr_at hbig hN (by rw [hS]; decide) hlt)
      clear hS hF hk0
      go_wp2_with (go_at_call 54; refine (elemCheck_any _ _ _ _ _ _ _).mono ?_; rintro e w1 ⟨rfl, hb1⟩)
      have hx := (hb1.block (k := wr.heap.size) (by simp)).trans (heap_new wr _)
      obtain ⟨x0, x1, x2, x3, x4, x5, hxs⟩ := row6 hx
      have hv := ((Calm.refl wr).alloc _).call hb1
      have hv1 := hu.call hv
      have hb2 : b < w1.heap.size := Nat.lt_of_lt_of_le hb hv.size
      have hvc := hv.facts.1
      replace d0 := (hvc _ _ hb).trans d0; replace d1 := (hvc _ _ hb).trans d1; replace d2 := (hvc _ _ hb).trans d2; replace d3 := (hvc _ _ hb).trans d3; replace d4 := (hvc _ _ hb).trans d4; replace d5 := (hvc _ _ hb).trans d5
      clear hvc hv hb1 hx c0 c1 c2 c3 c4 c5 b1 hL
      have F : ∀ u, Calls Try.prog 55 #[.agg #[.int .i64 p', .int .i64 o', .int .i64 f', .int .i64 m', .int .i64 g', .string s'], .agg #[.int .i64 p, .int .i64 o, .int .i64 f, .int .i64 m, .int .i64 g, .string s]] u fun e w' => e = .returned (.bool false) ∧ Calm u w' := fun u => by
        rw [← b2]; exact follows_any p' o' f' m' g' s' p o f m g s u
      clear b2
      have z0 : 0 < k := hk1
      have z1 : IntKind.i64.wrap ((k : Int) - 1) = (k : Int) - 1 := IntWalk.i64_in _ (by omega)
      have z2 : ((k : Int) - 1).toNat = k - 1 := by omega
      have z3 : 0 ≤ (k : Int) - 1 := by omega
      have z4 : (k : Int) - 1 < l.length := by omega
      have z5 : 1 ≤ (k : Int) := by omega
      refine wp_region_plan [.val (.int .i64 k), .val (.bool true), .val (.bool true), .val (.slice (some ⟨b, q, none⟩) l.length c), .val (.int .i64 k), .val (.int .i64 (k - 1)), .val (.pointer (some ⟨b, q + (k - 1) * 6, none⟩)), .val (.agg #[.int .i64 p', .int .i64 o', .int .i64 f', .int .i64 m', .int .i64 g', .string s']), .val (.agg #[.int .i64 p, .int .i64 o, .int .i64 f, .int .i64 m, .int .i64 g, .string s]), .val (.bool false), .val (.bool true), .val (.bool true)] (by kernel_rfl) (by kernel_rfl) (by kernel_rfl) ?_
      intro X
      iterate 12
        refine plan_val (by kernel_rfl) (fun u hu => ?_) ?_
        · obtain ⟨hc, hf, hz⟩ := hu.of_drew.facts
          go_simp
          all_goals first
            | (go_at_call 55; exact F _)
        simp only [Act.put, List.setIfInBounds_toArray, List.set_cons_zero, List.set_cons_succ, Nat.reduceAdd]
      refine plan_end ?_
      intro w' hB
      have hk := hB.calm.of_drew
      clear hB z0 z1 z2 z3 z4 z5
      go_wp2_with fail
      go_ret
      exact ⟨ret_int K.out, hv1.call hk⟩
open Go.RowKit
theorem str_ne {s s' : ByteArray} (h : ¬ s = s') : (s.toList == s'.toList) = false := by
 cases e : s.toList == s'.toList
 ·rfl
 ·exfalso
  have h2 := eq_of_beq e
  rw [ByteArray.toList_eq, ByteArray.toList_eq] at h2
  exact h (ByteArray.ext (Array.toList_inj.1 h2))
set_option maxHeartbeats 8000000 in
theorem equal_any (A A' : Option Addr) (c c' : Nat) (l l' : List El) (w : World) (hn : l.length ≤ 9223372036854775807) (_hn' : l'.length ≤ 9223372036854775807) (hL : Lies w A l) (hL' : Lies w A' l') :
    Calls Try.prog 21 #[.slice A l.length c, .slice A' l'.length c'] w fun e w' => e = .returned (.bool (decide (l = l'))) ∧ Calm w w' := by
  by_cases hll : l.length = l'.length
  rotate_left
  · have hd : decide (l = l') = false := decide_eq_false fun h => hll (by rw [h])
    have hz : ¬ (l.length : Int) = (l'.length : Int) := by omega
    rw [hd]
    clear hd hll hL hL'
    go_enter Try.func21, Try.ntmps21
    go_wp2_with fail
    go_ret
    exact ⟨rfl, Calm.refl _⟩
  have HD : Hid (decide (l = l') = decide (l = l')) := rfl
  generalize hr : decide (l = l') = r
  have HR : Hid (decide (l = l') = r) := hr
  clear hr HD
  obtain ⟨n, hn1⟩ : ∃ n, n = l.length := ⟨_, rfl⟩
  have hn2 : n = l'.length := hn1.trans hll
  rw [← hn1, ← hn2]
  rw [← hn1] at hn
  have HN1 : Hid (n = l.length) := hn1
  have HN2 : Hid (n = l'.length) := hn2
  clear hn1 hn2 hll
  go_enter Try.func21, Try.ntmps21
  go_wp2_with fail
  go_loopw [13] (fun i wr => ∃ k : Nat, k ≤ n ∧ i = .int .i64 k ∧ Calm w wr ∧ Hid (∀ j, j < k → l[j]? = l'[j]?)) (fun i _ => n - (intOf i).toNat)
  case atStart => exact ⟨0, Nat.zero_le _, rfl, Calm.refl _, show ∀ _, _ from fun j h => absurd h (Nat.not_lt_zero _)⟩
  case round =>
    obtain ⟨k, hk, rfl, hu, hN⟩ := hrel
    by_cases hlt : k < n
    rotate_left
    · have K : Hid (r = true) := by
        rw [← HR.out]
        refine decide_eq_true (List.ext_getElem? fun j => ?_)
        rcases Nat.lt_or_ge j k with h | h
        · exact hN.out j h
        · rw [List.getElem?_eq_none (by rw [← HN1.out]; omega), List.getElem?_eq_none (by rw [← HN2.out]; omega)]
      clear HR
      go_wp2_with fail
      go_ret
      exact ⟨by rw [K.out]; rfl, hu⟩
    obtain ⟨b, q, p, o, f, m, g, s, rfl, hb, HE, hm, c0, c1, c2, c3, c4, c5⟩ := (hL.calm hu).get (by rw [← HN1.out]; exact hlt)
    obtain ⟨b', q', p', o', f', m', g', s', rfl, hb', HE', hm', d0, d1, d2, d3, d4, d5⟩ := (hL'.calm hu).get (by rw [← HN2.out]; exact hlt)
    have hiz : (k : Int) < (n : Int) := by omega
    have hDF : (⟨p, o, f, m, g, s⟩ : El) ≠ ⟨p', o', f', m', g', s'⟩ → l ≠ l' := fun h h2 => by
      have h3 := HE.out; rw [h2, HE'.out] at h3; injection h3 with h3; exact h h3.symm
    have hN1 : (⟨p, o, f, m, g, s⟩ : El) = ⟨p', o', f', m', g', s'⟩ → Hid (∀ j, j < k + 1 → l[j]? = l'[j]?) := fun h => show ∀ _, _ from fun j hj => by
      rcases Nat.lt_or_ge j k with h2 | h2
      · exact hN.out j h2
      · rw [show j = k by omega, HE.out, HE'.out, h]
    have HR2 := HR.out
    clear hL hL' HE HE' hm hm'
    have hcs : ¬ p = p' ∨ (p = p' ∧ ¬ o = o') ∨ (p = p' ∧ o = o' ∧ ¬ f = f') ∨ (p = p' ∧ o = o' ∧ f = f' ∧ ¬ m = m') ∨ (p = p' ∧ o = o' ∧ f = f' ∧ m = m' ∧ ¬ g = g') ∨ (p = p' ∧ o = o' ∧ f = f' ∧ m = m' ∧ g = g' ∧ ¬ s = s') ∨ (p = p' ∧ o = o' ∧ f = f' ∧ m = m' ∧ g = g' ∧ s = s') := by
      by_cases e0 : p = p' <;> by_cases e1 : o = o' <;> by_cases e2 : f = f' <;> by_cases e3 : m = m' <;> by_cases e4 : g = g' <;> by_cases e5 : s = s' <;> simp [*]
    rcases hcs with h0 | ⟨h0, h1⟩ | ⟨h0, h1, h2⟩ | ⟨h0, h1, h2, h3⟩ | ⟨h0, h1, h2, h3, h4⟩ | ⟨h0, h1, h2, h3, h4, h5⟩ | ⟨h0, h1, h2, h3, h4, h5⟩
    · skip
      go_wp2_with fail
      refine wp_region_plan [.val (.slice (some ⟨b, q, none⟩) n c), .val (.int .i64 ((k : Int))), .val (.pointer (some ⟨b, q + k * 6, none⟩)), .val (.agg #[.int .i64 p, .int .i64 o, .int .i64 f, .int .i64 m, .int .i64 g, .string s]), .val (.slice (some ⟨b', q', none⟩) n c'), .val (.int .i64 ((k : Int))), .val (.pointer (some ⟨b', q' + k * 6, none⟩)), .val (.agg #[.int .i64 p', .int .i64 o', .int .i64 f', .int .i64 m', .int .i64 g', .string s']), .val (.bool true)] (by kernel_rfl) (by kernel_rfl) (by kernel_rfl) ?_
      intro X
      iterate 9
        refine plan_val (by kernel_rfl) (fun u hu => ?_) ?_
        · obtain ⟨hc, hf, hz⟩ := hu.of_drew.facts
          go_simp
        simp only [Act.put, List.setIfInBounds_toArray, List.set_cons_zero, List.set_cons_succ, Nat.reduceAdd]
      refine plan_end ?_
      intro w' hB
      have hk := hB.calm.of_drew
      clear hB
      go_wp2_with fail
      go_ret
      exact ⟨ret_bool ((decide_eq_false (hDF (by simp [*]))).symm.trans HR2), hu.call hk⟩
    · skip
      subst h0
      go_wp2_with fail
      refine wp_region_plan [.val (.slice (some ⟨b, q, none⟩) n c), .val (.int .i64 ((k : Int))), .val (.pointer (some ⟨b, q + k * 6, none⟩)), .val (.agg #[.int .i64 p, .int .i64 o, .int .i64 f, .int .i64 m, .int .i64 g, .string s]), .val (.slice (some ⟨b', q', none⟩) n c'), .val (.int .i64 ((k : Int))), .val (.pointer (some ⟨b', q' + k * 6, none⟩)), .val (.agg #[.int .i64 p, .int .i64 o', .int .i64 f', .int .i64 m', .int .i64 g', .string s']), .val (.bool true)] (by kernel_rfl) (by kernel_rfl) (by kernel_rfl) ?_
      intro X
      iterate 9
        refine plan_val (by kernel_rfl) (fun u hu => ?_) ?_
        · obtain ⟨hc, hf, hz⟩ := hu.of_drew.facts
          go_simp
        simp only [Act.put, List.setIfInBounds_toArray, List.set_cons_zero, List.set_cons_succ, Nat.reduceAdd]
      refine plan_end ?_
      intro w' hB
      have hk := hB.calm.of_drew
      clear hB
      go_wp2_with fail
      go_ret
      exact ⟨ret_bool ((decide_eq_false (hDF (by simp [*]))).symm.trans HR2), hu.call hk⟩
    · skip
      subst h0
      subst h1
      go_wp2_with fail
      refine wp_region_plan [.val (.slice (some ⟨b, q, none⟩) n c), .val (.int .i64 ((k : Int))), .val (.pointer (some ⟨b, q + k * 6, none⟩)), .val (.agg #[.int .i64 p, .int .i64 o, .int .i64 f, .int .i64 m, .int .i64 g, .string s]), .val (.slice (some ⟨b', q', none⟩) n c'), .val (.int .i64 ((k : Int))), .val (.pointer (some ⟨b', q' + k * 6, none⟩)), .val (.agg #[.int .i64 p, .int .i64 o, .int .i64 f', .int .i64 m', .int .i64 g', .string s']), .val (.bool true)] (by kernel_rfl) (by kernel_rfl) (by kernel_rfl) ?_
      intro X
      iterate 9
        refine plan_val (by kernel_rfl) (fun u hu => ?_) ?_
        · obtain ⟨hc, hf, hz⟩ := hu.of_drew.facts
          go_simp
        simp only [Act.put, List.setIfInBounds_toArray, List.set_cons_zero, List.set_cons_succ, Nat.reduceAdd]
      refine plan_end ?_
      intro w' hB
      have hk := hB.calm.of_drew
      clear hB
      go_wp2_with fail
      go_ret
      exact ⟨ret_bool ((decide_eq_false (hDF (by simp [*]))).symm.trans HR2), hu.call hk⟩
    · skip
      subst h0
      subst h1
      subst h2
      go_wp2_with fail
      refine wp_region_plan [.val (.slice (some ⟨b, q, none⟩) n c), .val (.int .i64 ((k : Int))), .val (.pointer (some ⟨b, q + k * 6, none⟩)), .val (.agg #[.int .i64 p, .int .i64 o, .int .i64 f, .int .i64 m, .int .i64 g, .string s]), .val (.slice (some ⟨b', q', none⟩) n c'), .val (.int .i64 ((k : Int))), .val (.pointer (some ⟨b', q' + k * 6, none⟩)), .val (.agg #[.int .i64 p, .int .i64 o, .int .i64 f, .int .i64 m', .int .i64 g', .string s']), .val (.bool true)] (by kernel_rfl) (by kernel_rfl) (by kernel_rfl) ?_
      intro X
      iterate 9
        refine plan_val (by kernel_rfl) (fun u hu => ?_) ?_
        · obtain ⟨hc, hf, hz⟩ := hu.of_drew.facts
          go_simp
        simp only [Act.put, List.setIfInBounds_toArray, List.set_cons_zero, List.set_cons_succ, Nat.reduceAdd]
      refine plan_end ?_
      intro w' hB
      have hk := hB.calm.of_drew
      clear hB
      go_wp2_with fail
      go_ret
      exact ⟨ret_bool ((decide_eq_false (hDF (by simp [*]))).symm.trans HR2), hu.call hk⟩
    · skip
      subst h0
      subst h1
      subst h2
      subst h3
      go_wp2_with fail
      refine wp_region_plan [.val (.slice (some ⟨b, q, none⟩) n c), .val (.int .i64 ((k : Int))), .val (.pointer (some ⟨b, q + k * 6, none⟩)), .val (.agg #[.int .i64 p, .int .i64 o, .int .i64 f, .int .i64 m, .int .i64 g, .string s]), .val (.slice (some ⟨b', q', none⟩) n c'), .val (.int .i64 ((k : Int))), .val (.pointer (some ⟨b', q' + k * 6, none⟩)), .val (.agg #[.int .i64 p, .int .i64 o, .int .i64 f, .int .i64 m, .int .i64 g', .string s']), .val (.bool true)] (by kernel_rfl) (by kernel_rfl) (by kernel_rfl) ?_
      intro X
      iterate 9
        refine plan_val (by kernel_rfl) (fun u hu => ?_) ?_
        · obtain ⟨hc, hf, hz⟩ := hu.of_drew.facts
          go_simp
        simp only [Act.put, List.setIfInBounds_toArray, List.set_cons_zero, List.set_cons_succ, Nat.reduceAdd]
      refine plan_end ?_
      intro w' hB
      have hk := hB.calm.of_drew
      clear hB
      go_wp2_with fail
      go_ret
      exact ⟨ret_bool ((decide_eq_false (hDF (by simp [*]))).symm.trans HR2), hu.call hk⟩
    · skip
      subst h0
      subst h1
      subst h2
      subst h3
      subst h4
      have hs1 : (s.toList == s'.toList) = false := str_ne h5
      go_wp2_with fail
      refine wp_region_plan [.val (.slice (some ⟨b, q, none⟩) n c), .val (.int .i64 ((k : Int))), .val (.pointer (some ⟨b, q + k * 6, none⟩)), .val (.agg #[.int .i64 p, .int .i64 o, .int .i64 f, .int .i64 m, .int .i64 g, .string s]), .val (.slice (some ⟨b', q', none⟩) n c'), .val (.int .i64 ((k : Int))), .val (.pointer (some ⟨b', q' + k * 6, none⟩)), .val (.agg #[.int .i64 p, .int .i64 o, .int .i64 f, .int .i64 m, .int .i64 g, .string s']), .val (.bool true)] (by kernel_rfl) (by kernel_rfl) (by kernel_rfl) ?_
      intro X
      iterate 9
        refine plan_val (by kernel_rfl) (fun u hu => ?_) ?_
        · obtain ⟨hc, hf, hz⟩ := hu.of_drew.facts
          go_simp
        simp only [Act.put, List.setIfInBounds_toArray, List.set_cons_zero, List.set_cons_succ, Nat.reduceAdd]
      refine plan_end ?_
      intro w' hB
      have hk := hB.calm.of_drew
      clear hB
      clear hs1
      go_wp2_with fail
      go_ret
      exact ⟨ret_bool ((decide_eq_false (hDF (by simp [*]))).symm.trans HR2), hu.call hk⟩
    · skip
      subst h0
      subst h1
      subst h2
      subst h3
      subst h4
      subst h5
      have hN2 := hN1 rfl
      clear hN1 hDF
      go_wp2_with fail
      refine wp_region_plan [.val (.slice (some ⟨b, q, none⟩) n c), .val (.int .i64 ((k : Int))), .val (.pointer (some ⟨b, q + k * 6, none⟩)), .val (.agg #[.int .i64 p, .int .i64 o, .int .i64 f, .int .i64 m, .int .i64 g, .string s]), .val (.slice (some ⟨b', q', none⟩) n c'), .val (.int .i64 ((k : Int))), .val (.pointer (some ⟨b', q' + k * 6, none⟩)), .val (.agg #[.int .i64 p, .int .i64 o, .int .i64 f, .int .i64 m, .int .i64 g, .string s]), .val (.bool false)] (by kernel_rfl) (by kernel_rfl) (by kernel_rfl) ?_
      intro X
      iterate 9
        refine plan_val (by kernel_rfl) (fun u hu => ?_) ?_
        · obtain ⟨hc, hf, hz⟩ := hu.of_drew.facts
          go_simp
        simp only [Act.put, List.setIfInBounds_toArray, List.set_cons_zero, List.set_cons_succ, Nat.reduceAdd]
      refine plan_end ?_
      intro w' hB
      have hk := hB.calm.of_drew
      clear hB
      go_wp2_with fail
      go_roundw
      case rel => exact ⟨k + 1, by omega, by go_num, hu.call hk, hN2⟩
      case measure => simp [intOf]; omega
theorem equal_self (A A' : Option Addr) (c c' : Nat) (l : List El) (w : World) (hn : l.length ≤ 9223372036854775807) (hL : Lies w A l) (hL' : Lies w A' l) :
    Calls Try.prog 21 #[.slice A l.length c, .slice A' l.length c'] w fun e w' => e = .returned (.bool true) ∧ Calm w w' := by
  have h := equal_any A A' c c' l l w hn hn hL hL'
  rw [decide_eq_true (rfl : l = l)] at h
  exact h
open Go.RowKit
def iv (l : List Int) : List Value := l.map (Value.int .i64)
def OwnI (base : Nat) (w : World) (v : Value) (l : List Int) : Prop := w.ownsRow base 3 1 v l.length (iv l)
theorem iv_one (l : List Int) : ∀ u ∈ iv l, u.oneCell' = true := by
 intro u hu
 obtain ⟨n, _, rfl⟩ := List.mem_map.1 hu
 rfl
theorem infoInt : (Try.prog.info? 3).map (fun i => (i.zero, i.size, i.bytes)) = some (some (.int .i64 0), 1, 8) := by kernel_rfl
theorem OwnI.lt {base : Nat} {w : World} {v : Value} {l : List Int} (h : OwnI base w v l) : ∀ k, v.ownBlock = some k → base ≤ k ∧ k < w.heap.size := World.ownsRow.lt h
theorem OwnI.calm {base : Nat} {w w' : World} {v : Value} {l : List Int} (h : OwnI base w v l) (hb : Calm w w') : OwnI base w' v l := World.ownsRow.kept h (hb.grownBy none) (by
 rcases v.ownBlock with _ | k
 ·exact .inl rfl
 ·exact .inr (by simp))
theorem OwnI.nil (base : Nat) (w : World) : OwnI base w (.slice none 0 0) [] := World.ownsRow_nil _ _ _ _
theorem Calm.grownI {a w w' : World} {base : Nat} {v : Value} {l : List Int} (h : Calm a w) (hb : a.heap.size ≤ base) (ho : OwnI base w v l) (hg : w.grownBy w' v.ownBlock) : Calm a w' :=
 Below.grown h hg h.size fun k hk => Nat.le_trans hb (ho.lt k hk).1
theorem OwnI.lies {base : Nat} {w : World} {v : Value} {l : List Int} (h : OwnI base w v l) : ∃ A c, v = .slice A l.length c ∧ LiesI w A l := by
 rcases h.2 with ⟨rfl, hl⟩ | ⟨g, cap, cur, rfl, _, hg, hnc, hcm, _, ht⟩
 ·have : l = [] := List.eq_nil_of_length_eq_zero hl
  subst this
  exact ⟨none, 0, rfl, fun h => absurd h (by simp)⟩
 ·refine ⟨some ⟨g, 0, none⟩, cap, rfl, fun _ => ⟨g, 0, rfl, (Array.getElem?_eq_some_iff.1 hg).1, fun k x hx => ?_⟩⟩
  have hk : k < l.length := (List.getElem?_eq_some_iff.1 hx).1
  have h2 := congrArg (·[k]?) ht
  simp only [Nat.mul_one] at h2
  rw [List.getElem?_take_of_lt hk, Array.getElem?_toList] at h2
  rw [Nat.zero_add, cell_of_row w g _ cur _ (0, 0) hg, h2]
  simp [iv, hx]
/-- append(out, x). -/
theorem wpList_append_i {ops : Array Oper} {rest : List Oper} {o : Oper} {a : Act} {w : World} {Q : Exit → Act → World → Prop} (hgd : o.guard = none) (s x : Operand)
    (ho : o.op = .call { callee := .builtin .append, args := #[s, x], argTypes := #[29, 29] })
    (base : Nat) (v : Value) (l : List Int) (hs : a.eval s = v) (hown : OwnI base w v l) (g t : Nat) (n : Int) (fr : Nat × Nat)
    (hx : a.eval x = .slice (some ⟨g, 0, none⟩) 1 1) (hg : w.heap[g]? = some (.cells #[.int .i64 n] t fr)) (hl : l.length ≤ 1000000) (hbase : base ≤ w.heap.size)
    (h : ∀ v' w', OwnI base w' v' (l ++ [n]) → (∀ w0 : World, w0.heap.size ≤ base → Calm w0 w → Calm w0 w') → wpList Try.prog ops Q rest (a.put o.dst v') w') : wpList Try.prog ops Q (o :: rest) a w := by
  obtain ⟨i0, hi, hz0, hz1, hz2⟩ := info_parts infoInt
  refine wpList_append_own w hgd s x _ ho base 3 i0 _ 1 8 Try.underlying29 hi hz0 hz1 hz2 rfl (by decide) v _ _ hs hown ⟨g, 0, none⟩ 1 1 (iv [n]) hx rfl (fun j u hj => ?_) (iv_one _) (by unfold maxLen; omega) (by omega) hbase fun v' w' h1 h2 _ => ?_
  · have : (⟨g, 0, none⟩ : Addr).add j = ⟨g, j, none⟩ := by unfold Addr.add; split <;> simp_all
    rw [this, cell_of_row w g j _ t fr hg, ← hj]
    simp [iv]
  · refine h v' w' ?_ fun w0 h0 hc => hc.grownI h0 hown h2
    unfold OwnI
    rw [List.length_append, iv, List.map_append]
    exact h1
abbrev cb (a b : List UInt8) : Int := Lib.compareBytes a b
theorem cb_or : ∀ a b : List UInt8, cb a b = -1 ∨ cb a b = 0 ∨ cb a b = 1
 | [], [] => .inr (.inl rfl)
 | [], _ :: _ => .inl rfl
 |_ :: _, [] => .inr (.inr rfl)
 |x :: a, y :: b => by
  unfold cb Lib.compareBytes
  split
  ·exact .inl rfl
  ·split
   ·exact .inr (.inr rfl)
   ·exact cb_or a b
theorem u8_tri {x y : UInt8} (h : ¬ x < y) (h2 : ¬ y < x) : x = y := by
 have h1 := UInt8.not_lt.1 h
 have h3 := UInt8.not_lt.1 h2
 exact UInt8.le_antisymm h3 h1
theorem cb_eq : ∀ {a b : List UInt8}, cb a b = 0 ↔ a = b
 | [], [] => by simp [cb, Lib.compareBytes]
 | [], _ :: _ => by simp [cb, Lib.compareBytes]
 |_ :: _, [] => by simp [cb, Lib.compareBytes]
 |x :: a, y :: b => by
  unfold cb Lib.compareBytes
  by_cases h1 : x < y
  ·rw [if_pos h1]; constructor
   ·intro h; cases h
   ·rintro h; injection h with h; subst h; exact absurd h1 (UInt8.lt_irrefl x)
  ·rw [if_neg h1]
   by_cases h2 : y < x
   ·rw [if_pos h2]; constructor
    ·intro h; cases h
    ·rintro h; injection h with h; subst h; exact absurd h2 (UInt8.lt_irrefl x)
   ·rw [if_neg h2]
    have := u8_tri h1 h2
    subst this
    exact (cb_eq (a := a) (b := b)).trans ⟨fun h => by rw [h], fun h => by injection h⟩
theorem cb_anti : ∀ a b : List UInt8, cb b a = - cb a b
 | [], [] => rfl
 | [], _ :: _ => rfl
 |_ :: _, [] => rfl
 |x :: a, y :: b => by
  unfold cb Lib.compareBytes
  by_cases h1 : x < y
  ·rw [if_pos h1, if_neg (UInt8.lt_asymm h1), if_pos h1]; decide
  ·rw [if_neg h1]
   by_cases h2 : y < x
   ·rw [if_pos h2, if_neg h1, if_pos h2]
   ·rw [if_neg h2, if_neg h1, if_neg h2]; exact cb_anti a b
theorem cb_trans : ∀ {a b c : List UInt8}, cb a b = -1 → cb b c = -1 → cb a c = -1
 | [], [], _, h, _ => by cases h
 | [], _ :: _, [], _, h => by cases h
 | [], _ :: _, _ :: _, _, _ => rfl
 |_ :: _, [], _, h, _ => by cases h
 |_ :: _, _ :: _, [], _, h => by cases h
 |x :: a, y :: b, z :: c, h, k => by
  unfold cb Lib.compareBytes at h k ⊢
  by_cases h1 : x < y
  ·by_cases k1 : y < z
   ·rw [if_pos (UInt8.lt_trans h1 k1)]
   ·rw [if_neg k1] at k
    by_cases k2 : z < y
    ·rw [if_pos k2] at k; cases k
    ·have := u8_tri k1 k2; subst this; rw [if_pos h1]
  ·rw [if_neg h1] at h
   by_cases h2 : y < x
   ·rw [if_pos h2] at h; cases h
   ·rw [if_neg h2] at h
    have := u8_tri h1 h2; subst this
    by_cases k1 : x < z
    ·rw [if_pos k1]
    ·rw [if_neg k1] at k ⊢
     by_cases k2 : z < x
     ·rw [if_pos k2] at k; cases k
     ·rw [if_neg k2] at k ⊢
      exact cb_trans h k
theorem cb_lt : ∀ {a b : List UInt8}, cb a b = -1 ↔ a < b
 | [], [] => by simp [cb, Lib.compareBytes]
 | [], _ :: _ => by simp [cb, Lib.compareBytes]
 |_ :: _, [] => by simp [cb, Lib.compareBytes]
 |x :: a, y :: b => by
  rw [List.cons_lt_cons_iff]
  unfold cb Lib.compareBytes
  by_cases h1 : x < y
  ·rw [if_pos h1]; simp [h1]
  ·rw [if_neg h1]
   by_cases h2 : y < x
   ·rw [if_pos h2]; constructor
    ·intro h; cases h
    ·rintro (h | ⟨h, _⟩)
     ·exact absurd h h1
     ·subst h; exact absurd h2 (UInt8.lt_irrefl x)
   ·rw [if_neg h2]
    have := u8_tri h1 h2; subst this
    rw [show Lib.compareBytes a b = -1 ↔ a < b from cb_lt]
    simp [h1]
structure Sn where
 nm : ByteArray
 td : Int
theorem Sn.ext_iff' {a b : Sn} : a = b ↔ a.nm = b.nm ∧ a.td = b.td := by cases a; cases b; simp
instance : DecidableEq Sn := fun _ _ => decidable_of_iff _ Sn.ext_iff'.symm
def bc (a b : ByteArray) : Int := cb a.data.toList b.data.toList
def nLt (a b : ByteArray) : Prop := bc a b = -1
instance (a b : ByteArray) : Decidable (nLt a b) := by unfold nLt; infer_instance
theorem bc_eq {a b : ByteArray} : bc a b = 0 ↔ a = b := by
 unfold bc; rw [cb_eq]
 exact ⟨fun h => ByteArray.ext (Array.toList_inj.1 h), fun h => by rw [h]⟩
theorem bc_or (a b : ByteArray) : bc a b = -1 ∨ bc a b = 0 ∨ bc a b = 1 := cb_or _ _
theorem bc_anti (a b : ByteArray) : bc b a = - bc a b := cb_anti _ _
theorem nLt_trans {a b c : ByteArray} (h : nLt a b) (k : nLt b c) : nLt a c := cb_trans h k
theorem nLt_irrefl (a : ByteArray) : ¬ nLt a a := by unfold nLt; rw [bc_eq.2 rfl]; decide
theorem nLt_asymm {a b : ByteArray} (h : nLt a b) : ¬ nLt b a := fun k => nLt_irrefl _ (nLt_trans h k)
theorem nLt_ne {a b : ByteArray} (h : nLt a b) : a ≠ b := fun e => nLt_irrefl _ (e ▸ h)
theorem nLt_tri (a b : ByteArray) : nLt a b ∨ a = b ∨ nLt b a := by
 rcases bc_or a b with h | h | h
 ·exact .inl h
 ·exact .inr (.inl (bc_eq.1 h))
 ·exact .inr (.inr (by unfold nLt; rw [bc_anti, h]))
open Go.ChangeShapes Go.WideShapes Go.ChangeAt Go.RowKit
def nameC (b : UInt8) : Bool := decide (33 ≤ b.toNat ∧ b.toNat ≤ 126 ∧ b.toNat ≠ 47 ∧ b.toNat ≠ 64)
def nameLen (s : ByteArray) : Prop := 1 ≤ s.size ∧ s.size ≤ 12 ∧ s ≠ { data := #[46] } ∧ s ≠ { data := #[46, 46] }
instance (s : ByteArray) : Decidable (nameLen s) := by unfold nameLen; infer_instance
def nameOk (s : ByteArray) : Bool := decide (nameLen s) && s.data.toList.all nameC
open Go.ChangeShapes Go.WideShapes Go.ChangeAt Go.RowKit
theorem str_neL {s : ByteArray} {l : List UInt8} (h : s ≠ { data := l.toArray }) : (s.toList == l) = false := by
 cases e : s.toList == l
 ·rfl
 ·exfalso
  rw [beq_iff_eq, ByteArray.toList_eq] at e
  exact h (ByteArray.ext (Array.toList_inj.1 (by simpa using e)))
theorem nameOk_bad {s : ByteArray} (h : ¬ nameLen s) : nameOk s = false := by unfold nameOk; rw [decide_eq_false h]; rfl
set_option maxHeartbeats 1000000 in
theorem dirName_any (s : ByteArray) (w : World) (hs : s.size ≤ maxLen) : Calls Try.prog 22 #[.string s] w fun e w' => e = .returned (.bool (nameOk s)) ∧ w = w' := by
 unfold maxLen at hs
 by_cases hl : nameLen s
 rotate_left
 ·rw [nameOk_bad hl]
  by_cases h1 : 1 ≤ s.size
  ·by_cases h2 : s.size ≤ 12
   ·by_cases h3 : s = { data := #[46] }
    ·subst h3
     go_enter Try.func22, Try.ntmps22
     go_wp2_with fail
     go_ret
     exact ⟨rfl, rfl⟩
    ·have h4 : s = { data := #[46, 46] } := Decidable.byContradiction fun h => hl ⟨h1, h2, h3, h⟩
     subst h4
     go_enter Try.func22, Try.ntmps22
     go_wp2_with fail
     go_ret
     exact ⟨rfl, rfl⟩
   ·clear hl
    go_enter Try.func22, Try.ntmps22
    go_wp2_with fail
    go_ret
    exact ⟨rfl, rfl⟩
  ·clear hl
   go_enter Try.func22, Try.ntmps22
   go_wp2_with fail
   go_ret
   exact ⟨rfl, rfl⟩
 have hN : nameOk s = s.data.toList.all nameC := by unfold nameOk; rw [decide_eq_true hl]; rfl
 have HN := Lib.hid hN
 obtain ⟨h1, h2, h3, h4⟩ := hl
 have b3 : (s.toList == [46]) = false := str_neL h3
 have b4 : (s.toList == [46, 46]) = false := str_neL h4
 clear hN
 generalize nameOk s = r at HN ⊢
 go_enter Try.func22, Try.ntmps22
 go_wp2_with fail
 go_loop [22] (fun i => ∃ k : Nat, k ≤ s.size ∧ i = .int .i64 k ∧ Hid (∀ j (hj : j < s.size), j < k → nameC s[j] = true)) (fun i => s.size - (intOf i).toNat)
 case atStart => exact ⟨0, Nat.zero_le _, rfl, show ∀ _, _ from fun j _ hj => absurd hj (Nat.not_lt_zero _)⟩
 case round =>
  obtain ⟨k, hk, rfl, HK⟩ := hrel
  by_cases hlt : k < s.size
  rotate_left
  ·have hT : r = true := by
    rw [HN.out, List.all_eq_true]
    intro b hb
    obtain ⟨j, hj, rfl⟩ := List.getElem_of_mem hb
    rw [Array.length_toList] at hj
    have := HK.out j hj (by have : j < s.size := hj; omega)
    rw [Array.getElem_toList]
    exact this
   subst hT
   clear HK HN
   go_wp2_with fail
   go_ret
   exact ⟨rfl, rfl⟩
  have hc := s[k].toNat_lt
  by_cases hb : nameC s[k] = true
  ·have HK2 : Hid (∀ j (hj : j < s.size), j < k + 1 → nameC s[j] = true) := show ∀ _, _ from fun j hj h => by
    rcases Nat.lt_or_ge j k with h5 | h5
    ·exact HK.out j hj h5
    ·obtain rfl : j = k := by omega
     exact hb
   simp only [nameC, decide_eq_true_eq] at hb
   obtain ⟨c1, c2, c3, c4⟩ := hb
   have e3 : (((s[k].toNat : Nat) : Int) == 47) = false := by simp; omega
   have e4 : (((s[k].toNat : Nat) : Int) == 64) = false := by simp; omega
   clear HK
   go_wp2_with fail
   go_round
   case rel => exact ⟨k + 1, by omega, by go_num, HK2⟩
   case measure => simp [intOf]; omega
  ·have hF : r = false := by
    rw [HN.out, List.all_eq_false]
    exact ⟨s[k], by
     show s.data[k] ∈ s.data.toList
     exact Array.getElem_mem_toList .., hb⟩
   subst hF
   simp only [nameC, decide_eq_true_eq] at hb
   have hb2 : s[k].toNat < 33 ∨ (33 ≤ s[k].toNat ∧ 126 < s[k].toNat) ∨ (33 ≤ s[k].toNat ∧ s[k].toNat ≤ 126 ∧ s[k].toNat = 47) ∨ (33 ≤ s[k].toNat ∧ s[k].toNat ≤ 126 ∧ s[k].toNat ≠ 47 ∧ s[k].toNat = 64) := by
    omega
   clear hb HK HN
   rcases hb2 with c1 | ⟨c1, c2⟩ | ⟨c1, c2, c3⟩ | ⟨c1, c2, c4, c3⟩
   ·go_wp2_with fail
    go_ret
    exact ⟨rfl, rfl⟩
   ·go_wp2_with fail
    go_ret
    exact ⟨rfl, rfl⟩
   ·have e3 : (((s[k].toNat : Nat) : Int) == 47) = true := by simp; omega
    go_wp2_with fail
    go_ret
    exact ⟨rfl, rfl⟩
   ·have e3 : (((s[k].toNat : Nat) : Int) == 47) = false := by simp; omega
    have e4 : (((s[k].toNat : Nat) : Int) == 64) = true := by simp; omega
    go_wp2_with fail
    go_ret
    exact ⟨rfl, rfl⟩
open Go.RowKit
section
variable {α : Type} {cv : α → List Value} {N : Nat}
def LiesG (cv : α → List Value) (N : Nat) (w : World) (A : Option Addr) (l : List α) : Prop :=
 0 < l.length → ∃ b q, A = some ⟨b, q, none⟩ ∧ b < w.heap.size ∧ ∀ (k : Nat) (x : α), l[k]? = some x → ∀ j, j < N → w.cell? ⟨b, q + k * N + j, none⟩ = (cv x)[j]?
theorem LiesG.calm {w w' : World} {A : Option Addr} {l : List α} (h : LiesG cv N w A l) (hb : Calm w w') : LiesG cv N w' A l := fun hl => by
 obtain ⟨b, q, hA, hlt, hk⟩ := h hl
 exact ⟨b, q, hA, Nat.lt_of_lt_of_le hlt hb.size, fun k x hx j hj => (hb.facts.1 b _ hlt).trans (hk k x hx j hj)⟩
end
open Go.RowKit
def tidOk (t : Int) : Prop := 0 ≤ t ∧ t ≤ 2147483647
instance (t : Int) : Decidable (tidOk t) := by unfold tidOk; infer_instance
def prevB (l : List Sn) (i : Nat) (s : Sn) : Bool := match (if i = 0 then none else l[i - 1]?) with | none => true | some q => decide (nLt q.nm s.nm)
theorem prevB_zero (l : List Sn) (s : Sn) : prevB l 0 s = true := rfl
theorem prevB_pos {l : List Sn} {i : Nat} {s q : Sn} (h : 0 < i) (hq : l[i - 1]? = some q) : prevB l i s = decide (nLt q.nm s.nm) := by unfold prevB; rw [if_neg (by omega), hq]
def stepS (l : List Sn) (i : Nat) : Int :=
 match l[i]? with
 |none => 0
 |some s => if nameOk s.nm = true ∧ prevB l i s = true then (if tidOk s.td then 0 else 9) else 3
def snErr (l : List Sn) : Int := if 20 < l.length then 2 else firstErr (stepS l) l.length
def NS (l : List Sn) : Prop := l.Pairwise fun a b => nLt a.nm b.nm
def GoodS (l : List Sn) : Prop := l.length ≤ 20 ∧ (∀ s ∈ l, nameOk s.nm = true ∧ tidOk s.td) ∧ NS l
theorem stepS_zero {l : List Sn} {i : Nat} (hi : i < l.length) : stepS l i = 0 ↔ nameOk l[i].nm = true ∧ tidOk l[i].td ∧ (∀ h : 0 < i, nLt (l[i - 1]'(by omega)).nm l[i].nm) := by
 unfold stepS
 rw [List.getElem?_eq_getElem hi]
 simp only
 by_cases h0 : i = 0
 ·subst h0
  rw [prevB_zero]
  by_cases h1 : nameOk l[0].nm = true
  ·by_cases h2 : tidOk l[0].td <;> simp [h1, h2]
  ·simp [h1]
 ·rw [prevB_pos (by omega) (List.getElem?_eq_getElem (by omega : i - 1 < l.length))]
  simp only [decide_eq_true_eq]
  by_cases h1 : nameOk l[i].nm = true ∧ nLt (l[i - 1]'(by omega)).nm l[i].nm
  ·rw [if_pos h1]
   by_cases h2 : tidOk l[i].td
   ·rw [if_pos h2]; simp [h1.1, h1.2, h2]
   ·rw [if_neg h2]; simp [h2]
  ·rw [if_neg h1]
   constructor
   ·intro h; cases h
   ·rintro ⟨a, _, c⟩; exact absurd ⟨a, c (by omega)⟩ h1
theorem ns_of_steps {l : List Sn} (h : ∀ i (hi : i + 1 < l.length), nLt l[i].nm l[i + 1].nm) : NS l := by
 unfold NS
 rw [List.pairwise_iff_getElem]
 intro i j hi hj hij
 obtain ⟨d, rfl⟩ : ∃ d, j = i + 1 + d := ⟨j - (i + 1), by omega⟩
 induction d with
 |zero => exact h i hj
 |succ d ih => exact nLt_trans (ih (by omega) (by omega)) (h (i + 1 + d) hj)
theorem snErr_zero {l : List Sn} : snErr l = 0 ↔ GoodS l := by
 unfold snErr GoodS
 by_cases hl : 20 < l.length
 ·rw [if_pos hl]; constructor
  ·intro h; omega
  ·intro h; omega
 ·rw [if_neg hl, firstErr_zero]
  constructor
  ·intro h
   refine ⟨by omega, fun e he => ?_, ns_of_steps fun i hi => ?_⟩
   ·obtain ⟨i, hi, rfl⟩ := List.getElem_of_mem he
    have := (stepS_zero hi).1 (h i hi)
    exact ⟨this.1, this.2.1⟩
   ·exact ((stepS_zero hi).1 (h (i + 1) hi)).2.2 (by omega)
  ·rintro ⟨_, h1, h2⟩ i hi
   rw [stepS_zero hi]
   have := h1 _ (List.getElem_mem hi)
   exact ⟨this.1, this.2, fun h => List.pairwise_iff_getElem.1 h2 (i - 1) i (by omega) hi (by omega)⟩
def NoErrS (l : List Sn) (k : Nat) : Prop := ∀ j, j < k → stepS l j = 0
theorem snErr_at {l : List Sn} {k : Nat} (hbig : ¬ 20 < l.length) (hN : NoErrS l k) (hk : stepS l k ≠ 0) (hlt : k < l.length) : stepS l k = snErr l := by
 unfold snErr; rw [if_neg hbig, firstErr_at hN hk hlt]
theorem snErr_good {l : List Sn} (hbig : ¬ 20 < l.length) (hN : NoErrS l l.length) : 0 = snErr l := by
 unfold snErr; rw [if_neg hbig]; exact (firstErr_zero.2 hN).symm
theorem stepS_first {l : List Sn} {s : Sn} (h : l[0]? = some s) : stepS l 0 = if nameOk s.nm = true then (if tidOk s.td then 0 else 9) else 3 := by
 unfold stepS; rw [h]; simp [prevB_zero]
theorem stepS_next {l : List Sn} {k : Nat} {s q : Sn} (h : l[k]? = some s) (hk : 0 < k) (hq : l[k - 1]? = some q) : stepS l k = if nameOk s.nm = true ∧ nLt q.nm s.nm then (if tidOk s.td then 0 else 9) else 3 := by
 unfold stepS; rw [h]; simp only; rw [prevB_pos hk hq]; simp only [decide_eq_true_eq]
def snV (x : Sn) : List Value := [.string x.nm, .int .i64 x.td]
abbrev LiesN (w : World) (A : Option Addr) (l : List Sn) : Prop := LiesG snV 2 w A l
def Szs (l : List Sn) : Prop := ∀ s ∈ l, s.nm.size ≤ maxLen
theorem sn_get {w : World} {A : Option Addr} {l : List Sn} (h : LiesN w A l) {k : Nat} (hk : k < l.length) : ∃ (b q : Nat) (nm : ByteArray) (td : Int), A = some ⟨b, q, none⟩ ∧ b < w.heap.size ∧ Hid (l[k]? = some ⟨nm, td⟩) ∧
    w.cell? ⟨b, q + k * 2, none⟩ = some (.string nm) ∧ w.cell? ⟨b, q + k * 2 + 1, none⟩ = some (.int .i64 td) := by
  obtain ⟨b, q, hA, hlt, hc⟩ := h (by omega)
  have he := List.getElem?_eq_getElem hk
  have h2 := hc k _ he
  generalize l[k] = z at he h2
  obtain ⟨nm, td⟩ := z
  exact ⟨b, q, nm, td, hA, hlt, he, h2 0 (by omega), h2 1 (by omega)⟩
theorem sn_get2 {w : World} {b q : Nat} {l : List Sn} (h : LiesN w (some ⟨b, q, none⟩) l) {k : Nat} (hk : k < l.length) : ∃ (nm : ByteArray) (td : Int), Hid (l[k]? = some ⟨nm, td⟩) ∧
    w.cell? ⟨b, q + k * 2, none⟩ = some (.string nm) ∧ w.cell? ⟨b, q + k * 2 + 1, none⟩ = some (.int .i64 td) := by
  obtain ⟨b', q', nm, td, hA, hlt, he, h0, h1⟩ := sn_get h hk
  injection hA with hA
  injection hA with e1 e2
  subst e1; subst e2
  exact ⟨nm, td, he, h0, h1⟩
theorem row2n {w : World} {g t : Nat} {a b : Value} {fr : Nat × Nat} (h : w.heap[g]? = some (.cells #[a, b] t fr)) : w.cell? ⟨g, 0, none⟩ = some a ∧ w.cell? ⟨g, 1, none⟩ = some b ∧ g < w.heap.size :=
 ⟨cell_of_row _ _ 0 _ _ _ h, cell_of_row _ _ 1 _ _ _ h, (Array.getElem?_eq_some_iff.1 h).1⟩
open Go.ChangeShapes Go.WideShapes Go.ChangeAt Go.RowKit
theorem bl_eq (a b : ByteArray) : Op.bytesLess a.toList b.toList = decide (nLt a b) := by
 rw [Proofs.bytesLess_eq, ByteArray.toList_eq, ByteArray.toList_eq, Bool.eq_iff_iff]
 exact ⟨fun h => decide_eq_true (show nLt a b from cb_lt.2 (of_decide_eq_true h)), fun h => decide_eq_true (cb_lt.1 (of_decide_eq_true h))⟩
theorem isTid_any (t : Int) (w : World) : Calls Try.prog 23 #[.int .i64 t] w fun e w' => e = .returned (.bool (decide (tidOk t))) ∧ w = w' := by
 have K : Hid (decide (tidOk t) = decide (0 ≤ t ∧ t ≤ 2147483647)) := by show _ = _; unfold tidOk; rfl
 rw [K.out]
 by_cases h0 : 0 ≤ t
 ·by_cases h1 : t ≤ 2147483647
  ·rw [decide_eq_true ⟨h0, h1⟩]
   go_enter Try.func23, Try.ntmps23
   go_wp2_with fail
   go_ret
   exact ⟨rfl, rfl⟩
  ·rw [decide_eq_false (fun h => h1 h.2)]
   go_enter Try.func23, Try.ntmps23
   go_wp2_with fail
   go_ret
   exact ⟨rfl, rfl⟩
 ·rw [decide_eq_false (fun h => h0 h.1)]
  go_enter Try.func23, Try.ntmps23
  go_wp2_with fail
  go_ret
  exact ⟨rfl, rfl⟩
set_option maxHeartbeats 8000000 in
theorem snCheck_any (A : Option Addr) (c : Nat) (l : List Sn) (w : World) (hn : l.length ≤ 9223372036854775807) (hS : Szs l) (hL : LiesN w A l) :
    Calls Try.prog 11 #[.slice A l.length c] w fun e w' => e = .returned (.int .i64 (snErr l)) ∧ Calm w w' := by
  by_cases hbig : 20 < l.length
  · have K : Hid (2 = snErr l) := by show _ = _; unfold snErr; rw [if_pos hbig]
    go_enter Try.func11, Try.ntmps11
    go_wp2_with fail
    go_ret
    exact ⟨ret_int K.out, Calm.refl _⟩
  have HS := Lib.hid hS
  clear hS
  go_enter Try.func11, Try.ntmps11
  go_wp2_with fail
  go_loopw [10] (fun i wr => ∃ k : Nat, k ≤ l.length ∧ i = .int .i64 k ∧ Calm w wr ∧ NoErrS l k) (fun i _ => l.length - (intOf i).toNat)
  case atStart => exact ⟨0, Nat.zero_le _, rfl, Calm.refl _, fun j hj => absurd hj (Nat.not_lt_zero _)⟩
  case round =>
    obtain ⟨k, hk, rfl, hu, hN⟩ := hrel
    by_cases hlt : k < l.length
    rotate_left
    · have hkl : k = l.length := by omega
      have K : Hid (0 = snErr l) := snErr_good hbig (by rw [← hkl]; exact hN)
      clear hkl
      go_wp2_with fail
      go_ret
      exact ⟨ret_int K.out, hu⟩
    obtain ⟨b, q, nm, td, rfl, hb, HE, c0, c1⟩ := sn_get (hL.calm hu) hlt
    have cN := fun u => (dirName_any nm u (HS.out _ (List.mem_of_getElem? HE.out))).mono fun e w' (h : e = .returned (.bool (nameOk nm)) ∧ u = w') => (⟨h.1, h.2 ▸ Calm.refl _⟩ : e = .returned (.bool (nameOk nm)) ∧ Calm u w')
    have cT := fun u => isTid_any td u
    have hv1 := hu.alloc (.cells #[.string nm, .int .i64 td] 35 (0, 0))
    have hx := Lib.hid (heap_new wr (.cells #[.string nm, .int .i64 td] 35 (0, 0)))
    have KE : ∀ n, stepS l k = n → n ≠ 0 → Hid (n = snErr l) := fun n h1 h2 => by
      show _ = _
      rw [← snErr_at hbig hN (by rw [h1]; exact h2) hlt, h1]
    by_cases hk0 : k = 0
    · have hst : stepS l k = if nameOk nm = true then (if tidOk td then 0 else 9) else 3 := by rw [hk0]; exact stepS_first (hk0 ▸ HE.out)
      have hk1 : ¬ 0 < k := by omega
      have hN1 : stepS l k = 0 → NoErrS l (k + 1) := fun h j hj => by
        rw [show j = k by omega]; exact h
      clear hk0 HE hN
      by_cases h1 : nameOk nm = true
      rotate_left
      · rw [if_neg h1] at hst
        have K := KE 3 hst (by decide)
        rw [show nameOk nm = false from by simpa using h1] at cN
        clear hst KE hN1 h1
        go_upto_region 6 with fail
        generalize wr.alloc (.cells #[.string nm, .int .i64 td] 35 (0, 0)) = w2 at hv1 hx ⊢
        obtain ⟨x0, x1, hgs⟩ := row2n hx.out
        skip
        refine wp_region_plan [.val (.pointer (some ⟨wr.heap.size, 0, none⟩)), .val (.string nm), .val (.bool false), .val (.bool true), .val (.bool true), .idle, .idle, .idle, .idle, .idle, .idle, .idle, .idle, .idle, .idle, .idle, .idle, .idle, .val (.bool true)] (by kernel_rfl) (by kernel_rfl) (by kernel_rfl) ?_
        intro X
        iterate 5
          refine plan_val (by kernel_rfl) (fun u hu => ?_) ?_
          · obtain ⟨hc, hf, hz⟩ := hu.of_drew.facts
            go_simp
            all_goals first
              | (go_at_call 22; exact cN _)
          simp only [Act.put, List.setIfInBounds_toArray, List.set_cons_zero, List.set_cons_succ, Nat.reduceAdd]
        iterate 13
          refine plan_idle (by kernel_rfl) ?_
          simp only [Act.put, List.setIfInBounds_toArray, List.set_cons_zero, List.set_cons_succ, Nat.reduceAdd]
        iterate 1
          refine plan_val (by kernel_rfl) (fun u hu => ?_) ?_
          · obtain ⟨hc, hf, hz⟩ := hu.of_drew.facts
            go_simp
            all_goals first
              | (go_at_call 22; exact cN _)
          simp only [Act.put, List.setIfInBounds_toArray, List.set_cons_zero, List.set_cons_succ, Nat.reduceAdd]
        refine plan_end ?_
        intro w' hB
        have hk := hB.calm.of_drew
        clear hB
        obtain ⟨x0, x1, hxs⟩ := row2n ((hk.block hgs).trans hx.out)
        replace hv1 := hv1.call hk
        clear hk
        go_wp2_with fail
        go_ret
        exact ⟨ret_int K.out, hv1⟩
      rw [if_pos h1] at hst
      rw [h1] at cN
      by_cases h3 : tidOk td
      · rw [if_pos h3] at hst
        rw [decide_eq_true h3] at cT
        have hN2 := hN1 hst
        clear hst KE hN1 h1 h3
        go_upto_region 6 with fail
        generalize wr.alloc (.cells #[.string nm, .int .i64 td] 35 (0, 0)) = w2 at hv1 hx ⊢
        obtain ⟨x0, x1, hgs⟩ := row2n hx.out
        skip
        refine wp_region_plan [.val (.pointer (some ⟨wr.heap.size, 0, none⟩)), .val (.string nm), .val (.bool true), .val (.bool false), .val (.bool false), .val (.int .i64 ((k : Int))), .val (.bool false), .val (.bool false), .idle, .idle, .idle, .idle, .idle, .idle, .idle, .idle, .idle, .val (.bool false), .val (.bool false)] (by kernel_rfl) (by kernel_rfl) (by kernel_rfl) ?_
        intro X
        iterate 8
          refine plan_val (by kernel_rfl) (fun u hu => ?_) ?_
          · obtain ⟨hc, hf, hz⟩ := hu.of_drew.facts
            go_simp
            all_goals first
              | (go_at_call 22; exact cN _)
          simp only [Act.put, List.setIfInBounds_toArray, List.set_cons_zero, List.set_cons_succ, Nat.reduceAdd]
        iterate 9
          refine plan_idle (by kernel_rfl) ?_
          simp only [Act.put, List.setIfInBounds_toArray, List.set_cons_zero, List.set_cons_succ, Nat.reduceAdd]
        iterate 2
          refine plan_val (by kernel_rfl) (fun u hu => ?_) ?_
          · obtain ⟨hc, hf, hz⟩ := hu.of_drew.facts
            go_simp
            all_goals first
              | (go_at_call 22; exact cN _)
          simp only [Act.put, List.setIfInBounds_toArray, List.set_cons_zero, List.set_cons_succ, Nat.reduceAdd]
        refine plan_end ?_
        intro w' hB
        have hk := hB.calm.of_drew
        clear hB
        obtain ⟨x0, x1, hxs⟩ := row2n ((hk.block hgs).trans hx.out)
        replace hv1 := hv1.call hk
        clear hk
        go_wp2_with (go_at_call 23; refine (cT _).mono ?_; rintro e w9 ⟨rfl, rfl⟩)
        go_roundw
        case rel => exact ⟨k + 1, by omega, by go_num, hv1, hN2⟩
        case measure => simp [intOf]; omega
      · rw [if_neg h3] at hst
        rw [decide_eq_false h3] at cT
        have K := KE 9 hst (by decide)
        clear hst KE hN1 h1 h3
        go_upto_region 6 with fail
        generalize wr.alloc (.cells #[.string nm, .int .i64 td] 35 (0, 0)) = w2 at hv1 hx ⊢
        obtain ⟨x0, x1, hgs⟩ := row2n hx.out
        skip
        refine wp_region_plan [.val (.pointer (some ⟨wr.heap.size, 0, none⟩)), .val (.string nm), .val (.bool true), .val (.bool false), .val (.bool false), .val (.int .i64 ((k : Int))), .val (.bool false), .val (.bool false), .idle, .idle, .idle, .idle, .idle, .idle, .idle, .idle, .idle, .val (.bool false), .val (.bool false)] (by kernel_rfl) (by kernel_rfl) (by kernel_rfl) ?_
        intro X
        iterate 8
          refine plan_val (by kernel_rfl) (fun u hu => ?_) ?_
          · obtain ⟨hc, hf, hz⟩ := hu.of_drew.facts
            go_simp
            all_goals first
              | (go_at_call 22; exact cN _)
          simp only [Act.put, List.setIfInBounds_toArray, List.set_cons_zero, List.set_cons_succ, Nat.reduceAdd]
        iterate 9
          refine plan_idle (by kernel_rfl) ?_
          simp only [Act.put, List.setIfInBounds_toArray, List.set_cons_zero, List.set_cons_succ, Nat.reduceAdd]
        iterate 2
          refine plan_val (by kernel_rfl) (fun u hu => ?_) ?_
          · obtain ⟨hc, hf, hz⟩ := hu.of_drew.facts
            go_simp
            all_goals first
              | (go_at_call 22; exact cN _)
          simp only [Act.put, List.setIfInBounds_toArray, List.set_cons_zero, List.set_cons_succ, Nat.reduceAdd]
        refine plan_end ?_
        intro w' hB
        have hk := hB.calm.of_drew
        clear hB
        obtain ⟨x0, x1, hxs⟩ := row2n ((hk.block hgs).trans hx.out)
        replace hv1 := hv1.call hk
        clear hk
        go_wp2_with (go_at_call 23; refine (cT _).mono ?_; rintro e w9 ⟨rfl, rfl⟩)
        go_ret
        exact ⟨ret_int K.out, hv1⟩
    obtain ⟨nm', td', HE', d0, d1⟩ := sn_get2 (hL.calm hu) (k := k - 1) (by omega)
    have hst := stepS_next HE.out (by omega) HE'.out
    have hN1 : stepS l k = 0 → NoErrS l (k + 1) := fun h j hj => by
      rcases Nat.lt_or_ge j k with h2 | h2
      · exact hN j h2
      · rw [show j = k by omega]; exact h
    have hkp : 0 < k := by omega
    clear hk0 HE HE' hN
    have hd := Lib.hid (And.intro (((Calm.refl wr).alloc (.cells #[.string nm, .int .i64 td] 35 (0, 0))).facts.1 b _ hb |>.trans d0) (show b < (wr.alloc (.cells #[.string nm, .int .i64 td] 35 (0, 0))).heap.size from Nat.lt_of_lt_of_le hb (by simp)))
    clear d0 d1
    by_cases h1 : nameOk nm = true
    rotate_left
    · rw [if_neg (fun h => h1 h.1)] at hst
      have K := KE 3 hst (by decide)
      rw [show nameOk nm = false from by simpa using h1] at cN
      clear hst KE hN1 h1 hkp hd
      go_upto_region 6 with fail
      generalize wr.alloc (.cells #[.string nm, .int .i64 td] 35 (0, 0)) = w2 at hv1 hx ⊢
      obtain ⟨x0, x1, hgs⟩ := row2n hx.out
      skip
      refine wp_region_plan [.val (.pointer (some ⟨wr.heap.size, 0, none⟩)), .val (.string nm), .val (.bool false), .val (.bool true), .val (.bool true), .idle, .idle, .idle, .idle, .idle, .idle, .idle, .idle, .idle, .idle, .idle, .idle, .idle, .val (.bool true)] (by kernel_rfl) (by kernel_rfl) (by kernel_rfl) ?_
      intro X
      iterate 5
        refine plan_val (by kernel_rfl) (fun u hu => ?_) ?_
        · obtain ⟨hc, hf, hz⟩ := hu.of_drew.facts
          go_simp
          all_goals first
            | (go_at_call 22; exact cN _)
        simp only [Act.put, List.setIfInBounds_toArray, List.set_cons_zero, List.set_cons_succ, Nat.reduceAdd]
      iterate 13
        refine plan_idle (by kernel_rfl) ?_
        simp only [Act.put, List.setIfInBounds_toArray, List.set_cons_zero, List.set_cons_succ, Nat.reduceAdd]
      iterate 1
        refine plan_val (by kernel_rfl) (fun u hu => ?_) ?_
        · obtain ⟨hc, hf, hz⟩ := hu.of_drew.facts
          go_simp
          all_goals first
            | (go_at_call 22; exact cN _)
        simp only [Act.put, List.setIfInBounds_toArray, List.set_cons_zero, List.set_cons_succ, Nat.reduceAdd]
      refine plan_end ?_
      intro w' hB
      have hk := hB.calm.of_drew
      clear hB
      obtain ⟨x0, x1, hxs⟩ := row2n ((hk.block hgs).trans hx.out)
      replace hv1 := hv1.call hk
      clear hk
      go_wp2_with fail
      go_ret
      exact ⟨ret_int K.out, hv1⟩
    rw [h1] at cN
    by_cases h2 : nLt nm' nm
    · rw [if_pos ⟨h1, h2⟩] at hst
      have e1 : Op.bytesLess nm.toList nm'.toList = false := by rw [bl_eq]; exact decide_eq_false (nLt_asymm h2)
      have e2 : (nm.toList == nm'.toList) = false := str_ne fun h => nLt_ne h2 h.symm
      have e3 : ¬ nm.toList = nm'.toList := fun h => by rw [h] at e2; simp at e2
      clear h2
      by_cases h3 : tidOk td
      · rw [if_pos h3] at hst
        rw [decide_eq_true h3] at cT
        have hN2 := hN1 hst
        clear hst KE hN1 h1 h3
        go_upto_region 6 with fail
        generalize wr.alloc (.cells #[.string nm, .int .i64 td] 35 (0, 0)) = w2 at hv1 hx hd ⊢
        obtain ⟨x0, x1, hgs⟩ := row2n hx.out
        obtain ⟨d0, hbw⟩ := hd.out
        have z1 : IntKind.i64.wrap ((k : Int) - 1) = (k : Int) - 1 := IntWalk.i64_in _ (by omega)
        have z2 : ((k : Int) - 1).toNat = k - 1 := by omega
        have z3 : 0 ≤ (k : Int) - 1 := by omega
        have z4 : (k : Int) - 1 < l.length := by omega
        have z5 : 1 ≤ (k : Int) := by omega
        refine wp_region_plan [.val (.pointer (some ⟨wr.heap.size, 0, none⟩)), .val (.string nm), .val (.bool true), .val (.bool false), .val (.bool false), .val (.int .i64 ((k : Int))), .val (.bool true), .val (.bool true), .val (.pointer (some ⟨wr.heap.size, 0, none⟩)), .val (.string nm), .val (.slice (some ⟨b, q, none⟩) l.length c), .val (.int .i64 ((k : Int))), .val (.int .i64 ((k : Int) - 1)), .val (.pointer (some ⟨b, q + (k - 1) * 2, none⟩)), .val (.pointer (some ⟨b, q + (k - 1) * 2, none⟩)), .val (.string nm'), .val (.bool false), .val (.bool false), .val (.bool false)] (by kernel_rfl) (by kernel_rfl) (by kernel_rfl) ?_
        intro X
        iterate 19
          refine plan_val (by kernel_rfl) (fun u hu => ?_) ?_
          · obtain ⟨hc, hf, hz⟩ := hu.of_drew.facts
            go_simp
            all_goals first
              | (go_at_call 22; exact cN _)
          simp only [Act.put, List.setIfInBounds_toArray, List.set_cons_zero, List.set_cons_succ, Nat.reduceAdd]
        refine plan_end ?_
        intro w' hB
        have hk := hB.calm.of_drew
        clear hB
        obtain ⟨x0, x1, hxs⟩ := row2n ((hk.block hgs).trans hx.out)
        replace hv1 := hv1.call hk
        clear hk
        clear z1 z2 z3 z4 z5
        go_wp2_with (go_at_call 23; refine (cT _).mono ?_; rintro e w9 ⟨rfl, rfl⟩)
        go_roundw
        case rel => exact ⟨k + 1, by omega, by go_num, hv1, hN2⟩
        case measure => simp [intOf]; omega
      · rw [if_neg h3] at hst
        rw [decide_eq_false h3] at cT
        have K := KE 9 hst (by decide)
        clear hst KE hN1 h1 h3
        go_upto_region 6 with fail
        generalize wr.alloc (.cells #[.string nm, .int .i64 td] 35 (0, 0)) = w2 at hv1 hx hd ⊢
        obtain ⟨x0, x1, hgs⟩ := row2n hx.out
        obtain ⟨d0, hbw⟩ := hd.out
        have z1 : IntKind.i64.wrap ((k : Int) - 1) = (k : Int) - 1 := IntWalk.i64_in _ (by omega)
        have z2 : ((k : Int) - 1).toNat = k - 1 := by omega
        have z3 : 0 ≤ (k : Int) - 1 := by omega
        have z4 : (k : Int) - 1 < l.length := by omega
        have z5 : 1 ≤ (k : Int) := by omega
        refine wp_region_plan [.val (.pointer (some ⟨wr.heap.size, 0, none⟩)), .val (.string nm), .val (.bool true), .val (.bool false), .val (.bool false), .val (.int .i64 ((k : Int))), .val (.bool true), .val (.bool true), .val (.pointer (some ⟨wr.heap.size, 0, none⟩)), .val (.string nm), .val (.slice (some ⟨b, q, none⟩) l.length c), .val (.int .i64 ((k : Int))), .val (.int .i64 ((k : Int) - 1)), .val (.pointer (some ⟨b, q + (k - 1) * 2, none⟩)), .val (.pointer (some ⟨b, q + (k - 1) * 2, none⟩)), .val (.string nm'), .val (.bool false), .val (.bool false), .val (.bool false)] (by kernel_rfl) (by kernel_rfl) (by kernel_rfl) ?_
        intro X
        iterate 19
          refine plan_val (by kernel_rfl) (fun u hu => ?_) ?_
          · obtain ⟨hc, hf, hz⟩ := hu.of_drew.facts
            go_simp
            all_goals first
              | (go_at_call 22; exact cN _)
          simp only [Act.put, List.setIfInBounds_toArray, List.set_cons_zero, List.set_cons_succ, Nat.reduceAdd]
        refine plan_end ?_
        intro w' hB
        have hk := hB.calm.of_drew
        clear hB
        obtain ⟨x0, x1, hxs⟩ := row2n ((hk.block hgs).trans hx.out)
        replace hv1 := hv1.call hk
        clear hk
        clear z1 z2 z3 z4 z5
        go_wp2_with (go_at_call 23; refine (cT _).mono ?_; rintro e w9 ⟨rfl, rfl⟩)
        go_ret
        exact ⟨ret_int K.out, hv1⟩
    · rw [if_neg (fun h => h2 h.2)] at hst
      have K := KE 3 hst (by decide)
      clear hst KE hN1
      have e1 : (Op.bytesLess nm.toList nm'.toList || (nm.toList == nm'.toList)) = true := by
        rcases nLt_tri nm nm' with h | h | h
        · rw [bl_eq, decide_eq_true h]; rfl
        · rw [h]; simp
        · exact absurd h h2
      have e2 : Op.bytesLess nm.toList nm'.toList = true ∨ nm.toList = nm'.toList := by simpa using e1
      clear h2 h1
      go_upto_region 6 with fail
      generalize wr.alloc (.cells #[.string nm, .int .i64 td] 35 (0, 0)) = w2 at hv1 hx hd ⊢
      obtain ⟨x0, x1, hgs⟩ := row2n hx.out
      obtain ⟨d0, hbw⟩ := hd.out
      have z1 : IntKind.i64.wrap ((k : Int) - 1) = (k : Int) - 1 := IntWalk.i64_in _ (by omega)
      have z2 : ((k : Int) - 1).toNat = k - 1 := by omega
      have z3 : 0 ≤ (k : Int) - 1 := by omega
      have z4 : (k : Int) - 1 < l.length := by omega
      have z5 : 1 ≤ (k : Int) := by omega
      refine wp_region_plan [.val (.pointer (some ⟨wr.heap.size, 0, none⟩)), .val (.string nm), .val (.bool true), .val (.bool false), .val (.bool false), .val (.int .i64 ((k : Int))), .val (.bool true), .val (.bool true), .val (.pointer (some ⟨wr.heap.size, 0, none⟩)), .val (.string nm), .val (.slice (some ⟨b, q, none⟩) l.length c), .val (.int .i64 ((k : Int))), .val (.int .i64 ((k : Int) - 1)), .val (.pointer (some ⟨b, q + (k - 1) * 2, none⟩)), .val (.pointer (some ⟨b, q + (k - 1) * 2, none⟩)), .val (.string nm'), .val (.bool true), .val (.bool true), .val (.bool true)] (by kernel_rfl) (by kernel_rfl) (by kernel_rfl) ?_
      intro X
      iterate 19
        refine plan_val (by kernel_rfl) (fun u hu => ?_) ?_
        · obtain ⟨hc, hf, hz⟩ := hu.of_drew.facts
          go_simp
          all_goals first
            | (go_at_call 22; exact cN _)
        simp only [Act.put, List.setIfInBounds_toArray, List.set_cons_zero, List.set_cons_succ, Nat.reduceAdd]
      refine plan_end ?_
      intro w' hB
      have hk := hB.calm.of_drew
      clear hB
      obtain ⟨x0, x1, hxs⟩ := row2n ((hk.block hgs).trans hx.out)
      replace hv1 := hv1.call hk
      clear hk
      clear z1 z2 z3 z4 z5
      go_wp2_with fail
      go_ret
      exact ⟨ret_int K.out, hv1⟩
end Go.Proofs.Ytibnghapilfgbaa
