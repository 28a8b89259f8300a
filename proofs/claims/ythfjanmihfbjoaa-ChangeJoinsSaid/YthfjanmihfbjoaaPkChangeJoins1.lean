/- Texts of one kind in one file. -/
import Derived.Below
import Derived.Test.YthfjanmihfbjoaaRows
import Derived.Handy
import Derived.Deep.Quiet
import Derived.Deep.QuietTactic
import Derived.Laws.Tables
import Derived.StillTail
import Derived.WalkSpells
import Derived.WalkLawsBesides
import Derived.Lib.Hide
import Derived.Deep.RegionWith
import Derived.Deep.RegionHeld3
import Derived.Deep.DeepCutAuto
import Derived.BigQuiet
import Derived.Laws.OwnMore
import Derived.Deep.AppendLies
import Derived.Deep.Draws
import Derived.OwnWalk
import Derived.Deep.Slices
import Derived.ProofKit
import Derived.OpenShut
import Derived.Lib.SmallJoins
import Derived.SizedLaws
import Derived.Deep.LoopGhost
import Derived.Outline
import Derived.IntWalk
import Derived.Deep.AppendSrc
import Derived.Deep.RegionLaw
import Derived.Laws.Externs
import Derived.Lib.AppendZerosOnto
import Derived.Lib.Overlaps
import Derived.Lib.SliceRun
set_option maxRecDepth 100000
namespace Go.Proofs.Ythfjanmihfbjoaa
def keyErr (p o f : Int) : Int := if 0 ≤ p ∧ p ≤ 15 ∧ 0 ≤ o ∧ o ≤ 1048576 ∧ 0 ≤ f ∧ f ≤ 1073741824 then 0 else 1
def icmp (a b : Int) : Int := if a < b then -1 else if b < a then 1 else 0
def kcmp (p o f p' o' f' : Int) : Int := if icmp p p' = 0 then (if icmp o o' = 0 then icmp f f' else icmp o o') else icmp p p'
def timeOk (m g : Int) : Prop := 1 ≤ m ∧ m ≤ 2147483647 ∧ (g = 0 ∨ (m < g ∧ g ≤ 2147483647))
instance (m g : Int) : Decidable (timeOk m g) := by unfold timeOk; infer_instance
def elemErr (p o f m g n : Int) : Int := if keyErr p o f = 0 then (if timeOk m g then (if n ≤ 40 then 0 else 2) else 9) else keyErr p o f
def liveP (m g t : Int) : Prop := m ≤ t ∧ (g = 0 ∨ t < g)
instance (m g t : Int) : Decidable (liveP m g t) := by unfold liveP; infer_instance
theorem keyErr_ok {p o f : Int} (h1 : 0 ≤ p) (h2 : p ≤ 15) (h3 : 0 ≤ o) (h4 : o ≤ 1048576) (h5 : 0 ≤ f) (h6 : f ≤ 1073741824) : keyErr p o f = 0 := by
 unfold keyErr; rw [if_pos ⟨h1, h2, h3, h4, h5, h6⟩]
theorem keyErr_no {p o f : Int} (h : p < 0 ∨ 15 < p ∨ o < 0 ∨ 1048576 < o ∨ f < 0 ∨ 1073741824 < f) : keyErr p o f = 1 := by
 unfold keyErr; rw [if_neg (by omega)]
theorem kcmp_lt {p o f p' o' f' : Int} : kcmp p o f p' o' f' = -1 ↔ (p < p' ∨ p = p' ∧ (o < o' ∨ o = o' ∧ f < f')) := by
 unfold kcmp icmp
 by_cases h1 : p < p' <;> by_cases h2 : p' < p <;> by_cases h3 : o < o' <;> by_cases h4 : o' < o <;> by_cases h5 : f < f' <;> by_cases h6 : f' < f <;> simp [*] <;> omega
theorem kcmp_eq {p o f p' o' f' : Int} : kcmp p o f p' o' f' = 0 ↔ (p = p' ∧ o = o' ∧ f = f') := by
 unfold kcmp icmp
 by_cases h1 : p < p' <;> by_cases h2 : p' < p <;> by_cases h3 : o < o' <;> by_cases h4 : o' < o <;> by_cases h5 : f < f' <;> by_cases h6 : f' < f <;> simp [*] <;> omega
theorem kcmp_gt {p o f p' o' f' : Int} : kcmp p o f p' o' f' = 1 ↔ (p' < p ∨ p = p' ∧ (o' < o ∨ o = o' ∧ f' < f)) := by
 unfold kcmp icmp
 by_cases h1 : p < p' <;> by_cases h2 : p' < p <;> by_cases h3 : o < o' <;> by_cases h4 : o' < o <;> by_cases h5 : f < f' <;> by_cases h6 : f' < f <;> simp [*] <;> omega
theorem icmp_or (a b : Int) : icmp a b = -1 ∨ icmp a b = 0 ∨ icmp a b = 1 := by
 unfold icmp; split <;> (try split) <;> simp
theorem kcmp_or (p o f p' o' f' : Int) : kcmp p o f p' o' f' = -1 ∨ kcmp p o f p' o' f' = 0 ∨ kcmp p o f p' o' f' = 1 := by
 unfold kcmp
 split
 ·split
  ·exact icmp_or _ _
  ·exact icmp_or _ _
 ·exact icmp_or _ _
theorem elemErr_zero {p o f m g n : Int} : elemErr p o f m g n = 0 ↔ keyErr p o f = 0 ∧ timeOk m g ∧ n ≤ 40 := by
 unfold elemErr
 by_cases h1 : keyErr p o f = 0
 ·rw [if_pos h1]
  by_cases h2 : timeOk m g
  ·rw [if_pos h2]
   by_cases h3 : n ≤ 40
   ·simp [h1, h2, h3]
   ·simp [h3]
  ·simp [h2]
 ·simp [h1]
structure El where
 p : Int
 o : Int
 f : Int
 m : Int
 g : Int
 s : ByteArray
theorem El.ext_iff' {a b : El} : a = b ↔ a.p = b.p ∧ a.o = b.o ∧ a.f = b.f ∧ a.m = b.m ∧ a.g = b.g ∧ a.s = b.s := by
 cases a; cases b; simp
instance : DecidableEq El := fun _ _ => decidable_of_iff _ El.ext_iff'.symm
def El.key (e : El) : Int × Int × Int := (e.p, e.o, e.f)
def kLt (a b : Int × Int × Int) : Prop := a.1 < b.1 ∨ a.1 = b.1 ∧ (a.2.1 < b.2.1 ∨ a.2.1 = b.2.1 ∧ a.2.2 < b.2.2)
instance (a b : Int × Int × Int) : Decidable (kLt a b) := by unfold kLt; infer_instance
def sLt (a : Int × Int × Int) (m : Int) (b : Int × Int × Int) (n : Int) : Prop := kLt a b ∨ a = b ∧ m < n
instance (a : Int × Int × Int) (m : Int) (b : Int × Int × Int) (n : Int) : Decidable (sLt a m b n) := by unfold sLt; infer_instance
theorem key3_eq {a b : Int × Int × Int} : a = b ↔ a.1 = b.1 ∧ a.2.1 = b.2.1 ∧ a.2.2 = b.2.2 := by
 obtain ⟨a1, a2, a3⟩ := a; obtain ⟨b1, b2, b3⟩ := b; simp
theorem kLt_irrefl (a : Int × Int × Int) : ¬ kLt a a := by unfold kLt; omega
theorem kLt_trans {a b c : Int × Int × Int} (h : kLt a b) (k : kLt b c) : kLt a c := by unfold kLt at *; omega
theorem kLt_tri (a b : Int × Int × Int) : kLt a b ∨ a = b ∨ kLt b a := by rw [key3_eq]; unfold kLt; omega
theorem kLt_asymm {a b : Int × Int × Int} (h : kLt a b) : ¬ kLt b a := fun k => kLt_irrefl _ (kLt_trans h k)
theorem kLt_ne {a b : Int × Int × Int} (h : kLt a b) : a ≠ b := fun e => by subst e; exact kLt_irrefl _ h
theorem sLt_trans {a b c : Int × Int × Int} {m n k : Int} (h : sLt a m b n) (h' : sLt b n c k) : sLt a m c k := by
 rcases h with h | ⟨rfl, h⟩
 ·rcases h' with h' | ⟨rfl, h'⟩
  ·exact .inl (kLt_trans h h')
  ·exact .inl h
 ·rcases h' with h' | ⟨rfl, h'⟩
  ·exact .inl h'
  ·exact .inr ⟨rfl, by omega⟩
theorem kcmp_kLt {p o f p' o' f' : Int} : kcmp p o f p' o' f' = -1 ↔ kLt (p, o, f) (p', o', f') := kcmp_lt
theorem kcmp_kGt {p o f p' o' f' : Int} : kcmp p o f p' o' f' = 1 ↔ kLt (p', o', f') (p, o, f) := by rw [kcmp_gt]; unfold kLt; simp only; omega
def El.err (e : El) : Int := elemErr e.p e.o e.f e.m e.g e.s.size
def El.live (e : El) (t : Int) : Prop := liveP e.m e.g t
instance (e : El) (t : Int) : Decidable (e.live t) := by unfold El.live; infer_instance
def Fol (a b : El) : Prop := sLt a.key a.m b.key b.m ∧ (a.key = b.key → a.g ≠ 0 ∧ a.g ≤ b.m)
instance (a b : El) : Decidable (Fol a b) := by unfold Fol; infer_instance
theorem err_time {e : El} (h : e.err = 0) : timeOk e.m e.g := (elemErr_zero.1 h).2.1
theorem Fol.trans {a b c : El} (hb : b.err = 0) (h : Fol a b) (k : Fol b c) : Fol a c := by
 have ht := err_time hb
 unfold timeOk at ht
 refine ⟨sLt_trans h.1 k.1, fun e => ?_⟩
 have hab : a.key = b.key := by
  rcases h.1 with h1 | ⟨h1, _⟩
  ·rcases k.1 with k1 | ⟨k1, _⟩
   ·exact absurd e (kLt_ne (kLt_trans h1 k1))
   ·rw [k1] at h1; exact absurd e (kLt_ne h1)
  ·exact h1
 have h2 := h.2 hab
 have k2 := k.2 (hab ▸ e)
 omega
def firstErr (f : Nat → Int) : Nat → Int
 | 0 => 0
 |n + 1 => if firstErr f n = 0 then f n else firstErr f n
theorem firstErr_zero {f : Nat → Int} : ∀ {n : Nat}, firstErr f n = 0 ↔ ∀ i, i < n → f i = 0
 | 0 => by simp [firstErr]
 |n + 1 => by
  have ih := firstErr_zero (f := f) (n := n)
  unfold firstErr
  constructor
  ·intro h i hi
   by_cases h0 : firstErr f n = 0
   ·rw [if_pos h0] at h
    rcases Nat.lt_or_ge i n with h1 | h1
    ·exact ih.1 h0 i h1
    ·rw [show i = n by omega]; exact h
   ·rw [if_neg h0] at h; exact absurd h h0
  ·intro h
   rw [if_pos (ih.2 fun i hi => h i (by omega))]
   exact h n (by omega)
theorem firstErr_at {f : Nat → Int} {k n : Nat} (h : ∀ i, i < k → f i = 0) (hk : f k ≠ 0) (hn : k < n) : firstErr f n = f k := by
 induction n with
 |zero => omega
 |succ n ih =>
  unfold firstErr
  rcases Nat.lt_or_ge k n with h1 | h1
  ·rw [if_neg (by rw [ih h1]; exact hk), ih h1]
  ·rw [show n = k by omega, if_pos (firstErr_zero.2 h)]
def stepErr (l : List El) (i : Nat) : Int :=
 match l[i]? with
 |none => 0
 |some e => if e.err ≠ 0 then e.err else
  match (if i = 0 then none else l[i - 1]?) with
  |none => 0
  |some q => if Fol q e then 0 else 3
def runErr (l : List El) : Int := if 400 < l.length then 2 else firstErr (stepErr l) l.length
theorem stepErr_zero {l : List El} {i : Nat} (hi : i < l.length) : stepErr l i = 0 ↔ l[i].err = 0 ∧ (∀ h : 0 < i, Fol (l[i - 1]'(by omega)) l[i]) := by
 unfold stepErr
 rw [List.getElem?_eq_getElem hi]
 simp only
 by_cases he : l[i].err = 0
 ·rw [if_neg (by simpa using he)]
  by_cases h0 : i = 0
  ·subst h0; simp [he]
  ·rw [if_neg h0, List.getElem?_eq_getElem (by omega)]
   simp only
   by_cases hF : Fol (l[i - 1]'(by omega)) l[i]
   ·simp [hF, he]
   ·simp only [hF, if_false]
    constructor
    ·intro h; omega
    ·intro h; exact absurd (h.2 (by omega)) id
 ·rw [if_pos he]; simp [he]
def Good (l : List El) : Prop := l.length ≤ 400 ∧ (∀ e ∈ l, e.err = 0) ∧ l.Pairwise Fol
theorem pairwise_of_steps {l : List El} (ho : ∀ e ∈ l, e.err = 0) (h : ∀ i (hi : i + 1 < l.length), Fol l[i] l[i + 1]) : l.Pairwise Fol := by
 rw [List.pairwise_iff_getElem]
 intro i j hi hj hij
 obtain ⟨d, rfl⟩ : ∃ d, j = i + 1 + d := ⟨j - (i + 1), by omega⟩
 induction d with
 |zero => exact h i hj
 |succ d ih =>
  have := ih (by omega) (by omega)
  exact Fol.trans (ho _ (List.getElem_mem _)) this (h (i + 1 + d) hj)
theorem steps_good {l : List El} (h : ∀ i, i < l.length → stepErr l i = 0) : (∀ e ∈ l, e.err = 0) ∧ l.Pairwise Fol := by
 have h1 : ∀ e ∈ l, e.err = 0 := fun e he => by
  obtain ⟨i, hi, rfl⟩ := List.getElem_of_mem he
  exact ((stepErr_zero hi).1 (h i hi)).1
 refine ⟨h1, pairwise_of_steps h1 fun i hi => ?_⟩
 exact ((stepErr_zero hi).1 (h (i + 1) hi)).2 (by omega)
theorem runErr_zero {l : List El} : runErr l = 0 ↔ Good l := by
 unfold runErr Good
 by_cases hl : 400 < l.length
 ·rw [if_pos hl]; constructor
  ·intro h; omega
  ·intro h; omega
 ·rw [if_neg hl, firstErr_zero]
  constructor
  ·intro h; exact ⟨by omega, steps_good h⟩
  ·rintro ⟨_, h1, h2⟩ i hi
   rw [stepErr_zero hi]
   exact ⟨h1 _ (List.getElem_mem _), fun h => List.pairwise_iff_getElem.1 h2 (i - 1) i (by omega) hi (by omega)⟩
def isAt (k : Int × Int × Int) (t : Int) (e : El) : Bool := decide (e.key = k ∧ e.live t)
def atR (l : List El) (k : Int × Int × Int) (t : Int) : Option El := l.find? (isAt k t)
def kErr (k : Int × Int × Int) : Int := keyErr k.1 k.2.1 k.2.2
theorem uniqAt {l : List El} (h : l.Pairwise Fol) {k : Int × Int × Int} {t : Int} {i j : Nat} (hi : i < l.length) (hj : j < l.length) (h1 : isAt k t l[i] = true) (h2 : isAt k t l[j] = true) : i = j := by
 unfold isAt at h1 h2
 rw [decide_eq_true_eq] at h1 h2
 have key : ∀ a b (ha : a < l.length) (hb : b < l.length), a < b → (l[a].key = k ∧ l[a].live t) → (l[b].key = k ∧ l[b].live t) → False := fun a b ha hb hab p q => by
  have hF := (List.pairwise_iff_getElem.1 h a b ha hb hab).2 (p.1.trans q.1.symm)
  have p2 := p.2; have q2 := q.2
  unfold El.live liveP at p2 q2
  omega
 rcases Nat.lt_trichotomy i j with h3 | h3 | h3
 ·exact (key i j hi hj h3 h1 h2).elim
 ·exact h3
 ·exact (key j i hj hi h3 h2 h1).elim
theorem find_of {l : List El} (h : l.Pairwise Fol) {k : Int × Int × Int} {t : Int} {i : Nat} (hi : i < l.length) (h1 : isAt k t l[i] = true) : atR l k t = some l[i] := by
 unfold atR
 have hs : (l.find? (isAt k t)).isSome = true := by rw [List.find?_isSome]; exact ⟨_, List.getElem_mem hi, h1⟩
 obtain ⟨e, he⟩ := Option.isSome_iff_exists.1 hs
 rw [he]
 have hp := List.find?_some he
 obtain ⟨j, hj, rfl⟩ := List.getElem_of_mem (List.mem_of_find?_eq_some he)
 have := uniqAt h hj hi hp h1
 subst this; rfl
def inR (lo hi : Int × Int × Int) (t : Int) (e : El) : Bool := decide (¬ kLt e.key lo ∧ ¬ kLt hi e.key ∧ e.live t)
def rangeR (l : List El) (lo hi : Int × Int × Int) (t : Int) : List El := l.filter (inR lo hi t)
open Go.RowKit
def Calm (w w' : World) : Prop := Below w.heap.size w w'
theorem Calm.refl (w : World) : Calm w w := Below.refl _ _
theorem Calm.alloc {a w : World} (h : Calm a w) (o : Obj) : Calm a (w.alloc o) := Below.alloc h (Below.size h) o
theorem Calm.drew {a w : World} (h : Calm a w) : Calm a w.drew := Below.drew h
theorem Calm.drewN {a w : World} (h : Calm a w) (n : Nat) : Calm a (w.drewN n) := Below.trans h ⟨rfl, rfl, rfl, Nat.le_refl _, fun _ _ => rfl⟩
theorem Calm.of_drew {a w : World} (h : Calm a.drew w) : Calm a w := Below.trans (Calm.refl a).drew h
theorem Calm.setRow {a w : World} (h : Calm a w) {g : Nat} (hg : a.heap.size ≤ g) (cs : Array Value) : Calm a (w.setRow g cs) :=
 Below.trans h ⟨rfl, rfl, rfl, by simp, fun k hk => setRow_other w g k cs (by omega)⟩
theorem Calm.call {a w w1 : World} (h : Calm a w) (hb : Calm w w1) : Calm a w1 := Below.trans h (Below.mono hb (Below.size h))
theorem Calm.size {a w : World} (h : Calm a w) : a.heap.size ≤ w.heap.size := Below.size h
theorem Calm.block {a w : World} (h : Calm a w) {k : Nat} (hk : k < a.heap.size) : w.heap[k]? = a.heap[k]? := Below.block h k hk
/-- Of such a call: cells, marks, how many blocks. -/
theorem Calm.facts {W w1 : World} (hb : Calm W w1) : (∀ b o, b < W.heap.size → w1.cell? ⟨b, o, none⟩ = W.cell? ⟨b, o, none⟩) ∧ (∀ b o, b < W.heap.size → w1.frozen? ⟨b, o, none⟩ = W.frozen? ⟨b, o, none⟩) ∧ (∀ n : Nat, n < W.heap.size → n < w1.heap.size ∧ n < w1.heap.size + 1 ∧ n < w1.heap.size + 1 + 1 ∧ n < w1.heap.size + 1 + 1 + 1 ∧ n < w1.heap.size + 1 + 1 + 1 + 1) :=
 ⟨fun b o h => Below.cell hb (p := ⟨b, o, none⟩) h, fun b o h => Below.frozen hb (p := ⟨b, o, none⟩) h, fun _ h => by have := Below.size hb; omega⟩
section
variable {P : Program} {ops : Array Oper} {Q : Exit → Act → World → Prop} {md : Region.Mode}
def unlisted (listed : Array Bool) : Nat := listed.toList.countP (· == false)
theorem unlisted_set {listed : Array Bool} {i : Nat} (h : listed.getD i true = false) : unlisted (listed.setIfInBounds i true) + 1 = unlisted listed := by
 have hi : i < listed.size := by
  rcases Nat.lt_or_ge i listed.size with h' | h'
  ·exact h'
  ·simp [Array.getElem?_eq_none h'] at h
 have hv : listed[i] = false := by simpa [hi] using h
 have hm : false ∈ listed.toList := by rw [← hv]; simp
 have hpos : 0 < listed.toList.countP (· == false) := List.countP_pos_iff.2 ⟨false, hm, rfl⟩
 have hl : listed.toList[i]'(by simpa using hi) = false := by simpa using hv
 unfold unlisted
 rw [Array.toList_setIfInBounds, List.countP_set (by simpa using hi), hl]
 simp only [beq_self_eq_true, if_true, show ((true == false) = false) from rfl, Bool.false_eq_true, if_false]
 omega
theorem wpAny_inv (J : Array Bool → Act → World → Prop)
    (hstep : ∀ (listed : Array Bool) (a : Act) (w : World) (i : Nat), J listed a w → i ∈ Region.ready md ops listed → wpOp P ops Q i (fun a' w' => J (listed.setIfInBounds i true) a' w') a w)
    (hend : ∀ (listed : Array Bool) (a : Act) (w : World), J listed a w → Region.ready md ops listed = [] → Q .normal a w) :
    ∀ (fuel : Nat) (listed : Array Bool) (a : Act) (w : World), unlisted listed ≤ fuel → J listed a w → wpAny P md ops Q fuel listed a w
  | 0, listed, a, w, hf, hj => by
    have hr : Region.ready md ops listed = [] := by
      cases h : Region.ready md ops listed with
      | nil => rfl
      | cons i r =>
        have hm : i ∈ Region.ready md ops listed := by rw [h]; simp
        have := unlisted_set (mem_ready.1 hm).1
        omega
    exact ⟨hr, hend _ _ _ hj hr⟩
  | fuel + 1, listed, a, w, hf, hj => by
    refine ⟨fun h0 => hend _ _ _ hj h0, fun i hi => ?_⟩
    have := unlisted_set (mem_ready.1 hi).1
    exact wpOp_mono (fun a' w' h => wpAny_inv J hstep hend fuel _ a' w' (by omega) h) (hstep _ _ _ _ hj hi)
inductive Does where
 |val (v : Value)
 |idle
 |new (z : Array Value) (t : TypeId) (kd : Option Nat := none)
 |fill (k : Nat) (cs : Array Value)
 |look (k : Nat) (v : Value)
def newOut (b : Nat) : Option Nat → Value
 |none => .pointer (some ⟨b, 0, none⟩)
 |some n => .slice (some ⟨b, 0, none⟩) n n
def Does.out (X : Nat → Nat) (i : Nat) : Does → Value
 | .val v => v
 | .idle => undef
 | .new _ _ kd => newOut (X i) kd
 | .fill _ _ => undef
 | .look _ v => v
def noFillB (p : List Does) (k : Nat) : Bool := p.all fun d => match d with | .fill m _ => m != k | _ => true
theorem noFillB_spec {p : List Does} {k : Nat} (h : noFillB p k = true) {j : Nat} {cs : Array Value} : p[j]? ≠ some (.fill k cs) := fun hj => by
 have := List.all_eq_true.1 h _ (List.mem_of_getElem? hj)
 simp at this
def Does.fits (P : Program) (ops : Array Oper) (w0 : World) (X : Nat → Nat) (p : List Does) (o : Oper) (a : Act) : Does → Prop
  | .val v => Region.wanted o (yielded ops a.tmps) = true ∧ ∀ w, Calm w0 w → Oper.quietUpon P (Calm w) w v ((execOp a.eval o).run P w)
  | .idle => Region.wanted o (yielded ops a.tmps) = false
  | .new z t kd => Region.wanted o (yielded ops a.tmps) = true ∧ ∀ w, (execOp a.eval o).run P w = .ok (.value (newOut w.heap.size kd)) (w.alloc (.cells z t))
  | .fill k cs => Region.wanted o (yielded ops a.tmps) = true ∧ o.dst = none ∧ o.after.any (fun e => Region.binds .any e && e.on == k) = true ∧ ∃ z t kd, p[k]? = some (.new z t kd) ∧
      ∀ w, w.heap[X k]? = some (.cells z t (0, 0)) → (execOp a.eval o).run P w = .ok .skip (w.setRow (X k) cs) ∨ (execOp a.eval o).run P w = .ok (.value undef) (w.setRow (X k) cs)
  | .look k v => Region.wanted o (yielded ops a.tmps) = true ∧ o.after.any (fun e => Region.binds .any e && e.on == k) = true ∧ ∃ z t kd, p[k]? = some (.new z t kd) ∧ noFillB p k = true ∧
      ∀ w, Calm w0 w → w.heap[X k]? = some (.cells z t (0, 0)) → Oper.quietUpon P (Calm w) w v ((execOp a.eval o).run P w)
def Plan (P : Program) (ops : Array Oper) (w0 : World) (X : Nat → Nat) (p : List Does) (R : Act → Prop) : Nat → List Oper → List Does → Act → Prop
 |_, [], [], a => R a
 |i, o :: os, d :: ds, a => d.fits P ops w0 X p o a ∧ Plan P ops w0 X p R (i + 1) os ds (a.put o.dst (d.out X i))
 |_, _, _, _ => False
def planB (ops : Array Oper) : Bool :=
  Region.noSelect ops && (List.range ops.size).all fun j => match ops[j]? with
    | none => true
    | some o => o.after.all (fun e => !Region.binds .any e || decide (e.on < j)) &&
        (List.range ops.size).all fun i => match ops[i]? with
          | none => true
          | some x => match x.dst with
            | none => true
            | some d => (!(o.looksAt ops).contains d || (decide (i < j) && o.after.any (fun e => Region.binds .any e && e.on == i))) && (i == j || o.dst != some d)
def rowNow (p : List Does) (listed : Array Bool) (k : Nat) (z : Array Value) : Array Value :=
 match (List.range p.length).findSome? (fun j => if listed.getD j false then (match p[j]? with | some (.fill m cs) => if m == k then some cs else none | _ => none) else none) with
 |some cs => cs
 |none => z
def fillsB (p : List Does) : Bool :=
 (List.range p.length).all fun i => (List.range p.length).all fun j => i == j || match p[i]?, p[j]? with
  |some (.fill m _), some (.fill n _) => m != n
  |_, _ => true
/-- Two frames that hold the same wherever an operation looks: it does the same. -/
theorem same_look {o : Oper} (hs : ∀ cs b, o.op ≠ .select cs b) {a b : Act} (h : ∀ t ∈ o.looksAt ops, a.tmps[t]? = b.tmps[t]?) :
    execOp a.eval o = execOp b.eval o ∧ Region.wanted o (yielded ops a.tmps) = Region.wanted o (yielded ops b.tmps) := by
  constructor
  · refine execOp_congr o hs fun x hx => ?_
    cases x with
    | tmp t =>
      have : t ∈ o.looksAt ops := List.mem_append_left _ (List.mem_filterMap.2 ⟨.tmp t, by simpa using hx, rfl⟩)
      have h1 := h t this
      simp [Act.eval, h1]
    | _ => rfl
  · unfold Region.wanted
    cases hg : o.guard with
    | none => rfl
    | some gw =>
      obtain ⟨g, want⟩ := gw
      have : yielded ops a.tmps g = yielded ops b.tmps g := by
        unfold yielded
        cases ht : (ops[g]?).bind (·.dst) with
        | none => rfl
        | some t =>
          have h1 := h t (by simp [Oper.looksAt, hg, ht])
          simp [h1]
      simp only [this]
theorem put_get (a : Act) (d : Option Tmp) (v : Value) (t : Nat) : (a.put d v).tmps[t]? = if d = some t ∧ t < a.tmps.size then some v else a.tmps[t]? := by
 cases d with
 |none => simp [Act.put]
 |some d =>
  simp only [Act.put, Array.getElem?_setIfInBounds, Option.some.injEq]
  by_cases h : d = t
  ·subst h
   by_cases h2 : d < a.tmps.size
   ·simp [h2]
   ·simp [h2]
  ·simp [h]
theorem put_size (a : Act) (d : Option Tmp) (v : Value) : (a.put d v).tmps.size = a.tmps.size := by cases d <;> simp [Act.put]
theorem put_def (a : Act) (d : Option Tmp) (v : Value) : (a.put d v).defers = a.defers := by cases d <;> simp [Act.put]
structure Agree (ops : Array Oper) (p : List Does) (a0 : Act) (X : Nat → Nat) (S : Nat → Prop) (a : Act) : Prop where
 defers : a.defers = a0.defers
 size : a.tmps.size = a0.tmps.size
 put : ∀ i o d t, ops[i]? = some o → p[i]? = some d → S i → o.dst = some t → t < a0.tmps.size → a.tmps[t]? = some (d.out X i)
 old : ∀ t, (∀ i o, ops[i]? = some o → S i → o.dst ≠ some t) → a.tmps[t]? = a0.tmps[t]?
structure Sound (ops : Array Oper) : Prop where
 noSelect : ∀ (j : Nat) (o : Oper) cs b, ops[j]? = some o → o.op ≠ .select cs b
 before : ∀ (j : Nat) (o : Oper) (e : Edge), ops[j]? = some o → e ∈ o.after → Region.binds .any e = true → e.on < j
 looks : ∀ (j i : Nat) (o x : Oper) (d : Tmp), ops[j]? = some o → ops[i]? = some x → x.dst = some d → d ∈ o.looksAt ops → i < j ∧ ∃ e ∈ o.after, Region.binds .any e = true ∧ e.on = i
 apart : ∀ (j i : Nat) (o x : Oper) (d : Tmp), ops[j]? = some o → ops[i]? = some x → x.dst = some d → o.dst = some d → i = j
theorem planB_sound (h : planB ops = true) : Sound ops := by
 simp only [planB, Bool.and_eq_true, List.all_eq_true, List.mem_range] at h
 obtain ⟨h1, h2⟩ := h
 have lt : ∀ {j : Nat} {o : Oper}, ops[j]? = some o → j < ops.size := fun ho => (Array.getElem?_eq_some_iff.1 ho).1
 refine ⟨fun j o cs b ho => Region.noSelect_spec h1 j o cs b ho, fun j o e ho he hb => ?_, fun j i o x d ho hx hd hl => ?_, fun j i o x d ho hx hd hod => ?_⟩
 ·have := h2 j (lt ho)
  simp only [ho, Bool.and_eq_true, Array.all_eq_true_iff_forall_mem] at this
  have h3 := this.1 e he
  simpa [hb] using h3
 ·have := h2 j (lt ho)
  simp only [ho, Bool.and_eq_true, List.all_eq_true, List.mem_range] at this
  have h3 := this.2 i (lt hx)
  simp only [hx, hd, Bool.and_eq_true] at h3
  have h4 := h3.1
  rw [List.contains_iff_mem.2 hl] at h4
  simp only [Bool.not_true, Bool.false_or, Bool.and_eq_true, decide_eq_true_eq] at h4
  obtain ⟨e, he, hb⟩ := Array.any_eq_true'.1 h4.2
  simp only [Bool.and_eq_true, beq_iff_eq] at hb
  exact ⟨h4.1, e, he, hb⟩
 ·have := h2 j (lt ho)
  simp only [ho, Bool.and_eq_true, List.all_eq_true, List.mem_range] at this
  have h3 := this.2 i (lt hx)
  simp only [hx, hd, Bool.and_eq_true] at h3
  have h4 := h3.2
  simpa [hod] using h4
/-- One operation more. -/
theorem Agree.step {p : List Does} {a0 : Act} {X : Nat → Nat} {S T : Nat → Prop} {a : Act} (hs : Sound ops) (h : Agree ops p a0 X S a) {j : Nat} {o : Oper} {d : Does} (ho : ops[j]? = some o) (hd : p[j]? = some d)
    (hT : ∀ i, T i ↔ (S i ∨ i = j)) : Agree ops p a0 X T (a.put o.dst (d.out X j)) := by
  refine ⟨by rw [put_def, h.defers], by rw [put_size, h.size], fun i oi di t hoi hdi hi ht hlt => ?_, fun t ht => ?_⟩
  · rw [put_get]
    rcases (hT i).1 hi with hi | rfl
    · by_cases hc : o.dst = some t ∧ t < a.tmps.size
      · rw [if_pos hc]
        obtain rfl := hs.apart j i o oi t ho hoi ht hc.1
        rw [hd] at hdi
        cases hdi
        rfl
      · rw [if_neg hc]
        exact h.put i oi di t hoi hdi hi ht hlt
    · rw [ho] at hoi; cases hoi
      rw [hd] at hdi; cases hdi
      rw [if_pos ⟨ht, by rw [h.size]; exact hlt⟩]
  · rw [put_get, if_neg (fun hc => ht j o ho ((hT j).2 (Or.inr rfl)) hc.1)]
    exact h.old t fun i oi hoi hi => ht i oi hoi ((hT i).2 (Or.inl hi))
/-- Off the plan: what each operation does in a frame of the text's order, and the frame at the end. -/
theorem plan_get {w0 : World} {X : Nat → Nat} {p : List Does} {a0 : Act} {R : Act → Prop} (hs : Sound ops) : ∀ (os : List Oper) (ds : List Does) (i : Nat) (a : Act), os = ops.toList.drop i → ds = p.drop i →
    Agree ops p a0 X (· < i) a → Plan P ops w0 X p R i os ds a →
    (∀ j o, i ≤ j → ops[j]? = some o → ∃ d b, p[j]? = some d ∧ Agree ops p a0 X (· < j) b ∧ d.fits P ops w0 X p o b) ∧ (∃ b, Agree ops p a0 X (· < ops.size) b ∧ R b) ∧ (i ≤ ops.size → i ≤ p.length → p.length = ops.size)
  | [], [], i, a, hos, hds, ha, h => by
    have hl : ops.size ≤ i := by have := congrArg List.length hos; simp at this; omega
    refine ⟨fun j o hj hoj => ?_, ⟨a, ⟨ha.defers, ha.size, fun k o d t ho hd hk ht hlt => ha.put k o d t ho hd (by omega) ht hlt, fun t ht => ha.old t fun k o ho hk => ht k o ho ?_⟩, h⟩, fun hi hi2 => ?_⟩
    · have := (Array.getElem?_eq_some_iff.1 hoj).1; omega
    · exact (Array.getElem?_eq_some_iff.1 ho).1
    · have := congrArg List.length hds; simp at this; omega
  | [], d :: ds, i, a, _, _, _, h => absurd h (by simp [Plan])
  | o :: os, [], i, a, _, _, _, h => absurd h (by simp [Plan])
  | o :: os, d :: ds, i, a, hos, hds, ha, h => by
    have hlen : i < ops.size := by have := congrArg List.length hos; simp at this; omega
    have ho : ops[i]? = some o := by
      have := congrArg (·[0]?) hos
      simpa using this.symm
    have hd : p[i]? = some d := by
      have := congrArg (·[0]?) hds
      simpa using this.symm
    have hos' : os = ops.toList.drop (i + 1) := by rw [← List.tail_drop, ← hos]; rfl
    have hds' : ds = p.drop (i + 1) := by rw [← List.tail_drop, ← hds]; rfl
    obtain ⟨h1, h2⟩ := h
    have hplen : i < p.length := by have := congrArg List.length hds; simp at this; omega
    obtain ⟨g1, g2, g3⟩ := plan_get hs os ds (i + 1) (a.put o.dst (d.out X i)) hos' hds' (ha.step hs ho hd (fun k => by omega)) h2
    refine ⟨fun j oj hj hoj => ?_, g2, fun _ _ => g3 (by omega) (by omega)⟩
    rcases Nat.eq_or_lt_of_le hj with rfl | hj
    · rw [ho] at hoj; cases hoj
      exact ⟨d, a, hd, ha, h1⟩
    · exact g1 j oj hj hoj
theorem rowNow_same {p : List Does} {listed : Array Bool} {j k : Nat} {z : Array Value} (h : ∀ m cs, p[j]? = some (.fill m cs) → m ≠ k) : rowNow p (listed.setIfInBounds j true) k z = rowNow p listed k z := by
 unfold rowNow
 have : (fun i => if (listed.setIfInBounds j true).getD i false then (match p[i]? with | some (Does.fill m cs) => if m == k then some cs else none | _ => none) else none) = (fun i => if listed.getD i false then (match p[i]? with | some (Does.fill m cs) => if m == k then some cs else none | _ => none) else none) := by
  funext i
  by_cases hij : j = i
  ·subst hij
   have hn : (match p[j]? with | some (Does.fill m cs) => if m == k then some cs else none | _ => none) = none := by
    cases hp : p[j]? with
    |none => rfl
    |some d =>
     cases d with
     |fill m cs => simp [h m cs hp]
     |_ => rfl
   simp only [hn, ite_self]
  ·rw [getD_set_ne false hij]
 rw [this]
theorem fillsB_spec {p : List Does} (h : fillsB p = true) {i j m : Nat} {cs cs' : Array Value} (hi : p[i]? = some (.fill m cs)) (hj : p[j]? = some (.fill m cs')) : i = j := by
 simp only [fillsB, List.all_eq_true, List.mem_range] at h
 have := h i (List.getElem?_eq_some_iff.1 hi).1 j (List.getElem?_eq_some_iff.1 hj).1
 simpa [hi, hj] using this
theorem rowNow_fill {p : List Does} (h : fillsB p = true) {listed : Array Bool} {j k : Nat} {z cs : Array Value} (hj : p[j]? = some (.fill k cs)) (hl : listed.getD j false = true) : rowNow p listed k z = cs := by
 unfold rowNow
 have hjl : j < p.length := (List.getElem?_eq_some_iff.1 hj).1
 have hsome : ((List.range p.length).findSome? (fun j => if listed.getD j false then (match p[j]? with | some (Does.fill m cs) => if m == k then some cs else none | _ => none) else none)).isSome = true := by
  rw [List.findSome?_isSome_iff]
  exact ⟨j, List.mem_range.2 hjl, by simp only [hl, if_true, hj]; simp⟩
 cases hf : (List.range p.length).findSome? (fun j => if listed.getD j false then (match p[j]? with | some (Does.fill m cs) => if m == k then some cs else none | _ => none) else none) with
 |none => rw [hf] at hsome; cases hsome
 |some c =>
  obtain ⟨i, hi, he⟩ := List.exists_of_findSome?_eq_some hf
  simp only
  split at he
  ·split at he
   ·rename_i m c' hp
    split at he
    ·rename_i hm
     cases he
     have hm' : m = k := by simpa using hm
     subst hm'
     obtain rfl := fillsB_spec h hj hp
     rw [hj] at hp
     cases hp
     rfl
    ·cases he
   ·cases he
  ·cases he
theorem rowNow_none {p : List Does} {listed : Array Bool} {k : Nat} {z : Array Value} (h : ∀ j cs, p[j]? = some (.fill k cs) → listed.getD j false = false) : rowNow p listed k z = z := by
 unfold rowNow
 cases hf : (List.range p.length).findSome? (fun j => if listed.getD j false then (match p[j]? with | some (Does.fill m cs) => if m == k then some cs else none | _ => none) else none) with
 |none => rfl
 |some c =>
  obtain ⟨i, hi, he⟩ := List.exists_of_findSome?_eq_some hf
  split at he
  ·rename_i hl
   split at he
   ·rename_i m c' hp
    split at he
    ·rename_i hm
     have hm' : m = k := by simpa using hm
     subst hm'
     rw [h i c' hp] at hl
     cases hl
    ·cases he
   ·cases he
  ·cases he
structure Rows0 (p : List Does) (w0 : World) (X : Nat → Nat) (listed : Array Bool) (w : World) : Prop where
 calm : Calm w0 w
 row : ∀ i z t {kd}, p[i]? = some (.new z t kd) → listed.getD i false = true → w0.heap.size ≤ X i ∧ w.heap[X i]? = some (.cells (rowNow p listed i z) t (0, 0))
 apart : ∀ i j z t z' t' {kd kd'}, p[i]? = some (.new z t kd) → p[j]? = some (.new z' t' kd') → listed.getD i false = true → listed.getD j false = true → i ≠ j → X i ≠ X j
structure Inv (ops : Array Oper) (p : List Does) (a0 : Act) (w0 : World) (X : Nat → Nat) (listed : Array Bool) (a : Act) (w : World) : Prop where
 size : listed.size = ops.size
 act : Agree ops p a0 X (fun i => listed.getD i false = true) a
 rows : Rows0 p w0 X listed w
 down : ∀ i o e, ops[i]? = some o → listed.getD i false = true → e ∈ o.after → Region.binds .any e = true → listed.getD e.on false = true
theorem getD_set_iff {listed : Array Bool} {i j : Nat} (hi : i < listed.size) : (listed.setIfInBounds i true).getD j false = true ↔ (listed.getD j false = true ∨ j = i) := by
 by_cases h : i = j
 ·subst h; simp [hi]
 ·rw [getD_set_ne false h]
  exact ⟨Or.inl, fun h' => h'.resolve_right (fun e => h e.symm)⟩
theorem Inv.step {p : List Does} {a0 : Act} {w0 : World} {R : (Nat → Nat) → Act → Prop} {Q : Exit → Act → World → Prop} (hs : Sound ops) (hf : fillsB p = true)
    (hp : ∀ X, Plan P ops w0 X p (R X) 0 ops.toList p a0) {X : Nat → Nat} {listed : Array Bool} {a : Act} {w : World} {j : Nat} (h : Inv ops p a0 w0 X listed a w) (hj : j ∈ Region.ready .any ops listed) :
    wpOp P ops Q j (fun a' w' => ∃ X', Inv ops p a0 w0 X' (listed.setIfInBounds j true) a' w') a w := by
  obtain ⟨hun, o, ho, hall⟩ := mem_ready.1 hj
  have hjs : j < listed.size := by rw [h.size]; exact (Array.getElem?_eq_some_iff.1 ho).1
  have hnl : listed.getD j false = false := by
    rw [Array.getD_eq_getD_getElem?] at hun ⊢
    rw [Array.getElem?_eq_getElem hjs] at hun ⊢
    simpa using hun
  obtain ⟨g1, _, g3⟩ := plan_get (X := X) hs ops.toList p 0 a0 rfl rfl ⟨rfl, rfl, fun i o d t _ _ hi => absurd hi (Nat.not_lt_zero _), fun t _ => rfl⟩ (hp X)
  obtain ⟨d, b, hd, hb, hfit⟩ := g1 j o (Nat.zero_le _) ho
  have hlook : ∀ t ∈ o.looksAt ops, a.tmps[t]? = b.tmps[t]? := fun t ht => by
    by_cases hw : ∃ (i : Nat) (x : Oper), ops[i]? = some x ∧ x.dst = some t
    · obtain ⟨i, x, hx, hxt⟩ := hw
      obtain ⟨hij, e, he, hbe, rfl⟩ := hs.looks j i o x t ho hx hxt ht
      have hli := hall e he hbe
      have hpi : ∃ di, p[e.on]? = some di := by
        have := g3 (Nat.zero_le _) (Nat.zero_le _)
        have hlt : e.on < p.length := by rw [this]; exact (Array.getElem?_eq_some_iff.1 hx).1
        exact ⟨p[e.on], List.getElem?_eq_getElem hlt⟩
      obtain ⟨di, hdi⟩ := hpi
      by_cases hlt : t < a0.tmps.size
      · rw [h.act.put e.on x di t hx hdi hli hxt hlt, hb.put e.on x di t hx hdi hij hxt hlt]
      · have e1 : a.tmps[t]? = none := Array.getElem?_eq_none (by rw [h.act.size]; exact Nat.le_of_not_lt hlt)
        have e2 : b.tmps[t]? = none := Array.getElem?_eq_none (by rw [hb.size]; exact Nat.le_of_not_lt hlt)
        rw [e1, e2]
    · have hno : ∀ (i : Nat) (x : Oper), ops[i]? = some x → x.dst ≠ some t := fun i x hx hxt => hw ⟨i, x, hx, hxt⟩
      rw [h.act.old t fun i x hx _ => hno i x hx, hb.old t fun i x hx _ => hno i x hx]
  obtain ⟨hex, hwant⟩ := same_look (hs.noSelect j o · · ho) hlook
  have hdown : ∀ i o' e, ops[i]? = some o' → (listed.setIfInBounds j true).getD i false = true → e ∈ o'.after → Region.binds .any e = true → (listed.setIfInBounds j true).getD e.on false = true := fun i o' e ho' hi he hbe => by
    rcases (getD_set_iff hjs).1 hi with hi | rfl
    · exact getD_set_true (h.down i o' e ho' hi he hbe)
    · rw [ho] at ho'; cases ho'
      exact getD_set_true (hall e he hbe)
  have hact : ∀ Y : Nat → Nat, (∀ i, i ≠ j → Y i = X i) → Agree ops p a0 Y (fun i => (listed.setIfInBounds j true).getD i false = true) (a.put o.dst (d.out Y j)) := fun Y hY => by
    have ha : Agree ops p a0 Y (fun i => listed.getD i false = true) a := ⟨h.act.defers, h.act.size, fun i oi di t hoi hdi hi ht hlt => by
      have hij : i ≠ j := fun e => by subst e; rw [hnl] at hi; cases hi
      rw [h.act.put i oi di t hoi hdi hi ht hlt]
      cases di <;> simp [Does.out, hY i hij], h.act.old⟩
    exact ha.step hs ho hd fun i => getD_set_iff hjs
  have rowsSame : ∀ w', Calm w w' → (∀ z t kd, d ≠ .new z t kd) → (∀ k cs, d ≠ .fill k cs) → Rows0 p w0 X (listed.setIfInBounds j true) w' := fun w' hw' hdn hdf => by
    have hne : ∀ i z t kd, p[i]? = some (.new z t kd) → (listed.setIfInBounds j true).getD i false = true → listed.getD i false = true := fun i z t kd hi hl => by
      rcases (getD_set_iff hjs).1 hl with hl | rfl
      · exact hl
      · rw [hd] at hi; cases hi; exact absurd rfl (hdn z t kd)
    refine ⟨h.rows.calm.call hw', fun i z t kd hi hl => ?_, fun i k z t z' t' kd kd' hi hk hl hl' hik => h.rows.apart i k z t z' t' hi hk (hne i z t kd hi hl) (hne k z' t' kd' hk hl') hik⟩
    obtain ⟨r1, r2⟩ := h.rows.row i z t hi (hne i z t kd hi hl)
    refine ⟨r1, ?_⟩
    rw [rowNow_same fun m cs hm => by rw [hd] at hm; cases hm; exact absurd rfl (hdf m cs)]
    rw [hw'.block (Array.getElem?_eq_some_iff.1 r2).1, r2]
  unfold wpOp
  simp only [ho]
  cases d with
  | val v =>
    obtain ⟨f1, f2⟩ := hfit
    rw [hwant, f1, if_pos rfl]
    left
    unfold Oper.wp
    rw [hex]
    have f3 := f2 w h.rows.calm
    have fin : ∀ w', Calm w w' → ∃ X', Inv ops p a0 w0 X' (listed.setIfInBounds j true) (a.put o.dst v) w' := fun w' hw' =>
      ⟨X, by simp [h.size], hact X fun _ _ => rfl, rowsSame w' hw' (fun _ _ _ e => by cases e) (fun _ _ e => by cases e), hdown⟩
    generalize (execOp b.eval o).run P w = r at *
    cases r with
    | ok n w' =>
      cases n <;> simp only [Oper.quietUpon] at f3 <;> simp only [Oper.upon]
      case value u => obtain ⟨e1, e2⟩ := f3; rw [e1, e2]; exact fin w (Calm.refl w)
      case skip => obtain ⟨e1, e2⟩ := f3; rw [e1, ← e2]; exact fin w (Calm.refl w)
      case enter f args =>
        obtain ⟨e1, hc⟩ := f3
        rw [e1]
        exact hc.mono fun e w'' ⟨he, hw''⟩ => by subst he; exact fin w'' hw''
    | halt x w' => simp only [Oper.quietUpon] at f3
  | look k v =>
    obtain ⟨f1, f3, z, t, kd, hk, hnf, f2⟩ := hfit
    rw [hwant, f1, if_pos rfl]
    left
    obtain ⟨e, he, hbe⟩ := Array.any_eq_true'.1 f3
    simp only [Bool.and_eq_true, beq_iff_eq] at hbe
    have hlk : listed.getD k false = true := by rw [← hbe.2]; exact hall e he hbe.1
    obtain ⟨r1, r2⟩ := h.rows.row k z t hk hlk
    rw [rowNow_none fun m cs' hm => absurd hm (noFillB_spec hnf)] at r2
    unfold Oper.wp
    rw [hex]
    have f4 := f2 w h.rows.calm r2
    have fin : ∀ w', Calm w w' → ∃ X', Inv ops p a0 w0 X' (listed.setIfInBounds j true) (a.put o.dst v) w' := fun w' hw' =>
      ⟨X, by simp [h.size], hact X fun _ _ => rfl, rowsSame w' hw' (fun _ _ _ e => by cases e) (fun _ _ e => by cases e), hdown⟩
    generalize (execOp b.eval o).run P w = r at *
    cases r with
    | ok n w' =>
      cases n <;> simp only [Oper.quietUpon] at f4 <;> simp only [Oper.upon]
      case value u => obtain ⟨e1, e2⟩ := f4; rw [e1, e2]; exact fin w (Calm.refl w)
      case skip => obtain ⟨e1, e2⟩ := f4; rw [e1, ← e2]; exact fin w (Calm.refl w)
      case enter f args =>
        obtain ⟨e1, hc⟩ := f4
        rw [e1]
        exact hc.mono fun e w'' ⟨he, hw''⟩ => by subst he; exact fin w'' hw''
    | halt x w' => simp only [Oper.quietUpon] at f4
  | idle =>
    have f1 : Region.wanted o (yielded ops b.tmps) = false := hfit
    rw [hwant, f1, if_neg (by simp)]
    exact ⟨X, by simp [h.size], hact X fun _ _ => rfl, rowsSame w (Calm.refl w) (fun _ _ _ e => by cases e) (fun _ _ e => by cases e), hdown⟩
  | new z t kd =>
    obtain ⟨f1, f2⟩ := hfit
    rw [hwant, f1, if_pos rfl]
    left
    unfold Oper.wp
    rw [hex, f2 w]
    simp only [Oper.upon]
    let Y : Nat → Nat := fun i => if i = j then w.heap.size else X i
    have hYj : Y j = w.heap.size := by simp [Y]
    have hY : ∀ i, i ≠ j → Y i = X i := fun i hi => by simp [Y, hi]
    have ha := hact Y hY
    simp only [Does.out, hYj] at ha
    have hcw := h.rows.calm
    refine ⟨Y, by simp [h.size], ha, ⟨hcw.alloc _, fun i z' t' _ hi hl => ?_, fun i k z1 t1 z2 t2 _ _ hi hk hl hl' hik => ?_⟩, hdown⟩
    · rcases (getD_set_iff hjs).1 hl with hl1 | rfl
      · have hij : i ≠ j := fun e => by subst e; rw [hnl] at hl1; cases hl1
        obtain ⟨r1, r2⟩ := h.rows.row i z' t' hi hl1
        rw [hY i hij, rowNow_same fun m cs hm => by rw [hd] at hm; cases hm]
        exact ⟨r1, by rw [Below.heap_alloc _ _ _ (Array.getElem?_eq_some_iff.1 r2).1, r2]⟩
      · rw [hd] at hi; cases hi
        refine ⟨by rw [hYj]; exact hcw.size, ?_⟩
        rw [hYj, rowNow_none]
        · show (w.heap.push _)[w.heap.size]? = _
          simp
        · intro m cs hm
          cases hl2 : (listed.setIfInBounds i true).getD m false with
          | false => rfl
          | true =>
            have hlt : m < ops.size := by
              have := g3 (Nat.zero_le _) (Nat.zero_le _)
              rw [← this]; exact (List.getElem?_eq_some_iff.1 hm).1
            obtain ⟨dm, bm, hdm, _, hfm⟩ := g1 m ops[m] (Nat.zero_le _) (Array.getElem?_eq_getElem hlt)
            rw [hm] at hdm; cases hdm
            obtain ⟨_, _, haf, _⟩ := hfm
            obtain ⟨e, he, hbe⟩ := Array.any_eq_true'.1 haf
            simp only [Bool.and_eq_true, beq_iff_eq] at hbe
            have hmi : m ≠ i := fun e' => by subst e'; rw [hd] at hm; cases hm
            have hlm : listed.getD m false = true := ((getD_set_iff hjs).1 hl2).resolve_right hmi
            have := h.down m ops[m] e (Array.getElem?_eq_getElem hlt) hlm he hbe.1
            rw [hbe.2, hnl] at this
            cases this
    · have key : ∀ i z t kd, p[i]? = some (.new z t kd) → listed.getD i false = true → X i < w.heap.size := fun i z t _ hi hl => (Array.getElem?_eq_some_iff.1 (h.rows.row i z t hi hl).2).1
      rcases (getD_set_iff hjs).1 hl with hl1 | rfl
      · have hij : i ≠ j := fun e => by subst e; rw [hnl] at hl1; cases hl1
        rcases (getD_set_iff hjs).1 hl' with hl2 | rfl
        · have hkj : k ≠ j := fun e => by subst e; rw [hnl] at hl2; cases hl2
          rw [hY i hij, hY k hkj]
          exact h.rows.apart i k z1 t1 z2 t2 hi hk hl1 hl2 hik
        · rw [hY i hij, hYj]
          have := key i z1 t1 _ hi hl1
          omega
      · rcases (getD_set_iff hjs).1 hl' with hl2 | rfl
        · have hkj : k ≠ i := Ne.symm hik
          rw [hYj, hY k hkj]
          have := key k z2 t2 _ hk hl2
          omega
        · exact absurd rfl hik
  | fill k cs =>
    obtain ⟨f1, f0, f3, z, t, kd, hk, f2⟩ := hfit
    rw [hwant, f1, if_pos rfl]
    left
    obtain ⟨e, he, hbe⟩ := Array.any_eq_true'.1 f3
    simp only [Bool.and_eq_true, beq_iff_eq] at hbe
    have hlk : listed.getD k false = true := by rw [← hbe.2]; exact hall e he hbe.1
    obtain ⟨r1, r2⟩ := h.rows.row k z t hk hlk
    rw [rowNow_none fun m cs' hm => by
      cases hl2 : listed.getD m false with
      | false => rfl
      | true => rw [fillsB_spec hf hm hd] at hl2; rw [hnl] at hl2; cases hl2] at r2
    have fin : ∃ X', Inv ops p a0 w0 X' (listed.setIfInBounds j true) (a.put o.dst undef) (w.setRow (X k) cs) := by
      have hlist : ∀ i z t kd, p[i]? = some (.new z t kd) → (listed.setIfInBounds j true).getD i false = true → listed.getD i false = true := fun i z t kd hi hl => by
        rcases (getD_set_iff hjs).1 hl with hl | rfl
        · exact hl
        · rw [hd] at hi; cases hi
      refine ⟨X, by simp [h.size], hact X fun _ _ => rfl, ⟨h.rows.calm.setRow r1 cs, fun i z' t' _ hi hl => ?_, fun i k z t z' t' _ _ hi hk hl hl' hik => h.rows.apart i k z t z' t' hi hk (hlist i z t _ hi hl) (hlist k z' t' _ hk hl') hik⟩, hdown⟩
      obtain ⟨q1, q2⟩ := h.rows.row i z' t' hi (hlist i z' t' _ hi hl)
      refine ⟨q1, ?_⟩
      by_cases hik : i = k
      · subst hik
        rw [hk] at hi; cases hi
        rw [rowNow_fill hf hd (by simp [hjs]), setRow_heap w (X i) _ cs t (0, 0) r2]
      · rw [setRow_other w _ _ cs (h.rows.apart i k z' t' z t hi hk (hlist i z' t' _ hi hl) hlk hik)]
        rw [rowNow_same fun m cs' hm => by rw [hd] at hm; cases hm; exact fun e => hik e.symm]
        exact q2
    unfold Oper.wp
    rw [hex]
    rcases f2 w r2 with f2 | f2 <;> rw [f2] <;> simp only [Oper.upon] <;> exact fin
theorem all_listed (hs : Sound ops) {listed : Array Bool} (h : Region.ready .any ops listed = []) : ∀ (n i : Nat), i ≤ n → i < ops.size → listed.size = ops.size → listed.getD i false = true := by
 intro n
 induction n with
 |zero =>
  intro i hi hlt hsz
  cases hl : listed.getD i false with
  |true => rfl
  |false =>
   have : i ∈ Region.ready .any ops listed := mem_ready.2 ⟨by
    have : i < listed.size := by omega
    simpa [this] using hl, ops[i], Array.getElem?_eq_getElem hlt, fun e he hb => by
     have := hs.before i ops[i] e (Array.getElem?_eq_getElem hlt) he hb
     omega⟩
   rw [h] at this
   cases this
 |succ n ih =>
  intro i hi hlt hsz
  cases hl : listed.getD i false with
  |true => rfl
  |false =>
   have : i ∈ Region.ready .any ops listed := mem_ready.2 ⟨by
    have : i < listed.size := by omega
    simpa [this] using hl, ops[i], Array.getElem?_eq_getElem hlt, fun e he hb => by
     have := hs.before i ops[i] e (Array.getElem?_eq_getElem hlt) he hb
     exact ih e.on (by omega) (by omega) hsz⟩
   rw [h] at this
   cases this
theorem Agree.same {p : List Does} {a0 : Act} {X : Nat → Nat} {S T : Nat → Prop} {a b : Act} (hST : ∀ i, i < ops.size → (S i ∧ T i)) (hp : ops.size ≤ p.length) (ha : Agree ops p a0 X S a) (hb : Agree ops p a0 X T b) : a = b := by
 cases a with
 |mk ta da =>
 cases b with
 |mk tb db =>
 have h1 : da = db := by have := ha.defers; have := hb.defers; simp_all
 have h2 : ta = tb := by
  apply Array.ext_getElem?
  intro t
  by_cases hw : ∃ (i : Nat) (x : Oper), ops[i]? = some x ∧ x.dst = some t
  ·obtain ⟨i, x, hx, hxt⟩ := hw
   have hi : i < ops.size := (Array.getElem?_eq_some_iff.1 hx).1
   by_cases hlt : t < a0.tmps.size
   ·have e1 := ha.put i x p[i] t hx (List.getElem?_eq_getElem (by omega)) (hST i hi).1 hxt hlt
    have e2 := hb.put i x p[i] t hx (List.getElem?_eq_getElem (by omega)) (hST i hi).2 hxt hlt
    exact e1.trans e2.symm
   ·have s1 := ha.size
    have s2 := hb.size
    simp only at s1 s2
    have e1 : ta[t]? = none := Array.getElem?_eq_none (by omega)
    have e2 : tb[t]? = none := Array.getElem?_eq_none (by omega)
    rw [e1, e2]
  ·have hno : ∀ (i : Nat) (x : Oper), ops[i]? = some x → x.dst ≠ some t := fun i x hx hxt => hw ⟨i, x, hx, hxt⟩
   have e1 := ha.old t fun i x hx _ => hno i x hx
   have e2 := hb.old t fun i x hx _ => hno i x hx
   exact e1.trans e2.symm
 rw [h1, h2]
def rowEnd (p : List Does) (i : Nat) (z : Array Value) : Array Value :=
 match (List.range p.length).findSome? (fun j => match p[j]? with | some (Does.fill m cs) => if m == i then some cs else none | _ => none) with
 |some cs => cs
 |none => z
structure Behind (p : List Does) (w0 : World) (X : Nat → Nat) (w : World) : Prop where
 calm : Calm w0 w
 row : ∀ i z t {kd}, p[i]? = some (.new z t kd) → w0.heap.size ≤ X i ∧ w.heap[X i]? = some (.cells (rowEnd p i z) t (0, 0))
 apart : ∀ i j z t z' t' {kd kd'}, p[i]? = some (.new z t kd) → p[j]? = some (.new z' t' kd') → i ≠ j → X i ≠ X j
theorem rowNow_end {p : List Does} {listed : Array Bool} (h : ∀ i, i < p.length → listed.getD i false = true) (i : Nat) (z : Array Value) : rowNow p listed i z = rowEnd p i z := by
 have key : ∀ l : List Nat, (∀ j, j ∈ l → j < p.length) → l.findSome? (fun j => if listed.getD j false then (match p[j]? with | some (Does.fill m cs) => if m == i then some cs else none | _ => none) else none) = l.findSome? (fun j => match p[j]? with | some (Does.fill m cs) => if m == i then some cs else none | _ => none) := by
  intro l
  induction l with
  |nil => intro _; rfl
  |cons j l ih =>
   intro hl
   simp only [List.findSome?_cons, h j (hl j (by simp)), if_true]
   rw [ih fun k hk => hl k (by simp [hk])]
 unfold rowNow rowEnd
 rw [key _ fun j hj => List.mem_range.1 hj]
/-- A REGION THAT DRAWS ITS ORDER, BY A PLAN: one walk in the text's order serves every order. -/
theorem wp_region_plan {id : Nat} {Q : Exit → Act → World → Prop} {a0 : Act} {w0 : World} {l : List Oper} (p : List Does) (hm : P.follows .mixedOrders = true) (hB : planB l.toArray = true) (hf : fillsB p = true)
    (hp : ∀ X : Nat → Nat, Plan P l.toArray w0.drew X p (fun a => ∀ w', Behind p w0.drew X w' → Q .normal a w') 0 l p a0) : (Code.region id l.toArray true).wp P Q a0 w0 := by
  have hs := planB_sound hB
  refine wp_region_any hm (wpAny_inv (fun listed a w => ∃ X, Inv l.toArray p a0 w0.drew X listed a w) (fun listed a w j h hj => ?_) (fun listed a w h h0 => ?_) _ _ _ _ (by simp [unlisted, List.countP_replicate]) ⟨fun _ => 0, by simp, ?_, ⟨Calm.refl _, ?_, ?_⟩, ?_⟩)
  · obtain ⟨X, h⟩ := h
    exact Inv.step hs hf hp h hj
  · obtain ⟨X, h⟩ := h
    have hall := fun i (hi : i < l.toArray.size) => all_listed hs h0 i i (Nat.le_refl _) hi h.size
    obtain ⟨_, ⟨b, hb, hR⟩, g3⟩ := plan_get (X := X) hs l p 0 a0 rfl rfl ⟨rfl, rfl, fun i o d t _ _ hi => absurd hi (Nat.not_lt_zero _), fun t _ => rfl⟩ (hp X)
    have hlen := g3 (Nat.zero_le _) (Nat.zero_le _)
    obtain rfl := Agree.same (fun i hi => ⟨hall i hi, hi⟩) (by omega) h.act hb
    refine hR w ⟨h.rows.calm, fun i z t _ hi => ?_, fun i j z t z' t' _ _ hi hj hij => ?_⟩
    · have hlt : i < l.toArray.size := by rw [← hlen]; exact (List.getElem?_eq_some_iff.1 hi).1
      have := h.rows.row i z t hi (hall i hlt)
      rw [rowNow_end (fun k hk => hall k (by omega))] at this
      exact this
    · have hlt : i < l.toArray.size := by rw [← hlen]; exact (List.getElem?_eq_some_iff.1 hi).1
      have hlt' : j < l.toArray.size := by rw [← hlen]; exact (List.getElem?_eq_some_iff.1 hj).1
      exact h.rows.apart i j z t z' t' hi hj (hall i hlt) (hall j hlt') hij
  · refine ⟨rfl, rfl, fun i o d t _ _ hi => ?_, fun _ _ => rfl⟩
    simp [Array.getElem?_replicate] at hi
    split at hi <;> simp at hi
  · intro i z t _ _ hi
    simp [Array.getElem?_replicate] at hi
    split at hi <;> simp at hi
  · intro i j z t z' t' _ _ _ _ hi
    simp [Array.getElem?_replicate] at hi
    split at hi <;> simp at hi
  · intro i o e _ hi
    simp [Array.getElem?_replicate] at hi
    split at hi <;> simp at hi
def headListed (m n : Nat) : Array Bool := Array.ofFn fun i : Fin m => decide (i.1 < n)
def guardsB (ops : Array Oper) (n : Nat) : Bool :=
 (List.range n).all fun j => match ops[j]? with
  |some o => (match o.guard with | some (g, _) => decide (g < n) | none => true)
  |none => true
def tailB (ops : Array Oper) (n : Nat) : Bool :=
 decide (n < ops.size) && Region.sinkB .any ops n && Region.chainB .any ops n && guardsB ops n && Region.seqB .any ops (ops.size - n) n (headListed ops.size n) && unlisted (headListed ops.size n) == ops.size - n
theorem Inv.done {p : List Does} {a0 : Act} {w0 : World} {R : Act → Prop} (hs : Sound ops) {X : Nat → Nat} (hp : Plan P ops w0 X p R 0 ops.toList p a0) {listed : Array Bool} {a : Act} {w : World} (h : Inv ops p a0 w0 X listed a w)
    (hall : ∀ i, i < ops.size → listed.getD i false = true) : R a ∧ Behind p w0 X w := by
  obtain ⟨_, ⟨b, hb, hR⟩, g3⟩ := plan_get (X := X) hs ops.toList p 0 a0 rfl rfl ⟨rfl, rfl, fun i o d t _ _ hi => absurd hi (Nat.not_lt_zero _), fun t _ => rfl⟩ hp
  have hlen := g3 (Nat.zero_le _) (Nat.zero_le _)
  obtain rfl := Agree.same (fun i hi => ⟨hall i hi, hi⟩) (by omega) h.act hb
  refine ⟨hR, h.rows.calm, fun i z t _ hi => ?_, fun i j z t z' t' _ _ hi hj hij => ?_⟩
  · have hlt : i < ops.size := by rw [← hlen]; exact (List.getElem?_eq_some_iff.1 hi).1
    have := h.rows.row i z t hi (hall i hlt)
    rw [rowNow_end (fun k hk => hall k (by omega))] at this
    exact this
  · have hlt : i < ops.size := by rw [← hlen]; exact (List.getElem?_eq_some_iff.1 hi).1
    have hlt' : j < ops.size := by rw [← hlen]; exact (List.getElem?_eq_some_iff.1 hj).1
    exact h.rows.apart i j z t z' t' hi hj (hall i hlt) (hall j hlt') hij
section
variable {l : List Oper} {n : Nat}
theorem pre_get (_hn : n < l.length) {j : Nat} (hj : j < n) : (l.take n).toArray[j]? = l.toArray[j]? := by simp [hj]
theorem getD_pre {listed : Array Bool} (hs : n ≤ listed.size) {j : Nat} (hj : j < n) (d : Bool) : (listed.extract 0 n).getD j d = listed.getD j d := by
 rw [Array.getD_eq_getD_getElem?, Array.getD_eq_getD_getElem?, Array.getElem?_extract]
 rw [if_pos (by omega)]
 simp
theorem wanted_pre (hn : n < l.length) (hg : guardsB l.toArray n = true) {j : Nat} {o : Oper} (hj : j < n) (ho : l.toArray[j]? = some o) (tmps : Array Value) : Region.wanted o (yielded (l.take n).toArray tmps) = Region.wanted o (yielded l.toArray tmps) := by
 unfold Region.wanted
 cases hgd : o.guard with
 |none => rfl
 |some gw =>
  obtain ⟨g, want⟩ := gw
  have h1 := List.all_eq_true.1 hg j (List.mem_range.2 hj)
  rw [ho] at h1
  simp only [hgd, decide_eq_true_eq] at h1
  have : yielded (l.take n).toArray tmps g = yielded l.toArray tmps g := by
   unfold yielded
   rw [pre_get hn h1]
  simp only [this]
theorem wpOp_pre {Q : Exit → Act → World → Prop} (hn : n < l.length) (hg : guardsB l.toArray n = true) {j : Nat} (hj : j < n) {K : Act → World → Prop} {a : Act} {w : World} (h : wpOp P (l.take n).toArray Q j K a w) : wpOp P l.toArray Q j K a w := by
 unfold wpOp at h ⊢
 rw [pre_get hn hj] at h
 cases ho : l.toArray[j]? with
 |none => rw [ho] at h; exact h
 |some o =>
  rw [ho] at h
  simp only at h ⊢
  rw [wanted_pre hn hg hj ho] at h
  exact h
theorem ready_pre (hn : n < l.length) {listed : Array Bool} (hsz : listed.size = l.toArray.size) {j : Nat} (hj : j < n) (hs : Sound (l.take n).toArray) : j ∈ Region.ready .any l.toArray listed ↔ j ∈ Region.ready .any (l.take n).toArray (listed.extract 0 n) := by
 have hle : n ≤ listed.size := by rw [hsz]; simp; omega
 rw [mem_ready, mem_ready, getD_pre hle hj, pre_get hn hj]
 constructor
 ·rintro ⟨h1, o, ho, h2⟩
  refine ⟨h1, o, ho, fun e he hb => ?_⟩
  have := hs.before j o e (by rw [pre_get hn hj]; exact ho) he hb
  rw [getD_pre hle (by omega)]
  exact h2 e he hb
 ·rintro ⟨h1, o, ho, h2⟩
  refine ⟨h1, o, ho, fun e he hb => ?_⟩
  have := hs.before j o e (by rw [pre_get hn hj]; exact ho) he hb
  rw [← getD_pre hle (by omega)]
  exact h2 e he hb
theorem wpAny_tail {Q : Exit → Act → World → Prop} {p : List Does} {a0 : Act} {w0 : World} (hs : Sound (l.take n).toArray) (hf : fillsB p = true) (hT : tailB l.toArray n = true)
    (hp : ∀ X : Nat → Nat, Plan P (l.take n).toArray w0 X p (fun a => ∀ w', Behind p w0 X w' → wpList P l.toArray Q (l.drop n) a w') 0 (l.take n) p a0) :
    ∀ (fuel : Nat) (listed : Array Bool) (a : Act) (w : World), unlisted listed = fuel → HeadInv .any l.toArray n listed → (∃ X, Inv (l.take n).toArray p a0 w0 X (listed.extract 0 n) a w) → wpAny P .any l.toArray Q fuel listed a w := by
  simp only [tailB, Bool.and_eq_true, decide_eq_true_eq, beq_iff_eq] at hT
  obtain ⟨⟨⟨⟨⟨hn0, hsink⟩, hchain⟩, hg⟩, hseq⟩, hcount⟩ := hT
  have hn : n < l.length := by simpa using hn0
  have hpre : (l.take n).toArray.size = n := by simp; omega
  intro fuel
  induction fuel with
  | zero =>
    intro listed a w hu hh hinv
    have hle : n ≤ listed.size := by rw [hh.size]; exact Nat.le_of_lt hn0
    have h1 := hh.tail n (Nat.le_refl _) hn0
    have := unlisted_set h1
    omega
  | succ f ih =>
    intro listed a w hu hh hinv
    have hle : n ≤ listed.size := by rw [hh.size]; exact Nat.le_of_lt hn0
    by_cases hA : ∃ i, i < n ∧ listed.getD i true = false
    · obtain ⟨i, hin, hui⟩ := hA
      obtain ⟨X, hinv⟩ := hinv
      refine ⟨fun h0 => ?_, fun j hj => ?_⟩
      · exfalso
        have h1 : Region.ready .any (l.take n).toArray (listed.extract 0 n) = [] := by
          cases hr : Region.ready .any (l.take n).toArray (listed.extract 0 n) with
          | nil => rfl
          | cons k r =>
            have hk : k ∈ Region.ready .any (l.take n).toArray (listed.extract 0 n) := by rw [hr]; simp
            obtain ⟨_, o, ho, _⟩ := mem_ready.1 hk
            have hkn : k < n := by have := (Array.getElem?_eq_some_iff.1 ho).1; omega
            have h2 := (ready_pre hn hh.size hkn hs).2 hk
            rw [h0] at h2; cases h2
        have h2 := all_listed hs h1 i i (Nat.le_refl _) (by omega) hinv.size
        rw [getD_pre hle hin, getD_both hui] at h2
        cases h2
      · have hjn : j < n := by
          rcases Nat.lt_or_ge j n with h | h
          · exact h
          · exact absurd hj (tail_waits hsink hchain hn0 hh (n - i) i rfl hin hui j h)
        have hjr := (ready_pre hn hh.size hjn hs).1 hj
        have hst := Inv.step (R := fun X a => ∀ w', Behind p w0 X w' → wpList P l.toArray Q (l.drop n) a w') (Q := Q) hs hf (by simpa using hp) hinv hjr
        refine wpOp_mono (fun a' w' hX => ih _ a' w' ?_ (hh.set hj hjn) ?_) (wpOp_pre hn hg hjn hst)
        · have := unlisted_set (mem_ready.1 hj).1
          omega
        · obtain ⟨X', hX⟩ := hX
          refine ⟨X', ?_⟩
          have he : (listed.setIfInBounds j true).extract 0 n = (listed.extract 0 n).setIfInBounds j true := by
            apply Array.ext_getElem?
            intro k
            simp only [Array.getElem?_extract, Array.getElem?_setIfInBounds, Array.size_setIfInBounds, Array.size_extract]
            by_cases hkj : j = k
            · subst hkj
              have : j < listed.size := by omega
              simp [this]
            · simp [hkj]
          rw [he]; exact hX
    · have hall : ∀ i, i < n → listed.getD i true = true := fun i hi => by
        cases h : listed.getD i true with
        | true => rfl
        | false => exact absurd ⟨i, hi, h⟩ hA
      have hallF : ∀ i, i < n → listed.getD i false = true := fun i hi => by
        have h1 := hall i hi
        have hlt : i < listed.size := by omega
        simp [hlt] at h1 ⊢; exact h1
      have hL : listed = headListed l.toArray.size n := by
        apply Array.ext_getElem?
        intro k
        unfold headListed
        rw [Array.getElem?_ofFn]
        rcases Nat.lt_or_ge k l.toArray.size with hk | hk
        · have hk2 : k < listed.size := by rw [hh.size]; exact hk
          rw [dif_pos hk]
          rcases Nat.lt_or_ge k n with hkn | hkn
          · have := hall k hkn
            simp [hk2] at this
            simp [hk2, hkn, this]
          · have := hh.tail k hkn hk
            simp [hk2] at this
            simp [hk2, this]; omega
        · rw [dif_neg (by omega), Array.getElem?_eq_none (by rw [hh.size]; exact hk)]
      obtain ⟨X, hinv⟩ := hinv
      have hd := Inv.done hs (hp := by simpa using hp X) hinv (fun i hi => by rw [hpre] at hi; rw [getD_pre hle hi]; exact hallF i hi)
      have hfl : f + 1 = (l.drop n).length := by
        rw [hL, hcount] at hu
        simp at hu ⊢; omega
      rw [hfl]
      refine wpAny_of_seq (l.drop n) n listed a w (fun j => by simp [List.getElem?_drop]) ?_ (hd.1 w hd.2)
      have : (l.drop n).length = l.toArray.size - n := by simp
      rw [this, hL]
      exact hseq
/-- A REGION THAT DRAWS ITS ORDER, BY A PLAN, and behind it operations in one forced order (a writing call, the assignments). -/
theorem wp_region_plan_tail {id : Nat} {Q : Exit → Act → World → Prop} {a0 : Act} {w0 : World} (n : Nat) (p : List Does) (hm : P.follows .mixedOrders = true) (hB : planB (l.take n).toArray = true) (hf : fillsB p = true) (hT : tailB l.toArray n = true)
    (hp : ∀ X : Nat → Nat, Plan P (l.take n).toArray w0.drew X p (fun a => ∀ w', Behind p w0.drew X w' → wpList P l.toArray Q (l.drop n) a w') 0 (l.take n) p a0) : (Code.region id l.toArray true).wp P Q a0 w0 := by
  have hn0 : n < l.toArray.size := by simp only [tailB, Bool.and_eq_true, decide_eq_true_eq] at hT; exact hT.1.1.1.1.1
  have hn : n < l.length := by simpa using hn0
  refine wp_region_any hm (wpAny_tail (planB_sound hB) hf hT hp _ _ _ _ ?_ ?_ ⟨fun _ => 0, ?_, ?_, ⟨Calm.refl _, ?_, ?_⟩, ?_⟩)
  · simp [unlisted, List.countP_replicate]
  · exact ⟨by simp, fun j oj _ hl => (by rw [getD_replicate_false] at hl; cases hl), fun t _ ht => getD_in (by simpa using ht) (getD_replicate_false _ _)⟩
  · simp
  · refine ⟨rfl, rfl, fun i o d t ho _ hi => ?_, fun _ _ => rfl⟩
    have hi2 : i < n := by have := (Array.getElem?_eq_some_iff.1 ho).1; simp at this; omega
    rw [getD_pre (by simp; omega) hi2, getD_replicate_false] at hi
    cases hi
  · intro i z t _ hp2 hi
    have hi2 : i < n ∨ n ≤ i := Nat.lt_or_ge i n
    rcases hi2 with hi2 | hi2
    · rw [getD_pre (by simp; omega) hi2, getD_replicate_false] at hi; cases hi
    · rw [Array.getD_eq_getD_getElem?, Array.getElem?_extract, if_neg (by simp; omega)] at hi; cases hi
  · intro i j z t z' t' _ _ _ _ hi
    have hi2 : i < n ∨ n ≤ i := Nat.lt_or_ge i n
    rcases hi2 with hi2 | hi2
    · rw [getD_pre (by simp; omega) hi2, getD_replicate_false] at hi; cases hi
    · rw [Array.getD_eq_getD_getElem?, Array.getElem?_extract, if_neg (by simp; omega)] at hi; cases hi
  · intro i o e ho hi
    have hi2 : i < n := by have := (Array.getElem?_eq_some_iff.1 ho).1; simp at this; omega
    rw [getD_pre (by simp; omega) hi2, getD_replicate_false] at hi
    cases hi
end
section
variable {w0 : World} {X : Nat → Nat} {p : List Does} {R : Act → Prop}
theorem plan_val {i : Nat} {o : Oper} {os : List Oper} {ds : List Does} {a : Act} {v : Value} (h1 : Region.wanted o (yielded ops a.tmps) = true) (h2 : ∀ w, Calm w0 w → Oper.quietUpon P (Calm w) w v ((execOp a.eval o).run P w))
    (h3 : Plan P ops w0 X p R (i + 1) os ds (a.put o.dst v)) : Plan P ops w0 X p R i (o :: os) (.val v :: ds) a := ⟨⟨h1, h2⟩, h3⟩
theorem plan_idle {i : Nat} {o : Oper} {os : List Oper} {ds : List Does} {a : Act} (h1 : Region.wanted o (yielded ops a.tmps) = false)
    (h3 : Plan P ops w0 X p R (i + 1) os ds (a.put o.dst undef)) : Plan P ops w0 X p R i (o :: os) (.idle :: ds) a := ⟨h1, h3⟩
theorem plan_new {i : Nat} {o : Oper} {os : List Oper} {ds : List Does} {a : Act} {z : Array Value} {t : TypeId} (h1 : Region.wanted o (yielded ops a.tmps) = true)
    (h2 : ∀ w, (execOp a.eval o).run P w = .ok (.value (.pointer (some ⟨w.heap.size, 0, none⟩))) (w.alloc (.cells z t)))
    (h3 : Plan P ops w0 X p R (i + 1) os ds (a.put o.dst (.pointer (some ⟨X i, 0, none⟩)))) : Plan P ops w0 X p R i (o :: os) (.new z t :: ds) a := ⟨⟨h1, h2⟩, h3⟩
/-- A slice literal of records. -/
theorem plan_lit {i : Nat} {o : Oper} {os : List Oper} {ds : List Does} {a : Act} {z : Array Value} {t : TypeId} {n : Nat} (h1 : Region.wanted o (yielded ops a.tmps) = true)
    (h2 : ∀ w, (execOp a.eval o).run P w = .ok (.value (.slice (some ⟨w.heap.size, 0, none⟩) n n)) (w.alloc (.cells z t)))
    (h3 : Plan P ops w0 X p R (i + 1) os ds (a.put o.dst (.slice (some ⟨X i, 0, none⟩) n n))) : Plan P ops w0 X p R i (o :: os) (.new z t (some n) :: ds) a := ⟨⟨h1, h2⟩, h3⟩
theorem plan_fill {i : Nat} {o : Oper} {os : List Oper} {ds : List Does} {a : Act} {k : Nat} {cs z : Array Value} {t : TypeId} (h1 : Region.wanted o (yielded ops a.tmps) = true) (hd : o.dst = none)
    (ha : o.after.any (fun e => Region.binds .any e && e.on == k) = true) (hk : p[k]? = some (.new z t))
    (h2 : ∀ w, w.heap[X k]? = some (.cells z t (0, 0)) → (execOp a.eval o).run P w = .ok .skip (w.setRow (X k) cs) ∨ (execOp a.eval o).run P w = .ok (.value undef) (w.setRow (X k) cs))
    (h3 : Plan P ops w0 X p R (i + 1) os ds (a.put o.dst undef)) : Plan P ops w0 X p R i (o :: os) (.fill k cs :: ds) a := ⟨⟨h1, hd, ha, z, t, none, hk, h2⟩, h3⟩
/-- The first store of a whole struct or array. -/
theorem plan_fill_row {i : Nat} {o : Oper} {os : List Oper} {ds : List Does} {a : Act} {k : Nat} {cs z : Array Value} {t ty : TypeId} {x y : Operand} (ho : o.op = .store ty x y) (hg : o.guard = none) (hd : o.dst = none)
    (ha : o.after.any (fun e => Region.binds .any e && e.on == k) = true) (hk : p[k]? = some (.new z t)) (hx : a.eval x = .pointer (some ⟨X k, 0, none⟩)) (hy : a.eval y = .agg cs)
    (hi : (P.info? ty).map (·.size) = some cs.size) (hz : z.size = cs.size) (h1 : cs.all (·.oneCell') = true)
    (h3 : Plan P ops w0 X p R (i + 1) os ds (a.put o.dst undef)) : Plan P ops w0 X p R i (o :: os) (.fill k cs :: ds) a := by
  refine plan_fill (by simp [Region.wanted, hg]) hd ha hk (fun w hw => Or.inl ?_) h3
  unfold execOp
  simp only [ho, hx, hy, Instr.storeAt, Instr.sureAddr, Sem.run_bind, Sem.run_pure, Result.andThen_ok, run_storeVar_row w (X k) t ty z cs hw hi hz h1]
theorem plan_end {i : Nat} {a : Act} (h : R a) : Plan P ops w0 X p R i [] [] a := h
end
/-- A contract of a function that leaves the world alone, met in a region that only reads. -/
theorem quiet_same {f : FuncId} {args : Array Value} {w b : World} {v : Value} (h : Calls P f args w fun e w' => e = .returned v ∧ w = w') (hw : ∃ m, w = b.drewN m) :
    Calls P f args w fun e w' => e = .returned v ∧ ∃ m, w' = b.drewN m := h.mono fun _ _ ⟨h1, h2⟩ => ⟨h1, h2 ▸ hw⟩
end
open Go.RowKit
theorem ret_int {a b : Int} (h : a = b) : Ending.returned (.int .i64 a) = .returned (.int .i64 b) := by rw [h]
theorem ret_bool {a b : Bool} (h : a = b) : Ending.returned (.bool a) = .returned (.bool b) := by rw [h]
set_option maxHeartbeats 400000 in
theorem components_any (p o f : Int) (w : World) :
    Calls Try.prog 67 #[.agg #[.int .i64 p, .int .i64 o, .int .i64 f]] w fun e w' => e = .returned (.agg #[.int .i64 p, .int .i64 o, .int .i64 f]) ∧ Calm w w' := by
  go_enter Try.func67, Try.ntmps67
  go_wp2
  go_returns
  exact ⟨rfl, by repeat (first | exact Calm.refl _ | refine Calm.alloc ?_ _)⟩
theorem index3 (x y z : Value) (w : World) : (Instr.index 92 (.agg #[x, y, z]) (.int .i64 0)).run Try.prog w = .ok x w ∧ (Instr.index 92 (.agg #[x, y, z]) (.int .i64 1)).run Try.prog w = .ok y w ∧ (Instr.index 92 (.agg #[x, y, z]) (.int .i64 2)).run Try.prog w = .ok z w :=
 ⟨by kernel_rfl, by kernel_rfl, by kernel_rfl⟩
set_option maxHeartbeats 1000000 in
theorem keyCheck_any (p o f : Int) (w : World) :
    Calls Try.prog 54 #[.agg #[.int .i64 p, .int .i64 o, .int .i64 f]] w fun e w' => e = .returned (.int .i64 (keyErr p o f)) ∧ Calm w w' := by
  have i0 := fun x y z w => (index3 x y z w).1
  have i1 := fun x y z w => (index3 x y z w).2.1
  have i2 := fun x y z w => (index3 x y z w).2.2
  by_cases h1 : p < 0
  rotate_left
  by_cases h2 : 15 < p
  rotate_left
  by_cases h3 : o < 0
  rotate_left
  by_cases h4 : 1048576 < o
  rotate_left
  by_cases h5 : f < 0
  rotate_left
  by_cases h6 : 1073741824 < f
  rotate_left
  all_goals
    first | rw [keyErr_no (by omega)] | rw [keyErr_ok (by omega) (by omega) (by omega) (by omega) (by omega) (by omega)]
    go_enter Try.func54, Try.ntmps54
    go_wp2_with (go_at_call 67; refine (components_any _ _ _ _).mono ?_; rintro e w1 ⟨rfl, hb1⟩; obtain ⟨hc1, hf1, hz1⟩ := hb1.facts)
    refine wp_loop_rounds 4 ?_
    rw [rounds_succ]
    go_wp2
    repeat (rw [rounds_succ]; go_wp2)
    go_returns
    exact ⟨rfl, by repeat (first | (with_reducible exact Calm.refl _) | (with_reducible refine Calm.alloc ?_ _) | (refine Calm.call ?_ (by with_reducible assumption)))⟩
open Go.RowKit
set_option maxHeartbeats 400000 in
theorem isNaN_any (a : Int) (w : World) : Calls Try.prog 82 #[.int .i64 a] w fun e w' => e = .returned (.bool false) ∧ w = w' := by
 go_enter Try.func82, Try.ntmps82
 go_wp2
 go_ret
 simp
set_option maxHeartbeats 400000 in
theorem compare_any (a b : Int) (w : World) : Calls Try.prog 68 #[.int .i64 a, .int .i64 b] w fun e w' => e = .returned (.int .i64 (icmp a b)) ∧ w = w' := by
 by_cases h1 : a < b
 rotate_left
 by_cases h2 : b < a
 rotate_left
 all_goals
  unfold icmp
  first | rw [if_pos (by assumption)] | rw [if_neg (by assumption), if_pos (by assumption)] | rw [if_neg (by assumption), if_neg (by assumption)]
  go_enter Try.func68, Try.ntmps68
  go_wp2_with (go_at_call 82; refine (isNaN_any _ _).mono ?_; rintro e w1 ⟨rfl, rfl⟩)
  go_ret
  exact ⟨rfl, rfl⟩
def KeysAt (w : World) (x y : Nat) (p o f p' o' f' : Int) (wx : World) : Prop :=
 wx.cell? ⟨x, 0, none⟩ = some (.int .i64 p) ∧ wx.cell? ⟨x, 1, none⟩ = some (.int .i64 o) ∧ wx.cell? ⟨x, 2, none⟩ = some (.int .i64 f) ∧
  wx.cell? ⟨y, 0, none⟩ = some (.int .i64 p') ∧ wx.cell? ⟨y, 1, none⟩ = some (.int .i64 o') ∧ wx.cell? ⟨y, 2, none⟩ = some (.int .i64 f') ∧ x < wx.heap.size ∧ y < wx.heap.size ∧ Calm w wx
theorem KeysAt.drewN {w wx : World} {x y : Nat} {p o f p' o' f' : Int} (h : KeysAt w x y p o f p' o' f' wx) (n : Nat) : KeysAt w x y p o f p' o' f' (wx.drewN n) := by
 obtain ⟨h1, h2, h3, h4, h5, h6, h7, h8, h9⟩ := h
 exact ⟨h1, h2, h3, h4, h5, h6, h7, h8, h9.drewN n⟩
def TwoKeys (w : World) (p o f p' o' f' : Int) (s2 s3 : Value) (wx : World) : Prop :=
 ∃ x y : Nat, s2 = .pointer (some ⟨x, 0, none⟩) ∧ s3 = .pointer (some ⟨y, 0, none⟩) ∧ KeysAt w x y p o f p' o' f' wx
set_option maxHeartbeats 4000000 in
theorem cmp_any (p o f p' o' f' : Int) (w : World) :
    Calls Try.prog 38 #[.agg #[.int .i64 p, .int .i64 o, .int .i64 f], .agg #[.int .i64 p', .int .i64 o', .int .i64 f']] w fun e w' => e = .returned (.int .i64 (kcmp p o f p' o' f')) ∧ Calm w w' := by
  go_enter Try.func38, Try.ntmps38
  go_upto_region 0 with fail
  go_cut [2, 3, 4] (fun s2 s3 s4 wx => TwoKeys w p o f p' o' f' s2 s3 wx ∧ s4 = .int .i64 0)
  case first =>
    go_wp2_with fail
    go_meet
    refine ⟨⟨_, _, rfl, rfl, ?_, ?_, ?_, ?_, ?_, ?_, ?_, ?_, ?_⟩, rfl⟩
    all_goals first | (with_reducible exact ((Calm.refl _).alloc _).alloc _) | go_simp
  case rest =>
  obtain ⟨⟨x, y, rfl, rfl, x0, x1, x2, y0, y1, y2, hx, hy, hu⟩, rfl⟩ := hcut
  go_upto_region 1 with fail
  go_cut [5, 6] (fun s5 s6 wx => TwoKeys w p o f p' o' f' s5 s6 wx)
  case first =>
    refine wp_region_plan [.val (.agg #[.int .i64 p, .int .i64 o, .int .i64 f]), .val (.agg #[.int .i64 p, .int .i64 o, .int .i64 f]), .val (.agg #[.int .i64 p', .int .i64 o', .int .i64 f']), .val (.agg #[.int .i64 p', .int .i64 o', .int .i64 f']),
      .new #[.int .i64 0, .int .i64 0, .int .i64 0] 92, .new #[.int .i64 0, .int .i64 0, .int .i64 0] 92, .fill 4 #[.int .i64 p, .int .i64 o, .int .i64 f], .fill 5 #[.int .i64 p', .int .i64 o', .int .i64 f']] (by kernel_rfl) (by kernel_rfl) (by kernel_rfl) ?_
    intro X
    refine plan_val (by kernel_rfl) (fun u hu => ?_) ?_
    · obtain ⟨hc, hf, hz⟩ := hu.of_drew.facts
      go_simp
    simp only [Act.put, List.setIfInBounds_toArray, List.set_cons_zero, List.set_cons_succ]
    refine plan_val (by kernel_rfl) (fun u hu => ?_) ?_
    · go_simp
      exact components_any _ _ _ _
    simp only [Act.put, List.setIfInBounds_toArray, List.set_cons_zero, List.set_cons_succ]
    refine plan_val (by kernel_rfl) (fun u hu => ?_) ?_
    · obtain ⟨hc, hf, hz⟩ := hu.of_drew.facts
      go_simp
    simp only [Act.put, List.setIfInBounds_toArray, List.set_cons_zero, List.set_cons_succ]
    refine plan_val (by kernel_rfl) (fun u hu => ?_) ?_
    · go_simp
      exact components_any _ _ _ _
    simp only [Act.put, List.setIfInBounds_toArray, List.set_cons_zero, List.set_cons_succ]
    refine plan_new (by kernel_rfl) (fun u => ?_) ?_
    · go_simp
    simp only [Act.put, List.setIfInBounds_toArray, List.set_cons_zero, List.set_cons_succ]
    refine plan_new (by kernel_rfl) (fun u => ?_) ?_
    · go_simp
    simp only [Act.put, List.setIfInBounds_toArray, List.set_cons_zero, List.set_cons_succ]
    refine plan_fill_row rfl rfl rfl (by kernel_rfl) rfl rfl rfl (by kernel_rfl) rfl (by simp [Value.oneCell']) ?_
    refine plan_fill_row rfl rfl rfl (by kernel_rfl) rfl rfl rfl (by kernel_rfl) rfl (by simp [Value.oneCell']) ?_
    refine plan_end ?_
    intro w' hB
    have r4 : w'.heap[X 4]? = some (.cells #[.int .i64 p, .int .i64 o, .int .i64 f] 92) := (hB.row 4 _ _ rfl).2
    have r5 : w'.heap[X 5]? = some (.cells #[.int .i64 p', .int .i64 o', .int .i64 f'] 92) := (hB.row 5 _ _ rfl).2
    go_wp2_with fail
    go_meet
    exact ⟨X 4, X 5, rfl, rfl, cell_of_row _ _ 0 _ _ _ r4, cell_of_row _ _ 1 _ _ _ r4, cell_of_row _ _ 2 _ _ _ r4, cell_of_row _ _ 0 _ _ _ r5, cell_of_row _ _ 1 _ _ _ r5, cell_of_row _ _ 2 _ _ _ r5, (Array.getElem?_eq_some_iff.1 r4).1, (Array.getElem?_eq_some_iff.1 r5).1, hu.call hB.calm.of_drew⟩
  case rest =>
  obtain ⟨x, y, rfl, rfl, hK⟩ := hcut
  obtain ⟨x0, x1, x2, y0, y1, y2, hx, hy, hu⟩ := id hK
  go_wp2_with fail
  by_cases e1 : icmp p p' = 0
  rotate_left
  · have b1 : (icmp p p' != 0) = true := by simpa using e1
    have K : Hid (icmp p p' = kcmp p o f p' o' f') := by show _ = _; simp [kcmp, e1]
    clear e1
    refine wp_loop_rounds 4 ?_
    rw [rounds_succ]
    go_wp2_with fail
    go_quiet ((go_at_call 68; exact quiet_same (compare_any _ _ _) ⟨_, rfl⟩))
    go_wp2_with fail
    go_ret
    exact ⟨ret_int K.out, hu.drewN _⟩
  have b1 : (icmp p p' != 0) = false := by simpa using e1
  by_cases e2 : icmp o o' = 0
  rotate_left
  · have b2 : (icmp o o' != 0) = true := by simpa using e2
    have K : Hid (icmp o o' = kcmp p o f p' o' f') := by show _ = _; simp [kcmp, e1, e2]
    clear e1 e2
    refine wp_loop_rounds 4 ?_
    rw [rounds_succ]
    go_wp2_with fail
    go_quiet ((go_at_call 68; exact quiet_same (compare_any _ _ _) ⟨_, rfl⟩))
    replace hK := hK.drewN nq
    generalize wc.drewN nq = wd at hK ⊢
    clear hx hy hu x0 x1 x2 y0 y1 y2 wc
    obtain ⟨x0, x1, x2, y0, y1, y2, hx, hy, hu⟩ := id hK
    rename World => wc
    go_wp2_with fail
    rw [rounds_succ]
    go_wp2_with fail
    go_quiet ((go_at_call 68; exact quiet_same (compare_any _ _ _) ⟨_, rfl⟩))
    go_wp2_with fail
    go_ret
    exact ⟨ret_int K.out, hu.drewN _⟩
  have b2 : (icmp o o' != 0) = false := by simpa using e2
  by_cases e3 : icmp f f' = 0
  all_goals
    have b3 : (icmp f f' != 0) = !decide (icmp f f' = 0) := by by_cases h : icmp f f' = 0 <;> simp [h]
    have e4 : kcmp p o f p' o' f' = icmp f f' := by simp [kcmp, e1, e2]
    first
      | (have e5 : decide (icmp f f' = 0) = true := decide_eq_true e3
         rw [e5] at b3
         have K : Hid (0 = kcmp p o f p' o' f') := by show _ = _; rw [e4, e3]
         clear e1 e2 e3 e4 e5)
      | (have e5 : decide (icmp f f' = 0) = false := decide_eq_false e3
         rw [e5] at b3
         have K : Hid (icmp f f' = kcmp p o f p' o' f') := by show _ = _; rw [e4]
         clear e1 e2 e3 e4 e5)
    refine wp_loop_rounds 4 ?_
    rw [rounds_succ]
    go_wp2_with fail
    go_quiet ((go_at_call 68; exact quiet_same (compare_any _ _ _) ⟨_, rfl⟩))
    replace hK := hK.drewN nq
    generalize wc.drewN nq = wd at hK ⊢
    clear hx hy hu x0 x1 x2 y0 y1 y2 wc
    obtain ⟨x0, x1, x2, y0, y1, y2, hx, hy, hu⟩ := id hK
    rename World => wc
    go_wp2_with fail
    rw [rounds_succ]
    go_wp2_with fail
    go_quiet ((go_at_call 68; exact quiet_same (compare_any _ _ _) ⟨_, rfl⟩))
    replace hK := hK.drewN nq
    generalize wc.drewN nq = wd at hK ⊢
    clear hx hy hu x0 x1 x2 y0 y1 y2 wc
    obtain ⟨x0, x1, x2, y0, y1, y2, hx, hy, hu⟩ := id hK
    rename World => wc
    go_wp2_with fail
    rw [rounds_succ]
    go_wp2_with fail
    go_quiet ((go_at_call 68; exact quiet_same (compare_any _ _ _) ⟨_, rfl⟩))
    go_wp2_with fail
    try (rw [rounds_succ]; go_wp2_with fail)
    go_ret
    exact ⟨ret_int K.out, hu.drewN _⟩
open Go.RowKit
theorem heap_new (w : World) (o : Obj) : (w.alloc o).heap[w.heap.size]? = some o := by show (w.heap.push o)[w.heap.size]? = _; simp
open Go.RowKit
theorem Calm.grownBy {w w' : World} (h : Calm w w') (row : Option Nat) : w.grownBy w' row := ⟨Below.os h, Below.tape h, Below.output h, Below.size h, fun _ hk _ => h.block hk⟩
open Go.ChangeShapes Go.WideShapes Go.ChangeAt Go.RowKit
theorem own : ownKnob Try.prog.godebug = none := by kernel_rfl
theorem laidOut : laidOutB Try.prog = true := by kernel_rfl
section
variable {H : Type} {enc : TypeId × Value → H} {P : Program}
theorem trodAll_stays (hl : laidOutB P = true) {W W' : World} (hb : Calm W W') : ∀ (ts : List TypeId) (vs : List Value) (ds : List (DataW H)) (ps : List MemPlace), ts.all (fun t => P.readableRec t && decide (t < P.types.size)) = true →
    DataW.TrodAll enc P W 0 (fun _ => true) true ts vs ds ps → (∀ x ∈ ps, x.block < W.heap.size) → DataW.TrodAll enc P W' 0 (fun b => decide (b < W.heap.size)) true ts vs ds ps
  | [], [], [], ps, _, h, _ => h
  | t :: ts, v :: vs, d :: ds, ps, ht, h, hlt => by
    obtain ⟨p, q, h1, h2, rfl⟩ := h
    simp only [List.all_cons, Bool.and_eq_true, decide_eq_true_eq] at ht
    exact ⟨p, q, Below.trod hl ht.1.1 ht.1.2 h1 hb fun x hx => hlt x (List.mem_append_left _ hx), trodAll_stays hl hb ts vs ds q (by simpa using ht.2) h2 fun x hx => hlt x (List.mem_append_right _ hx), rfl⟩
  | [], _ :: _, _, _, _, h, _ => absurd h (by simp [DataW.TrodAll])
  | [], [], _ :: _, _, _, h, _ => absurd h (by simp [DataW.TrodAll])
  | _ :: _, [], _, _, _, h, _ => absurd h (by simp [DataW.TrodAll])
  | _ :: _, _ :: _, [], _, _, h, _ => absurd h (by simp [DataW.TrodAll])
/-- The row's post, of a law: it answers true, and nothing that was there has turned. -/
theorem law_post (hl : laidOutB P = true) {f : Func} {s : ChangeSpec} {apart fresh handsOn : Bool} {W W' : World} {args : Array Value} {ds gs : List (DataW H)} {before : List MemPlace}
    (hW : DataW.Whole enc P f.params.toList s.vars apart W args.toList ds gs before) (hb : Calm W W') (hbool : ∃ t, f.resultTypes = #[t] ∧ P.underlying t = some .bool)
    (hts : f.params.toList.all (fun t => P.readableRec t && decide (t < P.types.size)) = true) (hvars : s.vars = []) (hspec : (s.fn H (ds ++ gs)).results = [.lit (.bool true)] ∧ (s.fn H (ds ++ gs)).args = ds ∧ (s.fn H (ds ++ gs)).vars = []) :
    s.post enc P f apart fresh handsOn false W args (.bool true) W' := by
  obtain ⟨t, ht, hu⟩ := hbool
  obtain ⟨h1, h2, h3⟩ := hspec
  have hlt := hW.lt
  obtain ⟨p, q, hA, hV, rfl, hz, hn⟩ := id hW
  rw [hvars] at hV
  obtain ⟨rfl, rfl⟩ := trodVars_none hV
  refine ⟨ds, [], p ++ [], [], p, [], hW, ?_, ?_, ?_, World.keptBut_mono (fun _ h => h) (Below.frame hb _), fun h => by cases h⟩
  · rw [h1, ht]
    exact trodAll_mk1 (shut_bool hu true)
  · rw [h2]
    exact trodAll_stays hl hb _ _ _ _ hts hA fun x hx => hlt x (by simpa using hx)
  · rw [h3, hvars]
    exact rfl
end
section
variable {H : Type} {enc : TypeId × Value → H} {w : World} {base : Nat} {spare : Nat → Bool} {held : Bool}
theorem cellsInt : Try.prog.cellsOf 3 = 1 := by kernel_rfl
theorem cellsStr : Try.prog.cellsOf 9 = 1 := by kernel_rfl
theorem cellsKey : Try.prog.cellsOf 31 = 3 := by kernel_rfl
theorem key_cells {fuel : Nat} {cs : List Value} {x : DataW H × List MemPlace} (h : DataW.trod enc Try.prog w base spare held fuel 31 cs = some x) :
    ∃ p o f : Int, cs = [.int .i64 p, .int .i64 o, .int .i64 f] ∧ (Lit.int .i64 p).wf = true ∧ (Lit.int .i64 o).wf = true ∧ (Lit.int .i64 f).wf = true := by
  obtain ⟨y0, y1, y2, n, _, hl, h0, h1, h2⟩ := Go.Deep.trod_struct3 Try.underlying31 h
  obtain ⟨p, e0, _, w0⟩ := DataW.trod_int Try.underlying3 h0
  obtain ⟨o, e1, _, w1⟩ := DataW.trod_int Try.underlying3 h1
  obtain ⟨f, e2, _, w2⟩ := DataW.trod_int Try.underlying3 h2
  simp only [cellsInt, cellsKey] at e0 e1 e2 hl
  match cs, hl with
  | [c0, c1, c2], _ =>
    simp at e0 e1 e2
    exact ⟨p, o, f, by rw [e0, e1, e2], w0, w1, w2⟩
variable {r : Reach} {b0 : Nat} {v : Value} {d : DataW H} {ps : List MemPlace}
end
open Go.ChangeShapes Go.WideShapes Go.ChangeAt Go.RowKit
section
variable {H : Type} {enc : TypeId × Value → H} {w : World} {base : Nat} {spare : Nat → Bool} {held : Bool}
theorem list_of {α : Type} (R : Nat → α → Prop) : ∀ n, (∀ i, i < n → ∃ e, R i e) → ∃ l : List α, l.length = n ∧ ∀ k e, l[k]? = some e → R k e
 | 0, _ => ⟨[], rfl, by simp⟩
 |n + 1, h => by
  obtain ⟨l, hl, hk⟩ := list_of R n fun i hi => h i (by omega)
  obtain ⟨e, he⟩ := h n (by omega)
  refine ⟨l ++ [e], by simp [hl], fun k x hx => ?_⟩
  rcases Nat.lt_or_ge k n with hlt | hge
  ·rw [List.getElem?_append_left (by omega)] at hx; exact hk k x hx
  ·rw [List.getElem?_append_right (by omega)] at hx
   have : k = n := by
    have := (List.getElem?_eq_some_iff.1 hx).1
    simp at this; omega
   subst this
   rw [hl] at hx; simp at hx; subst hx; exact he
theorem add_add (b q i j : Nat) : ((⟨b, q, none⟩ : Addr).add i).add j = ⟨b, q + i + j, none⟩ := by
 unfold Addr.add
 split <;> split <;> simp_all
/-- A slice of rows of N cells each. -/
theorem rows_open {t e : TypeId} {fuel : Nat} {cs : List Value} {x : DataW H × List MemPlace} {α : Type} (cv : α → List Value) (wf : α → Prop) (N : Nat) (ht : Try.prog.underlying t = some (.slice e)) (hN : Try.prog.cellsOf e = N) (h0 : 0 < N)
    (hel : ∀ fuel cs x, DataW.trod enc Try.prog w base spare held fuel e cs = some x → ∃ y, cs = cv y ∧ wf y) (h : DataW.trod enc Try.prog w base spare held fuel t cs = some x) :
    ∃ (A : Option Addr) (c : Nat) (l : List α), cs = [.slice A l.length c] ∧ l.length ≤ 9223372036854775807 ∧ l.length ≤ c ∧ (∀ y ∈ l, wf y) ∧
      (0 < l.length → ∃ b q, A = some ⟨b, q, none⟩ ∧ b < w.heap.size ∧ ∀ (k : Nat) (y : α), l[k]? = some y → ∀ j, j < N → w.cell? ⟨b, q + k * N + j, none⟩ = (cv y)[j]?) ∧
      (x.1 = .nil ∧ l.length = 0 ∨ ∃ els sp : List (DataW H), x.1 = .slice els sp ∧ l.length ≤ els.length) := by
  rcases Go.Deep.open_slice ht h with ⟨hcs, hx⟩ | ⟨a, len, cap, m, n, D, Pl, hcs, _, hl, hm, hmm, hx, hi⟩
  · exact ⟨none, 0, [], hcs, by simp, by simp, by simp, fun h => absurd h (by simp), Or.inl ⟨by rw [hx], rfl⟩⟩
  · have hlm : len ≤ m := by rw [hmm]; split <;> omega
    have hsp : 0 < len → a.spot = none := fun hpos => by
      obtain ⟨cs0, hc0, ht0⟩ := hi 0 (by omega)
      rw [hN] at hc0
      obtain ⟨_, hlc, hat⟩ := World.cells?_some hc0
      have k0 := hat 0 h0
      obtain ⟨v0, hv0⟩ : ∃ v, cs0[0]? = some v := ⟨_, List.getElem?_eq_getElem (by omega)⟩
      rw [hv0, Nat.zero_mul] at k0
      exact World.cell?_spot (by simpa [Addr.add] using k0)
    have each : ∀ i, i < len → ∃ y : α, wf y ∧ a.block < w.heap.size ∧ ∀ j, j < N → w.cell? ⟨a.block, a.off + i * N + j, none⟩ = (cv y)[j]? := fun i hil => by
      obtain ⟨cs', hc, ht'⟩ := hi i (by omega)
      obtain ⟨y, rfl, hwf⟩ := hel _ _ _ ht'
      rw [hN] at hc
      obtain ⟨_, hlc, hat⟩ := World.cells?_some hc
      have hs := hsp (by omega)
      obtain ⟨b, q, sp⟩ := a
      simp only at hs
      subst hs
      simp only [add_add] at hat
      refine ⟨y, hwf, ?_, fun j hj => hat j hj⟩
      have k0 := hat 0 h0
      obtain ⟨v0, hv0⟩ : ∃ v, (cv y)[0]? = some v := ⟨_, List.getElem?_eq_getElem (by omega)⟩
      rw [hv0] at k0
      have hbl := World.block_lt_of_cell? _ _ k0
      exact hbl
    obtain ⟨l, rfl, hk⟩ := list_of (fun i y => wf y ∧ a.block < w.heap.size ∧ ∀ j, j < N → w.cell? ⟨a.block, a.off + i * N + j, none⟩ = (cv y)[j]?) len each
    refine ⟨some a, cap, l, hcs, by simp only [maxLen] at hm; omega, hl, fun y hy => ?_, fun hpos => ?_, Or.inr ⟨_, _, by rw [hx], by simp⟩⟩
    · obtain ⟨k, hkl, rfl⟩ := List.getElem_of_mem hy
      exact (hk k _ (List.getElem?_eq_getElem hkl)).1
    · have hs := hsp hpos
      obtain ⟨b, q, sp⟩ := a
      simp only at hs
      subst hs
      exact ⟨b, q, rfl, (hk 0 _ (List.getElem?_eq_getElem hpos)).2.1, fun k y hy => (hk k y hy).2.2⟩
theorem trod_struct5 {P : Program} {t : TypeId} {f0 f1 f2 f3 f4 : Field} {fuel : Nat} {cs : List Value} {x : DataW H × List MemPlace} (ht : P.underlying t = some (.struct #[f0, f1, f2, f3, f4])) (h : DataW.trod enc P w base spare held fuel t cs = some x) :
    ∃ y0 y1 y2 y3 y4 n, x.1 = .agg [y0.1, y1.1, y2.1, y3.1, y4.1] ∧ cs.length = P.cellsOf t ∧ DataW.trod enc P w base spare held n f0.type ((cs.drop f0.offset).take (P.cellsOf f0.type)) = some y0 ∧
      DataW.trod enc P w base spare held n f1.type ((cs.drop f1.offset).take (P.cellsOf f1.type)) = some y1 ∧ DataW.trod enc P w base spare held n f2.type ((cs.drop f2.offset).take (P.cellsOf f2.type)) = some y2 ∧
      DataW.trod enc P w base spare held n f3.type ((cs.drop f3.offset).take (P.cellsOf f3.type)) = some y3 ∧ DataW.trod enc P w base spare held n f4.type ((cs.drop f4.offset).take (P.cellsOf f4.type)) = some y4 := by
  obtain ⟨xs, n, _, rfl, hl, hlen, hf⟩ := DataW.trod_struct ht h
  match xs, hlen with
  | [y0, y1, y2, y3, y4], _ => exact ⟨y0, y1, y2, y3, y4, n, by simp, hl, by simpa using hf 0 f0 rfl, by simpa using hf 1 f1 rfl, by simpa using hf 2 f2 rfl, by simpa using hf 3 f3 rfl, by simpa using hf 4 f4 rfl⟩
variable {r : Reach} {b0 : Nat} {v : Value} {d : DataW H} {ps : List MemPlace}
end
open Go.RowKit
theorem str_ne {s s' : ByteArray} (h : ¬ s = s') : (s.toList == s'.toList) = false := by
 cases e : s.toList == s'.toList
 ·rfl
 ·exfalso
  have h2 := eq_of_beq e
  rw [ByteArray.toList_eq, ByteArray.toList_eq] at h2
  exact h (ByteArray.ext (Array.toList_inj.1 h2))
theorem atR_iff {l : List El} (h : l.Pairwise Fol) {k : Int × Int × Int} {t : Int} {e : El} : atR l k t = some e ↔ e ∈ l ∧ isAt k t e = true := by
 constructor
 ·intro h1
  exact ⟨List.mem_of_find?_eq_some h1, List.find?_some h1⟩
 ·rintro ⟨h1, h2⟩
  obtain ⟨i, hi, rfl⟩ := List.getElem_of_mem h1
  exact find_of h hi h2
theorem sorted_ext {α : Type} {r : α → α → Prop} (ir : ∀ a, ¬ r a a) (asy : ∀ a b, r a b → ¬ r b a) : ∀ {l l' : List α}, l.Pairwise r → l'.Pairwise r → (∀ e, e ∈ l ↔ e ∈ l') → l = l'
 | [], [], _, _, _ => rfl
 | [], y :: l', _, _, h => absurd ((h y).2 (by simp)) (by simp)
 |x :: l, [], _, _, h => absurd ((h x).1 (by simp)) (by simp)
 |x :: l, y :: l', hl, hl', h => by
  rw [List.pairwise_cons] at hl hl'
  have hxy : x = y := by
   rcases List.mem_cons.1 ((h x).1 (by simp)) with h1 | h1
   ·exact h1
   rcases List.mem_cons.1 ((h y).2 (by simp)) with h2 | h2
   ·exact h2.symm
   exact absurd (hl.1 y h2) (asy _ _ (hl'.1 x h1))
  subst hxy
  rw [sorted_ext ir asy hl.2 hl'.2 fun e => ?_]
  constructor
  ·intro he
   rcases List.mem_cons.1 ((h e).1 (by simp [he])) with h1 | h1
   ·subst h1; exact absurd (hl.1 e he) (ir e)
   ·exact h1
  ·intro he
   rcases List.mem_cons.1 ((h e).2 (by simp [he])) with h1 | h1
   ·subst h1; exact absurd (hl'.1 e he) (ir e)
   ·exact h1
/-- What a range answers of a key is what At answers. -/
theorem at_range {l : List El} (hG : Good l) {lo hi : Int × Int × Int} {t : Int} {e : El} (he : e ∈ rangeR l lo hi t) : atR l e.key t = some e := by
 obtain ⟨h1, h2⟩ := List.mem_filter.1 he
 unfold inR at h2; rw [decide_eq_true_eq] at h2
 refine (atR_iff hG.2.2).2 ⟨h1, ?_⟩
 unfold isAt; rw [decide_eq_true_eq]; exact ⟨rfl, h2.2.2⟩
/-- The keys of a range rise: no two records of one key are live at one time. -/
theorem range_rise {l : List El} (hG : Good l) (lo hi : Int × Int × Int) (t : Int) : (rangeR l lo hi t).Pairwise (fun a b => kLt a.key b.key) := by
 unfold rangeR
 rw [List.pairwise_filter]
 refine hG.2.2.imp fun {a b} h ha hb => ?_
 unfold inR at ha hb; rw [decide_eq_true_eq] at ha hb
 rcases h.1 with h1 | ⟨h1, _⟩
 ·exact h1
 ·have h2 := h.2 h1
  have h3 := ha.2.2
  have h4 := hb.2.2
  unfold El.live liveP at h3 h4
  omega
theorem key_good {l : List El} (hG : Good l) {e : El} (he : e ∈ l) : kErr e.key = 0 := by
 have h := hG.2.1 e he
 unfold El.err at h
 rw [elemErr_zero] at h
 exact h.1
structure Chg where
 p : Int
 o : Int
 f : Int
 hd : Bool
 hs : Bool
 ws : ByteArray
 vs : ByteArray
theorem Chg.ext_iff' {a b : Chg} : a = b ↔ a.p = b.p ∧ a.o = b.o ∧ a.f = b.f ∧ a.hd = b.hd ∧ a.hs = b.hs ∧ a.ws = b.ws ∧ a.vs = b.vs := by
 cases a; cases b; simp
instance : DecidableEq Chg := fun _ _ => decidable_of_iff _ Chg.ext_iff'.symm
structure St where
 th : Bool
 v : ByteArray
theorem St.ext_iff' {a b : St} : a = b ↔ a.th = b.th ∧ a.v = b.v := by cases a; cases b; simp
instance : DecidableEq St := fun _ _ => decidable_of_iff _ St.ext_iff'.symm
def Chg.key (c : Chg) : Int × Int × Int := (c.p, c.o, c.f)
def Chg.bef (c : Chg) : St := ⟨c.hd, c.ws⟩
def Chg.aft (c : Chg) : St := ⟨c.hs, c.vs⟩
def noS : St := ⟨false, { data := #[] }⟩
def mkC (k : Int × Int × Int) (a b : St) : Chg := ⟨k.1, k.2.1, k.2.2, a.th, b.th, a.v, b.v⟩
theorem mkC_key (k : Int × Int × Int) (a b : St) : (mkC k a b).key = k := rfl
theorem mkC_self (c : Chg) : mkC c.key c.bef c.aft = c := rfl
def fitS (s : St) : Prop := s.th = true ∨ s.v.size = 0
instance (s : St) : Decidable (fitS s) := by unfold fitS; infer_instance
def Chg.err (c : Chg) : Int := if keyErr c.p c.o c.f = 0 then (if c.ws.size ≤ 40 ∧ c.vs.size ≤ 40 then (if fitS c.bef ∧ fitS c.aft ∧ c.bef ≠ c.aft then 0 else 3) else 2) else keyErr c.p c.o c.f
theorem Chg.err_zero {c : Chg} : c.err = 0 ↔ kErr c.key = 0 ∧ c.ws.size ≤ 40 ∧ c.vs.size ≤ 40 ∧ fitS c.bef ∧ fitS c.aft ∧ c.bef ≠ c.aft := by
 unfold Chg.err kErr Chg.key
 by_cases h1 : keyErr c.p c.o c.f = 0
 ·rw [if_pos h1]
  by_cases h2 : c.ws.size ≤ 40 ∧ c.vs.size ≤ 40
  ·rw [if_pos h2]
   by_cases h3 : fitS c.bef ∧ fitS c.aft ∧ c.bef ≠ c.aft
   ·rw [if_pos h3]; exact ⟨fun _ => ⟨h1, h2.1, h2.2, h3⟩, fun _ => rfl⟩
   ·rw [if_neg h3]; exact ⟨fun h => absurd h (by decide), fun h => absurd h.2.2.2 h3⟩
  ·rw [if_neg h2]; exact ⟨fun h => absurd h (by decide), fun h => absurd ⟨h.2.1, h.2.2.1⟩ h2⟩
 ·rw [if_neg h1]; exact ⟨fun h => absurd h h1, fun h => absurd h.1 h1⟩
def stepC (l : List Chg) (i : Nat) : Int :=
 match l[i]? with
 |none => 0
 |some c => if c.err ≠ 0 then c.err else
  match (if i = 0 then none else l[i - 1]?) with
  |none => 0
  |some q => if kLt q.key c.key then 0 else 3
def chErr (l : List Chg) : Int := if 400 < l.length then 2 else firstErr (stepC l) l.length
def KS (l : List Chg) : Prop := l.Pairwise fun a b => kLt a.key b.key
def GoodC (l : List Chg) : Prop := l.length ≤ 400 ∧ (∀ c ∈ l, c.err = 0) ∧ KS l
theorem stepC_zero {l : List Chg} {i : Nat} (hi : i < l.length) : stepC l i = 0 ↔ l[i].err = 0 ∧ (∀ h : 0 < i, kLt (l[i - 1]'(by omega)).key l[i].key) := by
 unfold stepC
 rw [List.getElem?_eq_getElem hi]
 simp only
 by_cases he : l[i].err = 0
 ·rw [if_neg (by simpa using he)]
  by_cases h0 : i = 0
  ·subst h0; simp [he]
  ·rw [if_neg h0, List.getElem?_eq_getElem (by omega)]
   simp only
   by_cases hF : kLt (l[i - 1]'(by omega)).key l[i].key
   ·simp [hF, he]
   ·simp only [hF, if_false]
    constructor
    ·intro h; omega
    ·intro h; exact absurd (h.2 (by omega)) id
 ·rw [if_pos he]; simp [he]
theorem ks_of_steps {l : List Chg} (h : ∀ i (hi : i + 1 < l.length), kLt l[i].key l[i + 1].key) : KS l := by
 unfold KS
 rw [List.pairwise_iff_getElem]
 intro i j hi hj hij
 obtain ⟨d, rfl⟩ : ∃ d, j = i + 1 + d := ⟨j - (i + 1), by omega⟩
 induction d with
 |zero => exact h i hj
 |succ d ih =>
  have := ih (by omega) (by omega)
  exact kLt_trans this (h (i + 1 + d) hj)
theorem chErr_zero {l : List Chg} : chErr l = 0 ↔ GoodC l := by
 unfold chErr GoodC
 by_cases hl : 400 < l.length
 ·rw [if_pos hl]; constructor
  ·intro h; omega
  ·intro h; omega
 ·rw [if_neg hl, firstErr_zero]
  constructor
  ·intro h
   refine ⟨by omega, fun e he => ?_, ks_of_steps fun i hi => ?_⟩
   ·obtain ⟨i, hi, rfl⟩ := List.getElem_of_mem he
    exact ((stepC_zero hi).1 (h i hi)).1
   ·exact ((stepC_zero hi).1 (h (i + 1) hi)).2 (by omega)
  ·rintro ⟨_, h1, h2⟩ i hi
   rw [stepC_zero hi]
   exact ⟨h1 _ (List.getElem_mem _), fun h => List.pairwise_iff_getElem.1 h2 (i - 1) i (by omega) hi (by omega)⟩
def fnd (l : List Chg) (k : Int × Int × Int) : Option Chg := l.find? fun c => decide (c.key = k)
theorem fnd_cons (x : Chg) (l : List Chg) (k : Int × Int × Int) : fnd (x :: l) k = if x.key = k then some x else fnd l k := by
 unfold fnd; rw [List.find?_cons]; by_cases h : x.key = k <;> simp [h]
theorem fnd_key {l : List Chg} {k : Int × Int × Int} {x : Chg} (h : fnd l k = some x) : x.key = k ∧ x ∈ l := by
 have h1 := List.find?_some h
 exact ⟨by simpa using h1, List.mem_of_find?_eq_some h⟩
theorem fnd_none {l : List Chg} {k : Int × Int × Int} : fnd l k = none ↔ ∀ x ∈ l, x.key ≠ k := by
 unfold fnd; rw [List.find?_eq_none]; simp
theorem KS.cons {x : Chg} {l : List Chg} : KS (x :: l) ↔ (∀ y ∈ l, kLt x.key y.key) ∧ KS l := List.pairwise_cons
theorem fnd_low {x : Chg} {l : List Chg} (h : KS (x :: l)) {k : Int × Int × Int} (hk : ¬ kLt x.key k) : fnd l k = none := fnd_none.2 fun y hy e => hk (e ▸ (KS.cons.1 h).1 y hy)
theorem fnd_mem {l : List Chg} (h : KS l) {x : Chg} (hx : x ∈ l) : fnd l x.key = some x := by
 induction l with
 |nil => simp at hx
 |cons y l ih =>
  rw [fnd_cons]
  rcases List.mem_cons.1 hx with rfl | h2
  ·rw [if_pos rfl]
  ·rw [if_neg (kLt_ne ((KS.cons.1 h).1 x h2)), ih (KS.cons.1 h).2 h2]
theorem ks_ext {a b : List Chg} (ha : KS a) (hb : KS b) (h : ∀ k, fnd a k = fnd b k) : a = b := by
 refine sorted_ext (r := fun (a b : Chg) => kLt a.key b.key) (fun _ => kLt_irrefl _) (fun _ _ h => kLt_asymm h) ha hb fun e => ⟨fun he => ?_, fun he => ?_⟩
 ·exact (fnd_key ((h e.key).symm.trans (fnd_mem ha he))).2
 ·exact (fnd_key ((h e.key).trans (fnd_mem hb he))).2
def revC (c : Chg) : Chg := mkC c.key c.aft c.bef
def revL (l : List Chg) : List Chg := l.map revC
theorem revL_ks {l : List Chg} (h : KS l) : KS (revL l) := by unfold KS revL; rw [List.pairwise_map]; exact h
theorem revC_err {c : Chg} (h : c.err = 0) : (revC c).err = 0 := by
 obtain ⟨h1, h2, h3, h4, h5, h6⟩ := Chg.err_zero.1 h
 exact Chg.err_zero.2 ⟨h1, h3, h2, h5, h4, fun e => h6 e.symm⟩
theorem revL_good {l : List Chg} (h : GoodC l) : GoodC (revL l) := by
 refine ⟨by unfold revL; rw [List.length_map]; exact h.1, fun c hc => ?_, revL_ks h.2.2⟩
 obtain ⟨d, hd, rfl⟩ := List.mem_map.1 hc
 exact revC_err (h.2.1 d hd)
theorem fnd_rev (l : List Chg) (k : Int × Int × Int) : fnd (revL l) k = (fnd l k).map revC := by
 unfold fnd revL; rw [List.find?_map]; rfl
def comp : List Chg → List Chg → Option (List Chg)
 | [], b => some b
 |x :: a, [] => some (x :: a)
 |x :: a, y :: b =>
  if kLt x.key y.key then (comp a (y :: b)).map (x :: ·)
  else if kLt y.key x.key then (comp (x :: a) b).map (y :: ·)
  else if x.aft ≠ y.bef then none
  else if x.bef ≠ y.aft then (comp a b).map (mkC x.key x.bef y.aft :: ·)
  else comp a b
termination_by a b => a.length + b.length
def badAt : Option Chg → Option Chg → Prop
 |some x, some y => x.aft ≠ y.bef
 |_, _ => False
def compAt : Option Chg → Option Chg → Option Chg
 |none, y => y
 |some x, none => some x
 |some x, some y => if x.bef = y.aft then none else some (mkC x.key x.bef y.aft)
theorem comp_nil (b : List Chg) : comp [] b = some b := by unfold comp; rfl
theorem comp_nil' (a : List Chg) : comp a [] = some a := by cases a <;> (unfold comp; rfl)
theorem badAt_none (y : Option Chg) : ¬ badAt none y := by unfold badAt; simp
theorem badAt_none' (x : Option Chg) : ¬ badAt x none := by unfold badAt; cases x <;> simp
theorem compAt_none' (x : Option Chg) : compAt x none = x := by cases x <;> rfl
theorem comp_keys {a b : List Chg} : ∀ {c : List Chg}, comp a b = some c → ∀ z ∈ c, (∃ x ∈ a, x.key = z.key) ∨ (∃ y ∈ b, y.key = z.key) := by
 induction a, b using comp.induct with
 |case1 b => intro c h z hz; rw [comp_nil] at h; cases h; exact .inr ⟨z, hz, rfl⟩
 |case2 x a => intro c h z hz; rw [comp_nil'] at h; cases h; exact .inl ⟨z, hz, rfl⟩
 |case3 x a y b h1 ih =>
  intro c h z hz
  rw [comp, if_pos h1] at h
  obtain ⟨c', hc, rfl⟩ := Option.map_eq_some_iff.1 h
  rcases List.mem_cons.1 hz with rfl | hz
  ·exact .inl ⟨_, List.mem_cons_self .., rfl⟩
  ·exact (ih hc z hz).imp (fun ⟨q, h, e⟩ => ⟨q, List.mem_cons_of_mem _ h, e⟩) id
 |case4 x a y b h1 h2 ih =>
  intro c h z hz
  rw [comp, if_neg h1, if_pos h2] at h
  obtain ⟨c', hc, rfl⟩ := Option.map_eq_some_iff.1 h
  rcases List.mem_cons.1 hz with rfl | hz
  ·exact .inr ⟨_, List.mem_cons_self .., rfl⟩
  ·exact (ih hc z hz).imp id (fun ⟨q, h, e⟩ => ⟨q, List.mem_cons_of_mem _ h, e⟩)
 |case5 x a y b h1 h2 h3 => intro c h; rw [comp, if_neg h1, if_neg h2, if_pos h3] at h; cases h
 |case6 x a y b h1 h2 h3 h4 ih =>
  intro c h z hz
  rw [comp, if_neg h1, if_neg h2, if_neg h3, if_pos h4] at h
  obtain ⟨c', hc, rfl⟩ := Option.map_eq_some_iff.1 h
  rcases List.mem_cons.1 hz with rfl | hz
  ·exact .inl ⟨_, List.mem_cons_self .., rfl⟩
  ·exact (ih hc z hz).imp (fun ⟨q, h, e⟩ => ⟨q, List.mem_cons_of_mem _ h, e⟩) (fun ⟨q, h, e⟩ => ⟨q, List.mem_cons_of_mem _ h, e⟩)
 |case7 x a y b h1 h2 h3 h4 ih =>
  intro c h z hz
  rw [comp, if_neg h1, if_neg h2, if_neg h3, if_neg h4] at h
  exact (ih h z hz).imp (fun ⟨q, h, e⟩ => ⟨q, List.mem_cons_of_mem _ h, e⟩) (fun ⟨q, h, e⟩ => ⟨q, List.mem_cons_of_mem _ h, e⟩)
theorem comp_ks {a b : List Chg} : ∀ {c : List Chg}, KS a → KS b → comp a b = some c → KS c := by
 induction a, b using comp.induct with
 |case1 b => intro c _ hb h; rw [comp_nil] at h; cases h; exact hb
 |case2 x a => intro c ha _ h; rw [comp_nil'] at h; cases h; exact ha
 |case3 x a y b h1 ih =>
  intro c ha hb h
  rw [comp, if_pos h1] at h
  obtain ⟨c', hc, rfl⟩ := Option.map_eq_some_iff.1 h
  refine KS.cons.2 ⟨fun z hz => ?_, ih (KS.cons.1 ha).2 hb hc⟩
  rcases comp_keys hc z hz with ⟨q, hq, e⟩ | ⟨q, hq, e⟩
  ·exact e ▸ (KS.cons.1 ha).1 q hq
  ·rcases List.mem_cons.1 hq with rfl | hq
   ·exact e ▸ h1
   ·exact e ▸ kLt_trans h1 ((KS.cons.1 hb).1 q hq)
 |case4 x a y b h1 h2 ih =>
  intro c ha hb h
  rw [comp, if_neg h1, if_pos h2] at h
  obtain ⟨c', hc, rfl⟩ := Option.map_eq_some_iff.1 h
  refine KS.cons.2 ⟨fun z hz => ?_, ih ha (KS.cons.1 hb).2 hc⟩
  rcases comp_keys hc z hz with ⟨q, hq, e⟩ | ⟨q, hq, e⟩
  ·rcases List.mem_cons.1 hq with rfl | hq
   ·exact e ▸ h2
   ·exact e ▸ kLt_trans h2 ((KS.cons.1 ha).1 q hq)
  ·exact e ▸ (KS.cons.1 hb).1 q hq
 |case5 x a y b h1 h2 h3 => intro c _ _ h; rw [comp, if_neg h1, if_neg h2, if_pos h3] at h; cases h
 |case6 x a y b h1 h2 h3 h4 ih =>
  intro c ha hb h
  rw [comp, if_neg h1, if_neg h2, if_neg h3, if_pos h4] at h
  obtain ⟨c', hc, rfl⟩ := Option.map_eq_some_iff.1 h
  have hk : x.key = y.key := by rcases kLt_tri x.key y.key with h | h | h; exact absurd h h1; exact h; exact absurd h h2
  refine KS.cons.2 ⟨fun z hz => ?_, ih (KS.cons.1 ha).2 (KS.cons.1 hb).2 hc⟩
  rw [mkC_key]
  rcases comp_keys hc z hz with ⟨q, hq, e⟩ | ⟨q, hq, e⟩
  ·exact e ▸ (KS.cons.1 ha).1 q hq
  ·rw [hk]; exact e ▸ (KS.cons.1 hb).1 q hq
 |case7 x a y b h1 h2 h3 h4 ih =>
  intro c ha hb h
  rw [comp, if_neg h1, if_neg h2, if_neg h3, if_neg h4] at h
  exact ih (KS.cons.1 ha).2 (KS.cons.1 hb).2 h
/-- Composition, key by key. -/
theorem comp_at {a b : List Chg} : ∀ {c : List Chg}, KS a → KS b → comp a b = some c → ∀ k, ¬ badAt (fnd a k) (fnd b k) ∧ fnd c k = compAt (fnd a k) (fnd b k) := by
 induction a, b using comp.induct with
 |case1 b => intro c _ hb h k; rw [comp_nil] at h; cases h; exact ⟨badAt_none _, rfl⟩
 |case2 x a => intro c ha _ h k; rw [comp_nil'] at h; cases h; exact ⟨badAt_none' _, (compAt_none' _).symm⟩
 |case3 x a y b h1 ih =>
  intro c ha hb h k
  rw [comp, if_pos h1] at h
  obtain ⟨c', hc, rfl⟩ := Option.map_eq_some_iff.1 h
  by_cases hk : x.key = k
  ·have hn : fnd (y :: b) k = none := by
    rw [fnd_cons, if_neg fun e => kLt_ne h1 (hk.trans e.symm), fnd_low hb (hk ▸ kLt_asymm h1)]
   rw [hn, fnd_cons, if_pos hk, fnd_cons, if_pos hk]
   exact ⟨badAt_none' _, rfl⟩
  ·rw [fnd_cons x a, if_neg hk, fnd_cons x c', if_neg hk]
   exact ih (KS.cons.1 ha).2 hb hc k
 |case4 x a y b h1 h2 ih =>
  intro c ha hb h k
  rw [comp, if_neg h1, if_pos h2] at h
  obtain ⟨c', hc, rfl⟩ := Option.map_eq_some_iff.1 h
  by_cases hk : y.key = k
  ·have hn : fnd (x :: a) k = none := by
    rw [fnd_cons, if_neg fun e => kLt_ne h2 (hk.trans e.symm), fnd_low ha (hk ▸ kLt_asymm h2)]
   rw [hn, fnd_cons, if_pos hk, fnd_cons, if_pos hk]
   exact ⟨badAt_none _, rfl⟩
  ·rw [fnd_cons y b, if_neg hk, fnd_cons y c', if_neg hk]
   exact ih ha (KS.cons.1 hb).2 hc k
 |case5 x a y b h1 h2 h3 => intro c _ _ h; rw [comp, if_neg h1, if_neg h2, if_pos h3] at h; cases h
 |case6 x a y b h1 h2 h3 h4 ih =>
  intro c ha hb h k
  rw [comp, if_neg h1, if_neg h2, if_neg h3, if_pos h4] at h
  obtain ⟨c', hc, rfl⟩ := Option.map_eq_some_iff.1 h
  have hk : x.key = y.key := by rcases kLt_tri x.key y.key with h | h | h; exact absurd h h1; exact h; exact absurd h h2
  by_cases hx : x.key = k
  ·rw [fnd_cons, if_pos hx, fnd_cons, if_pos (hk ▸ hx), fnd_cons, if_pos (by rw [mkC_key]; exact hx)]
   exact ⟨fun h => h3 h, (if_neg h4).symm⟩
  ·rw [fnd_cons, if_neg hx, fnd_cons, if_neg (hk ▸ hx), fnd_cons, if_neg (by rw [mkC_key]; exact hx)]
   exact ih (KS.cons.1 ha).2 (KS.cons.1 hb).2 hc k
 |case7 x a y b h1 h2 h3 h4 ih =>
  intro c ha hb h k
  rw [comp, if_neg h1, if_neg h2, if_neg h3, if_neg h4] at h
  have hk : x.key = y.key := by rcases kLt_tri x.key y.key with h | h | h; exact absurd h h1; exact h; exact absurd h h2
  have ih := ih (KS.cons.1 ha).2 (KS.cons.1 hb).2 h k
  by_cases hx : x.key = k
  ·rw [fnd_low ha (hx ▸ kLt_irrefl _), fnd_low hb (by rw [← hk, hx]; exact kLt_irrefl _)] at ih
   rw [fnd_cons, if_pos hx, fnd_cons, if_pos (hk ▸ hx), ih.2]
   refine ⟨fun h => h3 h, ?_⟩
   exact (if_pos (Decidable.of_not_not h4)).symm
  ·rw [fnd_cons, if_neg hx, fnd_cons, if_neg (hk ▸ hx)]
   exact ih
theorem comp_bad {a b : List Chg} : KS a → KS b → comp a b = none → ∃ k, badAt (fnd a k) (fnd b k) := by
 induction a, b using comp.induct with
 |case1 b => intro _ _ h; rw [comp_nil] at h; cases h
 |case2 x a => intro _ _ h; rw [comp_nil'] at h; cases h
 |case3 x a y b h1 ih =>
  intro ha hb h
  rw [comp, if_pos h1, Option.map_eq_none_iff] at h
  obtain ⟨k, hk⟩ := ih (KS.cons.1 ha).2 hb h
  refine ⟨k, ?_⟩
  rw [fnd_cons x a, if_neg]
  ·exact hk
  ·rintro rfl; rw [fnd_low ha (kLt_irrefl _)] at hk; exact badAt_none _ hk
 |case4 x a y b h1 h2 ih =>
  intro ha hb h
  rw [comp, if_neg h1, if_pos h2, Option.map_eq_none_iff] at h
  obtain ⟨k, hk⟩ := ih ha (KS.cons.1 hb).2 h
  refine ⟨k, ?_⟩
  rw [fnd_cons y b, if_neg]
  ·exact hk
  ·rintro rfl; rw [fnd_low hb (kLt_irrefl _)] at hk; exact badAt_none' _ hk
 |case5 x a y b h1 h2 h3 =>
  intro _ _ _
  have hk : x.key = y.key := by rcases kLt_tri x.key y.key with h | h | h; exact absurd h h1; exact h; exact absurd h h2
  refine ⟨x.key, ?_⟩
  rw [fnd_cons, if_pos rfl, fnd_cons, if_pos hk.symm]
  exact h3
 |case6 x a y b h1 h2 h3 h4 ih =>
  intro ha hb h
  rw [comp, if_neg h1, if_neg h2, if_neg h3, if_pos h4, Option.map_eq_none_iff] at h
  obtain ⟨k, hk⟩ := ih (KS.cons.1 ha).2 (KS.cons.1 hb).2 h
  have hxy : x.key = y.key := by rcases kLt_tri x.key y.key with h | h | h; exact absurd h h1; exact h; exact absurd h h2
  refine ⟨k, ?_⟩
  have hx : x.key ≠ k := by rintro rfl; rw [fnd_low ha (kLt_irrefl _)] at hk; exact badAt_none _ hk
  rw [fnd_cons, if_neg hx, fnd_cons, if_neg (hxy ▸ hx)]
  exact hk
 |case7 x a y b h1 h2 h3 h4 ih =>
  intro ha hb h
  rw [comp, if_neg h1, if_neg h2, if_neg h3, if_neg h4] at h
  obtain ⟨k, hk⟩ := ih (KS.cons.1 ha).2 (KS.cons.1 hb).2 h
  have hxy : x.key = y.key := by rcases kLt_tri x.key y.key with h | h | h; exact absurd h h1; exact h; exact absurd h h2
  refine ⟨k, ?_⟩
  have hx : x.key ≠ k := by rintro rfl; rw [fnd_low ha (kLt_irrefl _)] at hk; exact badAt_none _ hk
  rw [fnd_cons, if_neg hx, fnd_cons, if_neg (hxy ▸ hx)]
  exact hk
/-- What a composition is, known by its keys. -/
theorem comp_is {a b c : List Chg} (ha : KS a) (hb : KS b) (hc : KS c) (h1 : ∀ k, ¬ badAt (fnd a k) (fnd b k)) (h2 : ∀ k, fnd c k = compAt (fnd a k) (fnd b k)) : comp a b = some c := by
 cases h : comp a b with
 |none => obtain ⟨k, hk⟩ := comp_bad ha hb h; exact absurd hk (h1 k)
 |some d =>
  congr 1
  exact ks_ext (comp_ks ha hb h) hc fun k => ((comp_at ha hb h k).2.trans (h2 k).symm)
theorem comp_ok {a b : List Chg} : ∀ {c : List Chg}, (∀ x ∈ a, x.err = 0) → (∀ y ∈ b, y.err = 0) → comp a b = some c → ∀ z ∈ c, z.err = 0 := by
 induction a, b using comp.induct with
 |case1 b => intro c _ hb h z hz; rw [comp_nil] at h; cases h; exact hb z hz
 |case2 x a => intro c ha _ h z hz; rw [comp_nil'] at h; cases h; exact ha z hz
 |case3 x a y b h1 ih =>
  intro c ha hb h z hz
  rw [comp, if_pos h1] at h
  obtain ⟨c', hc, rfl⟩ := Option.map_eq_some_iff.1 h
  rcases List.mem_cons.1 hz with rfl | hz
  ·exact ha _ (List.mem_cons_self ..)
  ·exact ih (fun q hq => ha q (List.mem_cons_of_mem _ hq)) hb hc z hz
 |case4 x a y b h1 h2 ih =>
  intro c ha hb h z hz
  rw [comp, if_neg h1, if_pos h2] at h
  obtain ⟨c', hc, rfl⟩ := Option.map_eq_some_iff.1 h
  rcases List.mem_cons.1 hz with rfl | hz
  ·exact hb _ (List.mem_cons_self ..)
  ·exact ih ha (fun q hq => hb q (List.mem_cons_of_mem _ hq)) hc z hz
 |case5 x a y b h1 h2 h3 => intro c _ _ h; rw [comp, if_neg h1, if_neg h2, if_pos h3] at h; cases h
 |case6 x a y b h1 h2 h3 h4 ih =>
  intro c ha hb h z hz
  rw [comp, if_neg h1, if_neg h2, if_neg h3, if_pos h4] at h
  obtain ⟨c', hc, rfl⟩ := Option.map_eq_some_iff.1 h
  rcases List.mem_cons.1 hz with rfl | hz
  ·obtain ⟨x1, x2, _, x4, _, _⟩ := Chg.err_zero.1 (ha x (List.mem_cons_self ..))
   obtain ⟨_, _, y3, _, y5, _⟩ := Chg.err_zero.1 (hb y (List.mem_cons_self ..))
   exact Chg.err_zero.2 ⟨x1, x2, y3, x4, y5, h4⟩
  ·exact ih (fun q hq => ha q (List.mem_cons_of_mem _ hq)) (fun q hq => hb q (List.mem_cons_of_mem _ hq)) hc z hz
 |case7 x a y b h1 h2 h3 h4 ih =>
  intro c ha hb h z hz
  rw [comp, if_neg h1, if_neg h2, if_neg h3, if_neg h4] at h
  exact ih (fun q hq => ha q (List.mem_cons_of_mem _ hq)) (fun q hq => hb q (List.mem_cons_of_mem _ hq)) h z hz
theorem comp_len {a b : List Chg} : ∀ {c : List Chg}, comp a b = some c → c.length ≤ a.length + b.length := by
 induction a, b using comp.induct with
 |case1 b => intro c h; rw [comp_nil] at h; cases h; simp
 |case2 x a => intro c h; rw [comp_nil'] at h; cases h; simp
 |case3 x a y b h1 ih =>
  intro c h
  rw [comp, if_pos h1] at h
  obtain ⟨c', hc, rfl⟩ := Option.map_eq_some_iff.1 h
  have := ih hc
  simp only [List.length_cons] at *; omega
 |case4 x a y b h1 h2 ih =>
  intro c h
  rw [comp, if_neg h1, if_pos h2] at h
  obtain ⟨c', hc, rfl⟩ := Option.map_eq_some_iff.1 h
  have := ih hc
  simp only [List.length_cons] at *; omega
 |case5 x a y b h1 h2 h3 => intro c h; rw [comp, if_neg h1, if_neg h2, if_pos h3] at h; cases h
 |case6 x a y b h1 h2 h3 h4 ih =>
  intro c h
  rw [comp, if_neg h1, if_neg h2, if_neg h3, if_pos h4] at h
  obtain ⟨c', hc, rfl⟩ := Option.map_eq_some_iff.1 h
  have := ih hc
  simp only [List.length_cons] at *; omega
 |case7 x a y b h1 h2 h3 h4 ih =>
  intro c h
  rw [comp, if_neg h1, if_neg h2, if_neg h3, if_neg h4] at h
  have := ih h
  simp only [List.length_cons]; omega
open Go.RowKit
section
variable {α : Type} {cv : α → List Value} {N : Nat}
def LiesG (cv : α → List Value) (N : Nat) (w : World) (A : Option Addr) (l : List α) : Prop :=
 0 < l.length → ∃ b q, A = some ⟨b, q, none⟩ ∧ b < w.heap.size ∧ ∀ (k : Nat) (x : α), l[k]? = some x → ∀ j, j < N → w.cell? ⟨b, q + k * N + j, none⟩ = (cv x)[j]?
def cvs (cv : α → List Value) (l : List α) : List Value := l.flatMap cv
def OwnG (t : TypeId) (cv : α → List Value) (N : Nat) (base : Nat) (w : World) (v : Value) (l : List α) : Prop := w.ownsRow base t N v l.length (cvs cv l)
theorem LiesG.calm {w w' : World} {A : Option Addr} {l : List α} (h : LiesG cv N w A l) (hb : Calm w w') : LiesG cv N w' A l := fun hl => by
 obtain ⟨b, q, hA, hlt, hk⟩ := h hl
 exact ⟨b, q, hA, Nat.lt_of_lt_of_le hlt hb.size, fun k x hx j hj => (hb.facts.1 b _ hlt).trans (hk k x hx j hj)⟩
theorem LiesG.nil_ {w : World} {A : Option Addr} : LiesG cv N w A ([] : List α) := fun h => absurd h (by simp)
theorem cvs_len (hN : ∀ x, (cv x).length = N) (l : List α) : (cvs cv l).length = l.length * N := by
 unfold cvs
 induction l with
 |nil => simp
 |cons e l ih => rw [List.flatMap_cons, List.length_append, ih, hN, List.length_cons, Nat.succ_mul]; omega
theorem cvs_at (hN : ∀ x, (cv x).length = N) : ∀ (l : List α) (k j : Nat) (e : α), l[k]? = some e → j < N → (cvs cv l)[k * N + j]? = (cv e)[j]?
 | [], k, j, e, h, _ => by simp at h
 |x :: l, 0, j, e, h, hj => by
  simp at h; subst h
  show (cv x ++ cvs cv l)[0 * N + j]? = _
  rw [Nat.zero_mul, Nat.zero_add, List.getElem?_append_left (by rw [hN]; exact hj)]
 |x :: l, k + 1, j, e, h, hj => by
  show (cv x ++ cvs cv l)[(k + 1) * N + j]? = _
  rw [Nat.succ_mul, List.getElem?_append_right (by rw [hN]; omega), hN]
  rw [show k * N + N + j - N = k * N + j by omega]
  exact cvs_at hN l k j e (by simpa using h) hj
theorem cvs_snoc (l : List α) (e : α) : cvs cv (l ++ [e]) = cvs cv l ++ cv e := by unfold cvs; simp
theorem cvs_app (a b : List α) : cvs cv (a ++ b) = cvs cv a ++ cvs cv b := by unfold cvs; simp
theorem cvs_one (h1 : ∀ x, ∀ u ∈ cv x, u.oneCell' = true) (l : List α) : ∀ u ∈ cvs cv l, u.oneCell' = true := by
 intro u hu
 obtain ⟨e, _, h⟩ := List.mem_flatMap.1 hu
 exact h1 e u h
/-- Each cell of a row that stands in memory. -/
theorem LiesG.cells (hN : ∀ x, (cv x).length = N) (h0 : 0 < N) {w : World} {b q : Nat} {l : List α} (h : LiesG cv N w (some ⟨b, q, none⟩) l) : ∀ j v, (cvs cv l)[j]? = some v → b < w.heap.size ∧ w.cell? ⟨b, q + j, none⟩ = some v := fun j v hj => by
 have hlt : j < l.length * N := by rw [← cvs_len hN]; exact (List.getElem?_eq_some_iff.1 hj).1
 have hk : j / N < l.length := (Nat.div_lt_iff_lt_mul h0).2 hlt
 have hm : j % N < N := Nat.mod_lt _ h0
 have he := Nat.div_add_mod j N
 rw [Nat.mul_comm] at he
 have hel := List.getElem?_eq_getElem hk
 obtain ⟨b', q', hA, hb, hat⟩ := h (Nat.lt_of_le_of_lt (Nat.zero_le _) hk)
 injection hA with hA
 injection hA with h1 h2
 subst h1; subst h2
 have h6 := hat _ _ hel _ hm
 have hj2 := cvs_at hN l (j / N) (j % N) _ hel hm
 rw [he] at hj2
 rw [Nat.add_assoc, he] at h6
 rw [h6, ← hj2, hj]
 exact ⟨hb, rfl⟩
section
variable {t : TypeId} {base : Nat} {w w' : World} {v : Value} {l : List α}
theorem OwnG.lt (h : OwnG t cv N base w v l) : ∀ k, v.ownBlock = some k → base ≤ k ∧ k < w.heap.size := World.ownsRow.lt h
theorem OwnG.calm (h : OwnG t cv N base w v l) (hb : Calm w w') : OwnG t cv N base w' v l := World.ownsRow.kept h (hb.grownBy none) (by
 rcases v.ownBlock with _ | k
 ·exact .inl rfl
 ·exact .inr (by simp))
theorem OwnG.nil (t : TypeId) (cv : α → List Value) (N : Nat) (base : Nat) (w : World) : OwnG t cv N base w (.slice none 0 0) [] := World.ownsRow_nil _ _ _ _
theorem OwnG.weaken {base' : Nat} (h : OwnG t cv N base w v l) (hb : base' ≤ base) : OwnG t cv N base' w v l := ⟨h.1, h.2.imp id fun ⟨g, cap, cur, h1, h2, h3⟩ => ⟨g, cap, cur, h1, Nat.le_trans hb h2, h3⟩⟩
theorem Calm.grownG {a : World} (h : Calm a w) (hb : a.heap.size ≤ base) (ho : OwnG t cv N base w v l) (hg : w.grownBy w' v.ownBlock) : Calm a w' :=
 Below.grown h hg h.size fun k hk => Nat.le_trans hb (ho.lt k hk).1
theorem OwnG.lies (hN : ∀ x, (cv x).length = N) (h : OwnG t cv N base w v l) : ∃ A c, v = .slice A l.length c ∧ l.length ≤ c ∧ c ≤ 9223372036854775807 ∧ LiesG cv N w A l := by
 rcases h.2 with ⟨rfl, hl⟩ | ⟨g, cap, cur, rfl, _, hg, hnc, hcm, _, ht⟩
 ·have : l = [] := List.eq_nil_of_length_eq_zero hl
  subst this
  exact ⟨none, 0, rfl, Nat.le_refl _, by omega, LiesG.nil_⟩
 ·refine ⟨some ⟨g, 0, none⟩, cap, rfl, hnc, by simp only [maxLen] at hcm; omega, fun hpos => ⟨g, 0, rfl, (Array.getElem?_eq_some_iff.1 hg).1, fun k e he j hj => ?_⟩⟩
  have hk : k < l.length := (List.getElem?_eq_some_iff.1 he).1
  have hkn : k * N + j < l.length * N := by
   have := Nat.mul_le_mul_right N (show k + 1 ≤ l.length from hk)
   rw [Nat.succ_mul] at this
   omega
  rw [Nat.zero_add, cell_of_row w g _ cur _ (0, 0) hg, ← cvs_at hN l k j e he hj, ← ht, List.getElem?_take, if_pos hkn, Array.getElem?_toList]
theorem OwnG.at_ (hN : ∀ x, (cv x).length = N) {A : Option Addr} {n c : Nat} (h : OwnG t cv N base w (.slice A n c) l) : n = l.length ∧ LiesG cv N w A l := by
 obtain ⟨A', c', hv, _, _, hL⟩ := h.lies hN
 injection hv with h1 h2 h3
 subst h1
 exact ⟨h2, hL⟩
end
end
open Go.RowKit
def chgV (x : Chg) : List Value := [.int .i64 x.p, .int .i64 x.o, .int .i64 x.f, .bool x.hd, .bool x.hs, .string x.ws, .string x.vs]
theorem chgV_len (x : Chg) : (chgV x).length = 7 := rfl
theorem chgV_one (x : Chg) : ∀ u ∈ chgV x, u.oneCell' = true := by intro u hu; simp only [chgV, List.mem_cons, List.not_mem_nil, or_false] at hu; rcases hu with rfl | rfl | rfl | rfl | rfl | rfl | rfl <;> rfl
abbrev LiesC (w : World) (A : Option Addr) (l : List Chg) : Prop := LiesG chgV 7 w A l
abbrev OwnC (base : Nat) (w : World) (v : Value) (l : List Chg) : Prop := OwnG 33 chgV 7 base w v l
theorem infoChg : (Try.prog.info? 33).map (fun i => (i.zero, i.size, i.bytes)) = some (some (.agg #[.int .i64 0, .int .i64 0, .int .i64 0, .bool false, .bool false, .string ByteArray.empty, .string ByteArray.empty]), 7, 64) := by kernel_rfl
/-- What a walk reads of a change. -/
theorem chg_get {w : World} {A : Option Addr} {l : List Chg} (h : LiesC w A l) {k : Nat} (hk : k < l.length) : ∃ (b q : Nat) (p o f : Int) (hd hs : Bool) (ws vs : ByteArray), A = some ⟨b, q, none⟩ ∧ b < w.heap.size ∧ Hid (l[k]? = some ⟨p, o, f, hd, hs, ws, vs⟩) ∧
    w.cell? ⟨b, q + k * 7, none⟩ = some (.int .i64 p) ∧ w.cell? ⟨b, q + k * 7 + 1, none⟩ = some (.int .i64 o) ∧ w.cell? ⟨b, q + k * 7 + 2, none⟩ = some (.int .i64 f) ∧ w.cell? ⟨b, q + k * 7 + 3, none⟩ = some (.bool hd) ∧ w.cell? ⟨b, q + k * 7 + 4, none⟩ = some (.bool hs) ∧ w.cell? ⟨b, q + k * 7 + 5, none⟩ = some (.string ws) ∧ w.cell? ⟨b, q + k * 7 + 6, none⟩ = some (.string vs) := by
  obtain ⟨b, q, hA, hlt, hc⟩ := h (by omega)
  have he := List.getElem?_eq_getElem hk
  have h2 := hc k _ he
  generalize l[k] = z at he h2
  obtain ⟨p, o, f, hd, hs, ws, vs⟩ := z
  exact ⟨b, q, p, o, f, hd, hs, ws, vs, hA, hlt, he, h2 0 (by omega), h2 1 (by omega), h2 2 (by omega), h2 3 (by omega), h2 4 (by omega), h2 5 (by omega), h2 6 (by omega)⟩
theorem chg_get2 {w : World} {b q : Nat} {l : List Chg} (h : LiesC w (some ⟨b, q, none⟩) l) {k : Nat} (hk : k < l.length) : ∃ (p o f : Int) (hd hs : Bool) (ws vs : ByteArray), Hid (l[k]? = some ⟨p, o, f, hd, hs, ws, vs⟩) ∧
    w.cell? ⟨b, q + k * 7, none⟩ = some (.int .i64 p) ∧ w.cell? ⟨b, q + k * 7 + 1, none⟩ = some (.int .i64 o) ∧ w.cell? ⟨b, q + k * 7 + 2, none⟩ = some (.int .i64 f) ∧ w.cell? ⟨b, q + k * 7 + 3, none⟩ = some (.bool hd) ∧ w.cell? ⟨b, q + k * 7 + 4, none⟩ = some (.bool hs) ∧ w.cell? ⟨b, q + k * 7 + 5, none⟩ = some (.string ws) ∧ w.cell? ⟨b, q + k * 7 + 6, none⟩ = some (.string vs) := by
  obtain ⟨b', q', p, o, f, hd, hs, ws, vs, hA, hlt, he, h0, h1, h2, h3, h4, h5, h6⟩ := chg_get h hk
  injection hA with hA
  injection hA with e1 e2
  subst e1; subst e2
  exact ⟨p, o, f, hd, hs, ws, vs, he, h0, h1, h2, h3, h4, h5, h6⟩
theorem chg_own {w : World} {v : Value} {base : Nat} {l : List Chg} (h : OwnC base w v l) : ∃ A c, v = .slice A l.length c ∧ l.length ≤ c ∧ c ≤ 9223372036854775807 ∧ LiesC w A l := h.lies chgV_len
/-- append(out, c): one change more in a row of the call's own. -/
theorem wpList_append_chg {ops : Array Oper} {rest : List Oper} {o : Oper} {a : Act} {w : World} {Q : Exit → Act → World → Prop} (hgd : o.guard = none) (s x : Operand)
    (ho : o.op = .call { callee := .builtin .append, args := #[s, x], argTypes := #[23, 23] })
    (base : Nat) (v : Value) (l : List Chg) (hs : a.eval s = v) (hown : OwnC base w v l) (g t : Nat) (e : Chg) (fr : Nat × Nat)
    (hx : a.eval x = .slice (some ⟨g, 0, none⟩) 1 1) (hg : w.heap[g]? = some (.cells #[.int .i64 e.p, .int .i64 e.o, .int .i64 e.f, .bool e.hd, .bool e.hs, .string e.ws, .string e.vs] t fr)) (hl : (l.length + 1) * 64 ≤ 140737488355328) (hbase : base ≤ w.heap.size)
    (h : ∀ v' w', OwnC base w' v' (l ++ [e]) → (∀ w0 : World, w0.heap.size ≤ base → Calm w0 w → Calm w0 w') → wpList Try.prog ops Q rest (a.put o.dst v') w') : wpList Try.prog ops Q (o :: rest) a w := by
  obtain ⟨i0, hi, hz0, hz1, hz2⟩ := info_parts infoChg
  refine wpList_append_own w hgd s x _ ho base 33 i0 _ 7 64 Try.underlying23 hi hz0 hz1 hz2 rfl (by decide) v _ _ hs hown ⟨g, 0, none⟩ 1 1 (chgV e) hx rfl (fun j u hj => ?_) (chgV_one e) (by unfold maxLen; omega) (by omega) hbase fun v' w' h1 h2 _ => ?_
  · have : (⟨g, 0, none⟩ : Addr).add j = ⟨g, j, none⟩ := by unfold Addr.add; split <;> simp_all
    rw [this, cell_of_row w g j _ t fr hg, ← hj]
    simp [chgV]
  · refine h v' w' ?_ fun w0 h0 hc => hc.grownG h0 hown h2
    unfold OwnC OwnG
    rw [List.length_append, cvs_snoc]
    exact h1
theorem row7 {w : World} {g t : Nat} {a b c d e f x : Value} {fr : Nat × Nat} (h : w.heap[g]? = some (.cells #[a, b, c, d, e, f, x] t fr)) : w.cell? ⟨g, 0, none⟩ = some a ∧ w.cell? ⟨g, 1, none⟩ = some b ∧ w.cell? ⟨g, 2, none⟩ = some c ∧ w.cell? ⟨g, 3, none⟩ = some d ∧ w.cell? ⟨g, 4, none⟩ = some e ∧ w.cell? ⟨g, 5, none⟩ = some f ∧ w.cell? ⟨g, 6, none⟩ = some x ∧ g < w.heap.size :=
 ⟨cell_of_row _ _ 0 _ _ _ h, cell_of_row _ _ 1 _ _ _ h, cell_of_row _ _ 2 _ _ _ h, cell_of_row _ _ 3 _ _ _ h, cell_of_row _ _ 4 _ _ _ h, cell_of_row _ _ 5 _ _ _ h, cell_of_row _ _ 6 _ _ _ h, (Array.getElem?_eq_some_iff.1 h).1⟩
open Go.ChangeShapes Go.WideShapes Go.ChangeAt Go.RowKit
set_option maxHeartbeats 1000000 in
theorem chBefore_any (p o f : Int) (hd hs : Bool) (ws vs : ByteArray) (w : World) : Calls Try.prog 48 #[.agg #[.int .i64 p, .int .i64 o, .int .i64 f, .bool hd, .bool hs, .string ws, .string vs]] w fun e w' => e = .returned (.agg #[.bool hd, .string ws]) ∧ Calm w w' := by
 go_enter Try.func48, Try.ntmps48
 go_wp2_with fail
 go_returns
 exact ⟨rfl, by repeat (first | (with_reducible exact Calm.refl _) | (with_reducible refine Calm.alloc ?_ _) | (with_reducible refine Calm.drew ?_) | (with_reducible refine Calm.drewN ?_ _) | (refine Calm.call ?_ (by with_reducible assumption)))⟩
set_option maxHeartbeats 1000000 in
theorem chAfter_any (p o f : Int) (hd hs : Bool) (ws vs : ByteArray) (w : World) : Calls Try.prog 61 #[.agg #[.int .i64 p, .int .i64 o, .int .i64 f, .bool hd, .bool hs, .string ws, .string vs]] w fun e w' => e = .returned (.agg #[.bool hs, .string vs]) ∧ Calm w w' := by
 go_enter Try.func61, Try.ntmps61
 go_wp2_with fail
 go_returns
 exact ⟨rfl, by repeat (first | (with_reducible exact Calm.refl _) | (with_reducible refine Calm.alloc ?_ _) | (with_reducible refine Calm.drew ?_) | (with_reducible refine Calm.drewN ?_ _) | (refine Calm.call ?_ (by with_reducible assumption)))⟩
set_option maxHeartbeats 1000000 in
theorem chBetween_any (p o f : Int) (hd hs : Bool) (ws vs : ByteArray) (w : World) : Calls Try.prog 60 #[.agg #[.int .i64 p, .int .i64 o, .int .i64 f], .agg #[.bool hd, .string ws], .agg #[.bool hs, .string vs]] w fun e w' => e = .returned (.agg #[.int .i64 p, .int .i64 o, .int .i64 f, .bool hd, .bool hs, .string ws, .string vs]) ∧ Calm w w' := by
 go_enter Try.func60, Try.ntmps60
 go_wp2_with fail
 go_returns
 exact ⟨rfl, by repeat (first | (with_reducible exact Calm.refl _) | (with_reducible refine Calm.alloc ?_ _) | (with_reducible refine Calm.drew ?_) | (with_reducible refine Calm.drewN ?_ _) | (refine Calm.call ?_ (by with_reducible assumption)))⟩
theorem size_zero {s : ByteArray} (h : s.size = 0) : s = { data := #[] } := ByteArray.ext (Array.eq_empty_of_size_eq_zero h)
theorem str_some {s : ByteArray} (h : ¬ s.size = 0) : s.toList.isEmpty = false := by
 rw [ByteArray.toList_eq, Bool.eq_false_iff]
 intro e
 rw [List.isEmpty_iff] at e
 exact h (by show s.data.size = 0; rw [← Array.length_toList, e]; rfl)
set_option maxHeartbeats 1000000 in
theorem chFits_any (b : Bool) (s : ByteArray) (w : World) : Calls Try.prog 66 #[.agg #[.bool b, .string s]] w fun e w' => e = .returned (.bool (decide (fitS ⟨b, s⟩))) ∧ Calm w w' := by
 cases b with
 |true =>
  have K : Hid (true = decide (fitS ⟨true, s⟩)) := by show _ = _; rw [decide_eq_true (show fitS ⟨true, s⟩ from .inl rfl)]
  go_enter Try.func66, Try.ntmps66
  go_wp2_with fail
  go_ret
  exact ⟨ret_bool K.out, by repeat (first | (with_reducible exact Calm.refl _) | (with_reducible refine Calm.alloc ?_ _) | (with_reducible refine Calm.drew ?_) | (with_reducible refine Calm.drewN ?_ _) | (refine Calm.call ?_ (by with_reducible assumption)))⟩
 |false =>
  by_cases h : s.size = 0
  ·have K : Hid (true = decide (fitS ⟨false, s⟩)) := by show _ = _; rw [decide_eq_true (show fitS ⟨false, s⟩ from .inr h)]
   obtain rfl := size_zero h
   clear h
   go_enter Try.func66, Try.ntmps66
   go_wp2_with fail
   go_ret
   exact ⟨ret_bool K.out, by repeat (first | (with_reducible exact Calm.refl _) | (with_reducible refine Calm.alloc ?_ _) | (with_reducible refine Calm.drew ?_) | (with_reducible refine Calm.drewN ?_ _) | (refine Calm.call ?_ (by with_reducible assumption)))⟩
  ·have K : Hid (s.toList.isEmpty = decide (fitS ⟨false, s⟩)) := by
    show _ = _
    rw [str_some h, decide_eq_false]
    rintro (h1 | h1)
    ·cases h1
    ·exact h h1
   clear h
   go_enter Try.func66, Try.ntmps66
   go_wp2_with fail
   go_ret
   exact ⟨ret_bool K.out, by repeat (first | (with_reducible exact Calm.refl _) | (with_reducible refine Calm.alloc ?_ _) | (with_reducible refine Calm.drew ?_) | (with_reducible refine Calm.drewN ?_ _) | (refine Calm.call ?_ (by with_reducible assumption)))⟩
open Go.ChangeShapes Go.WideShapes Go.ChangeAt Go.RowKit
set_option maxHeartbeats 4000000 in
theorem checkChange_any (p o f : Int) (hd hs : Bool) (ws vs : ByteArray) (w : World) : Calls Try.prog 37 #[.agg #[.int .i64 p, .int .i64 o, .int .i64 f, .bool hd, .bool hs, .string ws, .string vs]] w fun e w' => e = .returned (.int .i64 (Chg.err ⟨p, o, f, hd, hs, ws, vs⟩)) ∧ Calm w w' := by
 have cK := fun u => keyCheck_any p o f u
 by_cases hk : keyErr p o f = 0
 rotate_left
 ·have K : Hid (keyErr p o f = Chg.err ⟨p, o, f, hd, hs, ws, vs⟩) := by show _ = _; unfold Chg.err; rw [if_neg hk]
  have b1 : (keyErr p o f != 0) = true := by simpa using hk
  generalize keyErr p o f = x at cK b1 K
  clear hk
  go_enter Try.func37, Try.ntmps37
  go_wp2_with (go_at_call 54; refine (cK _).mono ?_; rintro e w1 ⟨rfl, hb1⟩; have hx := (hb1.block (k := w.heap.size) (by simp)).trans (heap_new w _); obtain ⟨x0, x1, x2, x3, x4, x5, x6, hxs⟩ := row7 hx; have hu := ((Calm.refl w).alloc _).call hb1; clear hb1 hx)
  go_ret
  exact ⟨ret_int K.out, hu⟩
 rw [hk] at cK
 by_cases hz : ws.size ≤ 40 ∧ vs.size ≤ 40
 rotate_left
 ·have K : Hid (2 = Chg.err ⟨p, o, f, hd, hs, ws, vs⟩) := by show _ = _; unfold Chg.err; rw [if_pos hk, if_neg hz]
  clear hk
  by_cases h1 : ws.size ≤ 40
  ·have h2 : 40 < vs.size := by omega
   clear hz
   go_enter Try.func37, Try.ntmps37
   go_wp2_with (go_at_call 54; refine (cK _).mono ?_; rintro e w1 ⟨rfl, hb1⟩; have hx := (hb1.block (k := w.heap.size) (by simp)).trans (heap_new w _); obtain ⟨x0, x1, x2, x3, x4, x5, x6, hxs⟩ := row7 hx; have hu := ((Calm.refl w).alloc _).call hb1; clear hb1 hx)
   go_ret
   exact ⟨ret_int K.out, hu⟩
  ·have h2 : 40 < ws.size := by omega
   clear hz h1
   go_enter Try.func37, Try.ntmps37
   go_wp2_with (go_at_call 54; refine (cK _).mono ?_; rintro e w1 ⟨rfl, hb1⟩; have hx := (hb1.block (k := w.heap.size) (by simp)).trans (heap_new w _); obtain ⟨x0, x1, x2, x3, x4, x5, x6, hxs⟩ := row7 hx; have hu := ((Calm.refl w).alloc _).call hb1; clear hb1 hx)
   go_ret
   exact ⟨ret_int K.out, hu⟩
 obtain ⟨z1, z2⟩ := hz
 by_cases f1 : fitS ⟨hd, ws⟩
 rotate_left
 ·skip
  have K : Hid (3 = Chg.err ⟨p, o, f, hd, hs, ws, vs⟩) := by show _ = _; unfold Chg.err; rw [if_pos hk, if_pos ⟨z1, z2⟩, if_neg fun h => f1 h.1]
  have cB := fun u => chBefore_any p o f hd hs ws vs u
  have cA := fun u => chAfter_any p o f hd hs ws vs u
  have cF1 := fun u => chFits_any hd ws u
  have cF2 := fun u => chFits_any hs vs u
  rw [decide_eq_false f1] at cF1
  clear f1 hk
  go_enter Try.func37, Try.ntmps37
  go_upto_region 6 with (go_at_call 54; refine (cK _).mono ?_; rintro e w1 ⟨rfl, hb1⟩; have hx := (hb1.block (k := w.heap.size) (by simp)).trans (heap_new w _); obtain ⟨x0, x1, x2, x3, x4, x5, x6, hxs⟩ := row7 hx; have hu := ((Calm.refl w).alloc _).call hb1; clear hb1 hx)
  refine wp_region_plan [.val ((.agg #[.int .i64 p, .int .i64 o, .int .i64 f, .bool hd, .bool hs, .string ws, .string vs])), .val (.agg #[.bool hd, .string ws]), .val (.bool false), .val (.bool true), .val (.bool true), .idle, .idle, .idle, .idle, .val (.bool true), .val (.bool true), .idle, .idle, .idle, .idle, .idle, .val (.bool true)] (by kernel_rfl) (by kernel_rfl) (by kernel_rfl) ?_
  intro X
  iterate 5
   refine plan_val (by kernel_rfl) (fun u hu => ?_) ?_
   ·obtain ⟨hc, hf, hz⟩ := hu.of_drew.facts
    go_simp
    all_goals first
     |(go_at_call 48; exact cB _)
     |(go_at_call 61; exact cA _)
     |(go_at_call 66; exact cF1 _)
     |(go_at_call 66; exact cF2 _)
   simp only [Act.put, List.setIfInBounds_toArray, List.set_cons_zero, List.set_cons_succ, Nat.reduceAdd]
  iterate 4
   refine plan_idle (by kernel_rfl) ?_
   simp only [Act.put, List.setIfInBounds_toArray, List.set_cons_zero, List.set_cons_succ, Nat.reduceAdd]
  iterate 2
   refine plan_val (by kernel_rfl) (fun u hu => ?_) ?_
   ·obtain ⟨hc, hf, hz⟩ := hu.of_drew.facts
    go_simp
    all_goals first
     |(go_at_call 48; exact cB _)
     |(go_at_call 61; exact cA _)
     |(go_at_call 66; exact cF1 _)
     |(go_at_call 66; exact cF2 _)
   simp only [Act.put, List.setIfInBounds_toArray, List.set_cons_zero, List.set_cons_succ, Nat.reduceAdd]
  iterate 5
   refine plan_idle (by kernel_rfl) ?_
   simp only [Act.put, List.setIfInBounds_toArray, List.set_cons_zero, List.set_cons_succ, Nat.reduceAdd]
  iterate 1
   refine plan_val (by kernel_rfl) (fun u hu => ?_) ?_
   ·obtain ⟨hc, hf, hz⟩ := hu.of_drew.facts
    go_simp
    all_goals first
     |(go_at_call 48; exact cB _)
     |(go_at_call 61; exact cA _)
     |(go_at_call 66; exact cF1 _)
     |(go_at_call 66; exact cF2 _)
   simp only [Act.put, List.setIfInBounds_toArray, List.set_cons_zero, List.set_cons_succ, Nat.reduceAdd]
  refine plan_end ?_
  intro w' hB
  have hk := hB.calm.of_drew
  clear hB
  go_wp2_with fail
  go_ret
  exact ⟨ret_int K.out, hu.call hk⟩
 by_cases f2 : fitS ⟨hs, vs⟩
 rotate_left
 ·skip
  have K : Hid (3 = Chg.err ⟨p, o, f, hd, hs, ws, vs⟩) := by show _ = _; unfold Chg.err; rw [if_pos hk, if_pos ⟨z1, z2⟩, if_neg fun h => f2 h.2.1]
  have cB := fun u => chBefore_any p o f hd hs ws vs u
  have cA := fun u => chAfter_any p o f hd hs ws vs u
  have cF1 := fun u => chFits_any hd ws u
  have cF2 := fun u => chFits_any hs vs u
  rw [decide_eq_true f1] at cF1
  rw [decide_eq_false f2] at cF2
  clear f1 f2 hk
  go_enter Try.func37, Try.ntmps37
  go_upto_region 6 with (go_at_call 54; refine (cK _).mono ?_; rintro e w1 ⟨rfl, hb1⟩; have hx := (hb1.block (k := w.heap.size) (by simp)).trans (heap_new w _); obtain ⟨x0, x1, x2, x3, x4, x5, x6, hxs⟩ := row7 hx; have hu := ((Calm.refl w).alloc _).call hb1; clear hb1 hx)
  refine wp_region_plan [.val ((.agg #[.int .i64 p, .int .i64 o, .int .i64 f, .bool hd, .bool hs, .string ws, .string vs])), .val (.agg #[.bool hd, .string ws]), .val (.bool true), .val (.bool false), .val (.bool false), .val ((.agg #[.int .i64 p, .int .i64 o, .int .i64 f, .bool hd, .bool hs, .string ws, .string vs])), .val (.agg #[.bool hs, .string vs]), .val (.bool false), .val (.bool true), .val (.bool true), .val (.bool true), .idle, .idle, .idle, .idle, .idle, .val (.bool true)] (by kernel_rfl) (by kernel_rfl) (by kernel_rfl) ?_
  intro X
  iterate 11
   refine plan_val (by kernel_rfl) (fun u hu => ?_) ?_
   ·obtain ⟨hc, hf, hz⟩ := hu.of_drew.facts
    go_simp
    all_goals first
     |(go_at_call 48; exact cB _)
     |(go_at_call 61; exact cA _)
     |(go_at_call 66; exact cF1 _)
     |(go_at_call 66; exact cF2 _)
   simp only [Act.put, List.setIfInBounds_toArray, List.set_cons_zero, List.set_cons_succ, Nat.reduceAdd]
  iterate 5
   refine plan_idle (by kernel_rfl) ?_
   simp only [Act.put, List.setIfInBounds_toArray, List.set_cons_zero, List.set_cons_succ, Nat.reduceAdd]
  iterate 1
   refine plan_val (by kernel_rfl) (fun u hu => ?_) ?_
   ·obtain ⟨hc, hf, hz⟩ := hu.of_drew.facts
    go_simp
    all_goals first
     |(go_at_call 48; exact cB _)
     |(go_at_call 61; exact cA _)
     |(go_at_call 66; exact cF1 _)
     |(go_at_call 66; exact cF2 _)
   simp only [Act.put, List.setIfInBounds_toArray, List.set_cons_zero, List.set_cons_succ, Nat.reduceAdd]
  refine plan_end ?_
  intro w' hB
  have hk := hB.calm.of_drew
  clear hB
  go_wp2_with fail
  go_ret
  exact ⟨ret_int K.out, hu.call hk⟩
 by_cases h3 : hd = hs
 ·subst h3
  by_cases h4 : ws = vs
  ·subst h4
   have K : Hid (3 = Chg.err ⟨p, o, f, hd, hd, ws, ws⟩) := by show _ = _; unfold Chg.err; rw [if_pos hk, if_pos ⟨z1, z2⟩, if_neg fun h => h.2.2 rfl]
   have cB := fun u => chBefore_any p o f hd hd ws ws u
   have cA := fun u => chAfter_any p o f hd hd ws ws u
   have cF1 := fun u => chFits_any hd ws u
   have cF2 := fun u => chFits_any hd ws u
   rw [decide_eq_true f1] at cF1
   rw [decide_eq_true f2] at cF2
   clear f1 f2 hk
   go_enter Try.func37, Try.ntmps37
   go_upto_region 6 with (go_at_call 54; refine (cK _).mono ?_; rintro e w1 ⟨rfl, hb1⟩; have hx := (hb1.block (k := w.heap.size) (by simp)).trans (heap_new w _); obtain ⟨x0, x1, x2, x3, x4, x5, x6, hxs⟩ := row7 hx; have hu := ((Calm.refl w).alloc _).call hb1; clear hb1 hx)
   refine wp_region_plan [.val ((.agg #[.int .i64 p, .int .i64 o, .int .i64 f, .bool hd, .bool hd, .string ws, .string ws])), .val (.agg #[.bool hd, .string ws]), .val (.bool true), .val (.bool false), .val (.bool false), .val ((.agg #[.int .i64 p, .int .i64 o, .int .i64 f, .bool hd, .bool hd, .string ws, .string ws])), .val (.agg #[.bool hd, .string ws]), .val (.bool true), .val (.bool false), .val (.bool false), .val (.bool false), .val ((.agg #[.int .i64 p, .int .i64 o, .int .i64 f, .bool hd, .bool hd, .string ws, .string ws])), .val (.agg #[.bool hd, .string ws]), .val ((.agg #[.int .i64 p, .int .i64 o, .int .i64 f, .bool hd, .bool hd, .string ws, .string ws])), .val (.agg #[.bool hd, .string ws]), .val (.bool true), .val (.bool true)] (by kernel_rfl) (by kernel_rfl) (by kernel_rfl) ?_
   intro X
   iterate 17
    refine plan_val (by kernel_rfl) (fun u hu => ?_) ?_
    ·obtain ⟨hc, hf, hz⟩ := hu.of_drew.facts
     go_simp
     all_goals first
      |(go_at_call 48; exact cB _)
      |(go_at_call 61; exact cA _)
      |(go_at_call 66; exact cF1 _)
      |(go_at_call 66; exact cF2 _)
    simp only [Act.put, List.setIfInBounds_toArray, List.set_cons_zero, List.set_cons_succ, Nat.reduceAdd]
   refine plan_end ?_
   intro w' hB
   have hk := hB.calm.of_drew
   clear hB
   go_wp2_with fail
   go_ret
   exact ⟨ret_int K.out, hu.call hk⟩
  ·skip
   have K : Hid (0 = Chg.err ⟨p, o, f, hd, hd, ws, vs⟩) := by show _ = _; unfold Chg.err; rw [if_pos hk, if_pos ⟨z1, z2⟩, if_pos ⟨f1, f2, fun e => h4 (St.ext_iff'.1 e).2⟩]
   have cB := fun u => chBefore_any p o f hd hd ws vs u
   have cA := fun u => chAfter_any p o f hd hd ws vs u
   have cF1 := fun u => chFits_any hd ws u
   have cF2 := fun u => chFits_any hd vs u
   rw [decide_eq_true f1] at cF1
   rw [decide_eq_true f2] at cF2
   have e1 := str_ne h4
   clear f1 f2 hk h4
   go_enter Try.func37, Try.ntmps37
   go_upto_region 6 with (go_at_call 54; refine (cK _).mono ?_; rintro e w1 ⟨rfl, hb1⟩; have hx := (hb1.block (k := w.heap.size) (by simp)).trans (heap_new w _); obtain ⟨x0, x1, x2, x3, x4, x5, x6, hxs⟩ := row7 hx; have hu := ((Calm.refl w).alloc _).call hb1; clear hb1 hx)
   refine wp_region_plan [.val ((.agg #[.int .i64 p, .int .i64 o, .int .i64 f, .bool hd, .bool hd, .string ws, .string vs])), .val (.agg #[.bool hd, .string ws]), .val (.bool true), .val (.bool false), .val (.bool false), .val ((.agg #[.int .i64 p, .int .i64 o, .int .i64 f, .bool hd, .bool hd, .string ws, .string vs])), .val (.agg #[.bool hd, .string vs]), .val (.bool true), .val (.bool false), .val (.bool false), .val (.bool false), .val ((.agg #[.int .i64 p, .int .i64 o, .int .i64 f, .bool hd, .bool hd, .string ws, .string vs])), .val (.agg #[.bool hd, .string ws]), .val ((.agg #[.int .i64 p, .int .i64 o, .int .i64 f, .bool hd, .bool hd, .string ws, .string vs])), .val (.agg #[.bool hd, .string vs]), .val (.bool false), .val (.bool false)] (by kernel_rfl) (by kernel_rfl) (by kernel_rfl) ?_
   intro X
   iterate 17
    refine plan_val (by kernel_rfl) (fun u hu => ?_) ?_
    ·obtain ⟨hc, hf, hz⟩ := hu.of_drew.facts
     go_simp
     all_goals first
      |(go_at_call 48; exact cB _)
      |(go_at_call 61; exact cA _)
      |(go_at_call 66; exact cF1 _)
      |(go_at_call 66; exact cF2 _)
    simp only [Act.put, List.setIfInBounds_toArray, List.set_cons_zero, List.set_cons_succ, Nat.reduceAdd]
   refine plan_end ?_
   intro w' hB
   have hk := hB.calm.of_drew
   clear hB
   go_wp2_with fail
   go_ret
   exact ⟨ret_int K.out, hu.call hk⟩
 ·skip
  have K : Hid (0 = Chg.err ⟨p, o, f, hd, hs, ws, vs⟩) := by show _ = _; unfold Chg.err; rw [if_pos hk, if_pos ⟨z1, z2⟩, if_pos ⟨f1, f2, fun e => h3 (St.ext_iff'.1 e).1⟩]
  have cB := fun u => chBefore_any p o f hd hs ws vs u
  have cA := fun u => chAfter_any p o f hd hs ws vs u
  have cF1 := fun u => chFits_any hd ws u
  have cF2 := fun u => chFits_any hs vs u
  rw [decide_eq_true f1] at cF1
  rw [decide_eq_true f2] at cF2
  have e1 : (hd == hs) = false := by simpa using h3
  clear f1 f2 hk h3
  go_enter Try.func37, Try.ntmps37
  go_upto_region 6 with (go_at_call 54; refine (cK _).mono ?_; rintro e w1 ⟨rfl, hb1⟩; have hx := (hb1.block (k := w.heap.size) (by simp)).trans (heap_new w _); obtain ⟨x0, x1, x2, x3, x4, x5, x6, hxs⟩ := row7 hx; have hu := ((Calm.refl w).alloc _).call hb1; clear hb1 hx)
  refine wp_region_plan [.val ((.agg #[.int .i64 p, .int .i64 o, .int .i64 f, .bool hd, .bool hs, .string ws, .string vs])), .val (.agg #[.bool hd, .string ws]), .val (.bool true), .val (.bool false), .val (.bool false), .val ((.agg #[.int .i64 p, .int .i64 o, .int .i64 f, .bool hd, .bool hs, .string ws, .string vs])), .val (.agg #[.bool hs, .string vs]), .val (.bool true), .val (.bool false), .val (.bool false), .val (.bool false), .val ((.agg #[.int .i64 p, .int .i64 o, .int .i64 f, .bool hd, .bool hs, .string ws, .string vs])), .val (.agg #[.bool hd, .string ws]), .val ((.agg #[.int .i64 p, .int .i64 o, .int .i64 f, .bool hd, .bool hs, .string ws, .string vs])), .val (.agg #[.bool hs, .string vs]), .val (.bool false), .val (.bool false)] (by kernel_rfl) (by kernel_rfl) (by kernel_rfl) ?_
  intro X
  iterate 17
   refine plan_val (by kernel_rfl) (fun u hu => ?_) ?_
   ·obtain ⟨hc, hf, hz⟩ := hu.of_drew.facts
    go_simp
    all_goals first
     |(go_at_call 48; exact cB _)
     |(go_at_call 61; exact cA _)
     |(go_at_call 66; exact cF1 _)
     |(go_at_call 66; exact cF2 _)
   simp only [Act.put, List.setIfInBounds_toArray, List.set_cons_zero, List.set_cons_succ, Nat.reduceAdd]
  refine plan_end ?_
  intro w' hB
  have hk := hB.calm.of_drew
  clear hB
  go_wp2_with fail
  go_ret
  exact ⟨ret_int K.out, hu.call hk⟩
open Go.ChangeShapes Go.WideShapes Go.ChangeAt Go.RowKit
def NoErrC (l : List Chg) (k : Nat) : Prop := ∀ j, j < k → stepC l j = 0
theorem chErr_at {l : List Chg} {k : Nat} (hbig : ¬ 400 < l.length) (hN : NoErrC l k) (hk : stepC l k ≠ 0) (hlt : k < l.length) : stepC l k = chErr l := by
 unfold chErr; rw [if_neg hbig, firstErr_at hN hk hlt]
theorem chErr_good {l : List Chg} (hbig : ¬ 400 < l.length) (hN : NoErrC l l.length) : 0 = chErr l := by
 unfold chErr; rw [if_neg hbig]; exact (firstErr_zero.2 hN).symm
theorem stepC_err {l : List Chg} {k : Nat} {c : Chg} (h : l[k]? = some c) (he : c.err ≠ 0) : stepC l k = c.err := by
 unfold stepC; rw [h]; simp only; rw [if_pos he]
theorem stepC_first {l : List Chg} {c : Chg} (h : l[0]? = some c) (he : c.err = 0) : stepC l 0 = 0 := by
 unfold stepC; rw [h]; simp [he]
theorem stepC_form {l : List Chg} {k : Nat} {c q : Chg} (h : l[k]? = some c) (he : c.err = 0) (hk : 0 < k) (hq : l[k - 1]? = some q) : stepC l k = if kLt q.key c.key then 0 else 3 := by
 unfold stepC; rw [h]; simp only; rw [if_neg (by simpa using he), if_neg (by omega), hq]
set_option maxHeartbeats 8000000 in
theorem chCheck_any (A : Option Addr) (c : Nat) (l : List Chg) (w : World) (hn : l.length ≤ 9223372036854775807) (hL : LiesC w A l) :
    Calls Try.prog 17 #[.slice A l.length c] w fun e w' => e = .returned (.int .i64 (chErr l)) ∧ Calm w w' := by
  by_cases hbig : 400 < l.length
  · have K : Hid (2 = chErr l) := by show _ = _; unfold chErr; rw [if_pos hbig]
    go_enter Try.func17, Try.ntmps17
    go_wp2_with fail
    go_ret
    exact ⟨ret_int K.out, Calm.refl _⟩
  go_enter Try.func17, Try.ntmps17
  go_wp2_with fail
  go_loopw [11] (fun i wr => ∃ k : Nat, k ≤ l.length ∧ i = .int .i64 k ∧ Calm w wr ∧ NoErrC l k) (fun i _ => l.length - (intOf i).toNat)
  case atStart => exact ⟨0, Nat.zero_le _, rfl, Calm.refl _, fun j hj => absurd hj (Nat.not_lt_zero _)⟩
  case round =>
    obtain ⟨k, hk, rfl, hu, hN⟩ := hrel
    by_cases hlt : k < l.length
    rotate_left
    · have hkl : k = l.length := by omega
      have K : Hid (0 = chErr l) := chErr_good hbig (by rw [← hkl]; exact hN)
      clear hkl
      go_wp2_with fail
      go_ret
      exact ⟨ret_int K.out, hu⟩
    obtain ⟨b, q, p, o, f, hd, hs, ws, vs, rfl, hb, HE, c0, c1, c2, c3, c4, c5, c6⟩ := chg_get (hL.calm hu) hlt
    have cC := fun u => checkChange_any p o f hd hs ws vs u
    by_cases he : Chg.err ⟨p, o, f, hd, hs, ws, vs⟩ = 0
    rotate_left
    · have b1 : (Chg.err ⟨p, o, f, hd, hs, ws, vs⟩ != 0) = true := by simpa using he
      have K : Hid (Chg.err ⟨p, o, f, hd, hs, ws, vs⟩ = chErr l) := by
        have h1 := stepC_err HE.out he
        rw [← chErr_at hbig hN (by rw [h1]; exact he) hlt, h1]; rfl
      generalize Chg.err ⟨p, o, f, hd, hs, ws, vs⟩ = E at cC b1 K
      clear he
      go_wp2_with (go_at_call 37; refine (cC _).mono ?_; rintro e w1 ⟨rfl, hb1⟩)
      go_ret
      exact ⟨ret_int K.out, by repeat (first | (with_reducible exact Calm.refl _) | (with_reducible refine Calm.alloc ?_ _) | (with_reducible refine Calm.drew ?_) | (with_reducible refine Calm.drewN ?_ _) | (refine Calm.call ?_ (by with_reducible assumption)))⟩
    rw [he] at cC
    have HE0 : Hid (Chg.err ⟨p, o, f, hd, hs, ws, vs⟩ = 0) := he
    clear he
    by_cases hk0 : k = 0
    · subst hk0
      have hN1 : NoErrC l 1 := fun j hj => by
        have : j = 0 := by omega
        subst this
        exact stepC_first HE.out HE0.out
      simp only [Nat.zero_mul, Nat.add_zero] at c0 c1 c2 c3 c4 c5 c6
      go_wp2_with (go_at_call 37; refine (cC _).mono ?_; rintro e w1 ⟨rfl, hb1⟩)
      refine wp_region_plan [.val (.int .i64 (0)), .val (.bool false), .val (.bool false), .idle, .idle, .idle, .idle, .idle, .idle, .idle, .idle, .idle, .idle, .val (.bool false)] (by kernel_rfl) (by kernel_rfl) (by kernel_rfl) ?_
      intro X
      iterate 3
        refine plan_val (by kernel_rfl) (fun u hu => ?_) ?_
        · obtain ⟨hc, hf, hz⟩ := hu.of_drew.facts
          go_simp
        simp only [Act.put, List.setIfInBounds_toArray, List.set_cons_zero, List.set_cons_succ, Nat.reduceAdd]
      iterate 10
        refine plan_idle (by kernel_rfl) ?_
        simp only [Act.put, List.setIfInBounds_toArray, List.set_cons_zero, List.set_cons_succ, Nat.reduceAdd]
      iterate 1
        refine plan_val (by kernel_rfl) (fun u hu => ?_) ?_
        · obtain ⟨hc, hf, hz⟩ := hu.of_drew.facts
          go_simp
        simp only [Act.put, List.setIfInBounds_toArray, List.set_cons_zero, List.set_cons_succ, Nat.reduceAdd]
      refine plan_end ?_
      intro w' hB
      have hk := hB.calm.of_drew
      clear hB
      go_wp2_with fail
      exact ⟨⟨1, by omega, rfl, ((hu.alloc _).call hb1).call hk, hN1⟩, by simp [intOf]; omega⟩
    obtain ⟨p', o', f', hd', hs', ws', vs', HE', d0, d1, d2, d3, d4, d5, d6⟩ := chg_get2 (hL.calm hu) (k := k - 1) (by omega)
    have hS := stepC_form HE.out HE0.out (by omega) HE'.out
    have hk1 : 1 ≤ k := by omega
    have cM := fun u => cmp_any p' o' f' p o f u
    by_cases hF : kLt (p', o', f') (p, o, f)
    · rw [if_pos (show kLt (Chg.key ⟨p', o', f', hd', hs', ws', vs'⟩) (Chg.key ⟨p, o, f, hd, hs, ws, vs⟩) from hF)] at hS
      rw [show kcmp p' o' f' p o f = -1 from kcmp_kLt.2 hF] at cM
      have hN1 : NoErrC l (k + 1) := fun j hj => by
        rcases Nat.lt_or_ge j k with h | h
        · exact hN j h
        · rw [show j = k by omega]; exact hS
      clear hS hF hk0
      go_wp2_with (go_at_call 37; refine (cC _).mono ?_; rintro e w1 ⟨rfl, hb1⟩)
      have hx := (hb1.block (k := wr.heap.size) (by simp)).trans (heap_new wr _)
      obtain ⟨x0, x1, x2, x3, x4, x5, x6, hxs⟩ := row7 hx
      have hv := ((Calm.refl wr).alloc _).call hb1
      have hv1 := hu.call hv
      have hb2 : b < w1.heap.size := Nat.lt_of_lt_of_le hb hv.size
      have hvc := hv.facts.1
      replace d0 := (hvc _ _ hb).trans d0; replace d1 := (hvc _ _ hb).trans d1; replace d2 := (hvc _ _ hb).trans d2
      clear hvc hv hb1 hx c0 c1 c2 c3 c4 c5 c6 d3 d4 d5 d6 hL
      have z0 : 0 < k := hk1
      have z1 : IntKind.i64.wrap ((k : Int) - 1) = (k : Int) - 1 := IntWalk.i64_in _ (by omega)
      have z2 : ((k : Int) - 1).toNat = k - 1 := by omega
      have z3 : 0 ≤ (k : Int) - 1 := by omega
      have z4 : (k : Int) - 1 < l.length := by omega
      have z5 : 1 ≤ (k : Int) := by omega
      refine wp_region_plan [.val (.int .i64 ((k : Int))), .val (.bool true), .val (.bool true), .val (.slice (some ⟨b, q, none⟩) l.length c), .val (.int .i64 ((k : Int))), .val (.int .i64 ((k : Int) - 1)), .val (.pointer (some ⟨b, q + (k - 1) * 7, none⟩)), .val (.pointer (some ⟨b, q + (k - 1) * 7, none⟩)), .val (.agg #[.int .i64 p', .int .i64 o', .int .i64 f']), .val (.pointer (some ⟨wr.heap.size, 0, none⟩)), .val (.agg #[.int .i64 p, .int .i64 o, .int .i64 f]), .val (.int .i64 (-1)), .val (.bool false), .val (.bool false)] (by kernel_rfl) (by kernel_rfl) (by kernel_rfl) ?_
      intro X
      iterate 14
        refine plan_val (by kernel_rfl) (fun u hu => ?_) ?_
        · obtain ⟨hc, hf, hz⟩ := hu.of_drew.facts
          go_simp
          all_goals first
            | (go_at_call 38; exact cM _)
        simp only [Act.put, List.setIfInBounds_toArray, List.set_cons_zero, List.set_cons_succ, Nat.reduceAdd]
      refine plan_end ?_
      intro w' hB
      have hk := hB.calm.of_drew
      clear hB
      clear z0 z1 z2 z3 z4 z5
      go_wp2_with fail
      go_roundw
      case rel => exact ⟨k + 1, by omega, by go_num, hv1.call hk, hN1⟩
      case measure => simp [intOf]; omega
    · rw [if_neg (show ¬ kLt (Chg.key ⟨p', o', f', hd', hs', ws', vs'⟩) (Chg.key ⟨p, o, f, hd, hs, ws, vs⟩) from hF)] at hS
      have K : Hid (3 = chErr l) := hS.symm.trans (chErr_at hbig hN (by rw [hS]; decide) hlt)
      have hx1 : kcmp p' o' f' p o f = 0 ∨ kcmp p' o' f' p o f = 1 := by
        rcases kcmp_or p' o' f' p o f with h | h | h
        · exact absurd (kcmp_kLt.1 h) hF
        · exact .inl h
        · exact .inr h
      generalize kcmp p' o' f' p o f = M at cM hx1
      have hx0 : 0 ≤ M := by omega
      clear hx1
      clear hS hF hk0
      go_wp2_with (go_at_call 37; refine (cC _).mono ?_; rintro e w1 ⟨rfl, hb1⟩)
      have hx := (hb1.block (k := wr.heap.size) (by simp)).trans (heap_new wr _)
      obtain ⟨x0, x1, x2, x3, x4, x5, x6, hxs⟩ := row7 hx
      have hv := ((Calm.refl wr).alloc _).call hb1
      have hv1 := hu.call hv
      have hb2 : b < w1.heap.size := Nat.lt_of_lt_of_le hb hv.size
      have hvc := hv.facts.1
      replace d0 := (hvc _ _ hb).trans d0; replace d1 := (hvc _ _ hb).trans d1; replace d2 := (hvc _ _ hb).trans d2
      clear hvc hv hb1 hx c0 c1 c2 c3 c4 c5 c6 d3 d4 d5 d6 hL
      have z0 : 0 < k := hk1
      have z1 : IntKind.i64.wrap ((k : Int) - 1) = (k : Int) - 1 := IntWalk.i64_in _ (by omega)
      have z2 : ((k : Int) - 1).toNat = k - 1 := by omega
      have z3 : 0 ≤ (k : Int) - 1 := by omega
      have z4 : (k : Int) - 1 < l.length := by omega
      have z5 : 1 ≤ (k : Int) := by omega
      refine wp_region_plan [.val (.int .i64 ((k : Int))), .val (.bool true), .val (.bool true), .val (.slice (some ⟨b, q, none⟩) l.length c), .val (.int .i64 ((k : Int))), .val (.int .i64 ((k : Int) - 1)), .val (.pointer (some ⟨b, q + (k - 1) * 7, none⟩)), .val (.pointer (some ⟨b, q + (k - 1) * 7, none⟩)), .val (.agg #[.int .i64 p', .int .i64 o', .int .i64 f']), .val (.pointer (some ⟨wr.heap.size, 0, none⟩)), .val (.agg #[.int .i64 p, .int .i64 o, .int .i64 f]), .val (.int .i64 (M)), .val (.bool true), .val (.bool true)] (by kernel_rfl) (by kernel_rfl) (by kernel_rfl) ?_
      intro X
      iterate 14
        refine plan_val (by kernel_rfl) (fun u hu => ?_) ?_
        · obtain ⟨hc, hf, hz⟩ := hu.of_drew.facts
          go_simp
          all_goals first
            | (go_at_call 38; exact cM _)
        simp only [Act.put, List.setIfInBounds_toArray, List.set_cons_zero, List.set_cons_succ, Nat.reduceAdd]
      refine plan_end ?_
      intro w' hB
      have hk := hB.calm.of_drew
      clear hB
      clear z0 z1 z2 z3 z4 z5
      go_wp2_with fail
      go_ret
      exact ⟨ret_int K.out, hv1.call hk⟩
open Go.ChangeShapes Go.WideShapes Go.ChangeAt Go.RowKit
def CgEnd (L : List Chg) (w : World) (e : Ending) (w' : World) : Prop := ∃ v, e = .returned v ∧ OwnC w.heap.size w' v L ∧ Calm w w'
def CgEnd2 (L : List Chg) (E : Int) (w : World) (e : Ending) (w' : World) : Prop := ∃ v, e = .returned (.tuple #[v, .int .i64 E]) ∧ OwnC w.heap.size w' v L ∧ Calm w w'
theorem rev_take {l : List Chg} {k : Nat} {c : Chg} (h : l[k]? = some c) : revL (l.take (k + 1)) = revL (l.take k) ++ [revC c] := by
 obtain ⟨hk, rfl⟩ := List.getElem?_eq_some_iff.1 h
 unfold revL
 rw [List.take_succ_eq_append_getElem hk, List.map_append]; rfl
theorem rev_len (l : List Chg) : (revL l).length = l.length := by unfold revL; rw [List.length_map]
set_option maxHeartbeats 8000000 in
theorem reversed_any (A : Option Addr) (c : Nat) (l : List Chg) (w : World) (hn : l.length ≤ 400) (hL : LiesC w A l) :
    Calls Try.prog 30 #[.slice A l.length c] w (CgEnd (revL l) w) := by
  have HN := Lib.hid hn
  have hn : l.length ≤ 9223372036854775807 := by omega
  go_enter Try.func30, Try.ntmps30
  go_wp2_with fail
  go_loopw [3, 8] (fun v i wr => ∃ k : Nat, k ≤ l.length ∧ i = .int .i64 k ∧ Calm w wr ∧ Hid (OwnC w.heap.size wr v (revL (l.take k)))) (fun _ i _ => l.length - (intOf i).toNat)
  case atStart => exact ⟨0, Nat.zero_le _, rfl, Calm.refl _, show OwnG _ _ _ _ _ _ _ from OwnG.nil _ _ _ _ _⟩
  case round =>
    obtain ⟨k, hk, rfl, hv, HT⟩ := hrel
    by_cases hlt : k < l.length
    rotate_left
    · have HT2 := HT.out
      rw [List.take_of_length_le (by omega)] at HT2
      have HT3 := Lib.hid HT2
      clear HT2
      go_wp2_with fail
      go_ret
      exact ⟨_, rfl, HT3.out, hv⟩
    obtain ⟨b, q, p, o, f, hd, hs, ws, vs, rfl, hb, HE, c0, c1, c2, c3, c4, c5, c6⟩ := chg_get (hL.calm hv) hlt
    have hF := rev_take HE.out
    have hl1 : ((revL (l.take k)).length + 1) * 64 ≤ 140737488355328 := by
      have := HN.out
      rw [rev_len, List.length_take]; omega
    generalize revL (l.take k) = M at HT hF hl1
    have hF := Lib.hid hF
    obtain ⟨AM, cM, rfl, -, -, -⟩ := chg_own HT.out
    have hl1 := Lib.hid hl1
    have hv1 := hv.alloc (.cells #[.int .i64 p, .int .i64 o, .int .i64 f, .bool hd, .bool hs, .string ws, .string vs] 33 (0, 0))
    have HT2 := Lib.hid (HT.out.calm ((Calm.refl wr).alloc (.cells #[.int .i64 p, .int .i64 o, .int .i64 f, .bool hd, .bool hs, .string ws, .string vs] 33 (0, 0))))
    have hx := heap_new wr (.cells #[.int .i64 p, .int .i64 o, .int .i64 f, .bool hd, .bool hs, .string ws, .string vs] 33 (0, 0))
    clear HE HT
    go_upto_region 5 with fail
    generalize hW : wr.alloc (.cells #[.int .i64 p, .int .i64 o, .int .i64 f, .bool hd, .bool hs, .string ws, .string vs] 33 (0, 0)) = w2 at hv1 HT2 hx ⊢
    clear hW
    obtain ⟨x0, x1, x2, x3, x4, x5, x6, hxs⟩ := row7 hx
    clear hx
    refine wp_region_plan_tail 9 [.val (.slice AM M.length cM), .val (.pointer (some ⟨wr.heap.size, 0, none⟩)), .val (.agg #[.int .i64 p, .int .i64 o, .int .i64 f]), .val (.agg #[.int .i64 p, .int .i64 o, .int .i64 f, .bool hd, .bool hs, .string ws, .string vs]), .val (.agg #[.bool hs, .string vs]), .val (.agg #[.int .i64 p, .int .i64 o, .int .i64 f, .bool hd, .bool hs, .string ws, .string vs]), .val (.agg #[.bool hd, .string ws]), .val (.agg #[.int .i64 p, .int .i64 o, .int .i64 f, .bool hs, .bool hd, .string vs, .string ws]), .new #[.int .i64 p, .int .i64 o, .int .i64 f, .bool hs, .bool hd, .string vs, .string ws] 33 (some 1)] (by kernel_rfl) (by kernel_rfl) (by kernel_rfl) (by kernel_rfl) ?_
    intro X
    simp only [List.take_succ_cons, List.take_zero, List.drop_succ_cons, List.drop_zero]
    iterate 8
      refine plan_val (by kernel_rfl) (fun u hu => ?_) ?_
      · obtain ⟨hc, hf, hz⟩ := hu.of_drew.facts
        go_simp
        all_goals first
          | (go_at_call 61; exact chAfter_any _ _ _ _ _ _ _ _)
          | (go_at_call 48; exact chBefore_any _ _ _ _ _ _ _ _)
          | (go_at_call 60; exact chBetween_any _ _ _ _ _ _ _ _)
      simp only [Act.put, List.setIfInBounds_toArray, List.set_cons_zero, List.set_cons_succ, Nat.reduceAdd]
    refine plan_lit (by kernel_rfl) (fun u => ?_) ?_
    · go_simp
    simp only [Act.put, List.setIfInBounds_toArray, List.set_cons_zero, List.set_cons_succ, Nat.reduceAdd]
    refine plan_end ?_
    intro w' hB
    have hk := hB.calm.of_drew
    have hr := hB.row 8 _ _ rfl
    have HT4 := Lib.hid (HT2.out.calm hk)
    have hv4 := hv1.call hk
    clear hB HT2 x0 x1 x2 x3 x4 x5 x6 hxs c0 c1 c2 c3 c4 c5 c6
    go_wp2_with (at_builtin; refine wpList_append_chg rfl _ _ rfl w.heap.size _ _ rfl HT4.out _ _ ⟨p, o, f, hs, hd, vs, ws⟩ _ rfl hr.2 hl1.out hv4.size ?_; intro v' w9 ho9 hk9; have HT9 := Lib.hid ho9; have hv9 := hk9 w (Nat.le_refl _) hv4; clear ho9 hk9)
    go_roundw
    case rel => exact ⟨k + 1, by omega, by go_num, hv9, show OwnG _ _ _ _ _ _ _ from by rw [hF.out]; exact HT9.out⟩
    case measure => simp [intOf]; omega
set_option maxHeartbeats 2000000 in
theorem chBack_any (A : Option Addr) (c : Nat) (l : List Chg) (w : World) (hn : l.length ≤ 9223372036854775807) (hL : LiesC w A l) :
    Calls Try.prog 12 #[.slice A l.length c] w (CgEnd2 (if chErr l = 0 then revL l else []) (chErr l) w) := by
  have cC := fun u (hu : Calm w u) => chCheck_any A c l u hn (hL.calm hu)
  have hu := Calm.refl w
  by_cases h : chErr l = 0
  · rw [if_pos h]
    have hl := (chErr_zero.1 h).1
    have cR := fun u (hu : Calm w u) => reversed_any A c l u hl (hL.calm hu)
    unfold CgEnd at cR
    rw [h] at cC ⊢
    clear hL hn hl h
    go_enter Try.func12, Try.ntmps12
    go_wp2_with (first
      | (go_at_call 17; refine (cC _ hu).mono ?_; rintro e w1 ⟨rfl, hb1⟩; replace hu := hu.call hb1)
      | (go_at_call 30; refine (cR _ hu).mono ?_; rintro e w2 ⟨v, rfl, ho, hb2⟩; have HO := Lib.hid (OwnG.weaken ho hu.size); replace hu := hu.call hb2; clear ho hb2))
    go_ret2
    exact ⟨_, rfl, HO.out, hu⟩
  · rw [if_neg h]
    have b1 : (chErr l != 0) = true := by simpa using h
    generalize chErr l = E at cC b1 ⊢
    clear h
    go_enter Try.func12, Try.ntmps12
    go_wp2_with (go_at_call 17; refine (cC _ hu).mono ?_; rintro e w1 ⟨rfl, hb1⟩; replace hu := hu.call hb1)
    go_ret2
    exact ⟨_, rfl, OwnG.nil _ _ _ _ _, hu⟩
def sV (l : List El) (q : Int × Int × Int) (u : Int) : Option ByteArray := (atR l q u).map El.s
def kMax : Int × Int × Int := (15, 1048576, 1073741824)
def newC (e : El) : Chg := mkC e.key noS ⟨true, e.s⟩
def creat (l : List El) (t : Int) : List Chg := (rangeR l (0, 0, 0) kMax t).map newC
def betL (l : List El) (a b : Int) : List Chg := (comp (revL (creat l a)) (creat l b)).getD []
theorem key_in {k : Int × Int × Int} (h : kErr k = 0) : ¬ kLt k (0, 0, 0) ∧ ¬ kLt kMax k := by
 unfold kErr keyErr at h
 split at h
 ·rename_i h1
  unfold kLt kMax
  simp only
  omega
 ·cases h
theorem creat_ks {l : List El} (h : Good l) (t : Int) : KS (creat l t) := by
 unfold KS creat; rw [List.pairwise_map]; exact range_rise h _ _ t
theorem creat_at {l : List El} (h : Good l) (t : Int) (k : Int × Int × Int) : fnd (creat l t) k = (sV l k t).map fun s => mkC k noS ⟨true, s⟩ := by
 unfold sV
 cases ha : atR l k t with
 |none =>
  refine fnd_none.2 fun x hx e => ?_
  obtain ⟨y, hy, rfl⟩ := List.mem_map.1 hx
  have h1 := at_range h hy
  rw [show y.key = k from e, ha] at h1
  cases h1
 |some e =>
  obtain ⟨h1, h2⟩ := (atR_iff h.2.2).1 ha
  unfold isAt at h2; rw [decide_eq_true_eq] at h2
  obtain ⟨rfl, h3⟩ := h2
  have hk := key_in (key_good h h1)
  have hm : newC e ∈ creat l t := List.mem_map.2 ⟨e, List.mem_filter.2 ⟨h1, by unfold inR; rw [decide_eq_true_eq]; exact ⟨hk.1, hk.2, h3⟩⟩, rfl⟩
  exact fnd_mem (creat_ks h t) hm
theorem bet_some {l : List El} (h : Good l) (a b : Int) : comp (revL (creat l a)) (creat l b) = some (betL l a b) := by
 unfold betL
 cases hc : comp (revL (creat l a)) (creat l b) with
 |some c => rfl
 |none =>
  obtain ⟨k, hk⟩ := comp_bad (revL_ks (creat_ks h a)) (creat_ks h b) hc
  rw [fnd_rev, creat_at h, creat_at h] at hk
  cases h1 : sV l k a with
  |none => rw [h1] at hk; exact absurd hk (badAt_none _)
  |some s =>
   cases h2 : sV l k b with
   |none => rw [h2] at hk; exact absurd hk (badAt_none' _)
   |some s' => rw [h1, h2] at hk; exact absurd rfl hk
theorem bet_ks {l : List El} (h : Good l) (a b : Int) : KS (betL l a b) := comp_ks (revL_ks (creat_ks h a)) (creat_ks h b) (bet_some h a b)
theorem creat_ok {l : List El} (h : Good l) (t : Int) : ∀ c ∈ creat l t, c.err = 0 := fun c hc => by
 obtain ⟨e, he, rfl⟩ := List.mem_map.1 hc
 have h1 := (List.mem_filter.1 he).1
 have h2 := h.2.1 e h1
 unfold El.err at h2
 have h3 := (elemErr_zero.1 h2).2.2
 refine Chg.err_zero.2 ⟨key_good h h1, Nat.zero_le _, ?_, .inr rfl, .inl rfl, ?_⟩
 ·show e.s.size ≤ 40; omega
 ·intro e2; cases (St.ext_iff'.1 e2).1
theorem ks_short : ∀ {L : List Chg} {l : List El}, KS L → (∀ c ∈ L, ∃ e ∈ l, e.key = c.key) → L.length ≤ l.length
 | [], _, _, _ => Nat.zero_le _
 |c :: L, l, hK, h => by
  obtain ⟨e, he, hk⟩ := h c (List.mem_cons_self ..)
  have ih := ks_short (L := L) (l := l.erase e) (KS.cons.1 hK).2 fun d hd => by
   obtain ⟨x, hx, hxk⟩ := h d (List.mem_cons_of_mem _ hd)
   refine ⟨x, (List.mem_erase_of_ne fun e2 => ?_).2 hx, hxk⟩
   subst e2
   exact kLt_ne ((KS.cons.1 hK).1 d hd) (hk.symm.trans hxk)
  rw [List.length_erase_of_mem he] at ih
  have := List.length_pos_of_mem he
  simp only [List.length_cons]; omega
theorem bet_good {l : List El} (h : Good l) (a b : Int) : GoodC (betL l a b) := by
 refine ⟨Nat.le_trans (ks_short (bet_ks h a b) fun c hc => ?_) h.1, comp_ok (fun x hx => ?_) (creat_ok h b) (bet_some h a b), bet_ks h a b⟩
 ·rcases comp_keys (bet_some h a b) c hc with ⟨x, hx, e⟩ | ⟨x, hx, e⟩
  ·obtain ⟨y, hy, rfl⟩ := List.mem_map.1 hx
   obtain ⟨z, hz, rfl⟩ := List.mem_map.1 hy
   exact ⟨z, (List.mem_filter.1 hz).1, e⟩
  ·obtain ⟨z, hz, rfl⟩ := List.mem_map.1 hx
   exact ⟨z, (List.mem_filter.1 hz).1, e⟩
 ·obtain ⟨y, hy, rfl⟩ := List.mem_map.1 hx
  exact revC_err (creat_ok h a y hy)
theorem ks_nil : KS [] := List.Pairwise.nil
theorem fnd_nil (k : Int × Int × Int) : fnd [] k = none := rfl
def thErr (a b : List Chg) : Int := if chErr a = 0 then (if chErr b = 0 then (match comp a b with | none => 1 | some c => if 400 < c.length then 2 else 0) else chErr b) else chErr a
def thL (a b : List Chg) : List Chg := if thErr a b = 0 then (comp a b).getD [] else []
theorem th_zero {a b : List Chg} : thErr a b = 0 ↔ GoodC a ∧ GoodC b ∧ ∃ c, comp a b = some c ∧ c.length ≤ 400 := by
 unfold thErr
 by_cases h1 : chErr a = 0
 ·rw [if_pos h1]
  by_cases h2 : chErr b = 0
  ·rw [if_pos h2]
   cases h3 : comp a b with
   |none => simp
   |some c =>
    by_cases h4 : 400 < c.length
    ·simp [h4]
    ·simp only [if_neg h4, true_iff]
     exact ⟨chErr_zero.1 h1, chErr_zero.1 h2, c, rfl, by omega⟩
  ·rw [if_neg h2]; exact ⟨fun h => absurd h h2, fun h => absurd (chErr_zero.2 h.2.1) h2⟩
 ·rw [if_neg h1]; exact ⟨fun h => absurd h h1, fun h => absurd (chErr_zero.2 h.1) h1⟩
theorem th_some {a b c : List Chg} (ha : GoodC a) (hb : GoodC b) (h : comp a b = some c) (hl : c.length ≤ 400) : thErr a b = 0 ∧ thL a b = c := by
 have h0 : thErr a b = 0 := th_zero.2 ⟨ha, hb, c, h, hl⟩
 unfold thL
 rw [if_pos h0, h]
 exact ⟨h0, rfl⟩
theorem th_good {a b : List Chg} (h : thErr a b = 0) : comp a b = some (thL a b) ∧ GoodC (thL a b) := by
 obtain ⟨ha, hb, c, hc, hl⟩ := th_zero.1 h
 rw [(th_some ha hb hc hl).2]
 exact ⟨hc, hl, comp_ok ha.2.1 hb.2.1 hc, comp_ks ha.2.2 hb.2.2 hc⟩
theorem rev_then {a : List Chg} (h : GoodC a) : thErr a (revL a) = 0 ∧ thL a (revL a) = [] := by
 refine th_some h (revL_good h) (comp_is h.2.2 (revL_ks h.2.2) ks_nil (fun k => ?_) fun k => ?_) (Nat.zero_le _)
 ·rw [fnd_rev]
  cases fnd a k with
  |none => exact badAt_none _
  |some x => exact fun e => e rfl
 ·rw [fnd_rev, fnd_nil]
  cases fnd a k with
  |none => rfl
  |some x => show none = if x.bef = x.bef then none else _; rw [if_pos rfl]
theorem chg_eq {x y : Chg} (hk : x.key = y.key) (hb : x.bef = y.bef) (ha : x.aft = y.aft) : x = y := by rw [← mkC_self x, ← mkC_self y, hk, hb, ha]
theorem fnd_ok {a : List Chg} (h : GoodC a) {k : Int × Int × Int} {x : Chg} (hx : fnd a k = some x) : x.key = k ∧ x.bef ≠ x.aft :=
 ⟨(fnd_key hx).1, (Chg.err_zero.1 (h.2.1 x (fnd_key hx).2)).2.2.2.2.2⟩
/-- Of three it makes no difference which two are taken first. -/
theorem th_joins {a b c : List Chg} (h1 : thErr a b = 0) (h2 : thErr b c = 0) (h3 : thErr (thL a b) c = 0) (h4 : thErr a (thL b c) = 0) : thL (thL a b) c = thL a (thL b c) := by
 obtain ⟨ga, gb, _⟩ := th_zero.1 h1
 obtain ⟨_, gc, _⟩ := th_zero.1 h2
 obtain ⟨c1, g1⟩ := th_good h1
 obtain ⟨c2, g2⟩ := th_good h2
 obtain ⟨c3, g3⟩ := th_good h3
 obtain ⟨c4, g4⟩ := th_good h4
 refine ks_ext g3.2.2 g4.2.2 fun k => ?_
 obtain ⟨n1, e1⟩ := comp_at ga.2.2 gb.2.2 c1 k
 obtain ⟨n2, e2⟩ := comp_at gb.2.2 gc.2.2 c2 k
 obtain ⟨n3, e3⟩ := comp_at g1.2.2 gc.2.2 c3 k
 obtain ⟨n4, e4⟩ := comp_at ga.2.2 g2.2.2 c4 k
 rw [e3, e4, e1, e2]
 cases hA : fnd a k with
 |none => rfl
 |some A =>
  cases hB : fnd b k with
  |none => rw [compAt_none']; rfl
  |some B =>
   cases hC : fnd c k with
   |none => rw [compAt_none', compAt_none']
   |some C =>
    rw [hA, hB] at n1 e1
    rw [hB, hC] at n2 e2
    obtain ⟨kA, vA⟩ := fnd_ok ga hA
    obtain ⟨kB, vB⟩ := fnd_ok gb hB
    obtain ⟨kC, vC⟩ := fnd_ok gc hC
    have m1 : A.aft = B.bef := Decidable.of_not_not n1
    have m2 : B.aft = C.bef := Decidable.of_not_not n2
    by_cases q1 : A.bef = B.aft
    ·have p1 : compAt (some A) (some B) = none := if_pos q1
     by_cases q2 : B.bef = C.aft
     ·have p2 : compAt (some B) (some C) = none := if_pos q2
      rw [p1, p2]
      show some C = some A
      rw [chg_eq (kC.trans kA.symm) (m2.symm.trans q1.symm) (q2.symm.trans m1.symm)]
     ·have p2 : compAt (some B) (some C) = some (mkC B.key B.bef C.aft) := if_neg q2
      have p3 : compAt (some A) (some (mkC B.key B.bef C.aft)) = some (mkC A.key A.bef C.aft) := if_neg (fun e => vC ((m2.symm.trans q1.symm).trans e))
      rw [p1, p2, p3]
      show some C = _
      rw [← mkC_self C, kC, kA, q1, m2]; rfl
    ·have p1 : compAt (some A) (some B) = some (mkC A.key A.bef B.aft) := if_neg q1
     by_cases q2 : B.bef = C.aft
     ·have p2 : compAt (some B) (some C) = none := if_pos q2
      have p3 : compAt (some (mkC A.key A.bef B.aft)) (some C) = some (mkC A.key A.bef C.aft) := if_neg (fun e => vA ((show A.bef = C.aft from e).trans (q2.symm.trans m1.symm)))
      rw [p1, p2, p3]
      show _ = some A
      rw [← q2, ← m1, mkC_self]
     ·have p2 : compAt (some B) (some C) = some (mkC B.key B.bef C.aft) := if_neg q2
      rw [p1, p2]
      by_cases q3 : A.bef = C.aft
      ·exact (if_pos q3).trans (if_pos q3).symm
      ·exact (if_neg q3).trans (if_neg q3).symm
open Go.RowKit
theorem ownC_row {base g cap : Nat} {w : World} {l : List Chg} {cur : List Value} (hb : base ≤ g) (hg : w.heap[g]? = some (.cells cur.toArray 33 (0, 0))) (hn : l.length ≤ cap) (hc : cap ≤ maxLen) (hs : cur.length = cap * 7) (ht : cur.take (l.length * 7) = cvs chgV l) :
    OwnC base w (.slice (some ⟨g, 0, none⟩) l.length cap) l :=
  ⟨cvs_len chgV_len l, .inr ⟨g, cap, cur.toArray, rfl, hb, hg, hn, hc, by simpa using hs, by simpa using ht⟩⟩
/-- append(out, s...), s any slice that reads as records. -/
theorem wpList_append_liesC {ops : Array Oper} {rest : List Oper} {o : Oper} {a : Act} {w : World} {Q : Exit → Act → World → Prop} (hgd : o.guard = none) (s x : Operand)
    (ho : o.op = .call { callee := .builtin .append, args := #[s, x], argTypes := #[23, 23] })
    (base : Nat) (v : Value) (l : List Chg) (hs : a.eval s = v) (hown : OwnC base w v l) (A : Option Addr) (c : Nat) (l2 : List Chg) (hx : a.eval x = .slice A l2.length c) (hsrc : LiesC w A l2)
    (hl : (l.length + l2.length) * 64 ≤ 140737488355328) (hbase : base ≤ w.heap.size)
    (h : ∀ v' w', OwnC base w' v' (l ++ l2) → (∀ w0 : World, w0.heap.size ≤ base → Calm w0 w → Calm w0 w') → wpList Try.prog ops Q rest (a.put o.dst v') w') : wpList Try.prog ops Q (o :: rest) a w := by
  obtain ⟨i0, hi, hz0, hz1, hz2⟩ := info_parts infoChg
  have fin : ∀ v' w', w'.ownsRow base 33 7 v' (l.length + l2.length) (cvs chgV l ++ cvs chgV l2) → w.grownBy w' v.ownBlock → wpList Try.prog ops Q rest (a.put o.dst v') w' := fun v' w' h1 h2 => by
    refine h v' w' ?_ fun w0 h0 hc => hc.grownG h0 hown h2
    unfold OwnC OwnG
    rw [List.length_append, cvs_app]
    exact h1
  rcases A with _ | ad
  · have h0 : l2 = [] := by
      rcases Nat.eq_zero_or_pos l2.length with h | h
      · exact List.eq_nil_of_length_eq_zero h
      · obtain ⟨_, _, h1, _⟩ := hsrc h; cases h1
    subst h0
    refine wpList_plain hgd fun K hK => ?_
    have hrun : (Builtin.append_ #[23, 23] o.type #[v, .slice none 0 c]).run Try.prog w = .ok v w := by
      rcases hown.2 with ⟨rfl, hn⟩ | ⟨g, cap, cur, rfl, _, _, hnc, _⟩
      · simp [Builtin.append_, run_underlying Try.underlying23, sizeOf, typeInfo, hi, Builtin.lenOf, Builtin.firstCells]
      · simp [Builtin.append_, run_underlying Try.underlying23, sizeOf, typeInfo, hi, Builtin.lenOf, Builtin.firstCells, hnc, storeCells]
    have hx' : a.eval x = .slice none 0 c := hx
    unfold Oper.wp execOp
    simp only [ho, resolve, invoke, builtin, Sem.run_bind, Sem.run_pure, Result.andThen_ok, List.map_toArray, List.map_cons, List.map_nil, hs, hx', hrun]
    exact hK _ _ (h v w (by simpa using hown) fun _ _ h => h)
  · refine wpList_append_own w hgd s x _ ho base 33 i0 _ 7 64 Try.underlying23 hi hz0 hz1 hz2 rfl (by decide) v _ _ hs hown ad l2.length c (cvs chgV l2) hx (cvs_len chgV_len l2) (fun j u hj => ?_) (cvs_one chgV_one l2) (by unfold maxLen; omega) (by omega) hbase fun v' w' h1 h2 _ => fin v' w' h1 h2
    have hj2 : j < l2.length * 7 := by rw [← cvs_len chgV_len]; exact (List.getElem?_eq_some_iff.1 hj).1
    obtain ⟨b, q, hA, _, _⟩ := hsrc (by omega)
    injection hA with hA
    subst hA
    have e : (⟨b, q, none⟩ : Addr).add j = ⟨b, q + j, none⟩ := by unfold Addr.add; split <;> simp_all
    rw [e]
    exact (LiesG.cells chgV_len (by decide) hsrc j u hj).2
set_option maxHeartbeats 4000000 in
theorem growC_any (n : Nat) (w : World) (hn : n ≤ 1000) : Calls Try.prog 69 #[.slice none 0 0, .int .i64 (n : Int)] w fun e w' => ∃ v, e = .returned v ∧ OwnC w.heap.size w' v [] ∧ Calm w w' := by
 by_cases h0 : n = 0
 ·subst h0
  go_enter Try.func69, Try.ntmps69
  go_wp2_with fail
  go_ret
  exact ⟨_, rfl, OwnG.nil _ _ _ _ _, Calm.refl _⟩
 obtain ⟨i0, hi0, hz0, hzs, hzb⟩ := info_parts infoChg
 obtain ⟨G, hG⟩ : ∃ G, G = grownCap w n 0 33 := ⟨_, rfl⟩
 have hGn : n ≤ G := by rw [hG]; exact grownCap_ge w _ _ _
 have hGm : G ≤ maxLen := by rw [hG]; exact grownCap_le_maxLen w n 0 _ (by unfold maxLen; omega)
 obtain ⟨C, hC⟩ : ∃ C : List Value, C = (Builtin.zeroCells (Value.agg #[.int .i64 0, .int .i64 0, .int .i64 0, .bool false, .bool false, .string ByteArray.empty, .string ByteArray.empty]).cells n).toList ++ (Builtin.zeroCells (Value.agg #[.int .i64 0, .int .i64 0, .int .i64 0, .bool false, .bool false, .string ByteArray.empty, .string ByteArray.empty]).cells (G - n)).toList := ⟨_, rfl⟩
 have hCl : C.length = G * 7 := by
  rw [hC, List.length_append, Array.length_toList, Array.length_toList, size_zeroCells, size_zeroCells]
  show n * 7 + (G - n) * 7 = G * 7
  omega
 have hrz : ∀ ty, (Builtin.append_ #[23, 3] ty #[.slice none 0 0, .int .i64 (n : Int)]).run Try.prog w = .ok (.slice (some ⟨w.heap.size, 0, none⟩) n G) (w.drew.alloc (.cells C.toArray 33)) := fun ty => by
  have h := Lib.run_append_grow_zeros w 23 3 ty 33 i0 _ .i64 .i64 Try.underlying23 Try.underlying3 hi0 hz0 none 0 0 [] (run_firstCells_none w.drew _ 0 0 0) n (by omega) (by omega) (by omega) (by omega) (by rw [hzb]; omega) (by rw [hzb]; exact growslice_fits (by omega) (by omega))
  rw [Nat.zero_add, ← hG] at h
  rw [h, hC]
  exact congrArg (fun x => Result.ok _ (w.drew.alloc (.cells x 33))) (Array.toList_inj.1 (by simp))
 have hO : OwnC w.heap.size (w.drew.alloc (.cells C.toArray 33)) (.slice (some ⟨w.heap.size, 0, none⟩) 0 G) [] :=
  ownC_row (l := []) (Nat.le_refl _) (heap_alloc_new w.drew _) (Nat.zero_le _) hGm hCl rfl
 have HO := Lib.hid hO
 have hni : (0 : Int) < (n : Int) := by omega
 have hG0 : ¬ G = 0 := by omega
 clear hG hGn hGm hC hCl hi0 hz0 hzs hzb h0 hO
 go_enter Try.func69, Try.ntmps69
 go_wp2_with (at_builtin; refine Lib.wpList_append_run _ rfl _ _ _ _ rfl _ _ rfl rfl _ _ (hrz _) ?_)
 go_ret
 exact ⟨_, rfl, HO.out, ((Calm.refl w).drew).alloc _⟩
set_option maxHeartbeats 8000000 in
theorem concat3C_any (H : Nat) (A1 A2 A3 : Option Addr) (c1 c2 c3 : Nat) (l1 l2 l3 : List Chg) (w : World) (h : l1.length + l2.length + l3.length ≤ 1000) (hL1 : LiesC w A1 l1) (hL2 : LiesC w A2 l2) (hL3 : LiesC w A3 l3) (t : Nat)
    (hx : w.heap[H]? = some (.cells #[.slice A1 l1.length c1, .slice A2 l2.length c2, .slice A3 l3.length c3] t (0, 0))) :
    Calls Try.prog 40 #[.slice (some ⟨H, 0, none⟩) 3 3] w fun e w' => ∃ v, e = .returned v ∧ OwnC w.heap.size w' v (l1 ++ l2 ++ l3) ∧ Calm w w' := by
  have x0 := cell_of_row _ _ 0 _ _ _ hx
  have x1 := cell_of_row _ _ 1 _ _ _ hx
  have x2 := cell_of_row _ _ 2 _ _ _ hx
  have hxs := (Array.getElem?_eq_some_iff.1 hx).1
  have HX0 := Lib.hid hx
  simp only [List.getElem?_toArray, List.getElem?_cons_zero, List.getElem?_cons_succ] at x0 x1 x2
  have cG := fun u => growC_any (l1.length + l2.length + l3.length) u (by omega)
  rw [show ((l1.length + l2.length + l3.length : Nat) : Int) = (l1.length : Int) + (l2.length : Int) + (l3.length : Int) from by omega] at cG
  have n1 : (l1.length : Int) ≤ 1000 := by omega
  have n2 : (l2.length : Int) ≤ 1000 := by omega
  have n3 : (l3.length : Int) ≤ 1000 := by omega
  have hc : (([] ++ l1 ++ l2).length + l3.length) * 64 ≤ 140737488355328 := by simp only [List.nil_append, List.length_append]; omega
  have hb : (([] ++ l1).length + l2.length) * 64 ≤ 140737488355328 := by simp only [List.nil_append]; omega
  have hb0 : (([] : List Chg).length + l1.length) * 64 ≤ 140737488355328 := by simp only [List.length_nil]; omega
  clear h
  go_enter Try.func40, Try.ntmps40
  go_wp2_with fail
  refine wp_loop_rounds 4 ?_
  rw [rounds_succ]
  go_wp2_with fail
  rw [rounds_succ]
  go_wp2_with fail
  rw [rounds_succ]
  go_wp2_with fail
  rw [rounds_succ]
  go_wp2_with (go_at_call 69; refine (cG _).mono ?_; rintro e w1 ⟨v, rfl, hov, hb1⟩; have hu := (Calm.refl w).call hb1; have HO := Lib.hid hov; replace hx := (hb1.block hxs).trans hx; clear hov hb1)
  have x0 := cell_of_row _ _ 0 _ _ _ hx
  have x1 := cell_of_row _ _ 1 _ _ _ hx
  simp only [List.getElem?_toArray, List.getElem?_cons_zero, List.getElem?_cons_succ] at x0 x1
  have HL1 := Lib.hid (hL1.calm hu)
  clear hL1
  have HL2 := Lib.hid hL2
  clear hL2
  have HL3 := Lib.hid hL3
  clear hL3
  refine wp_loop_rounds 4 ?_
  rw [rounds_succ]
  go_wp2_with (at_builtin; go_must (refine wpList_append_liesC rfl _ _ rfl w.heap.size _ [] rfl HO.out _ _ l1 rfl HL1.out hb0 hu.size ?_); intro v2 w2 ho2 hc2; have hu2 := hc2 _ (Nat.le_refl _) hu; have HO2 := Lib.hid ho2; clear ho2 hc2; have y1 := cell_of_row _ _ 1 _ _ _ ((hu2.block hxs).trans HX0.out); simp only [List.getElem?_toArray, List.getElem?_cons_zero, List.getElem?_cons_succ] at y1)
  rw [rounds_succ]
  go_wp2_with (at_builtin; go_must (refine wpList_append_liesC rfl _ _ rfl w.heap.size _ _ rfl HO2.out _ _ l2 rfl (HL2.out.calm hu2) hb hu2.size ?_); intro v3 w3 ho3 hc3; have hu3 := hc3 _ (Nat.le_refl _) hu2; have HO3 := Lib.hid ho3; clear ho3 hc3; have y2 := cell_of_row _ _ 2 _ _ _ ((hu3.block hxs).trans HX0.out); simp only [List.getElem?_toArray, List.getElem?_cons_zero, List.getElem?_cons_succ] at y2)
  rw [rounds_succ]
  go_wp2_with (at_builtin; go_must (refine wpList_append_liesC rfl _ _ rfl w.heap.size _ _ rfl HO3.out _ _ l3 rfl (HL3.out.calm hu3) hc hu3.size ?_); intro v4 w4 ho4 hc4; have hu4 := hc4 _ (Nat.le_refl _) hu3; have HO4 := Lib.hid ho4; clear ho4 hc4)
  rw [rounds_succ]
  go_wp2_with fail
  go_ret
  exact ⟨_, rfl, HO4.out, hu4⟩
end Go.Proofs.Ythfjanmihfbjoaa
