/- Texts of one kind in one file. -/
import Derived.Below
import Derived.Laws.BitsAll
import Derived.IntWalk
import Derived.Test.YtibnghapilfgbaaRows
import Derived.Handy
import Derived.Deep.Quiet
import Derived.Deep.QuietTactic
import Derived.Laws.Tables
import Derived.StillTail
import Derived.WalkSpells
import Derived.WalkLawsBesides
import Derived.Lib.Hide
import Derived.Deep.RegionWith
import Derived.Deep.RegionHeld3
import Derived.Deep.DeepCutAuto
import Derived.BigQuiet
import Derived.Laws.OwnMore
import Derived.Deep.AppendLies
import Derived.Deep.Draws
import Derived.Laws.BytesArg
import Derived.Laws.MakeOwn
import Derived.Laws.IdiomStrings
import Derived.OwnWalk
import Derived.Lib.AppendStr
import Derived.Deep.Slices
import Derived.ProofKit
import Derived.OpenShut
import Derived.Lib.SmallJoins
import Derived.SizedLaws
import Derived.Deep.LoopGhost
import Derived.Outline
import Derived.Lib.SliceRun
import Derived.Maps.AppendAt
import Derived.RangeFuncNested
import Derived.RangeFuncBound
import Derived.RangeFuncCalls
import Derived.RangeFuncLeaves
import Derived.Shelf.Abstract
import Derived.Shelf.RegionOpen
import Derived.WalkKit
import Derived.OwnWalkIn
import Derived.TacticsInMore
import Derived.LoopNIn
import Derived.LoopIn
import Derived.Deep.AppendSrc
import Derived.Deep.RegionLaw
import Derived.Laws.Externs
import Derived.Lib.AppendZerosOnto
import Derived.Lib.Overlaps
import Derived.Lib.Bytealg
import Derived.Sort.Walk0
import Derived.Test.YtibnghapilfgbaaShelf
import Derived.Laws.RangeAny
import Derived.Sort.OwnSortedInts
set_option maxRecDepth 100000
namespace Go.Proofs.Ytibnghapilfgbaa
def firstErr (f : Nat → Int) : Nat → Int
 | 0 => 0
 |n + 1 => if firstErr f n = 0 then f n else firstErr f n
theorem firstErr_zero {f : Nat → Int} : ∀ {n : Nat}, firstErr f n = 0 ↔ ∀ i, i < n → f i = 0
 | 0 => by simp [firstErr]
 |n + 1 => by
  have ih := firstErr_zero (f := f) (n := n)
  unfold firstErr
  constructor
  ·intro h i hi
   by_cases h0 : firstErr f n = 0
   ·rw [if_pos h0] at h
    rcases Nat.lt_or_ge i n with h1 | h1
    ·exact ih.1 h0 i h1
    ·rw [show i = n by omega]; exact h
   ·rw [if_neg h0] at h; exact absurd h h0
  ·intro h
   rw [if_pos (ih.2 fun i hi => h i (by omega))]
   exact h n (by omega)
theorem firstErr_at {f : Nat → Int} {k n : Nat} (h : ∀ i, i < k → f i = 0) (hk : f k ≠ 0) (hn : k < n) : firstErr f n = f k := by
 induction n with
 |zero => omega
 |succ n ih =>
  unfold firstErr
  rcases Nat.lt_or_ge k n with h1 | h1
  ·rw [if_neg (by rw [ih h1]; exact hk), ih h1]
  ·rw [show n = k by omega, if_pos (firstErr_zero.2 h)]
open Go.RowKit
def Calm (w w' : World) : Prop := Below w.heap.size w w'
theorem Calm.refl (w : World) : Calm w w := Below.refl _ _
theorem Calm.alloc {a w : World} (h : Calm a w) (o : Obj) : Calm a (w.alloc o) := Below.alloc h (Below.size h) o
theorem Calm.drew {a w : World} (h : Calm a w) : Calm a w.drew := Below.drew h
theorem Calm.of_drew {a w : World} (h : Calm a.drew w) : Calm a w := Below.trans (Calm.refl a).drew h
theorem Calm.setRow {a w : World} (h : Calm a w) {g : Nat} (hg : a.heap.size ≤ g) (cs : Array Value) : Calm a (w.setRow g cs) :=
 Below.trans h ⟨rfl, rfl, rfl, by simp, fun k hk => setRow_other w g k cs (by omega)⟩
theorem Calm.call {a w w1 : World} (h : Calm a w) (hb : Calm w w1) : Calm a w1 := Below.trans h (Below.mono hb (Below.size h))
theorem Calm.size {a w : World} (h : Calm a w) : a.heap.size ≤ w.heap.size := Below.size h
theorem Calm.block {a w : World} (h : Calm a w) {k : Nat} (hk : k < a.heap.size) : w.heap[k]? = a.heap[k]? := Below.block h k hk
/-- Of such a call: cells, marks, how many blocks. -/
theorem Calm.facts {W w1 : World} (hb : Calm W w1) : (∀ b o, b < W.heap.size → w1.cell? ⟨b, o, none⟩ = W.cell? ⟨b, o, none⟩) ∧ (∀ b o, b < W.heap.size → w1.frozen? ⟨b, o, none⟩ = W.frozen? ⟨b, o, none⟩) ∧ (∀ n : Nat, n < W.heap.size → n < w1.heap.size ∧ n < w1.heap.size + 1 ∧ n < w1.heap.size + 1 + 1 ∧ n < w1.heap.size + 1 + 1 + 1 ∧ n < w1.heap.size + 1 + 1 + 1 + 1) :=
 ⟨fun b o h => Below.cell hb (p := ⟨b, o, none⟩) h, fun b o h => Below.frozen hb (p := ⟨b, o, none⟩) h, fun _ h => by have := Below.size hb; omega⟩
section
variable {P : Program} {ops : Array Oper} {Q : Exit → Act → World → Prop} {md : Region.Mode}
def unlisted (listed : Array Bool) : Nat := listed.toList.countP (· == false)
theorem unlisted_set {listed : Array Bool} {i : Nat} (h : listed.getD i true = false) : unlisted (listed.setIfInBounds i true) + 1 = unlisted listed := by
 have hi : i < listed.size := by
  rcases Nat.lt_or_ge i listed.size with h' | h'
  ·exact h'
  ·simp [Array.getElem?_eq_none h'] at h
 have hv : listed[i] = false := by simpa [hi] using h
 have hm : false ∈ listed.toList := by rw [← hv]; simp
 have hpos : 0 < listed.toList.countP (· == false) := List.countP_pos_iff.2 ⟨false, hm, rfl⟩
 have hl : listed.toList[i]'(by simpa using hi) = false := by simpa using hv
 unfold unlisted
 rw [Array.toList_setIfInBounds, List.countP_set (by simpa using hi), hl]
 simp only [beq_self_eq_true, if_true, show ((true == false) = false) from rfl, Bool.false_eq_true, if_false]
 omega
theorem wpAny_inv (J : Array Bool → Act → World → Prop)
    (hstep : ∀ (listed : Array Bool) (a : Act) (w : World) (i : Nat), J listed a w → i ∈ Region.ready md ops listed → wpOp P ops Q i (fun a' w' => J (listed.setIfInBounds i true) a' w') a w)
    (hend : ∀ (listed : Array Bool) (a : Act) (w : World), J listed a w → Region.ready md ops listed = [] → Q .normal a w) :
    ∀ (fuel : Nat) (listed : Array Bool) (a : Act) (w : World), unlisted listed ≤ fuel → J listed a w → wpAny P md ops Q fuel listed a w
  | 0, listed, a, w, hf, hj => by
    have hr : Region.ready md ops listed = [] := by
      cases h : Region.ready md ops listed with
      | nil => rfl
      | cons i r =>
        have hm : i ∈ Region.ready md ops listed := by rw [h]; simp
        have := unlisted_set (mem_ready.1 hm).1
        omega
    exact ⟨hr, hend _ _ _ hj hr⟩
  | fuel + 1, listed, a, w, hf, hj => by
    refine ⟨fun h0 => hend _ _ _ hj h0, fun i hi => ?_⟩
    have := unlisted_set (mem_ready.1 hi).1
    exact wpOp_mono (fun a' w' h => wpAny_inv J hstep hend fuel _ a' w' (by omega) h) (hstep _ _ _ _ hj hi)
inductive Does where
 |val (v : Value)
 |idle
 |new (z : Array Value) (t : TypeId) (kd : Option Nat := none)
 |fill (k : Nat) (cs : Array Value)
 |look (k : Nat) (v : Value)
def newOut (b : Nat) : Option Nat → Value
 |none => .pointer (some ⟨b, 0, none⟩)
 |some n => .slice (some ⟨b, 0, none⟩) n n
def Does.out (X : Nat → Nat) (i : Nat) : Does → Value
 | .val v => v
 | .idle => undef
 | .new _ _ kd => newOut (X i) kd
 | .fill _ _ => undef
 | .look _ v => v
def noFillB (p : List Does) (k : Nat) : Bool := p.all fun d => match d with | .fill m _ => m != k | _ => true
theorem noFillB_spec {p : List Does} {k : Nat} (h : noFillB p k = true) {j : Nat} {cs : Array Value} : p[j]? ≠ some (.fill k cs) := fun hj => by
 have := List.all_eq_true.1 h _ (List.mem_of_getElem? hj)
 simp at this
def Does.fits (P : Program) (ops : Array Oper) (w0 : World) (X : Nat → Nat) (p : List Does) (o : Oper) (a : Act) : Does → Prop
  | .val v => Region.wanted o (yielded ops a.tmps) = true ∧ ∀ w, Calm w0 w → Oper.quietUpon P (Calm w) w v ((execOp a.eval o).run P w)
  | .idle => Region.wanted o (yielded ops a.tmps) = false
  | .new z t kd => Region.wanted o (yielded ops a.tmps) = true ∧ ∀ w, (execOp a.eval o).run P w = .ok (.value (newOut w.heap.size kd)) (w.alloc (.cells z t))
  | .fill k cs => Region.wanted o (yielded ops a.tmps) = true ∧ o.dst = none ∧ o.after.any (fun e => Region.binds .any e && e.on == k) = true ∧ ∃ z t kd, p[k]? = some (.new z t kd) ∧
      ∀ w, w.heap[X k]? = some (.cells z t (0, 0)) → (execOp a.eval o).run P w = .ok .skip (w.setRow (X k) cs) ∨ (execOp a.eval o).run P w = .ok (.value undef) (w.setRow (X k) cs)
  | .look k v => Region.wanted o (yielded ops a.tmps) = true ∧ o.after.any (fun e => Region.binds .any e && e.on == k) = true ∧ ∃ z t kd, p[k]? = some (.new z t kd) ∧ noFillB p k = true ∧
      ∀ w, Calm w0 w → w.heap[X k]? = some (.cells z t (0, 0)) → Oper.quietUpon P (Calm w) w v ((execOp a.eval o).run P w)
def Plan (P : Program) (ops : Array Oper) (w0 : World) (X : Nat → Nat) (p : List Does) (R : Act → Prop) : Nat → List Oper → List Does → Act → Prop
 |_, [], [], a => R a
 |i, o :: os, d :: ds, a => d.fits P ops w0 X p o a ∧ Plan P ops w0 X p R (i + 1) os ds (a.put o.dst (d.out X i))
 |_, _, _, _ => False
def planB (ops : Array Oper) : Bool :=
  Region.noSelect ops && (List.range ops.size).all fun j => match ops[j]? with
    | none => true
    | some o => o.after.all (fun e => !Region.binds .any e || decide (e.on < j)) &&
        (List.range ops.size).all fun i => match ops[i]? with
          | none => true
          | some x => match x.dst with
            | none => true
            | some d => (!(o.looksAt ops).contains d || (decide (i < j) && o.after.any (fun e => Region.binds .any e && e.on == i))) && (i == j || o.dst != some d)
def rowNow (p : List Does) (listed : Array Bool) (k : Nat) (z : Array Value) : Array Value :=
 match (List.range p.length).findSome? (fun j => if listed.getD j false then (match p[j]? with | some (.fill m cs) => if m == k then some cs else none | _ => none) else none) with
 |some cs => cs
 |none => z
def fillsB (p : List Does) : Bool :=
 (List.range p.length).all fun i => (List.range p.length).all fun j => i == j || match p[i]?, p[j]? with
  |some (.fill m _), some (.fill n _) => m != n
  |_, _ => true
/-- Two frames that hold the same wherever an operation looks: it does the same. -/
theorem same_look {o : Oper} (hs : ∀ cs b, o.op ≠ .select cs b) {a b : Act} (h : ∀ t ∈ o.looksAt ops, a.tmps[t]? = b.tmps[t]?) :
    execOp a.eval o = execOp b.eval o ∧ Region.wanted o (yielded ops a.tmps) = Region.wanted o (yielded ops b.tmps) := by
  constructor
  · refine execOp_congr o hs fun x hx => ?_
    cases x with
    | tmp t =>
      have : t ∈ o.looksAt ops := List.mem_append_left _ (List.mem_filterMap.2 ⟨.tmp t, by simpa using hx, rfl⟩)
      have h1 := h t this
      simp [Act.eval, h1]
    | _ => rfl
  · unfold Region.wanted
    cases hg : o.guard with
    | none => rfl
    | some gw =>
      obtain ⟨g, want⟩ := gw
      have : yielded ops a.tmps g = yielded ops b.tmps g := by
        unfold yielded
        cases ht : (ops[g]?).bind (·.dst) with
        | none => rfl
        | some t =>
          have h1 := h t (by simp [Oper.looksAt, hg, ht])
          simp [h1]
      simp only [this]
theorem put_get (a : Act) (d : Option Tmp) (v : Value) (t : Nat) : (a.put d v).tmps[t]? = if d = some t ∧ t < a.tmps.size then some v else a.tmps[t]? := by
 cases d with
 |none => simp [Act.put]
 |some d =>
  simp only [Act.put, Array.getElem?_setIfInBounds, Option.some.injEq]
  by_cases h : d = t
  ·subst h
   by_cases h2 : d < a.tmps.size
   ·simp [h2]
   ·simp [h2]
  ·simp [h]
theorem put_size (a : Act) (d : Option Tmp) (v : Value) : (a.put d v).tmps.size = a.tmps.size := by cases d <;> simp [Act.put]
theorem put_def (a : Act) (d : Option Tmp) (v : Value) : (a.put d v).defers = a.defers := by cases d <;> simp [Act.put]
structure Agree (ops : Array Oper) (p : List Does) (a0 : Act) (X : Nat → Nat) (S : Nat → Prop) (a : Act) : Prop where
 defers : a.defers = a0.defers
 size : a.tmps.size = a0.tmps.size
 put : ∀ i o d t, ops[i]? = some o → p[i]? = some d → S i → o.dst = some t → t < a0.tmps.size → a.tmps[t]? = some (d.out X i)
 old : ∀ t, (∀ i o, ops[i]? = some o → S i → o.dst ≠ some t) → a.tmps[t]? = a0.tmps[t]?
structure Sound (ops : Array Oper) : Prop where
 noSelect : ∀ (j : Nat) (o : Oper) cs b, ops[j]? = some o → o.op ≠ .select cs b
 before : ∀ (j : Nat) (o : Oper) (e : Edge), ops[j]? = some o → e ∈ o.after → Region.binds .any e = true → e.on < j
 looks : ∀ (j i : Nat) (o x : Oper) (d : Tmp), ops[j]? = some o → ops[i]? = some x → x.dst = some d → d ∈ o.looksAt ops → i < j ∧ ∃ e ∈ o.after, Region.binds .any e = true ∧ e.on = i
 apart : ∀ (j i : Nat) (o x : Oper) (d : Tmp), ops[j]? = some o → ops[i]? = some x → x.dst = some d → o.dst = some d → i = j
theorem planB_sound (h : planB ops = true) : Sound ops := by
 simp only [planB, Bool.and_eq_true, List.all_eq_true, List.mem_range] at h
 obtain ⟨h1, h2⟩ := h
 have lt : ∀ {j : Nat} {o : Oper}, ops[j]? = some o → j < ops.size := fun ho => (Array.getElem?_eq_some_iff.1 ho).1
 refine ⟨fun j o cs b ho => Region.noSelect_spec h1 j o cs b ho, fun j o e ho he hb => ?_, fun j i o x d ho hx hd hl => ?_, fun j i o x d ho hx hd hod => ?_⟩
 ·have := h2 j (lt ho)
  simp only [ho, Bool.and_eq_true, Array.all_eq_true_iff_forall_mem] at this
  have h3 := this.1 e he
  simpa [hb] using h3
 ·have := h2 j (lt ho)
  simp only [ho, Bool.and_eq_true, List.all_eq_true, List.mem_range] at this
  have h3 := this.2 i (lt hx)
  simp only [hx, hd, Bool.and_eq_true] at h3
  have h4 := h3.1
  rw [List.contains_iff_mem.2 hl] at h4
  simp only [Bool.not_true, Bool.false_or, Bool.and_eq_true, decide_eq_true_eq] at h4
  obtain ⟨e, he, hb⟩ := Array.any_eq_true'.1 h4.2
  simp only [Bool.and_eq_true, beq_iff_eq] at hb
  exact ⟨h4.1, e, he, hb⟩
 ·have := h2 j (lt ho)
  simp only [ho, Bool.and_eq_true, List.all_eq_true, List.mem_range] at this
  have h3 := this.2 i (lt hx)
  simp only [hx, hd, Bool.and_eq_true] at h3
  have h4 := h3.2
  simpa [hod] using h4
/-- One operation more. -/
theorem Agree.step {p : List Does} {a0 : Act} {X : Nat → Nat} {S T : Nat → Prop} {a : Act} (hs : Sound ops) (h : Agree ops p a0 X S a) {j : Nat} {o : Oper} {d : Does} (ho : ops[j]? = some o) (hd : p[j]? = some d)
    (hT : ∀ i, T i ↔ (S i ∨ i = j)) : Agree ops p a0 X T (a.put o.dst (d.out X j)) := by
  refine ⟨by rw [put_def, h.defers], by rw [put_size, h.size], fun i oi di t hoi hdi hi ht hlt => ?_, fun t ht => ?_⟩
  · rw [put_get]
    rcases (hT i).1 hi with hi | rfl
    · by_cases hc : o.dst = some t ∧ t < a.tmps.size
      · rw [if_pos hc]
        obtain rfl := hs.apart j i o oi t ho hoi ht hc.1
        rw [hd] at hdi
        cases hdi
        rfl
      · rw [if_neg hc]
        exact h.put i oi di t hoi hdi hi ht hlt
    · rw [ho] at hoi; cases hoi
      rw [hd] at hdi; cases hdi
      rw [if_pos ⟨ht, by rw [h.size]; exact hlt⟩]
  · rw [put_get, if_neg (fun hc => ht j o ho ((hT j).2 (Or.inr rfl)) hc.1)]
    exact h.old t fun i oi hoi hi => ht i oi hoi ((hT i).2 (Or.inl hi))
/-- Off the plan: what each operation does in a frame of the text's order, and the frame at the end. -/
theorem plan_get {w0 : World} {X : Nat → Nat} {p : List Does} {a0 : Act} {R : Act → Prop} (hs : Sound ops) : ∀ (os : List Oper) (ds : List Does) (i : Nat) (a : Act), os = ops.toList.drop i → ds = p.drop i →
    Agree ops p a0 X (· < i) a → Plan P ops w0 X p R i os ds a →
    (∀ j o, i ≤ j → ops[j]? = some o → ∃ d b, p[j]? = some d ∧ Agree ops p a0 X (· < j) b ∧ d.fits P ops w0 X p o b) ∧ (∃ b, Agree ops p a0 X (· < ops.size) b ∧ R b) ∧ (i ≤ ops.size → i ≤ p.length → p.length = ops.size)
  | [], [], i, a, hos, hds, ha, h => by
    have hl : ops.size ≤ i := by have := congrArg List.length hos; simp at this; omega
    refine ⟨fun j o hj hoj => ?_, ⟨a, ⟨ha.defers, ha.size, fun k o d t ho hd hk ht hlt => ha.put k o d t ho hd (by omega) ht hlt, fun t ht => ha.old t fun k o ho hk => ht k o ho ?_⟩, h⟩, fun hi hi2 => ?_⟩
    · have := (Array.getElem?_eq_some_iff.1 hoj).1; omega
    · exact (Array.getElem?_eq_some_iff.1 ho).1
    · have := congrArg List.length hds; simp at this; omega
  | [], d :: ds, i, a, _, _, _, h => absurd h (by simp [Plan])
  | o :: os, [], i, a, _, _, _, h => absurd h (by simp [Plan])
  | o :: os, d :: ds, i, a, hos, hds, ha, h => by
    have hlen : i < ops.size := by have := congrArg List.length hos; simp at this; omega
    have ho : ops[i]? = some o := by
      have := congrArg (·[0]?) hos
      simpa using this.symm
    have hd : p[i]? = some d := by
      have := congrArg (·[0]?) hds
      simpa using this.symm
    have hos' : os = ops.toList.drop (i + 1) := by rw [← List.tail_drop, ← hos]; rfl
    have hds' : ds = p.drop (i + 1) := by rw [← List.tail_drop, ← hds]; rfl
    obtain ⟨h1, h2⟩ := h
    have hplen : i < p.length := by have := congrArg List.length hds; simp at this; omega
    obtain ⟨g1, g2, g3⟩ := plan_get hs os ds (i + 1) (a.put o.dst (d.out X i)) hos' hds' (ha.step hs ho hd (fun k => by omega)) h2
    refine ⟨fun j oj hj hoj => ?_, g2, fun _ _ => g3 (by omega) (by omega)⟩
    rcases Nat.eq_or_lt_of_le hj with rfl | hj
    · rw [ho] at hoj; cases hoj
      exact ⟨d, a, hd, ha, h1⟩
    · exact g1 j oj hj hoj
theorem rowNow_same {p : List Does} {listed : Array Bool} {j k : Nat} {z : Array Value} (h : ∀ m cs, p[j]? = some (.fill m cs) → m ≠ k) : rowNow p (listed.setIfInBounds j true) k z = rowNow p listed k z := by
 unfold rowNow
 have : (fun i => if (listed.setIfInBounds j true).getD i false then (match p[i]? with | some (Does.fill m cs) => if m == k then some cs else none | _ => none) else none) = (fun i => if listed.getD i false then (match p[i]? with | some (Does.fill m cs) => if m == k then some cs else none | _ => none) else none) := by
  funext i
  by_cases hij : j = i
  ·subst hij
   have hn : (match p[j]? with | some (Does.fill m cs) => if m == k then some cs else none | _ => none) = none := by
    cases hp : p[j]? with
    |none => rfl
    |some d =>
     cases d with
     |fill m cs => simp [h m cs hp]
     |_ => rfl
   simp only [hn, ite_self]
  ·rw [getD_set_ne false hij]
 rw [this]
theorem fillsB_spec {p : List Does} (h : fillsB p = true) {i j m : Nat} {cs cs' : Array Value} (hi : p[i]? = some (.fill m cs)) (hj : p[j]? = some (.fill m cs')) : i = j := by
 simp only [fillsB, List.all_eq_true, List.mem_range] at h
 have := h i (List.getElem?_eq_some_iff.1 hi).1 j (List.getElem?_eq_some_iff.1 hj).1
 simpa [hi, hj] using this
theorem rowNow_fill {p : List Does} (h : fillsB p = true) {listed : Array Bool} {j k : Nat} {z cs : Array Value} (hj : p[j]? = some (.fill k cs)) (hl : listed.getD j false = true) : rowNow p listed k z = cs := by
 unfold rowNow
 have hjl : j < p.length := (List.getElem?_eq_some_iff.1 hj).1
 have hsome : ((List.range p.length).findSome? (fun j => if listed.getD j false then (match p[j]? with | some (Does.fill m cs) => if m == k then some cs else none | _ => none) else none)).isSome = true := by
  rw [List.findSome?_isSome_iff]
  exact ⟨j, List.mem_range.2 hjl, by simp only [hl, if_true, hj]; simp⟩
 cases hf : (List.range p.length).findSome? (fun j => if listed.getD j false then (match p[j]? with | some (Does.fill m cs) => if m == k then some cs else none | _ => none) else none) with
 |none => rw [hf] at hsome; cases hsome
 |some c =>
  obtain ⟨i, hi, he⟩ := List.exists_of_findSome?_eq_some hf
  simp only
  split at he
  ·split at he
   ·rename_i m c' hp
    split at he
    ·rename_i hm
     cases he
     have hm' : m = k := by simpa using hm
     subst hm'
     obtain rfl := fillsB_spec h hj hp
     rw [hj] at hp
     cases hp
     rfl
    ·cases he
   ·cases he
  ·cases he
theorem rowNow_none {p : List Does} {listed : Array Bool} {k : Nat} {z : Array Value} (h : ∀ j cs, p[j]? = some (.fill k cs) → listed.getD j false = false) : rowNow p listed k z = z := by
 unfold rowNow
 cases hf : (List.range p.length).findSome? (fun j => if listed.getD j false then (match p[j]? with | some (Does.fill m cs) => if m == k then some cs else none | _ => none) else none) with
 |none => rfl
 |some c =>
  obtain ⟨i, hi, he⟩ := List.exists_of_findSome?_eq_some hf
  split at he
  ·rename_i hl
   split at he
   ·rename_i m c' hp
    split at he
    ·rename_i hm
     have hm' : m = k := by simpa using hm
     subst hm'
     rw [h i c' hp] at hl
     cases hl
    ·cases he
   ·cases he
  ·cases he
structure Rows0 (p : List Does) (w0 : World) (X : Nat → Nat) (listed : Array Bool) (w : World) : Prop where
 calm : Calm w0 w
 row : ∀ i z t {kd}, p[i]? = some (.new z t kd) → listed.getD i false = true → w0.heap.size ≤ X i ∧ w.heap[X i]? = some (.cells (rowNow p listed i z) t (0, 0))
 apart : ∀ i j z t z' t' {kd kd'}, p[i]? = some (.new z t kd) → p[j]? = some (.new z' t' kd') → listed.getD i false = true → listed.getD j false = true → i ≠ j → X i ≠ X j
structure Inv (ops : Array Oper) (p : List Does) (a0 : Act) (w0 : World) (X : Nat → Nat) (listed : Array Bool) (a : Act) (w : World) : Prop where
 size : listed.size = ops.size
 act : Agree ops p a0 X (fun i => listed.getD i false = true) a
 rows : Rows0 p w0 X listed w
 down : ∀ i o e, ops[i]? = some o → listed.getD i false = true → e ∈ o.after → Region.binds .any e = true → listed.getD e.on false = true
theorem getD_set_iff {listed : Array Bool} {i j : Nat} (hi : i < listed.size) : (listed.setIfInBounds i true).getD j false = true ↔ (listed.getD j false = true ∨ j = i) := by
 by_cases h : i = j
 ·subst h; simp [hi]
 ·rw [getD_set_ne false h]
  exact ⟨Or.inl, fun h' => h'.resolve_right (fun e => h e.symm)⟩
theorem Inv.step {p : List Does} {a0 : Act} {w0 : World} {R : (Nat → Nat) → Act → Prop} {Q : Exit → Act → World → Prop} (hs : Sound ops) (hf : fillsB p = true)
    (hp : ∀ X, Plan P ops w0 X p (R X) 0 ops.toList p a0) {X : Nat → Nat} {listed : Array Bool} {a : Act} {w : World} {j : Nat} (h : Inv ops p a0 w0 X listed a w) (hj : j ∈ Region.ready .any ops listed) :
    wpOp P ops Q j (fun a' w' => ∃ X', Inv ops p a0 w0 X' (listed.setIfInBounds j true) a' w') a w := by
  obtain ⟨hun, o, ho, hall⟩ := mem_ready.1 hj
  have hjs : j < listed.size := by rw [h.size]; exact (Array.getElem?_eq_some_iff.1 ho).1
  have hnl : listed.getD j false = false := by
    rw [Array.getD_eq_getD_getElem?] at hun ⊢
    rw [Array.getElem?_eq_getElem hjs] at hun ⊢
    simpa using hun
  obtain ⟨g1, _, g3⟩ := plan_get (X := X) hs ops.toList p 0 a0 rfl rfl ⟨rfl, rfl, fun i o d t _ _ hi => absurd hi (Nat.not_lt_zero _), fun t _ => rfl⟩ (hp X)
  obtain ⟨d, b, hd, hb, hfit⟩ := g1 j o (Nat.zero_le _) ho
  have hlook : ∀ t ∈ o.looksAt ops, a.tmps[t]? = b.tmps[t]? := fun t ht => by
    by_cases hw : ∃ (i : Nat) (x : Oper), ops[i]? = some x ∧ x.dst = some t
    · obtain ⟨i, x, hx, hxt⟩ := hw
      obtain ⟨hij, e, he, hbe, rfl⟩ := hs.looks j i o x t ho hx hxt ht
      have hli := hall e he hbe
      have hpi : ∃ di, p[e.on]? = some di := by
        have := g3 (Nat.zero_le _) (Nat.zero_le _)
        have hlt : e.on < p.length := by rw [this]; exact (Array.getElem?_eq_some_iff.1 hx).1
        exact ⟨p[e.on], List.getElem?_eq_getElem hlt⟩
      obtain ⟨di, hdi⟩ := hpi
      by_cases hlt : t < a0.tmps.size
      · rw [h.act.put e.on x di t hx hdi hli hxt hlt, hb.put e.on x di t hx hdi hij hxt hlt]
      · have e1 : a.tmps[t]? = none := Array.getElem?_eq_none (by rw [h.act.size]; exact Nat.le_of_not_lt hlt)
        have e2 : b.tmps[t]? = none := Array.getElem?_eq_none (by rw [hb.size]; exact Nat.le_of_not_lt hlt)
        rw [e1, e2]
    · have hno : ∀ (i : Nat) (x : Oper), ops[i]? = some x → x.dst ≠ some t := fun i x hx hxt => hw ⟨i, x, hx, hxt⟩
      rw [h.act.old t fun i x hx _ => hno i x hx, hb.old t fun i x hx _ => hno i x hx]
  obtain ⟨hex, hwant⟩ := same_look (hs.noSelect j o · · ho) hlook
  have hdown : ∀ i o' e, ops[i]? = some o' → (listed.setIfInBounds j true).getD i false = true → e ∈ o'.after → Region.binds .any e = true → (listed.setIfInBounds j true).getD e.on false = true := fun i o' e ho' hi he hbe => by
    rcases (getD_set_iff hjs).1 hi with hi | rfl
    · exact getD_set_true (h.down i o' e ho' hi he hbe)
    · rw [ho] at ho'; cases ho'
      exact getD_set_true (hall e he hbe)
  have hact : ∀ Y : Nat → Nat, (∀ i, i ≠ j → Y i = X i) → Agree ops p a0 Y (fun i => (listed.setIfInBounds j true).getD i false = true) (a.put o.dst (d.out Y j)) := fun Y hY => by
    have ha : Agree ops p a0 Y (fun i => listed.getD i false = true) a := ⟨h.act.defers, h.act.size, fun i oi di t hoi hdi hi ht hlt => by
      have hij : i ≠ j := fun e => by subst e; rw [hnl] at hi; cases hi
      rw [h.act.put i oi di t hoi hdi hi ht hlt]
      cases di <;> simp [Does.out, hY i hij], h.act.old⟩
    exact ha.step hs ho hd fun i => getD_set_iff hjs
  have rowsSame : ∀ w', Calm w w' → (∀ z t kd, d ≠ .new z t kd) → (∀ k cs, d ≠ .fill k cs) → Rows0 p w0 X (listed.setIfInBounds j true) w' := fun w' hw' hdn hdf => by
    have hne : ∀ i z t kd, p[i]? = some (.new z t kd) → (listed.setIfInBounds j true).getD i false = true → listed.getD i false = true := fun i z t kd hi hl => by
      rcases (getD_set_iff hjs).1 hl with hl | rfl
      · exact hl
      · rw [hd] at hi; cases hi; exact absurd rfl (hdn z t kd)
    refine ⟨h.rows.calm.call hw', fun i z t kd hi hl => ?_, fun i k z t z' t' kd kd' hi hk hl hl' hik => h.rows.apart i k z t z' t' hi hk (hne i z t kd hi hl) (hne k z' t' kd' hk hl') hik⟩
    obtain ⟨r1, r2⟩ := h.rows.row i z t hi (hne i z t kd hi hl)
    refine ⟨r1, ?_⟩
    rw [rowNow_same fun m cs hm => by rw [hd] at hm; cases hm; exact absurd rfl (hdf m cs)]
    rw [hw'.block (Array.getElem?_eq_some_iff.1 r2).1, r2]
  unfold wpOp
  simp only [ho]
  cases d with
  | val v =>
    obtain ⟨f1, f2⟩ := hfit
    rw [hwant, f1, if_pos rfl]
    left
    unfold Oper.wp
    rw [hex]
    have f3 := f2 w h.rows.calm
    have fin : ∀ w', Calm w w' → ∃ X', Inv ops p a0 w0 X' (listed.setIfInBounds j true) (a.put o.dst v) w' := fun w' hw' =>
      ⟨X, by simp [h.size], hact X fun _ _ => rfl, rowsSame w' hw' (fun _ _ _ e => by cases e) (fun _ _ e => by cases e), hdown⟩
    generalize (execOp b.eval o).run P w = r at *
    cases r with
    | ok n w' =>
      cases n <;> simp only [Oper.quietUpon] at f3 <;> simp only [Oper.upon]
      case value u => obtain ⟨e1, e2⟩ := f3; rw [e1, e2]; exact fin w (Calm.refl w)
      case skip => obtain ⟨e1, e2⟩ := f3; rw [e1, ← e2]; exact fin w (Calm.refl w)
      case enter f args =>
        obtain ⟨e1, hc⟩ := f3
        rw [e1]
        exact hc.mono fun e w'' ⟨he, hw''⟩ => by subst he; exact fin w'' hw''
    | halt x w' => simp only [Oper.quietUpon] at f3
  | look k v =>
    obtain ⟨f1, f3, z, t, kd, hk, hnf, f2⟩ := hfit
    rw [hwant, f1, if_pos rfl]
    left
    obtain ⟨e, he, hbe⟩ := Array.any_eq_true'.1 f3
    simp only [Bool.and_eq_true, beq_iff_eq] at hbe
    have hlk : listed.getD k false = true := by rw [← hbe.2]; exact hall e he hbe.1
    obtain ⟨r1, r2⟩ := h.rows.row k z t hk hlk
    rw [rowNow_none fun m cs' hm => absurd hm (noFillB_spec hnf)] at r2
    unfold Oper.wp
    rw [hex]
    have f4 := f2 w h.rows.calm r2
    have fin : ∀ w', Calm w w' → ∃ X', Inv ops p a0 w0 X' (listed.setIfInBounds j true) (a.put o.dst v) w' := fun w' hw' =>
      ⟨X, by simp [h.size], hact X fun _ _ => rfl, rowsSame w' hw' (fun _ _ _ e => by cases e) (fun _ _ e => by cases e), hdown⟩
    generalize (execOp b.eval o).run P w = r at *
    cases r with
    | ok n w' =>
      cases n <;> simp only [Oper.quietUpon] at f4 <;> simp only [Oper.upon]
      case value u => obtain ⟨e1, e2⟩ := f4; rw [e1, e2]; exact fin w (Calm.refl w)
      case skip => obtain ⟨e1, e2⟩ := f4; rw [e1, ← e2]; exact fin w (Calm.refl w)
      case enter f args =>
        obtain ⟨e1, hc⟩ := f4
        rw [e1]
        exact hc.mono fun e w'' ⟨he, hw''⟩ => by subst he; exact fin w'' hw''
    | halt x w' => simp only [Oper.quietUpon] at f4
  | idle =>
    have f1 : Region.wanted o (yielded ops b.tmps) = false := hfit
    rw [hwant, f1, if_neg (by simp)]
    exact ⟨X, by simp [h.size], hact X fun _ _ => rfl, rowsSame w (Calm.refl w) (fun _ _ _ e => by cases e) (fun _ _ e => by cases e), hdown⟩
  | new z t kd =>
    obtain ⟨f1, f2⟩ := hfit
    rw [hwant, f1, if_pos rfl]
    left
    unfold Oper.wp
    rw [hex, f2 w]
    simp only [Oper.upon]
    let Y : Nat → Nat := fun i => if i = j then w.heap.size else X i
    have hYj : Y j = w.heap.size := by simp [Y]
    have hY : ∀ i, i ≠ j → Y i = X i := fun i hi => by simp [Y, hi]
    have ha := hact Y hY
    simp only [Does.out, hYj] at ha
    have hcw := h.rows.calm
    refine ⟨Y, by simp [h.size], ha, ⟨hcw.alloc _, fun i z' t' _ hi hl => ?_, fun i k z1 t1 z2 t2 _ _ hi hk hl hl' hik => ?_⟩, hdown⟩
    · rcases (getD_set_iff hjs).1 hl with hl1 | rfl
      · have hij : i ≠ j := fun e => by subst e; rw [hnl] at hl1; cases hl1
        obtain ⟨r1, r2⟩ := h.rows.row i z' t' hi hl1
        rw [hY i hij, rowNow_same fun m cs hm => by rw [hd] at hm; cases hm]
        exact ⟨r1, by rw [Below.heap_alloc _ _ _ (Array.getElem?_eq_some_iff.1 r2).1, r2]⟩
      · rw [hd] at hi; cases hi
        refine ⟨by rw [hYj]; exact hcw.size, ?_⟩
        rw [hYj, rowNow_none]
        · show (w.heap.push _)[w.heap.size]? = _
          simp
        · intro m cs hm
          cases hl2 : (listed.setIfInBounds i true).getD m false with
          | false => rfl
          | true =>
            have hlt : m < ops.size := by
              have := g3 (Nat.zero_le _) (Nat.zero_le _)
              rw [← this]; exact (List.getElem?_eq_some_iff.1 hm).1
            obtain ⟨dm, bm, hdm, _, hfm⟩ := g1 m ops[m] (Nat.zero_le _) (Array.getElem?_eq_getElem hlt)
            rw [hm] at hdm; cases hdm
            obtain ⟨_, _, haf, _⟩ := hfm
            obtain ⟨e, he, hbe⟩ := Array.any_eq_true'.1 haf
            simp only [Bool.and_eq_true, beq_iff_eq] at hbe
            have hmi : m ≠ i := fun e' => by subst e'; rw [hd] at hm; cases hm
            have hlm : listed.getD m false = true := ((getD_set_iff hjs).1 hl2).resolve_right hmi
            have := h.down m ops[m] e (Array.getElem?_eq_getElem hlt) hlm he hbe.1
            rw [hbe.2, hnl] at this
            cases this
    · have key : ∀ i z t kd, p[i]? = some (.new z t kd) → listed.getD i false = true → X i < w.heap.size := fun i z t _ hi hl => (Array.getElem?_eq_some_iff.1 (h.rows.row i z t hi hl).2).1
      rcases (getD_set_iff hjs).1 hl with hl1 | rfl
      · have hij : i ≠ j := fun e => by subst e; rw [hnl] at hl1; cases hl1
        rcases (getD_set_iff hjs).1 hl' with hl2 | rfl
        · have hkj : k ≠ j := fun e => by subst e; rw [hnl] at hl2; cases hl2
          rw [hY i hij, hY k hkj]
          exact h.rows.apart i k z1 t1 z2 t2 hi hk hl1 hl2 hik
        · rw [hY i hij, hYj]
          have := key i z1 t1 _ hi hl1
          omega
      · rcases (getD_set_iff hjs).1 hl' with hl2 | rfl
        · have hkj : k ≠ i := Ne.symm hik
          rw [hYj, hY k hkj]
          have := key k z2 t2 _ hk hl2
          omega
        · exact absurd rfl hik
  | fill k cs =>
    obtain ⟨f1, f0, f3, z, t, kd, hk, f2⟩ := hfit
    rw [hwant, f1, if_pos rfl]
    left
    obtain ⟨e, he, hbe⟩ := Array.any_eq_true'.1 f3
    simp only [Bool.and_eq_true, beq_iff_eq] at hbe
    have hlk : listed.getD k false = true := by rw [← hbe.2]; exact hall e he hbe.1
    obtain ⟨r1, r2⟩ := h.rows.row k z t hk hlk
    rw [rowNow_none fun m cs' hm => by
      cases hl2 : listed.getD m false with
      | false => rfl
      | true => rw [fillsB_spec hf hm hd] at hl2; rw [hnl] at hl2; cases hl2] at r2
    have fin : ∃ X', Inv ops p a0 w0 X' (listed.setIfInBounds j true) (a.put o.dst undef) (w.setRow (X k) cs) := by
      have hlist : ∀ i z t kd, p[i]? = some (.new z t kd) → (listed.setIfInBounds j true).getD i false = true → listed.getD i false = true := fun i z t kd hi hl => by
        rcases (getD_set_iff hjs).1 hl with hl | rfl
        · exact hl
        · rw [hd] at hi; cases hi
      refine ⟨X, by simp [h.size], hact X fun _ _ => rfl, ⟨h.rows.calm.setRow r1 cs, fun i z' t' _ hi hl => ?_, fun i k z t z' t' _ _ hi hk hl hl' hik => h.rows.apart i k z t z' t' hi hk (hlist i z t _ hi hl) (hlist k z' t' _ hk hl') hik⟩, hdown⟩
      obtain ⟨q1, q2⟩ := h.rows.row i z' t' hi (hlist i z' t' _ hi hl)
      refine ⟨q1, ?_⟩
      by_cases hik : i = k
      · subst hik
        rw [hk] at hi; cases hi
        rw [rowNow_fill hf hd (by simp [hjs]), setRow_heap w (X i) _ cs t (0, 0) r2]
      · rw [setRow_other w _ _ cs (h.rows.apart i k z' t' z t hi hk (hlist i z' t' _ hi hl) hlk hik)]
        rw [rowNow_same fun m cs' hm => by rw [hd] at hm; cases hm; exact fun e => hik e.symm]
        exact q2
    unfold Oper.wp
    rw [hex]
    rcases f2 w r2 with f2 | f2 <;> rw [f2] <;> simp only [Oper.upon] <;> exact fin
theorem all_listed (hs : Sound ops) {listed : Array Bool} (h : Region.ready .any ops listed = []) : ∀ (n i : Nat), i ≤ n → i < ops.size → listed.size = ops.size → listed.getD i false = true := by
 intro n
 induction n with
 |zero =>
  intro i hi hlt hsz
  cases hl : listed.getD i false with
  |true => rfl
  |false =>
   have : i ∈ Region.ready .any ops listed := mem_ready.2 ⟨by
    have : i < listed.size := by omega
    simpa [this] using hl, ops[i], Array.getElem?_eq_getElem hlt, fun e he hb => by
     have := hs.before i ops[i] e (Array.getElem?_eq_getElem hlt) he hb
     omega⟩
   rw [h] at this
   cases this
 |succ n ih =>
  intro i hi hlt hsz
  cases hl : listed.getD i false with
  |true => rfl
  |false =>
   have : i ∈ Region.ready .any ops listed := mem_ready.2 ⟨by
    have : i < listed.size := by omega
    simpa [this] using hl, ops[i], Array.getElem?_eq_getElem hlt, fun e he hb => by
     have := hs.before i ops[i] e (Array.getElem?_eq_getElem hlt) he hb
     exact ih e.on (by omega) (by omega) hsz⟩
   rw [h] at this
   cases this
theorem Agree.same {p : List Does} {a0 : Act} {X : Nat → Nat} {S T : Nat → Prop} {a b : Act} (hST : ∀ i, i < ops.size → (S i ∧ T i)) (hp : ops.size ≤ p.length) (ha : Agree ops p a0 X S a) (hb : Agree ops p a0 X T b) : a = b := by
 cases a with
 |mk ta da =>
 cases b with
 |mk tb db =>
 have h1 : da = db := by have := ha.defers; have := hb.defers; simp_all
 have h2 : ta = tb := by
  apply Array.ext_getElem?
  intro t
  by_cases hw : ∃ (i : Nat) (x : Oper), ops[i]? = some x ∧ x.dst = some t
  ·obtain ⟨i, x, hx, hxt⟩ := hw
   have hi : i < ops.size := (Array.getElem?_eq_some_iff.1 hx).1
   by_cases hlt : t < a0.tmps.size
   ·have e1 := ha.put i x p[i] t hx (List.getElem?_eq_getElem (by omega)) (hST i hi).1 hxt hlt
    have e2 := hb.put i x p[i] t hx (List.getElem?_eq_getElem (by omega)) (hST i hi).2 hxt hlt
    exact e1.trans e2.symm
   ·have s1 := ha.size
    have s2 := hb.size
    simp only at s1 s2
    have e1 : ta[t]? = none := Array.getElem?_eq_none (by omega)
    have e2 : tb[t]? = none := Array.getElem?_eq_none (by omega)
    rw [e1, e2]
  ·have hno : ∀ (i : Nat) (x : Oper), ops[i]? = some x → x.dst ≠ some t := fun i x hx hxt => hw ⟨i, x, hx, hxt⟩
   have e1 := ha.old t fun i x hx _ => hno i x hx
   have e2 := hb.old t fun i x hx _ => hno i x hx
   exact e1.trans e2.symm
 rw [h1, h2]
def rowEnd (p : List Does) (i : Nat) (z : Array Value) : Array Value :=
 match (List.range p.length).findSome? (fun j => match p[j]? with | some (Does.fill m cs) => if m == i then some cs else none | _ => none) with
 |some cs => cs
 |none => z
structure Behind (p : List Does) (w0 : World) (X : Nat → Nat) (w : World) : Prop where
 calm : Calm w0 w
 row : ∀ i z t {kd}, p[i]? = some (.new z t kd) → w0.heap.size ≤ X i ∧ w.heap[X i]? = some (.cells (rowEnd p i z) t (0, 0))
 apart : ∀ i j z t z' t' {kd kd'}, p[i]? = some (.new z t kd) → p[j]? = some (.new z' t' kd') → i ≠ j → X i ≠ X j
theorem rowNow_end {p : List Does} {listed : Array Bool} (h : ∀ i, i < p.length → listed.getD i false = true) (i : Nat) (z : Array Value) : rowNow p listed i z = rowEnd p i z := by
 have key : ∀ l : List Nat, (∀ j, j ∈ l → j < p.length) → l.findSome? (fun j => if listed.getD j false then (match p[j]? with | some (Does.fill m cs) => if m == i then some cs else none | _ => none) else none) = l.findSome? (fun j => match p[j]? with | some (Does.fill m cs) => if m == i then some cs else none | _ => none) := by
  intro l
  induction l with
  |nil => intro _; rfl
  |cons j l ih =>
   intro hl
   simp only [List.findSome?_cons, h j (hl j (by simp)), if_true]
   rw [ih fun k hk => hl k (by simp [hk])]
 unfold rowNow rowEnd
 rw [key _ fun j hj => List.mem_range.1 hj]
/-- A REGION THAT DRAWS ITS ORDER, BY A PLAN: one walk in the text's order serves every order. -/
theorem wp_region_plan {id : Nat} {Q : Exit → Act → World → Prop} {a0 : Act} {w0 : World} {l : List Oper} (p : List Does) (hm : P.follows .mixedOrders = true) (hB : planB l.toArray = true) (hf : fillsB p = true)
    (hp : ∀ X : Nat → Nat, Plan P l.toArray w0.drew X p (fun a => ∀ w', Behind p w0.drew X w' → Q .normal a w') 0 l p a0) : (Code.region id l.toArray true).wp P Q a0 w0 := by
  have hs := planB_sound hB
  refine wp_region_any hm (wpAny_inv (fun listed a w => ∃ X, Inv l.toArray p a0 w0.drew X listed a w) (fun listed a w j h hj => ?_) (fun listed a w h h0 => ?_) _ _ _ _ (by simp [unlisted, List.countP_replicate]) ⟨fun _ => 0, by simp, ?_, ⟨Calm.refl _, ?_, ?_⟩, ?_⟩)
  · obtain ⟨X, h⟩ := h
    exact Inv.step hs hf hp h hj
  · obtain ⟨X, h⟩ := h
    have hall := fun i (hi : i < l.toArray.size) => all_listed hs h0 i i (Nat.le_refl _) hi h.size
    obtain ⟨_, ⟨b, hb, hR⟩, g3⟩ := plan_get (X := X) hs l p 0 a0 rfl rfl ⟨rfl, rfl, fun i o d t _ _ hi => absurd hi (Nat.not_lt_zero _), fun t _ => rfl⟩ (hp X)
    have hlen := g3 (Nat.zero_le _) (Nat.zero_le _)
    obtain rfl := Agree.same (fun i hi => ⟨hall i hi, hi⟩) (by omega) h.act hb
    refine hR w ⟨h.rows.calm, fun i z t _ hi => ?_, fun i j z t z' t' _ _ hi hj hij => ?_⟩
    · have hlt : i < l.toArray.size := by rw [← hlen]; exact (List.getElem?_eq_some_iff.1 hi).1
      have := h.rows.row i z t hi (hall i hlt)
      rw [rowNow_end (fun k hk => hall k (by omega))] at this
      exact this
    · have hlt : i < l.toArray.size := by rw [← hlen]; exact (List.getElem?_eq_some_iff.1 hi).1
      have hlt' : j < l.toArray.size := by rw [← hlen]; exact (List.getElem?_eq_some_iff.1 hj).1
      exact h.rows.apart i j z t z' t' hi hj (hall i hlt) (hall j hlt') hij
  · refine ⟨rfl, rfl, fun i o d t _ _ hi => ?_, fun _ _ => rfl⟩
    simp [Array.getElem?_replicate] at hi
    split at hi <;> simp at hi
  · intro i z t _ _ hi
    simp [Array.getElem?_replicate] at hi
    split at hi <;> simp at hi
  · intro i j z t z' t' _ _ _ _ hi
    simp [Array.getElem?_replicate] at hi
    split at hi <;> simp at hi
  · intro i o e _ hi
    simp [Array.getElem?_replicate] at hi
    split at hi <;> simp at hi
section
variable {w0 : World} {X : Nat → Nat} {p : List Does} {R : Act → Prop}
theorem plan_val {i : Nat} {o : Oper} {os : List Oper} {ds : List Does} {a : Act} {v : Value} (h1 : Region.wanted o (yielded ops a.tmps) = true) (h2 : ∀ w, Calm w0 w → Oper.quietUpon P (Calm w) w v ((execOp a.eval o).run P w))
    (h3 : Plan P ops w0 X p R (i + 1) os ds (a.put o.dst v)) : Plan P ops w0 X p R i (o :: os) (.val v :: ds) a := ⟨⟨h1, h2⟩, h3⟩
theorem plan_idle {i : Nat} {o : Oper} {os : List Oper} {ds : List Does} {a : Act} (h1 : Region.wanted o (yielded ops a.tmps) = false)
    (h3 : Plan P ops w0 X p R (i + 1) os ds (a.put o.dst undef)) : Plan P ops w0 X p R i (o :: os) (.idle :: ds) a := ⟨h1, h3⟩
theorem plan_end {i : Nat} {a : Act} (h : R a) : Plan P ops w0 X p R i [] [] a := h
end
end
open Go.RowKit
section
variable {P : Program} {ops : Array Oper}
inductive Doing where
 |val (v : Value) (bef : List Nat := [])
 |idle
 |late (aft : List Nat := [])
def Doing.out (Y : Nat → Value) (i : Nat) : Doing → Value
 | .val v _ => v
 | .idle => undef
 | .late _ => Y i
def updV (Y : Nat → Value) (i : Nat) (y : Value) : Nat → Value := fun j => if j = i then y else Y j
def updB (L : Nat → Bool) (i : Nat) : Nat → Bool := fun j => if j = i then true else L j
abbrev Stages := List Bool → (Nat → Value) → World → Prop
def Doing.fits (P : Program) (ops : Array Oper) (late : List Nat) (St : Stages) (Y : Nat → Value) (i : Nat) (o : Oper) (a : Act) : Doing → Prop
  | .val v bef => Region.wanted o (yielded ops a.tmps) = true ∧ ∀ (L : Nat → Bool) (w : World), (∀ j ∈ bef, L j = false) → St (late.map L) Y w → Oper.quietUpon P (Calm w) w v ((execOp a.eval o).run P w)
  | .idle => Region.wanted o (yielded ops a.tmps) = false
  | .late aft => ∀ (L : Nat → Bool) (w : World), L i = false → (∀ j ∈ aft, L j = true) → St (late.map L) Y w →
      wpList P ops (fun x a' w' => x = .normal ∧ ∃ y, a' = a.put o.dst y ∧ St (late.map (updB L i)) (updV Y i y) w') [o] a w
def PlanS (P : Program) (ops : Array Oper) (late : List Nat) (St : Stages) (Y : Nat → Value) (R : Act → Prop) : Nat → List Oper → List Doing → Act → Prop
 |_, [], [], a => R a
 |i, o :: os, d :: ds, a => d.fits P ops late St Y i o a ∧ PlanS P ops late St Y R (i + 1) os ds (a.put o.dst (d.out Y i))
 |_, _, _, _ => False
def stagesB (ops : Array Oper) (late : List Nat) (p : List Doing) : Bool :=
  late.all (fun i => decide (i < p.length)) && (List.range p.length).all fun i => match p[i]? with
    | none => true
    | some (.val _ bef) => !late.contains i && bef.all fun j => match ops[j]? with
        | none => false
        | some x => x.after.any fun e => Region.binds .any e && e.on == i
    | some .idle => !late.contains i
    | some (.late aft) => late.contains i && aft.all fun j => match ops[i]? with
        | none => false
        | some x => x.after.any fun e => Region.binds .any e && e.on == j
structure AgreeV (ops : Array Oper) (val : Nat → Value) (a0 : Act) (S : Nat → Prop) (a : Act) : Prop where
 defers : a.defers = a0.defers
 size : a.tmps.size = a0.tmps.size
 put : ∀ i o t, ops[i]? = some o → S i → o.dst = some t → t < a0.tmps.size → a.tmps[t]? = some (val i)
 old : ∀ t, (∀ i o, ops[i]? = some o → S i → o.dst ≠ some t) → a.tmps[t]? = a0.tmps[t]?
theorem AgreeV.step {val val' : Nat → Value} {a0 : Act} {S T : Nat → Prop} {a : Act} (hs : Sound ops) (h : AgreeV ops val a0 S a) {j : Nat} {o : Oper} (ho : ops[j]? = some o)
    (hT : ∀ i, T i ↔ (S i ∨ i = j)) (hv : ∀ i, S i → i ≠ j → val' i = val i) (hj : ¬ S j) {v : Value} (hvj : ∀ t, o.dst = some t → t < a0.tmps.size → val' j = v) : AgreeV ops val' a0 T (a.put o.dst v) := by
  refine ⟨by rw [put_def, h.defers], by rw [put_size, h.size], fun i oi t hoi hi ht hlt => ?_, fun t ht => ?_⟩
  · rw [put_get]
    rcases (hT i).1 hi with hi | rfl
    · have hij : i ≠ j := fun e => by subst e; exact hj hi
      by_cases hc : o.dst = some t ∧ t < a.tmps.size
      · obtain rfl := hs.apart j i o oi t ho hoi ht hc.1
        exact absurd rfl hij
      · rw [if_neg hc, hv i hi hij]
        exact h.put i oi t hoi hi ht hlt
    · rw [ho] at hoi; cases hoi
      rw [if_pos ⟨ht, by rw [h.size]; exact hlt⟩, hvj t ht hlt]
  · rw [put_get, if_neg (fun hc => ht j o ho ((hT j).2 (Or.inr rfl)) hc.1)]
    exact h.old t fun i oi hoi hi => ht i oi hoi ((hT i).2 (Or.inl hi))
theorem AgreeV.same {val : Nat → Value} {a0 : Act} {S T : Nat → Prop} {a b : Act} (hST : ∀ i, i < ops.size → (S i ∧ T i)) (ha : AgreeV ops val a0 S a) (hb : AgreeV ops val a0 T b) : a = b := by
 obtain ⟨at_, ad⟩ := a
 obtain ⟨bt, bd⟩ := b
 have h1 : ad = bd := ha.defers.trans hb.defers.symm
 subst h1
 congr 1
 apply Array.ext_getElem?
 intro t
 by_cases hw : ∃ (i : Nat) (x : Oper), ops[i]? = some x ∧ x.dst = some t
 ·obtain ⟨i, x, hx, hxt⟩ := hw
  have hi : i < ops.size := (Array.getElem?_eq_some_iff.1 hx).1
  by_cases hlt : t < a0.tmps.size
  ·exact (ha.put i x t hx (hST i hi).1 hxt hlt).trans (hb.put i x t hx (hST i hi).2 hxt hlt).symm
  ·rw [Array.getElem?_eq_none (by have := ha.size; simp only at this; omega), Array.getElem?_eq_none (by have := hb.size; simp only at this; omega)]
 ·have hno : ∀ (i : Nat) (x : Oper), ops[i]? = some x → x.dst ≠ some t := fun i x hx hxt => hw ⟨i, x, hx, hxt⟩
  exact (ha.old t fun i x hx _ => hno i x hx).trans (hb.old t fun i x hx _ => hno i x hx).symm
def valsOf (p : List Doing) (Y : Nat → Value) (i : Nat) : Value := match p[i]? with | some d => d.out Y i | none => undef
theorem planS_get {late : List Nat} {St : Stages} {Y : Nat → Value} {p : List Doing} {a0 : Act} {R : Act → Prop} (hs : Sound ops) : ∀ (os : List Oper) (ds : List Doing) (i : Nat) (a : Act), os = ops.toList.drop i → ds = p.drop i →
    AgreeV ops (valsOf p Y) a0 (· < i) a → PlanS P ops late St Y R i os ds a →
    (∀ j o, i ≤ j → ops[j]? = some o → ∃ d b, p[j]? = some d ∧ AgreeV ops (valsOf p Y) a0 (· < j) b ∧ d.fits P ops late St Y j o b) ∧ (∃ b, AgreeV ops (valsOf p Y) a0 (· < ops.size) b ∧ R b) ∧ (i ≤ ops.size → i ≤ p.length → p.length = ops.size)
  | [], [], i, a, hos, hds, ha, h => by
    have hl : ops.size ≤ i := by have := congrArg List.length hos; simp at this; omega
    refine ⟨fun j o hj hoj => ?_, ⟨a, ⟨ha.defers, ha.size, fun k o t ho hk ht hlt => ha.put k o t ho (by omega) ht hlt, fun t ht => ha.old t fun k o ho hk => ht k o ho ?_⟩, h⟩, fun hi hi2 => ?_⟩
    · have := (Array.getElem?_eq_some_iff.1 hoj).1; omega
    · exact (Array.getElem?_eq_some_iff.1 ho).1
    · have := congrArg List.length hds; simp at this; omega
  | [], d :: ds, i, a, _, _, _, h => absurd h (by simp [PlanS])
  | o :: os, [], i, a, _, _, _, h => absurd h (by simp [PlanS])
  | o :: os, d :: ds, i, a, hos, hds, ha, h => by
    have hlen : i < ops.size := by have := congrArg List.length hos; simp at this; omega
    have ho : ops[i]? = some o := by
      have := congrArg (·[0]?) hos
      simpa using this.symm
    have hd : p[i]? = some d := by
      have := congrArg (·[0]?) hds
      simpa using this.symm
    have hos' : os = ops.toList.drop (i + 1) := by rw [← List.tail_drop, ← hos]; rfl
    have hds' : ds = p.drop (i + 1) := by rw [← List.tail_drop, ← hds]; rfl
    obtain ⟨h1, h2⟩ := h
    have hplen : i < p.length := by have := congrArg List.length hds; simp at this; omega
    have hval : valsOf p Y i = d.out Y i := by unfold valsOf; rw [hd]
    obtain ⟨g1, g2, g3⟩ := planS_get hs os ds (i + 1) (a.put o.dst (d.out Y i)) hos' hds' (ha.step hs ho (fun k => by omega) (fun _ _ _ => rfl) (by omega) (fun _ _ _ => hval)) h2
    refine ⟨fun j oj hj hoj => ?_, g2, fun _ _ => g3 (by omega) (by omega)⟩
    rcases Nat.eq_or_lt_of_le hj with rfl | hj
    · rw [ho] at hoj; cases hoj
      exact ⟨d, a, hd, ha, h1⟩
    · exact g1 j oj hj hoj
structure InvS (ops : Array Oper) (late : List Nat) (St : Stages) (p : List Doing) (a0 : Act) (Y : Nat → Value) (listed : Array Bool) (a : Act) (w : World) : Prop where
 size : listed.size = ops.size
 act : AgreeV ops (valsOf p Y) a0 (fun i => listed.getD i false = true) a
 st : St (late.map fun i => listed.getD i false) Y w
 down : ∀ i o e, ops[i]? = some o → listed.getD i false = true → e ∈ o.after → Region.binds .any e = true → listed.getD e.on false = true
theorem map_early {late : List Nat} {L M : Nat → Bool} {i : Nat} (hi : late.contains i = false) (h : ∀ j, j ≠ i → M j = L j) : late.map M = late.map L := by
 apply List.map_congr_left
 intro j hj
 refine h j fun e => ?_
 subst e
 rw [List.contains_iff_mem.2 hj] at hi
 cases hi
theorem InvS.step {late : List Nat} {St : Stages} {p : List Doing} {a0 : Act} {R : (Nat → Value) → Act → Prop} {Q : Exit → Act → World → Prop} (hs : Sound ops) (hB : stagesB ops late p = true)
    (hC : ∀ bs Y w w', St bs Y w → Calm w w' → St bs Y w') (hp : ∀ Y, PlanS P ops late St Y (R Y) 0 ops.toList p a0) {Y : Nat → Value} {listed : Array Bool} {a : Act} {w : World} {j : Nat}
    (h : InvS ops late St p a0 Y listed a w) (hj : j ∈ Region.ready .any ops listed) :
    wpOp P ops Q j (fun a' w' => ∃ Y', InvS ops late St p a0 Y' (listed.setIfInBounds j true) a' w') a w := by
  obtain ⟨hun, o, ho, hall⟩ := mem_ready.1 hj
  have hjs : j < listed.size := by rw [h.size]; exact (Array.getElem?_eq_some_iff.1 ho).1
  have hnl : listed.getD j false = false := by
    rw [Array.getD_eq_getD_getElem?] at hun ⊢
    rw [Array.getElem?_eq_getElem hjs] at hun ⊢
    simpa using hun
  obtain ⟨g1, _, g3⟩ := planS_get (Y := Y) hs ops.toList p 0 a0 rfl rfl ⟨rfl, rfl, fun i o t _ hi => absurd hi (Nat.not_lt_zero _), fun t _ => rfl⟩ (hp Y)
  obtain ⟨d, b, hd, hb, hfit⟩ := g1 j o (Nat.zero_le _) ho
  have hlook : ∀ t ∈ o.looksAt ops, a.tmps[t]? = b.tmps[t]? := fun t ht => by
    by_cases hw : ∃ (i : Nat) (x : Oper), ops[i]? = some x ∧ x.dst = some t
    · obtain ⟨i, x, hx, hxt⟩ := hw
      obtain ⟨hij, e, he, hbe, rfl⟩ := hs.looks j i o x t ho hx hxt ht
      have hli := hall e he hbe
      by_cases hlt : t < a0.tmps.size
      · rw [h.act.put e.on x t hx hli hxt hlt, hb.put e.on x t hx hij hxt hlt]
      · have e1 : a.tmps[t]? = none := Array.getElem?_eq_none (by rw [h.act.size]; exact Nat.le_of_not_lt hlt)
        have e2 : b.tmps[t]? = none := Array.getElem?_eq_none (by rw [hb.size]; exact Nat.le_of_not_lt hlt)
        rw [e1, e2]
    · have hno : ∀ (i : Nat) (x : Oper), ops[i]? = some x → x.dst ≠ some t := fun i x hx hxt => hw ⟨i, x, hx, hxt⟩
      rw [h.act.old t fun i x hx _ => hno i x hx, hb.old t fun i x hx _ => hno i x hx]
  obtain ⟨hex, hwant⟩ := same_look (hs.noSelect j o · · ho) hlook
  have hdown : ∀ i o' e, ops[i]? = some o' → (listed.setIfInBounds j true).getD i false = true → e ∈ o'.after → Region.binds .any e = true → (listed.setIfInBounds j true).getD e.on false = true := fun i o' e ho' hi he hbe => by
    rcases (getD_set_iff hjs).1 hi with hi | rfl
    · exact getD_set_true (h.down i o' e ho' hi he hbe)
    · rw [ho] at ho'; cases ho'
      exact getD_set_true (hall e he hbe)
  have hpB := List.all_eq_true.1 (Bool.and_eq_true_iff.1 hB).2 j (List.mem_range.2 (List.getElem?_eq_some_iff.1 hd).1)
  rw [hd] at hpB
  have hmapE : late.contains j = false → (late.map fun i => (listed.setIfInBounds j true).getD i false) = late.map fun i => listed.getD i false := fun hl =>
    map_early hl fun i hi => getD_set_ne false (Ne.symm hi)
  have hmapL : (late.map fun i => (listed.setIfInBounds j true).getD i false) = late.map (updB (fun i => listed.getD i false) j) := by
    apply List.map_congr_left
    intro i _
    unfold updB
    by_cases hij : i = j
    · subst hij; rw [if_pos rfl]; exact (getD_set_iff hjs).2 (Or.inr rfl)
    · rw [if_neg hij]; exact getD_set_ne false (Ne.symm hij)
  have hvalj : valsOf p Y j = d.out Y j := by unfold valsOf; rw [hd]
  have hnS : ¬ (listed.getD j false = true) := by rw [hnl]; simp
  unfold wpOp
  simp only [ho]
  cases d with
  | val v bef =>
    simp only [Bool.and_eq_true, Bool.not_eq_true'] at hpB
    obtain ⟨f1, f2⟩ := hfit
    rw [hwant, f1, if_pos rfl]
    left
    unfold Oper.wp
    rw [hex]
    have hbef : ∀ k ∈ bef, listed.getD k false = false := fun k hk => by
      have h1 := List.all_eq_true.1 hpB.2 k hk
      cases hok : ops[k]? with
      | none => rw [hok] at h1; cases h1
      | some x =>
        rw [hok] at h1
        obtain ⟨e, he, h2⟩ := Array.any_eq_true'.1 h1
        simp only [Bool.and_eq_true, beq_iff_eq] at h2
        cases hlk : listed.getD k false with
        | false => rfl
        | true =>
          have := h.down k x e hok hlk he h2.1
          rw [h2.2, hnl] at this
          cases this
    have f3 := f2 (fun i => listed.getD i false) w hbef h.st
    have fin : ∀ w', Calm w w' → ∃ Y', InvS ops late St p a0 Y' (listed.setIfInBounds j true) (a.put o.dst v) w' := fun w' hw' =>
      ⟨Y, by simp [h.size], h.act.step hs ho (fun i => getD_set_iff hjs) (fun _ _ _ => rfl) hnS (fun _ _ _ => hvalj), by rw [hmapE hpB.1]; exact hC _ _ _ _ h.st hw', hdown⟩
    generalize (execOp b.eval o).run P w = r at *
    cases r with
    | ok n w' =>
      cases n <;> simp only [Oper.quietUpon] at f3 <;> simp only [Oper.upon]
      case value u => obtain ⟨e1, e2⟩ := f3; rw [e1, e2]; exact fin w (Calm.refl w)
      case skip => obtain ⟨e1, e2⟩ := f3; rw [e1, ← e2]; exact fin w (Calm.refl w)
      case enter f args =>
        obtain ⟨e1, hc⟩ := f3
        rw [e1]
        exact hc.mono fun e w'' ⟨he, hw''⟩ => by subst he; exact fin w'' hw''
    | halt x w' => simp only [Oper.quietUpon] at f3
  | idle =>
    simp only [Bool.not_eq_true'] at hpB
    have f1 : Region.wanted o (yielded ops b.tmps) = false := hfit
    rw [hwant, f1, if_neg (by simp)]
    exact ⟨Y, by simp [h.size], h.act.step hs ho (fun i => getD_set_iff hjs) (fun _ _ _ => rfl) hnS (fun _ _ _ => hvalj), by rw [hmapE hpB]; exact h.st, hdown⟩
  | late aft =>
    simp only [Bool.and_eq_true] at hpB
    have haft : ∀ k ∈ aft, listed.getD k false = true := fun k hk => by
      have h1 := List.all_eq_true.1 hpB.2 k hk
      rw [ho] at h1
      obtain ⟨e, he, h2⟩ := Array.any_eq_true'.1 h1
      simp only [Bool.and_eq_true, beq_iff_eq] at h2
      rw [← h2.2]
      exact hall e he h2.1
    have f2 := hfit (fun i => listed.getD i false) w hnl haft h.st
    rw [← hmapL] at f2
    have fin : ∀ (v : Value) (w' : World), (∃ y, b.put o.dst v = b.put o.dst y ∧ St (late.map fun i => (listed.setIfInBounds j true).getD i false) (updV Y j y) w') →
        ∃ Y', InvS ops late St p a0 Y' (listed.setIfInBounds j true) (a.put o.dst v) w' := fun v w' ⟨y, hy, hst⟩ => by
      refine ⟨updV Y j y, by simp [h.size], h.act.step hs ho (fun i => getD_set_iff hjs) (fun i _ hij => ?_) hnS (fun t ht hlt => ?_), hst, hdown⟩
      · unfold valsOf
        cases hpi : p[i]? with
        | none => rfl
        | some di => cases di <;> simp [Doing.out, updV, hij]
      · have h1 := congrArg (fun c : Act => c.tmps[t]?) hy
        simp only [put_get] at h1
        have hlb : t < b.tmps.size := by rw [hb.size]; exact hlt
        rw [if_pos ⟨ht, hlb⟩, if_pos ⟨ht, hlb⟩] at h1
        unfold valsOf
        rw [hd]
        simp only [Doing.out, updV, if_pos]
        exact (Option.some.inj h1).symm
    simp only [wpList] at f2
    rw [hwant]
    cases hw : Region.wanted o (yielded ops b.tmps) with
    | false =>
      rw [hw] at f2
      rw [if_neg (by simp)] at f2 ⊢
      obtain ⟨_, y, hy, hst⟩ := f2
      exact fin undef w ⟨y, hy, hst⟩
    | true =>
      rw [hw] at f2
      rw [if_pos rfl] at f2 ⊢
      left
      rcases f2 with f2 | ⟨_, x, w2, hx, _⟩
      rotate_left
      · cases hx
      unfold Oper.wp at f2 ⊢
      rw [hex]
      generalize (execOp b.eval o).run P w = r at *
      cases r with
      | ok n w' =>
        cases n <;> simp only [Oper.upon] at f2 ⊢
        case value v => exact fin v w' f2.2
        case skip => exact fin undef w' f2.2
        case defer dd =>
          obtain ⟨_, y, hy, _⟩ := f2
          have h1 := congrArg Act.defers hy
          rw [put_def, put_def] at h1
          simp at h1
        case enter f args =>
          refine f2.mono fun e w'' he => ?_
          cases e with
          | returned v => exact fin v w'' he.2
          | panicked c => cases he.1
          | outgrown => obtain ⟨x, w2, hx, _⟩ := he; cases hx
        case row row args => exact f2.mono fun v w'' he => fin v w'' he.2
      | halt x w' =>
        cases x <;> simp only [Oper.upon] at f2
        case panic v => cases f2.1
/-- A REGION THAT DRAWS ITS ORDER AND WRITES, by stages. -/
theorem wp_region_stages {id : Nat} {Q : Exit → Act → World → Prop} {a0 : Act} {w0 : World} {l : List Oper} (p : List Doing) (late : List Nat) (St : Stages) (hm : P.follows .mixedOrders = true) (hB : planB l.toArray = true) (hS : stagesB l.toArray late p = true)
    (hC : ∀ bs Y w w', St bs Y w → Calm w w' → St bs Y w') (h0 : ∀ Y, St (late.map fun _ => false) Y w0.drew)
    (hp : ∀ Y, PlanS P l.toArray late St Y (fun a => ∀ w', St (late.map fun _ => true) Y w' → Q .normal a w') 0 l p a0) : (Code.region id l.toArray true).wp P Q a0 w0 := by
  have hs := planB_sound hB
  refine wp_region_any hm (wpAny_inv (fun listed a w => ∃ Y, InvS l.toArray late St p a0 Y listed a w) (fun listed a w j h hj => ?_) (fun listed a w h h0 => ?_) _ _ _ _ (by simp [unlisted, List.countP_replicate]) ⟨fun _ => undef, by simp, ?_, ?_, ?_⟩)
  · obtain ⟨Y, h⟩ := h
    exact InvS.step hs hS hC hp h hj
  · obtain ⟨Y, h⟩ := h
    have hall := fun i (hi : i < l.toArray.size) => all_listed hs h0 i i (Nat.le_refl _) hi h.size
    obtain ⟨_, ⟨b, hb, hR⟩, g3⟩ := planS_get (Y := Y) hs l p 0 a0 rfl rfl ⟨rfl, rfl, fun i o t _ hi => absurd hi (Nat.not_lt_zero _), fun t _ => rfl⟩ (hp Y)
    have hlen := g3 (Nat.zero_le _) (Nat.zero_le _)
    obtain rfl := AgreeV.same (fun i hi => ⟨hall i hi, hi⟩) h.act hb
    refine hR w ?_
    have hst := h.st
    have e : (late.map fun i => listed.getD i false) = late.map fun _ => true := by
      apply List.map_congr_left
      intro i hi
      have hil : i < p.length := of_decide_eq_true (List.all_eq_true.1 (Bool.and_eq_true_iff.1 hS).1 i hi)
      exact hall i (by omega)
    rw [e] at hst
    exact hst
  · refine ⟨rfl, rfl, fun i o t _ hi => ?_, fun _ _ => rfl⟩
    simp [Array.getElem?_replicate] at hi
    split at hi <;> simp at hi
  · have e : (late.map fun i => (Array.replicate l.toArray.size false).getD i false) = late.map fun _ => false := by
      apply List.map_congr_left
      intro i _
      exact getD_replicate_false _ _
    rw [e]
    exact h0 _
  · intro i o e _ hi
    simp [Array.getElem?_replicate] at hi
    split at hi <;> simp at hi
end
open Go.RowKit
section
variable {P : Program} {ops : Array Oper}
theorem planS_val {late : List Nat} {St : Stages} {Y : Nat → Value} {R : Act → Prop} {i : Nat} {o : Oper} {os : List Oper} {ds : List Doing} {a : Act} {v : Value} {bef : List Nat} (h1 : Region.wanted o (yielded ops a.tmps) = true)
    (h2 : ∀ (L : Nat → Bool) (w : World), (∀ j ∈ bef, L j = false) → St (late.map L) Y w → Oper.quietUpon P (Calm w) w v ((execOp a.eval o).run P w))
    (h3 : PlanS P ops late St Y R (i + 1) os ds (a.put o.dst v)) : PlanS P ops late St Y R i (o :: os) (.val v bef :: ds) a := ⟨⟨h1, h2⟩, h3⟩
theorem planS_late {late : List Nat} {St : Stages} {Y : Nat → Value} {R : Act → Prop} {i : Nat} {o : Oper} {os : List Oper} {ds : List Doing} {a : Act} {aft : List Nat}
    (h2 : ∀ (L : Nat → Bool) (w : World), L i = false → (∀ j ∈ aft, L j = true) → St (late.map L) Y w → wpList P ops (fun x a' w' => x = .normal ∧ ∃ y, a' = a.put o.dst y ∧ St (late.map (updB L i)) (updV Y i y) w') [o] a w)
    (h3 : PlanS P ops late St Y R (i + 1) os ds (a.put o.dst (Y i))) : PlanS P ops late St Y R i (o :: os) (.late aft :: ds) a := ⟨h2, h3⟩
theorem planS_end {late : List Nat} {St : Stages} {Y : Nat → Value} {R : Act → Prop} {i : Nat} {a : Act} (h : R a) : PlanS P ops late St Y R i [] [] a := h
variable {i j k : Nat} {A0 : World → Prop} {A1 A2 A3 : Value → World → Prop} {Y : Nat → Value} {L : Nat → Bool} {w : World}
end
open Go.RowKit
theorem ret_int {a b : Int} (h : a = b) : Ending.returned (.int .i64 a) = .returned (.int .i64 b) := by rw [h]
theorem ret_bool {a b : Bool} (h : a = b) : Ending.returned (.bool a) = .returned (.bool b) := by rw [h]
open Go.RowKit
set_option maxHeartbeats 400000 in
theorem between_any (x n : Int) (w : World) : Calls Try.prog 33 #[.int .i64 x, .int .i64 n] w fun e w' => e = .returned (.bool (decide (0 ≤ x ∧ x ≤ n))) ∧ w = w' := by
 go_enter Try.func33, Try.ntmps33
 go_wp2
 all_goals
  go_ret
  exact ⟨ret_bool (Bool.eq_iff_iff.2 (by simp; omega)), rfl⟩
open Go.RowKit
theorem heap_new (w : World) (o : Obj) : (w.alloc o).heap[w.heap.size]? = some o := by show (w.heap.push o)[w.heap.size]? = _; simp
open Go.RowKit
theorem Calm.grownBy {w w' : World} (h : Calm w w') (row : Option Nat) : w.grownBy w' row := ⟨Below.os h, Below.tape h, Below.output h, Below.size h, fun _ hk _ => h.block hk⟩
open Go.RowKit
def LiesI (w : World) (A : Option Addr) (l : List Int) : Prop :=
 0 < l.length → ∃ b q, A = some ⟨b, q, none⟩ ∧ b < w.heap.size ∧ ∀ (k : Nat) (x : Int), l[k]? = some x → w.cell? ⟨b, q + k, none⟩ = some (.int .i64 x)
theorem LiesI.calm {w w' : World} {A : Option Addr} {l : List Int} (h : LiesI w A l) (hb : Calm w w') : LiesI w' A l := fun hl => by
 obtain ⟨b, q, hA, hlt, hk⟩ := h hl
 exact ⟨b, q, hA, Nat.lt_of_lt_of_le hlt hb.size, fun k x hx => (hb.facts.1 b _ hlt).trans (hk k x hx)⟩
open Go.ChangeShapes Go.WideShapes Go.ChangeAt Go.RowKit
theorem own : ownKnob Try.prog.godebug = none := by kernel_rfl
theorem laidOut : laidOutB Try.prog = true := by kernel_rfl
section
variable {H : Type} {enc : TypeId × Value → H} {P : Program}
theorem trodAll_stays (hl : laidOutB P = true) {W W' : World} (hb : Calm W W') : ∀ (ts : List TypeId) (vs : List Value) (ds : List (DataW H)) (ps : List MemPlace), ts.all (fun t => P.readableRec t && decide (t < P.types.size)) = true →
    DataW.TrodAll enc P W 0 (fun _ => true) true ts vs ds ps → (∀ x ∈ ps, x.block < W.heap.size) → DataW.TrodAll enc P W' 0 (fun b => decide (b < W.heap.size)) true ts vs ds ps
  | [], [], [], ps, _, h, _ => h
  | t :: ts, v :: vs, d :: ds, ps, ht, h, hlt => by
    obtain ⟨p, q, h1, h2, rfl⟩ := h
    simp only [List.all_cons, Bool.and_eq_true, decide_eq_true_eq] at ht
    exact ⟨p, q, Below.trod hl ht.1.1 ht.1.2 h1 hb fun x hx => hlt x (List.mem_append_left _ hx), trodAll_stays hl hb ts vs ds q (by simpa using ht.2) h2 fun x hx => hlt x (List.mem_append_right _ hx), rfl⟩
  | [], _ :: _, _, _, _, h, _ => absurd h (by simp [DataW.TrodAll])
  | [], [], _ :: _, _, _, h, _ => absurd h (by simp [DataW.TrodAll])
  | _ :: _, [], _, _, _, h, _ => absurd h (by simp [DataW.TrodAll])
  | _ :: _, _ :: _, [], _, _, h, _ => absurd h (by simp [DataW.TrodAll])
/-- The row's post, of a law: it answers true, and nothing that was there has turned. -/
theorem law_post (hl : laidOutB P = true) {f : Func} {s : ChangeSpec} {apart fresh handsOn : Bool} {W W' : World} {args : Array Value} {ds gs : List (DataW H)} {before : List MemPlace}
    (hW : DataW.Whole enc P f.params.toList s.vars apart W args.toList ds gs before) (hb : Calm W W') (hbool : ∃ t, f.resultTypes = #[t] ∧ P.underlying t = some .bool)
    (hts : f.params.toList.all (fun t => P.readableRec t && decide (t < P.types.size)) = true) (hvars : s.vars = []) (hspec : (s.fn H (ds ++ gs)).results = [.lit (.bool true)] ∧ (s.fn H (ds ++ gs)).args = ds ∧ (s.fn H (ds ++ gs)).vars = []) :
    s.post enc P f apart fresh handsOn false W args (.bool true) W' := by
  obtain ⟨t, ht, hu⟩ := hbool
  obtain ⟨h1, h2, h3⟩ := hspec
  have hlt := hW.lt
  obtain ⟨p, q, hA, hV, rfl, hz, hn⟩ := id hW
  rw [hvars] at hV
  obtain ⟨rfl, rfl⟩ := trodVars_none hV
  refine ⟨ds, [], p ++ [], [], p, [], hW, ?_, ?_, ?_, World.keptBut_mono (fun _ h => h) (Below.frame hb _), fun h => by cases h⟩
  · rw [h1, ht]
    exact trodAll_mk1 (shut_bool hu true)
  · rw [h2]
    exact trodAll_stays hl hb _ _ _ _ hts hA fun x hx => hlt x (by simpa using hx)
  · rw [h3, hvars]
    exact rfl
end
section
variable {H : Type} {enc : TypeId × Value → H} {w : World} {base : Nat} {spare : Nat → Bool} {held : Bool}
theorem cellsInt : Try.prog.cellsOf 3 = 1 := by kernel_rfl
theorem cellsStr : Try.prog.cellsOf 9 = 1 := by kernel_rfl
variable {r : Reach} {b0 : Nat} {v : Value} {d : DataW H} {ps : List MemPlace}
end
open Go.ChangeShapes Go.WideShapes Go.ChangeAt Go.RowKit
section
variable {H : Type} {enc : TypeId × Value → H} {w : World} {base : Nat} {spare : Nat → Bool} {held : Bool}
theorem list_of {α : Type} (R : Nat → α → Prop) : ∀ n, (∀ i, i < n → ∃ e, R i e) → ∃ l : List α, l.length = n ∧ ∀ k e, l[k]? = some e → R k e
 | 0, _ => ⟨[], rfl, by simp⟩
 |n + 1, h => by
  obtain ⟨l, hl, hk⟩ := list_of R n fun i hi => h i (by omega)
  obtain ⟨e, he⟩ := h n (by omega)
  refine ⟨l ++ [e], by simp [hl], fun k x hx => ?_⟩
  rcases Nat.lt_or_ge k n with hlt | hge
  ·rw [List.getElem?_append_left (by omega)] at hx; exact hk k x hx
  ·rw [List.getElem?_append_right (by omega)] at hx
   have : k = n := by
    have := (List.getElem?_eq_some_iff.1 hx).1
    simp at this; omega
   subst this
   rw [hl] at hx; simp at hx; subst hx; exact he
theorem add_add (b q i j : Nat) : ((⟨b, q, none⟩ : Addr).add i).add j = ⟨b, q + i + j, none⟩ := by
 unfold Addr.add
 split <;> split <;> simp_all
/-- A slice of rows of N cells each. -/
theorem rows_open {t e : TypeId} {fuel : Nat} {cs : List Value} {x : DataW H × List MemPlace} {α : Type} (cv : α → List Value) (wf : α → Prop) (N : Nat) (ht : Try.prog.underlying t = some (.slice e)) (hN : Try.prog.cellsOf e = N) (h0 : 0 < N)
    (hel : ∀ fuel cs x, DataW.trod enc Try.prog w base spare held fuel e cs = some x → ∃ y, cs = cv y ∧ wf y) (h : DataW.trod enc Try.prog w base spare held fuel t cs = some x) :
    ∃ (A : Option Addr) (c : Nat) (l : List α), cs = [.slice A l.length c] ∧ l.length ≤ 9223372036854775807 ∧ l.length ≤ c ∧ (∀ y ∈ l, wf y) ∧
      (0 < l.length → ∃ b q, A = some ⟨b, q, none⟩ ∧ b < w.heap.size ∧ ∀ (k : Nat) (y : α), l[k]? = some y → ∀ j, j < N → w.cell? ⟨b, q + k * N + j, none⟩ = (cv y)[j]?) ∧
      (x.1 = .nil ∧ l.length = 0 ∨ ∃ els sp : List (DataW H), x.1 = .slice els sp ∧ l.length ≤ els.length) := by
  rcases Go.Deep.open_slice ht h with ⟨hcs, hx⟩ | ⟨a, len, cap, m, n, D, Pl, hcs, _, hl, hm, hmm, hx, hi⟩
  · exact ⟨none, 0, [], hcs, by simp, by simp, by simp, fun h => absurd h (by simp), Or.inl ⟨by rw [hx], rfl⟩⟩
  · have hlm : len ≤ m := by rw [hmm]; split <;> omega
    have hsp : 0 < len → a.spot = none := fun hpos => by
      obtain ⟨cs0, hc0, ht0⟩ := hi 0 (by omega)
      rw [hN] at hc0
      obtain ⟨_, hlc, hat⟩ := World.cells?_some hc0
      have k0 := hat 0 h0
      obtain ⟨v0, hv0⟩ : ∃ v, cs0[0]? = some v := ⟨_, List.getElem?_eq_getElem (by omega)⟩
      rw [hv0, Nat.zero_mul] at k0
      exact World.cell?_spot (by simpa [Addr.add] using k0)
    have each : ∀ i, i < len → ∃ y : α, wf y ∧ a.block < w.heap.size ∧ ∀ j, j < N → w.cell? ⟨a.block, a.off + i * N + j, none⟩ = (cv y)[j]? := fun i hil => by
      obtain ⟨cs', hc, ht'⟩ := hi i (by omega)
      obtain ⟨y, rfl, hwf⟩ := hel _ _ _ ht'
      rw [hN] at hc
      obtain ⟨_, hlc, hat⟩ := World.cells?_some hc
      have hs := hsp (by omega)
      obtain ⟨b, q, sp⟩ := a
      simp only at hs
      subst hs
      simp only [add_add] at hat
      refine ⟨y, hwf, ?_, fun j hj => hat j hj⟩
      have k0 := hat 0 h0
      obtain ⟨v0, hv0⟩ : ∃ v, (cv y)[0]? = some v := ⟨_, List.getElem?_eq_getElem (by omega)⟩
      rw [hv0] at k0
      have hbl := World.block_lt_of_cell? _ _ k0
      exact hbl
    obtain ⟨l, rfl, hk⟩ := list_of (fun i y => wf y ∧ a.block < w.heap.size ∧ ∀ j, j < N → w.cell? ⟨a.block, a.off + i * N + j, none⟩ = (cv y)[j]?) len each
    refine ⟨some a, cap, l, hcs, by simp only [maxLen] at hm; omega, hl, fun y hy => ?_, fun hpos => ?_, Or.inr ⟨_, _, by rw [hx], by simp⟩⟩
    · obtain ⟨k, hkl, rfl⟩ := List.getElem_of_mem hy
      exact (hk k _ (List.getElem?_eq_getElem hkl)).1
    · have hs := hsp hpos
      obtain ⟨b, q, sp⟩ := a
      simp only at hs
      subst hs
      exact ⟨b, q, rfl, (hk 0 _ (List.getElem?_eq_getElem hpos)).2.1, fun k y hy => (hk k y hy).2.2⟩
variable {r : Reach} {b0 : Nat} {v : Value} {d : DataW H} {ps : List MemPlace}
end
open Go.RowKit
theorem str_ne {s s' : ByteArray} (h : ¬ s = s') : (s.toList == s'.toList) = false := by
 cases e : s.toList == s'.toList
 ·rfl
 ·exfalso
  have h2 := eq_of_beq e
  rw [ByteArray.toList_eq, ByteArray.toList_eq] at h2
  exact h (ByteArray.ext (Array.toList_inj.1 h2))
open Go.RowKit
def iv (l : List Int) : List Value := l.map (Value.int .i64)
def OwnI (base : Nat) (w : World) (v : Value) (l : List Int) : Prop := w.ownsRow base 3 1 v l.length (iv l)
theorem iv_one (l : List Int) : ∀ u ∈ iv l, u.oneCell' = true := by
 intro u hu
 obtain ⟨n, _, rfl⟩ := List.mem_map.1 hu
 rfl
theorem infoInt : (Try.prog.info? 3).map (fun i => (i.zero, i.size, i.bytes)) = some (some (.int .i64 0), 1, 8) := by kernel_rfl
theorem OwnI.lt {base : Nat} {w : World} {v : Value} {l : List Int} (h : OwnI base w v l) : ∀ k, v.ownBlock = some k → base ≤ k ∧ k < w.heap.size := World.ownsRow.lt h
theorem OwnI.calm {base : Nat} {w w' : World} {v : Value} {l : List Int} (h : OwnI base w v l) (hb : Calm w w') : OwnI base w' v l := World.ownsRow.kept h (hb.grownBy none) (by
 rcases v.ownBlock with _ | k
 ·exact .inl rfl
 ·exact .inr (by simp))
theorem OwnI.nil (base : Nat) (w : World) : OwnI base w (.slice none 0 0) [] := World.ownsRow_nil _ _ _ _
theorem Calm.grownI {a w w' : World} {base : Nat} {v : Value} {l : List Int} (h : Calm a w) (hb : a.heap.size ≤ base) (ho : OwnI base w v l) (hg : w.grownBy w' v.ownBlock) : Calm a w' :=
 Below.grown h hg h.size fun k hk => Nat.le_trans hb (ho.lt k hk).1
theorem OwnI.lies {base : Nat} {w : World} {v : Value} {l : List Int} (h : OwnI base w v l) : ∃ A c, v = .slice A l.length c ∧ LiesI w A l := by
 rcases h.2 with ⟨rfl, hl⟩ | ⟨g, cap, cur, rfl, _, hg, hnc, hcm, _, ht⟩
 ·have : l = [] := List.eq_nil_of_length_eq_zero hl
  subst this
  exact ⟨none, 0, rfl, fun h => absurd h (by simp)⟩
 ·refine ⟨some ⟨g, 0, none⟩, cap, rfl, fun _ => ⟨g, 0, rfl, (Array.getElem?_eq_some_iff.1 hg).1, fun k x hx => ?_⟩⟩
  have hk : k < l.length := (List.getElem?_eq_some_iff.1 hx).1
  have h2 := congrArg (·[k]?) ht
  simp only [Nat.mul_one] at h2
  rw [List.getElem?_take_of_lt hk, Array.getElem?_toList] at h2
  rw [Nat.zero_add, cell_of_row w g _ cur _ (0, 0) hg, h2]
  simp [iv, hx]
/-- append(out, x). -/
theorem wpList_append_i {ops : Array Oper} {rest : List Oper} {o : Oper} {a : Act} {w : World} {Q : Exit → Act → World → Prop} (hgd : o.guard = none) (s x : Operand)
    (ho : o.op = .call { callee := .builtin .append, args := #[s, x], argTypes := #[29, 29] })
    (base : Nat) (v : Value) (l : List Int) (hs : a.eval s = v) (hown : OwnI base w v l) (g t : Nat) (n : Int) (fr : Nat × Nat)
    (hx : a.eval x = .slice (some ⟨g, 0, none⟩) 1 1) (hg : w.heap[g]? = some (.cells #[.int .i64 n] t fr)) (hl : l.length ≤ 1000000) (hbase : base ≤ w.heap.size)
    (h : ∀ v' w', OwnI base w' v' (l ++ [n]) → (∀ w0 : World, w0.heap.size ≤ base → Calm w0 w → Calm w0 w') → wpList Try.prog ops Q rest (a.put o.dst v') w') : wpList Try.prog ops Q (o :: rest) a w := by
  obtain ⟨i0, hi, hz0, hz1, hz2⟩ := info_parts infoInt
  refine wpList_append_own w hgd s x _ ho base 3 i0 _ 1 8 Try.underlying29 hi hz0 hz1 hz2 rfl (by decide) v _ _ hs hown ⟨g, 0, none⟩ 1 1 (iv [n]) hx rfl (fun j u hj => ?_) (iv_one _) (by unfold maxLen; omega) (by omega) hbase fun v' w' h1 h2 _ => ?_
  · have : (⟨g, 0, none⟩ : Addr).add j = ⟨g, j, none⟩ := by unfold Addr.add; split <;> simp_all
    rw [this, cell_of_row w g j _ t fr hg, ← hj]
    simp [iv]
  · refine h v' w' ?_ fun w0 h0 hc => hc.grownI h0 hown h2
    unfold OwnI
    rw [List.length_append, iv, List.map_append]
    exact h1
open Go.RowKit
def spl (cur : List Value) (o : Nat) (cs : List Value) : List Value := cur.take o ++ cs ++ cur.drop (o + cs.length)
/-- A copy whose run is known, as an operation of a plain region and of one that draws. -/
theorem wpList_copy_known {P : Program} {w : World} {ops : Array Oper} {rest : List Oper} {o : Oper} {a : Act} {Q : Exit → Act → World → Prop} (hgd : o.guard = none) (d s : Operand) (t : TypeId)
    (ho : o.op = .call { callee := .builtin .copy, args := #[d, s], argTypes := #[t, t] }) (v u : Value) (hd : a.eval d = v) (hs : a.eval s = u) {v' : Value} {w' : World}
    (hr : (Builtin.copy_ #[t, t] o.type #[v, u]).run P w = .ok v' w') (h : wpList P ops Q rest (a.put o.dst v') w') : wpList P ops Q (o :: rest) a w :=
  wpList_plain hgd fun _ hK => by
    unfold Oper.wp execOp
    simp only [ho, resolve, invoke, builtin, Sem.run_bind, Sem.run_pure, Result.andThen_ok, List.map_toArray, List.map_cons, List.map_nil, hd, hs, hr]
    exact hK _ _ h
theorem step_copy_known {P : Program} {ops : Array Oper} {o : Oper} {a : Act} {w : World} {K : Act → World → Prop} {Q : Exit → Act → World → Prop} {E : Prop}
    (hg : o.guard = none) (d x : Operand) (t : TypeId) (hop : o.op = Op.call { callee := Callee.builtin Builtin.copy, args := #[d, x], argTypes := #[t, t] })
    (v u : Value) (hd : a.eval d = v) (hx : a.eval x = u) {v' : Value} {w' : World} (hr : (Builtin.copy_ #[t, t] o.type #[v, u]).run P w = .ok v' w') (hK : K (a.put o.dst v') w') :
    if Region.wanted o (yielded ops a.tmps) = true then Oper.wp P o a w K Q else E := by
  have hw : Region.wanted o (yielded ops a.tmps) = true := by simp [Region.wanted, hg]
  rw [if_pos hw]
  unfold Oper.wp
  simp only [execOp, hop, resolve, invoke, builtin, Sem.run_bind, Sem.run_pure, Result.andThen_ok, List.map_toArray, List.map_cons, List.map_nil, hd, hx, hr]
  exact hK
theorem spl_len {cur cs : List Value} {o : Nat} (h : o + cs.length ≤ cur.length) : (spl cur o cs).length = cur.length := by
 unfold spl; simp only [List.length_append, List.length_take, List.length_drop]; omega
abbrev cb (a b : List UInt8) : Int := Lib.compareBytes a b
theorem cb_or : ∀ a b : List UInt8, cb a b = -1 ∨ cb a b = 0 ∨ cb a b = 1
 | [], [] => .inr (.inl rfl)
 | [], _ :: _ => .inl rfl
 |_ :: _, [] => .inr (.inr rfl)
 |x :: a, y :: b => by
  unfold cb Lib.compareBytes
  split
  ·exact .inl rfl
  ·split
   ·exact .inr (.inr rfl)
   ·exact cb_or a b
theorem u8_tri {x y : UInt8} (h : ¬ x < y) (h2 : ¬ y < x) : x = y := by
 have h1 := UInt8.not_lt.1 h
 have h3 := UInt8.not_lt.1 h2
 exact UInt8.le_antisymm h3 h1
theorem cb_eq : ∀ {a b : List UInt8}, cb a b = 0 ↔ a = b
 | [], [] => by simp [cb, Lib.compareBytes]
 | [], _ :: _ => by simp [cb, Lib.compareBytes]
 |_ :: _, [] => by simp [cb, Lib.compareBytes]
 |x :: a, y :: b => by
  unfold cb Lib.compareBytes
  by_cases h1 : x < y
  ·rw [if_pos h1]; constructor
   ·intro h; cases h
   ·rintro h; injection h with h; subst h; exact absurd h1 (UInt8.lt_irrefl x)
  ·rw [if_neg h1]
   by_cases h2 : y < x
   ·rw [if_pos h2]; constructor
    ·intro h; cases h
    ·rintro h; injection h with h; subst h; exact absurd h2 (UInt8.lt_irrefl x)
   ·rw [if_neg h2]
    have := u8_tri h1 h2
    subst this
    exact (cb_eq (a := a) (b := b)).trans ⟨fun h => by rw [h], fun h => by injection h⟩
theorem cb_anti : ∀ a b : List UInt8, cb b a = - cb a b
 | [], [] => rfl
 | [], _ :: _ => rfl
 |_ :: _, [] => rfl
 |x :: a, y :: b => by
  unfold cb Lib.compareBytes
  by_cases h1 : x < y
  ·rw [if_pos h1, if_neg (UInt8.lt_asymm h1), if_pos h1]; decide
  ·rw [if_neg h1]
   by_cases h2 : y < x
   ·rw [if_pos h2, if_neg h1, if_pos h2]
   ·rw [if_neg h2, if_neg h1, if_neg h2]; exact cb_anti a b
theorem cb_trans : ∀ {a b c : List UInt8}, cb a b = -1 → cb b c = -1 → cb a c = -1
 | [], [], _, h, _ => by cases h
 | [], _ :: _, [], _, h => by cases h
 | [], _ :: _, _ :: _, _, _ => rfl
 |_ :: _, [], _, h, _ => by cases h
 |_ :: _, _ :: _, [], _, h => by cases h
 |x :: a, y :: b, z :: c, h, k => by
  unfold cb Lib.compareBytes at h k ⊢
  by_cases h1 : x < y
  ·by_cases k1 : y < z
   ·rw [if_pos (UInt8.lt_trans h1 k1)]
   ·rw [if_neg k1] at k
    by_cases k2 : z < y
    ·rw [if_pos k2] at k; cases k
    ·have := u8_tri k1 k2; subst this; rw [if_pos h1]
  ·rw [if_neg h1] at h
   by_cases h2 : y < x
   ·rw [if_pos h2] at h; cases h
   ·rw [if_neg h2] at h
    have := u8_tri h1 h2; subst this
    by_cases k1 : x < z
    ·rw [if_pos k1]
    ·rw [if_neg k1] at k ⊢
     by_cases k2 : z < x
     ·rw [if_pos k2] at k; cases k
     ·rw [if_neg k2] at k ⊢
      exact cb_trans h k
theorem cb_lt : ∀ {a b : List UInt8}, cb a b = -1 ↔ a < b
 | [], [] => by simp [cb, Lib.compareBytes]
 | [], _ :: _ => by simp [cb, Lib.compareBytes]
 |_ :: _, [] => by simp [cb, Lib.compareBytes]
 |x :: a, y :: b => by
  rw [List.cons_lt_cons_iff]
  unfold cb Lib.compareBytes
  by_cases h1 : x < y
  ·rw [if_pos h1]; simp [h1]
  ·rw [if_neg h1]
   by_cases h2 : y < x
   ·rw [if_pos h2]; constructor
    ·intro h; cases h
    ·rintro (h | ⟨h, _⟩)
     ·exact absurd h h1
     ·subst h; exact absurd h2 (UInt8.lt_irrefl x)
   ·rw [if_neg h2]
    have := u8_tri h1 h2; subst this
    rw [show Lib.compareBytes a b = -1 ↔ a < b from cb_lt]
    simp [h1]
structure Sn where
 nm : ByteArray
 td : Int
theorem Sn.ext_iff' {a b : Sn} : a = b ↔ a.nm = b.nm ∧ a.td = b.td := by cases a; cases b; simp
instance : DecidableEq Sn := fun _ _ => decidable_of_iff _ Sn.ext_iff'.symm
def bc (a b : ByteArray) : Int := cb a.data.toList b.data.toList
def nLt (a b : ByteArray) : Prop := bc a b = -1
instance (a b : ByteArray) : Decidable (nLt a b) := by unfold nLt; infer_instance
theorem bc_eq {a b : ByteArray} : bc a b = 0 ↔ a = b := by
 unfold bc; rw [cb_eq]
 exact ⟨fun h => ByteArray.ext (Array.toList_inj.1 h), fun h => by rw [h]⟩
theorem bc_or (a b : ByteArray) : bc a b = -1 ∨ bc a b = 0 ∨ bc a b = 1 := cb_or _ _
theorem bc_anti (a b : ByteArray) : bc b a = - bc a b := cb_anti _ _
theorem nLt_trans {a b c : ByteArray} (h : nLt a b) (k : nLt b c) : nLt a c := cb_trans h k
theorem nLt_irrefl (a : ByteArray) : ¬ nLt a a := by unfold nLt; rw [bc_eq.2 rfl]; decide
theorem nLt_asymm {a b : ByteArray} (h : nLt a b) : ¬ nLt b a := fun k => nLt_irrefl _ (nLt_trans h k)
theorem nLt_ne {a b : ByteArray} (h : nLt a b) : a ≠ b := fun e => nLt_irrefl _ (e ▸ h)
theorem nLt_tri (a b : ByteArray) : nLt a b ∨ a = b ∨ nLt b a := by
 rcases bc_or a b with h | h | h
 ·exact .inl h
 ·exact .inr (.inl (bc_eq.1 h))
 ·exact .inr (.inr (by unfold nLt; rw [bc_anti, h]))
open Go.ChangeShapes Go.WideShapes Go.ChangeAt Go.RowKit
def nameC (b : UInt8) : Bool := decide (33 ≤ b.toNat ∧ b.toNat ≤ 126 ∧ b.toNat ≠ 47 ∧ b.toNat ≠ 64)
def nameLen (s : ByteArray) : Prop := 1 ≤ s.size ∧ s.size ≤ 12 ∧ s ≠ { data := #[46] } ∧ s ≠ { data := #[46, 46] }
instance (s : ByteArray) : Decidable (nameLen s) := by unfold nameLen; infer_instance
def nameOk (s : ByteArray) : Bool := decide (nameLen s) && s.data.toList.all nameC
open Go.ChangeShapes Go.WideShapes Go.ChangeAt Go.RowKit
theorem str_neL {s : ByteArray} {l : List UInt8} (h : s ≠ { data := l.toArray }) : (s.toList == l) = false := by
 cases e : s.toList == l
 ·rfl
 ·exfalso
  rw [beq_iff_eq, ByteArray.toList_eq] at e
  exact h (ByteArray.ext (Array.toList_inj.1 (by simpa using e)))
theorem nameOk_bad {s : ByteArray} (h : ¬ nameLen s) : nameOk s = false := by unfold nameOk; rw [decide_eq_false h]; rfl
set_option maxHeartbeats 1000000 in
theorem dirName_any (s : ByteArray) (w : World) (hs : s.size ≤ maxLen) : Calls Try.prog 22 #[.string s] w fun e w' => e = .returned (.bool (nameOk s)) ∧ w = w' := by
 unfold maxLen at hs
 by_cases hl : nameLen s
 rotate_left
 ·rw [nameOk_bad hl]
  by_cases h1 : 1 ≤ s.size
  ·by_cases h2 : s.size ≤ 12
   ·by_cases h3 : s = { data := #[46] }
    ·subst h3
     go_enter Try.func22, Try.ntmps22
     go_wp2_with fail
     go_ret
     exact ⟨rfl, rfl⟩
    ·have h4 : s = { data := #[46, 46] } := Decidable.byContradiction fun h => hl ⟨h1, h2, h3, h⟩
     subst h4
     go_enter Try.func22, Try.ntmps22
     go_wp2_with fail
     go_ret
     exact ⟨rfl, rfl⟩
   ·clear hl
    go_enter Try.func22, Try.ntmps22
    go_wp2_with fail
    go_ret
    exact ⟨rfl, rfl⟩
  ·clear hl
   go_enter Try.func22, Try.ntmps22
   go_wp2_with fail
   go_ret
   exact ⟨rfl, rfl⟩
 have hN : nameOk s = s.data.toList.all nameC := by unfold nameOk; rw [decide_eq_true hl]; rfl
 have HN := Lib.hid hN
 obtain ⟨h1, h2, h3, h4⟩ := hl
 have b3 : (s.toList == [46]) = false := str_neL h3
 have b4 : (s.toList == [46, 46]) = false := str_neL h4
 clear hN
 generalize nameOk s = r at HN ⊢
 go_enter Try.func22, Try.ntmps22
 go_wp2_with fail
 go_loop [22] (fun i => ∃ k : Nat, k ≤ s.size ∧ i = .int .i64 k ∧ Hid (∀ j (hj : j < s.size), j < k → nameC s[j] = true)) (fun i => s.size - (intOf i).toNat)
 case atStart => exact ⟨0, Nat.zero_le _, rfl, show ∀ _, _ from fun j _ hj => absurd hj (Nat.not_lt_zero _)⟩
 case round =>
  obtain ⟨k, hk, rfl, HK⟩ := hrel
  by_cases hlt : k < s.size
  rotate_left
  ·have hT : r = true := by
    rw [HN.out, List.all_eq_true]
    intro b hb
    obtain ⟨j, hj, rfl⟩ := List.getElem_of_mem hb
    rw [Array.length_toList] at hj
    have := HK.out j hj (by have : j < s.size := hj; omega)
    rw [Array.getElem_toList]
    exact this
   subst hT
   clear HK HN
   go_wp2_with fail
   go_ret
   exact ⟨rfl, rfl⟩
  have hc := s[k].toNat_lt
  by_cases hb : nameC s[k] = true
  ·have HK2 : Hid (∀ j (hj : j < s.size), j < k + 1 → nameC s[j] = true) := show ∀ _, _ from fun j hj h => by
    rcases Nat.lt_or_ge j k with h5 | h5
    ·exact HK.out j hj h5
    ·obtain rfl : j = k := by omega
     exact hb
   simp only [nameC, decide_eq_true_eq] at hb
   obtain ⟨c1, c2, c3, c4⟩ := hb
   have e3 : (((s[k].toNat : Nat) : Int) == 47) = false := by simp; omega
   have e4 : (((s[k].toNat : Nat) : Int) == 64) = false := by simp; omega
   clear HK
   go_wp2_with fail
   go_round
   case rel => exact ⟨k + 1, by omega, by go_num, HK2⟩
   case measure => simp [intOf]; omega
  ·have hF : r = false := by
    rw [HN.out, List.all_eq_false]
    exact ⟨s[k], by
     show s.data[k] ∈ s.data.toList
     exact Array.getElem_mem_toList .., hb⟩
   subst hF
   simp only [nameC, decide_eq_true_eq] at hb
   have hb2 : s[k].toNat < 33 ∨ (33 ≤ s[k].toNat ∧ 126 < s[k].toNat) ∨ (33 ≤ s[k].toNat ∧ s[k].toNat ≤ 126 ∧ s[k].toNat = 47) ∨ (33 ≤ s[k].toNat ∧ s[k].toNat ≤ 126 ∧ s[k].toNat ≠ 47 ∧ s[k].toNat = 64) := by
    omega
   clear hb HK HN
   rcases hb2 with c1 | ⟨c1, c2⟩ | ⟨c1, c2, c3⟩ | ⟨c1, c2, c4, c3⟩
   ·go_wp2_with fail
    go_ret
    exact ⟨rfl, rfl⟩
   ·go_wp2_with fail
    go_ret
    exact ⟨rfl, rfl⟩
   ·have e3 : (((s[k].toNat : Nat) : Int) == 47) = true := by simp; omega
    go_wp2_with fail
    go_ret
    exact ⟨rfl, rfl⟩
   ·have e3 : (((s[k].toNat : Nat) : Int) == 47) = false := by simp; omega
    have e4 : (((s[k].toNat : Nat) : Int) == 64) = true := by simp; omega
    go_wp2_with fail
    go_ret
    exact ⟨rfl, rfl⟩
open Go.RowKit
section
variable {α : Type} {cv : α → List Value} {N : Nat}
def LiesG (cv : α → List Value) (N : Nat) (w : World) (A : Option Addr) (l : List α) : Prop :=
 0 < l.length → ∃ b q, A = some ⟨b, q, none⟩ ∧ b < w.heap.size ∧ ∀ (k : Nat) (x : α), l[k]? = some x → ∀ j, j < N → w.cell? ⟨b, q + k * N + j, none⟩ = (cv x)[j]?
def cvs (cv : α → List Value) (l : List α) : List Value := l.flatMap cv
def OwnG (t : TypeId) (cv : α → List Value) (N : Nat) (base : Nat) (w : World) (v : Value) (l : List α) : Prop := w.ownsRow base t N v l.length (cvs cv l)
theorem LiesG.calm {w w' : World} {A : Option Addr} {l : List α} (h : LiesG cv N w A l) (hb : Calm w w') : LiesG cv N w' A l := fun hl => by
 obtain ⟨b, q, hA, hlt, hk⟩ := h hl
 exact ⟨b, q, hA, Nat.lt_of_lt_of_le hlt hb.size, fun k x hx j hj => (hb.facts.1 b _ hlt).trans (hk k x hx j hj)⟩
theorem LiesG.nil_ {w : World} {A : Option Addr} : LiesG cv N w A ([] : List α) := fun h => absurd h (by simp)
theorem cvs_len (hN : ∀ x, (cv x).length = N) (l : List α) : (cvs cv l).length = l.length * N := by
 unfold cvs
 induction l with
 |nil => simp
 |cons e l ih => rw [List.flatMap_cons, List.length_append, ih, hN, List.length_cons, Nat.succ_mul]; omega
theorem cvs_at (hN : ∀ x, (cv x).length = N) : ∀ (l : List α) (k j : Nat) (e : α), l[k]? = some e → j < N → (cvs cv l)[k * N + j]? = (cv e)[j]?
 | [], k, j, e, h, _ => by simp at h
 |x :: l, 0, j, e, h, hj => by
  simp at h; subst h
  show (cv x ++ cvs cv l)[0 * N + j]? = _
  rw [Nat.zero_mul, Nat.zero_add, List.getElem?_append_left (by rw [hN]; exact hj)]
 |x :: l, k + 1, j, e, h, hj => by
  show (cv x ++ cvs cv l)[(k + 1) * N + j]? = _
  rw [Nat.succ_mul, List.getElem?_append_right (by rw [hN]; omega), hN]
  rw [show k * N + N + j - N = k * N + j by omega]
  exact cvs_at hN l k j e (by simpa using h) hj
theorem cvs_app (a b : List α) : cvs cv (a ++ b) = cvs cv a ++ cvs cv b := by unfold cvs; simp
theorem cvs_one (h1 : ∀ x, ∀ u ∈ cv x, u.oneCell' = true) (l : List α) : ∀ u ∈ cvs cv l, u.oneCell' = true := by
 intro u hu
 obtain ⟨e, _, h⟩ := List.mem_flatMap.1 hu
 exact h1 e u h
/-- Each cell of a row that stands in memory. -/
theorem LiesG.cells (hN : ∀ x, (cv x).length = N) (h0 : 0 < N) {w : World} {b q : Nat} {l : List α} (h : LiesG cv N w (some ⟨b, q, none⟩) l) : ∀ j v, (cvs cv l)[j]? = some v → b < w.heap.size ∧ w.cell? ⟨b, q + j, none⟩ = some v := fun j v hj => by
 have hlt : j < l.length * N := by rw [← cvs_len hN]; exact (List.getElem?_eq_some_iff.1 hj).1
 have hk : j / N < l.length := (Nat.div_lt_iff_lt_mul h0).2 hlt
 have hm : j % N < N := Nat.mod_lt _ h0
 have he := Nat.div_add_mod j N
 rw [Nat.mul_comm] at he
 have hel := List.getElem?_eq_getElem hk
 obtain ⟨b', q', hA, hb, hat⟩ := h (Nat.lt_of_le_of_lt (Nat.zero_le _) hk)
 injection hA with hA
 injection hA with h1 h2
 subst h1; subst h2
 have h6 := hat _ _ hel _ hm
 have hj2 := cvs_at hN l (j / N) (j % N) _ hel hm
 rw [he] at hj2
 rw [Nat.add_assoc, he] at h6
 rw [h6, ← hj2, hj]
 exact ⟨hb, rfl⟩
section
variable {t : TypeId} {base : Nat} {w w' : World} {v : Value} {l : List α}
theorem OwnG.lt (h : OwnG t cv N base w v l) : ∀ k, v.ownBlock = some k → base ≤ k ∧ k < w.heap.size := World.ownsRow.lt h
theorem OwnG.calm (h : OwnG t cv N base w v l) (hb : Calm w w') : OwnG t cv N base w' v l := World.ownsRow.kept h (hb.grownBy none) (by
 rcases v.ownBlock with _ | k
 ·exact .inl rfl
 ·exact .inr (by simp))
theorem OwnG.nil (t : TypeId) (cv : α → List Value) (N : Nat) (base : Nat) (w : World) : OwnG t cv N base w (.slice none 0 0) [] := World.ownsRow_nil _ _ _ _
theorem OwnG.weaken {base' : Nat} (h : OwnG t cv N base w v l) (hb : base' ≤ base) : OwnG t cv N base' w v l := ⟨h.1, h.2.imp id fun ⟨g, cap, cur, h1, h2, h3⟩ => ⟨g, cap, cur, h1, Nat.le_trans hb h2, h3⟩⟩
theorem Calm.grownG {a : World} (h : Calm a w) (hb : a.heap.size ≤ base) (ho : OwnG t cv N base w v l) (hg : w.grownBy w' v.ownBlock) : Calm a w' :=
 Below.grown h hg h.size fun k hk => Nat.le_trans hb (ho.lt k hk).1
theorem OwnG.lies (hN : ∀ x, (cv x).length = N) (h : OwnG t cv N base w v l) : ∃ A c, v = .slice A l.length c ∧ l.length ≤ c ∧ c ≤ 9223372036854775807 ∧ LiesG cv N w A l := by
 rcases h.2 with ⟨rfl, hl⟩ | ⟨g, cap, cur, rfl, _, hg, hnc, hcm, _, ht⟩
 ·have : l = [] := List.eq_nil_of_length_eq_zero hl
  subst this
  exact ⟨none, 0, rfl, Nat.le_refl _, by omega, LiesG.nil_⟩
 ·refine ⟨some ⟨g, 0, none⟩, cap, rfl, hnc, by simp only [maxLen] at hcm; omega, fun hpos => ⟨g, 0, rfl, (Array.getElem?_eq_some_iff.1 hg).1, fun k e he j hj => ?_⟩⟩
  have hk : k < l.length := (List.getElem?_eq_some_iff.1 he).1
  have hkn : k * N + j < l.length * N := by
   have := Nat.mul_le_mul_right N (show k + 1 ≤ l.length from hk)
   rw [Nat.succ_mul] at this
   omega
  rw [Nat.zero_add, cell_of_row w g _ cur _ (0, 0) hg, ← cvs_at hN l k j e he hj, ← ht, List.getElem?_take, if_pos hkn, Array.getElem?_toList]
theorem OwnG.some_ (h : OwnG t cv N base w v l) (hl : 0 < l.length) : ∃ g cap, v = .slice (some ⟨g, 0, none⟩) l.length cap := by
 rcases h.2 with ⟨_, h1⟩ | ⟨g', cap', cur, h1, _⟩
 ·omega
 ·exact ⟨g', cap', h1⟩
end
end
open Go.RowKit
def tidOk (t : Int) : Prop := 0 ≤ t ∧ t ≤ 2147483647
instance (t : Int) : Decidable (tidOk t) := by unfold tidOk; infer_instance
def prevB (l : List Sn) (i : Nat) (s : Sn) : Bool := match (if i = 0 then none else l[i - 1]?) with | none => true | some q => decide (nLt q.nm s.nm)
theorem prevB_zero (l : List Sn) (s : Sn) : prevB l 0 s = true := rfl
theorem prevB_pos {l : List Sn} {i : Nat} {s q : Sn} (h : 0 < i) (hq : l[i - 1]? = some q) : prevB l i s = decide (nLt q.nm s.nm) := by unfold prevB; rw [if_neg (by omega), hq]
def stepS (l : List Sn) (i : Nat) : Int :=
 match l[i]? with
 |none => 0
 |some s => if nameOk s.nm = true ∧ prevB l i s = true then (if tidOk s.td then 0 else 9) else 3
def snErr (l : List Sn) : Int := if 20 < l.length then 2 else firstErr (stepS l) l.length
def NS (l : List Sn) : Prop := l.Pairwise fun a b => nLt a.nm b.nm
def GoodS (l : List Sn) : Prop := l.length ≤ 20 ∧ (∀ s ∈ l, nameOk s.nm = true ∧ tidOk s.td) ∧ NS l
theorem stepS_zero {l : List Sn} {i : Nat} (hi : i < l.length) : stepS l i = 0 ↔ nameOk l[i].nm = true ∧ tidOk l[i].td ∧ (∀ h : 0 < i, nLt (l[i - 1]'(by omega)).nm l[i].nm) := by
 unfold stepS
 rw [List.getElem?_eq_getElem hi]
 simp only
 by_cases h0 : i = 0
 ·subst h0
  rw [prevB_zero]
  by_cases h1 : nameOk l[0].nm = true
  ·by_cases h2 : tidOk l[0].td <;> simp [h1, h2]
  ·simp [h1]
 ·rw [prevB_pos (by omega) (List.getElem?_eq_getElem (by omega : i - 1 < l.length))]
  simp only [decide_eq_true_eq]
  by_cases h1 : nameOk l[i].nm = true ∧ nLt (l[i - 1]'(by omega)).nm l[i].nm
  ·rw [if_pos h1]
   by_cases h2 : tidOk l[i].td
   ·rw [if_pos h2]; simp [h1.1, h1.2, h2]
   ·rw [if_neg h2]; simp [h2]
  ·rw [if_neg h1]
   constructor
   ·intro h; cases h
   ·rintro ⟨a, _, c⟩; exact absurd ⟨a, c (by omega)⟩ h1
theorem ns_of_steps {l : List Sn} (h : ∀ i (hi : i + 1 < l.length), nLt l[i].nm l[i + 1].nm) : NS l := by
 unfold NS
 rw [List.pairwise_iff_getElem]
 intro i j hi hj hij
 obtain ⟨d, rfl⟩ : ∃ d, j = i + 1 + d := ⟨j - (i + 1), by omega⟩
 induction d with
 |zero => exact h i hj
 |succ d ih => exact nLt_trans (ih (by omega) (by omega)) (h (i + 1 + d) hj)
theorem snErr_zero {l : List Sn} : snErr l = 0 ↔ GoodS l := by
 unfold snErr GoodS
 by_cases hl : 20 < l.length
 ·rw [if_pos hl]; constructor
  ·intro h; omega
  ·intro h; omega
 ·rw [if_neg hl, firstErr_zero]
  constructor
  ·intro h
   refine ⟨by omega, fun e he => ?_, ns_of_steps fun i hi => ?_⟩
   ·obtain ⟨i, hi, rfl⟩ := List.getElem_of_mem he
    have := (stepS_zero hi).1 (h i hi)
    exact ⟨this.1, this.2.1⟩
   ·exact ((stepS_zero hi).1 (h (i + 1) hi)).2.2 (by omega)
  ·rintro ⟨_, h1, h2⟩ i hi
   rw [stepS_zero hi]
   have := h1 _ (List.getElem_mem hi)
   exact ⟨this.1, this.2, fun h => List.pairwise_iff_getElem.1 h2 (i - 1) i (by omega) hi (by omega)⟩
def NoErrS (l : List Sn) (k : Nat) : Prop := ∀ j, j < k → stepS l j = 0
theorem snErr_at {l : List Sn} {k : Nat} (hbig : ¬ 20 < l.length) (hN : NoErrS l k) (hk : stepS l k ≠ 0) (hlt : k < l.length) : stepS l k = snErr l := by
 unfold snErr; rw [if_neg hbig, firstErr_at hN hk hlt]
theorem snErr_good {l : List Sn} (hbig : ¬ 20 < l.length) (hN : NoErrS l l.length) : 0 = snErr l := by
 unfold snErr; rw [if_neg hbig]; exact (firstErr_zero.2 hN).symm
theorem stepS_first {l : List Sn} {s : Sn} (h : l[0]? = some s) : stepS l 0 = if nameOk s.nm = true then (if tidOk s.td then 0 else 9) else 3 := by
 unfold stepS; rw [h]; simp [prevB_zero]
theorem stepS_next {l : List Sn} {k : Nat} {s q : Sn} (h : l[k]? = some s) (hk : 0 < k) (hq : l[k - 1]? = some q) : stepS l k = if nameOk s.nm = true ∧ nLt q.nm s.nm then (if tidOk s.td then 0 else 9) else 3 := by
 unfold stepS; rw [h]; simp only; rw [prevB_pos hk hq]; simp only [decide_eq_true_eq]
def snV (x : Sn) : List Value := [.string x.nm, .int .i64 x.td]
theorem snV_len (x : Sn) : (snV x).length = 2 := rfl
theorem snV_one (x : Sn) : ∀ u ∈ snV x, u.oneCell' = true := by intro u hu; simp only [snV, List.mem_cons, List.not_mem_nil, or_false] at hu; rcases hu with rfl | rfl <;> rfl
abbrev LiesN (w : World) (A : Option Addr) (l : List Sn) : Prop := LiesG snV 2 w A l
abbrev OwnSn (base : Nat) (w : World) (v : Value) (l : List Sn) : Prop := OwnG 35 snV 2 base w v l
def Szs (l : List Sn) : Prop := ∀ s ∈ l, s.nm.size ≤ maxLen
theorem sn_get {w : World} {A : Option Addr} {l : List Sn} (h : LiesN w A l) {k : Nat} (hk : k < l.length) : ∃ (b q : Nat) (nm : ByteArray) (td : Int), A = some ⟨b, q, none⟩ ∧ b < w.heap.size ∧ Hid (l[k]? = some ⟨nm, td⟩) ∧
    w.cell? ⟨b, q + k * 2, none⟩ = some (.string nm) ∧ w.cell? ⟨b, q + k * 2 + 1, none⟩ = some (.int .i64 td) := by
  obtain ⟨b, q, hA, hlt, hc⟩ := h (by omega)
  have he := List.getElem?_eq_getElem hk
  have h2 := hc k _ he
  generalize l[k] = z at he h2
  obtain ⟨nm, td⟩ := z
  exact ⟨b, q, nm, td, hA, hlt, he, h2 0 (by omega), h2 1 (by omega)⟩
theorem sn_get2 {w : World} {b q : Nat} {l : List Sn} (h : LiesN w (some ⟨b, q, none⟩) l) {k : Nat} (hk : k < l.length) : ∃ (nm : ByteArray) (td : Int), Hid (l[k]? = some ⟨nm, td⟩) ∧
    w.cell? ⟨b, q + k * 2, none⟩ = some (.string nm) ∧ w.cell? ⟨b, q + k * 2 + 1, none⟩ = some (.int .i64 td) := by
  obtain ⟨b', q', nm, td, hA, hlt, he, h0, h1⟩ := sn_get h hk
  injection hA with hA
  injection hA with e1 e2
  subst e1; subst e2
  exact ⟨nm, td, he, h0, h1⟩
theorem row2n {w : World} {g t : Nat} {a b : Value} {fr : Nat × Nat} (h : w.heap[g]? = some (.cells #[a, b] t fr)) : w.cell? ⟨g, 0, none⟩ = some a ∧ w.cell? ⟨g, 1, none⟩ = some b ∧ g < w.heap.size :=
 ⟨cell_of_row _ _ 0 _ _ _ h, cell_of_row _ _ 1 _ _ _ h, (Array.getElem?_eq_some_iff.1 h).1⟩
open Go.ChangeShapes Go.WideShapes Go.ChangeAt Go.RowKit
theorem bl_eq (a b : ByteArray) : Op.bytesLess a.toList b.toList = decide (nLt a b) := by
 rw [Proofs.bytesLess_eq, ByteArray.toList_eq, ByteArray.toList_eq, Bool.eq_iff_iff]
 exact ⟨fun h => decide_eq_true (show nLt a b from cb_lt.2 (of_decide_eq_true h)), fun h => decide_eq_true (cb_lt.1 (of_decide_eq_true h))⟩
theorem isTid_any (t : Int) (w : World) : Calls Try.prog 23 #[.int .i64 t] w fun e w' => e = .returned (.bool (decide (tidOk t))) ∧ w = w' := by
 have K : Hid (decide (tidOk t) = decide (0 ≤ t ∧ t ≤ 2147483647)) := by show _ = _; unfold tidOk; rfl
 rw [K.out]
 by_cases h0 : 0 ≤ t
 ·by_cases h1 : t ≤ 2147483647
  ·rw [decide_eq_true ⟨h0, h1⟩]
   go_enter Try.func23, Try.ntmps23
   go_wp2_with fail
   go_ret
   exact ⟨rfl, rfl⟩
  ·rw [decide_eq_false (fun h => h1 h.2)]
   go_enter Try.func23, Try.ntmps23
   go_wp2_with fail
   go_ret
   exact ⟨rfl, rfl⟩
 ·rw [decide_eq_false (fun h => h0 h.1)]
  go_enter Try.func23, Try.ntmps23
  go_wp2_with fail
  go_ret
  exact ⟨rfl, rfl⟩
set_option maxHeartbeats 8000000 in
theorem snCheck_any (A : Option Addr) (c : Nat) (l : List Sn) (w : World) (hn : l.length ≤ 9223372036854775807) (hS : Szs l) (hL : LiesN w A l) :
    Calls Try.prog 11 #[.slice A l.length c] w fun e w' => e = .returned (.int .i64 (snErr l)) ∧ Calm w w' := by
  by_cases hbig : 20 < l.length
  · have K : Hid (2 = snErr l) := by show _ = _; unfold snErr; rw [if_pos hbig]
    go_enter Try.func11, Try.ntmps11
    go_wp2_with fail
    go_ret
    exact ⟨ret_int K.out, Calm.refl _⟩
  have HS := Lib.hid hS
  clear hS
  go_enter Try.func11, Try.ntmps11
  go_wp2_with fail
  go_loopw [10] (fun i wr => ∃ k : Nat, k ≤ l.length ∧ i = .int .i64 k ∧ Calm w wr ∧ NoErrS l k) (fun i _ => l.length - (intOf i).toNat)
  case atStart => exact ⟨0, Nat.zero_le _, rfl, Calm.refl _, fun j hj => absurd hj (Nat.not_lt_zero _)⟩
  case round =>
    obtain ⟨k, hk, rfl, hu, hN⟩ := hrel
    by_cases hlt : k < l.length
    rotate_left
    · have hkl : k = l.length := by omega
      have K : Hid (0 = snErr l) := snErr_good hbig (by rw [← hkl]; exact hN)
      clear hkl
      go_wp2_with fail
      go_ret
      exact ⟨ret_int K.out, hu⟩
    obtain ⟨b, q, nm, td, rfl, hb, HE, c0, c1⟩ := sn_get (hL.calm hu) hlt
    have cN := fun u => (dirName_any nm u (HS.out _ (List.mem_of_getElem? HE.out))).mono fun e w' (h : e = .returned (.bool (nameOk nm)) ∧ u = w') => (⟨h.1, h.2 ▸ Calm.refl _⟩ : e = .returned (.bool (nameOk nm)) ∧ Calm u w')
    have cT := fun u => isTid_any td u
    have hv1 := hu.alloc (.cells #[.string nm, .int .i64 td] 35 (0, 0))
    have hx := Lib.hid (heap_new wr (.cells #[.string nm, .int .i64 td] 35 (0, 0)))
    have KE : ∀ n, stepS l k = n → n ≠ 0 → Hid (n = snErr l) := fun n h1 h2 => by
      show _ = _
      rw [← snErr_at hbig hN (by rw [h1]; exact h2) hlt, h1]
    by_cases hk0 : k = 0
    · have hst : stepS l k = if nameOk nm = true then (if tidOk td then 0 else 9) else 3 := by rw [hk0]; exact stepS_first (hk0 ▸ HE.out)
      have hk1 : ¬ 0 < k := by omega
      have hN1 : stepS l k = 0 → NoErrS l (k + 1) := fun h j hj => by
        rw [show j = k by omega]; exact h
      clear hk0 HE hN
      by_cases h1 : nameOk nm = true
      rotate_left
      · rw [if_neg h1] at hst
        have K := KE 3 hst (by decide)
        rw [show nameOk nm = false from by simpa using h1] at cN
        clear hst KE hN1 h1
        go_upto_region 6 with fail
        generalize wr.alloc (.cells #[.string nm, .int .i64 td] 35 (0, 0)) = w2 at hv1 hx ⊢
        obtain ⟨x0, x1, hgs⟩ := row2n hx.out
        skip
        refine wp_region_plan [.val (.pointer (some ⟨wr.heap.size, 0, none⟩)), .val (.string nm), .val (.bool false), .val (.bool true), .val (.bool true), .idle, .idle, .idle, .idle, .idle, .idle, .idle, .idle, .idle, .idle, .idle, .idle, .idle, .val (.bool true)] (by kernel_rfl) (by kernel_rfl) (by kernel_rfl) ?_
        intro X
        iterate 5
          refine plan_val (by kernel_rfl) (fun u hu => ?_) ?_
          · obtain ⟨hc, hf, hz⟩ := hu.of_drew.facts
            go_simp
            all_goals first
              | (go_at_call 22; exact cN _)
          simp only [Act.put, List.setIfInBounds_toArray, List.set_cons_zero, List.set_cons_succ, Nat.reduceAdd]
        iterate 13
          refine plan_idle (by kernel_rfl) ?_
          simp only [Act.put, List.setIfInBounds_toArray, List.set_cons_zero, List.set_cons_succ, Nat.reduceAdd]
        iterate 1
          refine plan_val (by kernel_rfl) (fun u hu => ?_) ?_
          · obtain ⟨hc, hf, hz⟩ := hu.of_drew.facts
            go_simp
            all_goals first
              | (go_at_call 22; exact cN _)
          simp only [Act.put, List.setIfInBounds_toArray, List.set_cons_zero, List.set_cons_succ, Nat.reduceAdd]
        refine plan_end ?_
        intro w' hB
        have hk := hB.calm.of_drew
        clear hB
        obtain ⟨x0, x1, hxs⟩ := row2n ((hk.block hgs).trans hx.out)
        replace hv1 := hv1.call hk
        clear hk
        go_wp2_with fail
        go_ret
        exact ⟨ret_int K.out, hv1⟩
      rw [if_pos h1] at hst
      rw [h1] at cN
      by_cases h3 : tidOk td
      · rw [if_pos h3] at hst
        rw [decide_eq_true h3] at cT
        have hN2 := hN1 hst
        clear hst KE hN1 h1 h3
        go_upto_region 6 with fail
        generalize wr.alloc (.cells #[.string nm, .int .i64 td] 35 (0, 0)) = w2 at hv1 hx ⊢
        obtain ⟨x0, x1, hgs⟩ := row2n hx.out
        skip
        refine wp_region_plan [.val (.pointer (some ⟨wr.heap.size, 0, none⟩)), .val (.string nm), .val (.bool true), .val (.bool false), .val (.bool false), .val (.int .i64 ((k : Int))), .val (.bool false), .val (.bool false), .idle, .idle, .idle, .idle, .idle, .idle, .idle, .idle, .idle, .val (.bool false), .val (.bool false)] (by kernel_rfl) (by kernel_rfl) (by kernel_rfl) ?_
        intro X
        iterate 8
          refine plan_val (by kernel_rfl) (fun u hu => ?_) ?_
          · obtain ⟨hc, hf, hz⟩ := hu.of_drew.facts
            go_simp
            all_goals first
              | (go_at_call 22; exact cN _)
          simp only [Act.put, List.setIfInBounds_toArray, List.set_cons_zero, List.set_cons_succ, Nat.reduceAdd]
        iterate 9
          refine plan_idle (by kernel_rfl) ?_
          simp only [Act.put, List.setIfInBounds_toArray, List.set_cons_zero, List.set_cons_succ, Nat.reduceAdd]
        iterate 2
          refine plan_val (by kernel_rfl) (fun u hu => ?_) ?_
          · obtain ⟨hc, hf, hz⟩ := hu.of_drew.facts
            go_simp
            all_goals first
              | (go_at_call 22; exact cN _)
          simp only [Act.put, List.setIfInBounds_toArray, List.set_cons_zero, List.set_cons_succ, Nat.reduceAdd]
        refine plan_end ?_
        intro w' hB
        have hk := hB.calm.of_drew
        clear hB
        obtain ⟨x0, x1, hxs⟩ := row2n ((hk.block hgs).trans hx.out)
        replace hv1 := hv1.call hk
        clear hk
        go_wp2_with (go_at_call 23; refine (cT _).mono ?_; rintro e w9 ⟨rfl, rfl⟩)
        go_roundw
        case rel => exact ⟨k + 1, by omega, by go_num, hv1, hN2⟩
        case measure => simp [intOf]; omega
      · rw [if_neg h3] at hst
        rw [decide_eq_false h3] at cT
        have K := KE 9 hst (by decide)
        clear hst KE hN1 h1 h3
        go_upto_region 6 with fail
        generalize wr.alloc (.cells #[.string nm, .int .i64 td] 35 (0, 0)) = w2 at hv1 hx ⊢
        obtain ⟨x0, x1, hgs⟩ := row2n hx.out
        skip
        refine wp_region_plan [.val (.pointer (some ⟨wr.heap.size, 0, none⟩)), .val (.string nm), .val (.bool true), .val (.bool false), .val (.bool false), .val (.int .i64 ((k : Int))), .val (.bool false), .val (.bool false), .idle, .idle, .idle, .idle, .idle, .idle, .idle, .idle, .idle, .val (.bool false), .val (.bool false)] (by kernel_rfl) (by kernel_rfl) (by kernel_rfl) ?_
        intro X
        iterate 8
          refine plan_val (by kernel_rfl) (fun u hu => ?_) ?_
          · obtain ⟨hc, hf, hz⟩ := hu.of_drew.facts
            go_simp
            all_goals first
              | (go_at_call 22; exact cN _)
          simp only [Act.put, List.setIfInBounds_toArray, List.set_cons_zero, List.set_cons_succ, Nat.reduceAdd]
        iterate 9
          refine plan_idle (by kernel_rfl) ?_
          simp only [Act.put, List.setIfInBounds_toArray, List.set_cons_zero, List.set_cons_succ, Nat.reduceAdd]
        iterate 2
          refine plan_val (by kernel_rfl) (fun u hu => ?_) ?_
          · obtain ⟨hc, hf, hz⟩ := hu.of_drew.facts
            go_simp
            all_goals first
              | (go_at_call 22; exact cN _)
          simp only [Act.put, List.setIfInBounds_toArray, List.set_cons_zero, List.set_cons_succ, Nat.reduceAdd]
        refine plan_end ?_
        intro w' hB
        have hk := hB.calm.of_drew
        clear hB
        obtain ⟨x0, x1, hxs⟩ := row2n ((hk.block hgs).trans hx.out)
        replace hv1 := hv1.call hk
        clear hk
        go_wp2_with (go_at_call 23; refine (cT _).mono ?_; rintro e w9 ⟨rfl, rfl⟩)
        go_ret
        exact ⟨ret_int K.out, hv1⟩
    obtain ⟨nm', td', HE', d0, d1⟩ := sn_get2 (hL.calm hu) (k := k - 1) (by omega)
    have hst := stepS_next HE.out (by omega) HE'.out
    have hN1 : stepS l k = 0 → NoErrS l (k + 1) := fun h j hj => by
      rcases Nat.lt_or_ge j k with h2 | h2
      · exact hN j h2
      · rw [show j = k by omega]; exact h
    have hkp : 0 < k := by omega
    clear hk0 HE HE' hN
    have hd := Lib.hid (And.intro (((Calm.refl wr).alloc (.cells #[.string nm, .int .i64 td] 35 (0, 0))).facts.1 b _ hb |>.trans d0) (show b < (wr.alloc (.cells #[.string nm, .int .i64 td] 35 (0, 0))).heap.size from Nat.lt_of_lt_of_le hb (by simp)))
    clear d0 d1
    by_cases h1 : nameOk nm = true
    rotate_left
    · rw [if_neg (fun h => h1 h.1)] at hst
      have K := KE 3 hst (by decide)
      rw [show nameOk nm = false from by simpa using h1] at cN
      clear hst KE hN1 h1 hkp hd
      go_upto_region 6 with fail
      generalize wr.alloc (.cells #[.string nm, .int .i64 td] 35 (0, 0)) = w2 at hv1 hx ⊢
      obtain ⟨x0, x1, hgs⟩ := row2n hx.out
      skip
      refine wp_region_plan [.val (.pointer (some ⟨wr.heap.size, 0, none⟩)), .val (.string nm), .val (.bool false), .val (.bool true), .val (.bool true), .idle, .idle, .idle, .idle, .idle, .idle, .idle, .idle, .idle, .idle, .idle, .idle, .idle, .val (.bool true)] (by kernel_rfl) (by kernel_rfl) (by kernel_rfl) ?_
      intro X
      iterate 5
        refine plan_val (by kernel_rfl) (fun u hu => ?_) ?_
        · obtain ⟨hc, hf, hz⟩ := hu.of_drew.facts
          go_simp
          all_goals first
            | (go_at_call 22; exact cN _)
        simp only [Act.put, List.setIfInBounds_toArray, List.set_cons_zero, List.set_cons_succ, Nat.reduceAdd]
      iterate 13
        refine plan_idle (by kernel_rfl) ?_
        simp only [Act.put, List.setIfInBounds_toArray, List.set_cons_zero, List.set_cons_succ, Nat.reduceAdd]
      iterate 1
        refine plan_val (by kernel_rfl) (fun u hu => ?_) ?_
        · obtain ⟨hc, hf, hz⟩ := hu.of_drew.facts
          go_simp
          all_goals first
            | (go_at_call 22; exact cN _)
        simp only [Act.put, List.setIfInBounds_toArray, List.set_cons_zero, List.set_cons_succ, Nat.reduceAdd]
      refine plan_end ?_
      intro w' hB
      have hk := hB.calm.of_drew
      clear hB
      obtain ⟨x0, x1, hxs⟩ := row2n ((hk.block hgs).trans hx.out)
      replace hv1 := hv1.call hk
      clear hk
      go_wp2_with fail
      go_ret
      exact ⟨ret_int K.out, hv1⟩
    rw [h1] at cN
    by_cases h2 : nLt nm' nm
    · rw [if_pos ⟨h1, h2⟩] at hst
      have e1 : Op.bytesLess nm.toList nm'.toList = false := by rw [bl_eq]; exact decide_eq_false (nLt_asymm h2)
      have e2 : (nm.toList == nm'.toList) = false := str_ne fun h => nLt_ne h2 h.symm
      have e3 : ¬ nm.toList = nm'.toList := fun h => by rw [h] at e2; simp at e2
      clear h2
      by_cases h3 : tidOk td
      · rw [if_pos h3] at hst
        rw [decide_eq_true h3] at cT
        have hN2 := hN1 hst
        clear hst KE hN1 h1 h3
        go_upto_region 6 with fail
        generalize wr.alloc (.cells #[.string nm, .int .i64 td] 35 (0, 0)) = w2 at hv1 hx hd ⊢
        obtain ⟨x0, x1, hgs⟩ := row2n hx.out
        obtain ⟨d0, hbw⟩ := hd.out
        have z1 : IntKind.i64.wrap ((k : Int) - 1) = (k : Int) - 1 := IntWalk.i64_in _ (by omega)
        have z2 : ((k : Int) - 1).toNat = k - 1 := by omega
        have z3 : 0 ≤ (k : Int) - 1 := by omega
        have z4 : (k : Int) - 1 < l.length := by omega
        have z5 : 1 ≤ (k : Int) := by omega
        refine wp_region_plan [.val (.pointer (some ⟨wr.heap.size, 0, none⟩)), .val (.string nm), .val (.bool true), .val (.bool false), .val (.bool false), .val (.int .i64 ((k : Int))), .val (.bool true), .val (.bool true), .val (.pointer (some ⟨wr.heap.size, 0, none⟩)), .val (.string nm), .val (.slice (some ⟨b, q, none⟩) l.length c), .val (.int .i64 ((k : Int))), .val (.int .i64 ((k : Int) - 1)), .val (.pointer (some ⟨b, q + (k - 1) * 2, none⟩)), .val (.pointer (some ⟨b, q + (k - 1) * 2, none⟩)), .val (.string nm'), .val (.bool false), .val (.bool false), .val (.bool false)] (by kernel_rfl) (by kernel_rfl) (by kernel_rfl) ?_
        intro X
        iterate 19
          refine plan_val (by kernel_rfl) (fun u hu => ?_) ?_
          · obtain ⟨hc, hf, hz⟩ := hu.of_drew.facts
            go_simp
            all_goals first
              | (go_at_call 22; exact cN _)
          simp only [Act.put, List.setIfInBounds_toArray, List.set_cons_zero, List.set_cons_succ, Nat.reduceAdd]
        refine plan_end ?_
        intro w' hB
        have hk := hB.calm.of_drew
        clear hB
        obtain ⟨x0, x1, hxs⟩ := row2n ((hk.block hgs).trans hx.out)
        replace hv1 := hv1.call hk
        clear hk
        clear z1 z2 z3 z4 z5
        go_wp2_with (go_at_call 23; refine (cT _).mono ?_; rintro e w9 ⟨rfl, rfl⟩)
        go_roundw
        case rel => exact ⟨k + 1, by omega, by go_num, hv1, hN2⟩
        case measure => simp [intOf]; omega
      · rw [if_neg h3] at hst
        rw [decide_eq_false h3] at cT
        have K := KE 9 hst (by decide)
        clear hst KE hN1 h1 h3
        go_upto_region 6 with fail
        generalize wr.alloc (.cells #[.string nm, .int .i64 td] 35 (0, 0)) = w2 at hv1 hx hd ⊢
        obtain ⟨x0, x1, hgs⟩ := row2n hx.out
        obtain ⟨d0, hbw⟩ := hd.out
        have z1 : IntKind.i64.wrap ((k : Int) - 1) = (k : Int) - 1 := IntWalk.i64_in _ (by omega)
        have z2 : ((k : Int) - 1).toNat = k - 1 := by omega
        have z3 : 0 ≤ (k : Int) - 1 := by omega
        have z4 : (k : Int) - 1 < l.length := by omega
        have z5 : 1 ≤ (k : Int) := by omega
        refine wp_region_plan [.val (.pointer (some ⟨wr.heap.size, 0, none⟩)), .val (.string nm), .val (.bool true), .val (.bool false), .val (.bool false), .val (.int .i64 ((k : Int))), .val (.bool true), .val (.bool true), .val (.pointer (some ⟨wr.heap.size, 0, none⟩)), .val (.string nm), .val (.slice (some ⟨b, q, none⟩) l.length c), .val (.int .i64 ((k : Int))), .val (.int .i64 ((k : Int) - 1)), .val (.pointer (some ⟨b, q + (k - 1) * 2, none⟩)), .val (.pointer (some ⟨b, q + (k - 1) * 2, none⟩)), .val (.string nm'), .val (.bool false), .val (.bool false), .val (.bool false)] (by kernel_rfl) (by kernel_rfl) (by kernel_rfl) ?_
        intro X
        iterate 19
          refine plan_val (by kernel_rfl) (fun u hu => ?_) ?_
          · obtain ⟨hc, hf, hz⟩ := hu.of_drew.facts
            go_simp
            all_goals first
              | (go_at_call 22; exact cN _)
          simp only [Act.put, List.setIfInBounds_toArray, List.set_cons_zero, List.set_cons_succ, Nat.reduceAdd]
        refine plan_end ?_
        intro w' hB
        have hk := hB.calm.of_drew
        clear hB
        obtain ⟨x0, x1, hxs⟩ := row2n ((hk.block hgs).trans hx.out)
        replace hv1 := hv1.call hk
        clear hk
        clear z1 z2 z3 z4 z5
        go_wp2_with (go_at_call 23; refine (cT _).mono ?_; rintro e w9 ⟨rfl, rfl⟩)
        go_ret
        exact ⟨ret_int K.out, hv1⟩
    · rw [if_neg (fun h => h2 h.2)] at hst
      have K := KE 3 hst (by decide)
      clear hst KE hN1
      have e1 : (Op.bytesLess nm.toList nm'.toList || (nm.toList == nm'.toList)) = true := by
        rcases nLt_tri nm nm' with h | h | h
        · rw [bl_eq, decide_eq_true h]; rfl
        · rw [h]; simp
        · exact absurd h h2
      have e2 : Op.bytesLess nm.toList nm'.toList = true ∨ nm.toList = nm'.toList := by simpa using e1
      clear h2 h1
      go_upto_region 6 with fail
      generalize wr.alloc (.cells #[.string nm, .int .i64 td] 35 (0, 0)) = w2 at hv1 hx hd ⊢
      obtain ⟨x0, x1, hgs⟩ := row2n hx.out
      obtain ⟨d0, hbw⟩ := hd.out
      have z1 : IntKind.i64.wrap ((k : Int) - 1) = (k : Int) - 1 := IntWalk.i64_in _ (by omega)
      have z2 : ((k : Int) - 1).toNat = k - 1 := by omega
      have z3 : 0 ≤ (k : Int) - 1 := by omega
      have z4 : (k : Int) - 1 < l.length := by omega
      have z5 : 1 ≤ (k : Int) := by omega
      refine wp_region_plan [.val (.pointer (some ⟨wr.heap.size, 0, none⟩)), .val (.string nm), .val (.bool true), .val (.bool false), .val (.bool false), .val (.int .i64 ((k : Int))), .val (.bool true), .val (.bool true), .val (.pointer (some ⟨wr.heap.size, 0, none⟩)), .val (.string nm), .val (.slice (some ⟨b, q, none⟩) l.length c), .val (.int .i64 ((k : Int))), .val (.int .i64 ((k : Int) - 1)), .val (.pointer (some ⟨b, q + (k - 1) * 2, none⟩)), .val (.pointer (some ⟨b, q + (k - 1) * 2, none⟩)), .val (.string nm'), .val (.bool true), .val (.bool true), .val (.bool true)] (by kernel_rfl) (by kernel_rfl) (by kernel_rfl) ?_
      intro X
      iterate 19
        refine plan_val (by kernel_rfl) (fun u hu => ?_) ?_
        · obtain ⟨hc, hf, hz⟩ := hu.of_drew.facts
          go_simp
          all_goals first
            | (go_at_call 22; exact cN _)
        simp only [Act.put, List.setIfInBounds_toArray, List.set_cons_zero, List.set_cons_succ, Nat.reduceAdd]
      refine plan_end ?_
      intro w' hB
      have hk := hB.calm.of_drew
      clear hB
      obtain ⟨x0, x1, hxs⟩ := row2n ((hk.block hgs).trans hx.out)
      replace hv1 := hv1.call hk
      clear hk
      clear z1 z2 z3 z4 z5
      go_wp2_with fail
      go_ret
      exact ⟨ret_int K.out, hv1⟩
open Go.RowKit
theorem nLt_neg (a b : ByteArray) : nLt a b ↔ bc a b < 0 := by
 unfold nLt
 rcases bc_or a b with h | h | h <;> rw [h] <;> decide
theorem snPos1_any (nm : ByteArray) (td : Int) (x : ByteArray) (w : World) : Calls Try.prog 45 #[.agg #[.string nm, .int .i64 td], .string x] w fun e w' => e = .returned (.int .i64 (bc nm x)) ∧ Calm w w' := by
 have cC := fun u => Try.strings_Compare nm x u
 have hE : Lib.compareBytes nm.data.toList x.data.toList = bc nm x := rfl
 rw [hE] at cC
 clear hE
 generalize bc nm x = C at cC ⊢
 have hu := (Calm.refl w).alloc (.cells #[.string nm, .int .i64 td] 35)
 go_enter Try.func45, Try.ntmps45
 go_wp2_with (go_at_call 32; refine (cC _).mono ?_; rintro e w1 ⟨rfl, rfl⟩)
 go_ret
 exact ⟨rfl, hu⟩
def posN (l : List Sn) (x : ByteArray) : Nat := l.countP fun s => decide (nLt s.nm x)
def hitN (l : List Sn) (x : ByteArray) : Bool := match l[posN l x]? with | some s => bc s.nm x == 0 | none => false
theorem posN_part {l : List Sn} {x : ByteArray} {c : Nat} (hc : c ≤ l.length) (h1 : ∀ i (h : i < l.length), i < c → nLt l[i].nm x) (h2 : ∀ i (h : i < l.length), c ≤ i → ¬ nLt l[i].nm x) : posN l x = c := by
 unfold posN
 rw [← List.take_append_drop c l, List.countP_append]
 have a : (l.take c).countP (fun s => decide (nLt s.nm x)) = c := by
  rw [List.countP_eq_length.2 fun e he => by
   obtain ⟨i, hi, rfl⟩ := List.getElem_of_mem he
   rw [List.length_take] at hi
   rw [List.getElem_take]
   exact decide_eq_true (h1 i (by omega) (by omega)), List.length_take]
  omega
 have b : (l.drop c).countP (fun s => decide (nLt s.nm x)) = 0 := by
  rw [List.countP_eq_zero.2 fun e he => by
   obtain ⟨i, hi, rfl⟩ := List.getElem_of_mem he
   rw [List.length_drop] at hi
   rw [List.getElem_drop]
   simpa using h2 (c + i) (by omega) (by omega)]
 omega
set_option maxHeartbeats 8000000 in
theorem snSearch_any (A : Option Addr) (c : Nat) (l : List Sn) (x : ByteArray) (w : World) (hn : l.length ≤ 400) (hL : LiesN w A l) (hS : NS l) :
    Calls Try.prog 44 #[.slice A l.length c, .string x, .func (.func 45) #[] #[]] w fun e w' => e = .returned (.tuple #[.int .i64 (posN l x : Nat), .bool (hitN l x)]) ∧ Calm w w' := by
  have M : Hid (∀ i j (hi : i < l.length) (hj : j < l.length), i ≤ j → nLt l[j].nm x → nLt l[i].nm x) := show ∀ _ _ _ _, _ from fun i j hi hj hij h => by
    rcases Nat.lt_or_eq_of_le hij with h1 | h1
    · exact nLt_trans (List.pairwise_iff_getElem.1 hS i j hi hj h1) h
    · subst h1; exact h
  have HL := Lib.hid hL
  clear hL hS
  go_enter Try.func44, Try.ntmps44
  go_wp2_with fail
  go_loopg [9, 10] l.length (fun kx s9 s10 wr => ∃ lo hi : Nat, s9 = .int .i64 lo ∧ s10 = .int .i64 hi ∧ lo ≤ hi ∧ hi ≤ l.length ∧ hi - lo ≤ kx ∧ Calm w wr ∧
    Hid ((∀ t (h : t < l.length), t < lo → nLt l[t].nm x) ∧ (∀ t (h : t < l.length), hi ≤ t → ¬ nLt l[t].nm x)))
  case atStart => exact ⟨0, l.length, rfl, rfl, Nat.zero_le _, Nat.le_refl _, by omega, Calm.refl _, show _ ∧ _ from ⟨fun t h ht => absurd ht (Nat.not_lt_zero _), fun t h1 h2 => by omega⟩⟩
  case round =>
    obtain ⟨lo, hi, rfl, rfl, hlh, hin, hg, hv, I⟩ := hrel
    have HLr := Lib.hid (HL.out.calm hv)
    by_cases hlt : lo < hi
    · obtain ⟨mid, hmd⟩ : ∃ mid, (lo + hi) / 2 = mid := ⟨_, rfl⟩
      have hmid : mid < l.length := by omega
      have hmi : ((lo : Int) + (hi : Int)) / 2 = (mid : Int) := by omega
      obtain ⟨b, q, nm, td, hAb, hb, HE, e0, e1⟩ := sn_get HLr.out hmid
      subst hAb
      obtain ⟨C, hC⟩ : ∃ C, bc nm x = C := ⟨_, rfl⟩
      have hCs : Hid (nLt (l[mid]).nm x ↔ C < 0) := show _ ↔ _ by
        rw [(List.getElem?_eq_some_iff.1 HE.out).2, ← hC]; exact nLt_neg _ _
      have cC := fun u => snPos1_any nm td x u
      rw [hC] at cC
      have HMD := Lib.hid hmd
      clear hC hmd
      by_cases hC0 : C < 0
      · have I2 : Hid ((∀ t (h : t < l.length), t < mid + 1 → nLt l[t].nm x) ∧ (∀ t (h : t < l.length), hi ≤ t → ¬ nLt l[t].nm x)) := show _ ∧ _ from
          ⟨fun t h ht => M.out t mid h hmid (by omega) (hCs.out.2 hC0), I.out.2⟩
        go_wp2_with (go_at_call 45; (with_reducible refine (cC _).mono ?_); rintro e w9 ⟨rfl, hk⟩)
        go_roundg (hi - (mid + 1))
        case measure => have := HMD.out; omega
        case rel => exact ⟨mid + 1, hi, by first | rfl | go_num | (congr 1; omega), rfl, by have := HMD.out; omega, hin, Nat.le_refl _, hv.call hk, I2⟩
      · have I2 : Hid ((∀ t (h : t < l.length), t < lo → nLt l[t].nm x) ∧ (∀ t (h : t < l.length), mid ≤ t → ¬ nLt l[t].nm x)) := show _ ∧ _ from
          ⟨I.out.1, fun t h ht h2 => hC0 (hCs.out.1 (M.out mid t hmid h ht h2))⟩
        go_wp2_with (go_at_call 45; (with_reducible refine (cC _).mono ?_); rintro e w9 ⟨rfl, hk⟩)
        go_roundg (mid - lo)
        case measure => have := HMD.out; omega
        case rel => exact ⟨lo, mid, rfl, by first | rfl | go_num | (congr 1; omega), by have := HMD.out; omega, by omega, Nat.le_refl _, hv.call hk, I2⟩
    · obtain rfl : hi = lo := by omega
      have K1 : Hid (posN l x = hi) := posN_part hin (fun i h hi' => I.out.1 i h hi') (fun i h hi' => I.out.2 i h hi')
      by_cases hle : hi < l.length
      · have hli : (hi : Int) < (l.length : Int) := by omega
        obtain ⟨b, q, nm, td, hAb, hb, HE, e0, e1⟩ := sn_get HLr.out hle
        subst hAb
        have cC := fun u => snPos1_any nm td x u
        have hB : Hid (hitN l x = (bc nm x == 0)) := show _ = _ by unfold hitN; rw [K1.out, HE.out]
        generalize bc nm x = C at cC hB
        obtain ⟨r, hr⟩ : ∃ r, (C == 0) = r := ⟨_, rfl⟩
        have HB : Hid (hitN l x = r) := show _ = _ from hB.out.trans hr
        go_wp2_with (go_at_call 45; (with_reducible refine (cC _).mono ?_); rintro e w9 ⟨rfl, hk⟩)
        go_ret2
        exact ⟨by rw [K1.out, HB.out]; rfl, hv.call hk⟩
      · have hli : ¬ (hi : Int) < (l.length : Int) := by omega
        go_wp2_with fail
        go_ret2
        have HB : hitN l x = false := by unfold hitN; rw [K1.out, List.getElem?_eq_none (by omega)]
        exact ⟨by rw [K1.out, HB]; rfl, hv⟩
set_option maxHeartbeats 2000000 in
theorem snPosition_any (A : Option Addr) (c : Nat) (l : List Sn) (x : ByteArray) (w : World) (hn : l.length ≤ 400) (hL : LiesN w A l) (hS : NS l) :
    Calls Try.prog 24 #[.slice A l.length c, .string x] w fun e w' => e = .returned (.tuple #[.int .i64 (posN l x : Nat), .bool (hitN l x)]) ∧ Calm w w' := by
  have cB := snSearch_any A c l x w hn hL hS
  clear hL hS hn
  generalize posN l x = P at cB ⊢
  generalize hitN l x = H at cB ⊢
  go_enter Try.func24, Try.ntmps24
  go_wp2_with (go_at_call 44; (with_reducible refine cB.mono ?_); rintro e w1 ⟨rfl, hb⟩)
  go_ret2
  exact ⟨rfl, hb⟩
def fiErr (l : List Sn) (x : ByteArray) : Int := if snErr l = 0 then (if hitN l x = true then 0 else 4) else snErr l
def fiPos (l : List Sn) (x : ByteArray) : Nat := if fiErr l x = 0 then posN l x else 0
def fiT (l : List Sn) (x : ByteArray) : Int := if fiErr l x = 0 then (match l[posN l x]? with | some s => s.td | none => 0) else 0
theorem hit_at {l : List Sn} {x : ByteArray} (h : hitN l x = true) : ∃ s, l[posN l x]? = some s ∧ s.nm = x := by
 unfold hitN at h
 cases hp : l[posN l x]? with
 |none => rw [hp] at h; cases h
 |some s => rw [hp] at h; exact ⟨s, rfl, bc_eq.1 (by simpa using h)⟩
set_option maxHeartbeats 4000000 in
theorem snfind_any (A : Option Addr) (c : Nat) (l : List Sn) (x : ByteArray) (w : World) (hn : l.length ≤ 9223372036854775807) (hS : Szs l) (hL : LiesN w A l) :
    Calls Try.prog 27 #[.slice A l.length c, .string x] w fun e w' => e = .returned (.tuple #[.int .i64 (fiPos l x : Nat), .int .i64 (fiErr l x)]) ∧ Calm w w' := by
  have cC := fun u (hu : Calm w u) => snCheck_any A c l u hn hS (hL.calm hu)
  have hu := Calm.refl w
  unfold fiPos fiErr
  by_cases h1 : snErr l = 0
  rotate_left
  · rw [if_neg h1, if_neg h1]
    have b1 : (snErr l != 0) = true := by simpa using h1
    generalize snErr l = E at *
    clear h1 hL
    go_enter Try.func27, Try.ntmps27
    go_wp2_with (go_at_call 11; (with_reducible refine (cC _ hu).mono ?_); rintro e w1 ⟨rfl, hb⟩; replace hu := hu.call hb; clear hb)
    go_ret2
    exact ⟨rfl, hu⟩
  have hG := snErr_zero.1 h1
  have cP := fun u (hu : Calm w u) => snPosition_any A c l x u (by have := hG.1; omega) (hL.calm hu) hG.2.2
  rw [if_pos h1]
  rw [h1] at cC
  by_cases h2 : hitN l x = true
  · rw [if_pos h2, if_pos rfl]
    rw [h2] at cP
    generalize posN l x = P at cP ⊢
    clear h1 h2 hL hG
    go_enter Try.func27, Try.ntmps27
    go_wp2_with (first
      | (go_at_call 11; (with_reducible refine (cC _ hu).mono ?_); rintro e w1 ⟨rfl, hb⟩; replace hu := hu.call hb; clear hb cC)
      | (go_at_call 24; (with_reducible refine (cP _ hu).mono ?_); rintro e w2 ⟨rfl, hb⟩; replace hu := hu.call hb; clear hb cP))
    go_ret2
    exact ⟨rfl, hu⟩
  · rw [if_neg h2, if_neg (by decide)]
    rw [show hitN l x = false from by simpa using h2] at cP
    generalize posN l x = P at cP
    clear h1 h2 hL hG
    go_enter Try.func27, Try.ntmps27
    go_wp2_with (first
      | (go_at_call 11; (with_reducible refine (cC _ hu).mono ?_); rintro e w1 ⟨rfl, hb⟩; replace hu := hu.call hb; clear hb cC)
      | (go_at_call 24; (with_reducible refine (cP _ hu).mono ?_); rintro e w2 ⟨rfl, hb⟩; replace hu := hu.call hb; clear hb cP))
    go_ret2
    exact ⟨rfl, hu⟩
set_option maxHeartbeats 4000000 in
theorem snFind_any (A : Option Addr) (c : Nat) (l : List Sn) (x : ByteArray) (w : World) (hn : l.length ≤ 9223372036854775807) (hS : Szs l) (hL : LiesN w A l) :
    Calls Try.prog 8 #[.slice A l.length c, .string x] w fun e w' => e = .returned (.tuple #[.int .i64 (fiT l x), .int .i64 (fiErr l x)]) ∧ Calm w w' := by
  have cF := snfind_any A c l x w hn hS hL
  unfold fiT
  by_cases h1 : fiErr l x = 0
  rotate_left
  · rw [if_neg h1]
    have b1 : (fiErr l x != 0) = true := by simpa using h1
    generalize fiErr l x = E at *
    generalize fiPos l x = P at cF
    clear h1 hL
    go_enter Try.func8, Try.ntmps8
    go_wp2_with (go_at_call 27; (with_reducible refine cF.mono ?_); rintro e w1 ⟨rfl, hb⟩)
    go_ret2
    exact ⟨rfl, hb⟩
  have hh : hitN l x = true := by
    unfold fiErr at h1
    split at h1
    · split at h1
      · assumption
      · cases h1
    · contradiction
  obtain ⟨s, hs, -⟩ := hit_at hh
  have hp : fiPos l x = posN l x := by unfold fiPos; rw [if_pos h1]
  rw [if_pos h1, hs, h1]
  rw [h1, hp] at cF
  have hlt : posN l x < l.length := (List.getElem?_eq_some_iff.1 hs).1
  generalize posN l x = P at *
  obtain ⟨b, q, nm, td, rfl, hb, HE, c0, c1⟩ := sn_get hL hlt
  obtain rfl : s = ⟨nm, td⟩ := by have := hs.symm.trans HE.out; injection this
  simp only
  clear h1 hh hs hp HE hL
  go_enter Try.func8, Try.ntmps8
  go_wp2_with (go_at_call 27; (with_reducible refine cF.mono ?_); rintro e w1 ⟨rfl, hb1⟩; have hvc := hb1.facts.1; replace c0 := (hvc _ _ hb).trans c0; replace c1 := (hvc _ _ hb).trans c1; have hb2 : b < w1.heap.size := Nat.lt_of_lt_of_le hb hb1.size; clear hvc)
  go_ret2
  exact ⟨rfl, hb1⟩
open Go.ChangeShapes Go.WideShapes Go.ChangeAt Go.RowKit
def badR (r : Int) : Prop := r < 33 ∨ 126 < r ∨ r = 47 ∨ r = 64
instance (r : Int) : Decidable (badR r) := by unfold badR; infer_instance
set_option maxHeartbeats 1000000 in
theorem nmC_any (r : Int) (w : World) : Calls Try.prog 51 #[.int .i32 r] w fun e w' => e = .returned (.bool (decide (badR r))) ∧ w = w' := by
 have K : ∀ b : Bool, (b = true ↔ badR r) → Hid (b = decide (badR r)) := fun b h => show b = _ from by
  rw [Bool.eq_iff_iff, h, decide_eq_true_eq]
 by_cases h1 : r < 33
 ·have K1 := K true ⟨fun _ => .inl h1, fun _ => rfl⟩
  clear K
  go_enter Try.func51, Try.ntmps51
  go_wp2_with fail
  go_ret
  exact ⟨ret_bool K1.out, rfl⟩
 by_cases h2 : 126 < r
 ·have K1 := K true ⟨fun _ => .inr (.inl h2), fun _ => rfl⟩
  clear K
  go_enter Try.func51, Try.ntmps51
  go_wp2_with fail
  go_ret
  exact ⟨ret_bool K1.out, rfl⟩
 by_cases h3 : r = 47
 ·have K1 := K true ⟨fun _ => .inr (.inr (.inl h3)), fun _ => rfl⟩
  subst h3
  clear K
  go_enter Try.func51, Try.ntmps51
  go_wp2_with fail
  go_ret
  exact ⟨ret_bool K1.out, rfl⟩
 by_cases h4 : r = 64
 ·have K1 := K true ⟨fun _ => .inr (.inr (.inr h4)), fun _ => rfl⟩
  subst h4
  clear K
  go_enter Try.func51, Try.ntmps51
  go_wp2_with fail
  go_ret
  exact ⟨ret_bool K1.out, rfl⟩
 have K1 := K false ⟨fun h => absurd h (by decide), fun h => by unfold badR at h; omega⟩
 have b3 : (r == 47) = false := by simpa using h3
 have b4 : (r == 64) = false := by simpa using h4
 clear K
 go_enter Try.func51, Try.ntmps51
 go_wp2_with fail
 go_ret
 exact ⟨ret_bool K1.out, rfl⟩
theorem badR_byte (b : UInt8) : badR (b.toNat : Int) ↔ nameC b = false := by
 unfold badR nameC
 rw [decide_eq_false_iff_not]
 omega
set_option maxHeartbeats 4000000 in
theorem indexF_any (s : ByteArray) (w : World) (_hs : s.size ≤ maxLen) : Calls Try.prog 70 #[.string s, .func (.func 51) #[] #[], .bool true] w fun e w' => ∃ r : Int, e = .returned (.int .i64 r) ∧ (r < 0 ↔ ∀ j (h : j < s.size), nameC s[j] = true) ∧ Calm w w' := by
 unfold maxLen at _hs
 go_enter Try.func70, Try.ntmps70
 go_wp2_with fail
 go_loopw [] (fun wr => ∃ k : Nat, k ≤ s.size ∧ wr = w.iter s k ∧ Hid (∀ j (h : j < s.size), j < k → nameC s[j] = true)) (fun wr => s.size - wr.iterPos w.heap.size)
 case atStart => exact ⟨0, Nat.zero_le _, rfl, show ∀ _, _ from fun j _ h => absurd h (Nat.not_lt_zero _)⟩
 case round =>
  obtain ⟨k, hk, rfl, HK⟩ := hrel
  by_cases hlt : k < s.size
  rotate_left
  ·have hnx := fun ty => run_next_end (P := Try.prog) w s k ty hlt
   have K2 : Hid ((-1 : Int) < 0 ↔ ∀ j (h : j < s.size), nameC s[j] = true) := show _ ↔ _ from ⟨fun _ j h => HK.out j h (by omega), fun _ => by omega⟩
   go_wp2_with fail
   go_ret
   exact ⟨-1, rfl, K2.out, (Calm.refl w).alloc _⟩
  by_cases ha : (s[k]'hlt).toNat < 128
  ·have hnx := fun ty => run_next_ascii (P := Try.prog) w s k ty hlt ha
   have cC := fun u => nmC_any ((s[k]'hlt).toNat : Int) u
   by_cases hn : nameC (s[k]'hlt) = true
   ·rw [decide_eq_false (by rw [badR_byte, hn]; decide)] at cC
    have HK2 : Hid (∀ j (h : j < s.size), j < k + 1 → nameC s[j] = true) := show ∀ _ _, _ from fun j h hj => by
     rcases Nat.lt_or_ge j k with h2 | h2
     ·exact HK.out j h h2
     ·obtain rfl : j = k := by omega
      exact hn
    generalize ((s[k]'hlt).toNat : Int) = R at hnx cC
    clear ha hn HK
    go_wp2_with (go_at_call 51; (with_reducible refine (cC _).mono ?_); rintro e w9 ⟨rfl, rfl⟩)
    go_roundw
    case rel => exact ⟨k + 1, by omega, rfl, HK2⟩
    case measure => simp; omega
   ·rw [decide_eq_true ((badR_byte _).2 (by simpa using hn))] at cC
    have K2 : Hid ((k : Int) < 0 ↔ ∀ j (h : j < s.size), nameC s[j] = true) := show _ ↔ _ from ⟨fun h => by omega, fun h => absurd (h k hlt) hn⟩
    generalize ((s[k]'hlt).toNat : Int) = R at hnx cC
    clear ha hn HK
    go_wp2_with (go_at_call 51; (with_reducible refine (cC _).mono ?_); rintro e w9 ⟨rfl, rfl⟩)
    go_ret
    exact ⟨_, rfl, K2.out, (Calm.refl w).alloc _⟩
  ·have hnx := fun ty => run_next_any (P := Try.prog) w s k ty hlt
   have hd := (decode_high s k hlt (by omega)).1
   have cC := fun u => nmC_any ((Utf8.decode s k).1 : Int) u
   rw [decide_eq_true (by unfold badR; omega)] at cC
   have hn : ¬ nameC (s[k]'hlt) = true := by
    unfold nameC; rw [decide_eq_true_eq]; omega
   have K2 : Hid ((k : Int) < 0 ↔ ∀ j (h : j < s.size), nameC s[j] = true) := show _ ↔ _ from ⟨fun h => by omega, fun h => absurd (h k hlt) hn⟩
   generalize ((Utf8.decode s k).1 : Int) = R at hnx cC
   generalize k + (Utf8.decode s k).2 = k2 at hnx
   clear ha hn HK hd
   go_wp2_with (go_at_call 51; (with_reducible refine (cC _).mono ?_); rintro e w9 ⟨rfl, rfl⟩)
   go_ret
   exact ⟨_, rfl, K2.out, (Calm.refl w).alloc _⟩
set_option maxHeartbeats 2000000 in
theorem indexFunc_any (s : ByteArray) (w : World) (hs : s.size ≤ maxLen) : Calls Try.prog 50 #[.string s, .func (.func 51) #[] #[]] w fun e w' => ∃ r : Int, e = .returned (.int .i64 r) ∧ (r < 0 ↔ ∀ j (h : j < s.size), nameC s[j] = true) ∧ Calm w w' := by
 have cI := indexF_any s w hs
 go_enter Try.func50, Try.ntmps50
 go_wp2_with (go_at_call 70; (with_reducible refine cI.mono ?_); rintro e w1 ⟨r, rfl, h1, h2⟩; have HH := Lib.hid (And.intro h1 h2); clear h1 h2)
 go_ret
 exact ⟨_, rfl, HH.out.1, HH.out.2⟩
theorem nameOk_iff {s : ByteArray} (hl : nameLen s) : nameOk s = true ↔ ∀ j (h : j < s.size), nameC s[j] = true := by
 unfold nameOk
 rw [decide_eq_true hl, Bool.true_and, List.all_eq_true]
 constructor
 ·intro h j hj
  exact h _ (by rw [show s[j] = s.data.toList[j]'(by simpa using hj) from by simp [ByteArray.getElem_eq_getElem_data]]; exact List.getElem_mem _)
 ·intro h b hb
  obtain ⟨j, hj, rfl⟩ := List.getElem_of_mem hb
  have hj2 : j < s.size := by simpa using hj
  have := h j hj2
  rw [show s.data.toList[j] = s[j] from by simp [ByteArray.getElem_eq_getElem_data]]
  exact this
set_option maxHeartbeats 2000000 in
theorem refName_any (s : ByteArray) (w : World) (hs : s.size ≤ maxLen) : Calls Try.prog 31 #[.string s] w fun e w' => e = .returned (.bool (nameOk s)) ∧ Calm w w' := by
 have cI := fun u => indexFunc_any s u hs
 unfold maxLen at hs
 by_cases hl : nameLen s
 rotate_left
 ·rw [nameOk_bad hl]
  by_cases h1 : 1 ≤ s.size
  ·by_cases h2 : s.size ≤ 12
   ·by_cases h3 : s = { data := #[46] }
    ·subst h3
     go_enter Try.func31, Try.ntmps31
     go_wp2_with fail
     go_ret
     exact ⟨rfl, Calm.refl _⟩
    ·have h4 : s = { data := #[46, 46] } := Decidable.byContradiction fun h => hl ⟨h1, h2, h3, h⟩
     subst h4
     go_enter Try.func31, Try.ntmps31
     go_wp2_with fail
     go_ret
     exact ⟨rfl, Calm.refl _⟩
   ·clear hl
    go_enter Try.func31, Try.ntmps31
    go_wp2_with fail
    go_ret
    exact ⟨rfl, Calm.refl _⟩
  ·clear hl
   go_enter Try.func31, Try.ntmps31
   go_wp2_with fail
   go_ret
   exact ⟨rfl, Calm.refl _⟩
 have hN := nameOk_iff hl
 obtain ⟨h1, h2, h3, h4⟩ := hl
 have b3 : (s.toList == [46]) = false := str_neL h3
 have b4 : (s.toList == [46, 46]) = false := str_neL h4
 by_cases hk : nameOk s = true
 ·rw [hk]
  have hall := Lib.hid (hN.1 hk)
  clear hN hk
  go_enter Try.func31, Try.ntmps31
  go_wp2_with (go_at_call 50; (with_reducible refine (cI _).mono ?_); rintro e w1 ⟨r, rfl, h5, h6⟩; have h7 : r < 0 := h5.2 hall.out; clear h5)
  go_ret
  exact ⟨rfl, h6⟩
 ·rw [show nameOk s = false from by simpa using hk]
  have hall := Lib.hid (fun h => hk (hN.2 h))
  clear hN hk
  go_enter Try.func31, Try.ntmps31
  go_wp2_with (go_at_call 50; (with_reducible refine (cI _).mono ?_); rintro e w1 ⟨r, rfl, h5, h6⟩; have h7 : 0 ≤ r := (by have h9 : ¬ r < 0 := fun h => hall.out (h5.1 h); omega); clear h5)
  go_ret
  first | exact ⟨rfl, h6⟩ | exact ⟨ret_bool (decide_eq_false (by omega)), h6⟩
open Go.ChangeShapes Go.WideShapes Go.ChangeAt Go.RowKit
theorem cmpN (a b : ByteArray) (u : World) : Calls Try.prog 32 #[.string a, .string b] u fun e w' => e = .returned (.int .i64 (bc a b)) ∧ Calm u w' :=
 (Try.strings_Compare a b u).mono fun _ _ h => ⟨h.1, h.2 ▸ Calm.refl _⟩
set_option maxHeartbeats 8000000 in
theorem refSnaps_any (A : Option Addr) (c : Nat) (l : List Sn) (w : World) (hn : l.length ≤ 9223372036854775807) (hS : Szs l) (hL : LiesN w A l) :
    Calls Try.prog 10 #[.slice A l.length c] w fun e w' => e = .returned (.int .i64 (snErr l)) ∧ Calm w w' := by
  by_cases hbig : 20 < l.length
  · have K : Hid (2 = snErr l) := by show _ = _; unfold snErr; rw [if_pos hbig]
    go_enter Try.func10, Try.ntmps10
    go_wp2_with fail
    go_ret
    exact ⟨ret_int K.out, Calm.refl _⟩
  have HS := Lib.hid hS
  clear hS
  go_enter Try.func10, Try.ntmps10
  go_wp2_with fail
  go_loopw [10] (fun i wr => ∃ k : Nat, k ≤ l.length ∧ i = .int .i64 k ∧ Calm w wr ∧ NoErrS l k) (fun i _ => l.length - (intOf i).toNat)
  case atStart => exact ⟨0, Nat.zero_le _, rfl, Calm.refl _, fun j hj => absurd hj (Nat.not_lt_zero _)⟩
  case round =>
    obtain ⟨k, hk, rfl, hu, hN⟩ := hrel
    by_cases hlt : k < l.length
    rotate_left
    · have hkl : k = l.length := by omega
      have K : Hid (0 = snErr l) := snErr_good hbig (by rw [← hkl]; exact hN)
      clear hkl
      go_wp2_with fail
      go_ret
      exact ⟨ret_int K.out, hu⟩
    obtain ⟨b, q, nm, td, rfl, hb, HE, c0, c1⟩ := sn_get (hL.calm hu) hlt
    have cN := fun u => refName_any nm u (HS.out _ (List.mem_of_getElem? HE.out))
    have cT := fun u => between_any td 2147483647 u
    rw [show decide (0 ≤ td ∧ td ≤ 2147483647) = decide (tidOk td) from rfl] at cT
    have hv1 := hu.alloc (.cells #[.string nm, .int .i64 td] 35 (0, 0))
    have hx := Lib.hid (heap_new wr (.cells #[.string nm, .int .i64 td] 35 (0, 0)))
    have KE : ∀ n, stepS l k = n → n ≠ 0 → Hid (n = snErr l) := fun n h1 h2 => by
      show _ = _
      rw [← snErr_at hbig hN (by rw [h1]; exact h2) hlt, h1]
    by_cases hk0 : k = 0
    · have hst : stepS l k = if nameOk nm = true then (if tidOk td then 0 else 9) else 3 := by rw [hk0]; exact stepS_first (hk0 ▸ HE.out)
      have hk1 : ¬ 0 < k := by omega
      have hN1 : stepS l k = 0 → NoErrS l (k + 1) := fun h j hj => by
        rw [show j = k by omega]; exact h
      clear hk0 HE hN
      by_cases h1 : nameOk nm = true
      rotate_left
      · rw [if_neg h1] at hst
        have K := KE 3 hst (by decide)
        rw [show nameOk nm = false from by simpa using h1] at cN
        clear hst KE hN1 h1
        go_upto_region 6 with fail
        generalize wr.alloc (.cells #[.string nm, .int .i64 td] 35 (0, 0)) = w2 at hv1 hx ⊢
        obtain ⟨x0, x1, hgs⟩ := row2n hx.out
        skip
        refine wp_region_plan [.val (.pointer (some ⟨wr.heap.size, 0, none⟩)), .val (.string nm), .val (.bool false), .val (.bool true), .val (.bool true), .idle, .idle, .idle, .idle, .idle, .idle, .idle, .idle, .idle, .idle, .idle, .idle, .idle, .idle, .val (.bool true)] (by kernel_rfl) (by kernel_rfl) (by kernel_rfl) ?_
        intro X
        iterate 5
          refine plan_val (by kernel_rfl) (fun u hu => ?_) ?_
          · obtain ⟨hc, hf, hz⟩ := hu.of_drew.facts
            go_simp
            all_goals first
              | (go_at_call 31; exact cN _)
              | (go_at_call 32; exact cM _)
          simp only [Act.put, List.setIfInBounds_toArray, List.set_cons_zero, List.set_cons_succ, Nat.reduceAdd]
        iterate 14
          refine plan_idle (by kernel_rfl) ?_
          simp only [Act.put, List.setIfInBounds_toArray, List.set_cons_zero, List.set_cons_succ, Nat.reduceAdd]
        iterate 1
          refine plan_val (by kernel_rfl) (fun u hu => ?_) ?_
          · obtain ⟨hc, hf, hz⟩ := hu.of_drew.facts
            go_simp
            all_goals first
              | (go_at_call 31; exact cN _)
              | (go_at_call 32; exact cM _)
          simp only [Act.put, List.setIfInBounds_toArray, List.set_cons_zero, List.set_cons_succ, Nat.reduceAdd]
        refine plan_end ?_
        intro w' hB
        have hk := hB.calm.of_drew
        clear hB
        obtain ⟨x0, x1, hxs⟩ := row2n ((hk.block hgs).trans hx.out)
        replace hv1 := hv1.call hk
        clear hk
        go_wp2_with fail
        go_ret
        exact ⟨ret_int K.out, hv1⟩
      rw [if_pos h1] at hst
      rw [h1] at cN
      by_cases h3 : tidOk td
      · rw [if_pos h3] at hst
        rw [decide_eq_true h3] at cT
        have hN2 := hN1 hst
        clear hst KE hN1 h1 h3
        go_upto_region 6 with fail
        generalize wr.alloc (.cells #[.string nm, .int .i64 td] 35 (0, 0)) = w2 at hv1 hx ⊢
        obtain ⟨x0, x1, hgs⟩ := row2n hx.out
        skip
        refine wp_region_plan [.val (.pointer (some ⟨wr.heap.size, 0, none⟩)), .val (.string nm), .val (.bool true), .val (.bool false), .val (.bool false), .val (.int .i64 ((k : Int))), .val (.bool false), .val (.bool false), .idle, .idle, .idle, .idle, .idle, .idle, .idle, .idle, .idle, .idle, .val (.bool false), .val (.bool false)] (by kernel_rfl) (by kernel_rfl) (by kernel_rfl) ?_
        intro X
        iterate 8
          refine plan_val (by kernel_rfl) (fun u hu => ?_) ?_
          · obtain ⟨hc, hf, hz⟩ := hu.of_drew.facts
            go_simp
            all_goals first
              | (go_at_call 31; exact cN _)
              | (go_at_call 32; exact cM _)
          simp only [Act.put, List.setIfInBounds_toArray, List.set_cons_zero, List.set_cons_succ, Nat.reduceAdd]
        iterate 10
          refine plan_idle (by kernel_rfl) ?_
          simp only [Act.put, List.setIfInBounds_toArray, List.set_cons_zero, List.set_cons_succ, Nat.reduceAdd]
        iterate 2
          refine plan_val (by kernel_rfl) (fun u hu => ?_) ?_
          · obtain ⟨hc, hf, hz⟩ := hu.of_drew.facts
            go_simp
            all_goals first
              | (go_at_call 31; exact cN _)
              | (go_at_call 32; exact cM _)
          simp only [Act.put, List.setIfInBounds_toArray, List.set_cons_zero, List.set_cons_succ, Nat.reduceAdd]
        refine plan_end ?_
        intro w' hB
        have hk := hB.calm.of_drew
        clear hB
        obtain ⟨x0, x1, hxs⟩ := row2n ((hk.block hgs).trans hx.out)
        replace hv1 := hv1.call hk
        clear hk
        go_wp2_with (go_at_call 33; refine (cT _).mono ?_; rintro e w9 ⟨rfl, rfl⟩)
        go_roundw
        case rel => exact ⟨k + 1, by omega, by go_num, hv1, hN2⟩
        case measure => simp [intOf]; omega
      · rw [if_neg h3] at hst
        rw [decide_eq_false h3] at cT
        have K := KE 9 hst (by decide)
        clear hst KE hN1 h1 h3
        go_upto_region 6 with fail
        generalize wr.alloc (.cells #[.string nm, .int .i64 td] 35 (0, 0)) = w2 at hv1 hx ⊢
        obtain ⟨x0, x1, hgs⟩ := row2n hx.out
        skip
        refine wp_region_plan [.val (.pointer (some ⟨wr.heap.size, 0, none⟩)), .val (.string nm), .val (.bool true), .val (.bool false), .val (.bool false), .val (.int .i64 ((k : Int))), .val (.bool false), .val (.bool false), .idle, .idle, .idle, .idle, .idle, .idle, .idle, .idle, .idle, .idle, .val (.bool false), .val (.bool false)] (by kernel_rfl) (by kernel_rfl) (by kernel_rfl) ?_
        intro X
        iterate 8
          refine plan_val (by kernel_rfl) (fun u hu => ?_) ?_
          · obtain ⟨hc, hf, hz⟩ := hu.of_drew.facts
            go_simp
            all_goals first
              | (go_at_call 31; exact cN _)
              | (go_at_call 32; exact cM _)
          simp only [Act.put, List.setIfInBounds_toArray, List.set_cons_zero, List.set_cons_succ, Nat.reduceAdd]
        iterate 10
          refine plan_idle (by kernel_rfl) ?_
          simp only [Act.put, List.setIfInBounds_toArray, List.set_cons_zero, List.set_cons_succ, Nat.reduceAdd]
        iterate 2
          refine plan_val (by kernel_rfl) (fun u hu => ?_) ?_
          · obtain ⟨hc, hf, hz⟩ := hu.of_drew.facts
            go_simp
            all_goals first
              | (go_at_call 31; exact cN _)
              | (go_at_call 32; exact cM _)
          simp only [Act.put, List.setIfInBounds_toArray, List.set_cons_zero, List.set_cons_succ, Nat.reduceAdd]
        refine plan_end ?_
        intro w' hB
        have hk := hB.calm.of_drew
        clear hB
        obtain ⟨x0, x1, hxs⟩ := row2n ((hk.block hgs).trans hx.out)
        replace hv1 := hv1.call hk
        clear hk
        go_wp2_with (go_at_call 33; refine (cT _).mono ?_; rintro e w9 ⟨rfl, rfl⟩)
        go_ret
        exact ⟨ret_int K.out, hv1⟩
    obtain ⟨nm', td', HE', d0, d1⟩ := sn_get2 (hL.calm hu) (k := k - 1) (by omega)
    have hst := stepS_next HE.out (by omega) HE'.out
    have hN1 : stepS l k = 0 → NoErrS l (k + 1) := fun h j hj => by
      rcases Nat.lt_or_ge j k with h2 | h2
      · exact hN j h2
      · rw [show j = k by omega]; exact h
    have hkp : 0 < k := by omega
    clear hk0 HE HE' hN
    have hd := Lib.hid (And.intro (((Calm.refl wr).alloc (.cells #[.string nm, .int .i64 td] 35 (0, 0))).facts.1 b _ hb |>.trans d0) (show b < (wr.alloc (.cells #[.string nm, .int .i64 td] 35 (0, 0))).heap.size from Nat.lt_of_lt_of_le hb (by simp)))
    clear d0 d1
    by_cases h1 : nameOk nm = true
    rotate_left
    · rw [if_neg (fun h => h1 h.1)] at hst
      have K := KE 3 hst (by decide)
      rw [show nameOk nm = false from by simpa using h1] at cN
      clear hst KE hN1 h1 hkp hd
      go_upto_region 6 with fail
      generalize wr.alloc (.cells #[.string nm, .int .i64 td] 35 (0, 0)) = w2 at hv1 hx ⊢
      obtain ⟨x0, x1, hgs⟩ := row2n hx.out
      skip
      refine wp_region_plan [.val (.pointer (some ⟨wr.heap.size, 0, none⟩)), .val (.string nm), .val (.bool false), .val (.bool true), .val (.bool true), .idle, .idle, .idle, .idle, .idle, .idle, .idle, .idle, .idle, .idle, .idle, .idle, .idle, .idle, .val (.bool true)] (by kernel_rfl) (by kernel_rfl) (by kernel_rfl) ?_
      intro X
      iterate 5
        refine plan_val (by kernel_rfl) (fun u hu => ?_) ?_
        · obtain ⟨hc, hf, hz⟩ := hu.of_drew.facts
          go_simp
          all_goals first
            | (go_at_call 31; exact cN _)
            | (go_at_call 32; exact cM _)
        simp only [Act.put, List.setIfInBounds_toArray, List.set_cons_zero, List.set_cons_succ, Nat.reduceAdd]
      iterate 14
        refine plan_idle (by kernel_rfl) ?_
        simp only [Act.put, List.setIfInBounds_toArray, List.set_cons_zero, List.set_cons_succ, Nat.reduceAdd]
      iterate 1
        refine plan_val (by kernel_rfl) (fun u hu => ?_) ?_
        · obtain ⟨hc, hf, hz⟩ := hu.of_drew.facts
          go_simp
          all_goals first
            | (go_at_call 31; exact cN _)
            | (go_at_call 32; exact cM _)
        simp only [Act.put, List.setIfInBounds_toArray, List.set_cons_zero, List.set_cons_succ, Nat.reduceAdd]
      refine plan_end ?_
      intro w' hB
      have hk := hB.calm.of_drew
      clear hB
      obtain ⟨x0, x1, hxs⟩ := row2n ((hk.block hgs).trans hx.out)
      replace hv1 := hv1.call hk
      clear hk
      go_wp2_with fail
      go_ret
      exact ⟨ret_int K.out, hv1⟩
    rw [h1] at cN
    by_cases h2 : nLt nm' nm
    · rw [if_pos ⟨h1, h2⟩] at hst
      have cM := cmpN nm' nm
      rw [show bc nm' nm = -1 from h2] at cM
      clear h2
      by_cases h3 : tidOk td
      · rw [if_pos h3] at hst
        rw [decide_eq_true h3] at cT
        have hN2 := hN1 hst
        clear hst KE hN1 h1 h3
        go_upto_region 6 with fail
        generalize wr.alloc (.cells #[.string nm, .int .i64 td] 35 (0, 0)) = w2 at hv1 hx hd ⊢
        obtain ⟨x0, x1, hgs⟩ := row2n hx.out
        obtain ⟨d0, hbw⟩ := hd.out
        have z1 : IntKind.i64.wrap ((k : Int) - 1) = (k : Int) - 1 := IntWalk.i64_in _ (by omega)
        have z2 : ((k : Int) - 1).toNat = k - 1 := by omega
        have z3 : 0 ≤ (k : Int) - 1 := by omega
        have z4 : (k : Int) - 1 < l.length := by omega
        have z5 : 1 ≤ (k : Int) := by omega
        refine wp_region_plan [.val (.pointer (some ⟨wr.heap.size, 0, none⟩)), .val (.string nm), .val (.bool true), .val (.bool false), .val (.bool false), .val (.int .i64 ((k : Int))), .val (.bool true), .val (.bool true), .val (.slice (some ⟨b, q, none⟩) l.length c), .val (.int .i64 ((k : Int))), .val (.int .i64 ((k : Int) - 1)), .val (.pointer (some ⟨b, q + (k - 1) * 2, none⟩)), .val (.pointer (some ⟨b, q + (k - 1) * 2, none⟩)), .val (.string nm'), .val (.pointer (some ⟨wr.heap.size, 0, none⟩)), .val (.string nm), .val (.int .i64 (-1)), .val (.bool false), .val (.bool false), .val (.bool false)] (by kernel_rfl) (by kernel_rfl) (by kernel_rfl) ?_
        intro X
        iterate 20
          refine plan_val (by kernel_rfl) (fun u hu => ?_) ?_
          · obtain ⟨hc, hf, hz⟩ := hu.of_drew.facts
            go_simp
            all_goals first
              | (go_at_call 31; exact cN _)
              | (go_at_call 32; exact cM _)
          simp only [Act.put, List.setIfInBounds_toArray, List.set_cons_zero, List.set_cons_succ, Nat.reduceAdd]
        refine plan_end ?_
        intro w' hB
        have hk := hB.calm.of_drew
        clear hB
        obtain ⟨x0, x1, hxs⟩ := row2n ((hk.block hgs).trans hx.out)
        replace hv1 := hv1.call hk
        clear hk
        clear z1 z2 z3 z4 z5
        go_wp2_with (go_at_call 33; refine (cT _).mono ?_; rintro e w9 ⟨rfl, rfl⟩)
        go_roundw
        case rel => exact ⟨k + 1, by omega, by go_num, hv1, hN2⟩
        case measure => simp [intOf]; omega
      · rw [if_neg h3] at hst
        rw [decide_eq_false h3] at cT
        have K := KE 9 hst (by decide)
        clear hst KE hN1 h1 h3
        go_upto_region 6 with fail
        generalize wr.alloc (.cells #[.string nm, .int .i64 td] 35 (0, 0)) = w2 at hv1 hx hd ⊢
        obtain ⟨x0, x1, hgs⟩ := row2n hx.out
        obtain ⟨d0, hbw⟩ := hd.out
        have z1 : IntKind.i64.wrap ((k : Int) - 1) = (k : Int) - 1 := IntWalk.i64_in _ (by omega)
        have z2 : ((k : Int) - 1).toNat = k - 1 := by omega
        have z3 : 0 ≤ (k : Int) - 1 := by omega
        have z4 : (k : Int) - 1 < l.length := by omega
        have z5 : 1 ≤ (k : Int) := by omega
        refine wp_region_plan [.val (.pointer (some ⟨wr.heap.size, 0, none⟩)), .val (.string nm), .val (.bool true), .val (.bool false), .val (.bool false), .val (.int .i64 ((k : Int))), .val (.bool true), .val (.bool true), .val (.slice (some ⟨b, q, none⟩) l.length c), .val (.int .i64 ((k : Int))), .val (.int .i64 ((k : Int) - 1)), .val (.pointer (some ⟨b, q + (k - 1) * 2, none⟩)), .val (.pointer (some ⟨b, q + (k - 1) * 2, none⟩)), .val (.string nm'), .val (.pointer (some ⟨wr.heap.size, 0, none⟩)), .val (.string nm), .val (.int .i64 (-1)), .val (.bool false), .val (.bool false), .val (.bool false)] (by kernel_rfl) (by kernel_rfl) (by kernel_rfl) ?_
        intro X
        iterate 20
          refine plan_val (by kernel_rfl) (fun u hu => ?_) ?_
          · obtain ⟨hc, hf, hz⟩ := hu.of_drew.facts
            go_simp
            all_goals first
              | (go_at_call 31; exact cN _)
              | (go_at_call 32; exact cM _)
          simp only [Act.put, List.setIfInBounds_toArray, List.set_cons_zero, List.set_cons_succ, Nat.reduceAdd]
        refine plan_end ?_
        intro w' hB
        have hk := hB.calm.of_drew
        clear hB
        obtain ⟨x0, x1, hxs⟩ := row2n ((hk.block hgs).trans hx.out)
        replace hv1 := hv1.call hk
        clear hk
        clear z1 z2 z3 z4 z5
        go_wp2_with (go_at_call 33; refine (cT _).mono ?_; rintro e w9 ⟨rfl, rfl⟩)
        go_ret
        exact ⟨ret_int K.out, hv1⟩
    · rw [if_neg (fun h => h2 h.2)] at hst
      have K := KE 3 hst (by decide)
      clear hst KE hN1
      have cM := cmpN nm' nm
      have h9 : bc nm' nm = 0 ∨ bc nm' nm = 1 := by
        rcases bc_or nm' nm with h | h | h
        · exact absurd h h2
        · exact .inl h
        · exact .inr h
      generalize bc nm' nm = C at cM h9
      have h8 : 0 ≤ C := by omega
      clear h9
      clear h2 h1
      go_upto_region 6 with fail
      generalize wr.alloc (.cells #[.string nm, .int .i64 td] 35 (0, 0)) = w2 at hv1 hx hd ⊢
      obtain ⟨x0, x1, hgs⟩ := row2n hx.out
      obtain ⟨d0, hbw⟩ := hd.out
      have z1 : IntKind.i64.wrap ((k : Int) - 1) = (k : Int) - 1 := IntWalk.i64_in _ (by omega)
      have z2 : ((k : Int) - 1).toNat = k - 1 := by omega
      have z3 : 0 ≤ (k : Int) - 1 := by omega
      have z4 : (k : Int) - 1 < l.length := by omega
      have z5 : 1 ≤ (k : Int) := by omega
      refine wp_region_plan [.val (.pointer (some ⟨wr.heap.size, 0, none⟩)), .val (.string nm), .val (.bool true), .val (.bool false), .val (.bool false), .val (.int .i64 ((k : Int))), .val (.bool true), .val (.bool true), .val (.slice (some ⟨b, q, none⟩) l.length c), .val (.int .i64 ((k : Int))), .val (.int .i64 ((k : Int) - 1)), .val (.pointer (some ⟨b, q + (k - 1) * 2, none⟩)), .val (.pointer (some ⟨b, q + (k - 1) * 2, none⟩)), .val (.string nm'), .val (.pointer (some ⟨wr.heap.size, 0, none⟩)), .val (.string nm), .val (.int .i64 (C)), .val (.bool true), .val (.bool true), .val (.bool true)] (by kernel_rfl) (by kernel_rfl) (by kernel_rfl) ?_
      intro X
      iterate 20
        refine plan_val (by kernel_rfl) (fun u hu => ?_) ?_
        · obtain ⟨hc, hf, hz⟩ := hu.of_drew.facts
          go_simp
          all_goals first
            | (go_at_call 31; exact cN _)
            | (go_at_call 32; exact cM _)
        simp only [Act.put, List.setIfInBounds_toArray, List.set_cons_zero, List.set_cons_succ, Nat.reduceAdd]
      refine plan_end ?_
      intro w' hB
      have hk := hB.calm.of_drew
      clear hB
      obtain ⟨x0, x1, hxs⟩ := row2n ((hk.block hgs).trans hx.out)
      replace hv1 := hv1.call hk
      clear hk
      clear z1 z2 z3 z4 z5
      go_wp2_with fail
      go_ret
      exact ⟨ret_int K.out, hv1⟩
open Go.RowKit
theorem grownBy_put {w : World} {g n : Nat} (d : Array Int) : w.grownBy (Sort.putRow (Value.int .i64) (Sort.ahead w n) g 0 d) (some g) := by
 have h := grownBy_sortedI (w := w) (g := g) (n := n) (os := #[]) d
 rwa [Sort.grow_empty] at h
def sortI (N : List Int) : List Int := N.mergeSort fun x y => decide (x ≤ y)
theorem sortI_perm (N : List Int) : (sortI N).Perm N := List.mergeSort_perm _ _
theorem sortI_len (N : List Int) : (sortI N).length = N.length := (sortI_perm N).length_eq
theorem sortI_sorted (N : List Int) : (sortI N).Pairwise (· ≤ ·) := by
 have h := List.pairwise_mergeSort (le := fun x y : Int => decide (x ≤ y)) (by intro a b c h1 h2; simp at *; omega) (by intro a b; simp; omega) N
 exact h.imp (by intro a b h; simpa using h)
theorem sort_any (B : Nat) (v : Value) (N : List Int) (w : World) (h : OwnI B w v N) (h0 : 0 < N.length) (hN : N.length ≤ 1000000) :
    Calls Try.prog 29 #[v] w fun e w' => e = .returned (.tuple #[]) ∧ OwnI B w' v (sortI N) ∧ w.grownBy w' v.ownBlock := by
  rcases h.2 with ⟨rfl, hz⟩ | ⟨g, cap, cur, rfl, hg, hb, hnc, hcm, hsz, ht⟩
  · omega
  have hg2 : g < w.heap.size := (Array.getElem?_eq_some_iff.1 hb).1
  rw [Nat.mul_one] at ht
  refine (Try.slices_Sort_int g 0 cap N w (holds_of_blockI hb ht) hg2 (by omega)).mono ?_
  rintro e w' ⟨rfl, n, os, rfl⟩
  refine ⟨rfl, ?_, grownBy_sortedI _⟩
  unfold OwnI
  rw [sortI_len]
  exact ownsRow_sortedI (ss := N) (ts := sortI N) (sortI_len N) hg hb hnc hcm (by simpa using hsz)
open Go.ChangeShapes Go.WideShapes Go.ChangeAt Go.RowKit
/-- slices.Compact of a row that the call owns: what it answers reads as Lib.compact. -/
theorem compact_own (B : Nat) (v : Value) (N : List Int) (w : World) (h : OwnI B w v N) (hN : N.length ≤ 1000000) :
    Calls Try.prog 30 #[v] w fun e w' => ∃ A c, e = .returned (.slice A (Lib.compact N).length c) ∧ LiesI w' A (Lib.compact N) ∧ w.grownBy w' v.ownBlock := by
  by_cases h0 : N.length = 0
  · have hv : ∃ A c, v = .slice A 0 c := by
      rcases h.2 with ⟨rfl, _⟩ | ⟨g, cap, cur, rfl, _⟩
      · exact ⟨none, 0, rfl⟩
      · exact ⟨some ⟨g, 0, none⟩, cap, by rw [h0]⟩
    obtain ⟨A, c, rfl⟩ := hv
    obtain rfl := List.eq_nil_of_length_eq_zero h0
    refine (Try.slices_Compact_int_empty A c w).mono ?_
    rintro e w' ⟨rfl, rfl⟩
    exact ⟨A, c, rfl, fun h => absurd h (by decide), (Calm.refl _).grownBy _⟩
  rcases h.2 with ⟨rfl, hz⟩ | ⟨g, cap, cur, rfl, hg, hb, hnc, hcm, hsz, ht⟩
  · omega
  rw [Nat.mul_one] at ht
  refine (Try.slices_Compact_int g 0 cap N w (holds_of_blockI hb ht) (by omega) hnc).mono ?_
  rintro e w' ⟨rfl, q, rfl⟩
  have hK := Lib.compact_length_le N
  have hlen : (Lib.compact N ++ List.replicate (N.length - (Lib.compact N).length) 0).length = N.length := by
    rw [List.length_append, List.length_replicate]; omega
  have ho := ownsRow_sortedI (n := q) (os := #[]) (ss := N) (ts := Lib.compact N ++ List.replicate (N.length - (Lib.compact N).length) 0) hlen hg hb hnc hcm (by simpa using hsz)
  rw [Sort.grow_empty] at ho
  refine ⟨_, _, rfl, fun hpos => ?_, grownBy_put _⟩
  have ho2 : OwnI B (Sort.putRow (Value.int .i64) (Sort.ahead w q) g 0 (Lib.compact N ++ List.replicate (N.length - (Lib.compact N).length) 0).toArray) (.slice (some ⟨g, 0, none⟩) N.length cap) (Lib.compact N ++ List.replicate (N.length - (Lib.compact N).length) 0) := by
    unfold OwnI
    rw [hlen]
    exact ho
  obtain ⟨A, c, hv, hL⟩ := ho2.lies
  injection hv with hv1 hv2 hv3
  subst hv1
  obtain ⟨b, o, hA, hlt, hc⟩ := hL (by rw [hlen]; omega)
  refine ⟨b, o, hA, hlt, fun k x hx => hc k x ?_⟩
  rw [List.getElem?_append_left (List.getElem?_eq_some_iff.1 hx).1]
  exact hx
theorem sort_own (B : Nat) (v : Value) (N : List Int) (w : World) (h : OwnI B w v N) (hN : N.length ≤ 1000000) :
    Calls Try.prog 29 #[v] w fun e w' => e = .returned (.tuple #[]) ∧ OwnI B w' v (sortI N) ∧ w.grownBy w' v.ownBlock := by
  by_cases h0 : N.length = 0
  · have hv : ∃ A c, v = .slice A 0 c := by
      rcases h.2 with ⟨rfl, _⟩ | ⟨g, cap, cur, rfl, _⟩
      · exact ⟨none, 0, rfl⟩
      · exact ⟨some ⟨g, 0, none⟩, cap, by rw [h0]⟩
    obtain ⟨A, c, rfl⟩ := hv
    obtain rfl := List.eq_nil_of_length_eq_zero h0
    refine (Try.slices_Sort_int_none A c w).mono ?_
    rintro e w' ⟨rfl, rfl⟩
    exact ⟨rfl, by rw [show sortI [] = [] from List.eq_nil_of_length_eq_zero (sortI_len [])]; exact h, (Calm.refl _).grownBy _⟩
  · exact sort_any B v N w h (by omega) hN
def tmL (l : List Sn) : List Int := Lib.compact (sortI (l.map Sn.td))
theorem compact_has {N : List Int} : ∀ i (h : i < N.length), N[i] ∈ Lib.compact N := by
 intro i
 induction i with
 |zero =>
  intro h
  unfold Lib.compact Lib.compactUpTo
  refine List.mem_map.2 ⟨0, List.mem_filter.2 ⟨List.mem_range.2 h, by simp [Lib.keeps]⟩, by simp [h]⟩
 |succ i ih =>
  intro h
  by_cases he : N[i + 1] = N[i]
  ·rw [he]; exact ih (by omega)
  ·unfold Lib.compact Lib.compactUpTo
   refine List.mem_map.2 ⟨i + 1, List.mem_filter.2 ⟨List.mem_range.2 h, ?_⟩, by simp [h]⟩
   unfold Lib.keeps
   rw [decide_eq_true_eq]
   right
   simp only [Nat.add_sub_cancel]
   rw [getElem!_pos N.toArray (i + 1) (by simpa using h), getElem!_pos N.toArray i (by simp; omega)]
   simpa using he
theorem compact_mem {N : List Int} {x : Int} : x ∈ Lib.compact N ↔ x ∈ N := by
 constructor
 ·intro h
  unfold Lib.compact Lib.compactUpTo at h
  obtain ⟨i, hi, rfl⟩ := List.mem_map.1 h
  have := List.mem_range.1 (List.mem_filter.1 hi).1
  rw [getElem!_pos N.toArray i (by simpa using this)]
  simp
 ·intro h
  obtain ⟨i, hi, rfl⟩ := List.getElem_of_mem h
  exact compact_has i hi
theorem tmL_mem {l : List Sn} {t : Int} : t ∈ tmL l ↔ ∃ s ∈ l, s.td = t := by
 unfold tmL
 rw [compact_mem, (sortI_perm _).mem_iff, List.mem_map]
theorem tmL_len (l : List Sn) : (tmL l).length ≤ l.length := by
 unfold tmL
 have := Lib.compact_length_le (sortI (l.map Sn.td))
 rw [sortI_len, List.length_map] at this
 exact this
def TmEnd (T : List Int) (n : Int) (w : World) (e : Ending) (w' : World) : Prop := ∃ A c, e = .returned (.tuple #[.slice A T.length c, .int .i64 n]) ∧ LiesI w' A T ∧ Calm w w'
theorem td_take {l : List Sn} {k : Nat} {s : Sn} (h : l[k]? = some s) : (l.take (k + 1)).map Sn.td = (l.take k).map Sn.td ++ [s.td] := by
 obtain ⟨hk, rfl⟩ := List.getElem?_eq_some_iff.1 h
 rw [List.take_succ_eq_append_getElem hk, List.map_append]; rfl
set_option maxHeartbeats 8000000 in
theorem snTimes_any (A : Option Addr) (c : Nat) (l : List Sn) (w : World) (hn : l.length ≤ 9223372036854775807) (hS : Szs l) (hL : LiesN w A l) :
    Calls Try.prog 9 #[.slice A l.length c] w (TmEnd (if snErr l = 0 then tmL l else []) (snErr l) w) := by
  have cC := fun u (hu : Calm w u) => snCheck_any A c l u hn hS (hL.calm hu)
  have hu := Calm.refl w
  by_cases h1 : snErr l = 0
  rotate_left
  · rw [if_neg h1]
    have b1 : (snErr l != 0) = true := by simpa using h1
    generalize snErr l = E at *
    clear h1 hL
    go_enter Try.func9, Try.ntmps9
    go_wp2_with (go_at_call 11; (with_reducible refine (cC _ hu).mono ?_); rintro e w1 ⟨rfl, hb⟩; replace hu := hu.call hb; clear hb)
    go_ret2
    exact ⟨none, 0, rfl, fun h => absurd h (by simp), hu⟩
  have hG := snErr_zero.1 h1
  have H20 := Lib.hid hG.1
  rw [if_pos h1]
  rw [h1] at cC ⊢
  clear h1 hG
  go_enter Try.func9, Try.ntmps9
  go_upto_region 4 with (go_at_call 11; (with_reducible refine (cC _ hu).mono ?_); rintro e w1 ⟨rfl, hb⟩; replace hu := hu.call hb; clear hb cC)
  go_wp2_with fail
  go_loopw [5, 15] (fun v i wr => ∃ k : Nat, k ≤ l.length ∧ i = .int .i64 k ∧ Calm w1 wr ∧ Hid (OwnI w1.heap.size wr v ((l.take k).map Sn.td))) (fun _ i _ => l.length - (intOf i).toNat)
  case atStart => exact ⟨0, Nat.zero_le _, rfl, Calm.refl _, show OwnI _ _ _ _ from OwnI.nil _ _⟩
  case round =>
    obtain ⟨k, hk, rfl, hv, HT⟩ := hrel
    by_cases hlt : k < l.length
    rotate_left
    · have HT2 := HT.out
      rw [List.take_of_length_le (by omega)] at HT2
      have HT3 := Lib.hid HT2
      have hlm : ((l.map Sn.td).length ≤ 1000000) := by rw [List.length_map]; have := H20.out; omega
      have hlm2 : ((sortI (l.map Sn.td)).length ≤ 1000000) := by rw [sortI_len]; exact hlm
      have hml : (tmL l).length ≤ 9223372036854775807 := by have := tmL_len l; omega
      have hsz := hu.size
      clear HT2 HT
      go_wp2_with (first
        | (go_at_call 29; refine (sort_own w1.heap.size _ _ _ HT3.out hlm).mono ?_; rintro e w5 ⟨rfl, ho5, hg5⟩; have hv5 := Calm.grownI hv (Nat.le_refl _) HT3.out hg5; have HO5 := Lib.hid ho5; clear ho5 hg5)
        | (go_at_call 30; refine (compact_own w1.heap.size _ _ _ HO5.out hlm2).mono ?_; rintro e w6 ⟨A6, c6, rfl, hl6, hg6⟩; have hv6 := Calm.grownI hv5 (Nat.le_refl _) HO5.out hg6; have HL6 := Lib.hid hl6; clear hl6 hg6))
      go_ret2
      exact ⟨A6, c6, rfl, HL6.out, hu.call hv6⟩
    obtain ⟨b, q, nm, td, rfl, hb, HE, c0, c1⟩ := sn_get (hL.calm (hu.call hv)) hlt
    have hF := td_take HE.out
    have hl1 : ((l.take k).map Sn.td).length ≤ 1000000 := by rw [List.length_map, List.length_take]; have := H20.out; omega
    generalize (l.take k).map Sn.td = M at HT hF hl1
    have hF := Lib.hid hF
    have hl1 := Lib.hid hl1
    have hv2 := (hv.alloc (.cells #[.string nm, .int .i64 td] 35 (0, 0))).alloc (.cells #[.int .i64 td] 3 (0, 0))
    have HT2 := Lib.hid ((HT.out.calm ((Calm.refl wr).alloc (.cells #[.string nm, .int .i64 td] 35 (0, 0)))).calm ((Calm.refl _).alloc (.cells #[.int .i64 td] 3 (0, 0))))
    have hr : ((wr.alloc (.cells #[.string nm, .int .i64 td] 35 (0, 0))).alloc (.cells #[.int .i64 td] 3 (0, 0))).heap[wr.heap.size + 1]? = some (.cells #[.int .i64 td] 3 (0, 0)) := by simpa using heap_new (wr.alloc (.cells #[.string nm, .int .i64 td] 35 (0, 0))) (.cells #[.int .i64 td] 3 (0, 0))
    have hr := Lib.hid hr
    clear HE HT
    go_wp2_with (at_builtin; refine wpList_append_i rfl _ _ rfl w1.heap.size _ _ rfl HT2.out _ _ td _ rfl hr.out hl1.out hv2.size ?_; intro v' w9 ho9 hk9; have HT9 := Lib.hid ho9; have hv9 := hk9 w1 (Nat.le_refl _) hv2; clear ho9 hk9)
    go_roundw
    case rel => exact ⟨k + 1, by omega, by go_num, hv9, show OwnI _ _ _ _ from by rw [hF.out]; exact HT9.out⟩
    case measure => simp [intOf]; omega
open Go.ChangeShapes Go.WideShapes Go.ChangeAt Go.RowKit
section
variable {H : Type} {enc : TypeId × Value → H} {w : World} {base : Nat} {spare : Nat → Bool} {held : Bool}
theorem cellsSnap : Try.prog.cellsOf 35 = 2 := by kernel_rfl
theorem snap_cells {fuel : Nat} {cs : List Value} {x : DataW H × List MemPlace} (h : DataW.trod enc Try.prog w base spare held fuel 35 cs = some x) : ∃ s : Sn, cs = snV s ∧ s.nm.size ≤ maxLen := by
 obtain ⟨y0, y1, n, hd, hl, h0, h1⟩ := trod_struct2 Try.underlying35 h
 obtain ⟨s, e0, _, q0⟩ := DataW.trod_string Try.underlying9 h0
 obtain ⟨i, e1, _, _⟩ := DataW.trod_int Try.underlying3 h1
 simp only [cellsInt, cellsStr, cellsSnap] at e0 e1 hl
 match cs, hl with
 | [c0, c1], _ =>
  simp at e0 e1
  exact ⟨⟨s, i⟩, by rw [e0, e1]; rfl, q0⟩
variable {r : Reach} {b0 : Nat} {v : Value} {d : DataW H} {ps : List MemPlace}
end
def insL {α : Type} (l : List α) (i : Nat) (a : α) : List α := l.take i ++ a :: l.drop i
def delL {α : Type} (l : List α) (i : Nat) : List α := l.take i ++ l.drop (i + 1)
open Go.RowKit
theorem spl_at {cur cs : List Value} {o : Nat} (h : o + cs.length ≤ cur.length) (j : Nat) : (spl cur o cs)[j]? = if j < o then cur[j]? else if j < o + cs.length then cs[j - o]? else cur[j]? := by
 unfold spl
 rw [List.append_assoc, List.getElem?_append, List.length_take, Nat.min_eq_left (by omega)]
 split
 ·rw [List.getElem?_take, if_pos (by assumption)]
 ·rw [List.getElem?_append]
  split
  ·rw [if_pos (by omega)]
  ·rw [if_neg (by omega), List.getElem?_drop]; congr 1; omega
def insC (xs : List Value) (p : Nat) (nc : List Value) : List Value := xs.take p ++ nc ++ xs.drop p
theorem insC_len {xs nc : List Value} {p : Nat} (hp : p ≤ xs.length) : (insC xs p nc).length = xs.length + nc.length := by
 unfold insC; rw [List.length_append, List.length_append, List.length_take, List.length_drop]; omega
theorem insC_at {xs nc : List Value} {p : Nat} (hp : p ≤ xs.length) (j : Nat) : (insC xs p nc)[j]? = if j < p then xs[j]? else if j < p + nc.length then nc[j - p]? else xs[j - nc.length]? := by
 unfold insC
 rw [List.append_assoc, List.getElem?_append, List.length_take, Nat.min_eq_left hp]
 split
 ·rw [List.getElem?_take, if_pos (by assumption)]
 ·rw [List.getElem?_append]
  split
  ·rw [if_pos (by omega)]
  ·rw [if_neg (by omega), List.getElem?_drop]; congr 1; omega
theorem shift_row {cur xs nc : List Value} {p q N : Nat} (hx : xs.length = q) (hc : cur.take q = xs) (hp : p ≤ q) (hn : nc.length = N) (hs : q + N ≤ cur.length) :
    (spl (spl cur (p + N) (xs.drop p)) p nc).take (q + N) = insC xs p nc ∧ (spl (spl cur (p + N) (xs.drop p)) p nc).length = cur.length := by
  have hd : (xs.drop p).length = q - p := by rw [List.length_drop, hx]
  have h1 : (spl cur (p + N) (xs.drop p)).length = cur.length := spl_len (by omega)
  refine ⟨?_, by rw [spl_len (by omega), h1]⟩
  apply List.ext_getElem?
  intro j
  have hcj : ∀ k, k < q → cur[k]? = xs[k]? := fun k hk => by rw [← hc, List.getElem?_take, if_pos hk]
  rw [List.getElem?_take, insC_at (by omega), spl_at (by omega), spl_at (by omega)]
  by_cases hj : j < q + N
  · rw [if_pos hj]
    by_cases h1 : j < p
    · rw [if_pos h1, if_pos h1, if_pos (by omega)]; exact hcj j (by omega)
    · rw [if_neg h1, if_neg h1]
      by_cases h2 : j < p + nc.length
      · rw [if_pos h2, if_pos h2]
      · rw [if_neg h2, if_neg h2, if_neg (by omega), if_pos (by omega), List.getElem?_drop]; congr 1; omega
  · rw [if_neg hj, if_neg (by omega), if_neg (by omega), List.getElem?_eq_none (by omega)]
theorem fresh_row {cur xs nc : List Value} {p q N : Nat} (hx : xs.length = q) (hc : cur.take p = xs.take p) (hp : p ≤ q) (hn : nc.length = N) (hs : q + N ≤ cur.length) :
    (spl (spl cur p nc) (p + N) (xs.drop p)).take (q + N) = insC xs p nc ∧ (spl (spl cur p nc) (p + N) (xs.drop p)).length = cur.length := by
  have hd : (xs.drop p).length = q - p := by rw [List.length_drop, hx]
  have h1 : (spl cur p nc).length = cur.length := spl_len (by omega)
  refine ⟨?_, by rw [spl_len (by omega), h1]⟩
  apply List.ext_getElem?
  intro j
  have hcj : ∀ k, k < p → cur[k]? = xs[k]? := fun k hk => by
    have := congrArg (·[k]?) hc
    simp only [List.getElem?_take, if_pos hk] at this
    exact this
  rw [List.getElem?_take, insC_at (by omega), spl_at (by omega), spl_at (by omega)]
  by_cases hj : j < q + N
  · rw [if_pos hj]
    by_cases h1 : j < p
    · rw [if_pos (by omega), if_pos h1, if_pos h1]; exact hcj j (by omega)
    · rw [if_neg h1, if_neg h1]
      by_cases h2 : j < p + nc.length
      · rw [if_pos h2, if_pos (by omega), if_pos h2]
      · have a1 : ¬ j < p + N := by omega
        have a2 : j < p + N + (xs.drop p).length := by omega
        simp only [if_neg a1, if_pos a2, if_neg h2]
        rw [List.getElem?_drop]; congr 1; omega
  · rw [if_neg hj, if_neg (by omega), if_neg (by omega), List.getElem?_eq_none (by omega)]
def RowEnd (base : Nat) (T : TypeId) (N : Nat) (w : World) (v : Value) (n : Nat) (xs : List Value) (e : Ending) (w' : World) : Prop :=
 ∃ v', e = .returned v' ∧ w'.ownsRow base T N v' n xs ∧ w.grownBy w' v.ownBlock ∧ (v'.ownBlock = v.ownBlock ∨ ∃ k, v'.ownBlock = some k ∧ w.heap.size ≤ k)
open Go.RowKit
def delC (xs : List Value) (p N : Nat) : List Value := xs.take p ++ xs.drop (p + N)
theorem delC_len {xs : List Value} {p N : Nat} (h : p + N ≤ xs.length) : (delC xs p N).length = xs.length - N := by
 unfold delC; rw [List.length_append, List.length_take, List.length_drop]; omega
theorem del_row {cur xs z : List Value} {p q N : Nat} (hx : xs.length = q + N) (hc : cur.take (q + N) = xs) (hp : p ≤ q) (hz : z.length = N) (hs : q + N ≤ cur.length) :
    (spl (spl cur p (xs.drop (p + N))) q z).take q = delC xs p N ∧ (spl (spl cur p (xs.drop (p + N))) q z).length = cur.length := by
  have hl : (xs.drop (p + N)).length = q - p := by rw [List.length_drop]; omega
  have h1 : cur.take p = xs.take p := by rw [← hc, List.take_take]; congr 1; omega
  have hlt : (xs.take p).length = p := by rw [List.length_take]; omega
  have h3 : (spl cur p (xs.drop (p + N))).length = cur.length := spl_len (by omega)
  have h2 : (spl cur p (xs.drop (p + N))).take q = delC xs p N := by
    unfold spl
    rw [h1]
    exact List.take_left' (by rw [List.length_append, hlt, hl]; omega)
  generalize spl cur p (xs.drop (p + N)) = c1 at h2 h3 ⊢
  refine ⟨?_, by rw [spl_len (by omega)]; exact h3⟩
  rw [← h2]
  unfold spl
  rw [List.append_assoc]
  exact List.take_left' (by rw [List.length_take]; omega)
theorem delL_len' {α : Type} {l : List α} {i : Nat} (hi : i < l.length) : (delL l i).length = l.length - 1 := by
 unfold delL; rw [List.length_append, List.length_take, List.length_drop]; omega
end Go.Proofs.Ytibnghapilfgbaa
