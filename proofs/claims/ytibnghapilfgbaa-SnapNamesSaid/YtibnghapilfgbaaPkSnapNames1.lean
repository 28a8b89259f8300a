/- Texts of one kind in one file. -/
import Derived.Below
import Derived.Laws.BitsAll
import Derived.IntWalk
import Derived.Test.YtibnghapilfgbaaRows
import Derived.Handy
import Derived.Deep.Quiet
import Derived.Deep.QuietTactic
import Derived.Laws.Tables
import Derived.StillTail
import Derived.WalkSpells
import Derived.WalkLawsBesides
import Derived.Lib.Hide
import Derived.Deep.RegionWith
import Derived.Deep.RegionHeld3
import Derived.Deep.DeepCutAuto
import Derived.BigQuiet
import Derived.Laws.OwnMore
import Derived.Deep.AppendLies
import Derived.Deep.Draws
import Derived.Laws.BytesArg
import Derived.Laws.MakeOwn
import Derived.Laws.IdiomStrings
import Derived.OwnWalk
import Derived.Lib.AppendStr
import Derived.Deep.Slices
import Derived.ProofKit
import Derived.OpenShut
import Derived.Lib.SmallJoins
import Derived.SizedLaws
import Derived.Deep.LoopGhost
import Derived.Outline
import Derived.Lib.SliceRun
import Derived.Maps.AppendAt
import Derived.RangeFuncNested
import Derived.RangeFuncBound
import Derived.RangeFuncCalls
import Derived.RangeFuncLeaves
import Derived.Shelf.Abstract
import Derived.Shelf.RegionOpen
import Derived.WalkKit
import Derived.OwnWalkIn
import Derived.TacticsInMore
import Derived.LoopNIn
import Derived.LoopIn
import Derived.Deep.AppendSrc
import Derived.Deep.RegionLaw
import Derived.Laws.Externs
import Derived.Lib.AppendZerosOnto
import Derived.Lib.Overlaps
import Derived.Lib.Bytealg
import Derived.Sort.Walk0
import Derived.Test.YtibnghapilfgbaaShelf
import Derived.Sort.OwnSortedInts
set_option maxRecDepth 100000
namespace Go.Proofs.Ytibnghapilfgbaa
def firstErr (f : Nat → Int) : Nat → Int
 | 0 => 0
 |n + 1 => if firstErr f n = 0 then f n else firstErr f n
theorem firstErr_zero {f : Nat → Int} : ∀ {n : Nat}, firstErr f n = 0 ↔ ∀ i, i < n → f i = 0
 | 0 => by simp [firstErr]
 |n + 1 => by
  have ih := firstErr_zero (f := f) (n := n)
  unfold firstErr
  constructor
  ·intro h i hi
   by_cases h0 : firstErr f n = 0
   ·rw [if_pos h0] at h
    rcases Nat.lt_or_ge i n with h1 | h1
    ·exact ih.1 h0 i h1
    ·rw [show i = n by omega]; exact h
   ·rw [if_neg h0] at h; exact absurd h h0
  ·intro h
   rw [if_pos (ih.2 fun i hi => h i (by omega))]
   exact h n (by omega)
theorem firstErr_at {f : Nat → Int} {k n : Nat} (h : ∀ i, i < k → f i = 0) (hk : f k ≠ 0) (hn : k < n) : firstErr f n = f k := by
 induction n with
 |zero => omega
 |succ n ih =>
  unfold firstErr
  rcases Nat.lt_or_ge k n with h1 | h1
  ·rw [if_neg (by rw [ih h1]; exact hk), ih h1]
  ·rw [show n = k by omega, if_pos (firstErr_zero.2 h)]
open Go.RowKit
def Calm (w w' : World) : Prop := Below w.heap.size w w'
theorem Calm.refl (w : World) : Calm w w := Below.refl _ _
theorem Calm.alloc {a w : World} (h : Calm a w) (o : Obj) : Calm a (w.alloc o) := Below.alloc h (Below.size h) o
theorem Calm.drew {a w : World} (h : Calm a w) : Calm a w.drew := Below.drew h
theorem Calm.of_drew {a w : World} (h : Calm a.drew w) : Calm a w := Below.trans (Calm.refl a).drew h
theorem Calm.setRow {a w : World} (h : Calm a w) {g : Nat} (hg : a.heap.size ≤ g) (cs : Array Value) : Calm a (w.setRow g cs) :=
 Below.trans h ⟨rfl, rfl, rfl, by simp, fun k hk => setRow_other w g k cs (by omega)⟩
theorem Calm.call {a w w1 : World} (h : Calm a w) (hb : Calm w w1) : Calm a w1 := Below.trans h (Below.mono hb (Below.size h))
theorem Calm.size {a w : World} (h : Calm a w) : a.heap.size ≤ w.heap.size := Below.size h
theorem Calm.block {a w : World} (h : Calm a w) {k : Nat} (hk : k < a.heap.size) : w.heap[k]? = a.heap[k]? := Below.block h k hk
/-- Of such a call: cells, marks, how many blocks. -/
theorem Calm.facts {W w1 : World} (hb : Calm W w1) : (∀ b o, b < W.heap.size → w1.cell? ⟨b, o, none⟩ = W.cell? ⟨b, o, none⟩) ∧ (∀ b o, b < W.heap.size → w1.frozen? ⟨b, o, none⟩ = W.frozen? ⟨b, o, none⟩) ∧ (∀ n : Nat, n < W.heap.size → n < w1.heap.size ∧ n < w1.heap.size + 1 ∧ n < w1.heap.size + 1 + 1 ∧ n < w1.heap.size + 1 + 1 + 1 ∧ n < w1.heap.size + 1 + 1 + 1 + 1) :=
 ⟨fun b o h => Below.cell hb (p := ⟨b, o, none⟩) h, fun b o h => Below.frozen hb (p := ⟨b, o, none⟩) h, fun _ h => by have := Below.size hb; omega⟩
section
variable {P : Program} {ops : Array Oper} {Q : Exit → Act → World → Prop} {md : Region.Mode}
def unlisted (listed : Array Bool) : Nat := listed.toList.countP (· == false)
theorem unlisted_set {listed : Array Bool} {i : Nat} (h : listed.getD i true = false) : unlisted (listed.setIfInBounds i true) + 1 = unlisted listed := by
 have hi : i < listed.size := by
  rcases Nat.lt_or_ge i listed.size with h' | h'
  ·exact h'
  ·simp [Array.getElem?_eq_none h'] at h
 have hv : listed[i] = false := by simpa [hi] using h
 have hm : false ∈ listed.toList := by rw [← hv]; simp
 have hpos : 0 < listed.toList.countP (· == false) := List.countP_pos_iff.2 ⟨false, hm, rfl⟩
 have hl : listed.toList[i]'(by simpa using hi) = false := by simpa using hv
 unfold unlisted
 rw [Array.toList_setIfInBounds, List.countP_set (by simpa using hi), hl]
 simp only [beq_self_eq_true, if_true, show ((true == false) = false) from rfl, Bool.false_eq_true, if_false]
 omega
theorem wpAny_inv (J : Array Bool → Act → World → Prop)
    (hstep : ∀ (listed : Array Bool) (a : Act) (w : World) (i : Nat), J listed a w → i ∈ Region.ready md ops listed → wpOp P ops Q i (fun a' w' => J (listed.setIfInBounds i true) a' w') a w)
    (hend : ∀ (listed : Array Bool) (a : Act) (w : World), J listed a w → Region.ready md ops listed = [] → Q .normal a w) :
    ∀ (fuel : Nat) (listed : Array Bool) (a : Act) (w : World), unlisted listed ≤ fuel → J listed a w → wpAny P md ops Q fuel listed a w
  | 0, listed, a, w, hf, hj => by
    have hr : Region.ready md ops listed = [] := by
      cases h : Region.ready md ops listed with
      | nil => rfl
      | cons i r =>
        have hm : i ∈ Region.ready md ops listed := by rw [h]; simp
        have := unlisted_set (mem_ready.1 hm).1
        omega
    exact ⟨hr, hend _ _ _ hj hr⟩
  | fuel + 1, listed, a, w, hf, hj => by
    refine ⟨fun h0 => hend _ _ _ hj h0, fun i hi => ?_⟩
    have := unlisted_set (mem_ready.1 hi).1
    exact wpOp_mono (fun a' w' h => wpAny_inv J hstep hend fuel _ a' w' (by omega) h) (hstep _ _ _ _ hj hi)
inductive Does where
 |val (v : Value)
 |idle
 |new (z : Array Value) (t : TypeId) (kd : Option Nat := none)
 |fill (k : Nat) (cs : Array Value)
 |look (k : Nat) (v : Value)
def newOut (b : Nat) : Option Nat → Value
 |none => .pointer (some ⟨b, 0, none⟩)
 |some n => .slice (some ⟨b, 0, none⟩) n n
def Does.out (X : Nat → Nat) (i : Nat) : Does → Value
 | .val v => v
 | .idle => undef
 | .new _ _ kd => newOut (X i) kd
 | .fill _ _ => undef
 | .look _ v => v
def noFillB (p : List Does) (k : Nat) : Bool := p.all fun d => match d with | .fill m _ => m != k | _ => true
theorem noFillB_spec {p : List Does} {k : Nat} (h : noFillB p k = true) {j : Nat} {cs : Array Value} : p[j]? ≠ some (.fill k cs) := fun hj => by
 have := List.all_eq_true.1 h _ (List.mem_of_getElem? hj)
 simp at this
def Does.fits (P : Program) (ops : Array Oper) (w0 : World) (X : Nat → Nat) (p : List Does) (o : Oper) (a : Act) : Does → Prop
  | .val v => Region.wanted o (yielded ops a.tmps) = true ∧ ∀ w, Calm w0 w → Oper.quietUpon P (Calm w) w v ((execOp a.eval o).run P w)
  | .idle => Region.wanted o (yielded ops a.tmps) = false
  | .new z t kd => Region.wanted o (yielded ops a.tmps) = true ∧ ∀ w, (execOp a.eval o).run P w = .ok (.value (newOut w.heap.size kd)) (w.alloc (.cells z t))
  | .fill k cs => Region.wanted o (yielded ops a.tmps) = true ∧ o.dst = none ∧ o.after.any (fun e => Region.binds .any e && e.on == k) = true ∧ ∃ z t kd, p[k]? = some (.new z t kd) ∧
      ∀ w, w.heap[X k]? = some (.cells z t (0, 0)) → (execOp a.eval o).run P w = .ok .skip (w.setRow (X k) cs) ∨ (execOp a.eval o).run P w = .ok (.value undef) (w.setRow (X k) cs)
  | .look k v => Region.wanted o (yielded ops a.tmps) = true ∧ o.after.any (fun e => Region.binds .any e && e.on == k) = true ∧ ∃ z t kd, p[k]? = some (.new z t kd) ∧ noFillB p k = true ∧
      ∀ w, Calm w0 w → w.heap[X k]? = some (.cells z t (0, 0)) → Oper.quietUpon P (Calm w) w v ((execOp a.eval o).run P w)
def Plan (P : Program) (ops : Array Oper) (w0 : World) (X : Nat → Nat) (p : List Does) (R : Act → Prop) : Nat → List Oper → List Does → Act → Prop
 |_, [], [], a => R a
 |i, o :: os, d :: ds, a => d.fits P ops w0 X p o a ∧ Plan P ops w0 X p R (i + 1) os ds (a.put o.dst (d.out X i))
 |_, _, _, _ => False
def planB (ops : Array Oper) : Bool :=
  Region.noSelect ops && (List.range ops.size).all fun j => match ops[j]? with
    | none => true
    | some o => o.after.all (fun e => !Region.binds .any e || decide (e.on < j)) &&
        (List.range ops.size).all fun i => match ops[i]? with
          | none => true
          | some x => match x.dst with
            | none => true
            | some d => (!(o.looksAt ops).contains d || (decide (i < j) && o.after.any (fun e => Region.binds .any e && e.on == i))) && (i == j || o.dst != some d)
def rowNow (p : List Does) (listed : Array Bool) (k : Nat) (z : Array Value) : Array Value :=
 match (List.range p.length).findSome? (fun j => if listed.getD j false then (match p[j]? with | some (.fill m cs) => if m == k then some cs else none | _ => none) else none) with
 |some cs => cs
 |none => z
def fillsB (p : List Does) : Bool :=
 (List.range p.length).all fun i => (List.range p.length).all fun j => i == j || match p[i]?, p[j]? with
  |some (.fill m _), some (.fill n _) => m != n
  |_, _ => true
/-- Two frames that hold the same wherever an operation looks: it does the same. -/
theorem same_look {o : Oper} (hs : ∀ cs b, o.op ≠ .select cs b) {a b : Act} (h : ∀ t ∈ o.looksAt ops, a.tmps[t]? = b.tmps[t]?) :
    execOp a.eval o = execOp b.eval o ∧ Region.wanted o (yielded ops a.tmps) = Region.wanted o (yielded ops b.tmps) := by
  constructor
  · refine execOp_congr o hs fun x hx => ?_
    cases x with
    | tmp t =>
      have : t ∈ o.looksAt ops := List.mem_append_left _ (List.mem_filterMap.2 ⟨.tmp t, by simpa using hx, rfl⟩)
      have h1 := h t this
      simp [Act.eval, h1]
    | _ => rfl
  · unfold Region.wanted
    cases hg : o.guard with
    | none => rfl
    | some gw =>
      obtain ⟨g, want⟩ := gw
      have : yielded ops a.tmps g = yielded ops b.tmps g := by
        unfold yielded
        cases ht : (ops[g]?).bind (·.dst) with
        | none => rfl
        | some t =>
          have h1 := h t (by simp [Oper.looksAt, hg, ht])
          simp [h1]
      simp only [this]
theorem put_get (a : Act) (d : Option Tmp) (v : Value) (t : Nat) : (a.put d v).tmps[t]? = if d = some t ∧ t < a.tmps.size then some v else a.tmps[t]? := by
 cases d with
 |none => simp [Act.put]
 |some d =>
  simp only [Act.put, Array.getElem?_setIfInBounds, Option.some.injEq]
  by_cases h : d = t
  ·subst h
   by_cases h2 : d < a.tmps.size
   ·simp [h2]
   ·simp [h2]
  ·simp [h]
theorem put_size (a : Act) (d : Option Tmp) (v : Value) : (a.put d v).tmps.size = a.tmps.size := by cases d <;> simp [Act.put]
theorem put_def (a : Act) (d : Option Tmp) (v : Value) : (a.put d v).defers = a.defers := by cases d <;> simp [Act.put]
structure Agree (ops : Array Oper) (p : List Does) (a0 : Act) (X : Nat → Nat) (S : Nat → Prop) (a : Act) : Prop where
 defers : a.defers = a0.defers
 size : a.tmps.size = a0.tmps.size
 put : ∀ i o d t, ops[i]? = some o → p[i]? = some d → S i → o.dst = some t → t < a0.tmps.size → a.tmps[t]? = some (d.out X i)
 old : ∀ t, (∀ i o, ops[i]? = some o → S i → o.dst ≠ some t) → a.tmps[t]? = a0.tmps[t]?
structure Sound (ops : Array Oper) : Prop where
 noSelect : ∀ (j : Nat) (o : Oper) cs b, ops[j]? = some o → o.op ≠ .select cs b
 before : ∀ (j : Nat) (o : Oper) (e : Edge), ops[j]? = some o → e ∈ o.after → Region.binds .any e = true → e.on < j
 looks : ∀ (j i : Nat) (o x : Oper) (d : Tmp), ops[j]? = some o → ops[i]? = some x → x.dst = some d → d ∈ o.looksAt ops → i < j ∧ ∃ e ∈ o.after, Region.binds .any e = true ∧ e.on = i
 apart : ∀ (j i : Nat) (o x : Oper) (d : Tmp), ops[j]? = some o → ops[i]? = some x → x.dst = some d → o.dst = some d → i = j
theorem planB_sound (h : planB ops = true) : Sound ops := by
 simp only [planB, Bool.and_eq_true, List.all_eq_true, List.mem_range] at h
 obtain ⟨h1, h2⟩ := h
 have lt : ∀ {j : Nat} {o : Oper}, ops[j]? = some o → j < ops.size := fun ho => (Array.getElem?_eq_some_iff.1 ho).1
 refine ⟨fun j o cs b ho => Region.noSelect_spec h1 j o cs b ho, fun j o e ho he hb => ?_, fun j i o x d ho hx hd hl => ?_, fun j i o x d ho hx hd hod => ?_⟩
 ·have := h2 j (lt ho)
  simp only [ho, Bool.and_eq_true, Array.all_eq_true_iff_forall_mem] at this
  have h3 := this.1 e he
  simpa [hb] using h3
 ·have := h2 j (lt ho)
  simp only [ho, Bool.and_eq_true, List.all_eq_true, List.mem_range] at this
  have h3 := this.2 i (lt hx)
  simp only [hx, hd, Bool.and_eq_true] at h3
  have h4 := h3.1
  rw [List.contains_iff_mem.2 hl] at h4
  simp only [Bool.not_true, Bool.false_or, Bool.and_eq_true, decide_eq_true_eq] at h4
  obtain ⟨e, he, hb⟩ := Array.any_eq_true'.1 h4.2
  simp only [Bool.and_eq_true, beq_iff_eq] at hb
  exact ⟨h4.1, e, he, hb⟩
 ·have := h2 j (lt ho)
  simp only [ho, Bool.and_eq_true, List.all_eq_true, List.mem_range] at this
  have h3 := this.2 i (lt hx)
  simp only [hx, hd, Bool.and_eq_true] at h3
  have h4 := h3.2
  simpa [hod] using h4
/-- One operation more. -/
theorem Agree.step {p : List Does} {a0 : Act} {X : Nat → Nat} {S T : Nat → Prop} {a : Act} (hs : Sound ops) (h : Agree ops p a0 X S a) {j : Nat} {o : Oper} {d : Does} (ho : ops[j]? = some o) (hd : p[j]? = some d)
    (hT : ∀ i, T i ↔ (S i ∨ i = j)) : Agree ops p a0 X T (a.put o.dst (d.out X j)) := by
  refine ⟨by rw [put_def, h.defers], by rw [put_size, h.size], fun i oi di t hoi hdi hi ht hlt => ?_, fun t ht => ?_⟩
  · rw [put_get]
    rcases (hT i).1 hi with hi | rfl
    · by_cases hc : o.dst = some t ∧ t < a.tmps.size
      · rw [if_pos hc]
        obtain rfl := hs.apart j i o oi t ho hoi ht hc.1
        rw [hd] at hdi
        cases hdi
        rfl
      · rw [if_neg hc]
        exact h.put i oi di t hoi hdi hi ht hlt
    · rw [ho] at hoi; cases hoi
      rw [hd] at hdi; cases hdi
      rw [if_pos ⟨ht, by rw [h.size]; exact hlt⟩]
  · rw [put_get, if_neg (fun hc => ht j o ho ((hT j).2 (Or.inr rfl)) hc.1)]
    exact h.old t fun i oi hoi hi => ht i oi hoi ((hT i).2 (Or.inl hi))
/-- Off the plan: what each operation does in a frame of the text's order, and the frame at the end. -/
theorem plan_get {w0 : World} {X : Nat → Nat} {p : List Does} {a0 : Act} {R : Act → Prop} (hs : Sound ops) : ∀ (os : List Oper) (ds : List Does) (i : Nat) (a : Act), os = ops.toList.drop i → ds = p.drop i →
    Agree ops p a0 X (· < i) a → Plan P ops w0 X p R i os ds a →
    (∀ j o, i ≤ j → ops[j]? = some o → ∃ d b, p[j]? = some d ∧ Agree ops p a0 X (· < j) b ∧ d.fits P ops w0 X p o b) ∧ (∃ b, Agree ops p a0 X (· < ops.size) b ∧ R b) ∧ (i ≤ ops.size → i ≤ p.length → p.length = ops.size)
  | [], [], i, a, hos, hds, ha, h => by
    have hl : ops.size ≤ i := by have := congrArg List.length hos; simp at this; omega
    refine ⟨fun j o hj hoj => ?_, ⟨a, ⟨ha.defers, ha.size, fun k o d t ho hd hk ht hlt => ha.put k o d t ho hd (by omega) ht hlt, fun t ht => ha.old t fun k o ho hk => ht k o ho ?_⟩, h⟩, fun hi hi2 => ?_⟩
    · have := (Array.getElem?_eq_some_iff.1 hoj).1; omega
    · exact (Array.getElem?_eq_some_iff.1 ho).1
    · have := congrArg List.length hds; simp at this; omega
  | [], d :: ds, i, a, _, _, _, h => absurd h (by simp [Plan])
  | o :: os, [], i, a, _, _, _, h => absurd h (by simp [Plan])
  | o :: os, d :: ds, i, a, hos, hds, ha, h => by
    have hlen : i < ops.size := by have := congrArg List.length hos; simp at this; omega
    have ho : ops[i]? = some o := by
      have := congrArg (·[0]?) hos
      simpa using this.symm
    have hd : p[i]? = some d := by
      have := congrArg (·[0]?) hds
      simpa using this.symm
    have hos' : os = ops.toList.drop (i + 1) := by rw [← List.tail_drop, ← hos]; rfl
    have hds' : ds = p.drop (i + 1) := by rw [← List.tail_drop, ← hds]; rfl
    obtain ⟨h1, h2⟩ := h
    have hplen : i < p.length := by have := congrArg List.length hds; simp at this; omega
    obtain ⟨g1, g2, g3⟩ := plan_get hs os ds (i + 1) (a.put o.dst (d.out X i)) hos' hds' (ha.step hs ho hd (fun k => by omega)) h2
    refine ⟨fun j oj hj hoj => ?_, g2, fun _ _ => g3 (by omega) (by omega)⟩
    rcases Nat.eq_or_lt_of_le hj with rfl | hj
    · rw [ho] at hoj; cases hoj
      exact ⟨d, a, hd, ha, h1⟩
    · exact g1 j oj hj hoj
theorem rowNow_same {p : List Does} {listed : Array Bool} {j k : Nat} {z : Array Value} (h : ∀ m cs, p[j]? = some (.fill m cs) → m ≠ k) : rowNow p (listed.setIfInBounds j true) k z = rowNow p listed k z := by
 unfold rowNow
 have : (fun i => if (listed.setIfInBounds j true).getD i false then (match p[i]? with | some (Does.fill m cs) => if m == k then some cs else none | _ => none) else none) = (fun i => if listed.getD i false then (match p[i]? with | some (Does.fill m cs) => if m == k then some cs else none | _ => none) else none) := by
  funext i
  by_cases hij : j = i
  ·subst hij
   have hn : (match p[j]? with | some (Does.fill m cs) => if m == k then some cs else none | _ => none) = none := by
    cases hp : p[j]? with
    |none => rfl
    |some d =>
     cases d with
     |fill m cs => simp [h m cs hp]
     |_ => rfl
   simp only [hn, ite_self]
  ·rw [getD_set_ne false hij]
 rw [this]
theorem fillsB_spec {p : List Does} (h : fillsB p = true) {i j m : Nat} {cs cs' : Array Value} (hi : p[i]? = some (.fill m cs)) (hj : p[j]? = some (.fill m cs')) : i = j := by
 simp only [fillsB, List.all_eq_true, List.mem_range] at h
 have := h i (List.getElem?_eq_some_iff.1 hi).1 j (List.getElem?_eq_some_iff.1 hj).1
 simpa [hi, hj] using this
theorem rowNow_fill {p : List Does} (h : fillsB p = true) {listed : Array Bool} {j k : Nat} {z cs : Array Value} (hj : p[j]? = some (.fill k cs)) (hl : listed.getD j false = true) : rowNow p listed k z = cs := by
 unfold rowNow
 have hjl : j < p.length := (List.getElem?_eq_some_iff.1 hj).1
 have hsome : ((List.range p.length).findSome? (fun j => if listed.getD j false then (match p[j]? with | some (Does.fill m cs) => if m == k then some cs else none | _ => none) else none)).isSome = true := by
  rw [List.findSome?_isSome_iff]
  exact ⟨j, List.mem_range.2 hjl, by simp only [hl, if_true, hj]; simp⟩
 cases hf : (List.range p.length).findSome? (fun j => if listed.getD j false then (match p[j]? with | some (Does.fill m cs) => if m == k then some cs else none | _ => none) else none) with
 |none => rw [hf] at hsome; cases hsome
 |some c =>
  obtain ⟨i, hi, he⟩ := List.exists_of_findSome?_eq_some hf
  simp only
  split at he
  ·split at he
   ·rename_i m c' hp
    split at he
    ·rename_i hm
     cases he
     have hm' : m = k := by simpa using hm
     subst hm'
     obtain rfl := fillsB_spec h hj hp
     rw [hj] at hp
     cases hp
     rfl
    ·cases he
   ·cases he
  ·cases he
theorem rowNow_none {p : List Does} {listed : Array Bool} {k : Nat} {z : Array Value} (h : ∀ j cs, p[j]? = some (.fill k cs) → listed.getD j false = false) : rowNow p listed k z = z := by
 unfold rowNow
 cases hf : (List.range p.length).findSome? (fun j => if listed.getD j false then (match p[j]? with | some (Does.fill m cs) => if m == k then some cs else none | _ => none) else none) with
 |none => rfl
 |some c =>
  obtain ⟨i, hi, he⟩ := List.exists_of_findSome?_eq_some hf
  split at he
  ·rename_i hl
   split at he
   ·rename_i m c' hp
    split at he
    ·rename_i hm
     have hm' : m = k := by simpa using hm
     subst hm'
     rw [h i c' hp] at hl
     cases hl
    ·cases he
   ·cases he
  ·cases he
structure Rows0 (p : List Does) (w0 : World) (X : Nat → Nat) (listed : Array Bool) (w : World) : Prop where
 calm : Calm w0 w
 row : ∀ i z t {kd}, p[i]? = some (.new z t kd) → listed.getD i false = true → w0.heap.size ≤ X i ∧ w.heap[X i]? = some (.cells (rowNow p listed i z) t (0, 0))
 apart : ∀ i j z t z' t' {kd kd'}, p[i]? = some (.new z t kd) → p[j]? = some (.new z' t' kd') → listed.getD i false = true → listed.getD j false = true → i ≠ j → X i ≠ X j
structure Inv (ops : Array Oper) (p : List Does) (a0 : Act) (w0 : World) (X : Nat → Nat) (listed : Array Bool) (a : Act) (w : World) : Prop where
 size : listed.size = ops.size
 act : Agree ops p a0 X (fun i => listed.getD i false = true) a
 rows : Rows0 p w0 X listed w
 down : ∀ i o e, ops[i]? = some o → listed.getD i false = true → e ∈ o.after → Region.binds .any e = true → listed.getD e.on false = true
theorem getD_set_iff {listed : Array Bool} {i j : Nat} (hi : i < listed.size) : (listed.setIfInBounds i true).getD j false = true ↔ (listed.getD j false = true ∨ j = i) := by
 by_cases h : i = j
 ·subst h; simp [hi]
 ·rw [getD_set_ne false h]
  exact ⟨Or.inl, fun h' => h'.resolve_right (fun e => h e.symm)⟩
theorem Inv.step {p : List Does} {a0 : Act} {w0 : World} {R : (Nat → Nat) → Act → Prop} {Q : Exit → Act → World → Prop} (hs : Sound ops) (hf : fillsB p = true)
    (hp : ∀ X, Plan P ops w0 X p (R X) 0 ops.toList p a0) {X : Nat → Nat} {listed : Array Bool} {a : Act} {w : World} {j : Nat} (h : Inv ops p a0 w0 X listed a w) (hj : j ∈ Region.ready .any ops listed) :
    wpOp P ops Q j (fun a' w' => ∃ X', Inv ops p a0 w0 X' (listed.setIfInBounds j true) a' w') a w := by
  obtain ⟨hun, o, ho, hall⟩ := mem_ready.1 hj
  have hjs : j < listed.size := by rw [h.size]; exact (Array.getElem?_eq_some_iff.1 ho).1
  have hnl : listed.getD j false = false := by
    rw [Array.getD_eq_getD_getElem?] at hun ⊢
    rw [Array.getElem?_eq_getElem hjs] at hun ⊢
    simpa using hun
  obtain ⟨g1, _, g3⟩ := plan_get (X := X) hs ops.toList p 0 a0 rfl rfl ⟨rfl, rfl, fun i o d t _ _ hi => absurd hi (Nat.not_lt_zero _), fun t _ => rfl⟩ (hp X)
  obtain ⟨d, b, hd, hb, hfit⟩ := g1 j o (Nat.zero_le _) ho
  have hlook : ∀ t ∈ o.looksAt ops, a.tmps[t]? = b.tmps[t]? := fun t ht => by
    by_cases hw : ∃ (i : Nat) (x : Oper), ops[i]? = some x ∧ x.dst = some t
    · obtain ⟨i, x, hx, hxt⟩ := hw
      obtain ⟨hij, e, he, hbe, rfl⟩ := hs.looks j i o x t ho hx hxt ht
      have hli := hall e he hbe
      have hpi : ∃ di, p[e.on]? = some di := by
        have := g3 (Nat.zero_le _) (Nat.zero_le _)
        have hlt : e.on < p.length := by rw [this]; exact (Array.getElem?_eq_some_iff.1 hx).1
        exact ⟨p[e.on], List.getElem?_eq_getElem hlt⟩
      obtain ⟨di, hdi⟩ := hpi
      by_cases hlt : t < a0.tmps.size
      · rw [h.act.put e.on x di t hx hdi hli hxt hlt, hb.put e.on x di t hx hdi hij hxt hlt]
      · have e1 : a.tmps[t]? = none := Array.getElem?_eq_none (by rw [h.act.size]; exact Nat.le_of_not_lt hlt)
        have e2 : b.tmps[t]? = none := Array.getElem?_eq_none (by rw [hb.size]; exact Nat.le_of_not_lt hlt)
        rw [e1, e2]
    · have hno : ∀ (i : Nat) (x : Oper), ops[i]? = some x → x.dst ≠ some t := fun i x hx hxt => hw ⟨i, x, hx, hxt⟩
      rw [h.act.old t fun i x hx _ => hno i x hx, hb.old t fun i x hx _ => hno i x hx]
  obtain ⟨hex, hwant⟩ := same_look (hs.noSelect j o · · ho) hlook
  have hdown : ∀ i o' e, ops[i]? = some o' → (listed.setIfInBounds j true).getD i false = true → e ∈ o'.after → Region.binds .any e = true → (listed.setIfInBounds j true).getD e.on false = true := fun i o' e ho' hi he hbe => by
    rcases (getD_set_iff hjs).1 hi with hi | rfl
    · exact getD_set_true (h.down i o' e ho' hi he hbe)
    · rw [ho] at ho'; cases ho'
      exact getD_set_true (hall e he hbe)
  have hact : ∀ Y : Nat → Nat, (∀ i, i ≠ j → Y i = X i) → Agree ops p a0 Y (fun i => (listed.setIfInBounds j true).getD i false = true) (a.put o.dst (d.out Y j)) := fun Y hY => by
    have ha : Agree ops p a0 Y (fun i => listed.getD i false = true) a := ⟨h.act.defers, h.act.size, fun i oi di t hoi hdi hi ht hlt => by
      have hij : i ≠ j := fun e => by subst e; rw [hnl] at hi; cases hi
      rw [h.act.put i oi di t hoi hdi hi ht hlt]
      cases di <;> simp [Does.out, hY i hij], h.act.old⟩
    exact ha.step hs ho hd fun i => getD_set_iff hjs
  have rowsSame : ∀ w', Calm w w' → (∀ z t kd, d ≠ .new z t kd) → (∀ k cs, d ≠ .fill k cs) → Rows0 p w0 X (listed.setIfInBounds j true) w' := fun w' hw' hdn hdf => by
    have hne : ∀ i z t kd, p[i]? = some (.new z t kd) → (listed.setIfInBounds j true).getD i false = true → listed.getD i false = true := fun i z t kd hi hl => by
      rcases (getD_set_iff hjs).1 hl with hl | rfl
      · exact hl
      · rw [hd] at hi; cases hi; exact absurd rfl (hdn z t kd)
    refine ⟨h.rows.calm.call hw', fun i z t kd hi hl => ?_, fun i k z t z' t' kd kd' hi hk hl hl' hik => h.rows.apart i k z t z' t' hi hk (hne i z t kd hi hl) (hne k z' t' kd' hk hl') hik⟩
    obtain ⟨r1, r2⟩ := h.rows.row i z t hi (hne i z t kd hi hl)
    refine ⟨r1, ?_⟩
    rw [rowNow_same fun m cs hm => by rw [hd] at hm; cases hm; exact absurd rfl (hdf m cs)]
    rw [hw'.block (Array.getElem?_eq_some_iff.1 r2).1, r2]
  unfold wpOp
  simp only [ho]
  cases d with
  | val v =>
    obtain ⟨f1, f2⟩ := hfit
    rw [hwant, f1, if_pos rfl]
    left
    unfold Oper.wp
    rw [hex]
    have f3 := f2 w h.rows.calm
    have fin : ∀ w', Calm w w' → ∃ X', Inv ops p a0 w0 X' (listed.setIfInBounds j true) (a.put o.dst v) w' := fun w' hw' =>
      ⟨X, by simp [h.size], hact X fun _ _ => rfl, rowsSame w' hw' (fun _ _ _ e => by cases e) (fun _ _ e => by cases e), hdown⟩
    generalize (execOp b.eval o).run P w = r at *
    cases r with
    | ok n w' =>
      cases n <;> simp only [Oper.quietUpon] at f3 <;> simp only [Oper.upon]
      case value u => obtain ⟨e1, e2⟩ := f3; rw [e1, e2]; exact fin w (Calm.refl w)
      case skip => obtain ⟨e1, e2⟩ := f3; rw [e1, ← e2]; exact fin w (Calm.refl w)
      case enter f args =>
        obtain ⟨e1, hc⟩ := f3
        rw [e1]
        exact hc.mono fun e w'' ⟨he, hw''⟩ => by subst he; exact fin w'' hw''
    | halt x w' => simp only [Oper.quietUpon] at f3
  | look k v =>
    obtain ⟨f1, f3, z, t, kd, hk, hnf, f2⟩ := hfit
    rw [hwant, f1, if_pos rfl]
    left
    obtain ⟨e, he, hbe⟩ := Array.any_eq_true'.1 f3
    simp only [Bool.and_eq_true, beq_iff_eq] at hbe
    have hlk : listed.getD k false = true := by rw [← hbe.2]; exact hall e he hbe.1
    obtain ⟨r1, r2⟩ := h.rows.row k z t hk hlk
    rw [rowNow_none fun m cs' hm => absurd hm (noFillB_spec hnf)] at r2
    unfold Oper.wp
    rw [hex]
    have f4 := f2 w h.rows.calm r2
    have fin : ∀ w', Calm w w' → ∃ X', Inv ops p a0 w0 X' (listed.setIfInBounds j true) (a.put o.dst v) w' := fun w' hw' =>
      ⟨X, by simp [h.size], hact X fun _ _ => rfl, rowsSame w' hw' (fun _ _ _ e => by cases e) (fun _ _ e => by cases e), hdown⟩
    generalize (execOp b.eval o).run P w = r at *
    cases r with
    | ok n w' =>
      cases n <;> simp only [Oper.quietUpon] at f4 <;> simp only [Oper.upon]
      case value u => obtain ⟨e1, e2⟩ := f4; rw [e1, e2]; exact fin w (Calm.refl w)
      case skip => obtain ⟨e1, e2⟩ := f4; rw [e1, ← e2]; exact fin w (Calm.refl w)
      case enter f args =>
        obtain ⟨e1, hc⟩ := f4
        rw [e1]
        exact hc.mono fun e w'' ⟨he, hw''⟩ => by subst he; exact fin w'' hw''
    | halt x w' => simp only [Oper.quietUpon] at f4
  | idle =>
    have f1 : Region.wanted o (yielded ops b.tmps) = false := hfit
    rw [hwant, f1, if_neg (by simp)]
    exact ⟨X, by simp [h.size], hact X fun _ _ => rfl, rowsSame w (Calm.refl w) (fun _ _ _ e => by cases e) (fun _ _ e => by cases e), hdown⟩
  | new z t kd =>
    obtain ⟨f1, f2⟩ := hfit
    rw [hwant, f1, if_pos rfl]
    left
    unfold Oper.wp
    rw [hex, f2 w]
    simp only [Oper.upon]
    let Y : Nat → Nat := fun i => if i = j then w.heap.size else X i
    have hYj : Y j = w.heap.size := by simp [Y]
    have hY : ∀ i, i ≠ j → Y i = X i := fun i hi => by simp [Y, hi]
    have ha := hact Y hY
    simp only [Does.out, hYj] at ha
    have hcw := h.rows.calm
    refine ⟨Y, by simp [h.size], ha, ⟨hcw.alloc _, fun i z' t' _ hi hl => ?_, fun i k z1 t1 z2 t2 _ _ hi hk hl hl' hik => ?_⟩, hdown⟩
    · rcases (getD_set_iff hjs).1 hl with hl1 | rfl
      · have hij : i ≠ j := fun e => by subst e; rw [hnl] at hl1; cases hl1
        obtain ⟨r1, r2⟩ := h.rows.row i z' t' hi hl1
        rw [hY i hij, rowNow_same fun m cs hm => by rw [hd] at hm; cases hm]
        exact ⟨r1, by rw [Below.heap_alloc _ _ _ (Array.getElem?_eq_some_iff.1 r2).1, r2]⟩
      · rw [hd] at hi; cases hi
        refine ⟨by rw [hYj]; exact hcw.size, ?_⟩
        rw [hYj, rowNow_none]
        · show (w.heap.push _)[w.heap.size]? = _
          simp
        · intro m cs hm
          cases hl2 : (listed.setIfInBounds i true).getD m false with
          | false => rfl
          | true =>
            have hlt : m < ops.size := by
              have := g3 (Nat.zero_le _) (Nat.zero_le _)
              rw [← this]; exact (List.getElem?_eq_some_iff.1 hm).1
            obtain ⟨dm, bm, hdm, _, hfm⟩ := g1 m ops[m] (Nat.zero_le _) (Array.getElem?_eq_getElem hlt)
            rw [hm] at hdm; cases hdm
            obtain ⟨_, _, haf, _⟩ := hfm
            obtain ⟨e, he, hbe⟩ := Array.any_eq_true'.1 haf
            simp only [Bool.and_eq_true, beq_iff_eq] at hbe
            have hmi : m ≠ i := fun e' => by subst e'; rw [hd] at hm; cases hm
            have hlm : listed.getD m false = true := ((getD_set_iff hjs).1 hl2).resolve_right hmi
            have := h.down m ops[m] e (Array.getElem?_eq_getElem hlt) hlm he hbe.1
            rw [hbe.2, hnl] at this
            cases this
    · have key : ∀ i z t kd, p[i]? = some (.new z t kd) → listed.getD i false = true → X i < w.heap.size := fun i z t _ hi hl => (Array.getElem?_eq_some_iff.1 (h.rows.row i z t hi hl).2).1
      rcases (getD_set_iff hjs).1 hl with hl1 | rfl
      · have hij : i ≠ j := fun e => by subst e; rw [hnl] at hl1; cases hl1
        rcases (getD_set_iff hjs).1 hl' with hl2 | rfl
        · have hkj : k ≠ j := fun e => by subst e; rw [hnl] at hl2; cases hl2
          rw [hY i hij, hY k hkj]
          exact h.rows.apart i k z1 t1 z2 t2 hi hk hl1 hl2 hik
        · rw [hY i hij, hYj]
          have := key i z1 t1 _ hi hl1
          omega
      · rcases (getD_set_iff hjs).1 hl' with hl2 | rfl
        · have hkj : k ≠ i := Ne.symm hik
          rw [hYj, hY k hkj]
          have := key k z2 t2 _ hk hl2
          omega
        · exact absurd rfl hik
  | fill k cs =>
    obtain ⟨f1, f0, f3, z, t, kd, hk, f2⟩ := hfit
    rw [hwant, f1, if_pos rfl]
    left
    obtain ⟨e, he, hbe⟩ := Array.any_eq_true'.1 f3
    simp only [Bool.and_eq_true, beq_iff_eq] at hbe
    have hlk : listed.getD k false = true := by rw [← hbe.2]; exact hall e he hbe.1
    obtain ⟨r1, r2⟩ := h.rows.row k z t hk hlk
    rw [rowNow_none fun m cs' hm => by
      cases hl2 : listed.getD m false with
      | false => rfl
      | true => rw [fillsB_spec hf hm hd] at hl2; rw [hnl] at hl2; cases hl2] at r2
    have fin : ∃ X', Inv ops p a0 w0 X' (listed.setIfInBounds j true) (a.put o.dst undef) (w.setRow (X k) cs) := by
      have hlist : ∀ i z t kd, p[i]? = some (.new z t kd) → (listed.setIfInBounds j true).getD i false = true → listed.getD i false = true := fun i z t kd hi hl => by
        rcases (getD_set_iff hjs).1 hl with hl | rfl
        · exact hl
        · rw [hd] at hi; cases hi
      refine ⟨X, by simp [h.size], hact X fun _ _ => rfl, ⟨h.rows.calm.setRow r1 cs, fun i z' t' _ hi hl => ?_, fun i k z t z' t' _ _ hi hk hl hl' hik => h.rows.apart i k z t z' t' hi hk (hlist i z t _ hi hl) (hlist k z' t' _ hk hl') hik⟩, hdown⟩
      obtain ⟨q1, q2⟩ := h.rows.row i z' t' hi (hlist i z' t' _ hi hl)
      refine ⟨q1, ?_⟩
      by_cases hik : i = k
      · subst hik
        rw [hk] at hi; cases hi
        rw [rowNow_fill hf hd (by simp [hjs]), setRow_heap w (X i) _ cs t (0, 0) r2]
      · rw [setRow_other w _ _ cs (h.rows.apart i k z' t' z t hi hk (hlist i z' t' _ hi hl) hlk hik)]
        rw [rowNow_same fun m cs' hm => by rw [hd] at hm; cases hm; exact fun e => hik e.symm]
        exact q2
    unfold Oper.wp
    rw [hex]
    rcases f2 w r2 with f2 | f2 <;> rw [f2] <;> simp only [Oper.upon] <;> exact fin
theorem all_listed (hs : Sound ops) {listed : Array Bool} (h : Region.ready .any ops listed = []) : ∀ (n i : Nat), i ≤ n → i < ops.size → listed.size = ops.size → listed.getD i false = true := by
 intro n
 induction n with
 |zero =>
  intro i hi hlt hsz
  cases hl : listed.getD i false with
  |true => rfl
  |false =>
   have : i ∈ Region.ready .any ops listed := mem_ready.2 ⟨by
    have : i < listed.size := by omega
    simpa [this] using hl, ops[i], Array.getElem?_eq_getElem hlt, fun e he hb => by
     have := hs.before i ops[i] e (Array.getElem?_eq_getElem hlt) he hb
     omega⟩
   rw [h] at this
   cases this
 |succ n ih =>
  intro i hi hlt hsz
  cases hl : listed.getD i false with
  |true => rfl
  |false =>
   have : i ∈ Region.ready .any ops listed := mem_ready.2 ⟨by
    have : i < listed.size := by omega
    simpa [this] using hl, ops[i], Array.getElem?_eq_getElem hlt, fun e he hb => by
     have := hs.before i ops[i] e (Array.getElem?_eq_getElem hlt) he hb
     exact ih e.on (by omega) (by omega) hsz⟩
   rw [h] at this
   cases this
theorem Agree.same {p : List Does} {a0 : Act} {X : Nat → Nat} {S T : Nat → Prop} {a b : Act} (hST : ∀ i, i < ops.size → (S i ∧ T i)) (hp : ops.size ≤ p.length) (ha : Agree ops p a0 X S a) (hb : Agree ops p a0 X T b) : a = b := by
 cases a with
 |mk ta da =>
 cases b with
 |mk tb db =>
 have h1 : da = db := by have := ha.defers; have := hb.defers; simp_all
 have h2 : ta = tb := by
  apply Array.ext_getElem?
  intro t
  by_cases hw : ∃ (i : Nat) (x : Oper), ops[i]? = some x ∧ x.dst = some t
  ·obtain ⟨i, x, hx, hxt⟩ := hw
   have hi : i < ops.size := (Array.getElem?_eq_some_iff.1 hx).1
   by_cases hlt : t < a0.tmps.size
   ·have e1 := ha.put i x p[i] t hx (List.getElem?_eq_getElem (by omega)) (hST i hi).1 hxt hlt
    have e2 := hb.put i x p[i] t hx (List.getElem?_eq_getElem (by omega)) (hST i hi).2 hxt hlt
    exact e1.trans e2.symm
   ·have s1 := ha.size
    have s2 := hb.size
    simp only at s1 s2
    have e1 : ta[t]? = none := Array.getElem?_eq_none (by omega)
    have e2 : tb[t]? = none := Array.getElem?_eq_none (by omega)
    rw [e1, e2]
  ·have hno : ∀ (i : Nat) (x : Oper), ops[i]? = some x → x.dst ≠ some t := fun i x hx hxt => hw ⟨i, x, hx, hxt⟩
   have e1 := ha.old t fun i x hx _ => hno i x hx
   have e2 := hb.old t fun i x hx _ => hno i x hx
   exact e1.trans e2.symm
 rw [h1, h2]
def rowEnd (p : List Does) (i : Nat) (z : Array Value) : Array Value :=
 match (List.range p.length).findSome? (fun j => match p[j]? with | some (Does.fill m cs) => if m == i then some cs else none | _ => none) with
 |some cs => cs
 |none => z
structure Behind (p : List Does) (w0 : World) (X : Nat → Nat) (w : World) : Prop where
 calm : Calm w0 w
 row : ∀ i z t {kd}, p[i]? = some (.new z t kd) → w0.heap.size ≤ X i ∧ w.heap[X i]? = some (.cells (rowEnd p i z) t (0, 0))
 apart : ∀ i j z t z' t' {kd kd'}, p[i]? = some (.new z t kd) → p[j]? = some (.new z' t' kd') → i ≠ j → X i ≠ X j
theorem rowNow_end {p : List Does} {listed : Array Bool} (h : ∀ i, i < p.length → listed.getD i false = true) (i : Nat) (z : Array Value) : rowNow p listed i z = rowEnd p i z := by
 have key : ∀ l : List Nat, (∀ j, j ∈ l → j < p.length) → l.findSome? (fun j => if listed.getD j false then (match p[j]? with | some (Does.fill m cs) => if m == i then some cs else none | _ => none) else none) = l.findSome? (fun j => match p[j]? with | some (Does.fill m cs) => if m == i then some cs else none | _ => none) := by
  intro l
  induction l with
  |nil => intro _; rfl
  |cons j l ih =>
   intro hl
   simp only [List.findSome?_cons, h j (hl j (by simp)), if_true]
   rw [ih fun k hk => hl k (by simp [hk])]
 unfold rowNow rowEnd
 rw [key _ fun j hj => List.mem_range.1 hj]
/-- A REGION THAT DRAWS ITS ORDER, BY A PLAN: one walk in the text's order serves every order. -/
theorem wp_region_plan {id : Nat} {Q : Exit → Act → World → Prop} {a0 : Act} {w0 : World} {l : List Oper} (p : List Does) (hm : P.follows .mixedOrders = true) (hB : planB l.toArray = true) (hf : fillsB p = true)
    (hp : ∀ X : Nat → Nat, Plan P l.toArray w0.drew X p (fun a => ∀ w', Behind p w0.drew X w' → Q .normal a w') 0 l p a0) : (Code.region id l.toArray true).wp P Q a0 w0 := by
  have hs := planB_sound hB
  refine wp_region_any hm (wpAny_inv (fun listed a w => ∃ X, Inv l.toArray p a0 w0.drew X listed a w) (fun listed a w j h hj => ?_) (fun listed a w h h0 => ?_) _ _ _ _ (by simp [unlisted, List.countP_replicate]) ⟨fun _ => 0, by simp, ?_, ⟨Calm.refl _, ?_, ?_⟩, ?_⟩)
  · obtain ⟨X, h⟩ := h
    exact Inv.step hs hf hp h hj
  · obtain ⟨X, h⟩ := h
    have hall := fun i (hi : i < l.toArray.size) => all_listed hs h0 i i (Nat.le_refl _) hi h.size
    obtain ⟨_, ⟨b, hb, hR⟩, g3⟩ := plan_get (X := X) hs l p 0 a0 rfl rfl ⟨rfl, rfl, fun i o d t _ _ hi => absurd hi (Nat.not_lt_zero _), fun t _ => rfl⟩ (hp X)
    have hlen := g3 (Nat.zero_le _) (Nat.zero_le _)
    obtain rfl := Agree.same (fun i hi => ⟨hall i hi, hi⟩) (by omega) h.act hb
    refine hR w ⟨h.rows.calm, fun i z t _ hi => ?_, fun i j z t z' t' _ _ hi hj hij => ?_⟩
    · have hlt : i < l.toArray.size := by rw [← hlen]; exact (List.getElem?_eq_some_iff.1 hi).1
      have := h.rows.row i z t hi (hall i hlt)
      rw [rowNow_end (fun k hk => hall k (by omega))] at this
      exact this
    · have hlt : i < l.toArray.size := by rw [← hlen]; exact (List.getElem?_eq_some_iff.1 hi).1
      have hlt' : j < l.toArray.size := by rw [← hlen]; exact (List.getElem?_eq_some_iff.1 hj).1
      exact h.rows.apart i j z t z' t' hi hj (hall i hlt) (hall j hlt') hij
  · refine ⟨rfl, rfl, fun i o d t _ _ hi => ?_, fun _ _ => rfl⟩
    simp [Array.getElem?_replicate] at hi
    split at hi <;> simp at hi
  · intro i z t _ _ hi
    simp [Array.getElem?_replicate] at hi
    split at hi <;> simp at hi
  · intro i j z t z' t' _ _ _ _ hi
    simp [Array.getElem?_replicate] at hi
    split at hi <;> simp at hi
  · intro i o e _ hi
    simp [Array.getElem?_replicate] at hi
    split at hi <;> simp at hi
section
variable {w0 : World} {X : Nat → Nat} {p : List Does} {R : Act → Prop}
theorem plan_val {i : Nat} {o : Oper} {os : List Oper} {ds : List Does} {a : Act} {v : Value} (h1 : Region.wanted o (yielded ops a.tmps) = true) (h2 : ∀ w, Calm w0 w → Oper.quietUpon P (Calm w) w v ((execOp a.eval o).run P w))
    (h3 : Plan P ops w0 X p R (i + 1) os ds (a.put o.dst v)) : Plan P ops w0 X p R i (o :: os) (.val v :: ds) a := ⟨⟨h1, h2⟩, h3⟩
theorem plan_idle {i : Nat} {o : Oper} {os : List Oper} {ds : List Does} {a : Act} (h1 : Region.wanted o (yielded ops a.tmps) = false)
    (h3 : Plan P ops w0 X p R (i + 1) os ds (a.put o.dst undef)) : Plan P ops w0 X p R i (o :: os) (.idle :: ds) a := ⟨h1, h3⟩
theorem plan_end {i : Nat} {a : Act} (h : R a) : Plan P ops w0 X p R i [] [] a := h
end
end
open Go.RowKit
theorem ret_int {a b : Int} (h : a = b) : Ending.returned (.int .i64 a) = .returned (.int .i64 b) := by rw [h]
open Go.RowKit
theorem heap_new (w : World) (o : Obj) : (w.alloc o).heap[w.heap.size]? = some o := by show (w.heap.push o)[w.heap.size]? = _; simp
open Go.RowKit
theorem Calm.grownBy {w w' : World} (h : Calm w w') (row : Option Nat) : w.grownBy w' row := ⟨Below.os h, Below.tape h, Below.output h, Below.size h, fun _ hk _ => h.block hk⟩
open Go.ChangeShapes Go.WideShapes Go.ChangeAt Go.RowKit
theorem own : ownKnob Try.prog.godebug = none := by kernel_rfl
theorem laidOut : laidOutB Try.prog = true := by kernel_rfl
section
variable {H : Type} {enc : TypeId × Value → H} {P : Program}
theorem trodAll_stays (hl : laidOutB P = true) {W W' : World} (hb : Calm W W') : ∀ (ts : List TypeId) (vs : List Value) (ds : List (DataW H)) (ps : List MemPlace), ts.all (fun t => P.readableRec t && decide (t < P.types.size)) = true →
    DataW.TrodAll enc P W 0 (fun _ => true) true ts vs ds ps → (∀ x ∈ ps, x.block < W.heap.size) → DataW.TrodAll enc P W' 0 (fun b => decide (b < W.heap.size)) true ts vs ds ps
  | [], [], [], ps, _, h, _ => h
  | t :: ts, v :: vs, d :: ds, ps, ht, h, hlt => by
    obtain ⟨p, q, h1, h2, rfl⟩ := h
    simp only [List.all_cons, Bool.and_eq_true, decide_eq_true_eq] at ht
    exact ⟨p, q, Below.trod hl ht.1.1 ht.1.2 h1 hb fun x hx => hlt x (List.mem_append_left _ hx), trodAll_stays hl hb ts vs ds q (by simpa using ht.2) h2 fun x hx => hlt x (List.mem_append_right _ hx), rfl⟩
  | [], _ :: _, _, _, _, h, _ => absurd h (by simp [DataW.TrodAll])
  | [], [], _ :: _, _, _, h, _ => absurd h (by simp [DataW.TrodAll])
  | _ :: _, [], _, _, _, h, _ => absurd h (by simp [DataW.TrodAll])
  | _ :: _, _ :: _, [], _, _, h, _ => absurd h (by simp [DataW.TrodAll])
/-- The row's post, of a law: it answers true, and nothing that was there has turned. -/
theorem law_post (hl : laidOutB P = true) {f : Func} {s : ChangeSpec} {apart fresh handsOn : Bool} {W W' : World} {args : Array Value} {ds gs : List (DataW H)} {before : List MemPlace}
    (hW : DataW.Whole enc P f.params.toList s.vars apart W args.toList ds gs before) (hb : Calm W W') (hbool : ∃ t, f.resultTypes = #[t] ∧ P.underlying t = some .bool)
    (hts : f.params.toList.all (fun t => P.readableRec t && decide (t < P.types.size)) = true) (hvars : s.vars = []) (hspec : (s.fn H (ds ++ gs)).results = [.lit (.bool true)] ∧ (s.fn H (ds ++ gs)).args = ds ∧ (s.fn H (ds ++ gs)).vars = []) :
    s.post enc P f apart fresh handsOn false W args (.bool true) W' := by
  obtain ⟨t, ht, hu⟩ := hbool
  obtain ⟨h1, h2, h3⟩ := hspec
  have hlt := hW.lt
  obtain ⟨p, q, hA, hV, rfl, hz, hn⟩ := id hW
  rw [hvars] at hV
  obtain ⟨rfl, rfl⟩ := trodVars_none hV
  refine ⟨ds, [], p ++ [], [], p, [], hW, ?_, ?_, ?_, World.keptBut_mono (fun _ h => h) (Below.frame hb _), fun h => by cases h⟩
  · rw [h1, ht]
    exact trodAll_mk1 (shut_bool hu true)
  · rw [h2]
    exact trodAll_stays hl hb _ _ _ _ hts hA fun x hx => hlt x (by simpa using hx)
  · rw [h3, hvars]
    exact rfl
end
section
variable {H : Type} {enc : TypeId × Value → H} {w : World} {base : Nat} {spare : Nat → Bool} {held : Bool}
theorem cellsInt : Try.prog.cellsOf 3 = 1 := by kernel_rfl
theorem cellsStr : Try.prog.cellsOf 9 = 1 := by kernel_rfl
variable {r : Reach} {b0 : Nat} {v : Value} {d : DataW H} {ps : List MemPlace}
end
open Go.ChangeShapes Go.WideShapes Go.ChangeAt Go.RowKit
section
variable {H : Type} {enc : TypeId × Value → H} {w : World} {base : Nat} {spare : Nat → Bool} {held : Bool}
theorem list_of {α : Type} (R : Nat → α → Prop) : ∀ n, (∀ i, i < n → ∃ e, R i e) → ∃ l : List α, l.length = n ∧ ∀ k e, l[k]? = some e → R k e
 | 0, _ => ⟨[], rfl, by simp⟩
 |n + 1, h => by
  obtain ⟨l, hl, hk⟩ := list_of R n fun i hi => h i (by omega)
  obtain ⟨e, he⟩ := h n (by omega)
  refine ⟨l ++ [e], by simp [hl], fun k x hx => ?_⟩
  rcases Nat.lt_or_ge k n with hlt | hge
  ·rw [List.getElem?_append_left (by omega)] at hx; exact hk k x hx
  ·rw [List.getElem?_append_right (by omega)] at hx
   have : k = n := by
    have := (List.getElem?_eq_some_iff.1 hx).1
    simp at this; omega
   subst this
   rw [hl] at hx; simp at hx; subst hx; exact he
theorem add_add (b q i j : Nat) : ((⟨b, q, none⟩ : Addr).add i).add j = ⟨b, q + i + j, none⟩ := by
 unfold Addr.add
 split <;> split <;> simp_all
/-- A slice of rows of N cells each. -/
theorem rows_open {t e : TypeId} {fuel : Nat} {cs : List Value} {x : DataW H × List MemPlace} {α : Type} (cv : α → List Value) (wf : α → Prop) (N : Nat) (ht : Try.prog.underlying t = some (.slice e)) (hN : Try.prog.cellsOf e = N) (h0 : 0 < N)
    (hel : ∀ fuel cs x, DataW.trod enc Try.prog w base spare held fuel e cs = some x → ∃ y, cs = cv y ∧ wf y) (h : DataW.trod enc Try.prog w base spare held fuel t cs = some x) :
    ∃ (A : Option Addr) (c : Nat) (l : List α), cs = [.slice A l.length c] ∧ l.length ≤ 9223372036854775807 ∧ l.length ≤ c ∧ (∀ y ∈ l, wf y) ∧
      (0 < l.length → ∃ b q, A = some ⟨b, q, none⟩ ∧ b < w.heap.size ∧ ∀ (k : Nat) (y : α), l[k]? = some y → ∀ j, j < N → w.cell? ⟨b, q + k * N + j, none⟩ = (cv y)[j]?) ∧
      (x.1 = .nil ∧ l.length = 0 ∨ ∃ els sp : List (DataW H), x.1 = .slice els sp ∧ l.length ≤ els.length) := by
  rcases Go.Deep.open_slice ht h with ⟨hcs, hx⟩ | ⟨a, len, cap, m, n, D, Pl, hcs, _, hl, hm, hmm, hx, hi⟩
  · exact ⟨none, 0, [], hcs, by simp, by simp, by simp, fun h => absurd h (by simp), Or.inl ⟨by rw [hx], rfl⟩⟩
  · have hlm : len ≤ m := by rw [hmm]; split <;> omega
    have hsp : 0 < len → a.spot = none := fun hpos => by
      obtain ⟨cs0, hc0, ht0⟩ := hi 0 (by omega)
      rw [hN] at hc0
      obtain ⟨_, hlc, hat⟩ := World.cells?_some hc0
      have k0 := hat 0 h0
      obtain ⟨v0, hv0⟩ : ∃ v, cs0[0]? = some v := ⟨_, List.getElem?_eq_getElem (by omega)⟩
      rw [hv0, Nat.zero_mul] at k0
      exact World.cell?_spot (by simpa [Addr.add] using k0)
    have each : ∀ i, i < len → ∃ y : α, wf y ∧ a.block < w.heap.size ∧ ∀ j, j < N → w.cell? ⟨a.block, a.off + i * N + j, none⟩ = (cv y)[j]? := fun i hil => by
      obtain ⟨cs', hc, ht'⟩ := hi i (by omega)
      obtain ⟨y, rfl, hwf⟩ := hel _ _ _ ht'
      rw [hN] at hc
      obtain ⟨_, hlc, hat⟩ := World.cells?_some hc
      have hs := hsp (by omega)
      obtain ⟨b, q, sp⟩ := a
      simp only at hs
      subst hs
      simp only [add_add] at hat
      refine ⟨y, hwf, ?_, fun j hj => hat j hj⟩
      have k0 := hat 0 h0
      obtain ⟨v0, hv0⟩ : ∃ v, (cv y)[0]? = some v := ⟨_, List.getElem?_eq_getElem (by omega)⟩
      rw [hv0] at k0
      have hbl := World.block_lt_of_cell? _ _ k0
      exact hbl
    obtain ⟨l, rfl, hk⟩ := list_of (fun i y => wf y ∧ a.block < w.heap.size ∧ ∀ j, j < N → w.cell? ⟨a.block, a.off + i * N + j, none⟩ = (cv y)[j]?) len each
    refine ⟨some a, cap, l, hcs, by simp only [maxLen] at hm; omega, hl, fun y hy => ?_, fun hpos => ?_, Or.inr ⟨_, _, by rw [hx], by simp⟩⟩
    · obtain ⟨k, hkl, rfl⟩ := List.getElem_of_mem hy
      exact (hk k _ (List.getElem?_eq_getElem hkl)).1
    · have hs := hsp hpos
      obtain ⟨b, q, sp⟩ := a
      simp only at hs
      subst hs
      exact ⟨b, q, rfl, (hk 0 _ (List.getElem?_eq_getElem hpos)).2.1, fun k y hy => (hk k y hy).2.2⟩
variable {r : Reach} {b0 : Nat} {v : Value} {d : DataW H} {ps : List MemPlace}
end
open Go.RowKit
theorem str_ne {s s' : ByteArray} (h : ¬ s = s') : (s.toList == s'.toList) = false := by
 cases e : s.toList == s'.toList
 ·rfl
 ·exfalso
  have h2 := eq_of_beq e
  rw [ByteArray.toList_eq, ByteArray.toList_eq] at h2
  exact h (ByteArray.ext (Array.toList_inj.1 h2))
open Go.RowKit
def spl (cur : List Value) (o : Nat) (cs : List Value) : List Value := cur.take o ++ cs ++ cur.drop (o + cs.length)
/-- A copy whose run is known, as an operation of a plain region and of one that draws. -/
theorem wpList_copy_known {P : Program} {w : World} {ops : Array Oper} {rest : List Oper} {o : Oper} {a : Act} {Q : Exit → Act → World → Prop} (hgd : o.guard = none) (d s : Operand) (t : TypeId)
    (ho : o.op = .call { callee := .builtin .copy, args := #[d, s], argTypes := #[t, t] }) (v u : Value) (hd : a.eval d = v) (hs : a.eval s = u) {v' : Value} {w' : World}
    (hr : (Builtin.copy_ #[t, t] o.type #[v, u]).run P w = .ok v' w') (h : wpList P ops Q rest (a.put o.dst v') w') : wpList P ops Q (o :: rest) a w :=
  wpList_plain hgd fun _ hK => by
    unfold Oper.wp execOp
    simp only [ho, resolve, invoke, builtin, Sem.run_bind, Sem.run_pure, Result.andThen_ok, List.map_toArray, List.map_cons, List.map_nil, hd, hs, hr]
    exact hK _ _ h
theorem step_copy_known {P : Program} {ops : Array Oper} {o : Oper} {a : Act} {w : World} {K : Act → World → Prop} {Q : Exit → Act → World → Prop} {E : Prop}
    (hg : o.guard = none) (d x : Operand) (t : TypeId) (hop : o.op = Op.call { callee := Callee.builtin Builtin.copy, args := #[d, x], argTypes := #[t, t] })
    (v u : Value) (hd : a.eval d = v) (hx : a.eval x = u) {v' : Value} {w' : World} (hr : (Builtin.copy_ #[t, t] o.type #[v, u]).run P w = .ok v' w') (hK : K (a.put o.dst v') w') :
    if Region.wanted o (yielded ops a.tmps) = true then Oper.wp P o a w K Q else E := by
  have hw : Region.wanted o (yielded ops a.tmps) = true := by simp [Region.wanted, hg]
  rw [if_pos hw]
  unfold Oper.wp
  simp only [execOp, hop, resolve, invoke, builtin, Sem.run_bind, Sem.run_pure, Result.andThen_ok, List.map_toArray, List.map_cons, List.map_nil, hd, hx, hr]
  exact hK
theorem spl_len {cur cs : List Value} {o : Nat} (h : o + cs.length ≤ cur.length) : (spl cur o cs).length = cur.length := by
 unfold spl; simp only [List.length_append, List.length_take, List.length_drop]; omega
abbrev cb (a b : List UInt8) : Int := Lib.compareBytes a b
theorem cb_or : ∀ a b : List UInt8, cb a b = -1 ∨ cb a b = 0 ∨ cb a b = 1
 | [], [] => .inr (.inl rfl)
 | [], _ :: _ => .inl rfl
 |_ :: _, [] => .inr (.inr rfl)
 |x :: a, y :: b => by
  unfold cb Lib.compareBytes
  split
  ·exact .inl rfl
  ·split
   ·exact .inr (.inr rfl)
   ·exact cb_or a b
theorem u8_tri {x y : UInt8} (h : ¬ x < y) (h2 : ¬ y < x) : x = y := by
 have h1 := UInt8.not_lt.1 h
 have h3 := UInt8.not_lt.1 h2
 exact UInt8.le_antisymm h3 h1
theorem cb_eq : ∀ {a b : List UInt8}, cb a b = 0 ↔ a = b
 | [], [] => by simp [cb, Lib.compareBytes]
 | [], _ :: _ => by simp [cb, Lib.compareBytes]
 |_ :: _, [] => by simp [cb, Lib.compareBytes]
 |x :: a, y :: b => by
  unfold cb Lib.compareBytes
  by_cases h1 : x < y
  ·rw [if_pos h1]; constructor
   ·intro h; cases h
   ·rintro h; injection h with h; subst h; exact absurd h1 (UInt8.lt_irrefl x)
  ·rw [if_neg h1]
   by_cases h2 : y < x
   ·rw [if_pos h2]; constructor
    ·intro h; cases h
    ·rintro h; injection h with h; subst h; exact absurd h2 (UInt8.lt_irrefl x)
   ·rw [if_neg h2]
    have := u8_tri h1 h2
    subst this
    exact (cb_eq (a := a) (b := b)).trans ⟨fun h => by rw [h], fun h => by injection h⟩
theorem cb_anti : ∀ a b : List UInt8, cb b a = - cb a b
 | [], [] => rfl
 | [], _ :: _ => rfl
 |_ :: _, [] => rfl
 |x :: a, y :: b => by
  unfold cb Lib.compareBytes
  by_cases h1 : x < y
  ·rw [if_pos h1, if_neg (UInt8.lt_asymm h1), if_pos h1]; decide
  ·rw [if_neg h1]
   by_cases h2 : y < x
   ·rw [if_pos h2, if_neg h1, if_pos h2]
   ·rw [if_neg h2, if_neg h1, if_neg h2]; exact cb_anti a b
theorem cb_trans : ∀ {a b c : List UInt8}, cb a b = -1 → cb b c = -1 → cb a c = -1
 | [], [], _, h, _ => by cases h
 | [], _ :: _, [], _, h => by cases h
 | [], _ :: _, _ :: _, _, _ => rfl
 |_ :: _, [], _, h, _ => by cases h
 |_ :: _, _ :: _, [], _, h => by cases h
 |x :: a, y :: b, z :: c, h, k => by
  unfold cb Lib.compareBytes at h k ⊢
  by_cases h1 : x < y
  ·by_cases k1 : y < z
   ·rw [if_pos (UInt8.lt_trans h1 k1)]
   ·rw [if_neg k1] at k
    by_cases k2 : z < y
    ·rw [if_pos k2] at k; cases k
    ·have := u8_tri k1 k2; subst this; rw [if_pos h1]
  ·rw [if_neg h1] at h
   by_cases h2 : y < x
   ·rw [if_pos h2] at h; cases h
   ·rw [if_neg h2] at h
    have := u8_tri h1 h2; subst this
    by_cases k1 : x < z
    ·rw [if_pos k1]
    ·rw [if_neg k1] at k ⊢
     by_cases k2 : z < x
     ·rw [if_pos k2] at k; cases k
     ·rw [if_neg k2] at k ⊢
      exact cb_trans h k
theorem cb_lt : ∀ {a b : List UInt8}, cb a b = -1 ↔ a < b
 | [], [] => by simp [cb, Lib.compareBytes]
 | [], _ :: _ => by simp [cb, Lib.compareBytes]
 |_ :: _, [] => by simp [cb, Lib.compareBytes]
 |x :: a, y :: b => by
  rw [List.cons_lt_cons_iff]
  unfold cb Lib.compareBytes
  by_cases h1 : x < y
  ·rw [if_pos h1]; simp [h1]
  ·rw [if_neg h1]
   by_cases h2 : y < x
   ·rw [if_pos h2]; constructor
    ·intro h; cases h
    ·rintro (h | ⟨h, _⟩)
     ·exact absurd h h1
     ·subst h; exact absurd h2 (UInt8.lt_irrefl x)
   ·rw [if_neg h2]
    have := u8_tri h1 h2; subst this
    rw [show Lib.compareBytes a b = -1 ↔ a < b from cb_lt]
    simp [h1]
structure Sn where
 nm : ByteArray
 td : Int
theorem Sn.ext_iff' {a b : Sn} : a = b ↔ a.nm = b.nm ∧ a.td = b.td := by cases a; cases b; simp
instance : DecidableEq Sn := fun _ _ => decidable_of_iff _ Sn.ext_iff'.symm
def bc (a b : ByteArray) : Int := cb a.data.toList b.data.toList
def nLt (a b : ByteArray) : Prop := bc a b = -1
instance (a b : ByteArray) : Decidable (nLt a b) := by unfold nLt; infer_instance
theorem bc_eq {a b : ByteArray} : bc a b = 0 ↔ a = b := by
 unfold bc; rw [cb_eq]
 exact ⟨fun h => ByteArray.ext (Array.toList_inj.1 h), fun h => by rw [h]⟩
theorem bc_or (a b : ByteArray) : bc a b = -1 ∨ bc a b = 0 ∨ bc a b = 1 := cb_or _ _
theorem bc_anti (a b : ByteArray) : bc b a = - bc a b := cb_anti _ _
theorem nLt_trans {a b c : ByteArray} (h : nLt a b) (k : nLt b c) : nLt a c := cb_trans h k
theorem nLt_irrefl (a : ByteArray) : ¬ nLt a a := by unfold nLt; rw [bc_eq.2 rfl]; decide
theorem nLt_asymm {a b : ByteArray} (h : nLt a b) : ¬ nLt b a := fun k => nLt_irrefl _ (nLt_trans h k)
theorem nLt_ne {a b : ByteArray} (h : nLt a b) : a ≠ b := fun e => nLt_irrefl _ (e ▸ h)
theorem nLt_tri (a b : ByteArray) : nLt a b ∨ a = b ∨ nLt b a := by
 rcases bc_or a b with h | h | h
 ·exact .inl h
 ·exact .inr (.inl (bc_eq.1 h))
 ·exact .inr (.inr (by unfold nLt; rw [bc_anti, h]))
open Go.ChangeShapes Go.WideShapes Go.ChangeAt Go.RowKit
def nameC (b : UInt8) : Bool := decide (33 ≤ b.toNat ∧ b.toNat ≤ 126 ∧ b.toNat ≠ 47 ∧ b.toNat ≠ 64)
def nameLen (s : ByteArray) : Prop := 1 ≤ s.size ∧ s.size ≤ 12 ∧ s ≠ { data := #[46] } ∧ s ≠ { data := #[46, 46] }
instance (s : ByteArray) : Decidable (nameLen s) := by unfold nameLen; infer_instance
def nameOk (s : ByteArray) : Bool := decide (nameLen s) && s.data.toList.all nameC
open Go.ChangeShapes Go.WideShapes Go.ChangeAt Go.RowKit
theorem str_neL {s : ByteArray} {l : List UInt8} (h : s ≠ { data := l.toArray }) : (s.toList == l) = false := by
 cases e : s.toList == l
 ·rfl
 ·exfalso
  rw [beq_iff_eq, ByteArray.toList_eq] at e
  exact h (ByteArray.ext (Array.toList_inj.1 (by simpa using e)))
theorem nameOk_bad {s : ByteArray} (h : ¬ nameLen s) : nameOk s = false := by unfold nameOk; rw [decide_eq_false h]; rfl
set_option maxHeartbeats 1000000 in
theorem dirName_any (s : ByteArray) (w : World) (hs : s.size ≤ maxLen) : Calls Try.prog 22 #[.string s] w fun e w' => e = .returned (.bool (nameOk s)) ∧ w = w' := by
 unfold maxLen at hs
 by_cases hl : nameLen s
 rotate_left
 ·rw [nameOk_bad hl]
  by_cases h1 : 1 ≤ s.size
  ·by_cases h2 : s.size ≤ 12
   ·by_cases h3 : s = { data := #[46] }
    ·subst h3
     go_enter Try.func22, Try.ntmps22
     go_wp2_with fail
     go_ret
     exact ⟨rfl, rfl⟩
    ·have h4 : s = { data := #[46, 46] } := Decidable.byContradiction fun h => hl ⟨h1, h2, h3, h⟩
     subst h4
     go_enter Try.func22, Try.ntmps22
     go_wp2_with fail
     go_ret
     exact ⟨rfl, rfl⟩
   ·clear hl
    go_enter Try.func22, Try.ntmps22
    go_wp2_with fail
    go_ret
    exact ⟨rfl, rfl⟩
  ·clear hl
   go_enter Try.func22, Try.ntmps22
   go_wp2_with fail
   go_ret
   exact ⟨rfl, rfl⟩
 have hN : nameOk s = s.data.toList.all nameC := by unfold nameOk; rw [decide_eq_true hl]; rfl
 have HN := Lib.hid hN
 obtain ⟨h1, h2, h3, h4⟩ := hl
 have b3 : (s.toList == [46]) = false := str_neL h3
 have b4 : (s.toList == [46, 46]) = false := str_neL h4
 clear hN
 generalize nameOk s = r at HN ⊢
 go_enter Try.func22, Try.ntmps22
 go_wp2_with fail
 go_loop [22] (fun i => ∃ k : Nat, k ≤ s.size ∧ i = .int .i64 k ∧ Hid (∀ j (hj : j < s.size), j < k → nameC s[j] = true)) (fun i => s.size - (intOf i).toNat)
 case atStart => exact ⟨0, Nat.zero_le _, rfl, show ∀ _, _ from fun j _ hj => absurd hj (Nat.not_lt_zero _)⟩
 case round =>
  obtain ⟨k, hk, rfl, HK⟩ := hrel
  by_cases hlt : k < s.size
  rotate_left
  ·have hT : r = true := by
    rw [HN.out, List.all_eq_true]
    intro b hb
    obtain ⟨j, hj, rfl⟩ := List.getElem_of_mem hb
    rw [Array.length_toList] at hj
    have := HK.out j hj (by have : j < s.size := hj; omega)
    rw [Array.getElem_toList]
    exact this
   subst hT
   clear HK HN
   go_wp2_with fail
   go_ret
   exact ⟨rfl, rfl⟩
  have hc := s[k].toNat_lt
  by_cases hb : nameC s[k] = true
  ·have HK2 : Hid (∀ j (hj : j < s.size), j < k + 1 → nameC s[j] = true) := show ∀ _, _ from fun j hj h => by
    rcases Nat.lt_or_ge j k with h5 | h5
    ·exact HK.out j hj h5
    ·obtain rfl : j = k := by omega
     exact hb
   simp only [nameC, decide_eq_true_eq] at hb
   obtain ⟨c1, c2, c3, c4⟩ := hb
   have e3 : (((s[k].toNat : Nat) : Int) == 47) = false := by simp; omega
   have e4 : (((s[k].toNat : Nat) : Int) == 64) = false := by simp; omega
   clear HK
   go_wp2_with fail
   go_round
   case rel => exact ⟨k + 1, by omega, by go_num, HK2⟩
   case measure => simp [intOf]; omega
  ·have hF : r = false := by
    rw [HN.out, List.all_eq_false]
    exact ⟨s[k], by
     show s.data[k] ∈ s.data.toList
     exact Array.getElem_mem_toList .., hb⟩
   subst hF
   simp only [nameC, decide_eq_true_eq] at hb
   have hb2 : s[k].toNat < 33 ∨ (33 ≤ s[k].toNat ∧ 126 < s[k].toNat) ∨ (33 ≤ s[k].toNat ∧ s[k].toNat ≤ 126 ∧ s[k].toNat = 47) ∨ (33 ≤ s[k].toNat ∧ s[k].toNat ≤ 126 ∧ s[k].toNat ≠ 47 ∧ s[k].toNat = 64) := by
    omega
   clear hb HK HN
   rcases hb2 with c1 | ⟨c1, c2⟩ | ⟨c1, c2, c3⟩ | ⟨c1, c2, c4, c3⟩
   ·go_wp2_with fail
    go_ret
    exact ⟨rfl, rfl⟩
   ·go_wp2_with fail
    go_ret
    exact ⟨rfl, rfl⟩
   ·have e3 : (((s[k].toNat : Nat) : Int) == 47) = true := by simp; omega
    go_wp2_with fail
    go_ret
    exact ⟨rfl, rfl⟩
   ·have e3 : (((s[k].toNat : Nat) : Int) == 47) = false := by simp; omega
    have e4 : (((s[k].toNat : Nat) : Int) == 64) = true := by simp; omega
    go_wp2_with fail
    go_ret
    exact ⟨rfl, rfl⟩
open Go.RowKit
section
variable {α : Type} {cv : α → List Value} {N : Nat}
def LiesG (cv : α → List Value) (N : Nat) (w : World) (A : Option Addr) (l : List α) : Prop :=
 0 < l.length → ∃ b q, A = some ⟨b, q, none⟩ ∧ b < w.heap.size ∧ ∀ (k : Nat) (x : α), l[k]? = some x → ∀ j, j < N → w.cell? ⟨b, q + k * N + j, none⟩ = (cv x)[j]?
def cvs (cv : α → List Value) (l : List α) : List Value := l.flatMap cv
def OwnG (t : TypeId) (cv : α → List Value) (N : Nat) (base : Nat) (w : World) (v : Value) (l : List α) : Prop := w.ownsRow base t N v l.length (cvs cv l)
theorem LiesG.calm {w w' : World} {A : Option Addr} {l : List α} (h : LiesG cv N w A l) (hb : Calm w w') : LiesG cv N w' A l := fun hl => by
 obtain ⟨b, q, hA, hlt, hk⟩ := h hl
 exact ⟨b, q, hA, Nat.lt_of_lt_of_le hlt hb.size, fun k x hx j hj => (hb.facts.1 b _ hlt).trans (hk k x hx j hj)⟩
theorem LiesG.nil_ {w : World} {A : Option Addr} : LiesG cv N w A ([] : List α) := fun h => absurd h (by simp)
theorem cvs_len (hN : ∀ x, (cv x).length = N) (l : List α) : (cvs cv l).length = l.length * N := by
 unfold cvs
 induction l with
 |nil => simp
 |cons e l ih => rw [List.flatMap_cons, List.length_append, ih, hN, List.length_cons, Nat.succ_mul]; omega
theorem cvs_at (hN : ∀ x, (cv x).length = N) : ∀ (l : List α) (k j : Nat) (e : α), l[k]? = some e → j < N → (cvs cv l)[k * N + j]? = (cv e)[j]?
 | [], k, j, e, h, _ => by simp at h
 |x :: l, 0, j, e, h, hj => by
  simp at h; subst h
  show (cv x ++ cvs cv l)[0 * N + j]? = _
  rw [Nat.zero_mul, Nat.zero_add, List.getElem?_append_left (by rw [hN]; exact hj)]
 |x :: l, k + 1, j, e, h, hj => by
  show (cv x ++ cvs cv l)[(k + 1) * N + j]? = _
  rw [Nat.succ_mul, List.getElem?_append_right (by rw [hN]; omega), hN]
  rw [show k * N + N + j - N = k * N + j by omega]
  exact cvs_at hN l k j e (by simpa using h) hj
theorem cvs_app (a b : List α) : cvs cv (a ++ b) = cvs cv a ++ cvs cv b := by unfold cvs; simp
theorem cvs_one (h1 : ∀ x, ∀ u ∈ cv x, u.oneCell' = true) (l : List α) : ∀ u ∈ cvs cv l, u.oneCell' = true := by
 intro u hu
 obtain ⟨e, _, h⟩ := List.mem_flatMap.1 hu
 exact h1 e u h
/-- Each cell of a row that stands in memory. -/
theorem LiesG.cells (hN : ∀ x, (cv x).length = N) (h0 : 0 < N) {w : World} {b q : Nat} {l : List α} (h : LiesG cv N w (some ⟨b, q, none⟩) l) : ∀ j v, (cvs cv l)[j]? = some v → b < w.heap.size ∧ w.cell? ⟨b, q + j, none⟩ = some v := fun j v hj => by
 have hlt : j < l.length * N := by rw [← cvs_len hN]; exact (List.getElem?_eq_some_iff.1 hj).1
 have hk : j / N < l.length := (Nat.div_lt_iff_lt_mul h0).2 hlt
 have hm : j % N < N := Nat.mod_lt _ h0
 have he := Nat.div_add_mod j N
 rw [Nat.mul_comm] at he
 have hel := List.getElem?_eq_getElem hk
 obtain ⟨b', q', hA, hb, hat⟩ := h (Nat.lt_of_le_of_lt (Nat.zero_le _) hk)
 injection hA with hA
 injection hA with h1 h2
 subst h1; subst h2
 have h6 := hat _ _ hel _ hm
 have hj2 := cvs_at hN l (j / N) (j % N) _ hel hm
 rw [he] at hj2
 rw [Nat.add_assoc, he] at h6
 rw [h6, ← hj2, hj]
 exact ⟨hb, rfl⟩
section
variable {t : TypeId} {base : Nat} {w w' : World} {v : Value} {l : List α}
theorem OwnG.lt (h : OwnG t cv N base w v l) : ∀ k, v.ownBlock = some k → base ≤ k ∧ k < w.heap.size := World.ownsRow.lt h
theorem OwnG.calm (h : OwnG t cv N base w v l) (hb : Calm w w') : OwnG t cv N base w' v l := World.ownsRow.kept h (hb.grownBy none) (by
 rcases v.ownBlock with _ | k
 ·exact .inl rfl
 ·exact .inr (by simp))
theorem OwnG.nil (t : TypeId) (cv : α → List Value) (N : Nat) (base : Nat) (w : World) : OwnG t cv N base w (.slice none 0 0) [] := World.ownsRow_nil _ _ _ _
theorem OwnG.weaken {base' : Nat} (h : OwnG t cv N base w v l) (hb : base' ≤ base) : OwnG t cv N base' w v l := ⟨h.1, h.2.imp id fun ⟨g, cap, cur, h1, h2, h3⟩ => ⟨g, cap, cur, h1, Nat.le_trans hb h2, h3⟩⟩
theorem OwnG.lies (hN : ∀ x, (cv x).length = N) (h : OwnG t cv N base w v l) : ∃ A c, v = .slice A l.length c ∧ l.length ≤ c ∧ c ≤ 9223372036854775807 ∧ LiesG cv N w A l := by
 rcases h.2 with ⟨rfl, hl⟩ | ⟨g, cap, cur, rfl, _, hg, hnc, hcm, _, ht⟩
 ·have : l = [] := List.eq_nil_of_length_eq_zero hl
  subst this
  exact ⟨none, 0, rfl, Nat.le_refl _, by omega, LiesG.nil_⟩
 ·refine ⟨some ⟨g, 0, none⟩, cap, rfl, hnc, by simp only [maxLen] at hcm; omega, fun hpos => ⟨g, 0, rfl, (Array.getElem?_eq_some_iff.1 hg).1, fun k e he j hj => ?_⟩⟩
  have hk : k < l.length := (List.getElem?_eq_some_iff.1 he).1
  have hkn : k * N + j < l.length * N := by
   have := Nat.mul_le_mul_right N (show k + 1 ≤ l.length from hk)
   rw [Nat.succ_mul] at this
   omega
  rw [Nat.zero_add, cell_of_row w g _ cur _ (0, 0) hg, ← cvs_at hN l k j e he hj, ← ht, List.getElem?_take, if_pos hkn, Array.getElem?_toList]
theorem OwnG.some_ (h : OwnG t cv N base w v l) (hl : 0 < l.length) : ∃ g cap, v = .slice (some ⟨g, 0, none⟩) l.length cap := by
 rcases h.2 with ⟨_, h1⟩ | ⟨g', cap', cur, h1, _⟩
 ·omega
 ·exact ⟨g', cap', h1⟩
end
end
open Go.RowKit
def tidOk (t : Int) : Prop := 0 ≤ t ∧ t ≤ 2147483647
instance (t : Int) : Decidable (tidOk t) := by unfold tidOk; infer_instance
def prevB (l : List Sn) (i : Nat) (s : Sn) : Bool := match (if i = 0 then none else l[i - 1]?) with | none => true | some q => decide (nLt q.nm s.nm)
theorem prevB_zero (l : List Sn) (s : Sn) : prevB l 0 s = true := rfl
theorem prevB_pos {l : List Sn} {i : Nat} {s q : Sn} (h : 0 < i) (hq : l[i - 1]? = some q) : prevB l i s = decide (nLt q.nm s.nm) := by unfold prevB; rw [if_neg (by omega), hq]
def stepS (l : List Sn) (i : Nat) : Int :=
 match l[i]? with
 |none => 0
 |some s => if nameOk s.nm = true ∧ prevB l i s = true then (if tidOk s.td then 0 else 9) else 3
def snErr (l : List Sn) : Int := if 20 < l.length then 2 else firstErr (stepS l) l.length
def NS (l : List Sn) : Prop := l.Pairwise fun a b => nLt a.nm b.nm
def GoodS (l : List Sn) : Prop := l.length ≤ 20 ∧ (∀ s ∈ l, nameOk s.nm = true ∧ tidOk s.td) ∧ NS l
theorem stepS_zero {l : List Sn} {i : Nat} (hi : i < l.length) : stepS l i = 0 ↔ nameOk l[i].nm = true ∧ tidOk l[i].td ∧ (∀ h : 0 < i, nLt (l[i - 1]'(by omega)).nm l[i].nm) := by
 unfold stepS
 rw [List.getElem?_eq_getElem hi]
 simp only
 by_cases h0 : i = 0
 ·subst h0
  rw [prevB_zero]
  by_cases h1 : nameOk l[0].nm = true
  ·by_cases h2 : tidOk l[0].td <;> simp [h1, h2]
  ·simp [h1]
 ·rw [prevB_pos (by omega) (List.getElem?_eq_getElem (by omega : i - 1 < l.length))]
  simp only [decide_eq_true_eq]
  by_cases h1 : nameOk l[i].nm = true ∧ nLt (l[i - 1]'(by omega)).nm l[i].nm
  ·rw [if_pos h1]
   by_cases h2 : tidOk l[i].td
   ·rw [if_pos h2]; simp [h1.1, h1.2, h2]
   ·rw [if_neg h2]; simp [h2]
  ·rw [if_neg h1]
   constructor
   ·intro h; cases h
   ·rintro ⟨a, _, c⟩; exact absurd ⟨a, c (by omega)⟩ h1
theorem ns_of_steps {l : List Sn} (h : ∀ i (hi : i + 1 < l.length), nLt l[i].nm l[i + 1].nm) : NS l := by
 unfold NS
 rw [List.pairwise_iff_getElem]
 intro i j hi hj hij
 obtain ⟨d, rfl⟩ : ∃ d, j = i + 1 + d := ⟨j - (i + 1), by omega⟩
 induction d with
 |zero => exact h i hj
 |succ d ih => exact nLt_trans (ih (by omega) (by omega)) (h (i + 1 + d) hj)
theorem snErr_zero {l : List Sn} : snErr l = 0 ↔ GoodS l := by
 unfold snErr GoodS
 by_cases hl : 20 < l.length
 ·rw [if_pos hl]; constructor
  ·intro h; omega
  ·intro h; omega
 ·rw [if_neg hl, firstErr_zero]
  constructor
  ·intro h
   refine ⟨by omega, fun e he => ?_, ns_of_steps fun i hi => ?_⟩
   ·obtain ⟨i, hi, rfl⟩ := List.getElem_of_mem he
    have := (stepS_zero hi).1 (h i hi)
    exact ⟨this.1, this.2.1⟩
   ·exact ((stepS_zero hi).1 (h (i + 1) hi)).2.2 (by omega)
  ·rintro ⟨_, h1, h2⟩ i hi
   rw [stepS_zero hi]
   have := h1 _ (List.getElem_mem hi)
   exact ⟨this.1, this.2, fun h => List.pairwise_iff_getElem.1 h2 (i - 1) i (by omega) hi (by omega)⟩
def NoErrS (l : List Sn) (k : Nat) : Prop := ∀ j, j < k → stepS l j = 0
theorem snErr_at {l : List Sn} {k : Nat} (hbig : ¬ 20 < l.length) (hN : NoErrS l k) (hk : stepS l k ≠ 0) (hlt : k < l.length) : stepS l k = snErr l := by
 unfold snErr; rw [if_neg hbig, firstErr_at hN hk hlt]
theorem snErr_good {l : List Sn} (hbig : ¬ 20 < l.length) (hN : NoErrS l l.length) : 0 = snErr l := by
 unfold snErr; rw [if_neg hbig]; exact (firstErr_zero.2 hN).symm
theorem stepS_first {l : List Sn} {s : Sn} (h : l[0]? = some s) : stepS l 0 = if nameOk s.nm = true then (if tidOk s.td then 0 else 9) else 3 := by
 unfold stepS; rw [h]; simp [prevB_zero]
theorem stepS_next {l : List Sn} {k : Nat} {s q : Sn} (h : l[k]? = some s) (hk : 0 < k) (hq : l[k - 1]? = some q) : stepS l k = if nameOk s.nm = true ∧ nLt q.nm s.nm then (if tidOk s.td then 0 else 9) else 3 := by
 unfold stepS; rw [h]; simp only; rw [prevB_pos hk hq]; simp only [decide_eq_true_eq]
def snV (x : Sn) : List Value := [.string x.nm, .int .i64 x.td]
theorem snV_len (x : Sn) : (snV x).length = 2 := rfl
theorem snV_one (x : Sn) : ∀ u ∈ snV x, u.oneCell' = true := by intro u hu; simp only [snV, List.mem_cons, List.not_mem_nil, or_false] at hu; rcases hu with rfl | rfl <;> rfl
abbrev LiesN (w : World) (A : Option Addr) (l : List Sn) : Prop := LiesG snV 2 w A l
abbrev OwnSn (base : Nat) (w : World) (v : Value) (l : List Sn) : Prop := OwnG 35 snV 2 base w v l
def Szs (l : List Sn) : Prop := ∀ s ∈ l, s.nm.size ≤ maxLen
theorem sn_get {w : World} {A : Option Addr} {l : List Sn} (h : LiesN w A l) {k : Nat} (hk : k < l.length) : ∃ (b q : Nat) (nm : ByteArray) (td : Int), A = some ⟨b, q, none⟩ ∧ b < w.heap.size ∧ Hid (l[k]? = some ⟨nm, td⟩) ∧
    w.cell? ⟨b, q + k * 2, none⟩ = some (.string nm) ∧ w.cell? ⟨b, q + k * 2 + 1, none⟩ = some (.int .i64 td) := by
  obtain ⟨b, q, hA, hlt, hc⟩ := h (by omega)
  have he := List.getElem?_eq_getElem hk
  have h2 := hc k _ he
  generalize l[k] = z at he h2
  obtain ⟨nm, td⟩ := z
  exact ⟨b, q, nm, td, hA, hlt, he, h2 0 (by omega), h2 1 (by omega)⟩
theorem sn_get2 {w : World} {b q : Nat} {l : List Sn} (h : LiesN w (some ⟨b, q, none⟩) l) {k : Nat} (hk : k < l.length) : ∃ (nm : ByteArray) (td : Int), Hid (l[k]? = some ⟨nm, td⟩) ∧
    w.cell? ⟨b, q + k * 2, none⟩ = some (.string nm) ∧ w.cell? ⟨b, q + k * 2 + 1, none⟩ = some (.int .i64 td) := by
  obtain ⟨b', q', nm, td, hA, hlt, he, h0, h1⟩ := sn_get h hk
  injection hA with hA
  injection hA with e1 e2
  subst e1; subst e2
  exact ⟨nm, td, he, h0, h1⟩
theorem row2n {w : World} {g t : Nat} {a b : Value} {fr : Nat × Nat} (h : w.heap[g]? = some (.cells #[a, b] t fr)) : w.cell? ⟨g, 0, none⟩ = some a ∧ w.cell? ⟨g, 1, none⟩ = some b ∧ g < w.heap.size :=
 ⟨cell_of_row _ _ 0 _ _ _ h, cell_of_row _ _ 1 _ _ _ h, (Array.getElem?_eq_some_iff.1 h).1⟩
open Go.ChangeShapes Go.WideShapes Go.ChangeAt Go.RowKit
theorem bl_eq (a b : ByteArray) : Op.bytesLess a.toList b.toList = decide (nLt a b) := by
 rw [Proofs.bytesLess_eq, ByteArray.toList_eq, ByteArray.toList_eq, Bool.eq_iff_iff]
 exact ⟨fun h => decide_eq_true (show nLt a b from cb_lt.2 (of_decide_eq_true h)), fun h => decide_eq_true (cb_lt.1 (of_decide_eq_true h))⟩
theorem isTid_any (t : Int) (w : World) : Calls Try.prog 23 #[.int .i64 t] w fun e w' => e = .returned (.bool (decide (tidOk t))) ∧ w = w' := by
 have K : Hid (decide (tidOk t) = decide (0 ≤ t ∧ t ≤ 2147483647)) := by show _ = _; unfold tidOk; rfl
 rw [K.out]
 by_cases h0 : 0 ≤ t
 ·by_cases h1 : t ≤ 2147483647
  ·rw [decide_eq_true ⟨h0, h1⟩]
   go_enter Try.func23, Try.ntmps23
   go_wp2_with fail
   go_ret
   exact ⟨rfl, rfl⟩
  ·rw [decide_eq_false (fun h => h1 h.2)]
   go_enter Try.func23, Try.ntmps23
   go_wp2_with fail
   go_ret
   exact ⟨rfl, rfl⟩
 ·rw [decide_eq_false (fun h => h0 h.1)]
  go_enter Try.func23, Try.ntmps23
  go_wp2_with fail
  go_ret
  exact ⟨rfl, rfl⟩
set_option maxHeartbeats 8000000 in
theorem snCheck_any (A : Option Addr) (c : Nat) (l : List Sn) (w : World) (hn : l.length ≤ 9223372036854775807) (hS : Szs l) (hL : LiesN w A l) :
    Calls Try.prog 11 #[.slice A l.length c] w fun e w' => e = .returned (.int .i64 (snErr l)) ∧ Calm w w' := by
  by_cases hbig : 20 < l.length
  · have K : Hid (2 = snErr l) := by show _ = _; unfold snErr; rw [if_pos hbig]
    go_enter Try.func11, Try.ntmps11
    go_wp2_with fail
    go_ret
    exact ⟨ret_int K.out, Calm.refl _⟩
  have HS := Lib.hid hS
  clear hS
  go_enter Try.func11, Try.ntmps11
  go_wp2_with fail
  go_loopw [10] (fun i wr => ∃ k : Nat, k ≤ l.length ∧ i = .int .i64 k ∧ Calm w wr ∧ NoErrS l k) (fun i _ => l.length - (intOf i).toNat)
  case atStart => exact ⟨0, Nat.zero_le _, rfl, Calm.refl _, fun j hj => absurd hj (Nat.not_lt_zero _)⟩
  case round =>
    obtain ⟨k, hk, rfl, hu, hN⟩ := hrel
    by_cases hlt : k < l.length
    rotate_left
    · have hkl : k = l.length := by omega
      have K : Hid (0 = snErr l) := snErr_good hbig (by rw [← hkl]; exact hN)
      clear hkl
      go_wp2_with fail
      go_ret
      exact ⟨ret_int K.out, hu⟩
    obtain ⟨b, q, nm, td, rfl, hb, HE, c0, c1⟩ := sn_get (hL.calm hu) hlt
    have cN := fun u => (dirName_any nm u (HS.out _ (List.mem_of_getElem? HE.out))).mono fun e w' (h : e = .returned (.bool (nameOk nm)) ∧ u = w') => (⟨h.1, h.2 ▸ Calm.refl _⟩ : e = .returned (.bool (nameOk nm)) ∧ Calm u w')
    have cT := fun u => isTid_any td u
    have hv1 := hu.alloc (.cells #[.string nm, .int .i64 td] 35 (0, 0))
    have hx := Lib.hid (heap_new wr (.cells #[.string nm, .int .i64 td] 35 (0, 0)))
    have KE : ∀ n, stepS l k = n → n ≠ 0 → Hid (n = snErr l) := fun n h1 h2 => by
      show _ = _
      rw [← snErr_at hbig hN (by rw [h1]; exact h2) hlt, h1]
    by_cases hk0 : k = 0
    · have hst : stepS l k = if nameOk nm = true then (if tidOk td then 0 else 9) else 3 := by rw [hk0]; exact stepS_first (hk0 ▸ HE.out)
      have hk1 : ¬ 0 < k := by omega
      have hN1 : stepS l k = 0 → NoErrS l (k + 1) := fun h j hj => by
        rw [show j = k by omega]; exact h
      clear hk0 HE hN
      by_cases h1 : nameOk nm = true
      rotate_left
      · rw [if_neg h1] at hst
        have K := KE 3 hst (by decide)
        rw [show nameOk nm = false from by simpa using h1] at cN
        clear hst KE hN1 h1
        go_upto_region 6 with fail
        generalize wr.alloc (.cells #[.string nm, .int .i64 td] 35 (0, 0)) = w2 at hv1 hx ⊢
        obtain ⟨x0, x1, hgs⟩ := row2n hx.out
        skip
        refine wp_region_plan [.val (.pointer (some ⟨wr.heap.size, 0, none⟩)), .val (.string nm), .val (.bool false), .val (.bool true), .val (.bool true), .idle, .idle, .idle, .idle, .idle, .idle, .idle, .idle, .idle, .idle, .idle, .idle, .idle, .val (.bool true)] (by kernel_rfl) (by kernel_rfl) (by kernel_rfl) ?_
        intro X
        iterate 5
          refine plan_val (by kernel_rfl) (fun u hu => ?_) ?_
          · obtain ⟨hc, hf, hz⟩ := hu.of_drew.facts
            go_simp
            all_goals first
              | (go_at_call 22; exact cN _)
          simp only [Act.put, List.setIfInBounds_toArray, List.set_cons_zero, List.set_cons_succ, Nat.reduceAdd]
        iterate 13
          refine plan_idle (by kernel_rfl) ?_
          simp only [Act.put, List.setIfInBounds_toArray, List.set_cons_zero, List.set_cons_succ, Nat.reduceAdd]
        iterate 1
          refine plan_val (by kernel_rfl) (fun u hu => ?_) ?_
          · obtain ⟨hc, hf, hz⟩ := hu.of_drew.facts
            go_simp
            all_goals first
              | (go_at_call 22; exact cN _)
          simp only [Act.put, List.setIfInBounds_toArray, List.set_cons_zero, List.set_cons_succ, Nat.reduceAdd]
        refine plan_end ?_
        intro w' hB
        have hk := hB.calm.of_drew
        clear hB
        obtain ⟨x0, x1, hxs⟩ := row2n ((hk.block hgs).trans hx.out)
        replace hv1 := hv1.call hk
        clear hk
        go_wp2_with fail
        go_ret
        exact ⟨ret_int K.out, hv1⟩
      rw [if_pos h1] at hst
      rw [h1] at cN
      by_cases h3 : tidOk td
      · rw [if_pos h3] at hst
        rw [decide_eq_true h3] at cT
        have hN2 := hN1 hst
        clear hst KE hN1 h1 h3
        go_upto_region 6 with fail
        generalize wr.alloc (.cells #[.string nm, .int .i64 td] 35 (0, 0)) = w2 at hv1 hx ⊢
        obtain ⟨x0, x1, hgs⟩ := row2n hx.out
        skip
        refine wp_region_plan [.val (.pointer (some ⟨wr.heap.size, 0, none⟩)), .val (.string nm), .val (.bool true), .val (.bool false), .val (.bool false), .val (.int .i64 ((k : Int))), .val (.bool false), .val (.bool false), .idle, .idle, .idle, .idle, .idle, .idle, .idle, .idle, .idle, .val (.bool false), .val (.bool false)] (by kernel_rfl) (by kernel_rfl) (by kernel_rfl) ?_
        intro X
        iterate 8
          refine plan_val (by kernel_rfl) (fun u hu => ?_) ?_
          · obtain ⟨hc, hf, hz⟩ := hu.of_drew.facts
            go_simp
            all_goals first
              | (go_at_call 22; exact cN _)
          simp only [Act.put, List.setIfInBounds_toArray, List.set_cons_zero, List.set_cons_succ, Nat.reduceAdd]
        iterate 9
          refine plan_idle (by kernel_rfl) ?_
          simp only [Act.put, List.setIfInBounds_toArray, List.set_cons_zero, List.set_cons_succ, Nat.reduceAdd]
        iterate 2
          refine plan_val (by kernel_rfl) (fun u hu => ?_) ?_
          · obtain ⟨hc, hf, hz⟩ := hu.of_drew.facts
            go_simp
            all_goals first
              | (go_at_call 22; exact cN _)
          simp only [Act.put, List.setIfInBounds_toArray, List.set_cons_zero, List.set_cons_succ, Nat.reduceAdd]
        refine plan_end ?_
        intro w' hB
        have hk := hB.calm.of_drew
        clear hB
        obtain ⟨x0, x1, hxs⟩ := row2n ((hk.block hgs).trans hx.out)
        replace hv1 := hv1.call hk
        clear hk
        go_wp2_with (go_at_call 23; refine (cT _).mono ?_; rintro e w9 ⟨rfl, rfl⟩)
        go_roundw
        case rel => exact ⟨k + 1, by omega, by go_num, hv1, hN2⟩
        case measure => simp [intOf]; omega
      · rw [if_neg h3] at hst
        rw [decide_eq_false h3] at cT
        have K := KE 9 hst (by decide)
        clear hst KE hN1 h1 h3
        go_upto_region 6 with fail
        generalize wr.alloc (.cells #[.string nm, .int .i64 td] 35 (0, 0)) = w2 at hv1 hx ⊢
        obtain ⟨x0, x1, hgs⟩ := row2n hx.out
        skip
        refine wp_region_plan [.val (.pointer (some ⟨wr.heap.size, 0, none⟩)), .val (.string nm), .val (.bool true), .val (.bool false), .val (.bool false), .val (.int .i64 ((k : Int))), .val (.bool false), .val (.bool false), .idle, .idle, .idle, .idle, .idle, .idle, .idle, .idle, .idle, .val (.bool false), .val (.bool false)] (by kernel_rfl) (by kernel_rfl) (by kernel_rfl) ?_
        intro X
        iterate 8
          refine plan_val (by kernel_rfl) (fun u hu => ?_) ?_
          · obtain ⟨hc, hf, hz⟩ := hu.of_drew.facts
            go_simp
            all_goals first
              | (go_at_call 22; exact cN _)
          simp only [Act.put, List.setIfInBounds_toArray, List.set_cons_zero, List.set_cons_succ, Nat.reduceAdd]
        iterate 9
          refine plan_idle (by kernel_rfl) ?_
          simp only [Act.put, List.setIfInBounds_toArray, List.set_cons_zero, List.set_cons_succ, Nat.reduceAdd]
        iterate 2
          refine plan_val (by kernel_rfl) (fun u hu => ?_) ?_
          · obtain ⟨hc, hf, hz⟩ := hu.of_drew.facts
            go_simp
            all_goals first
              | (go_at_call 22; exact cN _)
          simp only [Act.put, List.setIfInBounds_toArray, List.set_cons_zero, List.set_cons_succ, Nat.reduceAdd]
        refine plan_end ?_
        intro w' hB
        have hk := hB.calm.of_drew
        clear hB
        obtain ⟨x0, x1, hxs⟩ := row2n ((hk.block hgs).trans hx.out)
        replace hv1 := hv1.call hk
        clear hk
        go_wp2_with (go_at_call 23; refine (cT _).mono ?_; rintro e w9 ⟨rfl, rfl⟩)
        go_ret
        exact ⟨ret_int K.out, hv1⟩
    obtain ⟨nm', td', HE', d0, d1⟩ := sn_get2 (hL.calm hu) (k := k - 1) (by omega)
    have hst := stepS_next HE.out (by omega) HE'.out
    have hN1 : stepS l k = 0 → NoErrS l (k + 1) := fun h j hj => by
      rcases Nat.lt_or_ge j k with h2 | h2
      · exact hN j h2
      · rw [show j = k by omega]; exact h
    have hkp : 0 < k := by omega
    clear hk0 HE HE' hN
    have hd := Lib.hid (And.intro (((Calm.refl wr).alloc (.cells #[.string nm, .int .i64 td] 35 (0, 0))).facts.1 b _ hb |>.trans d0) (show b < (wr.alloc (.cells #[.string nm, .int .i64 td] 35 (0, 0))).heap.size from Nat.lt_of_lt_of_le hb (by simp)))
    clear d0 d1
    by_cases h1 : nameOk nm = true
    rotate_left
    · rw [if_neg (fun h => h1 h.1)] at hst
      have K := KE 3 hst (by decide)
      rw [show nameOk nm = false from by simpa using h1] at cN
      clear hst KE hN1 h1 hkp hd
      go_upto_region 6 with fail
      generalize wr.alloc (.cells #[.string nm, .int .i64 td] 35 (0, 0)) = w2 at hv1 hx ⊢
      obtain ⟨x0, x1, hgs⟩ := row2n hx.out
      skip
      refine wp_region_plan [.val (.pointer (some ⟨wr.heap.size, 0, none⟩)), .val (.string nm), .val (.bool false), .val (.bool true), .val (.bool true), .idle, .idle, .idle, .idle, .idle, .idle, .idle, .idle, .idle, .idle, .idle, .idle, .idle, .val (.bool true)] (by kernel_rfl) (by kernel_rfl) (by kernel_rfl) ?_
      intro X
      iterate 5
        refine plan_val (by kernel_rfl) (fun u hu => ?_) ?_
        · obtain ⟨hc, hf, hz⟩ := hu.of_drew.facts
          go_simp
          all_goals first
            | (go_at_call 22; exact cN _)
        simp only [Act.put, List.setIfInBounds_toArray, List.set_cons_zero, List.set_cons_succ, Nat.reduceAdd]
      iterate 13
        refine plan_idle (by kernel_rfl) ?_
        simp only [Act.put, List.setIfInBounds_toArray, List.set_cons_zero, List.set_cons_succ, Nat.reduceAdd]
      iterate 1
        refine plan_val (by kernel_rfl) (fun u hu => ?_) ?_
        · obtain ⟨hc, hf, hz⟩ := hu.of_drew.facts
          go_simp
          all_goals first
            | (go_at_call 22; exact cN _)
        simp only [Act.put, List.setIfInBounds_toArray, List.set_cons_zero, List.set_cons_succ, Nat.reduceAdd]
      refine plan_end ?_
      intro w' hB
      have hk := hB.calm.of_drew
      clear hB
      obtain ⟨x0, x1, hxs⟩ := row2n ((hk.block hgs).trans hx.out)
      replace hv1 := hv1.call hk
      clear hk
      go_wp2_with fail
      go_ret
      exact ⟨ret_int K.out, hv1⟩
    rw [h1] at cN
    by_cases h2 : nLt nm' nm
    · rw [if_pos ⟨h1, h2⟩] at hst
      have e1 : Op.bytesLess nm.toList nm'.toList = false := by rw [bl_eq]; exact decide_eq_false (nLt_asymm h2)
      have e2 : (nm.toList == nm'.toList) = false := str_ne fun h => nLt_ne h2 h.symm
      have e3 : ¬ nm.toList = nm'.toList := fun h => by rw [h] at e2; simp at e2
      clear h2
      by_cases h3 : tidOk td
      · rw [if_pos h3] at hst
        rw [decide_eq_true h3] at cT
        have hN2 := hN1 hst
        clear hst KE hN1 h1 h3
        go_upto_region 6 with fail
        generalize wr.alloc (.cells #[.string nm, .int .i64 td] 35 (0, 0)) = w2 at hv1 hx hd ⊢
        obtain ⟨x0, x1, hgs⟩ := row2n hx.out
        obtain ⟨d0, hbw⟩ := hd.out
        have z1 : IntKind.i64.wrap ((k : Int) - 1) = (k : Int) - 1 := IntWalk.i64_in _ (by omega)
        have z2 : ((k : Int) - 1).toNat = k - 1 := by omega
        have z3 : 0 ≤ (k : Int) - 1 := by omega
        have z4 : (k : Int) - 1 < l.length := by omega
        have z5 : 1 ≤ (k : Int) := by omega
        refine wp_region_plan [.val (.pointer (some ⟨wr.heap.size, 0, none⟩)), .val (.string nm), .val (.bool true), .val (.bool false), .val (.bool false), .val (.int .i64 ((k : Int))), .val (.bool true), .val (.bool true), .val (.pointer (some ⟨wr.heap.size, 0, none⟩)), .val (.string nm), .val (.slice (some ⟨b, q, none⟩) l.length c), .val (.int .i64 ((k : Int))), .val (.int .i64 ((k : Int) - 1)), .val (.pointer (some ⟨b, q + (k - 1) * 2, none⟩)), .val (.pointer (some ⟨b, q + (k - 1) * 2, none⟩)), .val (.string nm'), .val (.bool false), .val (.bool false), .val (.bool false)] (by kernel_rfl) (by kernel_rfl) (by kernel_rfl) ?_
        intro X
        iterate 19
          refine plan_val (by kernel_rfl) (fun u hu => ?_) ?_
          · obtain ⟨hc, hf, hz⟩ := hu.of_drew.facts
            go_simp
            all_goals first
              | (go_at_call 22; exact cN _)
          simp only [Act.put, List.setIfInBounds_toArray, List.set_cons_zero, List.set_cons_succ, Nat.reduceAdd]
        refine plan_end ?_
        intro w' hB
        have hk := hB.calm.of_drew
        clear hB
        obtain ⟨x0, x1, hxs⟩ := row2n ((hk.block hgs).trans hx.out)
        replace hv1 := hv1.call hk
        clear hk
        clear z1 z2 z3 z4 z5
        go_wp2_with (go_at_call 23; refine (cT _).mono ?_; rintro e w9 ⟨rfl, rfl⟩)
        go_roundw
        case rel => exact ⟨k + 1, by omega, by go_num, hv1, hN2⟩
        case measure => simp [intOf]; omega
      · rw [if_neg h3] at hst
        rw [decide_eq_false h3] at cT
        have K := KE 9 hst (by decide)
        clear hst KE hN1 h1 h3
        go_upto_region 6 with fail
        generalize wr.alloc (.cells #[.string nm, .int .i64 td] 35 (0, 0)) = w2 at hv1 hx hd ⊢
        obtain ⟨x0, x1, hgs⟩ := row2n hx.out
        obtain ⟨d0, hbw⟩ := hd.out
        have z1 : IntKind.i64.wrap ((k : Int) - 1) = (k : Int) - 1 := IntWalk.i64_in _ (by omega)
        have z2 : ((k : Int) - 1).toNat = k - 1 := by omega
        have z3 : 0 ≤ (k : Int) - 1 := by omega
        have z4 : (k : Int) - 1 < l.length := by omega
        have z5 : 1 ≤ (k : Int) := by omega
        refine wp_region_plan [.val (.pointer (some ⟨wr.heap.size, 0, none⟩)), .val (.string nm), .val (.bool true), .val (.bool false), .val (.bool false), .val (.int .i64 ((k : Int))), .val (.bool true), .val (.bool true), .val (.pointer (some ⟨wr.heap.size, 0, none⟩)), .val (.string nm), .val (.slice (some ⟨b, q, none⟩) l.length c), .val (.int .i64 ((k : Int))), .val (.int .i64 ((k : Int) - 1)), .val (.pointer (some ⟨b, q + (k - 1) * 2, none⟩)), .val (.pointer (some ⟨b, q + (k - 1) * 2, none⟩)), .val (.string nm'), .val (.bool false), .val (.bool false), .val (.bool false)] (by kernel_rfl) (by kernel_rfl) (by kernel_rfl) ?_
        intro X
        iterate 19
          refine plan_val (by kernel_rfl) (fun u hu => ?_) ?_
          · obtain ⟨hc, hf, hz⟩ := hu.of_drew.facts
            go_simp
            all_goals first
              | (go_at_call 22; exact cN _)
          simp only [Act.put, List.setIfInBounds_toArray, List.set_cons_zero, List.set_cons_succ, Nat.reduceAdd]
        refine plan_end ?_
        intro w' hB
        have hk := hB.calm.of_drew
        clear hB
        obtain ⟨x0, x1, hxs⟩ := row2n ((hk.block hgs).trans hx.out)
        replace hv1 := hv1.call hk
        clear hk
        clear z1 z2 z3 z4 z5
        go_wp2_with (go_at_call 23; refine (cT _).mono ?_; rintro e w9 ⟨rfl, rfl⟩)
        go_ret
        exact ⟨ret_int K.out, hv1⟩
    · rw [if_neg (fun h => h2 h.2)] at hst
      have K := KE 3 hst (by decide)
      clear hst KE hN1
      have e1 : (Op.bytesLess nm.toList nm'.toList || (nm.toList == nm'.toList)) = true := by
        rcases nLt_tri nm nm' with h | h | h
        · rw [bl_eq, decide_eq_true h]; rfl
        · rw [h]; simp
        · exact absurd h h2
      have e2 : Op.bytesLess nm.toList nm'.toList = true ∨ nm.toList = nm'.toList := by simpa using e1
      clear h2 h1
      go_upto_region 6 with fail
      generalize wr.alloc (.cells #[.string nm, .int .i64 td] 35 (0, 0)) = w2 at hv1 hx hd ⊢
      obtain ⟨x0, x1, hgs⟩ := row2n hx.out
      obtain ⟨d0, hbw⟩ := hd.out
      have z1 : IntKind.i64.wrap ((k : Int) - 1) = (k : Int) - 1 := IntWalk.i64_in _ (by omega)
      have z2 : ((k : Int) - 1).toNat = k - 1 := by omega
      have z3 : 0 ≤ (k : Int) - 1 := by omega
      have z4 : (k : Int) - 1 < l.length := by omega
      have z5 : 1 ≤ (k : Int) := by omega
      refine wp_region_plan [.val (.pointer (some ⟨wr.heap.size, 0, none⟩)), .val (.string nm), .val (.bool true), .val (.bool false), .val (.bool false), .val (.int .i64 ((k : Int))), .val (.bool true), .val (.bool true), .val (.pointer (some ⟨wr.heap.size, 0, none⟩)), .val (.string nm), .val (.slice (some ⟨b, q, none⟩) l.length c), .val (.int .i64 ((k : Int))), .val (.int .i64 ((k : Int) - 1)), .val (.pointer (some ⟨b, q + (k - 1) * 2, none⟩)), .val (.pointer (some ⟨b, q + (k - 1) * 2, none⟩)), .val (.string nm'), .val (.bool true), .val (.bool true), .val (.bool true)] (by kernel_rfl) (by kernel_rfl) (by kernel_rfl) ?_
      intro X
      iterate 19
        refine plan_val (by kernel_rfl) (fun u hu => ?_) ?_
        · obtain ⟨hc, hf, hz⟩ := hu.of_drew.facts
          go_simp
          all_goals first
            | (go_at_call 22; exact cN _)
        simp only [Act.put, List.setIfInBounds_toArray, List.set_cons_zero, List.set_cons_succ, Nat.reduceAdd]
      refine plan_end ?_
      intro w' hB
      have hk := hB.calm.of_drew
      clear hB
      obtain ⟨x0, x1, hxs⟩ := row2n ((hk.block hgs).trans hx.out)
      replace hv1 := hv1.call hk
      clear hk
      clear z1 z2 z3 z4 z5
      go_wp2_with fail
      go_ret
      exact ⟨ret_int K.out, hv1⟩
open Go.RowKit
theorem nLt_neg (a b : ByteArray) : nLt a b ↔ bc a b < 0 := by
 unfold nLt
 rcases bc_or a b with h | h | h <;> rw [h] <;> decide
theorem snPos1_any (nm : ByteArray) (td : Int) (x : ByteArray) (w : World) : Calls Try.prog 45 #[.agg #[.string nm, .int .i64 td], .string x] w fun e w' => e = .returned (.int .i64 (bc nm x)) ∧ Calm w w' := by
 have cC := fun u => Try.strings_Compare nm x u
 have hE : Lib.compareBytes nm.data.toList x.data.toList = bc nm x := rfl
 rw [hE] at cC
 clear hE
 generalize bc nm x = C at cC ⊢
 have hu := (Calm.refl w).alloc (.cells #[.string nm, .int .i64 td] 35)
 go_enter Try.func45, Try.ntmps45
 go_wp2_with (go_at_call 32; refine (cC _).mono ?_; rintro e w1 ⟨rfl, rfl⟩)
 go_ret
 exact ⟨rfl, hu⟩
def posN (l : List Sn) (x : ByteArray) : Nat := l.countP fun s => decide (nLt s.nm x)
def hitN (l : List Sn) (x : ByteArray) : Bool := match l[posN l x]? with | some s => bc s.nm x == 0 | none => false
theorem posN_part {l : List Sn} {x : ByteArray} {c : Nat} (hc : c ≤ l.length) (h1 : ∀ i (h : i < l.length), i < c → nLt l[i].nm x) (h2 : ∀ i (h : i < l.length), c ≤ i → ¬ nLt l[i].nm x) : posN l x = c := by
 unfold posN
 rw [← List.take_append_drop c l, List.countP_append]
 have a : (l.take c).countP (fun s => decide (nLt s.nm x)) = c := by
  rw [List.countP_eq_length.2 fun e he => by
   obtain ⟨i, hi, rfl⟩ := List.getElem_of_mem he
   rw [List.length_take] at hi
   rw [List.getElem_take]
   exact decide_eq_true (h1 i (by omega) (by omega)), List.length_take]
  omega
 have b : (l.drop c).countP (fun s => decide (nLt s.nm x)) = 0 := by
  rw [List.countP_eq_zero.2 fun e he => by
   obtain ⟨i, hi, rfl⟩ := List.getElem_of_mem he
   rw [List.length_drop] at hi
   rw [List.getElem_drop]
   simpa using h2 (c + i) (by omega) (by omega)]
 omega
set_option maxHeartbeats 8000000 in
theorem snSearch_any (A : Option Addr) (c : Nat) (l : List Sn) (x : ByteArray) (w : World) (hn : l.length ≤ 400) (hL : LiesN w A l) (hS : NS l) :
    Calls Try.prog 44 #[.slice A l.length c, .string x, .func (.func 45) #[] #[]] w fun e w' => e = .returned (.tuple #[.int .i64 (posN l x : Nat), .bool (hitN l x)]) ∧ Calm w w' := by
  have M : Hid (∀ i j (hi : i < l.length) (hj : j < l.length), i ≤ j → nLt l[j].nm x → nLt l[i].nm x) := show ∀ _ _ _ _, _ from fun i j hi hj hij h => by
    rcases Nat.lt_or_eq_of_le hij with h1 | h1
    · exact nLt_trans (List.pairwise_iff_getElem.1 hS i j hi hj h1) h
    · subst h1; exact h
  have HL := Lib.hid hL
  clear hL hS
  go_enter Try.func44, Try.ntmps44
  go_wp2_with fail
  go_loopg [9, 10] l.length (fun kx s9 s10 wr => ∃ lo hi : Nat, s9 = .int .i64 lo ∧ s10 = .int .i64 hi ∧ lo ≤ hi ∧ hi ≤ l.length ∧ hi - lo ≤ kx ∧ Calm w wr ∧
    Hid ((∀ t (h : t < l.length), t < lo → nLt l[t].nm x) ∧ (∀ t (h : t < l.length), hi ≤ t → ¬ nLt l[t].nm x)))
  case atStart => exact ⟨0, l.length, rfl, rfl, Nat.zero_le _, Nat.le_refl _, by omega, Calm.refl _, show _ ∧ _ from ⟨fun t h ht => absurd ht (Nat.not_lt_zero _), fun t h1 h2 => by omega⟩⟩
  case round =>
    obtain ⟨lo, hi, rfl, rfl, hlh, hin, hg, hv, I⟩ := hrel
    have HLr := Lib.hid (HL.out.calm hv)
    by_cases hlt : lo < hi
    · obtain ⟨mid, hmd⟩ : ∃ mid, (lo + hi) / 2 = mid := ⟨_, rfl⟩
      have hmid : mid < l.length := by omega
      have hmi : ((lo : Int) + (hi : Int)) / 2 = (mid : Int) := by omega
      obtain ⟨b, q, nm, td, hAb, hb, HE, e0, e1⟩ := sn_get HLr.out hmid
      subst hAb
      obtain ⟨C, hC⟩ : ∃ C, bc nm x = C := ⟨_, rfl⟩
      have hCs : Hid (nLt (l[mid]).nm x ↔ C < 0) := show _ ↔ _ by
        rw [(List.getElem?_eq_some_iff.1 HE.out).2, ← hC]; exact nLt_neg _ _
      have cC := fun u => snPos1_any nm td x u
      rw [hC] at cC
      have HMD := Lib.hid hmd
      clear hC hmd
      by_cases hC0 : C < 0
      · have I2 : Hid ((∀ t (h : t < l.length), t < mid + 1 → nLt l[t].nm x) ∧ (∀ t (h : t < l.length), hi ≤ t → ¬ nLt l[t].nm x)) := show _ ∧ _ from
          ⟨fun t h ht => M.out t mid h hmid (by omega) (hCs.out.2 hC0), I.out.2⟩
        go_wp2_with (go_at_call 45; (with_reducible refine (cC _).mono ?_); rintro e w9 ⟨rfl, hk⟩)
        go_roundg (hi - (mid + 1))
        case measure => have := HMD.out; omega
        case rel => exact ⟨mid + 1, hi, by first | rfl | go_num | (congr 1; omega), rfl, by have := HMD.out; omega, hin, Nat.le_refl _, hv.call hk, I2⟩
      · have I2 : Hid ((∀ t (h : t < l.length), t < lo → nLt l[t].nm x) ∧ (∀ t (h : t < l.length), mid ≤ t → ¬ nLt l[t].nm x)) := show _ ∧ _ from
          ⟨I.out.1, fun t h ht h2 => hC0 (hCs.out.1 (M.out mid t hmid h ht h2))⟩
        go_wp2_with (go_at_call 45; (with_reducible refine (cC _).mono ?_); rintro e w9 ⟨rfl, hk⟩)
        go_roundg (mid - lo)
        case measure => have := HMD.out; omega
        case rel => exact ⟨lo, mid, rfl, by first | rfl | go_num | (congr 1; omega), by have := HMD.out; omega, by omega, Nat.le_refl _, hv.call hk, I2⟩
    · obtain rfl : hi = lo := by omega
      have K1 : Hid (posN l x = hi) := posN_part hin (fun i h hi' => I.out.1 i h hi') (fun i h hi' => I.out.2 i h hi')
      by_cases hle : hi < l.length
      · have hli : (hi : Int) < (l.length : Int) := by omega
        obtain ⟨b, q, nm, td, hAb, hb, HE, e0, e1⟩ := sn_get HLr.out hle
        subst hAb
        have cC := fun u => snPos1_any nm td x u
        have hB : Hid (hitN l x = (bc nm x == 0)) := show _ = _ by unfold hitN; rw [K1.out, HE.out]
        generalize bc nm x = C at cC hB
        obtain ⟨r, hr⟩ : ∃ r, (C == 0) = r := ⟨_, rfl⟩
        have HB : Hid (hitN l x = r) := show _ = _ from hB.out.trans hr
        go_wp2_with (go_at_call 45; (with_reducible refine (cC _).mono ?_); rintro e w9 ⟨rfl, hk⟩)
        go_ret2
        exact ⟨by rw [K1.out, HB.out]; rfl, hv.call hk⟩
      · have hli : ¬ (hi : Int) < (l.length : Int) := by omega
        go_wp2_with fail
        go_ret2
        have HB : hitN l x = false := by unfold hitN; rw [K1.out, List.getElem?_eq_none (by omega)]
        exact ⟨by rw [K1.out, HB]; rfl, hv⟩
set_option maxHeartbeats 2000000 in
theorem snPosition_any (A : Option Addr) (c : Nat) (l : List Sn) (x : ByteArray) (w : World) (hn : l.length ≤ 400) (hL : LiesN w A l) (hS : NS l) :
    Calls Try.prog 24 #[.slice A l.length c, .string x] w fun e w' => e = .returned (.tuple #[.int .i64 (posN l x : Nat), .bool (hitN l x)]) ∧ Calm w w' := by
  have cB := snSearch_any A c l x w hn hL hS
  clear hL hS hn
  generalize posN l x = P at cB ⊢
  generalize hitN l x = H at cB ⊢
  go_enter Try.func24, Try.ntmps24
  go_wp2_with (go_at_call 44; (with_reducible refine cB.mono ?_); rintro e w1 ⟨rfl, hb⟩)
  go_ret2
  exact ⟨rfl, hb⟩
def fiErr (l : List Sn) (x : ByteArray) : Int := if snErr l = 0 then (if hitN l x = true then 0 else 4) else snErr l
def fiPos (l : List Sn) (x : ByteArray) : Nat := if fiErr l x = 0 then posN l x else 0
def fiT (l : List Sn) (x : ByteArray) : Int := if fiErr l x = 0 then (match l[posN l x]? with | some s => s.td | none => 0) else 0
theorem hit_at {l : List Sn} {x : ByteArray} (h : hitN l x = true) : ∃ s, l[posN l x]? = some s ∧ s.nm = x := by
 unfold hitN at h
 cases hp : l[posN l x]? with
 |none => rw [hp] at h; cases h
 |some s => rw [hp] at h; exact ⟨s, rfl, bc_eq.1 (by simpa using h)⟩
set_option maxHeartbeats 4000000 in
theorem snfind_any (A : Option Addr) (c : Nat) (l : List Sn) (x : ByteArray) (w : World) (hn : l.length ≤ 9223372036854775807) (hS : Szs l) (hL : LiesN w A l) :
    Calls Try.prog 27 #[.slice A l.length c, .string x] w fun e w' => e = .returned (.tuple #[.int .i64 (fiPos l x : Nat), .int .i64 (fiErr l x)]) ∧ Calm w w' := by
  have cC := fun u (hu : Calm w u) => snCheck_any A c l u hn hS (hL.calm hu)
  have hu := Calm.refl w
  unfold fiPos fiErr
  by_cases h1 : snErr l = 0
  rotate_left
  · rw [if_neg h1, if_neg h1]
    have b1 : (snErr l != 0) = true := by simpa using h1
    generalize snErr l = E at *
    clear h1 hL
    go_enter Try.func27, Try.ntmps27
    go_wp2_with (go_at_call 11; (with_reducible refine (cC _ hu).mono ?_); rintro e w1 ⟨rfl, hb⟩; replace hu := hu.call hb; clear hb)
    go_ret2
    exact ⟨rfl, hu⟩
  have hG := snErr_zero.1 h1
  have cP := fun u (hu : Calm w u) => snPosition_any A c l x u (by have := hG.1; omega) (hL.calm hu) hG.2.2
  rw [if_pos h1]
  rw [h1] at cC
  by_cases h2 : hitN l x = true
  · rw [if_pos h2, if_pos rfl]
    rw [h2] at cP
    generalize posN l x = P at cP ⊢
    clear h1 h2 hL hG
    go_enter Try.func27, Try.ntmps27
    go_wp2_with (first
      | (go_at_call 11; (with_reducible refine (cC _ hu).mono ?_); rintro e w1 ⟨rfl, hb⟩; replace hu := hu.call hb; clear hb cC)
      | (go_at_call 24; (with_reducible refine (cP _ hu).mono ?_); rintro e w2 ⟨rfl, hb⟩; replace hu := hu.call hb; clear hb cP))
    go_ret2
    exact ⟨rfl, hu⟩
  · rw [if_neg h2, if_neg (by decide)]
    rw [show hitN l x = false from by simpa using h2] at cP
    generalize posN l x = P at cP
    clear h1 h2 hL hG
    go_enter Try.func27, Try.ntmps27
    go_wp2_with (first
      | (go_at_call 11; (with_reducible refine (cC _ hu).mono ?_); rintro e w1 ⟨rfl, hb⟩; replace hu := hu.call hb; clear hb cC)
      | (go_at_call 24; (with_reducible refine (cP _ hu).mono ?_); rintro e w2 ⟨rfl, hb⟩; replace hu := hu.call hb; clear hb cP))
    go_ret2
    exact ⟨rfl, hu⟩
set_option maxHeartbeats 4000000 in
theorem snFind_any (A : Option Addr) (c : Nat) (l : List Sn) (x : ByteArray) (w : World) (hn : l.length ≤ 9223372036854775807) (hS : Szs l) (hL : LiesN w A l) :
    Calls Try.prog 8 #[.slice A l.length c, .string x] w fun e w' => e = .returned (.tuple #[.int .i64 (fiT l x), .int .i64 (fiErr l x)]) ∧ Calm w w' := by
  have cF := snfind_any A c l x w hn hS hL
  unfold fiT
  by_cases h1 : fiErr l x = 0
  rotate_left
  · rw [if_neg h1]
    have b1 : (fiErr l x != 0) = true := by simpa using h1
    generalize fiErr l x = E at *
    generalize fiPos l x = P at cF
    clear h1 hL
    go_enter Try.func8, Try.ntmps8
    go_wp2_with (go_at_call 27; (with_reducible refine cF.mono ?_); rintro e w1 ⟨rfl, hb⟩)
    go_ret2
    exact ⟨rfl, hb⟩
  have hh : hitN l x = true := by
    unfold fiErr at h1
    split at h1
    · split at h1
      · assumption
      · cases h1
    · contradiction
  obtain ⟨s, hs, -⟩ := hit_at hh
  have hp : fiPos l x = posN l x := by unfold fiPos; rw [if_pos h1]
  rw [if_pos h1, hs, h1]
  rw [h1, hp] at cF
  have hlt : posN l x < l.length := (List.getElem?_eq_some_iff.1 hs).1
  generalize posN l x = P at *
  obtain ⟨b, q, nm, td, rfl, hb, HE, c0, c1⟩ := sn_get hL hlt
  obtain rfl : s = ⟨nm, td⟩ := by have := hs.symm.trans HE.out; injection this
  simp only
  clear h1 hh hs hp HE hL
  go_enter Try.func8, Try.ntmps8
  go_wp2_with (go_at_call 27; (with_reducible refine cF.mono ?_); rintro e w1 ⟨rfl, hb1⟩; have hvc := hb1.facts.1; replace c0 := (hvc _ _ hb).trans c0; replace c1 := (hvc _ _ hb).trans c1; have hb2 : b < w1.heap.size := Nat.lt_of_lt_of_le hb hb1.size; clear hvc)
  go_ret2
  exact ⟨rfl, hb1⟩
open Go.ChangeShapes Go.WideShapes Go.ChangeAt Go.RowKit
section
variable {H : Type} {enc : TypeId × Value → H} {w : World} {base : Nat} {spare : Nat → Bool} {held : Bool}
theorem cellsSnap : Try.prog.cellsOf 35 = 2 := by kernel_rfl
theorem snap_cells {fuel : Nat} {cs : List Value} {x : DataW H × List MemPlace} (h : DataW.trod enc Try.prog w base spare held fuel 35 cs = some x) : ∃ s : Sn, cs = snV s ∧ s.nm.size ≤ maxLen := by
 obtain ⟨y0, y1, n, hd, hl, h0, h1⟩ := trod_struct2 Try.underlying35 h
 obtain ⟨s, e0, _, q0⟩ := DataW.trod_string Try.underlying9 h0
 obtain ⟨i, e1, _, _⟩ := DataW.trod_int Try.underlying3 h1
 simp only [cellsInt, cellsStr, cellsSnap] at e0 e1 hl
 match cs, hl with
 | [c0, c1], _ =>
  simp at e0 e1
  exact ⟨⟨s, i⟩, by rw [e0, e1]; rfl, q0⟩
variable {r : Reach} {b0 : Nat} {v : Value} {d : DataW H} {ps : List MemPlace}
theorem open_snaps (hv : Value.okWide Try.prog w r b0 22 v) (h : DataW.Trod enc Try.prog w base spare held 22 v d ps) :
    ∃ (A : Option Addr) (c : Nat) (l : List Sn), v = .slice A l.length c ∧ l.length ≤ 9223372036854775807 ∧ Szs l ∧ LiesN w A l := by
  obtain ⟨A0, len, cap, rfl⟩ := okWide_slice Try.underlying22 hv
  obtain ⟨fuel, hf⟩ := h
  obtain ⟨A, c, l, e1, le1, -, wf1, at1, -⟩ := rows_open (α := Sn) snV (fun s => s.nm.size ≤ maxLen) 2 Try.underlying22 cellsSnap (by omega) (fun fuel cs x hx => snap_cells hx) hf
  have e2 : Value.slice A0 len cap = .slice A l.length c := by simpa [Value.cells] using e1
  rw [e2]
  exact ⟨A, c, l, rfl, le1, wf1, at1⟩
end
def snA : Sn := ⟨{ data := #[97] }, 5⟩
def insL {α : Type} (l : List α) (i : Nat) (a : α) : List α := l.take i ++ a :: l.drop i
def delL {α : Type} (l : List α) (i : Nat) : List α := l.take i ++ l.drop (i + 1)
open Go.RowKit
theorem spl_at {cur cs : List Value} {o : Nat} (h : o + cs.length ≤ cur.length) (j : Nat) : (spl cur o cs)[j]? = if j < o then cur[j]? else if j < o + cs.length then cs[j - o]? else cur[j]? := by
 unfold spl
 rw [List.append_assoc, List.getElem?_append, List.length_take, Nat.min_eq_left (by omega)]
 split
 ·rw [List.getElem?_take, if_pos (by assumption)]
 ·rw [List.getElem?_append]
  split
  ·rw [if_pos (by omega)]
  ·rw [if_neg (by omega), List.getElem?_drop]; congr 1; omega
def insC (xs : List Value) (p : Nat) (nc : List Value) : List Value := xs.take p ++ nc ++ xs.drop p
theorem insC_len {xs nc : List Value} {p : Nat} (hp : p ≤ xs.length) : (insC xs p nc).length = xs.length + nc.length := by
 unfold insC; rw [List.length_append, List.length_append, List.length_take, List.length_drop]; omega
theorem insC_at {xs nc : List Value} {p : Nat} (hp : p ≤ xs.length) (j : Nat) : (insC xs p nc)[j]? = if j < p then xs[j]? else if j < p + nc.length then nc[j - p]? else xs[j - nc.length]? := by
 unfold insC
 rw [List.append_assoc, List.getElem?_append, List.length_take, Nat.min_eq_left hp]
 split
 ·rw [List.getElem?_take, if_pos (by assumption)]
 ·rw [List.getElem?_append]
  split
  ·rw [if_pos (by omega)]
  ·rw [if_neg (by omega), List.getElem?_drop]; congr 1; omega
theorem shift_row {cur xs nc : List Value} {p q N : Nat} (hx : xs.length = q) (hc : cur.take q = xs) (hp : p ≤ q) (hn : nc.length = N) (hs : q + N ≤ cur.length) :
    (spl (spl cur (p + N) (xs.drop p)) p nc).take (q + N) = insC xs p nc ∧ (spl (spl cur (p + N) (xs.drop p)) p nc).length = cur.length := by
  have hd : (xs.drop p).length = q - p := by rw [List.length_drop, hx]
  have h1 : (spl cur (p + N) (xs.drop p)).length = cur.length := spl_len (by omega)
  refine ⟨?_, by rw [spl_len (by omega), h1]⟩
  apply List.ext_getElem?
  intro j
  have hcj : ∀ k, k < q → cur[k]? = xs[k]? := fun k hk => by rw [← hc, List.getElem?_take, if_pos hk]
  rw [List.getElem?_take, insC_at (by omega), spl_at (by omega), spl_at (by omega)]
  by_cases hj : j < q + N
  · rw [if_pos hj]
    by_cases h1 : j < p
    · rw [if_pos h1, if_pos h1, if_pos (by omega)]; exact hcj j (by omega)
    · rw [if_neg h1, if_neg h1]
      by_cases h2 : j < p + nc.length
      · rw [if_pos h2, if_pos h2]
      · rw [if_neg h2, if_neg h2, if_neg (by omega), if_pos (by omega), List.getElem?_drop]; congr 1; omega
  · rw [if_neg hj, if_neg (by omega), if_neg (by omega), List.getElem?_eq_none (by omega)]
theorem fresh_row {cur xs nc : List Value} {p q N : Nat} (hx : xs.length = q) (hc : cur.take p = xs.take p) (hp : p ≤ q) (hn : nc.length = N) (hs : q + N ≤ cur.length) :
    (spl (spl cur p nc) (p + N) (xs.drop p)).take (q + N) = insC xs p nc ∧ (spl (spl cur p nc) (p + N) (xs.drop p)).length = cur.length := by
  have hd : (xs.drop p).length = q - p := by rw [List.length_drop, hx]
  have h1 : (spl cur p nc).length = cur.length := spl_len (by omega)
  refine ⟨?_, by rw [spl_len (by omega), h1]⟩
  apply List.ext_getElem?
  intro j
  have hcj : ∀ k, k < p → cur[k]? = xs[k]? := fun k hk => by
    have := congrArg (·[k]?) hc
    simp only [List.getElem?_take, if_pos hk] at this
    exact this
  rw [List.getElem?_take, insC_at (by omega), spl_at (by omega), spl_at (by omega)]
  by_cases hj : j < q + N
  · rw [if_pos hj]
    by_cases h1 : j < p
    · rw [if_pos (by omega), if_pos h1, if_pos h1]; exact hcj j (by omega)
    · rw [if_neg h1, if_neg h1]
      by_cases h2 : j < p + nc.length
      · rw [if_pos h2, if_pos (by omega), if_pos h2]
      · have a1 : ¬ j < p + N := by omega
        have a2 : j < p + N + (xs.drop p).length := by omega
        simp only [if_neg a1, if_pos a2, if_neg h2]
        rw [List.getElem?_drop]; congr 1; omega
  · rw [if_neg hj, if_neg (by omega), if_neg (by omega), List.getElem?_eq_none (by omega)]
def RowEnd (base : Nat) (T : TypeId) (N : Nat) (w : World) (v : Value) (n : Nat) (xs : List Value) (e : Ending) (w' : World) : Prop :=
 ∃ v', e = .returned v' ∧ w'.ownsRow base T N v' n xs ∧ w.grownBy w' v.ownBlock ∧ (v'.ownBlock = v.ownBlock ∨ ∃ k, v'.ownBlock = some k ∧ w.heap.size ≤ k)
open Go.RowKit
def delC (xs : List Value) (p N : Nat) : List Value := xs.take p ++ xs.drop (p + N)
theorem delC_len {xs : List Value} {p N : Nat} (h : p + N ≤ xs.length) : (delC xs p N).length = xs.length - N := by
 unfold delC; rw [List.length_append, List.length_take, List.length_drop]; omega
theorem del_row {cur xs z : List Value} {p q N : Nat} (hx : xs.length = q + N) (hc : cur.take (q + N) = xs) (hp : p ≤ q) (hz : z.length = N) (hs : q + N ≤ cur.length) :
    (spl (spl cur p (xs.drop (p + N))) q z).take q = delC xs p N ∧ (spl (spl cur p (xs.drop (p + N))) q z).length = cur.length := by
  have hl : (xs.drop (p + N)).length = q - p := by rw [List.length_drop]; omega
  have h1 : cur.take p = xs.take p := by rw [← hc, List.take_take]; congr 1; omega
  have hlt : (xs.take p).length = p := by rw [List.length_take]; omega
  have h3 : (spl cur p (xs.drop (p + N))).length = cur.length := spl_len (by omega)
  have h2 : (spl cur p (xs.drop (p + N))).take q = delC xs p N := by
    unfold spl
    rw [h1]
    exact List.take_left' (by rw [List.length_append, hlt, hl]; omega)
  generalize spl cur p (xs.drop (p + N)) = c1 at h2 h3 ⊢
  refine ⟨?_, by rw [spl_len (by omega)]; exact h3⟩
  rw [← h2]
  unfold spl
  rw [List.append_assoc]
  exact List.take_left' (by rw [List.length_take]; omega)
theorem delL_len' {α : Type} {l : List α} {i : Nat} (hi : i < l.length) : (delL l i).length = l.length - 1 := by
 unfold delL; rw [List.length_append, List.length_take, List.length_drop]; omega
open Go.RowKit
theorem infoSnP : (Try.prog.info? 35).map (fun i => (i.zero, i.size, i.bytes)) = some (some (.agg #[.string ByteArray.empty, .int .i64 0]), 2, 24) := by kernel_rfl
theorem sizeP : ∀ w, (Go.sizeOf 35).run Try.prog w = .ok 2 w := fun _ => by kernel_rfl
theorem infosP : (Try.prog.info? 35).map (·.size) = some 2 := by kernel_rfl
theorem copyP (w : World) (ty : TypeId) (g o dLen dCap : Nat) (a : Addr) (sLen sCap : Nat) (cur : List Value) (t : TypeId) (cs : List Value)
    (hg : w.heap[g]? = some (.cells cur.toArray t (0, 0))) (hn : cs.length = Nat.min sLen dLen * 2)
    (hsrc : ∀ j v, cs[j]? = some v → w.cell? (a.add j) = some v) (hfit : o + cs.length ≤ cur.length) (h1 : ∀ v ∈ cs, v.oneCell' = true) :
    (Builtin.copy_ #[22, 22] ty #[.slice (some ⟨g, o, none⟩) dLen dCap, .slice (some a) sLen sCap]).run Try.prog w =
      .ok (goInt (Nat.min sLen dLen)) (w.setRow g (spl cur o cs).toArray) := by
  have hl := run_loadCells_list (P := Try.prog) w a cs hsrc
  have hst := run_storeCells_at Try.prog g o t cs 0 cur.toArray w hg (by simpa using hfit) h1
  have hs := infosP
  cases hq : Try.prog.info? 35 with
  | none => simp [hq] at hs
  | some i =>
    have hi : i.size = 2 := by simpa [hq] using hs
    have hn' : cs.length = Nat.min sLen dLen * i.size := by rw [hi]; exact hn
    rw [hi] at hn'
    simp [Builtin.copy_, run_underlying Try.underlying22, Builtin.lenOf, Builtin.firstCells, typeInfo, hq, hi, ← hn, hl, hst, spl]
set_option maxHeartbeats 8000000 in
theorem insP_shift (g h i n cap : Nat) (xs cur nc : List Value) (w : World) (hxl : xs.length = n * 2) (hi : i < n) (hn4 : n ≤ 400) (hroom : n + 1 ≤ cap) (hc63 : cap ≤ 9223372036854775807)
    (hg : w.heap[g]? = some (.cells cur.toArray 35 (0, 0))) (hs : cur.length = cap * 2) (ht : cur.take (n * 2) = xs) (hh : w.heap[h]? = some (.cells nc.toArray 35 (0, 0))) (hnc : nc.length = 2) (ho1 : ∀ u ∈ nc, u.oneCell' = true) (hx1 : ∀ u ∈ xs, u.oneCell' = true) (hne : h ≠ g) :
    Calls Try.prog 25 #[.slice (some ⟨g, 0, none⟩) n cap, .int .i64 i, .slice (some ⟨h, 0, none⟩) 1 1] w fun e w' => e = .returned (.slice (some ⟨g, 0, none⟩) (n + 1) cap) ∧
      w'.heap[g]? = some (.cells (spl (spl cur ((i + 1) * 2) (xs.drop (i * 2))) (i * 2) nc).toArray 35 (0, 0)) ∧ w.grownBy w' (some g) := by
  have hov : ∀ lb cb, (callFunc 46 #[.slice (some ⟨h, 0, none⟩) 1 1, .slice (some ⟨g, (i + 1) * 2, none⟩) lb cb]).run Try.prog w = .ok (.value (.bool false)) w := fun lb cb => by
    rw [run_callFunc_extern Try.func46 (by kernel_rfl) (by kernel_rfl) (by kernel_rfl) (e := Extern.SlicesOverlaps.overlaps #[22, 22] #[4]) (by kernel_rfl),
      Lib.run_overlaps_apart w 22 4 35 Try.underlying22 2 sizeP ⟨h, 0, none⟩ ⟨g, (i + 1) * 2, none⟩ 1 1 lb cb hne 35 35 nc.toArray.size cur.toArray.size (by simp [World.shape?, hh]) (by simp [World.shape?, hg]) (by rw [List.size_toArray, hs]; omega) (frozen_of_row _ _ _ _ _ hh) (frozen_of_row _ _ _ _ _ hh)]
    rfl
  have hdl : (xs.drop (i * 2)).length = (n - i) * 2 := by rw [List.length_drop, hxl]; try omega
  have hd1 : ∀ u ∈ xs.drop (i * 2), u.oneCell' = true := fun u hu => hx1 u (List.mem_of_mem_drop hu)
  have hcell : ∀ j v, (xs.drop (i * 2))[j]? = some v → w.cell? ⟨g, i * 2 + j, none⟩ = some v := fun j v hj => by
    have hj2 : j < (n - i) * 2 := by rw [← hdl]; exact (List.getElem?_eq_some_iff.1 hj).1
    rw [List.getElem?_drop, ← ht, List.getElem?_take, if_pos (by omega)] at hj
    rw [cell_of_row _ _ _ _ _ _ hg, ← hj, List.getElem?_toArray]
  have hfit1 : (i + 1) * 2 + (xs.drop (i * 2)).length ≤ cur.length := by omega
  obtain ⟨c1, hc1⟩ : ∃ c1, c1 = spl cur ((i + 1) * 2) (xs.drop (i * 2)) := ⟨_, rfl⟩
  have hc1l : c1.length = cur.length := by rw [hc1]; exact spl_len hfit1
  have hcp1 : ∀ ty dc sc, (Builtin.copy_ #[22, 22] ty #[.slice (some ⟨g, (i + 1) * 2, none⟩) (n - i) dc, .slice (some ⟨g, i * 2, none⟩) (n + 1 - i) sc]).run Try.prog w.drew = .ok (goInt (Nat.min (n + 1 - i) (n - i))) (w.drew.setRow g c1.toArray) := fun ty dc sc => by
    rw [hc1]
    refine copyP w.drew ty g ((i + 1) * 2) (n - i) dc ⟨g, i * 2, none⟩ (n + 1 - i) sc cur _ (xs.drop (i * 2)) hg (by rw [hdl]; simp only [Nat.min_def]; split <;> omega) (fun j v hj => ?_) hfit1 hd1
    rw [Addr.add_lit]; exact hcell j v hj
  have hcp2 : ∀ W : World, W.heap = (w.drew.setRow g c1.toArray).heap → ∀ ty dc, (Builtin.copy_ #[22, 22] ty #[.slice (some ⟨g, i * 2, none⟩) (n + 1 - i) dc, .slice (some ⟨h, 0, none⟩) 1 1]).run Try.prog W = .ok (goInt (Nat.min 1 (n + 1 - i))) (W.setRow g (spl c1 (i * 2) nc).toArray) := fun W hW ty dc => by
    refine copyP W ty g (i * 2) (n + 1 - i) dc ⟨h, 0, none⟩ 1 1 c1 35 _ (by rw [hW]; exact setRow_heap _ _ _ _ _ _ hg) (by rw [hnc]; simp only [Nat.min_def]; split <;> omega) (fun j v hj => ?_) (by rw [hnc]; omega) ho1
    have e : (⟨h, 0, none⟩ : Addr).add j = ⟨h, j, none⟩ := by unfold Addr.add; split <;> simp_all
    have hhW : W.heap[h]? = some (.cells nc.toArray 35 (0, 0)) := by rw [hW, setRow_other _ _ _ _ hne]; exact hh
    rw [e, cell_of_row _ _ _ _ _ _ hhW, ← hj, List.getElem?_toArray]
  have hfin : ∀ W : World, W.heap = (w.drew.setRow g c1.toArray).heap → W.os = w.os → W.tape = w.tape → W.output = w.output → (W.setRow g (spl c1 (i * 2) nc).toArray).heap[g]? = some (.cells (spl c1 (i * 2) nc).toArray 35 (0, 0)) ∧ w.grownBy (W.setRow g (spl c1 (i * 2) nc).toArray) (some g) := fun W hW h1 h2 h3 => by
    refine ⟨setRow_heap _ _ c1.toArray _ _ _ (by rw [hW]; exact setRow_heap _ _ _ _ _ _ hg), h1, h2, h3, ?_, fun k hk hne' => ?_⟩
    · rw [show (W.setRow g _).heap.size = W.heap.size by simp, hW]; simp
    · have hkg : k ≠ g := fun e => hne' (by rw [e])
      rw [setRow_other _ _ _ _ hkg, hW, setRow_other _ _ _ _ hkg]
      rfl
  rw [← hc1]
  have hin : i ≤ n := by omega
  have hz2 : ¬ ((i : Int) = (n : Int)) := by omega
  have hw1 : IntKind.i64.wrap ((i : Int) + 1) = (i : Int) + 1 := by rw [IntKind.wrap_i64]; omega
  have hb1 : (0 : Int) ≤ (i : Int) + 1 := by omega
  have htn : ((i : Int) + 1).toNat = i + 1 := by omega
  have hb2 : ¬ (cap = i + 1) := by omega
  have hb3 : (i : Int) ≤ (n : Int) + 1 := by omega
  have hb4 : ¬ (cap = i) := by omega
  have hb5 : (i : Int) < (n : Int) := by omega
  have hb6 : (n : Int) + 1 ≤ (cap : Int) := by omega
  clear hdl hcell hfit1 hc1 hc1l hxl ht hs hg hh hnc ho1 hx1 hd1
  go_enter Try.func25, Try.ntmps25
  go_wp2_with (simp only [hov])
  go_region_law (refine step_copy_known rfl _ _ 22 rfl _ _ (by simp [Act.eval, Act.put]) (by simp [Act.eval, Act.put]) (hcp1 _ _ _) ?_)
  go_wp2_with (at_builtin; refine wpList_copy_known rfl _ _ 22 rfl _ _ rfl rfl (hcp2 _ rfl _ _) ?_)
  go_ret
  exact ⟨rfl, hfin _ rfl rfl rfl rfl⟩
def GrowPEnd (w : World) (n : Nat) (xs nc : List Value) (i : Nat) (e : Ending) (w' : World) : Prop :=
 ∃ (G : Nat) (C : List Value), e = .returned (.slice (some ⟨w.heap.size, 0, none⟩) (n + 1) G) ∧ n + 1 ≤ G ∧ G ≤ maxLen ∧ C.length = G * 2 ∧ C.take (i * 2) = xs.take (i * 2) ∧
  w'.heap[w.heap.size]? = some (.cells (spl (spl C (i * 2) nc) ((i + 1) * 2) (xs.drop (i * 2))).toArray 35 (0, 0)) ∧ Calm w w'
set_option maxHeartbeats 8000000 in
theorem insP_grow (g h i n cap : Nat) (xs cur nc : List Value) (w : World) (hxl : xs.length = n * 2) (hi : i < n) (hn4 : n ≤ 400) (hnc : n ≤ cap) (hroom : cap < n + 1)
    (hg : w.heap[g]? = some (.cells cur.toArray 35 (0, 0))) (ht : cur.take (n * 2) = xs) (hh : w.heap[h]? = some (.cells nc.toArray 35 (0, 0))) (hncl : nc.length = 2) (ho1 : ∀ u ∈ nc, u.oneCell' = true) (hx1 : ∀ u ∈ xs, u.oneCell' = true) :
    Calls Try.prog 25 #[.slice (some ⟨g, 0, none⟩) n cap, .int .i64 i, .slice (some ⟨h, 0, none⟩) 1 1] w (GrowPEnd w n xs nc i) := by
  obtain ⟨i0, hi0, hz0, hzs, hzb⟩ := info_parts infoSnP
  have hgw : g < w.heap.size := (Array.getElem?_eq_some_iff.1 hg).1
  have hhw : h < w.heap.size := (Array.getElem?_eq_some_iff.1 hh).1
  have hcl : ∀ j v, xs[j]? = some v → w.cell? ⟨g, j, none⟩ = some v := fun j v hj => by
    have hj2 : j < n * 2 := by rw [← hxl]; exact (List.getElem?_eq_some_iff.1 hj).1
    rw [← ht, List.getElem?_take, if_pos hj2] at hj
    rw [cell_of_row _ _ _ _ _ _ hg, ← hj, List.getElem?_toArray]
  have hdl : (xs.drop (i * 2)).length = (n - i) * 2 := by rw [List.length_drop, hxl]; try omega
  have hd1 : ∀ u ∈ xs.drop (i * 2), u.oneCell' = true := fun u hu => hx1 u (List.mem_of_mem_drop hu)
  have htl : (xs.take (i * 2)).length = i * 2 := by rw [List.length_take, hxl]; omega
  have hkk : (n : Int) + 1 - (i : Int) = ((n + 1 - i : Nat) : Int) := by omega
  have hik : i + (n + 1 - i) = n + 1 := by omega
  have hold : (Builtin.firstCells i0.size i (.slice (some ⟨g, 0, none⟩) i cap)).run Try.prog w.drew = .ok (xs.take (i * 2)).toArray w.drew := by
    rw [hzs]
    refine run_firstCells_some w.drew 2 i ⟨g, 0, none⟩ i cap (xs.take (i * 2)) (by rw [htl]; try omega) fun j v hj => ?_
    have e : (⟨g, 0, none⟩ : Addr).add j = ⟨g, j, none⟩ := by unfold Addr.add; split <;> simp_all
    rw [e]
    rw [List.getElem?_take] at hj
    split at hj
    · exact hcl j v hj
    · cases hj
  obtain ⟨G, hG⟩ : ∃ G, G = grownCap w (n + 1) cap 35 := ⟨_, rfl⟩
  obtain ⟨Z, hZ⟩ : ∃ Z, i0.zero = some Z ∧ Z.cells.size = 2 := ⟨_, hz0, by kernel_rfl⟩
  obtain ⟨hZ, hZs⟩ := hZ
  obtain ⟨C, hC⟩ : ∃ C : List Value, C = xs.take (i * 2) ++ (Builtin.zeroCells Z.cells (n + 1 - i)).toList ++ (Builtin.zeroCells Z.cells (G - (n + 1))).toList := ⟨_, rfl⟩
  have hGn : n + 1 ≤ G := by rw [hG]; exact grownCap_ge w _ _ _
  have hGm : G ≤ maxLen := by rw [hG]; exact grownCap_le_maxLen w (n + 1) cap _ (by unfold maxLen; omega)
  have hCl : C.length = G * 2 := by
    rw [hC, List.length_append, List.length_append, htl, Array.length_toList, Array.length_toList, size_zeroCells, size_zeroCells, hZs]
    omega
  have hCt : C.take (i * 2) = xs.take (i * 2) := by rw [hC, List.append_assoc]; exact List.take_left' htl
  have hrz : ∀ ty, (Builtin.append_ #[22, 3] ty #[.slice (some ⟨g, 0, none⟩) i cap, .int .i64 ((n : Int) + 1 - (i : Int))]).run Try.prog w = .ok (.slice (some ⟨w.heap.size, 0, none⟩) (n + 1) G) (w.drew.alloc (.cells C.toArray 35)) := fun ty => by
    have h := Lib.run_append_grow_zeros w 22 3 ty 35 i0 _ .i64 .i64 Try.underlying22 Try.underlying3 hi0 hZ (some ⟨g, 0, none⟩) i cap (xs.take (i * 2)) hold (n + 1 - i) (by omega) (by omega) (by omega) (by omega) (by rw [hzb]; omega) (by rw [hzb, hik]; exact growslice_fits hroom (by omega))
    rw [hik, ← hG] at h
    rw [hkk, h, hC]
    exact congrArg (fun x => Result.ok _ (w.drew.alloc (.cells x 35))) (Array.toList_inj.1 (by simp))
  obtain ⟨W1, hW1⟩ : ∃ W1, W1 = w.drew.alloc (.cells C.toArray 35) := ⟨_, rfl⟩
  have hHg : W1.heap[w.heap.size]? = some (.cells C.toArray 35 (0, 0)) := by rw [hW1]; exact heap_alloc_new w.drew _
  have hGg : W1.heap[g]? = some (.cells cur.toArray 35 (0, 0)) := by rw [hW1, Below.heap_alloc w.drew _ _ hgw]; exact hg
  have hHh : W1.heap[h]? = some (.cells nc.toArray 35 (0, 0)) := by rw [hW1, Below.heap_alloc w.drew _ _ hhw]; exact hh
  obtain ⟨c1, hc1⟩ : ∃ c1, c1 = spl C (i * 2) nc := ⟨_, rfl⟩
  have hc1l : c1.length = C.length := by rw [hc1]; exact spl_len (by rw [hncl]; omega)
  have hcpA : ∀ W : World, W.heap = W1.heap → ∀ ty dc, (Builtin.copy_ #[22, 22] ty #[.slice (some ⟨w.heap.size, i * 2, none⟩) (n + 1 - i) dc, .slice (some ⟨h, 0, none⟩) 1 1]).run Try.prog W = .ok (goInt (Nat.min 1 (n + 1 - i))) (W.setRow w.heap.size c1.toArray) := fun W hW ty dc => by
    rw [hc1]
    refine copyP W ty w.heap.size (i * 2) (n + 1 - i) dc ⟨h, 0, none⟩ 1 1 C 35 _ (by rw [hW]; exact hHg) (by rw [hncl]; simp only [Nat.min_def]; split <;> omega) (fun j v hj => ?_) (by rw [hncl]; omega) ho1
    have e : (⟨h, 0, none⟩ : Addr).add j = ⟨h, j, none⟩ := by unfold Addr.add; split <;> simp_all
    rw [e, cell_of_row _ _ _ _ _ _ (by rw [hW]; exact hHh), ← hj, List.getElem?_toArray]
  have hcpB : ∀ W : World, W.heap = (W1.setRow w.heap.size c1.toArray).heap → ∀ ty dc sc, (Builtin.copy_ #[22, 22] ty #[.slice (some ⟨w.heap.size, (i + 1) * 2, none⟩) (n - i) dc, .slice (some ⟨g, i * 2, none⟩) (n - i) sc]).run Try.prog W = .ok (goInt (Nat.min (n - i) (n - i))) (W.setRow w.heap.size (spl c1 ((i + 1) * 2) (xs.drop (i * 2))).toArray) := fun W hW ty dc sc => by
    refine copyP W ty w.heap.size ((i + 1) * 2) (n - i) dc ⟨g, i * 2, none⟩ (n - i) sc c1 35 _ (by rw [hW]; exact setRow_heap _ _ _ _ _ _ hHg) (by rw [hdl]; simp only [Nat.min_def]; split <;> omega) (fun j v hj => ?_) (by rw [hdl]; omega) hd1
    rw [Addr.add_lit, cell_of_row _ _ _ _ _ _ (show W.heap[g]? = _ by rw [hW, setRow_other _ _ _ _ (by omega)]; exact hGg)]
    rw [List.getElem?_drop, ← ht, List.getElem?_take] at hj
    split at hj
    · rw [← hj, List.getElem?_toArray]
    · cases hj
  have hfin : ∀ W : World, W.heap = (W1.setRow w.heap.size c1.toArray).heap → W.os = w.os → W.tape = w.tape → W.output = w.output → (W.setRow w.heap.size (spl c1 ((i + 1) * 2) (xs.drop (i * 2))).toArray).heap[w.heap.size]? = some (.cells (spl c1 ((i + 1) * 2) (xs.drop (i * 2))).toArray 35 (0, 0)) ∧ Calm w (W.setRow w.heap.size (spl c1 ((i + 1) * 2) (xs.drop (i * 2))).toArray) := fun W hW h1 h2 h3 => by
    refine ⟨setRow_heap _ _ c1.toArray _ _ _ (by rw [hW]; exact setRow_heap _ _ _ _ _ _ hHg), h1, h2, h3, ?_, fun k hk => ?_⟩
    · rw [show (W.setRow w.heap.size _).heap.size = W.heap.size by simp, hW, hW1]; simp
    · rw [setRow_other _ _ _ _ (by omega), hW, setRow_other _ _ _ _ (by omega), hW1]
      exact Below.heap_alloc w.drew _ _ hk
  have hGi : ¬ (G = i) := by omega
  have hGim : ¬ (G = i + 1) := by omega
  have hci : ¬ (cap = i) := by omega
  have hG63 : G ≤ 9223372036854775807 := by unfold maxLen at hGm; omega
  have HEND : ∀ w', w'.heap[w.heap.size]? = some (.cells (spl c1 ((i + 1) * 2) (xs.drop (i * 2))).toArray 35 (0, 0)) → Calm w w' → GrowPEnd w n xs nc i (.returned (.slice (some ⟨w.heap.size, 0, none⟩) (n + 1) G)) w' := fun w' h1 h2 =>
    ⟨G, C, rfl, by omega, hGm, hCl, hCt, by rw [hc1] at h1; exact h1, h2⟩
  have hz2 : ¬ ((i : Int) = (n : Int)) := by omega
  have hz3 : (cap : Int) < (n : Int) + 1 := by omega
  have hw1 : IntKind.i64.wrap ((i : Int) + 1) = (i : Int) + 1 := by rw [IntKind.wrap_i64]; omega
  have hb1 : (0 : Int) ≤ (i : Int) + 1 := by omega
  have hin : i ≤ n := by omega
  have htn : ((i : Int) + 1).toNat = i + 1 := by omega
  have hb3 : (i : Int) ≤ (n : Int) := by omega
  subst hW1
  clear hkk hik hold hG hC hGn hGm hCl hCt hc1 hc1l hcl hdl htl hxl ht hg hh hHg hGg hHh hi0 hz0 hzs hzb hgw hhw hZ hZs hncl ho1 hx1 hd1
  go_enter Try.func25, Try.ntmps25
  go_wp2_with (first
    | (at_builtin; refine Lib.wpList_append_run _ rfl _ _ _ _ rfl _ _ rfl rfl _ _ (hrz _) ?_)
    | (refine wpList_copy_known rfl _ _ 22 rfl _ _ rfl rfl (v' := goInt (Nat.min 1 (n + 1 - i))) (w' := ((w.alloc (.cells C.toArray 35)).drew).setRow w.heap.size c1.toArray) (by exact hcpA ((w.alloc (.cells C.toArray 35)).drew) rfl _ _) ?_))
  go_region_law (refine step_copy_known rfl _ _ 22 rfl (.slice (some ⟨w.heap.size, (i + 1) * 2, none⟩) (n - i) (G - (i + 1))) (.slice (some ⟨g, i * 2, none⟩) (n - i) (cap - i)) (by simp [Act.eval, Act.put]) (by simp [Act.eval, Act.put]) (v' := goInt (Nat.min (n - i) (n - i))) (w' := ((((w.alloc (.cells C.toArray 35)).drew).setRow w.heap.size c1.toArray).drew).setRow w.heap.size (spl c1 ((i + 1) * 2) (xs.drop (i * 2))).toArray) (by exact hcpB ((((w.alloc (.cells C.toArray 35)).drew).setRow w.heap.size c1.toArray).drew) rfl _ _ _) ?_)
  go_wp2_with fail
  go_ret
  exact HEND _ (hfin ((((w.alloc (.cells C.toArray 35)).drew).setRow w.heap.size c1.toArray).drew) rfl rfl rfl rfl).1 (hfin ((((w.alloc (.cells C.toArray 35)).drew).setRow w.heap.size c1.toArray).drew) rfl rfl rfl rfl).2
set_option maxHeartbeats 8000000 in
theorem insP_own (base h i n : Nat) (v : Value) (xs nc : List Value) (w : World) (hi : i ≤ n) (hn4 : n ≤ 400) (ho : w.ownsRow base 35 2 v n xs) (hb : base ≤ w.heap.size)
    (hh : w.heap[h]? = some (.cells nc.toArray 35 (0, 0))) (hnc : nc.length = 2) (ho1 : ∀ u ∈ nc, u.oneCell' = true) (hx1 : ∀ u ∈ xs, u.oneCell' = true) (hne : v.ownBlock ≠ some h) :
    Calls Try.prog 25 #[v, .int .i64 i, .slice (some ⟨h, 0, none⟩) 1 1] w (RowEnd base 35 2 w v (n + 1) (insC xs (i * 2) nc)) := by
  have hxl := ho.1
  have hend : i = n → insC xs (i * 2) nc = xs ++ nc := fun h => by unfold insC; rw [h, List.take_of_length_le (by omega), List.drop_of_length_le (by omega), List.append_nil]
  have hnews : ∀ (j : Nat) u, nc[j]? = some u → w.cell? ((⟨h, 0, none⟩ : Addr).add j) = some u := fun j u hj => by
    have : (⟨h, 0, none⟩ : Addr).add j = ⟨h, j, none⟩ := by unfold Addr.add; split <;> simp_all
    rw [this, cell_of_row w h j _ _ _ hh, ← hj, List.getElem?_toArray]
  obtain ⟨i0, hi0, hz0, hz1, hz2⟩ := info_parts infoSnP
  have hnl : nc.length = 1 * 2 := by omega
  have HN := Lib.hid hnews
  have HO := Lib.hid ho
  have HO1 := Lib.hid ho1
  have HNL := Lib.hid hnl
  have HI0 : Hid (Try.prog.info? 35 = some i0) := hi0
  have HZ0 := Lib.hid hz0
  have HZ1 := Lib.hid hz1
  have HZ2 := Lib.hid hz2
  clear hnews hnl hi0 hz0 hz1 hz2
  rcases id ho.2 with ⟨rfl, hl0⟩ | ⟨g, cap, cur, rfl, hbg, hg, hnc', hcm, hcs, ht⟩
  · have h0 : i = n := by omega
    rw [hend h0]
    have h1 : i = 0 := by omega
    subst h1
    have hll : n + 1 ≤ maxLen := by unfold maxLen; omega
    have hlb : (n + 1) * 24 ≤ 140737488355328 := by omega
    clear ho hend hi h0 hxl hl0
    go_enter Try.func25, Try.ntmps25
    go_wp2_with (at_builtin; refine wpList_append_own_at _ rfl _ _ 22 rfl base 35 i0 _ 2 24 Try.underlying22 HI0.out HZ0.out HZ1.out HZ2.out rfl (by decide) _ _ _ rfl HO.out ⟨h, 0, none⟩ 1 1 nc rfl HNL.out HN.out HO1.out hll hlb hb ?_; intro v' w9 r1 r2 _ r4)
    have HE : Hid (RowEnd base 35 2 w (.slice none 0 0) (n + 1) (xs ++ nc) (.returned v') w9) := show RowEnd _ _ _ _ _ _ _ _ _ from ⟨_, rfl, r1, r2, r4.imp id fun h => ⟨_, h, Nat.le_refl _⟩⟩
    clear r1 r2 r4
    go_wp2_with fail
    go_ret
    exact HE.out
  · have hcs' : cur.toList.length = cap * 2 := by simpa using hcs
    have hg' : w.heap[g]? = some (.cells cur.toList.toArray 35 (0, 0)) := by simpa using hg
    have hc63 : cap ≤ 9223372036854775807 := by unfold maxLen at hcm; exact hcm
    by_cases hin : i = n
    · rw [hend hin]
      have hll : n + 1 ≤ maxLen := by unfold maxLen; omega
      have hlb : (n + 1) * 24 ≤ 140737488355328 := by omega
      clear ho hend hi hcs' hg' ht hcs hxl
      subst hin
      by_cases hci : cap = i
      all_goals
        first | (have hci' := hci.symm; subst hci') | skip
        go_enter Try.func25, Try.ntmps25
        go_wp2_with (at_builtin; refine wpList_append_own_at _ rfl _ _ 22 rfl base 35 i0 _ 2 24 Try.underlying22 HI0.out HZ0.out HZ1.out HZ2.out rfl (by decide) _ _ _ rfl HO.out ⟨h, 0, none⟩ 1 1 nc rfl HNL.out HN.out HO1.out hll hlb hb ?_; intro v' w9 r1 r2 _ r4)
        have HE : Hid (RowEnd base 35 2 w (.slice (some ⟨g, 0, none⟩) i _) (i + 1) (xs ++ nc) (.returned v') w9) := show RowEnd _ _ _ _ _ _ _ _ _ from ⟨_, rfl, r1, r2, r4.imp id fun h => ⟨_, h, Nat.le_refl _⟩⟩
        clear r1 r2 r4
        go_wp2_with fail
        go_ret
        exact HE.out
    · have hfit := fun p : Nat => hn4
      by_cases hroom : n + 1 ≤ cap
      · refine (insP_shift g h i n cap xs cur.toList nc w (by omega) (by omega) hn4 hroom hc63 hg' (by omega) (by simpa using ht) hh hnc ho1 hx1 (fun e => hne (by simp [Value.ownBlock, e]))).mono fun e w' ⟨he, hr, hgr⟩ => ⟨_, he, ?_, hgr, .inl rfl⟩
        obtain ⟨q1, q2⟩ := shift_row (cur := cur.toList) (xs := xs) (nc := nc) (p := i * 2) (q := n * 2) (N := 2) (by omega) (by simpa using ht) (by omega) hnc (by omega)
        rw [show i * 2 + 2 = (i + 1) * 2 by omega] at q1 q2
        exact ⟨by rw [insC_len (by omega)]; omega, .inr ⟨g, cap, _, rfl, hbg, hr, by omega, hcm, by simp only [List.size_toArray]; omega, by simp only [List.toList_toArray]; rw [show (n + 1) * 2 = n * 2 + 2 by omega]; exact q1⟩⟩
      · refine (insP_grow g h i n cap xs cur.toList nc w (by omega) (by omega) hn4 hnc' (by omega) hg' (by simpa using ht) hh hnc ho1 hx1).mono fun e w' ⟨G, C, he, h1, h2, h3, h4, hr, hc⟩ => ⟨_, he, ?_, hc.grownBy _, .inr ⟨_, rfl, Nat.le_refl _⟩⟩
        obtain ⟨q1, q2⟩ := fresh_row (cur := C) (xs := xs) (nc := nc) (p := i * 2) (q := n * 2) (N := 2) (by omega) h4 (by omega) hnc (by omega)
        rw [show i * 2 + 2 = (i + 1) * 2 by omega] at q1 q2
        exact ⟨by rw [insC_len (by omega)]; omega, .inr ⟨_, G, _, rfl, hb, hr, by omega, h2, by simp only [List.size_toArray]; omega, by simp only [List.toList_toArray]; rw [show (n + 1) * 2 = n * 2 + 2 by omega]; exact q1⟩⟩
open Go.RowKit
/-- append(s[:i], s[j:]...) in a row with room for it, as a step of a region that draws. -/
theorem stepDelP {ops : Array Oper} {o : Oper} {a : Act} {w : World} {K : Act → World → Prop} {Q : Exit → Act → World → Prop} {E : Prop} (hgd : o.guard = none) (s x : Operand)
    (hop : o.op = Op.call { callee := Callee.builtin Builtin.append, args := #[s, x], argTypes := #[22, 22] })
    (g n cap : Nat) (hs : a.eval s = .slice (some ⟨g, 0, none⟩) n cap) (ad : Addr) (m c : Nat) (hx : a.eval x = .slice (some ad) m c) (cur : List Value) (hg : w.heap[g]? = some (.cells cur.toArray 35 (0, 0)))
    (news : List Value) (hl : news.length = m * 2) (hnews : ∀ j u, news[j]? = some u → w.cell? (ad.add j) = some u) (h1 : ∀ u ∈ news, u.oneCell' = true) (hroom : n + m ≤ cap) (hfit : n * 2 + news.length ≤ cur.length)
    (hK : K (a.put o.dst (.slice (some ⟨g, 0, none⟩) (n + m) cap)) (w.setRow g (spl cur (n * 2) news).toArray)) : if Region.wanted o (yielded ops a.tmps) = true then Oper.wp Try.prog o a w K Q else E := by
  have hw : Region.wanted o (yielded ops a.tmps) = true := by simp [Region.wanted, hgd]
  rw [if_pos hw]
  obtain ⟨i0, hi, hz0, hz1, hz2⟩ := info_parts infoSnP
  have hr := run_append_room (P := Try.prog) w 22 o.type 35 i0 Try.underlying22 hi g n cap cur.toArray hg ad m c news (by rw [hz1]; exact hl) hnews h1 hroom (by rw [hz1]; simpa using hfit)
  rw [hz1] at hr
  unfold Oper.wp
  simp only [execOp, hop, resolve, invoke, builtin, Sem.run_bind, Sem.run_pure, Result.andThen_ok, List.map_toArray, List.map_cons, List.map_nil, hs, hx, hr]
  exact hK
def zeroDP : List Value := [.string ByteArray.empty, .int .i64 0]
theorem clearDP (w : World) (ty : TypeId) (g o c : Nat) (cur : List Value) (hg : w.heap[g]? = some (.cells cur.toArray 35 (0, 0))) (hfit : o + 2 ≤ cur.length) :
    (Builtin.clear_ #[22] ty #[.slice (some ⟨g, o, none⟩) 1 c]).run Try.prog w = .ok (.tuple #[]) (w.setRow g (spl cur o zeroDP).toArray) := by
  have hzc : (Builtin.zeroCells (Value.cells (.agg #[.string ByteArray.empty, .int .i64 0])) 1).toList = zeroDP := by kernel_rfl
  have hzd : (Builtin.zeroCells (Value.cells (.agg #[.string { data := #[] }, .int .i64 0])) 1).toList = zeroDP := hzc
  have hst := run_storeCells_at Try.prog g o 35 zeroDP 0 cur.toArray w hg (by simp [zeroDP]; omega) (by intro u hu; simp only [zeroDP, List.mem_cons, List.not_mem_nil, or_false] at hu; rcases hu with rfl | rfl <;> rfl)
  simp [Builtin.clear_, run_underlying Try.underlying22, hzd, hst, spl]
set_option maxHeartbeats 8000000 in
theorem delP_own (base g i n cap : Nat) (xs : List Value) (w : World) (hi : i < n) (hn4 : n ≤ 400) (hx1 : ∀ u ∈ xs, u.oneCell' = true) (ho : w.ownsRow base 35 2 (.slice (some ⟨g, 0, none⟩) n cap) n xs) :
    Calls Try.prog 28 #[.slice (some ⟨g, 0, none⟩) n cap, .int .i64 i, .int .i64 ((i : Int) + 1)] w (RowEnd base 35 2 w (.slice (some ⟨g, 0, none⟩) n cap) (n - 1) (delC xs (i * 2) 2)) := by
  have hxl := ho.1
  rcases id ho.2 with ⟨h, _⟩ | ⟨g', cap', cur0, hv, hbg, hg0, hnc, hcm, hcs, ht⟩
  · cases h
  injection hv with h1 h2 h3
  injection h1 with h1
  injection h1 with h1
  subst h1; subst h3
  clear ho h2
  obtain ⟨cur, rfl⟩ : ∃ cur : List Value, cur.toArray = cur0 := ⟨cur0.toList, by simp⟩
  simp only [List.size_toArray] at hcs ht
  have hc63 : cap ≤ 9223372036854775807 := by unfold maxLen at hcm; exact hcm
  have hdl : (xs.drop (i * 2 + 2)).length = (n - (i + 1)) * 2 := by rw [List.length_drop, hxl]; omega
  have hfit1 : i * 2 + (xs.drop (i * 2 + 2)).length ≤ cur.length := by omega
  obtain ⟨A, hA, hsrc⟩ : ∃ A : Addr, (if cap = i + 1 then some (⟨g, 0, none⟩ : Addr) else some ⟨g, (i + 1) * 2, none⟩) = some A ∧ Hid (∀ j u, (xs.drop (i * 2 + 2))[j]? = some u → w.drew.cell? (A.add j) = some u) := by
    by_cases h : cap = i + 1
    · refine ⟨⟨g, 0, none⟩, by simp [h], show ∀ _, _ from fun j u hu => ?_⟩
      have h0 : (xs.drop (i * 2 + 2)).length = 0 := by rw [hdl]; omega
      rw [List.eq_nil_of_length_eq_zero h0] at hu; simp at hu
    · refine ⟨⟨g, (i + 1) * 2, none⟩, by simp [h], show ∀ _, _ from fun j u hu => ?_⟩
      have hj : j < (n - (i + 1)) * 2 := by rw [← hdl]; exact (List.getElem?_eq_some_iff.1 hu).1
      rw [List.getElem?_drop, ← ht, List.getElem?_take, if_pos (by omega)] at hu
      rw [Addr.add_lit]
      show w.cell? _ = _
      rw [cell_of_row _ _ _ _ _ _ hg0, ← hu, List.getElem?_toArray]
      try (congr 1; omega)
  obtain ⟨c1, hc1⟩ : ∃ c1, c1 = spl cur (i * 2) (xs.drop (i * 2 + 2)) := ⟨_, rfl⟩
  have hc1l : c1.length = cur.length := by rw [hc1]; exact spl_len (by omega)
  obtain ⟨W1, hW1⟩ : ∃ W1, W1 = w.drew.setRow g c1.toArray := ⟨_, rfl⟩
  have hWg : W1.heap[g]? = some (.cells c1.toArray 35 (0, 0)) := by rw [hW1]; exact setRow_heap _ _ _ _ _ _ hg0
  have hcl : ∀ ty c, (Builtin.clear_ #[22] ty #[.slice (some ⟨g, (n - 1) * 2, none⟩) (n - (n - 1)) c]).run Try.prog W1 = .ok (.tuple #[]) (W1.setRow g (spl c1 ((n - 1) * 2) zeroDP).toArray) := fun ty c => by
    rw [show n - (n - 1) = 1 by omega]; exact clearDP W1 ty g _ c c1 hWg (by omega)
  have HEND : Hid (RowEnd base 35 2 w (.slice (some ⟨g, 0, none⟩) n cap) (n - 1) (delC xs (i * 2) 2) (.returned (.slice (some ⟨g, 0, none⟩) (n - 1) cap)) (W1.setRow g (spl c1 ((n - 1) * 2) zeroDP).toArray)) := show RowEnd _ _ _ _ _ _ _ _ _ from by
    have hfin : (W1.setRow g (spl c1 ((n - 1) * 2) zeroDP).toArray).heap[g]? = some (.cells (spl c1 ((n - 1) * 2) zeroDP).toArray 35 (0, 0)) := setRow_heap _ _ _ _ _ _ hWg
    obtain ⟨q1, q2⟩ := del_row (cur := cur) (xs := xs) (z := zeroDP) (p := i * 2) (q := (n - 1) * 2) (N := 2) (by omega) (by rw [← ht]; congr 1; omega) (by omega) rfl (by omega)
    rw [← hc1] at q1 q2
    refine ⟨_, rfl, ⟨by rw [delC_len (by omega)]; omega, .inr ⟨g, cap, _, rfl, hbg, hfin, by omega, hcm, by simp only [List.size_toArray]; omega, by simp only [List.toList_toArray]; first | exact q1 | (rw [Nat.mul_one]; exact q1)⟩⟩, ⟨by rw [hW1]; rfl, by rw [hW1]; rfl, by rw [hW1]; rfl, by rw [hW1]; simp, fun k _ hne => ?_⟩, .inl rfl⟩
    have hkg : k ≠ g := fun e => hne (by rw [e]; rfl)
    rw [setRow_other _ _ _ _ hkg, hW1, setRow_other _ _ _ _ hkg]
    rfl
  have hW := Lib.hid hW1
  have HC := Lib.hid hc1
  have s1 := Lib.hid hdl
  have s2 : Hid (∀ u ∈ xs.drop (i * 2 + 2), u.oneCell' = true) := show ∀ u ∈ _, _ from fun u hu => hx1 u (List.mem_of_mem_drop hu)
  have s3 : Hid (w.drew.heap[g]? = some (.cells cur.toArray 35 (0, 0))) := hg0
  have s4 := Lib.hid hfit1
  have hic : i ≤ cap := by omega
  have hjc : i + 1 ≤ cap := by omega
  have hb5 : (i : Int) < (n : Int) := by omega
  have hb6 : (i : Int) + 1 ≤ (n : Int) := by omega
  have hb7 : ¬ ((i : Int) = (i : Int) + 1) := by omega
  have htn : ((i : Int) + 1).toNat = i + 1 := by omega
  have hb8 : (0 : Int) ≤ (i : Int) + 1 := by omega
  have hb9 : i + (n - (i + 1)) = n - 1 := by omega
  clear hW1 hWg hc1 hdl hfit1 hg0 hcs ht hc1l hxl hx1
  go_enter Try.func28, Try.ntmps28
  go_wp2_with fail
  go_region_law (refine stepDelP rfl (.tmp 22) (.tmp 25) rfl g i cap (by simp [Act.eval, Act.put]) A (n - (i + 1)) (cap - (i + 1)) (by simp [Act.eval, Act.put]) cur s3.out (xs.drop (i * 2 + 2)) s1.out hsrc.out s2.out (by omega) s4.out ?_; try simp only [Nat.mul_one]; rw [← HC.out, ← hW.out])
  go_wp2_with fail
  go_ret
  exact HEND.out
open Go.ChangeShapes Go.WideShapes Go.ChangeAt Go.RowKit
set_option maxHeartbeats 4000000 in
theorem cloneN_any (A : Option Addr) (c : Nat) (l : List Sn) (w : World) (hn : l.length ≤ 1000000) (hL : LiesN w A l) :
    Calls Try.prog 26 #[.slice A l.length c] w fun e w' => ∃ v, e = .returned v ∧ OwnSn w.heap.size w' v l ∧ Calm w w' := by
  rcases A with _ | ⟨b, q, sp⟩
  · have h0 : l = [] := by
      rcases Nat.eq_zero_or_pos l.length with h | h
      · exact List.eq_nil_of_length_eq_zero h
      · obtain ⟨_, _, h1, _⟩ := hL h; cases h1
    subst h0
    have q22 : ∀ (w : World) (n c n' c' : Nat), (binOp .eql 22 (.slice none n c) (.slice none n' c')).run Try.prog w = .ok (.bool true) w := fun w n c n' c' => Lib.run_eql_slice_nil w _ _ none n c n' c' Try.underlying22
    go_enter Try.func26, Try.ntmps26
    go_wp2_with fail
    go_ret
    exact ⟨_, rfl, OwnG.nil _ _ _ _ _, Calm.refl _⟩
  · obtain ⟨i0, hi, hz0, hz1, hz2⟩ := info_parts infoSnP
    have q22 : ∀ (w : World) (a : Addr) (n c n' c' : Nat), (binOp .eql 22 (.slice (some a) n c) (.slice none n' c')).run Try.prog w = .ok (.bool false) w := fun w a n c n' c' => Lib.run_eql_slice_nil w _ _ (some a) n c n' c' Try.underlying22
    have hsrc : Hid (∀ j v, (cvs snV l)[j]? = some v → (w.alloc (.cells #[] 35)).cell? ((⟨b, q, sp⟩ : Addr).add j) = some v) := show ∀ _, _ from fun j v hj => by
      have hlt : j < l.length * 2 := by rw [← cvs_len snV_len]; exact (List.getElem?_eq_some_iff.1 hj).1
      obtain ⟨b', q', hA, hb, _⟩ := hL (by omega)
      injection hA with hA
      injection hA with h1 h2 h3
      subst h1; subst h2; subst h3
      have := (LiesG.cells snV_len (by omega) hL j v hj).2
      have e : (⟨b, q, none⟩ : Addr).add j = ⟨b, q + j, none⟩ := by unfold Addr.add; split <;> simp_all
      rw [e, World.cell?_alloc_lt _ _ _ hb]; exact this
    have HLEN := Lib.hid (cvs_len snV_len l)
    have hone : Hid (∀ u ∈ cvs snV l, u.oneCell' = true) := cvs_one snV_one l
    have hbig : l.length * 24 ≤ 140737488355328 := by omega
    have hmax : l.length ≤ maxLen := by unfold maxLen; omega
    clear hL
    go_enter Try.func26, Try.ntmps26
    go_wp2_with (at_builtin; refine wpList_append_own _ rfl _ _ 22 rfl w.heap.size 35 i0 _ 2 24 Try.underlying22 hi hz0 hz1 hz2 rfl (by decide) _ _ _ rfl (World.ownsRow_made w #[] 0 (Nat.le_refl _) (Nat.zero_le _) (by simp)) ⟨b, q, sp⟩ l.length c (cvs snV l) rfl HLEN.out hsrc.out hone.out (by rw [Nat.zero_add]; exact hmax) (by rw [Nat.zero_add]; exact hbig) (by simp) ?_; intro v' w1 hown hgrow _)
    have hO : OwnSn w.heap.size w1 v' l := by unfold OwnSn OwnG; simpa using hown
    have hC : Calm w w1 := Below.grown ((Calm.refl w).alloc _) hgrow (by simp) (by intro k hk; cases hk; exact Nat.le_refl _)
    clear hown hgrow
    go_wp2_with fail
    go_ret
    exact ⟨_, rfl, hO, hC⟩
theorem cvs_takeN (l : List Sn) (p : Nat) (hp : p ≤ l.length) : (cvs snV l).take (p * 2) = cvs snV (l.take p) := by
 conv => lhs; rw [← List.take_append_drop p l, cvs_app]
 exact List.take_left' (by rw [cvs_len snV_len, List.length_take]; congr 1; omega)
theorem cvs_dropN (l : List Sn) (p : Nat) (hp : p ≤ l.length) : (cvs snV l).drop (p * 2) = cvs snV (l.drop p) := by
 conv => lhs; rw [← List.take_append_drop p l, cvs_app]
 exact List.drop_left' (by rw [cvs_len snV_len, List.length_take]; congr 1; omega)
theorem cvs_insN (l : List Sn) (p : Nat) (s : Sn) (hp : p ≤ l.length) : insC (cvs snV l) (p * 2) (snV s) = cvs snV (insL l p s) := by
 unfold insC insL
 rw [cvs_takeN l p hp, cvs_dropN l p hp, cvs_app, List.append_assoc]
 rfl
theorem cvs_delN (l : List Sn) (p : Nat) (hp : p < l.length) : delC (cvs snV l) (p * 2) 2 = cvs snV (delL l p) := by
 unfold delC delL
 rw [cvs_takeN l p (by omega), show p * 2 + 2 = (p + 1) * 2 from by omega, cvs_dropN l (p + 1) (by omega), cvs_app]
theorem posN_le (l : List Sn) (x : ByteArray) : posN l x ≤ l.length := List.countP_le_length
def adErr (l : List Sn) (x : ByteArray) (t : Int) : Int := if snErr l = 0 then (if nameOk x = true then (if tidOk t then (if hitN l x = true then 5 else if l.length = 20 then 8 else 0) else 9) else 3) else snErr l
def adL (l : List Sn) (x : ByteArray) (t : Int) : List Sn := if adErr l x t = 0 then insL l (posN l x) ⟨x, t⟩ else []
def drL (l : List Sn) (x : ByteArray) : List Sn := if fiErr l x = 0 then delL l (posN l x) else []
def SnEnd (L : List Sn) (E : Int) (w : World) (e : Ending) (w' : World) : Prop := ∃ v, e = .returned (.tuple #[v, .int .i64 E]) ∧ OwnSn w.heap.size w' v L ∧ Calm w w'
theorem insL_lenN {l : List Sn} {p : Nat} (s : Sn) (hp : p ≤ l.length) : (insL l p s).length = l.length + 1 := by
 unfold insL; rw [List.length_append, List.length_cons, List.length_take, List.length_drop]; omega
set_option maxHeartbeats 8000000 in
theorem snAdd_any (A : Option Addr) (c : Nat) (l : List Sn) (x : ByteArray) (t : Int) (w : World) (hn : l.length ≤ 9223372036854775807) (hS : Szs l) (hx : x.size ≤ maxLen) (hL : LiesN w A l) :
    Calls Try.prog 6 #[.slice A l.length c, .string x, .int .i64 t] w (SnEnd (adL l x t) (adErr l x t) w) := by
  have cC := fun u (hu : Calm w u) => snCheck_any A c l u hn hS (hL.calm hu)
  have cN := fun u => dirName_any x u hx
  have cT := fun u => isTid_any t u
  have hu := Calm.refl w
  by_cases h1 : snErr l = 0
  rotate_left
  · have e1 : adErr l x t = snErr l := by unfold adErr; rw [if_neg h1]
    have e2 : adL l x t = [] := by unfold adL; rw [e1, if_neg h1]
    rw [e1, e2]
    have b1 : (snErr l != 0) = true := by simpa using h1
    generalize snErr l = E at *
    clear e1 e2 h1 hL
    go_enter Try.func6, Try.ntmps6
    go_wp2_with (go_at_call 11; (with_reducible refine (cC _ hu).mono ?_); rintro e w1 ⟨rfl, hb⟩; replace hu := hu.call hb; clear hb cC)
    go_ret2
    exact ⟨_, rfl, OwnG.nil _ _ _ _ _, hu⟩
  have hG := snErr_zero.1 h1
  have e0 : adErr l x t = if nameOk x = true then (if tidOk t then (if hitN l x = true then 5 else if l.length = 20 then 8 else 0) else 9) else 3 := by unfold adErr; rw [if_pos h1]
  rw [h1] at cC
  have cP := fun u (hu : Calm w u) => snPosition_any A c l x u (by have := hG.1; omega) (hL.calm hu) hG.2.2
  have cK := fun u (hu : Calm w u) => cloneN_any A c l u (by have := hG.1; omega) (hL.calm hu)
  by_cases h2 : nameOk x = true
  rotate_left
  · have e1 : adErr l x t = 3 := by rw [e0, if_neg h2]
    have e2 : adL l x t = [] := by unfold adL; rw [e1, if_neg (by decide)]
    rw [e1, e2]
    rw [show nameOk x = false from by simpa using h2] at cN
    clear e0 e1 e2 h1 h2 hG hL
    go_enter Try.func6, Try.ntmps6
    go_wp2_with (first
      | (go_at_call 11; (with_reducible refine (cC _ hu).mono ?_); rintro e w1 ⟨rfl, hb⟩; replace hu := hu.call hb; clear hb cC)
      | (go_at_call 22; (with_reducible refine (cN _).mono ?_); rintro e w2 ⟨rfl, rfl⟩; clear cN))
    go_ret2
    exact ⟨_, rfl, OwnG.nil _ _ _ _ _, hu⟩
  rw [h2] at cN
  by_cases h3 : tidOk t
  rotate_left
  · have e1 : adErr l x t = 9 := by rw [e0, if_pos h2, if_neg h3]
    have e2 : adL l x t = [] := by unfold adL; rw [e1, if_neg (by decide)]
    rw [e1, e2]
    rw [decide_eq_false h3] at cT
    clear e0 e1 e2 h1 h2 h3 hG hL
    go_enter Try.func6, Try.ntmps6
    go_wp2_with (first
      | (go_at_call 11; (with_reducible refine (cC _ hu).mono ?_); rintro e w1 ⟨rfl, hb⟩; replace hu := hu.call hb; clear hb cC)
      | (go_at_call 22; (with_reducible refine (cN _).mono ?_); rintro e w2 ⟨rfl, rfl⟩; clear cN)
      | (go_at_call 23; (with_reducible refine (cT _).mono ?_); rintro e w3 ⟨rfl, rfl⟩; clear cT))
    go_ret2
    exact ⟨_, rfl, OwnG.nil _ _ _ _ _, hu⟩
  rw [decide_eq_true h3] at cT
  by_cases h4 : hitN l x = true
  · have e1 : adErr l x t = 5 := by rw [e0, if_pos h2, if_pos h3, if_pos h4]
    have e2 : adL l x t = [] := by unfold adL; rw [e1, if_neg (by decide)]
    rw [e1, e2]
    rw [h4] at cP
    generalize posN l x = P at cP
    clear e0 e1 e2 h1 h2 h3 h4 hG hL
    go_enter Try.func6, Try.ntmps6
    go_wp2_with (first
      | (go_at_call 11; (with_reducible refine (cC _ hu).mono ?_); rintro e w1 ⟨rfl, hb⟩; replace hu := hu.call hb; clear hb cC)
      | (go_at_call 22; (with_reducible refine (cN _).mono ?_); rintro e w2 ⟨rfl, rfl⟩; clear cN)
      | (go_at_call 23; (with_reducible refine (cT _).mono ?_); rintro e w3 ⟨rfl, rfl⟩; clear cT)
      | (go_at_call 24; (with_reducible refine (cP _ hu).mono ?_); rintro e w4 ⟨rfl, hb⟩; replace hu := hu.call hb; clear hb cP))
    go_ret2
    exact ⟨_, rfl, OwnG.nil _ _ _ _ _, hu⟩
  rw [show hitN l x = false from by simpa using h4] at cP
  by_cases h5 : l.length = 20
  · have e1 : adErr l x t = 8 := by rw [e0, if_pos h2, if_pos h3, if_neg h4, if_pos h5]
    have e2 : adL l x t = [] := by unfold adL; rw [e1, if_neg (by decide)]
    rw [e1, e2]
    generalize posN l x = P at cP
    have b5 : ((l.length : Int) == 20) = true := by rw [h5]; rfl
    have b6 : (l.length : Int) = 20 := by omega
    clear e0 e1 e2 h1 h2 h3 h4 hG hL h5 cK hn
    go_enter Try.func6, Try.ntmps6
    go_wp2_with (first
      | (go_at_call 11; (with_reducible refine (cC _ hu).mono ?_); rintro e w1 ⟨rfl, hb⟩; replace hu := hu.call hb; clear hb cC)
      | (go_at_call 22; (with_reducible refine (cN _).mono ?_); rintro e w2 ⟨rfl, rfl⟩; clear cN)
      | (go_at_call 23; (with_reducible refine (cT _).mono ?_); rintro e w3 ⟨rfl, rfl⟩; clear cT)
      | (go_at_call 24; (with_reducible refine (cP _ hu).mono ?_); rintro e w4 ⟨rfl, hb⟩; replace hu := hu.call hb; clear hb cP))
    go_ret2
    exact ⟨_, rfl, OwnG.nil _ _ _ _ _, hu⟩
  have e1 : adErr l x t = 0 := by rw [e0, if_pos h2, if_pos h3, if_neg h4, if_neg h5]
  have e2 : adL l x t = insL l (posN l x) ⟨x, t⟩ := by unfold adL; rw [if_pos e1]
  rw [e1, e2]
  have hP := posN_le l x
  have hins := cvs_insN l (posN l x) ⟨x, t⟩ hP
  have hil := insL_lenN ⟨x, t⟩ hP
  have h20 := hG.1
  have b6 : ¬ (l.length : Int) = 20 := by omega
  generalize posN l x = P at *
  have HINS := Lib.hid (And.intro hins hil)
  have HP := Lib.hid (And.intro hP h20)
  clear e0 e1 e2 h1 h2 h3 h4 h5 hG hL hins hil hP h20
  go_enter Try.func6, Try.ntmps6
  go_wp2_with (first
    | (go_at_call 11; (with_reducible refine (cC _ hu).mono ?_); rintro e w1 ⟨rfl, hb⟩; replace hu := hu.call hb; clear hb cC)
    | (go_at_call 22; (with_reducible refine (cN _).mono ?_); rintro e w2 ⟨rfl, rfl⟩; clear cN)
    | (go_at_call 23; (with_reducible refine (cT _).mono ?_); rintro e w3 ⟨rfl, rfl⟩; clear cT)
    | (go_at_call 24; (with_reducible refine (cP _ hu).mono ?_); rintro e w4 ⟨rfl, hb⟩; replace hu := hu.call hb; clear hb cP)
    | (go_at_call 26; (with_reducible refine (cK _ hu).mono ?_); rintro e w5 ⟨v5, rfl, ho5, hb⟩; have HO5 := Lib.hid ho5; have hu0 := Lib.hid hu; have hz5 := Lib.hid hu.size; replace hu := hu.call hb; clear ho5 hb cK)
    | (go_at_call 25; (refine (insP_own w.heap.size _ P l.length v5 (cvs snV l) (snV ⟨x, t⟩) _ HP.out.1 (by have := HP.out.2; omega) (OwnG.calm (OwnG.weaken HO5.out hz5.out) ((Calm.refl _).alloc (.cells #[.string x, .int .i64 t] 35 (0, 0)))) (by have := hu.size; simp; omega) (heap_new _ _) rfl (snV_one _) (cvs_one snV_one l) (fun e => by have := (HO5.out.lt _ e).2; simp at this)).mono ?_); rintro e w6 ⟨v6, rfl, ho6, hg6, -⟩; have HO6 := Lib.hid ho6; have hu6 : Calm w w6 := Below.grown (hu.alloc _) hg6 (hu.alloc _).size (fun k hk => (OwnG.lt (OwnG.weaken HO5.out hz5.out) k hk).1); clear ho6 hg6))
  go_ret2
  refine ⟨_, rfl, ?_, hu6⟩
  have h9 := HO6.out
  unfold OwnSn OwnG
  rw [HINS.out.2, ← HINS.out.1]
  exact h9
set_option maxHeartbeats 8000000 in
theorem snDrop_any (A : Option Addr) (c : Nat) (l : List Sn) (x : ByteArray) (w : World) (hn : l.length ≤ 9223372036854775807) (hS : Szs l) (hL : LiesN w A l) :
    Calls Try.prog 7 #[.slice A l.length c, .string x] w (SnEnd (drL l x) (fiErr l x) w) := by
  have cF := fun u (hu : Calm w u) => snfind_any A c l x u hn hS (hL.calm hu)
  have hu := Calm.refl w
  unfold drL
  by_cases h1 : fiErr l x = 0
  rotate_left
  · rw [if_neg h1]
    have b1 : (fiErr l x != 0) = true := by simpa using h1
    generalize fiErr l x = E at *
    generalize fiPos l x = P at cF
    clear h1 hL
    go_enter Try.func7, Try.ntmps7
    go_wp2_with (go_at_call 27; (with_reducible refine (cF _ hu).mono ?_); rintro e w1 ⟨rfl, hb⟩; replace hu := hu.call hb; clear hb)
    go_ret2
    exact ⟨_, rfl, OwnG.nil _ _ _ _ _, hu⟩
  have hz : snErr l = 0 := by
    by_cases h : snErr l = 0
    · exact h
    · unfold fiErr at h1; rw [if_neg h] at h1; exact absurd h1 h
  have hh : hitN l x = true := by
    unfold fiErr at h1
    rw [if_pos hz] at h1
    by_cases h : hitN l x = true
    · exact h
    · rw [if_neg h] at h1; cases h1
  obtain ⟨s, hs, -⟩ := hit_at hh
  have hPl : posN l x < l.length := (List.getElem?_eq_some_iff.1 hs).1
  have h20 := (snErr_zero.1 hz).1
  have hp : fiPos l x = posN l x := by unfold fiPos; rw [if_pos h1]
  have cK := fun u (hu : Calm w u) => cloneN_any A c l u (by omega) (hL.calm hu)
  rw [if_pos h1]
  have hdel := cvs_delN l (posN l x) hPl
  have hdl := delL_len' (l := l) (i := posN l x) hPl
  simp only [h1, hp] at cF ⊢
  generalize posN l x = P at *
  have HD := Lib.hid (And.intro hdel hdl)
  have HP := Lib.hid (And.intro hPl h20)
  have y1 : IntKind.i64.wrap ((P : Int) + 1) = (P : Int) + 1 := IntWalk.i64_in _ (by omega)
  clear h1 hz hh hs hp hdel hdl hL
  go_enter Try.func7, Try.ntmps7
  go_wp2_with (first
    | (go_at_call 27; (with_reducible refine (cF _ hu).mono ?_); rintro e w1 ⟨rfl, hb⟩; replace hu := hu.call hb; clear hb cF)
    | (go_at_call 26; (with_reducible refine (cK _ hu).mono ?_); rintro e w5 ⟨v5, rfl, ho5, hb⟩; have hz5 := Lib.hid hu.size; have HO5 := Lib.hid (OwnG.weaken ho5 hz5.out); obtain ⟨g, cap, rfl⟩ := OwnG.some_ ho5 (by have := HP.out.1; omega); replace hu := hu.call hb; clear ho5 hb cK)
    | (go_at_call 28; (refine (delP_own w.heap.size g P l.length cap (cvs snV l) _ HP.out.1 (by have := HP.out.2; omega) (cvs_one snV_one l) HO5.out).mono ?_); rintro e w6 ⟨v6, rfl, ho6, hg6, -⟩; have HO6 := Lib.hid ho6; have hu6 : Calm w w6 := Below.grown hu hg6 hu.size (fun k hk => (OwnG.lt HO5.out k hk).1); clear ho6 hg6))
  go_ret2
  refine ⟨_, rfl, ?_, hu6⟩
  have h9 := HO6.out
  unfold OwnSn OwnG
  rw [HD.out.2, ← HD.out.1]
  exact h9
theorem sorted_ext {α : Type} {r : α → α → Prop} (ir : ∀ a, ¬ r a a) (asy : ∀ a b, r a b → ¬ r b a) : ∀ {l l' : List α}, l.Pairwise r → l'.Pairwise r → (∀ e, e ∈ l ↔ e ∈ l') → l = l'
 | [], [], _, _, _ => rfl
 | [], y :: l', _, _, h => absurd ((h y).2 (by simp)) (by simp)
 |x :: l, [], _, _, h => absurd ((h x).1 (by simp)) (by simp)
 |x :: l, y :: l', hl, hl', h => by
  rw [List.pairwise_cons] at hl hl'
  have hxy : x = y := by
   rcases List.mem_cons.1 ((h x).1 (by simp)) with h1 | h1
   ·exact h1
   rcases List.mem_cons.1 ((h y).2 (by simp)) with h2 | h2
   ·exact h2.symm
   exact absurd (hl.1 y h2) (asy _ _ (hl'.1 x h1))
  subst hxy
  rw [sorted_ext ir asy hl.2 hl'.2 fun e => ?_]
  constructor
  ·intro he
   rcases List.mem_cons.1 ((h e).1 (by simp [he])) with h1 | h1
   ·subst h1; exact absurd (hl.1 e he) (ir e)
   ·exact h1
  ·intro he
   rcases List.mem_cons.1 ((h e).2 (by simp [he])) with h1 | h1
   ·subst h1; exact absurd (hl'.1 e he) (ir e)
   ·exact h1
theorem posN_spec {l : List Sn} (hS : NS l) (x : ByteArray) : (∀ i (h : i < l.length), i < posN l x → nLt l[i].nm x) ∧ (∀ i (h : i < l.length), posN l x ≤ i → ¬ nLt l[i].nm x) := by
 have hP := List.pairwise_iff_getElem.1 hS
 obtain ⟨c, hc, h1, h2⟩ : ∃ c, c ≤ l.length ∧ (∀ i (h : i < l.length), i < c → nLt l[i].nm x) ∧ (∀ i (h : i < l.length), c ≤ i → ¬ nLt l[i].nm x) := by
  refine ⟨l.findIdx fun s => !decide (nLt s.nm x), List.findIdx_le_length, fun i h hi => ?_, fun i h hi hn => ?_⟩
  ·have := List.not_of_lt_findIdx hi
   simpa using this
  ·have hlt : (l.findIdx fun s => !decide (nLt s.nm x)) < l.length := by omega
   have hat := List.findIdx_getElem (w := hlt)
   simp only [Bool.not_eq_true', decide_eq_false_iff_not] at hat
   rcases Nat.lt_or_eq_of_le hi with h3 | h3
   ·exact hat (nLt_trans (hP _ _ hlt h h3) hn)
   ·exact hat (by simpa only [h3] using hn)
 rw [posN_part hc h1 h2]
 exact ⟨h1, h2⟩
theorem hit_iff {l : List Sn} (hS : NS l) (x : ByteArray) : hitN l x = true ↔ ∃ s ∈ l, s.nm = x := by
 constructor
 ·intro h
  obtain ⟨s, hs, hx⟩ := hit_at h
  exact ⟨s, List.mem_of_getElem? hs, hx⟩
 ·rintro ⟨s, hs, rfl⟩
  obtain ⟨i, hi, rfl⟩ := List.getElem_of_mem hs
  obtain ⟨p1, p2⟩ := posN_spec hS l[i].nm
  have hle : posN l l[i].nm ≤ i := by
   rcases Nat.lt_or_ge i (posN l l[i].nm) with h | h
   ·exact absurd (p1 i hi h) (nLt_irrefl _)
   ·exact h
  have heq : posN l l[i].nm = i := by
   rcases Nat.lt_or_eq_of_le hle with h | h
   ·exact absurd (List.pairwise_iff_getElem.1 hS _ _ (by omega) hi h) (p2 _ (by omega) (Nat.le_refl _))
   ·exact h
  unfold hitN
  rw [heq, List.getElem?_eq_getElem hi]
  show (bc l[i].nm l[i].nm == 0) = true
  rw [bc_eq.2 rfl]; rfl
theorem insL_memN {l : List Sn} {p : Nat} {s e : Sn} : e ∈ insL l p s ↔ e = s ∨ e ∈ l := by
 unfold insL
 rw [List.mem_append, List.mem_cons]
 constructor
 ·rintro (h | h | h)
  ·exact .inr (List.take_subset _ _ h)
  ·exact .inl h
  ·exact .inr (List.drop_subset _ _ h)
 ·rintro (h | h)
  ·exact .inr (.inl h)
  ·rw [← List.take_append_drop p l] at h
   rcases List.mem_append.1 h with h | h
   ·exact .inl h
   ·exact .inr (.inr h)
theorem ins_ns {l : List Sn} (hS : NS l) {x : ByteArray} (t : Int) (hh : hitN l x = false) : NS (insL l (posN l x) ⟨x, t⟩) := by
 obtain ⟨p1, p2⟩ := posN_spec hS x
 have hne : ∀ s ∈ l, s.nm ≠ x := fun s hs e => by
  have := (hit_iff hS x).2 ⟨s, hs, e⟩
  rw [hh] at this; cases this
 unfold NS insL
 rw [List.pairwise_append, List.pairwise_cons]
 have hS2 : NS (l.take (posN l x) ++ l.drop (posN l x)) := by rw [List.take_append_drop]; exact hS
 obtain ⟨q1, q2, q3⟩ := List.pairwise_append.1 hS2
 have hlo : ∀ s ∈ l.take (posN l x), nLt s.nm x := fun s hs => by
  obtain ⟨i, hi, rfl⟩ := List.getElem_of_mem hs
  rw [List.length_take] at hi
  rw [List.getElem_take]
  exact p1 i (by omega) (by omega)
 have hhi : ∀ s ∈ l.drop (posN l x), nLt x s.nm := fun s hs => by
  have hm := List.drop_subset _ _ hs
  obtain ⟨i, hi, rfl⟩ := List.getElem_of_mem hs
  rw [List.length_drop] at hi
  rw [List.getElem_drop] at hm ⊢
  rcases nLt_tri (l[posN l x + i]).nm x with h | h | h
  ·exact absurd h (p2 _ (by omega) (by omega))
  ·exact absurd h (hne _ hm)
  ·exact h
 refine ⟨q1, ⟨hhi, q2⟩, fun a ha b hb => ?_⟩
 rcases List.mem_cons.1 hb with rfl | hb
 ·exact hlo a ha
 ·exact q3 a ha b hb
theorem ad_zero {l : List Sn} {x : ByteArray} {t : Int} (h : adErr l x t = 0) : GoodS l ∧ nameOk x = true ∧ tidOk t ∧ hitN l x = false ∧ l.length < 20 ∧ adL l x t = insL l (posN l x) ⟨x, t⟩ := by
 have h0 : adL l x t = insL l (posN l x) ⟨x, t⟩ := by unfold adL; rw [if_pos h]
 unfold adErr at h
 by_cases h1 : snErr l = 0
 ·rw [if_pos h1] at h
  by_cases h2 : nameOk x = true
  ·rw [if_pos h2] at h
   by_cases h3 : tidOk t
   ·rw [if_pos h3] at h
    by_cases h4 : hitN l x = true
    ·rw [if_pos h4] at h; cases h
    ·rw [if_neg h4] at h
     by_cases h5 : l.length = 20
     ·rw [if_pos h5] at h; cases h
     ·have hG := snErr_zero.1 h1
      exact ⟨hG, h2, h3, by simpa using h4, by have := hG.1; omega, h0⟩
   ·rw [if_neg h3] at h; cases h
  ·rw [if_neg h2] at h; cases h
 ·rw [if_neg h1] at h; exact absurd h h1
theorem ad_of {l : List Sn} {x : ByteArray} {t : Int} (hG : GoodS l) (h2 : nameOk x = true) (h3 : tidOk t) (h4 : hitN l x = false) (h5 : l.length < 20) : adErr l x t = 0 := by
 unfold adErr
 rw [if_pos (snErr_zero.2 hG), if_pos h2, if_pos h3, if_neg (by rw [h4]; decide), if_neg (by omega)]
theorem ad_good {l : List Sn} {x : ByteArray} {t : Int} (h : adErr l x t = 0) : GoodS (adL l x t) ∧ (∀ e, e ∈ adL l x t ↔ e = ⟨x, t⟩ ∨ e ∈ l) ∧ (adL l x t).length = l.length + 1 := by
 obtain ⟨hG, h2, h3, h4, h5, h6⟩ := ad_zero h
 rw [h6]
 have hl := insL_lenN ⟨x, t⟩ (posN_le l x)
 refine ⟨⟨by rw [hl]; omega, fun s hs => ?_, ins_ns hG.2.2 t h4⟩, fun e => insL_memN, hl⟩
 rcases insL_memN.1 hs with rfl | hs
 ·exact ⟨h2, h3⟩
 ·exact hG.2.1 s hs
theorem ns_uniq {l : List Sn} (hS : NS l) {a b : Sn} (ha : a ∈ l) (hb : b ∈ l) (h : a.nm = b.nm) : a = b := by
 obtain ⟨i, hi, rfl⟩ := List.getElem_of_mem ha
 obtain ⟨j, hj, rfl⟩ := List.getElem_of_mem hb
 rcases Nat.lt_trichotomy i j with h1 | h1 | h1
 ·exact absurd h (nLt_ne (List.pairwise_iff_getElem.1 hS i j hi hj h1))
 ·subst h1; rfl
 ·exact absurd h.symm (nLt_ne (List.pairwise_iff_getElem.1 hS j i hj hi h1))
theorem ns_ext {a b : List Sn} (ha : NS a) (hb : NS b) (h : ∀ e, e ∈ a ↔ e ∈ b) : a = b :=
 sorted_ext (r := fun (a b : Sn) => nLt a.nm b.nm) (fun _ => nLt_irrefl _) (fun _ _ h => nLt_asymm h) ha hb h
/-- What was added is found. -/
theorem added_find {l : List Sn} {x : ByteArray} {t : Int} (h : adErr l x t = 0) : fiErr (adL l x t) x = 0 ∧ fiT (adL l x t) x = t := by
 obtain ⟨gX, hm, _⟩ := ad_good h
 have hh : hitN (adL l x t) x = true := (hit_iff gX.2.2 x).2 ⟨⟨x, t⟩, (hm _).2 (.inl rfl), rfl⟩
 have h1 : fiErr (adL l x t) x = 0 := by unfold fiErr; rw [if_pos (snErr_zero.2 gX), if_pos hh]
 refine ⟨h1, ?_⟩
 obtain ⟨s, hs, hx⟩ := hit_at hh
 have : s = ⟨x, t⟩ := ns_uniq gX.2.2 (List.mem_of_getElem? hs) ((hm _).2 (.inl rfl)) hx
 unfold fiT
 rw [if_pos h1, hs, this]
/-- What was added and dropped leaves the list as it was. -/
theorem added_drop {l : List Sn} {x : ByteArray} {t : Int} (h : adErr l x t = 0) : drL (adL l x t) x = l := by
 obtain ⟨gX, hm, hlen⟩ := ad_good h
 obtain ⟨hG, _, _, h4, _, h6⟩ := ad_zero h
 unfold drL
 rw [if_pos (added_find h).1]
 have hS := posN_spec hG.2.2 x
 have hp : posN (adL l x t) x = posN l x := by
  have hle := posN_le l x
  have hat : ∀ i (hi : i < (adL l x t).length), (i < posN l x → ∃ h : i < l.length, (adL l x t)[i] = l[i]) ∧ (i = posN l x → (adL l x t)[i] = ⟨x, t⟩) ∧ (posN l x < i → ∃ h : i - 1 < l.length, (adL l x t)[i] = l[i - 1]) := by
   intro i hi
   have key : (adL l x t)[i]? = if i < posN l x then l[i]? else if i = posN l x then some ⟨x, t⟩ else l[i - 1]? := by
    rw [h6]
    unfold insL
    rw [List.getElem?_append, List.length_take, Nat.min_eq_left hle]
    split
    ·rw [List.getElem?_take, if_pos (by assumption)]
    ·rename_i hn
     split
     ·rename_i he; rw [he, Nat.sub_self]; rfl
     ·rw [show i - posN l x = (i - posN l x - 1) + 1 from by omega, List.getElem?_cons_succ, List.getElem?_drop]
      congr 1; omega
   rw [List.getElem?_eq_getElem hi] at key
   refine ⟨fun h1 => ?_, fun h1 => ?_, fun h1 => ?_⟩
   ·rw [if_pos h1] at key
    obtain ⟨q1, q2⟩ := List.getElem?_eq_some_iff.1 key.symm
    exact ⟨q1, q2.symm⟩
   ·rw [if_neg (by omega), if_pos h1] at key; injection key
   ·rw [if_neg (by omega), if_neg (by omega)] at key
    obtain ⟨q1, q2⟩ := List.getElem?_eq_some_iff.1 key.symm
    exact ⟨q1, q2.symm⟩
  refine posN_part (by omega) (fun i hi h1 => ?_) fun i hi h1 => ?_
  ·obtain ⟨q1, q2⟩ := (hat i hi).1 h1
   rw [q2]; exact hS.1 i q1 h1
  ·rcases Nat.lt_or_eq_of_le h1 with h2 | h2
   ·obtain ⟨q1, q2⟩ := (hat i hi).2.2 h2
    rw [q2]; exact hS.2 (i - 1) q1 (by omega)
   ·rw [(hat i hi).2.1 h2.symm]; exact nLt_irrefl _
 rw [hp, h6]
 have hle := posN_le l x
 unfold delL insL
 rw [List.take_left' (by rw [List.length_take]; omega), ← List.drop_drop, List.drop_left' (by rw [List.length_take]; omega), List.drop_succ_cons, List.drop_zero, List.take_append_drop]
/-- What isn't there yet isn't found. -/
theorem absent_find {l : List Sn} {x : ByteArray} {t : Int} (h : adErr l x t = 0) : fiErr l x = 4 ∧ fiT l x = 0 := by
 obtain ⟨hG, _, _, h4, _, _⟩ := ad_zero h
 have h1 : fiErr l x = 4 := by unfold fiErr; rw [if_pos (snErr_zero.2 hG), if_neg (by rw [h4]; decide)]
 exact ⟨h1, by unfold fiT; rw [if_neg (by rw [h1]; decide)]⟩
/-- Two names may be added in either order. -/
theorem add_two {l : List Sn} {a b : ByteArray} {t u : Int} (h1 : adErr l a t = 0) (h2 : adErr (adL l a t) b u = 0) (h3 : adErr l b u = 0) : adErr (adL l b u) a t = 0 ∧ adL (adL l b u) a t = adL (adL l a t) b u := by
 obtain ⟨hG, na, ta, ha, l1, _⟩ := ad_zero h1
 obtain ⟨gX, nb, tb, hb, l2, _⟩ := ad_zero h2
 obtain ⟨g1, m1, n1⟩ := ad_good h1
 obtain ⟨g2, m2, n2⟩ := ad_good h2
 obtain ⟨g3, m3, n3⟩ := ad_good h3
 have hab : b ≠ a := fun e => by
  have : hitN (adL l a t) b = true := (hit_iff gX.2.2 b).2 ⟨⟨a, t⟩, (m1 _).2 (.inl rfl), e.symm⟩
  rw [hb] at this; cases this
 have hh : hitN (adL l b u) a = false := by
  cases hc : hitN (adL l b u) a with
  |false => rfl
  |true =>
   obtain ⟨s, hs, he⟩ := (hit_iff g3.2.2 a).1 hc
   rcases (m3 _).1 hs with rfl | hs
   ·exact absurd he hab
   ·have := (hit_iff hG.2.2 a).2 ⟨s, hs, he⟩
    rw [ha] at this; cases this
 have h4 : adErr (adL l b u) a t = 0 := ad_of g3 na ta hh (by omega)
 obtain ⟨g4, m4, _⟩ := ad_good h4
 refine ⟨h4, ns_ext g4.2.2 g2.2.2 fun e => ?_⟩
 rw [m4, m2, m3, m1]
 constructor
 ·rintro (h | h | h)
  ·exact .inr (.inl h)
  ·exact .inl h
  ·exact .inr (.inr h)
 ·rintro (h | h | h)
  ·exact .inr (.inl h)
  ·exact .inl h
  ·exact .inr (.inr h)
theorem szs_good {l : List Sn} (h : GoodS l) : Szs l := fun s hs => by
 have := (h.2.1 s hs).1
 unfold nameOk at this
 rw [Bool.and_eq_true, decide_eq_true_eq] at this
 have := this.1.2.1
 unfold maxLen; omega
end Go.Proofs.Ytibnghapilfgbaa
