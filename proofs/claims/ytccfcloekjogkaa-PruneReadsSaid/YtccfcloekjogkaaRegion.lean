/- A statement whose order of evaluation is open, walked once: operations that only read, calls that lay blocks of their own, new variables and their first store. Whatever order is drawn, the values are the planned ones. -/
import Derived.Test.YtccfcloekjogkaaRows
import Derived.Handy
import Derived.Deep.Quiet
import Derived.Deep.QuietTactic
import Derived.Laws.Tables
import Derived.StillTail
namespace Go.Proofs.Ytccfcloekjogkaa
open Go.RowKit

/-- What a call leaves that lays blocks of its own and turns nothing that was there. -/
def Calm (w w' : World) : Prop := Below w.heap.size w w'
set_option maxRecDepth 100000 in
theorem Calm.refl (w : World) : Calm w w := Below.refl _ _
set_option maxRecDepth 100000 in
theorem Calm.alloc {a w : World} (h : Calm a w) (o : Obj) : Calm a (w.alloc o) := Below.alloc h (Below.size h) o
set_option maxRecDepth 100000 in
theorem Calm.drew {a w : World} (h : Calm a w) : Calm a w.drew := Below.drew h
set_option maxRecDepth 100000 in
theorem Calm.drewN {a w : World} (h : Calm a w) (n : Nat) : Calm a (w.drewN n) := Below.trans h ⟨rfl, rfl, rfl, Nat.le_refl _, fun _ _ => rfl⟩
set_option maxRecDepth 100000 in
theorem Calm.of_drew {a w : World} (h : Calm a.drew w) : Calm a w := Below.trans (Calm.refl a).drew h
set_option maxRecDepth 100000 in
theorem Calm.setCell {a w : World} (h : Calm a w) {p : Addr} (hp : a.heap.size ≤ p.block) (u : Value) : Calm a (w.setCell p u) := Below.setCell h hp u
set_option maxRecDepth 100000 in
theorem Calm.setRow {a w : World} (h : Calm a w) {g : Nat} (hg : a.heap.size ≤ g) (cs : Array Value) : Calm a (w.setRow g cs) :=
  Below.trans h ⟨rfl, rfl, rfl, by simp, fun k hk => setRow_other w g k cs (by omega)⟩
set_option maxRecDepth 100000 in
theorem Calm.call {a w w1 : World} (h : Calm a w) (hb : Calm w w1) : Calm a w1 := Below.trans h (Below.mono hb (Below.size h))
set_option maxRecDepth 100000 in
theorem Calm.size {a w : World} (h : Calm a w) : a.heap.size ≤ w.heap.size := Below.size h
set_option maxRecDepth 100000 in
theorem Calm.block {a w : World} (h : Calm a w) {k : Nat} (hk : k < a.heap.size) : w.heap[k]? = a.heap[k]? := Below.block h k hk
set_option maxRecDepth 100000 in
/-- Of such a call: cells, marks, how many blocks. -/
theorem Calm.facts {W w1 : World} (hb : Calm W w1) : (∀ b o, b < W.heap.size → w1.cell? ⟨b, o, none⟩ = W.cell? ⟨b, o, none⟩) ∧ (∀ b o, b < W.heap.size → w1.frozen? ⟨b, o, none⟩ = W.frozen? ⟨b, o, none⟩) ∧ (∀ n : Nat, n < W.heap.size → n < w1.heap.size ∧ n < w1.heap.size + 1 ∧ n < w1.heap.size + 1 + 1 ∧ n < w1.heap.size + 1 + 1 + 1 ∧ n < w1.heap.size + 1 + 1 + 1 + 1) :=
  ⟨fun b o h => Below.cell hb (p := ⟨b, o, none⟩) h, fun b o h => Below.frozen hb (p := ⟨b, o, none⟩) h, fun _ h => by have := Below.size hb; omega⟩

/-! ### Whatever order: an invariant -/
section
variable {P : Program} {ops : Array Oper} {Q : Exit → Act → World → Prop} {md : Region.Mode}

/-- How many operations have not come up. -/
def unlisted (listed : Array Bool) : Nat := listed.toList.countP (· == false)

set_option maxRecDepth 100000 in
theorem unlisted_set {listed : Array Bool} {i : Nat} (h : listed.getD i true = false) : unlisted (listed.setIfInBounds i true) + 1 = unlisted listed := by
  have hi : i < listed.size := by
    rcases Nat.lt_or_ge i listed.size with h' | h'
    · exact h'
    · simp [Array.getElem?_eq_none h'] at h
  have hv : listed[i] = false := by simpa [hi] using h
  have hm : false ∈ listed.toList := by rw [← hv]; simp
  have hpos : 0 < listed.toList.countP (· == false) := List.countP_pos_iff.2 ⟨false, hm, rfl⟩
  have hl : listed.toList[i]'(by simpa using hi) = false := by simpa using hv
  unfold unlisted
  rw [Array.toList_setIfInBounds, List.countP_set (by simpa using hi), hl]
  simp only [beq_self_eq_true, if_true, show ((true == false) = false) from rfl, Bool.false_eq_true, if_false]
  omega

set_option maxRecDepth 100000 in
theorem wpAny_inv (J : Array Bool → Act → World → Prop)
    (hstep : ∀ (listed : Array Bool) (a : Act) (w : World) (i : Nat), J listed a w → i ∈ Region.ready md ops listed → wpOp P ops Q i (fun a' w' => J (listed.setIfInBounds i true) a' w') a w)
    (hend : ∀ (listed : Array Bool) (a : Act) (w : World), J listed a w → Region.ready md ops listed = [] → Q .normal a w) :
    ∀ (fuel : Nat) (listed : Array Bool) (a : Act) (w : World), unlisted listed ≤ fuel → J listed a w → wpAny P md ops Q fuel listed a w
  | 0, listed, a, w, hf, hj => by
    have hr : Region.ready md ops listed = [] := by
      cases h : Region.ready md ops listed with
      | nil => rfl
      | cons i r =>
        have hm : i ∈ Region.ready md ops listed := by rw [h]; simp
        have := unlisted_set (mem_ready.1 hm).1
        omega
    exact ⟨hr, hend _ _ _ hj hr⟩
  | fuel + 1, listed, a, w, hf, hj => by
    refine ⟨fun h0 => hend _ _ _ hj h0, fun i hi => ?_⟩
    have := unlisted_set (mem_ready.1 hi).1
    exact wpOp_mono (fun a' w' h => wpAny_inv J hstep hend fuel _ a' w' (by omega) h) (hstep _ _ _ _ hj hi)

/-! ### A plan: what each operation does, whatever the order -/
inductive Does where
  | val (v : Value)
  | idle
  | new (z : Array Value) (t : TypeId) (kd : Option Nat := none)
  | fill (k : Nat) (cs : Array Value)
  | look (k : Nat) (v : Value)

/-- What a new block is handed on as: a pointer, or a slice of so many elements. -/
def newOut (b : Nat) : Option Nat → Value
  | none => .pointer (some ⟨b, 0, none⟩)
  | some n => .slice (some ⟨b, 0, none⟩) n n
/-- The value that an operation leaves in its temporary; X names the new blocks. -/
def Does.out (X : Nat → Nat) (i : Nat) : Does → Value
  | .val v => v
  | .idle => undef
  | .new _ _ kd => newOut (X i) kd
  | .fill _ _ => undef
  | .look _ v => v

/-- No first store into the new block of operation k. -/
def noFillB (p : List Does) (k : Nat) : Bool := p.all fun d => match d with | .fill m _ => m != k | _ => true
set_option maxRecDepth 100000 in
theorem noFillB_spec {p : List Does} {k : Nat} (h : noFillB p k = true) {j : Nat} {cs : Array Value} : p[j]? ≠ some (.fill k cs) := fun hj => by
  have := List.all_eq_true.1 h _ (List.mem_of_getElem? hj)
  simp at this

/-- What is asked of one operation, in the frame that the text's order gives. -/
def Does.fits (P : Program) (ops : Array Oper) (w0 : World) (X : Nat → Nat) (p : List Does) (o : Oper) (a : Act) : Does → Prop
  | .val v => Region.wanted o (yielded ops a.tmps) = true ∧ ∀ w, Calm w0 w → Oper.quietUpon P (Calm w) w v ((execOp a.eval o).run P w)
  | .idle => Region.wanted o (yielded ops a.tmps) = false
  | .new z t kd => Region.wanted o (yielded ops a.tmps) = true ∧ ∀ w, (execOp a.eval o).run P w = .ok (.value (newOut w.heap.size kd)) (w.alloc (.cells z t))
  | .fill k cs => Region.wanted o (yielded ops a.tmps) = true ∧ o.dst = none ∧ o.after.any (fun e => Region.binds .any e && e.on == k) = true ∧ ∃ z t kd, p[k]? = some (.new z t kd) ∧
      ∀ w, w.heap[X k]? = some (.cells z t (0, 0)) → (execOp a.eval o).run P w = .ok .skip (w.setRow (X k) cs) ∨ (execOp a.eval o).run P w = .ok (.value undef) (w.setRow (X k) cs)
  | .look k v => Region.wanted o (yielded ops a.tmps) = true ∧ o.after.any (fun e => Region.binds .any e && e.on == k) = true ∧ ∃ z t kd, p[k]? = some (.new z t kd) ∧ noFillB p k = true ∧
      ∀ w, Calm w0 w → w.heap[X k]? = some (.cells z t (0, 0)) → Oper.quietUpon P (Calm w) w v ((execOp a.eval o).run P w)

/-- The plan, operation by operation, in the text's order; behind it the frame at the end. -/
def Plan (P : Program) (ops : Array Oper) (w0 : World) (X : Nat → Nat) (p : List Does) (R : Act → Prop) : Nat → List Oper → List Does → Act → Prop
  | _, [], [], a => R a
  | i, o :: os, d :: ds, a => d.fits P ops w0 X p o a ∧ Plan P ops w0 X p R (i + 1) os ds (a.put o.dst (d.out X i))
  | _, _, _, _ => False

/-- Each operation waits for all whose temporaries it looks at; no two write one temporary; each waits for earlier ones alone; every guard and every temporary is of an earlier one. -/
def planB (ops : Array Oper) : Bool :=
  Region.noSelect ops && (List.range ops.size).all fun j => match ops[j]? with
    | none => true
    | some o => o.after.all (fun e => !Region.binds .any e || decide (e.on < j)) &&
        (List.range ops.size).all fun i => match ops[i]? with
          | none => true
          | some x => match x.dst with
            | none => true
            | some d => (!(o.looksAt ops).contains d || (decide (i < j) && o.after.any (fun e => Region.binds .any e && e.on == i))) && (i == j || o.dst != some d)

/-- The new block of operation k as it stands once the operations in 'listed' have come up. -/
def rowNow (p : List Does) (listed : Array Bool) (k : Nat) (z : Array Value) : Array Value :=
  match (List.range p.length).findSome? (fun j => if listed.getD j false then (match p[j]? with | some (.fill m cs) => if m == k then some cs else none | _ => none) else none) with
  | some cs => cs
  | none => z

/-- Of each new block at most one first store. -/
def fillsB (p : List Does) : Bool :=
  (List.range p.length).all fun i => (List.range p.length).all fun j => i == j || match p[i]?, p[j]? with
    | some (.fill m _), some (.fill n _) => m != n
    | _, _ => true

/-! ### The law -/
set_option maxRecDepth 100000 in
/-- Two frames that hold the same wherever an operation looks: it does the same. -/
theorem same_look {o : Oper} (hs : ∀ cs b, o.op ≠ .select cs b) {a b : Act} (h : ∀ t ∈ o.looksAt ops, a.tmps[t]? = b.tmps[t]?) :
    execOp a.eval o = execOp b.eval o ∧ Region.wanted o (yielded ops a.tmps) = Region.wanted o (yielded ops b.tmps) := by
  constructor
  · refine execOp_congr o hs fun x hx => ?_
    cases x with
    | tmp t =>
      have : t ∈ o.looksAt ops := List.mem_append_left _ (List.mem_filterMap.2 ⟨.tmp t, by simpa using hx, rfl⟩)
      have h1 := h t this
      simp [Act.eval, h1]
    | _ => rfl
  · unfold Region.wanted
    cases hg : o.guard with
    | none => rfl
    | some gw =>
      obtain ⟨g, want⟩ := gw
      have : yielded ops a.tmps g = yielded ops b.tmps g := by
        unfold yielded
        cases ht : (ops[g]?).bind (·.dst) with
        | none => rfl
        | some t =>
          have h1 := h t (by simp [Oper.looksAt, hg, ht])
          simp [h1]
      simp only [this]

set_option maxRecDepth 100000 in
theorem put_get (a : Act) (d : Option Tmp) (v : Value) (t : Nat) : (a.put d v).tmps[t]? = if d = some t ∧ t < a.tmps.size then some v else a.tmps[t]? := by
  cases d with
  | none => simp [Act.put]
  | some d =>
    simp only [Act.put, Array.getElem?_setIfInBounds, Option.some.injEq]
    by_cases h : d = t
    · subst h
      by_cases h2 : d < a.tmps.size
      · simp [h2]
      · simp [h2]
    · simp [h]
set_option maxRecDepth 100000 in
theorem put_size (a : Act) (d : Option Tmp) (v : Value) : (a.put d v).tmps.size = a.tmps.size := by cases d <;> simp [Act.put]
set_option maxRecDepth 100000 in
theorem put_def (a : Act) (d : Option Tmp) (v : Value) : (a.put d v).defers = a.defers := by cases d <;> simp [Act.put]

/-- The frame once the operations in S have come up. -/
structure Agree (ops : Array Oper) (p : List Does) (a0 : Act) (X : Nat → Nat) (S : Nat → Prop) (a : Act) : Prop where
  defers : a.defers = a0.defers
  size : a.tmps.size = a0.tmps.size
  put : ∀ i o d t, ops[i]? = some o → p[i]? = some d → S i → o.dst = some t → t < a0.tmps.size → a.tmps[t]? = some (d.out X i)
  old : ∀ t, (∀ i o, ops[i]? = some o → S i → o.dst ≠ some t) → a.tmps[t]? = a0.tmps[t]?

structure Sound (ops : Array Oper) : Prop where
  noSelect : ∀ (j : Nat) (o : Oper) cs b, ops[j]? = some o → o.op ≠ .select cs b
  before : ∀ (j : Nat) (o : Oper) (e : Edge), ops[j]? = some o → e ∈ o.after → Region.binds .any e = true → e.on < j
  looks : ∀ (j i : Nat) (o x : Oper) (d : Tmp), ops[j]? = some o → ops[i]? = some x → x.dst = some d → d ∈ o.looksAt ops → i < j ∧ ∃ e ∈ o.after, Region.binds .any e = true ∧ e.on = i
  apart : ∀ (j i : Nat) (o x : Oper) (d : Tmp), ops[j]? = some o → ops[i]? = some x → x.dst = some d → o.dst = some d → i = j

set_option maxRecDepth 100000 in
theorem planB_sound (h : planB ops = true) : Sound ops := by
  simp only [planB, Bool.and_eq_true, List.all_eq_true, List.mem_range] at h
  obtain ⟨h1, h2⟩ := h
  have lt : ∀ {j : Nat} {o : Oper}, ops[j]? = some o → j < ops.size := fun ho => (Array.getElem?_eq_some_iff.1 ho).1
  refine ⟨fun j o cs b ho => Region.noSelect_spec h1 j o cs b ho, fun j o e ho he hb => ?_, fun j i o x d ho hx hd hl => ?_, fun j i o x d ho hx hd hod => ?_⟩
  · have := h2 j (lt ho)
    simp only [ho, Bool.and_eq_true, Array.all_eq_true_iff_forall_mem] at this
    have h3 := this.1 e he
    simpa [hb] using h3
  · have := h2 j (lt ho)
    simp only [ho, Bool.and_eq_true, List.all_eq_true, List.mem_range] at this
    have h3 := this.2 i (lt hx)
    simp only [hx, hd, Bool.and_eq_true] at h3
    have h4 := h3.1
    rw [List.contains_iff_mem.2 hl] at h4
    simp only [Bool.not_true, Bool.false_or, Bool.and_eq_true, decide_eq_true_eq] at h4
    obtain ⟨e, he, hb⟩ := Array.any_eq_true'.1 h4.2
    simp only [Bool.and_eq_true, beq_iff_eq] at hb
    exact ⟨h4.1, e, he, hb⟩
  · have := h2 j (lt ho)
    simp only [ho, Bool.and_eq_true, List.all_eq_true, List.mem_range] at this
    have h3 := this.2 i (lt hx)
    simp only [hx, hd, Bool.and_eq_true] at h3
    have h4 := h3.2
    simpa [hod] using h4

set_option maxRecDepth 100000 in
/-- One operation more. -/
theorem Agree.step {p : List Does} {a0 : Act} {X : Nat → Nat} {S T : Nat → Prop} {a : Act} (hs : Sound ops) (h : Agree ops p a0 X S a) {j : Nat} {o : Oper} {d : Does} (ho : ops[j]? = some o) (hd : p[j]? = some d)
    (hT : ∀ i, T i ↔ (S i ∨ i = j)) : Agree ops p a0 X T (a.put o.dst (d.out X j)) := by
  refine ⟨by rw [put_def, h.defers], by rw [put_size, h.size], fun i oi di t hoi hdi hi ht hlt => ?_, fun t ht => ?_⟩
  · rw [put_get]
    rcases (hT i).1 hi with hi | rfl
    · by_cases hc : o.dst = some t ∧ t < a.tmps.size
      · rw [if_pos hc]
        obtain rfl := hs.apart j i o oi t ho hoi ht hc.1
        rw [hd] at hdi
        cases hdi
        rfl
      · rw [if_neg hc]
        exact h.put i oi di t hoi hdi hi ht hlt
    · rw [ho] at hoi; cases hoi
      rw [hd] at hdi; cases hdi
      rw [if_pos ⟨ht, by rw [h.size]; exact hlt⟩]
  · rw [put_get, if_neg (fun hc => ht j o ho ((hT j).2 (Or.inr rfl)) hc.1)]
    exact h.old t fun i oi hoi hi => ht i oi hoi ((hT i).2 (Or.inl hi))

set_option maxRecDepth 100000 in
/-- Off the plan: what each operation does in a frame of the text's order, and the frame at the end. -/
theorem plan_get {w0 : World} {X : Nat → Nat} {p : List Does} {a0 : Act} {R : Act → Prop} (hs : Sound ops) : ∀ (os : List Oper) (ds : List Does) (i : Nat) (a : Act), os = ops.toList.drop i → ds = p.drop i →
    Agree ops p a0 X (· < i) a → Plan P ops w0 X p R i os ds a →
    (∀ j o, i ≤ j → ops[j]? = some o → ∃ d b, p[j]? = some d ∧ Agree ops p a0 X (· < j) b ∧ d.fits P ops w0 X p o b) ∧ (∃ b, Agree ops p a0 X (· < ops.size) b ∧ R b) ∧ (i ≤ ops.size → i ≤ p.length → p.length = ops.size)
  | [], [], i, a, hos, hds, ha, h => by
    have hl : ops.size ≤ i := by have := congrArg List.length hos; simp at this; omega
    refine ⟨fun j o hj hoj => ?_, ⟨a, ⟨ha.defers, ha.size, fun k o d t ho hd hk ht hlt => ha.put k o d t ho hd (by omega) ht hlt, fun t ht => ha.old t fun k o ho hk => ht k o ho ?_⟩, h⟩, fun hi hi2 => ?_⟩
    · have := (Array.getElem?_eq_some_iff.1 hoj).1; omega
    · exact (Array.getElem?_eq_some_iff.1 ho).1
    · have := congrArg List.length hds; simp at this; omega
  | [], d :: ds, i, a, _, _, _, h => absurd h (by simp [Plan])
  | o :: os, [], i, a, _, _, _, h => absurd h (by simp [Plan])
  | o :: os, d :: ds, i, a, hos, hds, ha, h => by
    have hlen : i < ops.size := by have := congrArg List.length hos; simp at this; omega
    have ho : ops[i]? = some o := by
      have := congrArg (·[0]?) hos
      simpa using this.symm
    have hd : p[i]? = some d := by
      have := congrArg (·[0]?) hds
      simpa using this.symm
    have hos' : os = ops.toList.drop (i + 1) := by rw [← List.tail_drop, ← hos]; rfl
    have hds' : ds = p.drop (i + 1) := by rw [← List.tail_drop, ← hds]; rfl
    obtain ⟨h1, h2⟩ := h
    have hplen : i < p.length := by have := congrArg List.length hds; simp at this; omega
    obtain ⟨g1, g2, g3⟩ := plan_get hs os ds (i + 1) (a.put o.dst (d.out X i)) hos' hds' (ha.step hs ho hd (fun k => by omega)) h2
    refine ⟨fun j oj hj hoj => ?_, g2, fun _ _ => g3 (by omega) (by omega)⟩
    rcases Nat.eq_or_lt_of_le hj with rfl | hj
    · rw [ho] at hoj; cases hoj
      exact ⟨d, a, hd, ha, h1⟩
    · exact g1 j oj hj hoj

set_option maxRecDepth 100000 in
theorem rowNow_same {p : List Does} {listed : Array Bool} {j k : Nat} {z : Array Value} (h : ∀ m cs, p[j]? = some (.fill m cs) → m ≠ k) : rowNow p (listed.setIfInBounds j true) k z = rowNow p listed k z := by
  unfold rowNow
  have : (fun i => if (listed.setIfInBounds j true).getD i false then (match p[i]? with | some (Does.fill m cs) => if m == k then some cs else none | _ => none) else none) = (fun i => if listed.getD i false then (match p[i]? with | some (Does.fill m cs) => if m == k then some cs else none | _ => none) else none) := by
    funext i
    by_cases hij : j = i
    · subst hij
      have hn : (match p[j]? with | some (Does.fill m cs) => if m == k then some cs else none | _ => none) = none := by
        cases hp : p[j]? with
        | none => rfl
        | some d =>
          cases d with
          | fill m cs => simp [h m cs hp]
          | _ => rfl
      simp only [hn, ite_self]
    · rw [getD_set_ne false hij]
  rw [this]

set_option maxRecDepth 100000 in
theorem fillsB_spec {p : List Does} (h : fillsB p = true) {i j m : Nat} {cs cs' : Array Value} (hi : p[i]? = some (.fill m cs)) (hj : p[j]? = some (.fill m cs')) : i = j := by
  simp only [fillsB, List.all_eq_true, List.mem_range] at h
  have := h i (List.getElem?_eq_some_iff.1 hi).1 j (List.getElem?_eq_some_iff.1 hj).1
  simpa [hi, hj] using this

set_option maxRecDepth 100000 in
theorem rowNow_fill {p : List Does} (h : fillsB p = true) {listed : Array Bool} {j k : Nat} {z cs : Array Value} (hj : p[j]? = some (.fill k cs)) (hl : listed.getD j false = true) : rowNow p listed k z = cs := by
  unfold rowNow
  have hjl : j < p.length := (List.getElem?_eq_some_iff.1 hj).1
  have hsome : ((List.range p.length).findSome? (fun j => if listed.getD j false then (match p[j]? with | some (Does.fill m cs) => if m == k then some cs else none | _ => none) else none)).isSome = true := by
    rw [List.findSome?_isSome_iff]
    exact ⟨j, List.mem_range.2 hjl, by simp only [hl, if_true, hj]; simp⟩
  cases hf : (List.range p.length).findSome? (fun j => if listed.getD j false then (match p[j]? with | some (Does.fill m cs) => if m == k then some cs else none | _ => none) else none) with
  | none => rw [hf] at hsome; cases hsome
  | some c =>
    obtain ⟨i, hi, he⟩ := List.exists_of_findSome?_eq_some hf
    simp only
    split at he
    · split at he
      · rename_i m c' hp
        split at he
        · rename_i hm
          cases he
          have hm' : m = k := by simpa using hm
          subst hm'
          obtain rfl := fillsB_spec h hj hp
          rw [hj] at hp
          cases hp
          rfl
        · cases he
      · cases he
    · cases he

set_option maxRecDepth 100000 in
theorem rowNow_none {p : List Does} {listed : Array Bool} {k : Nat} {z : Array Value} (h : ∀ j cs, p[j]? = some (.fill k cs) → listed.getD j false = false) : rowNow p listed k z = z := by
  unfold rowNow
  cases hf : (List.range p.length).findSome? (fun j => if listed.getD j false then (match p[j]? with | some (Does.fill m cs) => if m == k then some cs else none | _ => none) else none) with
  | none => rfl
  | some c =>
    obtain ⟨i, hi, he⟩ := List.exists_of_findSome?_eq_some hf
    split at he
    · rename_i hl
      split at he
      · rename_i m c' hp
        split at he
        · rename_i hm
          have hm' : m = k := by simpa using hm
          subst hm'
          rw [h i c' hp] at hl
          cases hl
        · cases he
      · cases he
    · cases he

/-- What stands behind the region: the new blocks, apart from one another and from all that was there. -/
structure Rows0 (p : List Does) (w0 : World) (X : Nat → Nat) (listed : Array Bool) (w : World) : Prop where
  calm : Calm w0 w
  row : ∀ i z t {kd}, p[i]? = some (.new z t kd) → listed.getD i false = true → w0.heap.size ≤ X i ∧ w.heap[X i]? = some (.cells (rowNow p listed i z) t (0, 0))
  apart : ∀ i j z t z' t' {kd kd'}, p[i]? = some (.new z t kd) → p[j]? = some (.new z' t' kd') → listed.getD i false = true → listed.getD j false = true → i ≠ j → X i ≠ X j

structure Inv (ops : Array Oper) (p : List Does) (a0 : Act) (w0 : World) (X : Nat → Nat) (listed : Array Bool) (a : Act) (w : World) : Prop where
  size : listed.size = ops.size
  act : Agree ops p a0 X (fun i => listed.getD i false = true) a
  rows : Rows0 p w0 X listed w
  down : ∀ i o e, ops[i]? = some o → listed.getD i false = true → e ∈ o.after → Region.binds .any e = true → listed.getD e.on false = true

set_option maxRecDepth 100000 in
theorem getD_set_iff {listed : Array Bool} {i j : Nat} (hi : i < listed.size) : (listed.setIfInBounds i true).getD j false = true ↔ (listed.getD j false = true ∨ j = i) := by
  by_cases h : i = j
  · subst h; simp [hi]
  · rw [getD_set_ne false h]
    exact ⟨Or.inl, fun h' => h'.resolve_right (fun e => h e.symm)⟩

set_option maxRecDepth 100000 in
theorem Inv.step {p : List Does} {a0 : Act} {w0 : World} {R : (Nat → Nat) → Act → Prop} {Q : Exit → Act → World → Prop} (hs : Sound ops) (hf : fillsB p = true)
    (hp : ∀ X, Plan P ops w0 X p (R X) 0 ops.toList p a0) {X : Nat → Nat} {listed : Array Bool} {a : Act} {w : World} {j : Nat} (h : Inv ops p a0 w0 X listed a w) (hj : j ∈ Region.ready .any ops listed) :
    wpOp P ops Q j (fun a' w' => ∃ X', Inv ops p a0 w0 X' (listed.setIfInBounds j true) a' w') a w := by
  obtain ⟨hun, o, ho, hall⟩ := mem_ready.1 hj
  have hjs : j < listed.size := by rw [h.size]; exact (Array.getElem?_eq_some_iff.1 ho).1
  have hnl : listed.getD j false = false := by
    rw [Array.getD_eq_getD_getElem?] at hun ⊢
    rw [Array.getElem?_eq_getElem hjs] at hun ⊢
    simpa using hun
  obtain ⟨g1, _, g3⟩ := plan_get (X := X) hs ops.toList p 0 a0 rfl rfl ⟨rfl, rfl, fun i o d t _ _ hi => absurd hi (Nat.not_lt_zero _), fun t _ => rfl⟩ (hp X)
  obtain ⟨d, b, hd, hb, hfit⟩ := g1 j o (Nat.zero_le _) ho
  -- the frame at hand and the frame of the text's order agree on all that the operation looks at
  have hlook : ∀ t ∈ o.looksAt ops, a.tmps[t]? = b.tmps[t]? := fun t ht => by
    by_cases hw : ∃ (i : Nat) (x : Oper), ops[i]? = some x ∧ x.dst = some t
    · obtain ⟨i, x, hx, hxt⟩ := hw
      obtain ⟨hij, e, he, hbe, rfl⟩ := hs.looks j i o x t ho hx hxt ht
      have hli := hall e he hbe
      have hpi : ∃ di, p[e.on]? = some di := by
        have := g3 (Nat.zero_le _) (Nat.zero_le _)
        have hlt : e.on < p.length := by rw [this]; exact (Array.getElem?_eq_some_iff.1 hx).1
        exact ⟨p[e.on], List.getElem?_eq_getElem hlt⟩
      obtain ⟨di, hdi⟩ := hpi
      by_cases hlt : t < a0.tmps.size
      · rw [h.act.put e.on x di t hx hdi hli hxt hlt, hb.put e.on x di t hx hdi hij hxt hlt]
      · have e1 : a.tmps[t]? = none := Array.getElem?_eq_none (by rw [h.act.size]; exact Nat.le_of_not_lt hlt)
        have e2 : b.tmps[t]? = none := Array.getElem?_eq_none (by rw [hb.size]; exact Nat.le_of_not_lt hlt)
        rw [e1, e2]
    · have hno : ∀ (i : Nat) (x : Oper), ops[i]? = some x → x.dst ≠ some t := fun i x hx hxt => hw ⟨i, x, hx, hxt⟩
      rw [h.act.old t fun i x hx _ => hno i x hx, hb.old t fun i x hx _ => hno i x hx]
  obtain ⟨hex, hwant⟩ := same_look (hs.noSelect j o · · ho) hlook
  have hdown : ∀ i o' e, ops[i]? = some o' → (listed.setIfInBounds j true).getD i false = true → e ∈ o'.after → Region.binds .any e = true → (listed.setIfInBounds j true).getD e.on false = true := fun i o' e ho' hi he hbe => by
    rcases (getD_set_iff hjs).1 hi with hi | rfl
    · exact getD_set_true (h.down i o' e ho' hi he hbe)
    · rw [ho] at ho'; cases ho'
      exact getD_set_true (hall e he hbe)
  have hact : ∀ Y : Nat → Nat, (∀ i, i ≠ j → Y i = X i) → Agree ops p a0 Y (fun i => (listed.setIfInBounds j true).getD i false = true) (a.put o.dst (d.out Y j)) := fun Y hY => by
    have ha : Agree ops p a0 Y (fun i => listed.getD i false = true) a := ⟨h.act.defers, h.act.size, fun i oi di t hoi hdi hi ht hlt => by
      have hij : i ≠ j := fun e => by subst e; rw [hnl] at hi; cases hi
      rw [h.act.put i oi di t hoi hdi hi ht hlt]
      cases di <;> simp [Does.out, hY i hij], h.act.old⟩
    exact ha.step hs ho hd fun i => getD_set_iff hjs
  have rowsSame : ∀ w', Calm w w' → (∀ z t kd, d ≠ .new z t kd) → (∀ k cs, d ≠ .fill k cs) → Rows0 p w0 X (listed.setIfInBounds j true) w' := fun w' hw' hdn hdf => by
    have hne : ∀ i z t kd, p[i]? = some (.new z t kd) → (listed.setIfInBounds j true).getD i false = true → listed.getD i false = true := fun i z t kd hi hl => by
      rcases (getD_set_iff hjs).1 hl with hl | rfl
      · exact hl
      · rw [hd] at hi; cases hi; exact absurd rfl (hdn z t kd)
    refine ⟨h.rows.calm.call hw', fun i z t kd hi hl => ?_, fun i k z t z' t' kd kd' hi hk hl hl' hik => h.rows.apart i k z t z' t' hi hk (hne i z t kd hi hl) (hne k z' t' kd' hk hl') hik⟩
    obtain ⟨r1, r2⟩ := h.rows.row i z t hi (hne i z t kd hi hl)
    refine ⟨r1, ?_⟩
    rw [rowNow_same fun m cs hm => by rw [hd] at hm; cases hm; exact absurd rfl (hdf m cs)]
    rw [hw'.block (Array.getElem?_eq_some_iff.1 r2).1, r2]
  unfold wpOp
  simp only [ho]
  cases d with
  | val v =>
    obtain ⟨f1, f2⟩ := hfit
    rw [hwant, f1, if_pos rfl]
    left
    unfold Oper.wp
    rw [hex]
    have f3 := f2 w h.rows.calm
    have fin : ∀ w', Calm w w' → ∃ X', Inv ops p a0 w0 X' (listed.setIfInBounds j true) (a.put o.dst v) w' := fun w' hw' =>
      ⟨X, by simp [h.size], hact X fun _ _ => rfl, rowsSame w' hw' (fun _ _ _ e => by cases e) (fun _ _ e => by cases e), hdown⟩
    generalize (execOp b.eval o).run P w = r at *
    cases r with
    | ok n w' =>
      cases n <;> simp only [Oper.quietUpon] at f3 <;> simp only [Oper.upon]
      case value u => obtain ⟨e1, e2⟩ := f3; rw [e1, e2]; exact fin w (Calm.refl w)
      case skip => obtain ⟨e1, e2⟩ := f3; rw [e1, ← e2]; exact fin w (Calm.refl w)
      case enter f args =>
        obtain ⟨e1, hc⟩ := f3
        rw [e1]
        exact hc.mono fun e w'' ⟨he, hw''⟩ => by subst he; exact fin w'' hw''
    | halt x w' => simp only [Oper.quietUpon] at f3
  | look k v =>
    obtain ⟨f1, f3, z, t, kd, hk, hnf, f2⟩ := hfit
    rw [hwant, f1, if_pos rfl]
    left
    obtain ⟨e, he, hbe⟩ := Array.any_eq_true'.1 f3
    simp only [Bool.and_eq_true, beq_iff_eq] at hbe
    have hlk : listed.getD k false = true := by rw [← hbe.2]; exact hall e he hbe.1
    obtain ⟨r1, r2⟩ := h.rows.row k z t hk hlk
    rw [rowNow_none fun m cs' hm => absurd hm (noFillB_spec hnf)] at r2
    unfold Oper.wp
    rw [hex]
    have f4 := f2 w h.rows.calm r2
    have fin : ∀ w', Calm w w' → ∃ X', Inv ops p a0 w0 X' (listed.setIfInBounds j true) (a.put o.dst v) w' := fun w' hw' =>
      ⟨X, by simp [h.size], hact X fun _ _ => rfl, rowsSame w' hw' (fun _ _ _ e => by cases e) (fun _ _ e => by cases e), hdown⟩
    generalize (execOp b.eval o).run P w = r at *
    cases r with
    | ok n w' =>
      cases n <;> simp only [Oper.quietUpon] at f4 <;> simp only [Oper.upon]
      case value u => obtain ⟨e1, e2⟩ := f4; rw [e1, e2]; exact fin w (Calm.refl w)
      case skip => obtain ⟨e1, e2⟩ := f4; rw [e1, ← e2]; exact fin w (Calm.refl w)
      case enter f args =>
        obtain ⟨e1, hc⟩ := f4
        rw [e1]
        exact hc.mono fun e w'' ⟨he, hw''⟩ => by subst he; exact fin w'' hw''
    | halt x w' => simp only [Oper.quietUpon] at f4
  | idle =>
    have f1 : Region.wanted o (yielded ops b.tmps) = false := hfit
    rw [hwant, f1, if_neg (by simp)]
    exact ⟨X, by simp [h.size], hact X fun _ _ => rfl, rowsSame w (Calm.refl w) (fun _ _ _ e => by cases e) (fun _ _ e => by cases e), hdown⟩
  | new z t kd =>
    obtain ⟨f1, f2⟩ := hfit
    rw [hwant, f1, if_pos rfl]
    left
    unfold Oper.wp
    rw [hex, f2 w]
    simp only [Oper.upon]
    let Y : Nat → Nat := fun i => if i = j then w.heap.size else X i
    have hYj : Y j = w.heap.size := by simp [Y]
    have hY : ∀ i, i ≠ j → Y i = X i := fun i hi => by simp [Y, hi]
    have ha := hact Y hY
    simp only [Does.out, hYj] at ha
    have hcw := h.rows.calm
    refine ⟨Y, by simp [h.size], ha, ⟨hcw.alloc _, fun i z' t' _ hi hl => ?_, fun i k z1 t1 z2 t2 _ _ hi hk hl hl' hik => ?_⟩, hdown⟩
    · rcases (getD_set_iff hjs).1 hl with hl1 | rfl
      · have hij : i ≠ j := fun e => by subst e; rw [hnl] at hl1; cases hl1
        obtain ⟨r1, r2⟩ := h.rows.row i z' t' hi hl1
        rw [hY i hij, rowNow_same fun m cs hm => by rw [hd] at hm; cases hm]
        exact ⟨r1, by rw [Below.heap_alloc _ _ _ (Array.getElem?_eq_some_iff.1 r2).1, r2]⟩
      · rw [hd] at hi; cases hi
        refine ⟨by rw [hYj]; exact hcw.size, ?_⟩
        rw [hYj, rowNow_none]
        · show (w.heap.push _)[w.heap.size]? = _
          simp
        · intro m cs hm
          -- its first store waits for it
          cases hl2 : (listed.setIfInBounds i true).getD m false with
          | false => rfl
          | true =>
            have hlt : m < ops.size := by
              have := g3 (Nat.zero_le _) (Nat.zero_le _)
              rw [← this]; exact (List.getElem?_eq_some_iff.1 hm).1
            obtain ⟨dm, bm, hdm, _, hfm⟩ := g1 m ops[m] (Nat.zero_le _) (Array.getElem?_eq_getElem hlt)
            rw [hm] at hdm; cases hdm
            obtain ⟨_, _, haf, _⟩ := hfm
            obtain ⟨e, he, hbe⟩ := Array.any_eq_true'.1 haf
            simp only [Bool.and_eq_true, beq_iff_eq] at hbe
            have hmi : m ≠ i := fun e' => by subst e'; rw [hd] at hm; cases hm
            have hlm : listed.getD m false = true := ((getD_set_iff hjs).1 hl2).resolve_right hmi
            have := h.down m ops[m] e (Array.getElem?_eq_getElem hlt) hlm he hbe.1
            rw [hbe.2, hnl] at this
            cases this
    · have key : ∀ i z t kd, p[i]? = some (.new z t kd) → listed.getD i false = true → X i < w.heap.size := fun i z t _ hi hl => (Array.getElem?_eq_some_iff.1 (h.rows.row i z t hi hl).2).1
      rcases (getD_set_iff hjs).1 hl with hl1 | rfl
      · have hij : i ≠ j := fun e => by subst e; rw [hnl] at hl1; cases hl1
        rcases (getD_set_iff hjs).1 hl' with hl2 | rfl
        · have hkj : k ≠ j := fun e => by subst e; rw [hnl] at hl2; cases hl2
          rw [hY i hij, hY k hkj]
          exact h.rows.apart i k z1 t1 z2 t2 hi hk hl1 hl2 hik
        · rw [hY i hij, hYj]
          have := key i z1 t1 _ hi hl1
          omega
      · rcases (getD_set_iff hjs).1 hl' with hl2 | rfl
        · have hkj : k ≠ i := Ne.symm hik
          rw [hYj, hY k hkj]
          have := key k z2 t2 _ hk hl2
          omega
        · exact absurd rfl hik
  | fill k cs =>
    obtain ⟨f1, f0, f3, z, t, kd, hk, f2⟩ := hfit
    rw [hwant, f1, if_pos rfl]
    left
    obtain ⟨e, he, hbe⟩ := Array.any_eq_true'.1 f3
    simp only [Bool.and_eq_true, beq_iff_eq] at hbe
    have hlk : listed.getD k false = true := by rw [← hbe.2]; exact hall e he hbe.1
    obtain ⟨r1, r2⟩ := h.rows.row k z t hk hlk
    rw [rowNow_none fun m cs' hm => by
      cases hl2 : listed.getD m false with
      | false => rfl
      | true => rw [fillsB_spec hf hm hd] at hl2; rw [hnl] at hl2; cases hl2] at r2
    have fin : ∃ X', Inv ops p a0 w0 X' (listed.setIfInBounds j true) (a.put o.dst undef) (w.setRow (X k) cs) := by
      have hlist : ∀ i z t kd, p[i]? = some (.new z t kd) → (listed.setIfInBounds j true).getD i false = true → listed.getD i false = true := fun i z t kd hi hl => by
        rcases (getD_set_iff hjs).1 hl with hl | rfl
        · exact hl
        · rw [hd] at hi; cases hi
      refine ⟨X, by simp [h.size], hact X fun _ _ => rfl, ⟨h.rows.calm.setRow r1 cs, fun i z' t' _ hi hl => ?_, fun i k z t z' t' _ _ hi hk hl hl' hik => h.rows.apart i k z t z' t' hi hk (hlist i z t _ hi hl) (hlist k z' t' _ hk hl') hik⟩, hdown⟩
      obtain ⟨q1, q2⟩ := h.rows.row i z' t' hi (hlist i z' t' _ hi hl)
      refine ⟨q1, ?_⟩
      by_cases hik : i = k
      · subst hik
        rw [hk] at hi; cases hi
        rw [rowNow_fill hf hd (by simp [hjs]), setRow_heap w (X i) _ cs t (0, 0) r2]
      · rw [setRow_other w _ _ cs (h.rows.apart i k z' t' z t hi hk (hlist i z' t' _ hi hl) hlk hik)]
        rw [rowNow_same fun m cs' hm => by rw [hd] at hm; cases hm; exact fun e => hik e.symm]
        exact q2
    unfold Oper.wp
    rw [hex]
    rcases f2 w r2 with f2 | f2 <;> rw [f2] <;> simp only [Oper.upon] <;> exact fin

set_option maxRecDepth 100000 in
theorem all_listed (hs : Sound ops) {listed : Array Bool} (h : Region.ready .any ops listed = []) : ∀ (n i : Nat), i ≤ n → i < ops.size → listed.size = ops.size → listed.getD i false = true := by
  intro n
  induction n with
  | zero =>
    intro i hi hlt hsz
    cases hl : listed.getD i false with
    | true => rfl
    | false =>
      have : i ∈ Region.ready .any ops listed := mem_ready.2 ⟨by
        have : i < listed.size := by omega
        simpa [this] using hl, ops[i], Array.getElem?_eq_getElem hlt, fun e he hb => by
          have := hs.before i ops[i] e (Array.getElem?_eq_getElem hlt) he hb
          omega⟩
      rw [h] at this
      cases this
  | succ n ih =>
    intro i hi hlt hsz
    cases hl : listed.getD i false with
    | true => rfl
    | false =>
      have : i ∈ Region.ready .any ops listed := mem_ready.2 ⟨by
        have : i < listed.size := by omega
        simpa [this] using hl, ops[i], Array.getElem?_eq_getElem hlt, fun e he hb => by
          have := hs.before i ops[i] e (Array.getElem?_eq_getElem hlt) he hb
          exact ih e.on (by omega) (by omega) hsz⟩
      rw [h] at this
      cases this

set_option maxRecDepth 100000 in
theorem Agree.same {p : List Does} {a0 : Act} {X : Nat → Nat} {S T : Nat → Prop} {a b : Act} (hST : ∀ i, i < ops.size → (S i ∧ T i)) (hp : ops.size ≤ p.length) (ha : Agree ops p a0 X S a) (hb : Agree ops p a0 X T b) : a = b := by
  cases a with
  | mk ta da =>
  cases b with
  | mk tb db =>
  have h1 : da = db := by have := ha.defers; have := hb.defers; simp_all
  have h2 : ta = tb := by
    apply Array.ext_getElem?
    intro t
    by_cases hw : ∃ (i : Nat) (x : Oper), ops[i]? = some x ∧ x.dst = some t
    · obtain ⟨i, x, hx, hxt⟩ := hw
      have hi : i < ops.size := (Array.getElem?_eq_some_iff.1 hx).1
      by_cases hlt : t < a0.tmps.size
      · have e1 := ha.put i x p[i] t hx (List.getElem?_eq_getElem (by omega)) (hST i hi).1 hxt hlt
        have e2 := hb.put i x p[i] t hx (List.getElem?_eq_getElem (by omega)) (hST i hi).2 hxt hlt
        exact e1.trans e2.symm
      · have s1 := ha.size
        have s2 := hb.size
        simp only at s1 s2
        have e1 : ta[t]? = none := Array.getElem?_eq_none (by omega)
        have e2 : tb[t]? = none := Array.getElem?_eq_none (by omega)
        rw [e1, e2]
    · have hno : ∀ (i : Nat) (x : Oper), ops[i]? = some x → x.dst ≠ some t := fun i x hx hxt => hw ⟨i, x, hx, hxt⟩
      have e1 := ha.old t fun i x hx _ => hno i x hx
      have e2 := hb.old t fun i x hx _ => hno i x hx
      exact e1.trans e2.symm
  rw [h1, h2]

/-- The cells of new block i once the region is over. -/
def rowEnd (p : List Does) (i : Nat) (z : Array Value) : Array Value :=
  match (List.range p.length).findSome? (fun j => match p[j]? with | some (Does.fill m cs) => if m == i then some cs else none | _ => none) with
  | some cs => cs
  | none => z

/-- Behind the region: nothing that was there has turned; the new blocks. -/
structure Behind (p : List Does) (w0 : World) (X : Nat → Nat) (w : World) : Prop where
  calm : Calm w0 w
  row : ∀ i z t {kd}, p[i]? = some (.new z t kd) → w0.heap.size ≤ X i ∧ w.heap[X i]? = some (.cells (rowEnd p i z) t (0, 0))
  apart : ∀ i j z t z' t' {kd kd'}, p[i]? = some (.new z t kd) → p[j]? = some (.new z' t' kd') → i ≠ j → X i ≠ X j

set_option maxRecDepth 100000 in
theorem rowNow_end {p : List Does} {listed : Array Bool} (h : ∀ i, i < p.length → listed.getD i false = true) (i : Nat) (z : Array Value) : rowNow p listed i z = rowEnd p i z := by
  have key : ∀ l : List Nat, (∀ j, j ∈ l → j < p.length) → l.findSome? (fun j => if listed.getD j false then (match p[j]? with | some (Does.fill m cs) => if m == i then some cs else none | _ => none) else none) = l.findSome? (fun j => match p[j]? with | some (Does.fill m cs) => if m == i then some cs else none | _ => none) := by
    intro l
    induction l with
    | nil => intro _; rfl
    | cons j l ih =>
      intro hl
      simp only [List.findSome?_cons, h j (hl j (by simp)), if_true]
      rw [ih fun k hk => hl k (by simp [hk])]
  unfold rowNow rowEnd
  rw [key _ fun j hj => List.mem_range.1 hj]

set_option maxRecDepth 100000 in
/-- A REGION THAT DRAWS ITS ORDER, BY A PLAN: one walk in the text's order serves every order. -/
theorem wp_region_plan {id : Nat} {Q : Exit → Act → World → Prop} {a0 : Act} {w0 : World} {l : List Oper} (p : List Does) (hm : P.follows .mixedOrders = true) (hB : planB l.toArray = true) (hf : fillsB p = true)
    (hp : ∀ X : Nat → Nat, Plan P l.toArray w0.drew X p (fun a => ∀ w', Behind p w0.drew X w' → Q .normal a w') 0 l p a0) : (Code.region id l.toArray true).wp P Q a0 w0 := by
  have hs := planB_sound hB
  refine wp_region_any hm (wpAny_inv (fun listed a w => ∃ X, Inv l.toArray p a0 w0.drew X listed a w) (fun listed a w j h hj => ?_) (fun listed a w h h0 => ?_) _ _ _ _ (by simp [unlisted, List.countP_replicate]) ⟨fun _ => 0, by simp, ?_, ⟨Calm.refl _, ?_, ?_⟩, ?_⟩)
  · obtain ⟨X, h⟩ := h
    exact Inv.step hs hf hp h hj
  · obtain ⟨X, h⟩ := h
    have hall := fun i (hi : i < l.toArray.size) => all_listed hs h0 i i (Nat.le_refl _) hi h.size
    obtain ⟨_, ⟨b, hb, hR⟩, g3⟩ := plan_get (X := X) hs l p 0 a0 rfl rfl ⟨rfl, rfl, fun i o d t _ _ hi => absurd hi (Nat.not_lt_zero _), fun t _ => rfl⟩ (hp X)
    have hlen := g3 (Nat.zero_le _) (Nat.zero_le _)
    obtain rfl := Agree.same (fun i hi => ⟨hall i hi, hi⟩) (by omega) h.act hb
    refine hR w ⟨h.rows.calm, fun i z t _ hi => ?_, fun i j z t z' t' _ _ hi hj hij => ?_⟩
    · have hlt : i < l.toArray.size := by rw [← hlen]; exact (List.getElem?_eq_some_iff.1 hi).1
      have := h.rows.row i z t hi (hall i hlt)
      rw [rowNow_end (fun k hk => hall k (by omega))] at this
      exact this
    · have hlt : i < l.toArray.size := by rw [← hlen]; exact (List.getElem?_eq_some_iff.1 hi).1
      have hlt' : j < l.toArray.size := by rw [← hlen]; exact (List.getElem?_eq_some_iff.1 hj).1
      exact h.rows.apart i j z t z' t' hi hj (hall i hlt) (hall j hlt') hij
  · refine ⟨rfl, rfl, fun i o d t _ _ hi => ?_, fun _ _ => rfl⟩
    simp [Array.getElem?_replicate] at hi
    split at hi <;> simp at hi
  · intro i z t _ _ hi
    simp [Array.getElem?_replicate] at hi
    split at hi <;> simp at hi
  · intro i j z t z' t' _ _ _ _ hi
    simp [Array.getElem?_replicate] at hi
    split at hi <;> simp at hi
  · intro i o e _ hi
    simp [Array.getElem?_replicate] at hi
    split at hi <;> simp at hi

/-! ### A plan, and behind it a few operations in one forced order -/
def headListed (m n : Nat) : Array Bool := Array.ofFn fun i : Fin m => decide (i.1 < n)
def guardsB (ops : Array Oper) (n : Nat) : Bool :=
  (List.range n).all fun j => match ops[j]? with
    | some o => (match o.guard with | some (g, _) => decide (g < n) | none => true)
    | none => true
def tailB (ops : Array Oper) (n : Nat) : Bool :=
  decide (n < ops.size) && Region.sinkB .any ops n && Region.chainB .any ops n && guardsB ops n && Region.seqB .any ops (ops.size - n) n (headListed ops.size n) && unlisted (headListed ops.size n) == ops.size - n

set_option maxRecDepth 100000 in
theorem Inv.done {p : List Does} {a0 : Act} {w0 : World} {R : Act → Prop} (hs : Sound ops) {X : Nat → Nat} (hp : Plan P ops w0 X p R 0 ops.toList p a0) {listed : Array Bool} {a : Act} {w : World} (h : Inv ops p a0 w0 X listed a w)
    (hall : ∀ i, i < ops.size → listed.getD i false = true) : R a ∧ Behind p w0 X w := by
  obtain ⟨_, ⟨b, hb, hR⟩, g3⟩ := plan_get (X := X) hs ops.toList p 0 a0 rfl rfl ⟨rfl, rfl, fun i o d t _ _ hi => absurd hi (Nat.not_lt_zero _), fun t _ => rfl⟩ hp
  have hlen := g3 (Nat.zero_le _) (Nat.zero_le _)
  obtain rfl := Agree.same (fun i hi => ⟨hall i hi, hi⟩) (by omega) h.act hb
  refine ⟨hR, h.rows.calm, fun i z t _ hi => ?_, fun i j z t z' t' _ _ hi hj hij => ?_⟩
  · have hlt : i < ops.size := by rw [← hlen]; exact (List.getElem?_eq_some_iff.1 hi).1
    have := h.rows.row i z t hi (hall i hlt)
    rw [rowNow_end (fun k hk => hall k (by omega))] at this
    exact this
  · have hlt : i < ops.size := by rw [← hlen]; exact (List.getElem?_eq_some_iff.1 hi).1
    have hlt' : j < ops.size := by rw [← hlen]; exact (List.getElem?_eq_some_iff.1 hj).1
    exact h.rows.apart i j z t z' t' hi hj (hall i hlt) (hall j hlt') hij

section
variable {l : List Oper} {n : Nat}
set_option maxRecDepth 100000 in
theorem pre_get (_hn : n < l.length) {j : Nat} (hj : j < n) : (l.take n).toArray[j]? = l.toArray[j]? := by simp [hj]
set_option maxRecDepth 100000 in
theorem getD_pre {listed : Array Bool} (hs : n ≤ listed.size) {j : Nat} (hj : j < n) (d : Bool) : (listed.extract 0 n).getD j d = listed.getD j d := by
  rw [Array.getD_eq_getD_getElem?, Array.getD_eq_getD_getElem?, Array.getElem?_extract]
  rw [if_pos (by omega)]
  simp
set_option maxRecDepth 100000 in
theorem wanted_pre (hn : n < l.length) (hg : guardsB l.toArray n = true) {j : Nat} {o : Oper} (hj : j < n) (ho : l.toArray[j]? = some o) (tmps : Array Value) : Region.wanted o (yielded (l.take n).toArray tmps) = Region.wanted o (yielded l.toArray tmps) := by
  unfold Region.wanted
  cases hgd : o.guard with
  | none => rfl
  | some gw =>
    obtain ⟨g, want⟩ := gw
    have h1 := List.all_eq_true.1 hg j (List.mem_range.2 hj)
    rw [ho] at h1
    simp only [hgd, decide_eq_true_eq] at h1
    have : yielded (l.take n).toArray tmps g = yielded l.toArray tmps g := by
      unfold yielded
      rw [pre_get hn h1]
    simp only [this]
set_option maxRecDepth 100000 in
theorem wpOp_pre {Q : Exit → Act → World → Prop} (hn : n < l.length) (hg : guardsB l.toArray n = true) {j : Nat} (hj : j < n) {K : Act → World → Prop} {a : Act} {w : World} (h : wpOp P (l.take n).toArray Q j K a w) : wpOp P l.toArray Q j K a w := by
  unfold wpOp at h ⊢
  rw [pre_get hn hj] at h
  cases ho : l.toArray[j]? with
  | none => rw [ho] at h; exact h
  | some o =>
    rw [ho] at h
    simp only at h ⊢
    rw [wanted_pre hn hg hj ho] at h
    exact h
set_option maxRecDepth 100000 in
theorem ready_pre (hn : n < l.length) {listed : Array Bool} (hsz : listed.size = l.toArray.size) {j : Nat} (hj : j < n) (hs : Sound (l.take n).toArray) : j ∈ Region.ready .any l.toArray listed ↔ j ∈ Region.ready .any (l.take n).toArray (listed.extract 0 n) := by
  have hle : n ≤ listed.size := by rw [hsz]; simp; omega
  rw [mem_ready, mem_ready, getD_pre hle hj, pre_get hn hj]
  constructor
  · rintro ⟨h1, o, ho, h2⟩
    refine ⟨h1, o, ho, fun e he hb => ?_⟩
    have := hs.before j o e (by rw [pre_get hn hj]; exact ho) he hb
    rw [getD_pre hle (by omega)]
    exact h2 e he hb
  · rintro ⟨h1, o, ho, h2⟩
    refine ⟨h1, o, ho, fun e he hb => ?_⟩
    have := hs.before j o e (by rw [pre_get hn hj]; exact ho) he hb
    rw [← getD_pre hle (by omega)]
    exact h2 e he hb

set_option maxRecDepth 100000 in
theorem wpAny_tail {Q : Exit → Act → World → Prop} {p : List Does} {a0 : Act} {w0 : World} (hs : Sound (l.take n).toArray) (hf : fillsB p = true) (hT : tailB l.toArray n = true)
    (hp : ∀ X : Nat → Nat, Plan P (l.take n).toArray w0 X p (fun a => ∀ w', Behind p w0 X w' → wpList P l.toArray Q (l.drop n) a w') 0 (l.take n) p a0) :
    ∀ (fuel : Nat) (listed : Array Bool) (a : Act) (w : World), unlisted listed = fuel → HeadInv .any l.toArray n listed → (∃ X, Inv (l.take n).toArray p a0 w0 X (listed.extract 0 n) a w) → wpAny P .any l.toArray Q fuel listed a w := by
  simp only [tailB, Bool.and_eq_true, decide_eq_true_eq, beq_iff_eq] at hT
  obtain ⟨⟨⟨⟨⟨hn0, hsink⟩, hchain⟩, hg⟩, hseq⟩, hcount⟩ := hT
  have hn : n < l.length := by simpa using hn0
  have hpre : (l.take n).toArray.size = n := by simp; omega
  intro fuel
  induction fuel with
  | zero =>
    intro listed a w hu hh hinv
    have hle : n ≤ listed.size := by rw [hh.size]; exact Nat.le_of_lt hn0
    -- the tail has not come up: so there are unlisted operations
    have h1 := hh.tail n (Nat.le_refl _) hn0
    have := unlisted_set h1
    omega
  | succ f ih =>
    intro listed a w hu hh hinv
    have hle : n ≤ listed.size := by rw [hh.size]; exact Nat.le_of_lt hn0
    by_cases hA : ∃ i, i < n ∧ listed.getD i true = false
    · obtain ⟨i, hin, hui⟩ := hA
      obtain ⟨X, hinv⟩ := hinv
      refine ⟨fun h0 => ?_, fun j hj => ?_⟩
      · exfalso
        have h1 : Region.ready .any (l.take n).toArray (listed.extract 0 n) = [] := by
          cases hr : Region.ready .any (l.take n).toArray (listed.extract 0 n) with
          | nil => rfl
          | cons k r =>
            have hk : k ∈ Region.ready .any (l.take n).toArray (listed.extract 0 n) := by rw [hr]; simp
            obtain ⟨_, o, ho, _⟩ := mem_ready.1 hk
            have hkn : k < n := by have := (Array.getElem?_eq_some_iff.1 ho).1; omega
            have h2 := (ready_pre hn hh.size hkn hs).2 hk
            rw [h0] at h2; cases h2
        have h2 := all_listed hs h1 i i (Nat.le_refl _) (by omega) hinv.size
        rw [getD_pre hle hin, getD_both hui] at h2
        cases h2
      · have hjn : j < n := by
          rcases Nat.lt_or_ge j n with h | h
          · exact h
          · exact absurd hj (tail_waits hsink hchain hn0 hh (n - i) i rfl hin hui j h)
        have hjr := (ready_pre hn hh.size hjn hs).1 hj
        have hst := Inv.step (R := fun X a => ∀ w', Behind p w0 X w' → wpList P l.toArray Q (l.drop n) a w') (Q := Q) hs hf (by simpa using hp) hinv hjr
        refine wpOp_mono (fun a' w' hX => ih _ a' w' ?_ (hh.set hj hjn) ?_) (wpOp_pre hn hg hjn hst)
        · have := unlisted_set (mem_ready.1 hj).1
          omega
        · obtain ⟨X', hX⟩ := hX
          refine ⟨X', ?_⟩
          have he : (listed.setIfInBounds j true).extract 0 n = (listed.extract 0 n).setIfInBounds j true := by
            apply Array.ext_getElem?
            intro k
            simp only [Array.getElem?_extract, Array.getElem?_setIfInBounds, Array.size_setIfInBounds, Array.size_extract]
            by_cases hkj : j = k
            · subst hkj
              have : j < listed.size := by omega
              simp [this]
            · simp [hkj]
          rw [he]; exact hX
    · have hall : ∀ i, i < n → listed.getD i true = true := fun i hi => by
        cases h : listed.getD i true with
        | true => rfl
        | false => exact absurd ⟨i, hi, h⟩ hA
      have hallF : ∀ i, i < n → listed.getD i false = true := fun i hi => by
        have h1 := hall i hi
        have hlt : i < listed.size := by omega
        simp [hlt] at h1 ⊢; exact h1
      have hL : listed = headListed l.toArray.size n := by
        apply Array.ext_getElem?
        intro k
        unfold headListed
        rw [Array.getElem?_ofFn]
        rcases Nat.lt_or_ge k l.toArray.size with hk | hk
        · have hk2 : k < listed.size := by rw [hh.size]; exact hk
          rw [dif_pos hk]
          rcases Nat.lt_or_ge k n with hkn | hkn
          · have := hall k hkn
            simp [hk2] at this
            simp [hk2, hkn, this]
          · have := hh.tail k hkn hk
            simp [hk2] at this
            simp [hk2, this]; omega
        · rw [dif_neg (by omega), Array.getElem?_eq_none (by rw [hh.size]; exact hk)]
      obtain ⟨X, hinv⟩ := hinv
      have hd := Inv.done hs (hp := by simpa using hp X) hinv (fun i hi => by rw [hpre] at hi; rw [getD_pre hle hi]; exact hallF i hi)
      have hfl : f + 1 = (l.drop n).length := by
        rw [hL, hcount] at hu
        simp at hu ⊢; omega
      rw [hfl]
      refine wpAny_of_seq (l.drop n) n listed a w (fun j => by simp [List.getElem?_drop]) ?_ (hd.1 w hd.2)
      have : (l.drop n).length = l.toArray.size - n := by simp
      rw [this, hL]
      exact hseq

set_option maxRecDepth 100000 in
/-- A REGION THAT DRAWS ITS ORDER, BY A PLAN, and behind it operations in one forced order (a writing call, the assignments). -/
theorem wp_region_plan_tail {id : Nat} {Q : Exit → Act → World → Prop} {a0 : Act} {w0 : World} (n : Nat) (p : List Does) (hm : P.follows .mixedOrders = true) (hB : planB (l.take n).toArray = true) (hf : fillsB p = true) (hT : tailB l.toArray n = true)
    (hp : ∀ X : Nat → Nat, Plan P (l.take n).toArray w0.drew X p (fun a => ∀ w', Behind p w0.drew X w' → wpList P l.toArray Q (l.drop n) a w') 0 (l.take n) p a0) : (Code.region id l.toArray true).wp P Q a0 w0 := by
  have hn0 : n < l.toArray.size := by simp only [tailB, Bool.and_eq_true, decide_eq_true_eq] at hT; exact hT.1.1.1.1.1
  have hn : n < l.length := by simpa using hn0
  refine wp_region_any hm (wpAny_tail (planB_sound hB) hf hT hp _ _ _ _ ?_ ?_ ⟨fun _ => 0, ?_, ?_, ⟨Calm.refl _, ?_, ?_⟩, ?_⟩)
  · simp [unlisted, List.countP_replicate]
  · exact ⟨by simp, fun j oj _ hl => (by rw [getD_replicate_false] at hl; cases hl), fun t _ ht => getD_in (by simpa using ht) (getD_replicate_false _ _)⟩
  · simp
  · refine ⟨rfl, rfl, fun i o d t ho _ hi => ?_, fun _ _ => rfl⟩
    have hi2 : i < n := by have := (Array.getElem?_eq_some_iff.1 ho).1; simp at this; omega
    rw [getD_pre (by simp; omega) hi2, getD_replicate_false] at hi
    cases hi
  · intro i z t _ hp2 hi
    have hi2 : i < n ∨ n ≤ i := Nat.lt_or_ge i n
    rcases hi2 with hi2 | hi2
    · rw [getD_pre (by simp; omega) hi2, getD_replicate_false] at hi; cases hi
    · rw [Array.getD_eq_getD_getElem?, Array.getElem?_extract, if_neg (by simp; omega)] at hi; cases hi
  · intro i j z t z' t' _ _ _ _ hi
    have hi2 : i < n ∨ n ≤ i := Nat.lt_or_ge i n
    rcases hi2 with hi2 | hi2
    · rw [getD_pre (by simp; omega) hi2, getD_replicate_false] at hi; cases hi
    · rw [Array.getD_eq_getD_getElem?, Array.getElem?_extract, if_neg (by simp; omega)] at hi; cases hi
  · intro i o e ho hi
    have hi2 : i < n := by have := (Array.getElem?_eq_some_iff.1 ho).1; simp at this; omega
    rw [getD_pre (by simp; omega) hi2, getD_replicate_false] at hi
    cases hi
end

/-! ### The steps of a plan -/
section
variable {w0 : World} {X : Nat → Nat} {p : List Does} {R : Act → Prop}
set_option maxRecDepth 100000 in
theorem plan_val {i : Nat} {o : Oper} {os : List Oper} {ds : List Does} {a : Act} {v : Value} (h1 : Region.wanted o (yielded ops a.tmps) = true) (h2 : ∀ w, Calm w0 w → Oper.quietUpon P (Calm w) w v ((execOp a.eval o).run P w))
    (h3 : Plan P ops w0 X p R (i + 1) os ds (a.put o.dst v)) : Plan P ops w0 X p R i (o :: os) (.val v :: ds) a := ⟨⟨h1, h2⟩, h3⟩
set_option maxRecDepth 100000 in
theorem plan_idle {i : Nat} {o : Oper} {os : List Oper} {ds : List Does} {a : Act} (h1 : Region.wanted o (yielded ops a.tmps) = false)
    (h3 : Plan P ops w0 X p R (i + 1) os ds (a.put o.dst undef)) : Plan P ops w0 X p R i (o :: os) (.idle :: ds) a := ⟨h1, h3⟩
set_option maxRecDepth 100000 in
theorem plan_new {i : Nat} {o : Oper} {os : List Oper} {ds : List Does} {a : Act} {z : Array Value} {t : TypeId} (h1 : Region.wanted o (yielded ops a.tmps) = true)
    (h2 : ∀ w, (execOp a.eval o).run P w = .ok (.value (.pointer (some ⟨w.heap.size, 0, none⟩))) (w.alloc (.cells z t)))
    (h3 : Plan P ops w0 X p R (i + 1) os ds (a.put o.dst (.pointer (some ⟨X i, 0, none⟩)))) : Plan P ops w0 X p R i (o :: os) (.new z t :: ds) a := ⟨⟨h1, h2⟩, h3⟩
set_option maxRecDepth 100000 in
/-- A slice literal of records. -/
theorem plan_lit {i : Nat} {o : Oper} {os : List Oper} {ds : List Does} {a : Act} {z : Array Value} {t : TypeId} {n : Nat} (h1 : Region.wanted o (yielded ops a.tmps) = true)
    (h2 : ∀ w, (execOp a.eval o).run P w = .ok (.value (.slice (some ⟨w.heap.size, 0, none⟩) n n)) (w.alloc (.cells z t)))
    (h3 : Plan P ops w0 X p R (i + 1) os ds (a.put o.dst (.slice (some ⟨X i, 0, none⟩) n n))) : Plan P ops w0 X p R i (o :: os) (.new z t (some n) :: ds) a := ⟨⟨h1, h2⟩, h3⟩
set_option maxRecDepth 100000 in
theorem plan_fill {i : Nat} {o : Oper} {os : List Oper} {ds : List Does} {a : Act} {k : Nat} {cs z : Array Value} {t : TypeId} (h1 : Region.wanted o (yielded ops a.tmps) = true) (hd : o.dst = none)
    (ha : o.after.any (fun e => Region.binds .any e && e.on == k) = true) (hk : p[k]? = some (.new z t))
    (h2 : ∀ w, w.heap[X k]? = some (.cells z t (0, 0)) → (execOp a.eval o).run P w = .ok .skip (w.setRow (X k) cs) ∨ (execOp a.eval o).run P w = .ok (.value undef) (w.setRow (X k) cs))
    (h3 : Plan P ops w0 X p R (i + 1) os ds (a.put o.dst undef)) : Plan P ops w0 X p R i (o :: os) (.fill k cs :: ds) a := ⟨⟨h1, hd, ha, z, t, none, hk, h2⟩, h3⟩
set_option maxRecDepth 100000 in
/-- The first store of a whole struct or array. -/
theorem plan_fill_row {i : Nat} {o : Oper} {os : List Oper} {ds : List Does} {a : Act} {k : Nat} {cs z : Array Value} {t ty : TypeId} {x y : Operand} (ho : o.op = .store ty x y) (hg : o.guard = none) (hd : o.dst = none)
    (ha : o.after.any (fun e => Region.binds .any e && e.on == k) = true) (hk : p[k]? = some (.new z t)) (hx : a.eval x = .pointer (some ⟨X k, 0, none⟩)) (hy : a.eval y = .agg cs)
    (hi : (P.info? ty).map (·.size) = some cs.size) (hz : z.size = cs.size) (h1 : cs.all (·.oneCell') = true)
    (h3 : Plan P ops w0 X p R (i + 1) os ds (a.put o.dst undef)) : Plan P ops w0 X p R i (o :: os) (.fill k cs :: ds) a := by
  refine plan_fill (by simp [Region.wanted, hg]) hd ha hk (fun w hw => Or.inl ?_) h3
  unfold execOp
  simp only [ho, hx, hy, Instr.storeAt, Instr.sureAddr, Sem.run_bind, Sem.run_pure, Result.andThen_ok, run_storeVar_row w (X k) t ty z cs hw hi hz h1]
set_option maxRecDepth 100000 in
/-- What is read off a new block. -/
theorem plan_look {i : Nat} {o : Oper} {os : List Oper} {ds : List Does} {a : Act} {k : Nat} {v : Value} {z : Array Value} {t : TypeId} {kd : Option Nat} (h1 : Region.wanted o (yielded ops a.tmps) = true)
    (ha : o.after.any (fun e => Region.binds .any e && e.on == k) = true) (hk : p[k]? = some (.new z t kd)) (hn : noFillB p k = true)
    (h2 : ∀ w, Calm w0 w → w.heap[X k]? = some (.cells z t (0, 0)) → Oper.quietUpon P (Calm w) w v ((execOp a.eval o).run P w))
    (h3 : Plan P ops w0 X p R (i + 1) os ds (a.put o.dst v)) : Plan P ops w0 X p R i (o :: os) (.look k v :: ds) a := ⟨⟨h1, ha, z, t, kd, hk, hn, h2⟩, h3⟩
set_option maxRecDepth 100000 in
theorem plan_end {i : Nat} {a : Act} (h : R a) : Plan P ops w0 X p R i [] [] a := h
end

set_option maxRecDepth 100000 in
/-- A contract of a function that leaves the world alone, met in a region that only reads. -/
theorem quiet_same {f : FuncId} {args : Array Value} {w b : World} {v : Value} (h : Calls P f args w fun e w' => e = .returned v ∧ w = w') (hw : ∃ m, w = b.drewN m) :
    Calls P f args w fun e w' => e = .returned v ∧ ∃ m, w' = b.drewN m := h.mono fun _ _ ⟨h1, h2⟩ => ⟨h1, h2 ▸ hw⟩
set_option maxRecDepth 100000 in
/-- A contract met inside a region. -/
theorem calm_call {f : FuncId} {args : Array Value} {w : World} {v : Value} (h : Calls P f args w fun e w' => e = .returned v ∧ Calm w w') : Oper.quietUpon P (Calm w) w v (.ok (.enter f args) w) := ⟨rfl, h⟩
set_option maxRecDepth 100000 in
theorem calm_call_same {f : FuncId} {args : Array Value} {w : World} {v : Value} (h : Calls P f args w fun e w' => e = .returned v ∧ w = w') : Oper.quietUpon P (Calm w) w v (.ok (.enter f args) w) :=
  ⟨rfl, h.mono fun _ _ ⟨h1, h2⟩ => ⟨h1, h2 ▸ Calm.refl _⟩⟩
end
end Go.Proofs.Ytccfcloekjogkaa
