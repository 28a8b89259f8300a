/- Texts of one kind in one file. -/
import Derived.Below
import Derived.Test.YtkppoapjifeifaaRows
import Derived.Handy
import Derived.Deep.Quiet
import Derived.Deep.QuietTactic
import Derived.Laws.Tables
import Derived.StillTail
import Derived.WalkSpells
import Derived.WalkLawsBesides
import Derived.Lib.Hide
import Derived.Deep.RegionWith
import Derived.Deep.RegionHeld3
import Derived.Deep.DeepCutAuto
import Derived.BigQuiet
import Derived.Laws.OwnMore
import Derived.Deep.AppendLies
import Derived.Deep.Draws
import Derived.Laws.BytesArg
import Derived.Laws.MakeOwn
import Derived.Laws.IdiomStrings
import Derived.IntWalk
import Derived.Laws.BitsAll
import Derived.OwnWalk
import Derived.Deep.Slices
import Derived.ProofKit
import Derived.OpenShut
import Derived.Lib.SmallJoins
import Derived.SizedLaws
import Derived.Deep.LoopGhost
import Derived.Outline
import Derived.Lib.SliceRun
import Derived.Laws.Externs
import Derived.Deep.AppendSrc
import Derived.Deep.RegionLaw
set_option maxRecDepth 100000
namespace Go.Proofs.Ytkppoapjifeifaa
open Go.RowKit
def Calm (w w' : World) : Prop := Below w.heap.size w w'
theorem Calm.refl (w : World) : Calm w w := Below.refl _ _
theorem Calm.alloc {a w : World} (h : Calm a w) (o : Obj) : Calm a (w.alloc o) := Below.alloc h (Below.size h) o
theorem Calm.drew {a w : World} (h : Calm a w) : Calm a w.drew := Below.drew h
theorem Calm.setCell {a w : World} (h : Calm a w) {p : Addr} (hp : a.heap.size ≤ p.block) (u : Value) : Calm a (w.setCell p u) := Below.setCell h hp u
theorem Calm.call {a w w1 : World} (h : Calm a w) (hb : Calm w w1) : Calm a w1 := Below.trans h (Below.mono hb (Below.size h))
theorem Calm.size {a w : World} (h : Calm a w) : a.heap.size ≤ w.heap.size := Below.size h
theorem Calm.block {a w : World} (h : Calm a w) {k : Nat} (hk : k < a.heap.size) : w.heap[k]? = a.heap[k]? := Below.block h k hk
/-- Of such a call: cells, marks, how many blocks. -/
theorem Calm.facts {W w1 : World} (hb : Calm W w1) : (∀ b o, b < W.heap.size → w1.cell? ⟨b, o, none⟩ = W.cell? ⟨b, o, none⟩) ∧ (∀ b o, b < W.heap.size → w1.frozen? ⟨b, o, none⟩ = W.frozen? ⟨b, o, none⟩) ∧ (∀ n : Nat, n < W.heap.size → n < w1.heap.size ∧ n < w1.heap.size + 1 ∧ n < w1.heap.size + 1 + 1 ∧ n < w1.heap.size + 1 + 1 + 1 ∧ n < w1.heap.size + 1 + 1 + 1 + 1) :=
 ⟨fun b o h => Below.cell hb (p := ⟨b, o, none⟩) h, fun b o h => Below.frozen hb (p := ⟨b, o, none⟩) h, fun _ h => by have := Below.size hb; omega⟩
section
variable {P : Program} {ops : Array Oper} {Q : Exit → Act → World → Prop} {md : Region.Mode}
def unlisted (listed : Array Bool) : Nat := listed.toList.countP (· == false)
theorem unlisted_set {listed : Array Bool} {i : Nat} (h : listed.getD i true = false) : unlisted (listed.setIfInBounds i true) + 1 = unlisted listed := by
 have hi : i < listed.size := by
  rcases Nat.lt_or_ge i listed.size with h' | h'
  ·exact h'
  ·simp [Array.getElem?_eq_none h'] at h
 have hv : listed[i] = false := by simpa [hi] using h
 have hm : false ∈ listed.toList := by rw [← hv]; simp
 have hpos : 0 < listed.toList.countP (· == false) := List.countP_pos_iff.2 ⟨false, hm, rfl⟩
 have hl : listed.toList[i]'(by simpa using hi) = false := by simpa using hv
 unfold unlisted
 rw [Array.toList_setIfInBounds, List.countP_set (by simpa using hi), hl]
 simp only [beq_self_eq_true, if_true, show ((true == false) = false) from rfl, Bool.false_eq_true, if_false]
 omega
theorem wpAny_inv (J : Array Bool → Act → World → Prop)
    (hstep : ∀ (listed : Array Bool) (a : Act) (w : World) (i : Nat), J listed a w → i ∈ Region.ready md ops listed → wpOp P ops Q i (fun a' w' => J (listed.setIfInBounds i true) a' w') a w)
    (hend : ∀ (listed : Array Bool) (a : Act) (w : World), J listed a w → Region.ready md ops listed = [] → Q .normal a w) :
    ∀ (fuel : Nat) (listed : Array Bool) (a : Act) (w : World), unlisted listed ≤ fuel → J listed a w → wpAny P md ops Q fuel listed a w
  | 0, listed, a, w, hf, hj => by
    have hr : Region.ready md ops listed = [] := by
      cases h : Region.ready md ops listed with
      | nil => rfl
      | cons i r =>
        have hm : i ∈ Region.ready md ops listed := by rw [h]; simp
        have := unlisted_set (mem_ready.1 hm).1
        omega
    exact ⟨hr, hend _ _ _ hj hr⟩
  | fuel + 1, listed, a, w, hf, hj => by
    refine ⟨fun h0 => hend _ _ _ hj h0, fun i hi => ?_⟩
    have := unlisted_set (mem_ready.1 hi).1
    exact wpOp_mono (fun a' w' h => wpAny_inv J hstep hend fuel _ a' w' (by omega) h) (hstep _ _ _ _ hj hi)
inductive Does where
 |val (v : Value)
 |idle
 |new (z : Array Value) (t : TypeId) (kd : Option Nat := none)
 |fill (k : Nat) (cs : Array Value)
 |look (k : Nat) (v : Value)
def planB (ops : Array Oper) : Bool :=
  Region.noSelect ops && (List.range ops.size).all fun j => match ops[j]? with
    | none => true
    | some o => o.after.all (fun e => !Region.binds .any e || decide (e.on < j)) &&
        (List.range ops.size).all fun i => match ops[i]? with
          | none => true
          | some x => match x.dst with
            | none => true
            | some d => (!(o.looksAt ops).contains d || (decide (i < j) && o.after.any (fun e => Region.binds .any e && e.on == i))) && (i == j || o.dst != some d)
/-- Two frames that hold the same wherever an operation looks: it does the same. -/
theorem same_look {o : Oper} (hs : ∀ cs b, o.op ≠ .select cs b) {a b : Act} (h : ∀ t ∈ o.looksAt ops, a.tmps[t]? = b.tmps[t]?) :
    execOp a.eval o = execOp b.eval o ∧ Region.wanted o (yielded ops a.tmps) = Region.wanted o (yielded ops b.tmps) := by
  constructor
  · refine execOp_congr o hs fun x hx => ?_
    cases x with
    | tmp t =>
      have : t ∈ o.looksAt ops := List.mem_append_left _ (List.mem_filterMap.2 ⟨.tmp t, by simpa using hx, rfl⟩)
      have h1 := h t this
      simp [Act.eval, h1]
    | _ => rfl
  · unfold Region.wanted
    cases hg : o.guard with
    | none => rfl
    | some gw =>
      obtain ⟨g, want⟩ := gw
      have : yielded ops a.tmps g = yielded ops b.tmps g := by
        unfold yielded
        cases ht : (ops[g]?).bind (·.dst) with
        | none => rfl
        | some t =>
          have h1 := h t (by simp [Oper.looksAt, hg, ht])
          simp [h1]
      simp only [this]
theorem put_get (a : Act) (d : Option Tmp) (v : Value) (t : Nat) : (a.put d v).tmps[t]? = if d = some t ∧ t < a.tmps.size then some v else a.tmps[t]? := by
 cases d with
 |none => simp [Act.put]
 |some d =>
  simp only [Act.put, Array.getElem?_setIfInBounds, Option.some.injEq]
  by_cases h : d = t
  ·subst h
   by_cases h2 : d < a.tmps.size
   ·simp [h2]
   ·simp [h2]
  ·simp [h]
theorem put_size (a : Act) (d : Option Tmp) (v : Value) : (a.put d v).tmps.size = a.tmps.size := by cases d <;> simp [Act.put]
theorem put_def (a : Act) (d : Option Tmp) (v : Value) : (a.put d v).defers = a.defers := by cases d <;> simp [Act.put]
structure Sound (ops : Array Oper) : Prop where
 noSelect : ∀ (j : Nat) (o : Oper) cs b, ops[j]? = some o → o.op ≠ .select cs b
 before : ∀ (j : Nat) (o : Oper) (e : Edge), ops[j]? = some o → e ∈ o.after → Region.binds .any e = true → e.on < j
 looks : ∀ (j i : Nat) (o x : Oper) (d : Tmp), ops[j]? = some o → ops[i]? = some x → x.dst = some d → d ∈ o.looksAt ops → i < j ∧ ∃ e ∈ o.after, Region.binds .any e = true ∧ e.on = i
 apart : ∀ (j i : Nat) (o x : Oper) (d : Tmp), ops[j]? = some o → ops[i]? = some x → x.dst = some d → o.dst = some d → i = j
theorem planB_sound (h : planB ops = true) : Sound ops := by
 simp only [planB, Bool.and_eq_true, List.all_eq_true, List.mem_range] at h
 obtain ⟨h1, h2⟩ := h
 have lt : ∀ {j : Nat} {o : Oper}, ops[j]? = some o → j < ops.size := fun ho => (Array.getElem?_eq_some_iff.1 ho).1
 refine ⟨fun j o cs b ho => Region.noSelect_spec h1 j o cs b ho, fun j o e ho he hb => ?_, fun j i o x d ho hx hd hl => ?_, fun j i o x d ho hx hd hod => ?_⟩
 ·have := h2 j (lt ho)
  simp only [ho, Bool.and_eq_true, Array.all_eq_true_iff_forall_mem] at this
  have h3 := this.1 e he
  simpa [hb] using h3
 ·have := h2 j (lt ho)
  simp only [ho, Bool.and_eq_true, List.all_eq_true, List.mem_range] at this
  have h3 := this.2 i (lt hx)
  simp only [hx, hd, Bool.and_eq_true] at h3
  have h4 := h3.1
  rw [List.contains_iff_mem.2 hl] at h4
  simp only [Bool.not_true, Bool.false_or, Bool.and_eq_true, decide_eq_true_eq] at h4
  obtain ⟨e, he, hb⟩ := Array.any_eq_true'.1 h4.2
  simp only [Bool.and_eq_true, beq_iff_eq] at hb
  exact ⟨h4.1, e, he, hb⟩
 ·have := h2 j (lt ho)
  simp only [ho, Bool.and_eq_true, List.all_eq_true, List.mem_range] at this
  have h3 := this.2 i (lt hx)
  simp only [hx, hd, Bool.and_eq_true] at h3
  have h4 := h3.2
  simpa [hod] using h4
theorem getD_set_iff {listed : Array Bool} {i j : Nat} (hi : i < listed.size) : (listed.setIfInBounds i true).getD j false = true ↔ (listed.getD j false = true ∨ j = i) := by
 by_cases h : i = j
 ·subst h; simp [hi]
 ·rw [getD_set_ne false h]
  exact ⟨Or.inl, fun h' => h'.resolve_right (fun e => h e.symm)⟩
theorem all_listed (hs : Sound ops) {listed : Array Bool} (h : Region.ready .any ops listed = []) : ∀ (n i : Nat), i ≤ n → i < ops.size → listed.size = ops.size → listed.getD i false = true := by
 intro n
 induction n with
 |zero =>
  intro i hi hlt hsz
  cases hl : listed.getD i false with
  |true => rfl
  |false =>
   have : i ∈ Region.ready .any ops listed := mem_ready.2 ⟨by
    have : i < listed.size := by omega
    simpa [this] using hl, ops[i], Array.getElem?_eq_getElem hlt, fun e he hb => by
     have := hs.before i ops[i] e (Array.getElem?_eq_getElem hlt) he hb
     omega⟩
   rw [h] at this
   cases this
 |succ n ih =>
  intro i hi hlt hsz
  cases hl : listed.getD i false with
  |true => rfl
  |false =>
   have : i ∈ Region.ready .any ops listed := mem_ready.2 ⟨by
    have : i < listed.size := by omega
    simpa [this] using hl, ops[i], Array.getElem?_eq_getElem hlt, fun e he hb => by
     have := hs.before i ops[i] e (Array.getElem?_eq_getElem hlt) he hb
     exact ih e.on (by omega) (by omega) hsz⟩
   rw [h] at this
   cases this
section
variable {l : List Oper} {n : Nat}
end
section
variable {w0 : World} {X : Nat → Nat} {p : List Does} {R : Act → Prop}
end
end
open Go.RowKit
section
variable {P : Program} {ops : Array Oper}
inductive Doing where
 |val (v : Value) (bef : List Nat := [])
 |idle
 |late (aft : List Nat := [])
def Doing.out (Y : Nat → Value) (i : Nat) : Doing → Value
 | .val v _ => v
 | .idle => undef
 | .late _ => Y i
def updV (Y : Nat → Value) (i : Nat) (y : Value) : Nat → Value := fun j => if j = i then y else Y j
def updB (L : Nat → Bool) (i : Nat) : Nat → Bool := fun j => if j = i then true else L j
abbrev Stages := List Bool → (Nat → Value) → World → Prop
def Doing.fits (P : Program) (ops : Array Oper) (late : List Nat) (St : Stages) (Y : Nat → Value) (i : Nat) (o : Oper) (a : Act) : Doing → Prop
  | .val v bef => Region.wanted o (yielded ops a.tmps) = true ∧ ∀ (L : Nat → Bool) (w : World), (∀ j ∈ bef, L j = false) → St (late.map L) Y w → Oper.quietUpon P (Calm w) w v ((execOp a.eval o).run P w)
  | .idle => Region.wanted o (yielded ops a.tmps) = false
  | .late aft => ∀ (L : Nat → Bool) (w : World), L i = false → (∀ j ∈ aft, L j = true) → St (late.map L) Y w →
      wpList P ops (fun x a' w' => x = .normal ∧ ∃ y, a' = a.put o.dst y ∧ St (late.map (updB L i)) (updV Y i y) w') [o] a w
def PlanS (P : Program) (ops : Array Oper) (late : List Nat) (St : Stages) (Y : Nat → Value) (R : Act → Prop) : Nat → List Oper → List Doing → Act → Prop
 |_, [], [], a => R a
 |i, o :: os, d :: ds, a => d.fits P ops late St Y i o a ∧ PlanS P ops late St Y R (i + 1) os ds (a.put o.dst (d.out Y i))
 |_, _, _, _ => False
def stagesB (ops : Array Oper) (late : List Nat) (p : List Doing) : Bool :=
  late.all (fun i => decide (i < p.length)) && (List.range p.length).all fun i => match p[i]? with
    | none => true
    | some (.val _ bef) => !late.contains i && bef.all fun j => match ops[j]? with
        | none => false
        | some x => x.after.any fun e => Region.binds .any e && e.on == i
    | some .idle => !late.contains i
    | some (.late aft) => late.contains i && aft.all fun j => match ops[i]? with
        | none => false
        | some x => x.after.any fun e => Region.binds .any e && e.on == j
structure AgreeV (ops : Array Oper) (val : Nat → Value) (a0 : Act) (S : Nat → Prop) (a : Act) : Prop where
 defers : a.defers = a0.defers
 size : a.tmps.size = a0.tmps.size
 put : ∀ i o t, ops[i]? = some o → S i → o.dst = some t → t < a0.tmps.size → a.tmps[t]? = some (val i)
 old : ∀ t, (∀ i o, ops[i]? = some o → S i → o.dst ≠ some t) → a.tmps[t]? = a0.tmps[t]?
theorem AgreeV.step {val val' : Nat → Value} {a0 : Act} {S T : Nat → Prop} {a : Act} (hs : Sound ops) (h : AgreeV ops val a0 S a) {j : Nat} {o : Oper} (ho : ops[j]? = some o)
    (hT : ∀ i, T i ↔ (S i ∨ i = j)) (hv : ∀ i, S i → i ≠ j → val' i = val i) (hj : ¬ S j) {v : Value} (hvj : ∀ t, o.dst = some t → t < a0.tmps.size → val' j = v) : AgreeV ops val' a0 T (a.put o.dst v) := by
  refine ⟨by rw [put_def, h.defers], by rw [put_size, h.size], fun i oi t hoi hi ht hlt => ?_, fun t ht => ?_⟩
  · rw [put_get]
    rcases (hT i).1 hi with hi | rfl
    · have hij : i ≠ j := fun e => by subst e; exact hj hi
      by_cases hc : o.dst = some t ∧ t < a.tmps.size
      · obtain rfl := hs.apart j i o oi t ho hoi ht hc.1
        exact absurd rfl hij
      · rw [if_neg hc, hv i hi hij]
        exact h.put i oi t hoi hi ht hlt
    · rw [ho] at hoi; cases hoi
      rw [if_pos ⟨ht, by rw [h.size]; exact hlt⟩, hvj t ht hlt]
  · rw [put_get, if_neg (fun hc => ht j o ho ((hT j).2 (Or.inr rfl)) hc.1)]
    exact h.old t fun i oi hoi hi => ht i oi hoi ((hT i).2 (Or.inl hi))
theorem AgreeV.same {val : Nat → Value} {a0 : Act} {S T : Nat → Prop} {a b : Act} (hST : ∀ i, i < ops.size → (S i ∧ T i)) (ha : AgreeV ops val a0 S a) (hb : AgreeV ops val a0 T b) : a = b := by
 obtain ⟨at_, ad⟩ := a
 obtain ⟨bt, bd⟩ := b
 have h1 : ad = bd := ha.defers.trans hb.defers.symm
 subst h1
 congr 1
 apply Array.ext_getElem?
 intro t
 by_cases hw : ∃ (i : Nat) (x : Oper), ops[i]? = some x ∧ x.dst = some t
 ·obtain ⟨i, x, hx, hxt⟩ := hw
  have hi : i < ops.size := (Array.getElem?_eq_some_iff.1 hx).1
  by_cases hlt : t < a0.tmps.size
  ·exact (ha.put i x t hx (hST i hi).1 hxt hlt).trans (hb.put i x t hx (hST i hi).2 hxt hlt).symm
  ·rw [Array.getElem?_eq_none (by have := ha.size; simp only at this; omega), Array.getElem?_eq_none (by have := hb.size; simp only at this; omega)]
 ·have hno : ∀ (i : Nat) (x : Oper), ops[i]? = some x → x.dst ≠ some t := fun i x hx hxt => hw ⟨i, x, hx, hxt⟩
  exact (ha.old t fun i x hx _ => hno i x hx).trans (hb.old t fun i x hx _ => hno i x hx).symm
def valsOf (p : List Doing) (Y : Nat → Value) (i : Nat) : Value := match p[i]? with | some d => d.out Y i | none => undef
theorem planS_get {late : List Nat} {St : Stages} {Y : Nat → Value} {p : List Doing} {a0 : Act} {R : Act → Prop} (hs : Sound ops) : ∀ (os : List Oper) (ds : List Doing) (i : Nat) (a : Act), os = ops.toList.drop i → ds = p.drop i →
    AgreeV ops (valsOf p Y) a0 (· < i) a → PlanS P ops late St Y R i os ds a →
    (∀ j o, i ≤ j → ops[j]? = some o → ∃ d b, p[j]? = some d ∧ AgreeV ops (valsOf p Y) a0 (· < j) b ∧ d.fits P ops late St Y j o b) ∧ (∃ b, AgreeV ops (valsOf p Y) a0 (· < ops.size) b ∧ R b) ∧ (i ≤ ops.size → i ≤ p.length → p.length = ops.size)
  | [], [], i, a, hos, hds, ha, h => by
    have hl : ops.size ≤ i := by have := congrArg List.length hos; simp at this; omega
    refine ⟨fun j o hj hoj => ?_, ⟨a, ⟨ha.defers, ha.size, fun k o t ho hk ht hlt => ha.put k o t ho (by omega) ht hlt, fun t ht => ha.old t fun k o ho hk => ht k o ho ?_⟩, h⟩, fun hi hi2 => ?_⟩
    · have := (Array.getElem?_eq_some_iff.1 hoj).1; omega
    · exact (Array.getElem?_eq_some_iff.1 ho).1
    · have := congrArg List.length hds; simp at this; omega
  | [], d :: ds, i, a, _, _, _, h => absurd h (by simp [PlanS])
  | o :: os, [], i, a, _, _, _, h => absurd h (by simp [PlanS])
  | o :: os, d :: ds, i, a, hos, hds, ha, h => by
    have hlen : i < ops.size := by have := congrArg List.length hos; simp at this; omega
    have ho : ops[i]? = some o := by
      have := congrArg (·[0]?) hos
      simpa using this.symm
    have hd : p[i]? = some d := by
      have := congrArg (·[0]?) hds
      simpa using this.symm
    have hos' : os = ops.toList.drop (i + 1) := by rw [← List.tail_drop, ← hos]; rfl
    have hds' : ds = p.drop (i + 1) := by rw [← List.tail_drop, ← hds]; rfl
    obtain ⟨h1, h2⟩ := h
    have hplen : i < p.length := by have := congrArg List.length hds; simp at this; omega
    have hval : valsOf p Y i = d.out Y i := by unfold valsOf; rw [hd]
    obtain ⟨g1, g2, g3⟩ := planS_get hs os ds (i + 1) (a.put o.dst (d.out Y i)) hos' hds' (ha.step hs ho (fun k => by omega) (fun _ _ _ => rfl) (by omega) (fun _ _ _ => hval)) h2
    refine ⟨fun j oj hj hoj => ?_, g2, fun _ _ => g3 (by omega) (by omega)⟩
    rcases Nat.eq_or_lt_of_le hj with rfl | hj
    · rw [ho] at hoj; cases hoj
      exact ⟨d, a, hd, ha, h1⟩
    · exact g1 j oj hj hoj
structure InvS (ops : Array Oper) (late : List Nat) (St : Stages) (p : List Doing) (a0 : Act) (Y : Nat → Value) (listed : Array Bool) (a : Act) (w : World) : Prop where
 size : listed.size = ops.size
 act : AgreeV ops (valsOf p Y) a0 (fun i => listed.getD i false = true) a
 st : St (late.map fun i => listed.getD i false) Y w
 down : ∀ i o e, ops[i]? = some o → listed.getD i false = true → e ∈ o.after → Region.binds .any e = true → listed.getD e.on false = true
theorem map_early {late : List Nat} {L M : Nat → Bool} {i : Nat} (hi : late.contains i = false) (h : ∀ j, j ≠ i → M j = L j) : late.map M = late.map L := by
 apply List.map_congr_left
 intro j hj
 refine h j fun e => ?_
 subst e
 rw [List.contains_iff_mem.2 hj] at hi
 cases hi
theorem InvS.step {late : List Nat} {St : Stages} {p : List Doing} {a0 : Act} {R : (Nat → Value) → Act → Prop} {Q : Exit → Act → World → Prop} (hs : Sound ops) (hB : stagesB ops late p = true)
    (hC : ∀ bs Y w w', St bs Y w → Calm w w' → St bs Y w') (hp : ∀ Y, PlanS P ops late St Y (R Y) 0 ops.toList p a0) {Y : Nat → Value} {listed : Array Bool} {a : Act} {w : World} {j : Nat}
    (h : InvS ops late St p a0 Y listed a w) (hj : j ∈ Region.ready .any ops listed) :
    wpOp P ops Q j (fun a' w' => ∃ Y', InvS ops late St p a0 Y' (listed.setIfInBounds j true) a' w') a w := by
  obtain ⟨hun, o, ho, hall⟩ := mem_ready.1 hj
  have hjs : j < listed.size := by rw [h.size]; exact (Array.getElem?_eq_some_iff.1 ho).1
  have hnl : listed.getD j false = false := by
    rw [Array.getD_eq_getD_getElem?] at hun ⊢
    rw [Array.getElem?_eq_getElem hjs] at hun ⊢
    simpa using hun
  obtain ⟨g1, _, g3⟩ := planS_get (Y := Y) hs ops.toList p 0 a0 rfl rfl ⟨rfl, rfl, fun i o t _ hi => absurd hi (Nat.not_lt_zero _), fun t _ => rfl⟩ (hp Y)
  obtain ⟨d, b, hd, hb, hfit⟩ := g1 j o (Nat.zero_le _) ho
  have hlook : ∀ t ∈ o.looksAt ops, a.tmps[t]? = b.tmps[t]? := fun t ht => by
    by_cases hw : ∃ (i : Nat) (x : Oper), ops[i]? = some x ∧ x.dst = some t
    · obtain ⟨i, x, hx, hxt⟩ := hw
      obtain ⟨hij, e, he, hbe, rfl⟩ := hs.looks j i o x t ho hx hxt ht
      have hli := hall e he hbe
      by_cases hlt : t < a0.tmps.size
      · rw [h.act.put e.on x t hx hli hxt hlt, hb.put e.on x t hx hij hxt hlt]
      · have e1 : a.tmps[t]? = none := Array.getElem?_eq_none (by rw [h.act.size]; exact Nat.le_of_not_lt hlt)
        have e2 : b.tmps[t]? = none := Array.getElem?_eq_none (by rw [hb.size]; exact Nat.le_of_not_lt hlt)
        rw [e1, e2]
    · have hno : ∀ (i : Nat) (x : Oper), ops[i]? = some x → x.dst ≠ some t := fun i x hx hxt => hw ⟨i, x, hx, hxt⟩
      rw [h.act.old t fun i x hx _ => hno i x hx, hb.old t fun i x hx _ => hno i x hx]
  obtain ⟨hex, hwant⟩ := same_look (hs.noSelect j o · · ho) hlook
  have hdown : ∀ i o' e, ops[i]? = some o' → (listed.setIfInBounds j true).getD i false = true → e ∈ o'.after → Region.binds .any e = true → (listed.setIfInBounds j true).getD e.on false = true := fun i o' e ho' hi he hbe => by
    rcases (getD_set_iff hjs).1 hi with hi | rfl
    · exact getD_set_true (h.down i o' e ho' hi he hbe)
    · rw [ho] at ho'; cases ho'
      exact getD_set_true (hall e he hbe)
  have hpB := List.all_eq_true.1 (Bool.and_eq_true_iff.1 hB).2 j (List.mem_range.2 (List.getElem?_eq_some_iff.1 hd).1)
  rw [hd] at hpB
  have hmapE : late.contains j = false → (late.map fun i => (listed.setIfInBounds j true).getD i false) = late.map fun i => listed.getD i false := fun hl =>
    map_early hl fun i hi => getD_set_ne false (Ne.symm hi)
  have hmapL : (late.map fun i => (listed.setIfInBounds j true).getD i false) = late.map (updB (fun i => listed.getD i false) j) := by
    apply List.map_congr_left
    intro i _
    unfold updB
    by_cases hij : i = j
    · subst hij; rw [if_pos rfl]; exact (getD_set_iff hjs).2 (Or.inr rfl)
    · rw [if_neg hij]; exact getD_set_ne false (Ne.symm hij)
  have hvalj : valsOf p Y j = d.out Y j := by unfold valsOf; rw [hd]
  have hnS : ¬ (listed.getD j false = true) := by rw [hnl]; simp
  unfold wpOp
  simp only [ho]
  cases d with
  | val v bef =>
    simp only [Bool.and_eq_true, Bool.not_eq_true'] at hpB
    obtain ⟨f1, f2⟩ := hfit
    rw [hwant, f1, if_pos rfl]
    left
    unfold Oper.wp
    rw [hex]
    have hbef : ∀ k ∈ bef, listed.getD k false = false := fun k hk => by
      have h1 := List.all_eq_true.1 hpB.2 k hk
      cases hok : ops[k]? with
      | none => rw [hok] at h1; cases h1
      | some x =>
        rw [hok] at h1
        obtain ⟨e, he, h2⟩ := Array.any_eq_true'.1 h1
        simp only [Bool.and_eq_true, beq_iff_eq] at h2
        cases hlk : listed.getD k false with
        | false => rfl
        | true =>
          have := h.down k x e hok hlk he h2.1
          rw [h2.2, hnl] at this
          cases this
    have f3 := f2 (fun i => listed.getD i false) w hbef h.st
    have fin : ∀ w', Calm w w' → ∃ Y', InvS ops late St p a0 Y' (listed.setIfInBounds j true) (a.put o.dst v) w' := fun w' hw' =>
      ⟨Y, by simp [h.size], h.act.step hs ho (fun i => getD_set_iff hjs) (fun _ _ _ => rfl) hnS (fun _ _ _ => hvalj), by rw [hmapE hpB.1]; exact hC _ _ _ _ h.st hw', hdown⟩
    generalize (execOp b.eval o).run P w = r at *
    cases r with
    | ok n w' =>
      cases n <;> simp only [Oper.quietUpon] at f3 <;> simp only [Oper.upon]
      case value u => obtain ⟨e1, e2⟩ := f3; rw [e1, e2]; exact fin w (Calm.refl w)
      case skip => obtain ⟨e1, e2⟩ := f3; rw [e1, ← e2]; exact fin w (Calm.refl w)
      case enter f args =>
        obtain ⟨e1, hc⟩ := f3
        rw [e1]
        exact hc.mono fun e w'' ⟨he, hw''⟩ => by subst he; exact fin w'' hw''
    | halt x w' => simp only [Oper.quietUpon] at f3
  | idle =>
    simp only [Bool.not_eq_true'] at hpB
    have f1 : Region.wanted o (yielded ops b.tmps) = false := hfit
    rw [hwant, f1, if_neg (by simp)]
    exact ⟨Y, by simp [h.size], h.act.step hs ho (fun i => getD_set_iff hjs) (fun _ _ _ => rfl) hnS (fun _ _ _ => hvalj), by rw [hmapE hpB]; exact h.st, hdown⟩
  | late aft =>
    simp only [Bool.and_eq_true] at hpB
    have haft : ∀ k ∈ aft, listed.getD k false = true := fun k hk => by
      have h1 := List.all_eq_true.1 hpB.2 k hk
      rw [ho] at h1
      obtain ⟨e, he, h2⟩ := Array.any_eq_true'.1 h1
      simp only [Bool.and_eq_true, beq_iff_eq] at h2
      rw [← h2.2]
      exact hall e he h2.1
    have f2 := hfit (fun i => listed.getD i false) w hnl haft h.st
    rw [← hmapL] at f2
    have fin : ∀ (v : Value) (w' : World), (∃ y, b.put o.dst v = b.put o.dst y ∧ St (late.map fun i => (listed.setIfInBounds j true).getD i false) (updV Y j y) w') →
        ∃ Y', InvS ops late St p a0 Y' (listed.setIfInBounds j true) (a.put o.dst v) w' := fun v w' ⟨y, hy, hst⟩ => by
      refine ⟨updV Y j y, by simp [h.size], h.act.step hs ho (fun i => getD_set_iff hjs) (fun i _ hij => ?_) hnS (fun t ht hlt => ?_), hst, hdown⟩
      · unfold valsOf
        cases hpi : p[i]? with
        | none => rfl
        | some di => cases di <;> simp [Doing.out, updV, hij]
      · have h1 := congrArg (fun c : Act => c.tmps[t]?) hy
        simp only [put_get] at h1
        have hlb : t < b.tmps.size := by rw [hb.size]; exact hlt
        rw [if_pos ⟨ht, hlb⟩, if_pos ⟨ht, hlb⟩] at h1
        unfold valsOf
        rw [hd]
        simp only [Doing.out, updV, if_pos]
        exact (Option.some.inj h1).symm
    simp only [wpList] at f2
    rw [hwant]
    cases hw : Region.wanted o (yielded ops b.tmps) with
    | false =>
      rw [hw] at f2
      rw [if_neg (by simp)] at f2 ⊢
      obtain ⟨_, y, hy, hst⟩ := f2
      exact fin undef w ⟨y, hy, hst⟩
    | true =>
      rw [hw] at f2
      rw [if_pos rfl] at f2 ⊢
      left
      rcases f2 with f2 | ⟨_, x, w2, hx, _⟩
      rotate_left
      · cases hx
      unfold Oper.wp at f2 ⊢
      rw [hex]
      generalize (execOp b.eval o).run P w = r at *
      cases r with
      | ok n w' =>
        cases n <;> simp only [Oper.upon] at f2 ⊢
        case value v => exact fin v w' f2.2
        case skip => exact fin undef w' f2.2
        case defer dd =>
          obtain ⟨_, y, hy, _⟩ := f2
          have h1 := congrArg Act.defers hy
          rw [put_def, put_def] at h1
          simp at h1
        case enter f args =>
          refine f2.mono fun e w'' he => ?_
          cases e with
          | returned v => exact fin v w'' he.2
          | panicked c => cases he.1
          | outgrown => obtain ⟨x, w2, hx, _⟩ := he; cases hx
        case row row args => exact f2.mono fun v w'' he => fin v w'' he.2
      | halt x w' =>
        cases x <;> simp only [Oper.upon] at f2
        case panic v => cases f2.1
/-- A REGION THAT DRAWS ITS ORDER AND WRITES, by stages. -/
theorem wp_region_stages {id : Nat} {Q : Exit → Act → World → Prop} {a0 : Act} {w0 : World} {l : List Oper} (p : List Doing) (late : List Nat) (St : Stages) (hm : P.follows .mixedOrders = true) (hB : planB l.toArray = true) (hS : stagesB l.toArray late p = true)
    (hC : ∀ bs Y w w', St bs Y w → Calm w w' → St bs Y w') (h0 : ∀ Y, St (late.map fun _ => false) Y w0.drew)
    (hp : ∀ Y, PlanS P l.toArray late St Y (fun a => ∀ w', St (late.map fun _ => true) Y w' → Q .normal a w') 0 l p a0) : (Code.region id l.toArray true).wp P Q a0 w0 := by
  have hs := planB_sound hB
  refine wp_region_any hm (wpAny_inv (fun listed a w => ∃ Y, InvS l.toArray late St p a0 Y listed a w) (fun listed a w j h hj => ?_) (fun listed a w h h0 => ?_) _ _ _ _ (by simp [unlisted, List.countP_replicate]) ⟨fun _ => undef, by simp, ?_, ?_, ?_⟩)
  · obtain ⟨Y, h⟩ := h
    exact InvS.step hs hS hC hp h hj
  · obtain ⟨Y, h⟩ := h
    have hall := fun i (hi : i < l.toArray.size) => all_listed hs h0 i i (Nat.le_refl _) hi h.size
    obtain ⟨_, ⟨b, hb, hR⟩, g3⟩ := planS_get (Y := Y) hs l p 0 a0 rfl rfl ⟨rfl, rfl, fun i o t _ hi => absurd hi (Nat.not_lt_zero _), fun t _ => rfl⟩ (hp Y)
    have hlen := g3 (Nat.zero_le _) (Nat.zero_le _)
    obtain rfl := AgreeV.same (fun i hi => ⟨hall i hi, hi⟩) h.act hb
    refine hR w ?_
    have hst := h.st
    have e : (late.map fun i => listed.getD i false) = late.map fun _ => true := by
      apply List.map_congr_left
      intro i hi
      have hil : i < p.length := of_decide_eq_true (List.all_eq_true.1 (Bool.and_eq_true_iff.1 hS).1 i hi)
      exact hall i (by omega)
    rw [e] at hst
    exact hst
  · refine ⟨rfl, rfl, fun i o t _ hi => ?_, fun _ _ => rfl⟩
    simp [Array.getElem?_replicate] at hi
    split at hi <;> simp at hi
  · have e : (late.map fun i => (Array.replicate l.toArray.size false).getD i false) = late.map fun _ => false := by
      apply List.map_congr_left
      intro i _
      exact getD_replicate_false _ _
    rw [e]
    exact h0 _
  · intro i o e _ hi
    simp [Array.getElem?_replicate] at hi
    split at hi <;> simp at hi
end
open Go.RowKit
section
variable {P : Program} {ops : Array Oper}
theorem planS_val {late : List Nat} {St : Stages} {Y : Nat → Value} {R : Act → Prop} {i : Nat} {o : Oper} {os : List Oper} {ds : List Doing} {a : Act} {v : Value} {bef : List Nat} (h1 : Region.wanted o (yielded ops a.tmps) = true)
    (h2 : ∀ (L : Nat → Bool) (w : World), (∀ j ∈ bef, L j = false) → St (late.map L) Y w → Oper.quietUpon P (Calm w) w v ((execOp a.eval o).run P w))
    (h3 : PlanS P ops late St Y R (i + 1) os ds (a.put o.dst v)) : PlanS P ops late St Y R i (o :: os) (.val v bef :: ds) a := ⟨⟨h1, h2⟩, h3⟩
theorem planS_late {late : List Nat} {St : Stages} {Y : Nat → Value} {R : Act → Prop} {i : Nat} {o : Oper} {os : List Oper} {ds : List Doing} {a : Act} {aft : List Nat}
    (h2 : ∀ (L : Nat → Bool) (w : World), L i = false → (∀ j ∈ aft, L j = true) → St (late.map L) Y w → wpList P ops (fun x a' w' => x = .normal ∧ ∃ y, a' = a.put o.dst y ∧ St (late.map (updB L i)) (updV Y i y) w') [o] a w)
    (h3 : PlanS P ops late St Y R (i + 1) os ds (a.put o.dst (Y i))) : PlanS P ops late St Y R i (o :: os) (.late aft :: ds) a := ⟨h2, h3⟩
theorem planS_end {late : List Nat} {St : Stages} {Y : Nat → Value} {R : Act → Prop} {i : Nat} {a : Act} (h : R a) : PlanS P ops late St Y R i [] [] a := h
variable {i j k : Nat} {A0 : World → Prop} {A1 A2 A3 : Value → World → Prop} {Y : Nat → Value} {L : Nat → Bool} {w : World}
end
open Go.RowKit
theorem ret_int {a b : Int} (h : a = b) : Ending.returned (.int .i64 a) = .returned (.int .i64 b) := by rw [h]
theorem ret_bool {a b : Bool} (h : a = b) : Ending.returned (.bool a) = .returned (.bool b) := by rw [h]
open Go.RowKit
theorem heap_new (w : World) (o : Obj) : (w.alloc o).heap[w.heap.size]? = some o := by show (w.heap.push o)[w.heap.size]? = _; simp
theorem heap_past {w : World} {g : Nat} {c : Obj} (o : Obj) (h : w.heap[g]? = some c) : (w.alloc o).heap[g]? = some c := by
 rw [Below.heap_alloc _ _ _ (Array.getElem?_eq_some_iff.1 h).1, h]
open Go.RowKit
variable {w : World} {g : Nat} {l : List UInt8} {rest : List Value} {fr : Nat × Nat}
set_option maxHeartbeats 2000000 in
theorem within_any (k : Int) (n : Nat) (h0 : 0 < n) (hn : n < 9223372036854775808) : ∃ x : Nat, x < n ∧ ∀ w, Calls Try.prog 29 #[.int .i64 k, .int .i64 (n : Int)] w fun e w' => e = .returned (.int .i64 (x : Int)) ∧ w = w' := by
 have hk : 0 ≤ IntKind.u64.wrap k := by
  show 0 ≤ k % 18446744073709551616
  omega
 refine ⟨(IntKind.u64.wrap k % n).toNat, by have := Int.emod_lt_of_pos (IntKind.u64.wrap k) (b := n) (by omega); omega, fun w => ?_⟩
 go_enter Try.func29, Try.ntmps29
 go_wp2_with fail
 go_returns
 refine ⟨ret_int ?_, rfl⟩
 have h1 := Int.emod_lt_of_pos (IntKind.u64.wrap k) (b := n) (by omega)
 have h2 := Int.emod_nonneg (IntKind.u64.wrap k) (b := n) (by omega)
 generalize IntKind.u64.wrap k % (n : Int) = x at *
 rw [IntWalk.wrap64_in _ (by omega)]; omega
open Go.RowKit
theorem Calm.grownBy {w w' : World} (h : Calm w w') (row : Option Nat) : w.grownBy w' row := ⟨Below.os h, Below.tape h, Below.output h, Below.size h, fun _ hk _ => h.block hk⟩
open Go.ChangeShapes Go.WideShapes Go.ChangeAt Go.RowKit
theorem own : ownKnob Try.prog.godebug = none := by kernel_rfl
theorem laidOut : laidOutB Try.prog = true := by kernel_rfl
section
variable {H : Type} {enc : TypeId × Value → H} {P : Program}
theorem trodAll_stays (hl : laidOutB P = true) {W W' : World} (hb : Calm W W') : ∀ (ts : List TypeId) (vs : List Value) (ds : List (DataW H)) (ps : List MemPlace), ts.all (fun t => P.readableRec t && decide (t < P.types.size)) = true →
    DataW.TrodAll enc P W 0 (fun _ => true) true ts vs ds ps → (∀ x ∈ ps, x.block < W.heap.size) → DataW.TrodAll enc P W' 0 (fun b => decide (b < W.heap.size)) true ts vs ds ps
  | [], [], [], ps, _, h, _ => h
  | t :: ts, v :: vs, d :: ds, ps, ht, h, hlt => by
    obtain ⟨p, q, h1, h2, rfl⟩ := h
    simp only [List.all_cons, Bool.and_eq_true, decide_eq_true_eq] at ht
    exact ⟨p, q, Below.trod hl ht.1.1 ht.1.2 h1 hb fun x hx => hlt x (List.mem_append_left _ hx), trodAll_stays hl hb ts vs ds q (by simpa using ht.2) h2 fun x hx => hlt x (List.mem_append_right _ hx), rfl⟩
  | [], _ :: _, _, _, _, h, _ => absurd h (by simp [DataW.TrodAll])
  | [], [], _ :: _, _, _, h, _ => absurd h (by simp [DataW.TrodAll])
  | _ :: _, [], _, _, _, h, _ => absurd h (by simp [DataW.TrodAll])
  | _ :: _, _ :: _, [], _, _, h, _ => absurd h (by simp [DataW.TrodAll])
/-- The row's post, of a law: it answers true, and nothing that was there has turned. -/
theorem law_post (hl : laidOutB P = true) {f : Func} {s : ChangeSpec} {apart fresh handsOn : Bool} {W W' : World} {args : Array Value} {ds gs : List (DataW H)} {before : List MemPlace}
    (hW : DataW.Whole enc P f.params.toList s.vars apart W args.toList ds gs before) (hb : Calm W W') (hbool : ∃ t, f.resultTypes = #[t] ∧ P.underlying t = some .bool)
    (hts : f.params.toList.all (fun t => P.readableRec t && decide (t < P.types.size)) = true) (hvars : s.vars = []) (hspec : (s.fn H (ds ++ gs)).results = [.lit (.bool true)] ∧ (s.fn H (ds ++ gs)).args = ds ∧ (s.fn H (ds ++ gs)).vars = []) :
    s.post enc P f apart fresh handsOn false W args (.bool true) W' := by
  obtain ⟨t, ht, hu⟩ := hbool
  obtain ⟨h1, h2, h3⟩ := hspec
  have hlt := hW.lt
  obtain ⟨p, q, hA, hV, rfl, hz, hn⟩ := id hW
  rw [hvars] at hV
  obtain ⟨rfl, rfl⟩ := trodVars_none hV
  refine ⟨ds, [], p ++ [], [], p, [], hW, ?_, ?_, ?_, World.keptBut_mono (fun _ h => h) (Below.frame hb _), fun h => by cases h⟩
  · rw [h1, ht]
    exact trodAll_mk1 (shut_bool hu true)
  · rw [h2]
    exact trodAll_stays hl hb _ _ _ _ hts hA fun x hx => hlt x (by simpa using hx)
  · rw [h3, hvars]
    exact rfl
end
section
variable {H : Type} {enc : TypeId × Value → H} {w : World} {base : Nat} {spare : Nat → Bool} {held : Bool}
theorem cellsInt : Try.prog.cellsOf 3 = 1 := by kernel_rfl
theorem cellsStr : Try.prog.cellsOf 9 = 1 := by kernel_rfl
variable {r : Reach} {b0 : Nat} {v : Value} {d : DataW H} {ps : List MemPlace}
end
open Go.ChangeShapes Go.WideShapes Go.ChangeAt Go.RowKit
section
variable {H : Type} {enc : TypeId × Value → H} {w : World} {base : Nat} {spare : Nat → Bool} {held : Bool}
theorem list_of {α : Type} (R : Nat → α → Prop) : ∀ n, (∀ i, i < n → ∃ e, R i e) → ∃ l : List α, l.length = n ∧ ∀ k e, l[k]? = some e → R k e
 | 0, _ => ⟨[], rfl, by simp⟩
 |n + 1, h => by
  obtain ⟨l, hl, hk⟩ := list_of R n fun i hi => h i (by omega)
  obtain ⟨e, he⟩ := h n (by omega)
  refine ⟨l ++ [e], by simp [hl], fun k x hx => ?_⟩
  rcases Nat.lt_or_ge k n with hlt | hge
  ·rw [List.getElem?_append_left (by omega)] at hx; exact hk k x hx
  ·rw [List.getElem?_append_right (by omega)] at hx
   have : k = n := by
    have := (List.getElem?_eq_some_iff.1 hx).1
    simp at this; omega
   subst this
   rw [hl] at hx; simp at hx; subst hx; exact he
theorem add_add (b q i j : Nat) : ((⟨b, q, none⟩ : Addr).add i).add j = ⟨b, q + i + j, none⟩ := by
 unfold Addr.add
 split <;> split <;> simp_all
/-- A slice of rows of N cells each. -/
theorem rows_open {t e : TypeId} {fuel : Nat} {cs : List Value} {x : DataW H × List MemPlace} {α : Type} (cv : α → List Value) (wf : α → Prop) (N : Nat) (ht : Try.prog.underlying t = some (.slice e)) (hN : Try.prog.cellsOf e = N) (h0 : 0 < N)
    (hel : ∀ fuel cs x, DataW.trod enc Try.prog w base spare held fuel e cs = some x → ∃ y, cs = cv y ∧ wf y) (h : DataW.trod enc Try.prog w base spare held fuel t cs = some x) :
    ∃ (A : Option Addr) (c : Nat) (l : List α), cs = [.slice A l.length c] ∧ l.length ≤ 9223372036854775807 ∧ l.length ≤ c ∧ (∀ y ∈ l, wf y) ∧
      (0 < l.length → ∃ b q, A = some ⟨b, q, none⟩ ∧ b < w.heap.size ∧ ∀ (k : Nat) (y : α), l[k]? = some y → ∀ j, j < N → w.cell? ⟨b, q + k * N + j, none⟩ = (cv y)[j]?) ∧
      (x.1 = .nil ∧ l.length = 0 ∨ ∃ els sp : List (DataW H), x.1 = .slice els sp ∧ l.length ≤ els.length) := by
  rcases Go.Deep.open_slice ht h with ⟨hcs, hx⟩ | ⟨a, len, cap, m, n, D, Pl, hcs, _, hl, hm, hmm, hx, hi⟩
  · exact ⟨none, 0, [], hcs, by simp, by simp, by simp, fun h => absurd h (by simp), Or.inl ⟨by rw [hx], rfl⟩⟩
  · have hlm : len ≤ m := by rw [hmm]; split <;> omega
    have hsp : 0 < len → a.spot = none := fun hpos => by
      obtain ⟨cs0, hc0, ht0⟩ := hi 0 (by omega)
      rw [hN] at hc0
      obtain ⟨_, hlc, hat⟩ := World.cells?_some hc0
      have k0 := hat 0 h0
      obtain ⟨v0, hv0⟩ : ∃ v, cs0[0]? = some v := ⟨_, List.getElem?_eq_getElem (by omega)⟩
      rw [hv0, Nat.zero_mul] at k0
      exact World.cell?_spot (by simpa [Addr.add] using k0)
    have each : ∀ i, i < len → ∃ y : α, wf y ∧ a.block < w.heap.size ∧ ∀ j, j < N → w.cell? ⟨a.block, a.off + i * N + j, none⟩ = (cv y)[j]? := fun i hil => by
      obtain ⟨cs', hc, ht'⟩ := hi i (by omega)
      obtain ⟨y, rfl, hwf⟩ := hel _ _ _ ht'
      rw [hN] at hc
      obtain ⟨_, hlc, hat⟩ := World.cells?_some hc
      have hs := hsp (by omega)
      obtain ⟨b, q, sp⟩ := a
      simp only at hs
      subst hs
      simp only [add_add] at hat
      refine ⟨y, hwf, ?_, fun j hj => hat j hj⟩
      have k0 := hat 0 h0
      obtain ⟨v0, hv0⟩ : ∃ v, (cv y)[0]? = some v := ⟨_, List.getElem?_eq_getElem (by omega)⟩
      rw [hv0] at k0
      have hbl := World.block_lt_of_cell? _ _ k0
      exact hbl
    obtain ⟨l, rfl, hk⟩ := list_of (fun i y => wf y ∧ a.block < w.heap.size ∧ ∀ j, j < N → w.cell? ⟨a.block, a.off + i * N + j, none⟩ = (cv y)[j]?) len each
    refine ⟨some a, cap, l, hcs, by simp only [maxLen] at hm; omega, hl, fun y hy => ?_, fun hpos => ?_, Or.inr ⟨_, _, by rw [hx], by simp⟩⟩
    · obtain ⟨k, hkl, rfl⟩ := List.getElem_of_mem hy
      exact (hk k _ (List.getElem?_eq_getElem hkl)).1
    · have hs := hsp hpos
      obtain ⟨b, q, sp⟩ := a
      simp only at hs
      subst hs
      exact ⟨b, q, rfl, (hk 0 _ (List.getElem?_eq_getElem hpos)).2.1, fun k y hy => (hk k y hy).2.2⟩
variable {r : Reach} {b0 : Nat} {v : Value} {d : DataW H} {ps : List MemPlace}
end
open Go.RowKit
theorem str_ne {s s' : ByteArray} (h : ¬ s = s') : (s.toList == s'.toList) = false := by
 cases e : s.toList == s'.toList
 ·rfl
 ·exfalso
  have h2 := eq_of_beq e
  rw [ByteArray.toList_eq, ByteArray.toList_eq] at h2
  exact h (ByteArray.ext (Array.toList_inj.1 h2))
open Go.RowKit
section
variable {α : Type} {cv : α → List Value} {N : Nat}
def LiesG (cv : α → List Value) (N : Nat) (w : World) (A : Option Addr) (l : List α) : Prop :=
 0 < l.length → ∃ b q, A = some ⟨b, q, none⟩ ∧ b < w.heap.size ∧ ∀ (k : Nat) (x : α), l[k]? = some x → ∀ j, j < N → w.cell? ⟨b, q + k * N + j, none⟩ = (cv x)[j]?
def cvs (cv : α → List Value) (l : List α) : List Value := l.flatMap cv
def OwnG (t : TypeId) (cv : α → List Value) (N : Nat) (base : Nat) (w : World) (v : Value) (l : List α) : Prop := w.ownsRow base t N v l.length (cvs cv l)
theorem LiesG.calm {w w' : World} {A : Option Addr} {l : List α} (h : LiesG cv N w A l) (hb : Calm w w') : LiesG cv N w' A l := fun hl => by
 obtain ⟨b, q, hA, hlt, hk⟩ := h hl
 exact ⟨b, q, hA, Nat.lt_of_lt_of_le hlt hb.size, fun k x hx j hj => (hb.facts.1 b _ hlt).trans (hk k x hx j hj)⟩
theorem LiesG.nil_ {w : World} {A : Option Addr} : LiesG cv N w A ([] : List α) := fun h => absurd h (by simp)
theorem cvs_len (hN : ∀ x, (cv x).length = N) (l : List α) : (cvs cv l).length = l.length * N := by
 unfold cvs
 induction l with
 |nil => simp
 |cons e l ih => rw [List.flatMap_cons, List.length_append, ih, hN, List.length_cons, Nat.succ_mul]; omega
theorem cvs_at (hN : ∀ x, (cv x).length = N) : ∀ (l : List α) (k j : Nat) (e : α), l[k]? = some e → j < N → (cvs cv l)[k * N + j]? = (cv e)[j]?
 | [], k, j, e, h, _ => by simp at h
 |x :: l, 0, j, e, h, hj => by
  simp at h; subst h
  show (cv x ++ cvs cv l)[0 * N + j]? = _
  rw [Nat.zero_mul, Nat.zero_add, List.getElem?_append_left (by rw [hN]; exact hj)]
 |x :: l, k + 1, j, e, h, hj => by
  show (cv x ++ cvs cv l)[(k + 1) * N + j]? = _
  rw [Nat.succ_mul, List.getElem?_append_right (by rw [hN]; omega), hN]
  rw [show k * N + N + j - N = k * N + j by omega]
  exact cvs_at hN l k j e (by simpa using h) hj
theorem cvs_snoc (l : List α) (e : α) : cvs cv (l ++ [e]) = cvs cv l ++ cv e := by unfold cvs; simp
theorem cvs_one (h1 : ∀ x, ∀ u ∈ cv x, u.oneCell' = true) (l : List α) : ∀ u ∈ cvs cv l, u.oneCell' = true := by
 intro u hu
 obtain ⟨e, _, h⟩ := List.mem_flatMap.1 hu
 exact h1 e u h
theorem cvs_set (hN : ∀ x, (cv x).length = N) : ∀ {l : List α} {i j : Nat} {u : Value} {x : α} (hi : i < l.length) (_ : j < N) (_ : cv x = (cv l[i]).set j u), (cvs cv l).set (i * N + j) u = cvs cv (l.set i x)
 | [], _, _, _, _, hi, _, _ => absurd hi (by simp)
 |y :: l, 0, j, u, x, hi, hj, hx => by
  show (cv y ++ cvs cv l).set (0 * N + j) u = cv x ++ cvs cv l
  rw [Nat.zero_mul, Nat.zero_add, List.set_append_left _ _ (by rw [hN]; exact hj), hx]
  rfl
 |y :: l, i + 1, j, u, x, hi, hj, hx => by
  show (cv y ++ cvs cv l).set ((i + 1) * N + j) u = cv y ++ cvs cv (l.set i x)
  rw [List.set_append_right _ _ (by rw [hN, Nat.succ_mul]; omega), hN, show (i + 1) * N + j - N = i * N + j by rw [Nat.succ_mul]; omega]
  congr 1
  exact cvs_set hN (l := l) (i := i) (by simpa using hi) hj hx
/-- Each cell of a row that stands in memory. -/
theorem LiesG.cells (hN : ∀ x, (cv x).length = N) (h0 : 0 < N) {w : World} {b q : Nat} {l : List α} (h : LiesG cv N w (some ⟨b, q, none⟩) l) : ∀ j v, (cvs cv l)[j]? = some v → b < w.heap.size ∧ w.cell? ⟨b, q + j, none⟩ = some v := fun j v hj => by
 have hlt : j < l.length * N := by rw [← cvs_len hN]; exact (List.getElem?_eq_some_iff.1 hj).1
 have hk : j / N < l.length := (Nat.div_lt_iff_lt_mul h0).2 hlt
 have hm : j % N < N := Nat.mod_lt _ h0
 have he := Nat.div_add_mod j N
 rw [Nat.mul_comm] at he
 have hel := List.getElem?_eq_getElem hk
 obtain ⟨b', q', hA, hb, hat⟩ := h (Nat.lt_of_le_of_lt (Nat.zero_le _) hk)
 injection hA with hA
 injection hA with h1 h2
 subst h1; subst h2
 have h6 := hat _ _ hel _ hm
 have hj2 := cvs_at hN l (j / N) (j % N) _ hel hm
 rw [he] at hj2
 rw [Nat.add_assoc, he] at h6
 rw [h6, ← hj2, hj]
 exact ⟨hb, rfl⟩
section
variable {t : TypeId} {base : Nat} {w w' : World} {v : Value} {l : List α}
theorem OwnG.lt (h : OwnG t cv N base w v l) : ∀ k, v.ownBlock = some k → base ≤ k ∧ k < w.heap.size := World.ownsRow.lt h
theorem OwnG.calm (h : OwnG t cv N base w v l) (hb : Calm w w') : OwnG t cv N base w' v l := World.ownsRow.kept h (hb.grownBy none) (by
 rcases v.ownBlock with _ | k
 ·exact .inl rfl
 ·exact .inr (by simp))
theorem OwnG.nil (t : TypeId) (cv : α → List Value) (N : Nat) (base : Nat) (w : World) : OwnG t cv N base w (.slice none 0 0) [] := World.ownsRow_nil _ _ _ _
theorem OwnG.weaken {base' : Nat} (h : OwnG t cv N base w v l) (hb : base' ≤ base) : OwnG t cv N base' w v l := ⟨h.1, h.2.imp id fun ⟨g, cap, cur, h1, h2, h3⟩ => ⟨g, cap, cur, h1, Nat.le_trans hb h2, h3⟩⟩
theorem OwnG.same (h : OwnG t cv N base w v l) (hb : ∀ k, v.ownBlock = some k → w'.heap[k]? = w.heap[k]?) : OwnG t cv N base w' v l :=
 ⟨h.1, h.2.imp id fun ⟨g, cap, cur, h1, h2, h3, h4⟩ => ⟨g, cap, cur, h1, h2, (hb g (by rw [h1]; rfl)).trans h3, h4⟩⟩
theorem Calm.grownG {a : World} (h : Calm a w) (hb : a.heap.size ≤ base) (ho : OwnG t cv N base w v l) (hg : w.grownBy w' v.ownBlock) : Calm a w' :=
 Below.grown h hg h.size fun k hk => Nat.le_trans hb (ho.lt k hk).1
theorem OwnG.slice (h : OwnG t cv N base w v l) : ∃ A c, v = .slice A l.length c ∧ l.length ≤ c ∧ c ≤ 9223372036854775807 := by
 rcases h.2 with ⟨rfl, hl⟩ | ⟨g, cap, cur, rfl, _, _, hnc, hcm, _⟩
 ·exact ⟨none, 0, by rw [hl], by omega, by omega⟩
 ·exact ⟨some ⟨g, 0, none⟩, cap, rfl, hnc, by simp only [maxLen] at hcm; omega⟩
theorem OwnG.lies (hN : ∀ x, (cv x).length = N) (h : OwnG t cv N base w v l) : ∃ A c, v = .slice A l.length c ∧ l.length ≤ c ∧ c ≤ 9223372036854775807 ∧ LiesG cv N w A l := by
 rcases h.2 with ⟨rfl, hl⟩ | ⟨g, cap, cur, rfl, _, hg, hnc, hcm, _, ht⟩
 ·have : l = [] := List.eq_nil_of_length_eq_zero hl
  subst this
  exact ⟨none, 0, rfl, Nat.le_refl _, by omega, LiesG.nil_⟩
 ·refine ⟨some ⟨g, 0, none⟩, cap, rfl, hnc, by simp only [maxLen] at hcm; omega, fun hpos => ⟨g, 0, rfl, (Array.getElem?_eq_some_iff.1 hg).1, fun k e he j hj => ?_⟩⟩
  have hk : k < l.length := (List.getElem?_eq_some_iff.1 he).1
  have hkn : k * N + j < l.length * N := by
   have := Nat.mul_le_mul_right N (show k + 1 ≤ l.length from hk)
   rw [Nat.succ_mul] at this
   omega
  rw [Nat.zero_add, cell_of_row w g _ cur _ (0, 0) hg, ← cvs_at hN l k j e he hj, ← ht, List.getElem?_take, if_pos hkn, Array.getElem?_toList]
theorem OwnG.at_ (hN : ∀ x, (cv x).length = N) {A : Option Addr} {n c : Nat} (h : OwnG t cv N base w (.slice A n c) l) : n = l.length ∧ LiesG cv N w A l := by
 obtain ⟨A', c', hv, _, _, hL⟩ := h.lies hN
 injection hv with h1 h2 h3
 subst h1
 exact ⟨h2, hL⟩
theorem OwnG.some_ (h : OwnG t cv N base w v l) (hl : 0 < l.length) : ∃ g cap, v = .slice (some ⟨g, 0, none⟩) l.length cap := by
 rcases h.2 with ⟨_, h1⟩ | ⟨g', cap', cur, h1, _⟩
 ·omega
 ·exact ⟨g', cap', h1⟩
/-- One cell of an element is stored in an owned row. -/
theorem OwnG.set (hN : ∀ x, (cv x).length = N) {g n cap i j : Nat} {u : Value} {x : α} (h : OwnG t cv N base w (.slice (some ⟨g, 0, none⟩) n cap) l) (hi : i < l.length) (hj : j < N) (hx : cv x = (cv l[i]).set j u) :
    OwnG t cv N base (w.setCell ⟨g, i * N + j, none⟩ u) (.slice (some ⟨g, 0, none⟩) n cap) (l.set i x) := by
  have hn : n = l.length := by
    rcases h.2 with ⟨h1, _⟩ | ⟨g', cap', cur, h1, _⟩
    · cases h1
    · injection h1
  subst hn
  have h1 := (World.ownsRow.stored h (i * N + j) u).1
  unfold OwnG
  rw [List.length_set, ← cvs_set hN hi hj hx]
  exact h1
theorem OwnG.frozen {g n cap : Nat} (h : OwnG t cv N base w (.slice (some ⟨g, 0, none⟩) n cap) l) (j : Nat) : w.frozen? ⟨g, j, none⟩ = false := by
 have hn : n = l.length := by
  rcases h.2 with ⟨h1, _⟩ | ⟨g', cap', cur, h1, _⟩
  ·cases h1
  ·injection h1
 subst hn
 exact World.ownsRow.frozenAt h j
theorem OwnG.cell (hN : ∀ x, (cv x).length = N) {g n cap i : Nat} (h : OwnG t cv N base w (.slice (some ⟨g, 0, none⟩) n cap) l) (hi : i < l.length) : (∀ j, j < N → w.cell? ⟨g, i * N + j, none⟩ = (cv l[i])[j]?) ∧ base ≤ g ∧ g < w.heap.size ∧ n = l.length ∧ n ≤ cap := by
 have hn : n = l.length ∧ n ≤ cap := by
  rcases h.2 with ⟨h1, _⟩ | ⟨g', cap', cur, h1, _, _, h2, _⟩
  ·cases h1
  ·injection h1 with h3 h4 h5
   exact ⟨h4, by omega⟩
 obtain ⟨hn, hnc⟩ := hn
 subst hn
 have hlt := h.lt g rfl
 refine ⟨fun j hj => ?_, hlt.1, hlt.2, rfl, hnc⟩
 have := Nat.mul_le_mul_right N (show i + 1 ≤ l.length from hi)
 rw [Nat.succ_mul] at this
 rw [World.ownsRow.cellAt h (i * N + j) (by omega), cvs_at hN l i j _ (List.getElem?_eq_getElem hi) hj]
end
end
open Go.RowKit
structure Wr where
 i : Int
 s : ByteArray
instance : DecidableEq Wr := fun a b => decidable_of_iff (a.i = b.i ∧ a.s = b.s) (by cases a; cases b; simp)
def stC (s : ByteArray) : List Value := [.string s]
def wrC (x : Wr) : List Value := [.int .i64 x.i, .string x.s]
theorem stC_len (s : ByteArray) : (stC s).length = 1 := rfl
theorem wrC_len (x : Wr) : (wrC x).length = 2 := rfl
theorem stC_one (s : ByteArray) : ∀ u ∈ stC s, u.oneCell' = true := by
 intro u hu
 simp only [stC, List.mem_cons, List.not_mem_nil, or_false] at hu
 subst hu; rfl
theorem wrC_one (x : Wr) : ∀ u ∈ wrC x, u.oneCell' = true := by
 intro u hu
 simp only [wrC, List.mem_cons, List.not_mem_nil, or_false] at hu
 rcases hu with rfl | rfl <;> rfl
def LiesP (w : World) (A : Option Addr) (l : List ByteArray) : Prop := LiesG stC 1 w A l
def LiesW (w : World) (A : Option Addr) (l : List Wr) : Prop := LiesG wrC 2 w A l
theorem LiesP.calm {w w' : World} {A : Option Addr} {l : List ByteArray} (h : LiesP w A l) (hb : Calm w w') : LiesP w' A l := LiesG.calm h hb
theorem LiesW.calm {w w' : World} {A : Option Addr} {l : List Wr} (h : LiesW w A l) (hb : Calm w w') : LiesW w' A l := LiesG.calm h hb
theorem LiesP.get {w : World} {A : Option Addr} {l : List ByteArray} (h : LiesP w A l) {k : Nat} (hk : k < l.length) : ∃ (b q : Nat) (s : ByteArray), A = some ⟨b, q, none⟩ ∧ b < w.heap.size ∧ Hid (l[k]? = some s) ∧ w.cell? ⟨b, q + k, none⟩ = some (.string s) := by
 obtain ⟨b, q, hA, hlt, h2⟩ := h (by omega)
 have := h2 k _ (List.getElem?_eq_getElem hk) 0 (by omega)
 rw [Nat.mul_one, Nat.add_zero] at this
 exact ⟨b, q, l[k], hA, hlt, List.getElem?_eq_getElem hk, this⟩
theorem LiesW.get {w : World} {A : Option Addr} {l : List Wr} (h : LiesW w A l) {k : Nat} (hk : k < l.length) : ∃ (b q : Nat) (i : Int) (s : ByteArray), A = some ⟨b, q, none⟩ ∧ b < w.heap.size ∧ Hid (l[k]? = some ⟨i, s⟩) ∧ w.cell? ⟨b, q + k * 2, none⟩ = some (.int .i64 i) ∧ w.cell? ⟨b, q + k * 2 + 1, none⟩ = some (.string s) := by
 obtain ⟨b, q, hA, hlt, h2⟩ := h (by omega)
 have h3 := h2 k _ (List.getElem?_eq_getElem hk)
 exact ⟨b, q, l[k].i, l[k].s, hA, hlt, List.getElem?_eq_getElem hk, h3 0 (by omega), h3 1 (by omega)⟩
def wrE (n : Nat) (x : Wr) : Int := if x.i < 0 ∨ (n : Int) ≤ x.i then 1 else if 3500 < x.s.size then 2 else 0
def wrsE (n : Nat) : List Wr → Int
 | [] => 0
 |x :: l => if wrE n x = 0 then wrsE n l else wrE n x
def dkErr (ps : List ByteArray) (ws : List Wr) : Int := if 201 < ps.length ∨ 400 < ws.length then 2 else if ps.any (fun s => decide (3500 < s.size)) = true then 2 else wrsE ps.length ws
theorem wrsE_drop {n : Nat} {ws : List Wr} {j : Nat} {x : Wr} (h : ws[j]? = some x) : wrsE n (ws.drop j) = if wrE n x = 0 then wrsE n (ws.drop (j + 1)) else wrE n x := by
 have hj := (List.getElem?_eq_some_iff.1 h).1
 rw [List.drop_eq_getElem_cons hj, (List.getElem?_eq_some_iff.1 h).2]; rfl
theorem wrsE_zero {n : Nat} : ∀ {ws : List Wr}, wrsE n ws = 0 ↔ ∀ x ∈ ws, wrE n x = 0
 | [] => by simp [wrsE]
 |x :: l => by
  unfold wrsE
  split
  ·rename_i h; rw [wrsE_zero]; simp [h]
  ·rename_i h; simp [h]
theorem wrE_zero {n : Nat} {x : Wr} : wrE n x = 0 ↔ 0 ≤ x.i ∧ x.i < n ∧ x.s.size ≤ 3500 := by
 unfold wrE
 split
 ·omega
 ·split <;> omega
theorem dkErr_zero {ps : List ByteArray} {ws : List Wr} : dkErr ps ws = 0 ↔ ps.length ≤ 201 ∧ ws.length ≤ 400 ∧ (∀ s ∈ ps, s.size ≤ 3500) ∧ ∀ x ∈ ws, wrE ps.length x = 0 := by
 unfold dkErr
 constructor
 ·intro h
  split at h
  ·omega
  ·split at h
   ·omega
   ·rename_i h1 h2
    refine ⟨by omega, by omega, fun s hs => ?_, wrsE_zero.1 h⟩
    rw [List.any_eq_true] at h2
    rcases Nat.lt_or_ge 3500 s.size with h3 | h3
    ·exact absurd ⟨s, hs, by simpa using h3⟩ h2
    ·exact h3
 ·rintro ⟨h1, h2, h3, h4⟩
  rw [if_neg (by omega), if_neg, wrsE_zero.2 h4]
  rw [List.any_eq_true]
  rintro ⟨s, hs, h5⟩
  have := h3 s hs
  simp at h5
  omega
def doneL (f : Nat → Bool) : Nat → List Wr → List ByteArray → List ByteArray
 |_, [], ps => ps
 |k, x :: ws, ps => doneL f (k + 1) ws (if f k = true then ps.set x.i.toNat x.s else ps)
def rdL (i : Int) : List Wr → ByteArray → ByteArray
 | [], s => s
 |x :: ws, s => rdL i ws (if x.i = i then x.s else s)
theorem doneL_snoc (f : Nat → Bool) : ∀ (ws : List Wr) (k : Nat) (x : Wr) (ps : List ByteArray), doneL f k (ws ++ [x]) ps = if f (k + ws.length) = true then (doneL f k ws ps).set x.i.toNat x.s else doneL f k ws ps
 | [], k, x, ps => rfl
 |y :: ws, k, x, ps => by
  show doneL f (k + 1) (ws ++ [x]) _ = _
  rw [doneL_snoc f ws, List.length_cons, show k + 1 + ws.length = k + (ws.length + 1) by omega]
  rfl
theorem doneL_take {f : Nat → Bool} {ws : List Wr} {j : Nat} {x : Wr} {ps : List ByteArray} (h : ws[j]? = some x) : doneL f 0 (ws.take (j + 1)) ps = if f j = true then (doneL f 0 (ws.take j) ps).set x.i.toNat x.s else doneL f 0 (ws.take j) ps := by
 obtain ⟨hj, he⟩ := List.getElem?_eq_some_iff.1 h
 rw [List.take_succ_eq_append_getElem hj, he, doneL_snoc, List.length_take, Nat.min_eq_left (by omega), Nat.zero_add]
theorem doneL_len (f : Nat → Bool) : ∀ (ws : List Wr) (k : Nat) (ps : List ByteArray), (doneL f k ws ps).length = ps.length
 | [], _, _ => rfl
 |x :: ws, k, ps => by
  show (doneL f (k + 1) ws _).length = _
  rw [doneL_len f ws]
  split
  ·rw [List.length_set]
  ·rfl
theorem rdL_snoc (i : Int) : ∀ (ws : List Wr) (x : Wr) (s : ByteArray), rdL i (ws ++ [x]) s = if x.i = i then x.s else rdL i ws s
 | [], _, _ => rfl
 |y :: ws, x, s => by
  show rdL i (ws ++ [x]) _ = _
  rw [rdL_snoc i ws]; rfl
theorem rdL_take {i : Int} {ws : List Wr} {j : Nat} {x : Wr} {s : ByteArray} (h : ws[j]? = some x) : rdL i (ws.take (j + 1)) s = if x.i = i then x.s else rdL i (ws.take j) s := by
 obtain ⟨hj, he⟩ := List.getElem?_eq_some_iff.1 h
 rw [List.take_succ_eq_append_getElem hj, he, rdL_snoc]
/-- All writes, in order: what a page reads as. -/
theorem done_read {n : Nat} : ∀ {ws : List Wr} {k : Nat} {ps : List ByteArray}, ps.length = n → (∀ x ∈ ws, wrE n x = 0) → ∀ (i : Nat) (s : ByteArray), ps[i]? = some s → (doneL (fun _ => true) k ws ps)[i]? = some (rdL i ws s)
 | [], _, ps, _, _, i, s, h => h
 |x :: ws, k, ps, hn, hw, i, s, h => by
  have hx := wrE_zero.1 (hw x List.mem_cons_self)
  have hi := (List.getElem?_eq_some_iff.1 h).1
  show (doneL (fun _ => true) (k + 1) ws (ps.set x.i.toNat x.s))[i]? = some (rdL i ws (if x.i = i then x.s else s))
  refine done_read (ws := ws) (by rw [List.length_set]; exact hn) (fun y hy => hw y (List.mem_cons_of_mem _ hy)) i _ ?_
  rw [List.getElem?_set]
  by_cases he : x.i = (i : Int)
  ·rw [if_pos (by omega), if_pos (by omega), if_pos he]
  ·rw [if_neg (by omega), if_neg he]; exact h
/-- The pages are as short as they must be, whichever writes are done. -/
theorem done_ok {n : Nat} {f : Nat → Bool} : ∀ {ws : List Wr} {k : Nat} {ps : List ByteArray}, (∀ x ∈ ws, wrE n x = 0) → (∀ s ∈ ps, s.size ≤ 3500) → ∀ s ∈ doneL f k ws ps, s.size ≤ 3500
 | [], _, _, _, h => h
 |x :: ws, k, ps, hw, h => by
  refine done_ok (ws := ws) (fun y hy => hw y (List.mem_cons_of_mem _ hy)) ?_
  split
  ·intro s hs
   rcases List.mem_or_eq_of_mem_set hs with h1 | h1
   ·exact h s h1
   ·rw [h1]; exact (wrE_zero.1 (hw x List.mem_cons_self)).2.2
  ·exact h
def rdE (ps : List ByteArray) (ws : List Wr) (i : Int) : Int := if dkErr ps ws = 0 then (if i < 0 ∨ (ps.length : Int) ≤ i then 1 else 0) else dkErr ps ws
def rdS (ps : List ByteArray) (ws : List Wr) (i : Int) : ByteArray := if rdE ps ws i = 0 then rdL i ws (ps.getD i.toNat { data := #[] }) else { data := #[] }
def ptE (ps : List ByteArray) (ws : List Wr) (x : Wr) : Int := if dkErr ps ws = 0 then (if wrE ps.length x = 0 then (if ws.length = 400 then 8 else 0) else wrE ps.length x) else dkErr ps ws
def curP (ps : List ByteArray) (ws : List Wr) : List ByteArray := doneL (fun _ => true) 0 ws ps
/-- Behind any of the writes the disk is a right one again, with nothing pending. -/
theorem done_err {ps : List ByteArray} {ws : List Wr} (f : Nat → Bool) (h : dkErr ps ws = 0) : dkErr (doneL f 0 ws ps) [] = 0 := by
 obtain ⟨h1, h2, h3, h4⟩ := dkErr_zero.1 h
 exact dkErr_zero.2 ⟨by rw [doneL_len]; exact h1, by simp, done_ok h4 h3, by simp⟩
open Go.RowKit
theorem infoP : (Try.prog.info? 9).map (fun i => (i.zero, i.size, i.bytes)) = some (some (.string ByteArray.empty), 1, 16) := by kernel_rfl
def OwnP (base : Nat) (w : World) (v : Value) (l : List ByteArray) : Prop := OwnG 9 stC 1 base w v l
theorem OwnP.calm {base : Nat} {w w' : World} {v : Value} {l : List ByteArray} (h : OwnP base w v l) (hb : Calm w w') : OwnP base w' v l := OwnG.calm h hb
theorem OwnP.slice {base : Nat} {w : World} {v : Value} {l : List ByteArray} (h : OwnP base w v l) : ∃ A c, v = .slice A l.length c ∧ l.length ≤ c ∧ c ≤ 9223372036854775807 := OwnG.slice h
theorem OwnP.at_ {base : Nat} {w : World} {l : List ByteArray} {A : Option Addr} {n c : Nat} (h : OwnP base w (.slice A n c) l) : n = l.length ∧ LiesP w A l := OwnG.at_ stC_len h
theorem OwnP.nil (base : Nat) (w : World) : OwnP base w (.slice none 0 0) [] := OwnG.nil _ _ _ _ _
set_option maxHeartbeats 4000000 in
theorem cloneP_any (A : Option Addr) (c : Nat) (l : List ByteArray) (w : World) (hn : l.length ≤ 1000000) (hL : LiesP w A l) :
    Calls Try.prog 39 #[.slice A l.length c] w fun e w' => ∃ v, e = .returned v ∧ OwnP w.heap.size w' v l ∧ Calm w w' := by
  rcases A with _ | ⟨b, q, sp⟩
  · have h0 : l = [] := by
      rcases Nat.eq_zero_or_pos l.length with h | h
      · exact List.eq_nil_of_length_eq_zero h
      · obtain ⟨_, _, h1, _⟩ := hL h; cases h1
    subst h0
    have q22 : ∀ (w : World) (n c n' c' : Nat), (binOp .eql 22 (.slice none n c) (.slice none n' c')).run Try.prog w = .ok (.bool true) w := fun w n c n' c' => Lib.run_eql_slice_nil w _ _ none n c n' c' Try.underlying22
    go_enter Try.func39, Try.ntmps39
    go_wp2_with fail
    go_ret
    exact ⟨_, rfl, OwnP.nil _ _, Calm.refl _⟩
  · obtain ⟨i0, hi, hz0, hz1, hz2⟩ := info_parts infoP
    have q22 : ∀ (w : World) (a : Addr) (n c n' c' : Nat), (binOp .eql 22 (.slice (some a) n c) (.slice none n' c')).run Try.prog w = .ok (.bool false) w := fun w a n c n' c' => Lib.run_eql_slice_nil w _ _ (some a) n c n' c' Try.underlying22
    have hsrc : Hid (∀ j v, (cvs stC l)[j]? = some v → (w.alloc (.cells #[] 9)).cell? ((⟨b, q, sp⟩ : Addr).add j) = some v) := show ∀ _, _ from fun j v hj => by
      have hlt : j < l.length * 1 := by rw [← cvs_len stC_len]; exact (List.getElem?_eq_some_iff.1 hj).1
      obtain ⟨b', q', hA, hb, _⟩ := hL (by omega)
      injection hA with hA
      injection hA with h1 h2 h3
      subst h1; subst h2; subst h3
      have := (LiesG.cells stC_len (by omega) hL j v hj).2
      have e : (⟨b, q, none⟩ : Addr).add j = ⟨b, q + j, none⟩ := by unfold Addr.add; split <;> simp_all
      rw [e, World.cell?_alloc_lt _ _ _ hb]; exact this
    have HLEN := Lib.hid (cvs_len stC_len l)
    have hone : Hid (∀ u ∈ cvs stC l, u.oneCell' = true) := cvs_one stC_one l
    have hbig : l.length * 16 ≤ 140737488355328 := by omega
    have hmax : l.length ≤ maxLen := by unfold maxLen; omega
    clear hL
    go_enter Try.func39, Try.ntmps39
    go_wp2_with (at_builtin; refine wpList_append_own _ rfl _ _ 22 rfl w.heap.size 9 i0 _ 1 16 Try.underlying22 hi hz0 hz1 hz2 rfl (by decide) _ _ _ rfl (World.ownsRow_made w #[] 0 (Nat.le_refl _) (Nat.zero_le _) (by simp)) ⟨b, q, sp⟩ l.length c (cvs stC l) rfl HLEN.out hsrc.out hone.out (by rw [Nat.zero_add]; exact hmax) (by rw [Nat.zero_add]; exact hbig) (by simp) ?_; intro v' w1 hown hgrow _)
    have hO : OwnP w.heap.size w1 v' l := by unfold OwnP OwnG; simpa using hown
    have hC : Calm w w1 := Below.grown ((Calm.refl w).alloc _) hgrow (by simp) (by intro k hk; cases hk; exact Nat.le_refl _)
    clear hown hgrow
    go_wp2_with fail
    go_ret
    exact ⟨_, rfl, hO, hC⟩
theorem infoW : (Try.prog.info? 41).map (fun i => (i.zero, i.size, i.bytes)) = some (some (.agg #[.int .i64 0, .string ByteArray.empty]), 2, 24) := by kernel_rfl
def OwnW (base : Nat) (w : World) (v : Value) (l : List Wr) : Prop := OwnG 41 wrC 2 base w v l
theorem OwnW.calm {base : Nat} {w w' : World} {v : Value} {l : List Wr} (h : OwnW base w v l) (hb : Calm w w') : OwnW base w' v l := OwnG.calm h hb
theorem OwnW.slice {base : Nat} {w : World} {v : Value} {l : List Wr} (h : OwnW base w v l) : ∃ A c, v = .slice A l.length c ∧ l.length ≤ c ∧ c ≤ 9223372036854775807 := OwnG.slice h
theorem OwnW.at_ {base : Nat} {w : World} {l : List Wr} {A : Option Addr} {n c : Nat} (h : OwnW base w (.slice A n c) l) : n = l.length ∧ LiesW w A l := OwnG.at_ wrC_len h
theorem OwnW.nil (base : Nat) (w : World) : OwnW base w (.slice none 0 0) [] := OwnG.nil _ _ _ _ _
set_option maxHeartbeats 4000000 in
theorem cloneW_any (A : Option Addr) (c : Nat) (l : List Wr) (w : World) (hn : l.length ≤ 1000000) (hL : LiesW w A l) :
    Calls Try.prog 23 #[.slice A l.length c] w fun e w' => ∃ v, e = .returned v ∧ OwnW w.heap.size w' v l ∧ Calm w w' := by
  rcases A with _ | ⟨b, q, sp⟩
  · have h0 : l = [] := by
      rcases Nat.eq_zero_or_pos l.length with h | h
      · exact List.eq_nil_of_length_eq_zero h
      · obtain ⟨_, _, h1, _⟩ := hL h; cases h1
    subst h0
    have q22 : ∀ (w : World) (n c n' c' : Nat), (binOp .eql 23 (.slice none n c) (.slice none n' c')).run Try.prog w = .ok (.bool true) w := fun w n c n' c' => Lib.run_eql_slice_nil w _ _ none n c n' c' Try.underlying23
    go_enter Try.func23, Try.ntmps23
    go_wp2_with fail
    go_ret
    exact ⟨_, rfl, OwnW.nil _ _, Calm.refl _⟩
  · obtain ⟨i0, hi, hz0, hz1, hz2⟩ := info_parts infoW
    have q22 : ∀ (w : World) (a : Addr) (n c n' c' : Nat), (binOp .eql 23 (.slice (some a) n c) (.slice none n' c')).run Try.prog w = .ok (.bool false) w := fun w a n c n' c' => Lib.run_eql_slice_nil w _ _ (some a) n c n' c' Try.underlying23
    have hsrc : Hid (∀ j v, (cvs wrC l)[j]? = some v → (w.alloc (.cells #[] 41)).cell? ((⟨b, q, sp⟩ : Addr).add j) = some v) := show ∀ _, _ from fun j v hj => by
      have hlt : j < l.length * 2 := by rw [← cvs_len wrC_len]; exact (List.getElem?_eq_some_iff.1 hj).1
      obtain ⟨b', q', hA, hb, _⟩ := hL (by omega)
      injection hA with hA
      injection hA with h1 h2 h3
      subst h1; subst h2; subst h3
      have := (LiesG.cells wrC_len (by omega) hL j v hj).2
      have e : (⟨b, q, none⟩ : Addr).add j = ⟨b, q + j, none⟩ := by unfold Addr.add; split <;> simp_all
      rw [e, World.cell?_alloc_lt _ _ _ hb]; exact this
    have HLEN := Lib.hid (cvs_len wrC_len l)
    have hone : Hid (∀ u ∈ cvs wrC l, u.oneCell' = true) := cvs_one wrC_one l
    have hbig : l.length * 24 ≤ 140737488355328 := by omega
    have hmax : l.length ≤ maxLen := by unfold maxLen; omega
    clear hL
    go_enter Try.func23, Try.ntmps23
    go_wp2_with (at_builtin; refine wpList_append_own _ rfl _ _ 23 rfl w.heap.size 41 i0 _ 2 24 Try.underlying23 hi hz0 hz1 hz2 rfl (by decide) _ _ _ rfl (World.ownsRow_made w #[] 0 (Nat.le_refl _) (Nat.zero_le _) (by simp)) ⟨b, q, sp⟩ l.length c (cvs wrC l) rfl HLEN.out hsrc.out hone.out (by rw [Nat.zero_add]; exact hmax) (by rw [Nat.zero_add]; exact hbig) (by simp) ?_; intro v' w1 hown hgrow _)
    have hO : OwnW w.heap.size w1 v' l := by unfold OwnW OwnG; simpa using hown
    have hC : Calm w w1 := Below.grown ((Calm.refl w).alloc _) hgrow (by simp) (by intro k hk; cases hk; exact Nat.le_refl _)
    clear hown hgrow
    go_wp2_with fail
    go_ret
    exact ⟨_, rfl, hO, hC⟩
/-- append(out, x): one write more in a row of the call's own. -/
theorem wpList_append_w {ops : Array Oper} {rest : List Oper} {o : Oper} {a : Act} {w : World} {Q : Exit → Act → World → Prop} (hgd : o.guard = none) (s x : Operand)
    (ho : o.op = .call { callee := .builtin .append, args := #[s, x], argTypes := #[23, 23] })
    (base : Nat) (v : Value) (l : List Wr) (hs : a.eval s = v) (hown : OwnW base w v l) (g t : Nat) (i : Int) (sv : ByteArray) (fr : Nat × Nat)
    (hx : a.eval x = .slice (some ⟨g, 0, none⟩) 1 1) (hg : w.heap[g]? = some (.cells #[.int .i64 i, .string sv] t fr)) (hl : l.length ≤ 1000000) (hbase : base ≤ w.heap.size)
    (h : ∀ v' w', OwnW base w' v' (l ++ [⟨i, sv⟩]) → (∀ w0 : World, w0.heap.size ≤ base → Calm w0 w → Calm w0 w') → w.grownBy w' v.ownBlock → wpList Try.prog ops Q rest (a.put o.dst v') w') : wpList Try.prog ops Q (o :: rest) a w := by
  obtain ⟨i0, hi, hz0, hz1, hz2⟩ := info_parts infoW
  refine wpList_append_own w hgd s x _ ho base 41 i0 _ 2 24 Try.underlying23 hi hz0 hz1 hz2 rfl (by decide) v _ _ hs hown ⟨g, 0, none⟩ 1 1 (wrC ⟨i, sv⟩) hx rfl (fun j u hj => ?_) (wrC_one _) (by unfold maxLen; omega) (by omega) hbase fun v' w' h1 h2 _ => ?_
  · have : (⟨g, 0, none⟩ : Addr).add j = ⟨g, j, none⟩ := by unfold Addr.add; split <;> simp_all
    rw [this, cell_of_row w g j _ t fr hg, ← hj]
    simp [wrC]
  · refine h v' w' ?_ (fun w0 h0 hc => hc.grownG h0 hown h2) h2
    unfold OwnW OwnG
    rw [List.length_append, cvs_snoc]
    exact h1
open Go.RowKit
theorem rowD {w : World} {g t : Nat} {a b : Value} {fr : Nat × Nat} (h : w.heap[g]? = some (.cells #[a, b] t fr)) : w.cell? ⟨g, 0, none⟩ = some a ∧ w.cell? ⟨g, 1, none⟩ = some b ∧ g < w.heap.size :=
 ⟨cell_of_row _ _ 0 _ _ _ h, cell_of_row _ _ 1 _ _ _ h, (Array.getElem?_eq_some_iff.1 h).1⟩
theorem setD2 {w : World} {g t : Nat} {a0 a1 : Value} (h : w.heap[g]? = some (.cells #[a0, a1] t (0, 0))) (b0 b1 : Value) :
    ((w.setCell ⟨g, 0, none⟩ b0).setCell ⟨g, 1, none⟩ b1).heap[g]? = some (.cells #[b0, b1] t (0, 0)) := by
  have h1 := heap_setCell_same w g 0 _ t b0 h
  exact heap_setCell_same _ g 1 _ t b1 h1
theorem Calm.twoD {a w : World} (h : Calm a w) {g : Nat} (hg : a.heap.size ≤ g) (b0 b1 : Value) : Calm a ((w.setCell ⟨g, 0, none⟩ b0).setCell ⟨g, 1, none⟩ b1) :=
 (h.setCell (p := ⟨g, 0, none⟩) hg b0).setCell (p := ⟨g, 1, none⟩) hg b1
theorem freeD2 {w : World} {g t : Nat} {cs : Array Value} (h : w.heap[g]? = some (.cells cs t (0, 0))) : w.frozen? ⟨g, 0, none⟩ = false ∧ w.frozen? ⟨g, 1, none⟩ = false :=
 ⟨frozen_of_row _ _ _ _ _ h, frozen_of_row _ _ _ _ _ h⟩
/-- Two results: a disk that lies in memory, and a temporary. -/
theorem results_dkE {fn : Func} {p q : Tmp} (h : fn.results = #[.cell p 25, .tmp q]) (tmps : Array Value) (w : World) (g : Nat) (t : TypeId) (cs : Array Value) (v : Value) (fr : Nat × Nat)
    (hp : tmps.getD p undef = .pointer (some ⟨g, 0, none⟩)) (hq : tmps.getD q undef = v) (hg : w.heap[g]? = some (.cells cs t fr)) (hsz : cs.size = 2) :
    (results fn tmps).run Try.prog w = .ok (.tuple #[.agg cs, v]) w := by
  have hp' : tmps[p]?.getD undef = .pointer (some ⟨g, 0, none⟩) := by simpa using hp
  have hq' : tmps[q]?.getD undef = v := by simpa using hq
  have hi : (Try.prog.info? 25).map (·.size) = some cs.size := by rw [hsz]; kernel_rfl
  simp [results, h, hp', hq', asAddr, run_loadVar_row w g t 25 cs fr _ hg Try.underlying25 rfl hi]
theorem end_dkE {P : Program} {fn : Func} {p q : Tmp} {Q : Ending → World → Prop} (hP : P = Try.prog) (h : fn.results = #[.cell p 25, .tmp q]) (a : Act) (w : World) (g : Nat) (t : TypeId) (cs : Array Value) (v : Value) (fr : Nat × Nat) (hd : a.defers = [])
    (hp : a.tmps.getD p undef = .pointer (some ⟨g, 0, none⟩)) (hq : a.tmps.getD q undef = v) (hg : w.heap[g]? = some (.cells cs t fr)) (hsz : cs.size = 2) (hQ : Q (.returned (.tuple #[.agg cs, v])) w) : bodyPost P fn Q .ret a w := by
  subst hP
  exact bodyPost_ret (v := .tuple #[.agg cs, v]) (results_dkE h a.tmps w g t cs v fr hp hq hg hsz) hd hQ
set_option maxHeartbeats 4000000 in
theorem checkW_any (P Q : Option Addr) (n cp m cq : Nat) (i : Int) (s : ByteArray) (w : World) :
    Calls Try.prog 43 #[.agg #[.slice P n cp, .slice Q m cq], .agg #[.int .i64 i, .string s]] w fun e w' => e = .returned (.int .i64 (wrE n ⟨i, s⟩)) ∧ Calm w w' := by
  have hx := heap_past (.cells #[.int .i64 i, .string s] 41) (heap_new w (.cells #[.slice P n cp, .slice Q m cq] 25))
  have hy := heap_new (w.alloc (.cells #[.slice P n cp, .slice Q m cq] 25)) (.cells #[.int .i64 i, .string s] 41)
  rw [World.size_alloc] at hy
  obtain ⟨x0, x1, hxs⟩ := rowD hx
  obtain ⟨y0, y1, hys⟩ := rowD hy
  have hu : Calm w ((w.alloc (.cells #[.slice P n cp, .slice Q m cq] 25)).alloc (.cells #[.int .i64 i, .string s] 41)) := by repeat (first | (with_reducible exact Calm.refl _) | (with_reducible refine Calm.alloc ?_ _) | (with_reducible refine Calm.drew ?_) | (with_reducible refine Calm.drewN ?_ _) | (refine Calm.call ?_ (by with_reducible assumption)))
  by_cases h1 : i < 0
  · have hr : wrE n ⟨i, s⟩ = 1 := by unfold wrE; rw [if_pos (.inl h1)]
    rw [hr]
    clear hr
    go_enter Try.func43, Try.ntmps43
    go_wp2_with fail
    go_ret
    exact ⟨rfl, hu⟩
  by_cases h2 : (n : Int) ≤ i
  · have hr : wrE n ⟨i, s⟩ = 1 := by unfold wrE; rw [if_pos (.inr h2)]
    rw [hr]
    clear hr
    go_enter Try.func43, Try.ntmps43
    go_wp2_with fail
    go_ret
    exact ⟨rfl, hu⟩
  by_cases h3 : 3500 < s.size
  · have hr : wrE n ⟨i, s⟩ = 2 := by unfold wrE; rw [if_neg (show ¬ (i < 0 ∨ (n : Int) ≤ i) by omega), if_pos h3]
    rw [hr]
    clear hr
    go_enter Try.func43, Try.ntmps43
    go_wp2_with fail
    go_ret
    exact ⟨rfl, hu⟩
  · have hr : wrE n ⟨i, s⟩ = 0 := by unfold wrE; rw [if_neg (show ¬ (i < 0 ∨ (n : Int) ≤ i) by omega), if_neg h3]
    rw [hr]
    clear hr
    go_enter Try.func43, Try.ntmps43
    go_wp2_with fail
    go_ret
    exact ⟨rfl, hu⟩
set_option maxHeartbeats 8000000 in
theorem diskCheck_any (P Q : Option Addr) (cp cq : Nat) (l : List ByteArray) (m : List Wr) (w : World) (hP : LiesP w P l) (hQ : LiesW w Q m) (hn : l.length ≤ 9223372036854775807) (hm : m.length ≤ 9223372036854775807) :
    Calls Try.prog 18 #[.agg #[.slice P l.length cp, .slice Q m.length cq]] w fun e w' => e = .returned (.int .i64 (dkErr l m)) ∧ Calm w w' := by
  have hx := heap_new w (.cells #[.slice P l.length cp, .slice Q m.length cq] 25)
  have hu := (Calm.refl w).alloc (.cells #[.slice P l.length cp, .slice Q m.length cq] 25)
  obtain ⟨x0, x1, hxs⟩ := rowD hx
  by_cases hz : 201 < l.length ∨ 400 < m.length
  · have hr : dkErr l m = 2 := by unfold dkErr; rw [if_pos hz]
    rw [hr]
    clear hP hQ hr
    go_enter Try.func18, Try.ntmps18
    rcases hz with hz | hz
    · go_wp2_with fail
      go_ret
      exact ⟨rfl, hu⟩
    · by_cases h1 : 201 < l.length
      · go_wp2_with fail
        go_ret
        exact ⟨rfl, hu⟩
      · go_wp2_with fail
        go_ret
        exact ⟨rfl, hu⟩
  have HR := Lib.hid (show dkErr l m = if l.any (fun s => decide (3500 < s.size)) = true then 2 else wrsE l.length m by unfold dkErr; rw [if_neg hz])
  generalize dkErr l m = r at HR ⊢
  have HX := Lib.hid hx
  have HP := Lib.hid hP
  have HQ := Lib.hid hQ
  have hl1 : l.length ≤ 201 := by omega
  have hm1 : m.length ≤ 400 := by omega
  clear hP hQ hz hn hm
  go_enter Try.func18, Try.ntmps18
  go_upto_region 1 with fail
  generalize w.alloc (.cells #[.slice P l.length cp, .slice Q m.length cq] 25) = w0 at hx hu HX x0 x1 hxs ⊢
  go_wp2_with fail
  go_loopw [21, 4] (fun i _ wr => ∃ k : Nat, k ≤ l.length ∧ i = .int .i64 k ∧ Calm w wr ∧ Calm w0 wr ∧ Hid (∀ j (h : j < l.length), j < k → ¬ 3500 < l[j].size)) (fun i _ _ => l.length - (intOf i).toNat)
  case atStart => exact ⟨0, Nat.zero_le _, rfl, hu, Calm.refl _, show ∀ _, _ from fun j _ h => absurd h (Nat.not_lt_zero _)⟩
  case round =>
    obtain ⟨k, hk, rfl, hv, hv0, hN⟩ := hrel
    by_cases hlt : k < l.length
    · obtain ⟨b, q, s, rfl, hb, HE, c0⟩ := (HP.out.calm hv).get hlt
      have HE2 := Lib.hid (List.getElem?_eq_some_iff.1 HE.out).2
      by_cases hs : 3500 < s.size
      · have HR2 := Lib.hid (show r = 2 by
          rw [HR.out, if_pos]
          rw [List.any_eq_true]
          exact ⟨s, List.mem_of_getElem? HE.out, by simpa using hs⟩)
        clear HR
        go_wp2_with fail
        go_ret
        exact ⟨by rw [HR2.out]; rfl, hv⟩
      · have hN2 := Lib.hid (show ∀ j (h : j < l.length), j < k + 1 → ¬ 3500 < l[j].size from fun j hj h => by
          rcases Nat.lt_or_ge j k with h2 | h2
          · exact hN.out j hj h2
          · rw [show l[j] = l[k] from by congr 1; omega, HE2.out]; exact hs)
        go_wp2_with fail
        go_roundw
        case rel => exact ⟨k + 1, by omega, by go_num, hv, hv0, hN2⟩
        case measure => simp [intOf]; omega
    have HR2 := Lib.hid (show r = wrsE l.length m by
      rw [HR.out, if_neg]
      rw [List.any_eq_true]
      rintro ⟨s, hs, h2⟩
      obtain ⟨j, hj, rfl⟩ := List.getElem_of_mem hs
      exact hN.out j hj (by omega) (by simpa using h2))
    replace hx := (hv0.block (rowD HX.out).2.2).trans HX.out
    obtain ⟨x0, x1, hxs⟩ := rowD hx
    have HX2 := Lib.hid hx
    clear HR hN
    go_wp2_with fail
    generalize wr = w1 at hx hv HX2 hxs x0 x1 ⊢
    go_loopw [32, 6, 7] (fun i _ _ wr => ∃ k : Nat, k ≤ m.length ∧ i = .int .i64 k ∧ Calm w wr ∧ Calm w1 wr ∧ Hid (r = wrsE l.length (m.drop k))) (fun i _ _ _ => m.length - (intOf i).toNat)
    case atStart => exact ⟨0, Nat.zero_le _, rfl, hv, Calm.refl _, HR2⟩
    case round =>
      obtain ⟨k, hk, rfl, hv, hv1, hN⟩ := hrel
      by_cases hlt : k < m.length
      · obtain ⟨b, q, i, s, rfl, hb, HE, c0, c1⟩ := (HQ.out.calm hv).get hlt
        replace hx := (hv1.block (rowD HX2.out).2.2).trans HX2.out
        obtain ⟨x0, x1, hxs⟩ := rowD hx
        have HN2 := Lib.hid (hN.out.trans (wrsE_drop HE.out))
        have cW := checkW_any P (some ⟨b, q, none⟩) l.length cp m.length cq i s
        by_cases hE : wrE l.length ⟨i, s⟩ = 0
        · have HN3 := Lib.hid (show r = wrsE l.length (m.drop (k + 1)) by rw [HN2.out, if_pos hE])
          rw [hE] at cW
          clear hE HN2 hN
          go_wp2_with (go_at_call 43; (with_reducible refine (cW _).mono ?_); rintro e w2 ⟨rfl, hb2⟩)
          go_roundw
          case rel => exact ⟨k + 1, by omega, by go_num, (hv.alloc _).call hb2, (hv1.alloc _).call hb2, HN3⟩
          case measure => simp [intOf]; omega
        · have HN3 := Lib.hid (show r = wrE l.length ⟨i, s⟩ by rw [HN2.out, if_neg hE])
          have b1 : (wrE l.length ⟨i, s⟩ != 0) = true := by rw [bne_iff_ne]; exact hE
          clear hE HN2 hN
          generalize wrE l.length ⟨i, s⟩ = E at cW HN3 b1
          go_wp2_with (go_at_call 43; (with_reducible refine (cW _).mono ?_); rintro e w2 ⟨rfl, hb2⟩)
          go_ret
          exact ⟨by rw [HN3.out]; rfl, (hv.alloc _).call hb2⟩
      have HR3 := Lib.hid (show r = 0 by rw [hN.out, List.drop_eq_nil_of_le (by omega)]; rfl)
      clear hN
      go_wp2_with fail
      go_ret
      exact ⟨by rw [HR3.out]; rfl, hv⟩
open Go.RowKit
set_option maxHeartbeats 8000000 in
theorem diskRead_any (P Q : Option Addr) (cp cq : Nat) (l : List ByteArray) (m : List Wr) (i : Int) (w : World) (hP : LiesP w P l) (hQ : LiesW w Q m) (hn : l.length ≤ 9223372036854775807) (hm : m.length ≤ 9223372036854775807) :
    Calls Try.prog 13 #[.agg #[.slice P l.length cp, .slice Q m.length cq], .int .i64 i] w fun e w' => e = .returned (.tuple #[.string (rdS l m i), .int .i64 (rdE l m i)]) ∧ Calm w w' := by
  have hx := heap_new w (.cells #[.slice P l.length cp, .slice Q m.length cq] 25)
  have hu := (Calm.refl w).alloc (.cells #[.slice P l.length cp, .slice Q m.length cq] 25)
  have cC := fun u (hu : Calm w u) => diskCheck_any P Q cp cq l m u (hP.calm hu) (hQ.calm hu) hn hm
  have cW := fun u => checkW_any P Q l.length cp m.length cq i { data := #[] } u
  obtain ⟨x0, x1, hxs⟩ := rowD hx
  by_cases hz : dkErr l m = 0
  rotate_left
  · have e1 : rdE l m i = dkErr l m := by unfold rdE; rw [if_neg hz]
    have e2 : rdS l m i = { data := #[] } := by unfold rdS; rw [e1, if_neg hz]
    rw [e1, e2]
    have b1 : (dkErr l m != 0) = true := by rw [bne_iff_ne]; exact hz
    clear e1 e2 hz hP hQ cW
    generalize dkErr l m = E at cC b1 ⊢
    go_enter Try.func13, Try.ntmps13
    go_wp2_with (go_at_call 18; (with_reducible refine (cC _ hu).mono ?_); rintro e w1 ⟨rfl, hb1⟩)
    go_ret2
    exact ⟨rfl, hu.call hb1⟩
  rw [hz] at cC
  by_cases hi : i < 0 ∨ (l.length : Int) ≤ i
  · have e1 : rdE l m i = 1 := by unfold rdE; rw [if_pos hz, if_pos hi]
    have e2 : rdS l m i = { data := #[] } := by unfold rdS; rw [e1, if_neg (by decide)]
    have e3 : wrE l.length ⟨i, { data := #[] }⟩ = 1 := by unfold wrE; rw [if_pos hi]
    rw [e1, e2]
    rw [e3] at cW
    clear e1 e2 e3 hz hP hQ hi
    go_enter Try.func13, Try.ntmps13
    go_wp2_with first
      | (go_at_call 18; (with_reducible refine (cC _ hu).mono ?_); rintro e w1 ⟨rfl, hb1⟩; replace hx := (hb1.block hxs).trans hx; obtain ⟨x0, x1, hxs⟩ := rowD hx; replace hu := hu.call hb1; clear hb1)
      | (go_at_call 43; (with_reducible refine (cW _).mono ?_); rintro e w1 ⟨rfl, hb1⟩; replace hu := hu.call hb1; clear hb1)
    go_ret2
    exact ⟨rfl, hu⟩
  have e3 : wrE l.length ⟨i, { data := #[] }⟩ = 0 := wrE_zero.2 ⟨by simp only; omega, by simp only; omega, Nat.zero_le _⟩
  have e1 : rdE l m i = 0 := by unfold rdE; rw [if_pos hz, if_neg hi]
  have e2 : rdS l m i = rdL i m (l.getD i.toNat { data := #[] }) := by unfold rdS; rw [e1, if_pos rfl]
  rw [e1, e2]
  rw [e3] at cW
  obtain ⟨k0, rfl⟩ : ∃ k : Nat, i = (k : Int) := ⟨i.toNat, by omega⟩
  have hk0 : k0 < l.length := by omega
  rw [Int.toNat_natCast]
  have HX := Lib.hid hx
  have HQ := Lib.hid hQ
  obtain ⟨b0, q0, s0, rfl, hb0, HE0, z0⟩ := hP.get hk0
  have hg : l.getD k0 { data := #[] } = s0 := by rw [List.getD_eq_getElem?_getD, HE0.out]; rfl
  rw [hg]
  have hP0 := Lib.hid hP
  have hm1 : m.length ≤ 400 := (dkErr_zero.1 hz).2.1
  clear e1 e2 e3 hz hi hg z0 hb0
  go_enter Try.func13, Try.ntmps13
  go_upto_region 7 with first
    | (go_at_call 18; (with_reducible refine (cC _ hu).mono ?_); rintro e w1 ⟨rfl, hb1⟩; replace hx := (hb1.block hxs).trans hx; obtain ⟨x0, x1, hxs⟩ := rowD hx; replace hu := hu.call hb1; clear hb1)
    | (go_at_call 43; (with_reducible refine (cW _).mono ?_); rintro e w2 ⟨rfl, hb1⟩; replace hx := (hb1.block hxs).trans hx; obtain ⟨x0, x1, hxs⟩ := rowD hx; replace hu := hu.call hb1; clear hb1)
  obtain ⟨b1, q1, s1, hA1, hb1, HE1, z0⟩ := (hP0.out.calm hu).get hk0
  obtain ⟨rfl, rfl⟩ : b0 = b1 ∧ q0 = q1 := by simpa using hA1
  obtain rfl : s0 = s1 := by have := HE0.out; rw [HE1.out] at this; exact (Option.some.inj this).symm
  have hz0 : (k0 : Int) < (l.length : Int) := by omega
  go_wp2_with fail
  clear x0 x1 hxs z0 hx hz0 hP hQ
  generalize w2 = w3 at hu hb1 ⊢
  go_loopw [31, 8, 10] (fun i t _ wr => ∃ k : Nat, k ≤ m.length ∧ i = .int .i64 k ∧ t = .string (rdL (k0 : Int) (m.take k) s0) ∧ Calm w wr) (fun i _ _ _ => m.length - (intOf i).toNat)
  case atStart => exact ⟨0, Nat.zero_le _, rfl, rfl, hu⟩
  case round =>
    obtain ⟨k, hk, rfl, rfl, hv⟩ := hrel
    by_cases hlt : k < m.length
    · obtain ⟨b, q, i, s, rfl, hb, HE, c0, c1⟩ := (HQ.out.calm hv).get hlt
      have HT := Lib.hid (rdL_take (i := (k0 : Int)) (s := s0) HE.out)
      by_cases hik : i = (k0 : Int)
      · have HT2 := Lib.hid (show rdL (k0 : Int) (m.take (k + 1)) s0 = s by rw [HT.out, if_pos hik])
        clear HT
        subst hik
        generalize rdL (k0 : Int) (m.take k) s0 = T
        go_wp2_with fail
        go_roundw
        case rel => exact ⟨k + 1, by omega, by go_num, by rw [HT2.out], hv.alloc _⟩
        case measure => simp [intOf]; omega
      · have HT2 := Lib.hid (show rdL (k0 : Int) (m.take (k + 1)) s0 = rdL (k0 : Int) (m.take k) s0 by rw [HT.out, if_neg hik])
        have e9 : decide (i = (k0 : Int)) = false := decide_eq_false hik
        generalize rdL (k0 : Int) (m.take k) s0 = T at HT2 ⊢
        clear HT
        go_wp2_with fail
        go_roundw
        case rel => exact ⟨k + 1, by omega, by go_num, by rw [HT2.out], hv.alloc _⟩
        case measure => simp [intOf]; omega
    have HT := Lib.hid (show rdL (k0 : Int) (m.take k) s0 = rdL (k0 : Int) m s0 by rw [List.take_of_length_le (by omega)])
    generalize rdL (k0 : Int) (m.take k) s0 = T at HT ⊢
    go_wp2_with fail
    go_ret2
    exact ⟨by rw [← HT.out]; rfl, hv⟩
open Go.RowKit
def PutEnd (l : List ByteArray) (m : List Wr) (x : Wr) (w : World) (e : Ending) (w' : World) : Prop :=
 (ptE l m x ≠ 0 ∧ e = .returned (.tuple #[.agg #[.slice none 0 0, .slice none 0 0], .int .i64 (ptE l m x)]) ∧ Calm w w') ∨
 (ptE l m x = 0 ∧ ∃ v u, e = .returned (.tuple #[.agg #[v, u], .int .i64 0]) ∧ OwnP w.heap.size w' v l ∧ OwnW w.heap.size w' u (m ++ [x]) ∧ Calm w w')
open Go.RowKit
/-- A store into a block below the row's base leaves the row alone. -/
theorem rowsG_set {α : Type} {cv : α → List Value} {N B g : Nat} {t : TypeId} {w : World} {v : Value} {l : List α} (h : OwnG t cv N B w v l) (hg : g < B) (j : Nat) (u : Value) : OwnG t cv N B (w.setCell ⟨g, j, none⟩ u) v l :=
 h.same fun k hk => by
  have := (h.lt k hk).1
  exact heap_setCell_other w ⟨g, j, none⟩ k u (by show k ≠ g; omega)
structure PuS (w w3 : World) (l : List ByteArray) (m : List Wr) (i : Int) (s : ByteArray) (f : Nat → Bool) (Y : Nat → Value) (u : World) : Prop where
 cw : Calm w u
 c3 : f 10 = false → Calm w3 u
 hi : w3.heap.size ≤ u.heap.size
 ord : (f 5 = true → f 2 = true) ∧ (f 8 = true → f 5 = true) ∧ (f 9 = true → f 8 = true) ∧ (f 10 = true → f 9 = true)
 o8 : f 8 = true → f 7 = true
 ap : f 2 = true → f 5 = true → f 8 = false → ∀ k, (Y 2).ownBlock = some k → (Y 5).ownBlock ≠ some k
 s2 : f 2 = true → OwnP w3.heap.size u (Y 2) l
 s5 : f 5 = true → f 8 = false → OwnW w3.heap.size u (Y 5) m
 s7 : f 7 = true → f 8 = false → (∃ g, (Y 7) = Value.slice (some ⟨g, 0, none⟩) 1 1 ∧ u.heap[g]? = some (.cells #[.int .i64 i, .string s] 41 (0, 0)))
 s8 : f 8 = true → OwnW w3.heap.size u (Y 8) (m ++ [⟨i, s⟩])
 s9 : f 9 = true → (Y 9) = Value.agg #[Y 2, Y 8]
 s10 : f 10 = true → u.heap[w.heap.size + 1]? = some (.cells #[Y 2, Y 8] 25 (0, 0))
theorem PuS.stay {w w3 : World} {l : List ByteArray} {m : List Wr} {i : Int} {s : ByteArray} {f : Nat → Bool} {Y : Nat → Value} {u u' : World} (h : PuS w w3 l m i s f Y u) (hb : Calm u u') : PuS w w3 l m i s f Y u' where
 cw := h.cw.call hb
 c3 a := (h.c3 a).call hb
 hi := Nat.le_trans h.hi hb.size
 ord := h.ord
 o8 := h.o8
 ap := h.ap
 s2 a := (h.s2 a).calm hb
 s5 a b := (h.s5 a b).calm hb
 s7 a b := by
  obtain ⟨g, e, hg⟩ := h.s7 a b
  exact ⟨g, e, (hb.block (rowD hg).2.2).trans hg⟩
 s8 a := (h.s8 a).calm hb
 s9 := h.s9
 s10 a := (hb.block (rowD (h.s10 a)).2.2).trans (h.s10 a)
theorem PuS.do2 {w w3 : World} {l : List ByteArray} {m : List Wr} {i : Int} {s : ByteArray} {f : Nat → Bool} {Y : Nat → Value} {u u' : World} (h : PuS w w3 l m i s f Y u) (y : Value) (hb : Calm u u') (h5 : f 5 = false) (h8 : f 8 = false) (h9 : f 9 = false) (h10 : f 10 = false) (hn : OwnP w3.heap.size u' y l) : PuS w w3 l m i s (updB f 2) (updV Y 2 y) u' where
 cw := h.cw.call hb
 c3 _ := (h.c3 h10).call hb
 hi := Nat.le_trans h.hi hb.size
 ord := by simp [updB, h5, h8, h9, h10]
 o8 a := by simp [updB, h8] at a
 ap _ a := by simp [updB, h5] at a
 s2 _ := by simpa [updV] using hn
 s5 a := by simp [updB, h5] at a
 s7 a b := by
  have := (h.stay hb).s7 (by simpa [updB] using a) h8
  simpa [updV] using this
 s8 a := by simp [updB, h8] at a
 s9 a := by simp [updB, h9] at a
 s10 a := by simp [updB, h10] at a
theorem PuS.do5 {w w3 : World} {l : List ByteArray} {m : List Wr} {i : Int} {s : ByteArray} {f : Nat → Bool} {Y : Nat → Value} {u u' : World} (h : PuS w w3 l m i s f Y u) (y : Value) (hb : Calm u u') (h2 : f 2 = true) (h8 : f 8 = false) (h9 : f 9 = false) (h10 : f 10 = false) (hn : OwnW u.heap.size u' y m) : PuS w w3 l m i s (updB f 5) (updV Y 5 y) u' where
 cw := h.cw.call hb
 c3 _ := (h.c3 h10).call hb
 hi := Nat.le_trans h.hi hb.size
 ord := by simp [updB, h2, h8, h9, h10]
 o8 a := by simp [updB, h8] at a
 ap _ _ _ k e := by
  have h1 := ((h.s2 h2).lt k (by simpa [updV] using e)).2
  intro e2
  have h3 := (OwnG.lt hn k (by simpa [updV] using e2)).1
  omega
 s2 _ := by simpa [updV] using (h.stay hb).s2 h2
 s5 _ _ := by simpa [updV] using (show OwnW w3.heap.size u' y m from OwnG.weaken hn h.hi)
 s7 a b := by
  have := (h.stay hb).s7 (by simpa [updB] using a) h8
  simpa [updV] using this
 s8 a := by simp [updB, h8] at a
 s9 a := by simp [updB, h9] at a
 s10 a := by simp [updB, h10] at a
theorem PuS.do7 {w w3 : World} {l : List ByteArray} {m : List Wr} {i : Int} {s : ByteArray} {f : Nat → Bool} {Y : Nat → Value} {u : World} (h : PuS w w3 l m i s f Y u) (h8 : f 8 = false) (h9 : f 9 = false) (h10 : f 10 = false) : PuS w w3 l m i s (updB f 7) (updV Y 7 (.slice (some ⟨u.heap.size, 0, none⟩) 1 1)) (u.alloc (.cells #[.int .i64 i, .string s] 41)) where
 cw := h.cw.alloc _
 c3 _ := (h.c3 h10).alloc _
 hi := by have := h.hi; simp; omega
 ord := by simpa [updB] using h.ord
 o8 _ := by simp [updB]
 ap a b c := by simpa [updV, updB] using h.ap (by simpa [updB] using a) (by simpa [updB] using b) h8
 s2 a := by simpa [updV] using (h.s2 (by simpa [updB] using a)).calm ((Calm.refl _).alloc _)
 s5 a _ := by simpa [updV] using (h.s5 (by simpa [updB] using a) h8).calm ((Calm.refl _).alloc _)
 s7 _ _ := ⟨u.heap.size, by simp [updV], heap_new _ _⟩
 s8 a := by simp [updB, h8] at a
 s9 a := by simp [updB, h9] at a
 s10 a := by simp [updB, h10] at a
theorem PuS.do8 {w w3 : World} {l : List ByteArray} {m : List Wr} {i : Int} {s : ByteArray} {f : Nat → Bool} {Y : Nat → Value} {u u' : World} (h : PuS w w3 l m i s f Y u) (y : Value) (hcw : ∀ w0 : World, w0.heap.size ≤ w3.heap.size → Calm w0 u → Calm w0 u') (hg : u.grownBy u' (Y 5).ownBlock) (hw : w.heap.size ≤ w3.heap.size) (h5 : f 5 = true) (h7 : f 7 = true) (h8 : f 8 = false) (h9 : f 9 = false) (h10 : f 10 = false) (hn : OwnW w3.heap.size u' y (m ++ [⟨i, s⟩])) : PuS w w3 l m i s (updB f 8) (updV Y 8 y) u' where
 cw := hcw _ hw h.cw
 c3 _ := hcw _ (Nat.le_refl _) (h.c3 h10)
 hi := Nat.le_trans h.hi hg.size
 ord := by have := h.ord.1; simp [updB, h5, h9, h10, this]
 o8 _ := by simpa [updB] using h7
 ap _ _ a := by simp [updB] at a
 s2 _ := by
  have h2 := h.ord.1 h5
  have h3 := h.s2 h2
  have : OwnP w3.heap.size u' (Y 2) l := OwnG.same h3 fun k hk => hg.block k (h3.lt k hk).2 fun e => h.ap h2 h5 h8 k hk e.symm
  simpa [updV] using this
 s5 _ a := by simp [updB] at a
 s7 _ a := by simp [updB] at a
 s8 _ := by simpa [updV] using hn
 s9 a := by simp [updB, h9] at a
 s10 a := by simp [updB, h10] at a
theorem PuS.do9 {w w3 : World} {l : List ByteArray} {m : List Wr} {i : Int} {s : ByteArray} {f : Nat → Bool} {Y : Nat → Value} {u : World} (h : PuS w w3 l m i s f Y u) (h8 : f 8 = true) (h10 : f 10 = false) : PuS w w3 l m i s (updB f 9) (updV Y 9 (.agg #[Y 2, Y 8])) u where
 cw := h.cw
 c3 _ := h.c3 h10
 hi := h.hi
 ord := by have h1 := h.ord.1; have h2 := h.ord.2.1; simp [updB, h8, h10] at h1 h2 ⊢; exact ⟨h1, h2⟩
 o8 a := by simpa [updB] using h.o8 (by simpa [updB] using a)
 ap a b c := by simpa [updV, updB] using h.ap (by simpa [updB] using a) (by simpa [updB] using b) (by simpa [updB] using c)
 s2 a := by simpa [updV] using h.s2 (by simpa [updB] using a)
 s5 a b := by simpa [updV] using h.s5 (by simpa [updB] using a) (by simpa [updB] using b)
 s7 a b := by simpa [updV] using h.s7 (by simpa [updB] using a) (by simpa [updB] using b)
 s8 a := by simpa [updV] using h.s8 (by simpa [updB] using a)
 s9 _ := by simp [updV]
 s10 a := by simp [updB, h10] at a
theorem PuS.do10 {w w3 : World} {l : List ByteArray} {m : List Wr} {i : Int} {s : ByteArray} {f : Nat → Bool} {Y : Nat → Value} {u : World} (h : PuS w w3 l m i s f Y u) (y : Value) (hR : w.heap.size + 1 < w3.heap.size) (hr : w3.heap[w.heap.size + 1]? = some (.cells #[.slice none 0 0, .slice none 0 0] 25 (0, 0))) (h9 : f 9 = true) (h8 : f 8 = true) (h2 : f 2 = true) (h10 : f 10 = false) : PuS w w3 l m i s (updB f 10) (updV Y 10 y) ((u.setCell ⟨w.heap.size + 1, 0, none⟩ (Y 2)).setCell ⟨w.heap.size + 1, 1, none⟩ (Y 8)) where
 cw := h.cw.twoD (by omega) _ _
 c3 a := by simp [updB] at a
 hi := by have := h.hi; simpa using this
 ord := by have := h.ord; simp [updB, h9, h8, h2] at this ⊢; exact this
 o8 a := by simpa [updB] using h.o8 (by simpa [updB] using a)
 ap _ _ a := by simp [updB, h8] at a
 s2 _ := by
  have : OwnP w3.heap.size ((u.setCell ⟨w.heap.size + 1, 0, none⟩ (Y 2)).setCell ⟨w.heap.size + 1, 1, none⟩ (Y 8)) (Y 2) l := rowsG_set (rowsG_set (h.s2 h2) hR 0 (Y 2)) hR 1 (Y 8)
  simpa [updV] using this
 s5 _ a := by simp [updB, h8] at a
 s7 _ a := by simp [updB, h8] at a
 s8 _ := by
  have : OwnW w3.heap.size ((u.setCell ⟨w.heap.size + 1, 0, none⟩ (Y 2)).setCell ⟨w.heap.size + 1, 1, none⟩ (Y 8)) (Y 8) (m ++ [⟨i, s⟩]) := rowsG_set (rowsG_set (h.s8 h8) hR 0 (Y 2)) hR 1 (Y 8)
  simpa [updV] using this
 s9 _ := by simpa [updV] using h.s9 h9
 s10 _ := by
  have := setD2 (((h.c3 h10).block hR).trans hr) (Y 2) (Y 8)
  simpa [updV] using this
def PuSt (w w3 : World) (l : List ByteArray) (m : List Wr) (i : Int) (s : ByteArray) : Stages := fun bs Y u => ∃ f, bs = [2, 5, 7, 8, 9, 10].map f ∧ PuS w w3 l m i s f Y u
theorem PuSt.stay {w w3 : World} {l : List ByteArray} {m : List Wr} {i : Int} {s : ByteArray} : ∀ bs Y u u', PuSt w w3 l m i s bs Y u → Calm u u' → PuSt w w3 l m i s bs Y u' := fun _ _ _ _ ⟨f, h1, h2⟩ hb => ⟨f, h1, h2.stay hb⟩
theorem PuSt.start {w w3 : World} {l : List ByteArray} {m : List Wr} {i : Int} {s : ByteArray} {u : World} (Y : Nat → Value) (h : Calm w3 u) (hw : Calm w u) : PuSt w w3 l m i s ([2, 5, 7, 8, 9, 10].map fun _ => false) Y u := ⟨fun _ => false, rfl, hw, fun _ => h, h.size, by simp, nofun, nofun, nofun, nofun, nofun, nofun, nofun, nofun⟩
theorem PuSt.get {w w3 : World} {l : List ByteArray} {m : List Wr} {i : Int} {s : ByteArray} {u : World} {L : Nat → Bool} {Y : Nat → Value} (h : PuSt w w3 l m i s ([2, 5, 7, 8, 9, 10].map L) Y u) : PuS w w3 l m i s L Y u := by
 obtain ⟨f, hf, h⟩ := h
 simp only [List.map_cons, List.map_nil, List.cons.injEq, and_true] at hf
 obtain ⟨e2, e5, e7, e8, e9, e10⟩ := hf
 exact ⟨h.cw, by rw [e10]; exact h.c3, h.hi, by rw [e2, e5, e8, e9, e10]; exact h.ord, by rw [e7, e8]; exact h.o8, by rw [e2, e5, e8]; exact h.ap, by rw [e2]; exact h.s2, by rw [e5, e8]; exact h.s5, by rw [e7, e8]; exact h.s7, by rw [e8]; exact h.s8, by rw [e9]; exact h.s9, by rw [e10]; exact h.s10⟩
open Go.RowKit
set_option maxHeartbeats 8000000 in
theorem diskPut_ok (P Q : Option Addr) (cp cq : Nat) (l : List ByteArray) (m : List Wr) (i : Int) (s : ByteArray) (w : World) (hP : LiesP w P l) (hQ : LiesW w Q m) (hn : l.length ≤ 9223372036854775807) (hm : m.length ≤ 9223372036854775807) (hE : ptE l m ⟨i, s⟩ = 0) :
    Calls Try.prog 14 #[.agg #[.slice P l.length cp, .slice Q m.length cq], .int .i64 i, .string s] w (PutEnd l m ⟨i, s⟩ w) := by
  have hx := heap_past (.cells #[.slice none 0 0, .slice none 0 0] 25) (heap_new w (.cells #[.slice P l.length cp, .slice Q m.length cq] 25))
  have hr := heap_new (w.alloc (.cells #[.slice P l.length cp, .slice Q m.length cq] 25)) (.cells #[.slice none 0 0, .slice none 0 0] 25)
  rw [World.size_alloc] at hr
  have hu := ((Calm.refl w).alloc (.cells #[.slice P l.length cp, .slice Q m.length cq] 25)).alloc (.cells #[.slice none 0 0, .slice none 0 0] 25)
  have cC := fun u (hu : Calm w u) => diskCheck_any P Q cp cq l m u (hP.calm hu) (hQ.calm hu) hn hm
  have cW := fun u => checkW_any P Q l.length cp m.length cq i s u
  have hz : dkErr l m = 0 := by
    by_cases hz : dkErr l m = 0
    · exact hz
    · unfold ptE at hE; rw [if_neg hz] at hE; exact absurd hE hz
  have hw : wrE l.length ⟨i, s⟩ = 0 := by
    by_cases hw : wrE l.length ⟨i, s⟩ = 0
    · exact hw
    · unfold ptE at hE; rw [if_pos hz, if_neg hw] at hE; exact absurd hE hw
  have h4 : ¬ m.length = 400 := fun h4 => by
    unfold ptE at hE; rw [if_pos hz, if_pos hw, if_pos h4] at hE; cases hE
  have h5 : m.length ≤ 400 := (dkErr_zero.1 hz).2.1
  have h6 : l.length ≤ 201 := (dkErr_zero.1 hz).1
  have HE : Hid (∀ w' v u, OwnP w.heap.size w' v l → OwnW w.heap.size w' u (m ++ [⟨i, s⟩]) → Calm w w' → PutEnd l m ⟨i, s⟩ w (.returned (.tuple #[.agg #[v, u], .int .i64 0])) w') := show ∀ _, _ from fun w' v u h1 h2 hw => .inr ⟨hE, v, u, rfl, h1, h2, hw⟩
  have cP := fun u (hu : Calm w u) => cloneP_any P cp l u (by omega) (hP.calm hu)
  have cQ := fun u (hu : Calm w u) => cloneW_any Q cq m u (by omega) (hQ.calm hu)
  rw [hz] at cC
  rw [hw] at cW
  obtain ⟨x0, x1, hxs⟩ := rowD hx
  obtain ⟨r0, r1, hrs⟩ := rowD hr
  obtain ⟨f0, f1⟩ := freeD2 hr
  generalize PutEnd l m ⟨i, s⟩ w = PE at HE ⊢
  have b9 : ¬ (m.length : Int) = 400 := by omega
  clear hE hz hw h4 hP hQ hn hm
  go_enter Try.func14, Try.ntmps14
  generalize hQ0 : bodyPost Try.prog Try.f14 PE = Q0
  have HRET : Hid (∀ a w', bodyPost Try.prog Try.f14 PE .ret a w' → Q0 .ret a w') := show ∀ _ _, _ from fun a w' h => by rw [← hQ0]; exact h
  clear hQ0
  go_upto_region 5 with first
    | (go_at_call 18; (with_reducible refine (cC _ hu).mono ?_); rintro e w1 ⟨rfl, hb1⟩; replace hx := (hb1.block hxs).trans hx; replace hr := (hb1.block hrs).trans hr; replace hu := hu.call hb1; clear hb1; obtain ⟨x0, x1, hxs⟩ := rowD hx; obtain ⟨r0, r1, hrs⟩ := rowD hr; obtain ⟨f0, f1⟩ := freeD2 hr)
  have hy := heap_new w1 (.cells #[.int .i64 i, .string s] 41)
  replace hx := heap_past (.cells #[.int .i64 i, .string s] 41) hx
  replace hr := heap_past (.cells #[.int .i64 i, .string s] 41) hr
  replace hu := hu.alloc (.cells #[.int .i64 i, .string s] 41)
  generalize hgy : w1.heap.size = gy at hy ⊢
  have hgy2 : w.heap.size ≤ gy := by have := hu.size; have := hrs; omega
  generalize w1.alloc (.cells #[.int .i64 i, .string s] 41) = w2 at hx hr hu hy ⊢
  clear x0 x1 hxs r0 r1 hrs f0 f1 hgy
  obtain ⟨x0, x1, hxs⟩ := rowD hx
  obtain ⟨r0, r1, hrs⟩ := rowD hr
  obtain ⟨f0, f1⟩ := freeD2 hr
  obtain ⟨y0, y1, hys⟩ := rowD hy
  go_upto_region 10 with first
    | (go_at_call 43; (with_reducible refine (cW _).mono ?_); rintro e w3 ⟨rfl, hb1⟩; replace hx := (hb1.block hxs).trans hx; replace hr := (hb1.block hrs).trans hr; replace hy := (hb1.block hys).trans hy; replace hu := hu.call hb1; clear hb1; obtain ⟨x0, x1, hxs⟩ := rowD hx; obtain ⟨r0, r1, hrs⟩ := rowD hr; obtain ⟨f0, f1⟩ := freeD2 hr; obtain ⟨y0, y1, hys⟩ := rowD hy)
  have hR : w.heap.size + 1 < w3.heap.size := hrs
  have hxs2 := Lib.hid hxs
  have HX := Lib.hid hx
  have HR := Lib.hid hr
  have HY := Lib.hid hy
  have HU := Lib.hid hu
  clear hx hr hy hu x0 x1 hxs r0 r1 hrs f0 f1 y0 y1 hys cC cW
  refine wp_region_stages [.val (.pointer (some ⟨w.heap.size, 0, none⟩)), .val (.slice P l.length cp) [10], .late, .val (.pointer (some ⟨w.heap.size, 1, none⟩)), .val (.slice Q m.length cq) [10], .late [2], .val (.agg #[.int .i64 i, .string s]) [10], .late, .late [5, 7], .late [2, 8], .late [9, 8, 2], .val (.int .i64 0)] [2, 5, 7, 8, 9, 10]
    (PuSt w w3 l m i s) (by kernel_rfl) (by kernel_rfl) (by kernel_rfl) PuSt.stay (fun Y => PuSt.start Y (Calm.refl _).drew HU.out.drew) (fun Y => ?_)
  refine planS_val (by kernel_rfl) (fun L9 u hb hS => ?_) ?_
  · clear hS hb
    go_simp
  simp only [Act.put, List.setIfInBounds_toArray, List.set_cons_zero, List.set_cons_succ, Nat.reduceAdd]
  refine planS_val (by kernel_rfl) (fun L9 u hb hS => ?_) ?_
  · have hc := (PuSt.get hS).c3 (hb 10 (by simp))
    obtain ⟨x0, x1, hxs⟩ := rowD ((hc.block (rowD HX.out).2.2).trans HX.out)
    clear hS hb hc
    go_simp
  simp only [Act.put, List.setIfInBounds_toArray, List.set_cons_zero, List.set_cons_succ, Nat.reduceAdd]
  refine planS_late (fun L9 u hi hb hS => ?_) ?_
  · have h := PuSt.get hS
    have h5 : L9 5 = false := by cases e : L9 5 with | false => rfl | true => rw [h.ord.1 e] at hi; cases hi
    have h8 : L9 8 = false := by cases e : L9 8 with | false => rfl | true => rw [h.ord.2.1 e] at h5; cases h5
    have h9 : L9 9 = false := by cases e : L9 9 with | false => rfl | true => rw [h.ord.2.2.1 e] at h8; cases h8
    have h10 : L9 10 = false := by cases e : L9 10 with | false => rfl | true => rw [h.ord.2.2.2 e] at h9; cases h9
    have H := Lib.hid (fun y u' (hb : Calm u u') (hn : OwnP u.heap.size u' y l) => (⟨_, rfl, h.do2 y hb h5 h8 h9 h10 (OwnG.weaken hn h.hi)⟩ : PuSt w w3 l m i s ([2, 5, 7, 8, 9, 10].map (updB L9 2)) (updV Y 2 y) u'))
    have c1 := cP u h.cw
    clear h hS hb hi h5 h8 h9 h10 cP cQ
    go_wp2_with (go_at_call 39; (with_reducible refine c1.mono ?_); rintro e w4 ⟨v4, rfl, ho4, hb4⟩; have HO4 := Lib.hid ho4; have HB4 := Lib.hid hb4; clear ho4 hb4 c1)
    exact H.out v4 w4 HB4.out HO4.out
  simp only [Act.put, List.setIfInBounds_toArray, List.set_cons_zero, List.set_cons_succ, Nat.reduceAdd]
  refine planS_val (by kernel_rfl) (fun L9 u hb hS => ?_) ?_
  · clear hS hb
    go_simp
  simp only [Act.put, List.setIfInBounds_toArray, List.set_cons_zero, List.set_cons_succ, Nat.reduceAdd]
  refine planS_val (by kernel_rfl) (fun L9 u hb hS => ?_) ?_
  · have hc := (PuSt.get hS).c3 (hb 10 (by simp))
    obtain ⟨x0, x1, hxs⟩ := rowD ((hc.block (rowD HX.out).2.2).trans HX.out)
    clear hS hb hc
    go_simp
  simp only [Act.put, List.setIfInBounds_toArray, List.set_cons_zero, List.set_cons_succ, Nat.reduceAdd]
  refine planS_late (fun L9 u hi hb hS => ?_) ?_
  · have h := PuSt.get hS
    have h2 : L9 2 = true := hb 2 (by simp)
    have h8 : L9 8 = false := by cases e : L9 8 with | false => rfl | true => rw [h.ord.2.1 e] at hi; cases hi
    have h9 : L9 9 = false := by cases e : L9 9 with | false => rfl | true => rw [h.ord.2.2.1 e] at h8; cases h8
    have h10 : L9 10 = false := by cases e : L9 10 with | false => rfl | true => rw [h.ord.2.2.2 e] at h9; cases h9
    have H := Lib.hid (fun y u' (hb : Calm u u') (hn : OwnW u.heap.size u' y m) => (⟨_, rfl, h.do5 y hb h2 h8 h9 h10 hn⟩ : PuSt w w3 l m i s ([2, 5, 7, 8, 9, 10].map (updB L9 5)) (updV Y 5 y) u'))
    have c1 := cQ u h.cw
    clear h hS hb hi h2 h8 h9 h10 cP cQ
    go_wp2_with (go_at_call 23; (with_reducible refine c1.mono ?_); rintro e w4 ⟨v4, rfl, ho4, hb4⟩; have HO4 := Lib.hid ho4; have HB4 := Lib.hid hb4; clear ho4 hb4 c1)
    exact H.out v4 w4 HB4.out HO4.out
  simp only [Act.put, List.setIfInBounds_toArray, List.set_cons_zero, List.set_cons_succ, Nat.reduceAdd]
  refine planS_val (by kernel_rfl) (fun L9 u hb hS => ?_) ?_
  · have hc := (PuSt.get hS).c3 (hb 10 (by simp))
    obtain ⟨y0, y1, hys⟩ := rowD ((hc.block (rowD HY.out).2.2).trans HY.out)
    clear hS hb hc
    go_simp
  simp only [Act.put, List.setIfInBounds_toArray, List.set_cons_zero, List.set_cons_succ, Nat.reduceAdd]
  refine planS_late (fun L9 u hi hb hS => ?_) ?_
  · have h := PuSt.get hS
    have h8 : L9 8 = false := by cases e : L9 8 with | false => rfl | true => exact absurd (h.o8 e) (by rw [hi]; decide)
    have h9 : L9 9 = false := by cases e : L9 9 with | false => rfl | true => rw [h.ord.2.2.1 e] at h8; cases h8
    have h10 : L9 10 = false := by cases e : L9 10 with | false => rfl | true => rw [h.ord.2.2.2 e] at h9; cases h9
    have H := Lib.hid (⟨_, rfl, h.do7 h8 h9 h10⟩ : PuSt w w3 l m i s ([2, 5, 7, 8, 9, 10].map (updB L9 7)) (updV Y 7 (.slice (some ⟨u.heap.size, 0, none⟩) 1 1)) (u.alloc (.cells #[.int .i64 i, .string s] 41)))
    clear h hS hb hi h8 h9 h10 cP cQ
    go_wp2_with fail
    exact H.out
  simp only [Act.put, List.setIfInBounds_toArray, List.set_cons_zero, List.set_cons_succ, Nat.reduceAdd]
  refine planS_late (fun L9 u hi hb hS => ?_) ?_
  · have h := PuSt.get hS
    have h5 : L9 5 = true := hb 5 (by simp)
    have h7 : L9 7 = true := hb 7 (by simp)
    have h9 : L9 9 = false := by cases e : L9 9 with | false => rfl | true => rw [h.ord.2.2.1 e] at hi; cases hi
    have h10 : L9 10 = false := by cases e : L9 10 with | false => rfl | true => rw [h.ord.2.2.2 e] at h9; cases h9
    have H := Lib.hid (fun y u' (hcw : ∀ w0 : World, w0.heap.size ≤ w3.heap.size → Calm w0 u → Calm w0 u') (hg : u.grownBy u' (Y 5).ownBlock) (hn : OwnW w3.heap.size u' y (m ++ [⟨i, s⟩])) => (⟨_, rfl, h.do8 y hcw hg HU.out.size h5 h7 hi h9 h10 hn⟩ : PuSt w w3 l m i s ([2, 5, 7, 8, 9, 10].map (updB L9 8)) (updV Y 8 y) u'))
    have ho := h.s5 h5 hi
    obtain ⟨g, eY, hgl⟩ := h.s7 h7 hi
    have HH := h.hi
    have HC := Lib.hid (h.c3 h10)
    rw [eY]
    clear hS hb hi h5 h7 h9 h10 cP cQ h eY
    go_wp2_with (at_builtin; refine wpList_append_w rfl _ _ rfl w3.heap.size _ m rfl ho g _ i s _ rfl hgl (by omega) HH ?_; intro v6 w6 ho6 hc6 hg6; have HO6 := Lib.hid ho6; have HC6 := Lib.hid hc6; have HG6 := Lib.hid hg6; clear ho6 hc6 hg6)
    exact H.out v6 w6 HC6.out HG6.out HO6.out
  simp only [Act.put, List.setIfInBounds_toArray, List.set_cons_zero, List.set_cons_succ, Nat.reduceAdd]
  refine planS_late (fun L9 u hi hb hS => ?_) ?_
  · have h := PuSt.get hS
    have h8 : L9 8 = true := hb 8 (by simp)
    have h10 : L9 10 = false := by cases e : L9 10 with | false => rfl | true => rw [h.ord.2.2.2 e] at hi; cases hi
    have h5 := h.ord.2.1 h8
    obtain ⟨A2, c2, e2, -, -⟩ := (h.s2 (h.ord.1 h5)).slice
    obtain ⟨A8, c8, e8, -, -⟩ := (h.s8 h8).slice
    rw [List.length_append, List.length_singleton] at e8
    have H0 := (⟨_, rfl, h.do9 h8 h10⟩ : PuSt w w3 l m i s ([2, 5, 7, 8, 9, 10].map (updB L9 9)) (updV Y 9 (.agg #[Y 2, Y 8])) u)
    rw [e2, e8] at H0 ⊢
    have H := Lib.hid H0
    clear h hS hb hi h8 h10 cP cQ H0 e2 e8 h5
    go_wp2_with fail
    exact H.out
  simp only [Act.put, List.setIfInBounds_toArray, List.set_cons_zero, List.set_cons_succ, Nat.reduceAdd]
  refine planS_late (fun L9 u hi hb hS => ?_) ?_
  · have h := PuSt.get hS
    have h9 : L9 9 = true := hb 9 (by simp)
    have h8 : L9 8 = true := hb 8 (by simp)
    have h2 : L9 2 = true := hb 2 (by simp)
    have eY := h.s9 h9
    obtain ⟨A2, c2, e2, -, -⟩ := (h.s2 h2).slice
    obtain ⟨A8, c8, e8, -, -⟩ := (h.s8 h8).slice
    rw [List.length_append, List.length_singleton] at e8
    have H0 := (fun y => (⟨_, rfl, h.do10 y hR HR.out h9 h8 h2 hi⟩ : PuSt w w3 l m i s ([2, 5, 7, 8, 9, 10].map (updB L9 10)) (updV Y 10 y) ((u.setCell ⟨w.heap.size + 1, 0, none⟩ (Y 2)).setCell ⟨w.heap.size + 1, 1, none⟩ (Y 8))))
    have hrr := ((h.c3 hi).block hR).trans HR.out
    obtain ⟨r0, r1, hrs⟩ := rowD hrr
    obtain ⟨f0, f1⟩ := freeD2 hrr
    rw [eY]
    rw [e2, e8] at H0 ⊢
    have H := Lib.hid H0
    clear h hS hb hi h9 h8 h2 cP cQ eY H0 e2 e8
    go_wp2_with fail
    exact ⟨_, H.out (.bool true)⟩
  simp only [Act.put, Nat.reduceAdd]
  refine planS_val (by kernel_rfl) (fun L9 u hb hS => ?_) ?_
  · clear hS hb
    go_simp
  simp only [Act.put, Nat.reduceAdd]
  refine planS_end ?_
  intro w8 hS
  have h := PuSt.get hS
  have h10 := h.s10 rfl
  have hEE := HE.out w8 (Y 2) (Y 8) (OwnG.weaken (h.s2 rfl) (by have := HU.out.size; omega)) (OwnG.weaken (h.s8 rfl) (by have := HU.out.size; omega)) h.cw
  clear h hS
  go_wp2_with fail
  exact HRET.out _ _ (end_dkE (p := 6) (q := 7) rfl rfl _ _ _ _ _ _ _ rfl rfl rfl h10 rfl hEE)
open Go.ChangeShapes Go.WideShapes Go.ChangeAt Go.RowKit
section
variable {H : Type} {enc : TypeId × Value → H} {w : World} {base : Nat} {spare : Nat → Bool} {held : Bool}
def boC (b : Bool) : List Value := [.bool b]
def LiesO (w : World) (A : Option Addr) (l : List Bool) : Prop := LiesG boC 1 w A l
theorem LiesO.calm {w w' : World} {A : Option Addr} {l : List Bool} (h : LiesO w A l) (hb : Calm w w') : LiesO w' A l := LiesG.calm h hb
theorem LiesO.get {w : World} {A : Option Addr} {l : List Bool} (h : LiesO w A l) {k : Nat} (hk : k < l.length) : ∃ (b q : Nat) (s : Bool), A = some ⟨b, q, none⟩ ∧ b < w.heap.size ∧ Hid (l[k]? = some s) ∧ w.cell? ⟨b, q + k, none⟩ = some (.bool s) := by
 obtain ⟨b, q, hA, hlt, h2⟩ := h (by omega)
 have := h2 k _ (List.getElem?_eq_getElem hk) 0 (by omega)
 rw [Nat.mul_one, Nat.add_zero] at this
 exact ⟨b, q, l[k], hA, hlt, List.getElem?_eq_getElem hk, this⟩
theorem cellsBo : Try.prog.cellsOf 4 = 1 := by kernel_rfl
theorem cellsWr : Try.prog.cellsOf 41 = 2 := by kernel_rfl
theorem cellsSlSt : Try.prog.cellsOf 22 = 1 := by kernel_rfl
theorem cellsSlWr : Try.prog.cellsOf 23 = 1 := by kernel_rfl
theorem cellsDisk : Try.prog.cellsOf 25 = 2 := by kernel_rfl
theorem write_cells {fuel : Nat} {cs : List Value} {x : DataW H × List MemPlace} (h : DataW.trod enc Try.prog w base spare held fuel 41 cs = some x) : ∃ y : Wr, cs = wrC y ∧ True := by
 obtain ⟨y0, y1, n, _, hl, h0, h1⟩ := trod_struct2 Try.underlying41 h
 obtain ⟨k, e0, _, w0⟩ := DataW.trod_int Try.underlying3 h0
 obtain ⟨s, e1, _, w1⟩ := DataW.trod_string Try.underlying9 h1
 simp only [cellsInt, cellsStr, cellsWr] at e0 e1 hl
 match cs, hl with
 | [c0, c1], _ =>
  simp at e0 e1
  exact ⟨⟨k, s⟩, by rw [e0, e1]; rfl, trivial⟩
theorem str_cells {fuel : Nat} {cs : List Value} {x : DataW H × List MemPlace} (h : DataW.trod enc Try.prog w base spare held fuel 9 cs = some x) : ∃ y : ByteArray, cs = stC y ∧ True := by
 obtain ⟨s, e1, _, w1⟩ := DataW.trod_string Try.underlying9 h
 exact ⟨s, e1, trivial⟩
variable {r : Reach} {b0 : Nat} {v : Value} {d : DataW H} {ps : List MemPlace}
theorem open_bools (hv : Value.okWide Try.prog w r b0 26 v) (h : DataW.Trod enc Try.prog w base spare held 26 v d ps) :
    ∃ (A : Option Addr) (c : Nat) (l : List Bool), v = .slice A l.length c ∧ l.length ≤ 9223372036854775807 ∧ LiesO w A l := by
  obtain ⟨A0, len, cap, rfl⟩ := okWide_slice Try.underlying26 hv
  obtain ⟨fuel, hf⟩ := h
  obtain ⟨A, c, l, e1, le1, -, -, at1, -⟩ := rows_open (α := Bool) boC (fun _ => True) 1 Try.underlying26 cellsBo (by omega) (fun fuel cs x hx => by
    obtain ⟨p, e, _⟩ := DataW.trod_bool Try.underlying4 hx
    exact ⟨p, e, trivial⟩) hf
  have e2 : Value.slice A0 len cap = .slice A l.length c := by simpa [Value.cells] using e1
  rw [e2]
  exact ⟨A, c, l, rfl, le1, at1⟩
theorem open_disk (hv : Value.okWide Try.prog w r b0 25 v) (h : DataW.Trod enc Try.prog w base spare held 25 v d ps) :
    ∃ (P : Option Addr) (cp : Nat) (l : List ByteArray) (Q : Option Addr) (cq : Nat) (m : List Wr), v = .agg #[.slice P l.length cp, .slice Q m.length cq] ∧ LiesP w P l ∧ LiesW w Q m ∧ l.length ≤ 9223372036854775807 ∧ m.length ≤ 9223372036854775807 ∧ l.length ≤ cp ∧ m.length ≤ cq := by
  obtain ⟨cs, rfl, _⟩ := okWide_struct Try.underlying25 hv
  obtain ⟨fuel, hf⟩ := h
  obtain ⟨y0, y1, n, hd, hl, h0, h1⟩ := trod_struct2 Try.underlying25 hf
  obtain ⟨P, cp, l, e0, le0, lc0, -, at0, -⟩ := rows_open (α := ByteArray) stC (fun _ => True) 1 Try.underlying22 cellsStr (by omega) (fun fuel cs x hx => str_cells hx) h0
  obtain ⟨Q, cq, m, e1, le1, lc1, -, at1, -⟩ := rows_open (α := Wr) wrC (fun _ => True) 2 Try.underlying23 cellsWr (by omega) (fun fuel cs x hx => write_cells hx) h1
  simp only [cellsSlSt, cellsSlWr, cellsDisk, Value.cells] at e0 e1 hl
  have hcs : cs.toList = [.slice P l.length cp, .slice Q m.length cq] := by
    match hm : cs.toList, hl with
    | [a0, a1], _ =>
      rw [hm] at e0 e1
      simp at e0 e1
      rw [e0, e1]
  exact ⟨P, cp, l, Q, cq, m, by rw [show cs = _ from Array.toList_inj.1 hcs], at0, at1, le0, le1, lc0, lc1⟩
end
open Go.RowKit
def PerfEnd (l : List ByteArray) (m : List Wr) (f : Nat → Bool) (w : World) (e : Ending) (w' : World) : Prop :=
 (dkErr l m ≠ 0 ∧ e = .returned (.tuple #[.agg #[.slice none 0 0, .slice none 0 0], .int .i64 (dkErr l m)]) ∧ Calm w w') ∨
 (dkErr l m = 0 ∧ ∃ v, e = .returned (.tuple #[.agg #[v, .slice none 0 0], .int .i64 0]) ∧ OwnP w.heap.size w' v (doneL f 0 m l) ∧ Calm w w')
def selK (K : List Bool) (j : Nat) : Bool := decide (j < K.length) && K.getD j false
def KBx (B : Nat) (A : Option Addr) (n c : Nat) (w : World) : Prop := w.heap[B]? = some (.cells #[.slice A n c] 26 (0, 0))
theorem KBx.calm {B n c : Nat} {A : Option Addr} {w w' : World} (h : KBx B A n c w) (hb : Calm w w') : KBx B A n c w' := (hb.block (Array.getElem?_eq_some_iff.1 h).1).trans h
theorem row1 {w : World} {g t : Nat} {a : Value} {fr : Nat × Nat} (h : w.heap[g]? = some (.cells #[a] t fr)) : w.cell? ⟨g, 0, none⟩ = some a ∧ g < w.heap.size :=
 ⟨cell_of_row _ _ 0 _ _ _ h, (Array.getElem?_eq_some_iff.1 h).1⟩
theorem sync1_any (k : Nat) (w : World) : Calls Try.prog 45 #[.int .i64 k] w fun e w' => e = .returned (.bool true) ∧ Calm w w' := by
 go_enter Try.func45, Try.ntmps45
 go_wp2_with fail
 go_ret
 exact ⟨rfl, Calm.refl _⟩
set_option maxHeartbeats 4000000 in
theorem crash1_any (B : Nat) (A : Option Addr) (c : Nat) (K : List Bool) (k : Nat) (w : World) (hB : KBx B A K.length c w) (hK : LiesO w A K) :
    Calls Try.prog 46 #[.int .i64 k, .pointer (some ⟨B, 0, none⟩)] w fun e w' => e = .returned (.bool (selK K k)) ∧ Calm w w' := by
  obtain ⟨x0, hxs⟩ := row1 hB
  by_cases hk : k < K.length
  · obtain ⟨b, q, s, rfl, hb, HE, c0⟩ := hK.get hk
    have hs : selK K k = s := by unfold selK; rw [decide_eq_true hk, List.getD_eq_getElem?_getD, HE.out]; rfl
    have hz : (k : Int) < (K.length : Int) := by omega
    rw [hs]
    clear hs hK hB
    go_enter Try.func46, Try.ntmps46
    go_wp2_with fail
    go_ret
    exact ⟨rfl, Calm.refl _⟩
  · have hs : selK K k = false := by unfold selK; rw [decide_eq_false hk]; rfl
    have hz : ¬ (k : Int) < (K.length : Int) := by omega
    rw [hs]
    clear hs hK hB
    go_enter Try.func46, Try.ntmps46
    go_wp2_with fail
    go_ret
    exact ⟨rfl, Calm.refl _⟩
set_option maxHeartbeats 8000000 in
theorem perfSync_any (P Q : Option Addr) (cp cq : Nat) (l : List ByteArray) (m : List Wr) (w : World) (hP : LiesP w P l) (hQ : LiesW w Q m) (hn : l.length ≤ 9223372036854775807) (hm : m.length ≤ 9223372036854775807) :
    Calls Try.prog 44 #[.agg #[.slice P l.length cp, .slice Q m.length cq], .func (.func 45) #[] #[]] w (PerfEnd l m (fun _ => true) w) := by
  have hx := heap_past (.cells #[.slice none 0 0, .slice none 0 0] 25) (heap_new w (.cells #[.slice P l.length cp, .slice Q m.length cq] 25))
  have hr := heap_new (w.alloc (.cells #[.slice P l.length cp, .slice Q m.length cq] 25)) (.cells #[.slice none 0 0, .slice none 0 0] 25)
  rw [World.size_alloc] at hr
  have hu := ((Calm.refl w).alloc (.cells #[.slice P l.length cp, .slice Q m.length cq] 25)).alloc (.cells #[.slice none 0 0, .slice none 0 0] 25)
  have cC := fun u (hu : Calm w u) => diskCheck_any P Q cp cq l m u (hP.calm hu) (hQ.calm hu) hn hm
  have cF : ∀ (k : Nat) u, Calm w u → Calls Try.prog 45 #[.int .i64 k] u fun e w' => e = .returned (.bool ((fun _ => true) k)) ∧ Calm u w' := fun k u _ => sync1_any k u
  obtain ⟨x0, x1, hxs⟩ := rowD hx
  obtain ⟨r0, r1, hrs⟩ := rowD hr
  obtain ⟨f0, f1⟩ := freeD2 hr
  by_cases hz : dkErr l m = 0
  rotate_left
  · have HE : Hid (∀ w', Calm w w' → PerfEnd l m (fun _ => true) w (.returned (.tuple #[.agg #[.slice none 0 0, .slice none 0 0], .int .i64 (dkErr l m)])) w') := show ∀ _, _ from fun w' hw => .inl ⟨hz, rfl, hw⟩
    have b1 : (dkErr l m != 0) = true := by rw [bne_iff_ne]; exact hz
    generalize PerfEnd l m (fun _ => true) w = PE at HE ⊢
    clear hz hP hQ
    generalize dkErr l m = E at cC b1 HE ⊢
    go_enter Try.func44, Try.ntmps44
    generalize hQ0 : bodyPost Try.prog Try.f44 PE = Q0
    have HRET : Hid (∀ a w', bodyPost Try.prog Try.f44 PE .ret a w' → Q0 .ret a w') := show ∀ _ _, _ from fun a w' h => by rw [← hQ0]; exact h
    clear hQ0
    go_wp2_with (go_at_call 18; (with_reducible refine (cC _ hu).mono ?_); rintro e w1 ⟨rfl, hb1⟩; replace hx := (hb1.block hxs).trans hx; replace hr := (hb1.block hrs).trans hr; replace hu := hu.call hb1; clear hb1; obtain ⟨x0, x1, hxs⟩ := rowD hx; obtain ⟨r0, r1, hrs⟩ := rowD hr; obtain ⟨f0, f1⟩ := freeD2 hr)
    have hr9 := setD2 hr (.slice none 0 0) (.slice none 0 0)
    have hu9 := hu.twoD (g := w.heap.size + 1) (by omega) (.slice none 0 0) (.slice none 0 0)
    exact HRET.out _ _ (end_dkE (p := 4) (q := 5) rfl rfl _ _ _ _ _ _ _ rfl rfl rfl hr9 rfl (HE.out _ hu9))
  have HE : Hid (∀ w' v, OwnP w.heap.size w' v (doneL (fun _ => true) 0 m l) → Calm w w' → PerfEnd l m (fun _ => true) w (.returned (.tuple #[.agg #[v, .slice none 0 0], .int .i64 0])) w') := show ∀ _, _ from fun w' v h1 hw => .inr ⟨hz, v, rfl, h1, hw⟩
  generalize PerfEnd l m (fun _ => true) w = PE at HE ⊢
  obtain ⟨h6, h5, -, hWS⟩ := dkErr_zero.1 hz
  have HWS := Lib.hid hWS
  have cP := fun u (hu : Calm w u) => cloneP_any P cp l u (by omega) (hP.calm hu)
  have HQ := Lib.hid hQ
  rw [hz] at cC
  clear hz hP hQ hWS hn hm
  go_enter Try.func44, Try.ntmps44
  generalize hQ0 : bodyPost Try.prog Try.f44 PE = Q0
  have HRET : Hid (∀ a w', bodyPost Try.prog Try.f44 PE .ret a w' → Q0 .ret a w') := show ∀ _ _, _ from fun a w' h => by rw [← hQ0]; exact h
  clear hQ0
  go_upto_region 5 with first
    | (go_at_call 18; (with_reducible refine (cC _ hu).mono ?_); rintro e w1 ⟨rfl, hb1⟩; replace hx := (hb1.block hxs).trans hx; replace hr := (hb1.block hrs).trans hr; replace hu := hu.call hb1; clear hb1; obtain ⟨x0, x1, hxs⟩ := rowD hx; obtain ⟨r0, r1, hrs⟩ := rowD hr; obtain ⟨f0, f1⟩ := freeD2 hr)
    | (go_at_call 39; (with_reducible refine (cP _ hu).mono ?_); rintro e w4 ⟨v4, rfl, ho4, hb1⟩; have hRl := hrs; replace hx := (hb1.block hxs).trans hx; replace hr := (hb1.block hrs).trans hr; replace hu := hu.call hb1; obtain ⟨x0, x1, hxs⟩ := rowD hx)
  obtain ⟨A4, c4, rfl, hc4, -⟩ := ho4.slice
  have hB4 := (Calm.size hb1)
  generalize w1.heap.size = B4 at ho4 hRl hB4
  have HO := Lib.hid ho4
  have HU := Lib.hid hu
  clear ho4 hb1 r0 r1 hrs f0 f1 cC cP
  go_wp2_with fail
  go_loopw [22, 8, 9] (fun i _ _ wr => ∃ k : Nat, k ≤ m.length ∧ i = .int .i64 k ∧ Calm w wr ∧ B4 ≤ wr.heap.size ∧ Hid (OwnP B4 wr (.slice A4 l.length c4) (doneL (fun _ => true) 0 (m.take k) l)) ∧ wr.heap[w.heap.size + 1]? = some (.cells #[.slice none 0 0, .slice none 0 0] 25 (0, 0))) (fun i _ _ _ => m.length - (intOf i).toNat)
  case atStart => exact ⟨0, Nat.zero_le _, rfl, hu, hB4, HO, hr⟩
  case round =>
    obtain ⟨k, hk, rfl, hv, hBv, HOk, hr⟩ := hrel
    by_cases hlt : k < m.length
    rotate_left
    · have hkl : m.take k = m := List.take_of_length_le (by omega)
      rw [hkl] at HOk
      have HO8 := HOk
      obtain ⟨r0, r1, hrs⟩ := rowD hr
      obtain ⟨f0, f1⟩ := freeD2 hr
      clear HOk hkl
      go_wp2_with fail
      have hr9 := setD2 hr (.slice A4 l.length c4) (.slice none 0 0)
      have HO9 := Lib.hid HO8.out
      have hu9 := hv.twoD (g := w.heap.size + 1) (by omega) (.slice A4 l.length c4) (.slice none 0 0)
      exact HRET.out _ _ (end_dkE (p := 4) (q := 5) rfl rfl _ _ _ _ _ _ _ rfl rfl rfl hr9 rfl (HE.out _ (.slice A4 l.length c4) (OwnG.weaken (rowsG_set (rowsG_set HO9.out hRl 0 (.slice A4 l.length c4)) hRl 1 (.slice none 0 0)) (by omega)) hu9))
    obtain ⟨b, q, i, s, rfl, hb, HEw, c0, c1⟩ := (HQ.out.calm hv).get hlt
    have hW := wrE_zero.1 (HWS.out _ (List.mem_of_getElem? HEw.out))
    obtain ⟨p, rfl⟩ : ∃ p : Nat, i = (p : Int) := ⟨i.toNat, by have := hW.1; simp only at this; omega⟩
    have hpl : p < l.length := by have := hW.2.1; simp only at this; omega
    have hdl := doneL_len (fun _ => true) (m.take k) 0 l
    obtain ⟨bk, hbk⟩ : ∃ bk : Bool, bk = (fun _ => true) k := ⟨_, rfl⟩
    have HT := Lib.hid (show doneL (fun _ => true) 0 (m.take (k + 1)) l = if bk = true then (doneL (fun _ => true) 0 (m.take k) l).set p s else doneL (fun _ => true) 0 (m.take k) l by rw [hbk]; exact doneL_take (f := (fun _ => true)) (ps := l) HEw.out)
    have cFk : ∀ u, Calm w u → Calls Try.prog 45 #[.int .i64 k] u fun e w' => e = .returned (.bool bk) ∧ Calm u w' := fun u hu => by rw [hbk]; exact cF k u hu
    have hak := (hv.alloc (.cells #[.int .i64 (p : Int), .string s] 41))
    have hyk := heap_new wr (.cells #[.int .i64 (p : Int), .string s] 41)
    have HO1 := Lib.hid (OwnP.calm HOk.out ((Calm.refl wr).alloc (.cells #[.int .i64 (p : Int), .string s] 41)))
    have hr1 := heap_past (.cells #[.int .i64 (p : Int), .string s] 41) hr
    clear hr HOk hW hbk HEw
    generalize doneL (fun _ => true) 0 (m.take k) l = L at HO1 HT hdl
    obtain ⟨g4, cap4, hA4⟩ := OwnG.some_ HO1.out (by omega)
    obtain rfl : A4 = some ⟨g4, 0, none⟩ := by injection hA4
    have hg4 := (HO1.out.lt g4 rfl).1
    clear hA4 cap4
    cases bk
    · have HT := Lib.hid (HT.out.trans (if_neg (by simp)))
      go_wp2_with (go_at_call 45; (with_reducible refine (cFk _ hak).mono ?_); rintro e w9 ⟨rfl, hb9⟩)
      go_roundw
      case rel => exact ⟨k + 1, by omega, by go_num, hak.call hb9, by have := hb9.size; simp at this; omega, by rw [HT.out]; exact HO1.out.calm hb9, (hb9.block (rowD hr1).2.2).trans hr1⟩
      case measure => simp [intOf]; omega
    · have HT := Lib.hid (HT.out.trans (if_pos rfl))
      go_wp2_with (go_at_call 45; (with_reducible refine (cFk _ hak).mono ?_); rintro e w9 ⟨rfl, hb9⟩; have hyk2 := (hb9.block (rowD hyk).2.2).trans hyk; obtain ⟨y0, y1, hys⟩ := rowD hyk2; have HO9 := Lib.hid (HO1.out.calm hb9); have hcell : w9.cell? ⟨g4, p, none⟩ = some (.string (L[p]'(by omega))) := (by have := (OwnG.cell stC_len HO9.out (show p < L.length by omega)).1 0 (by omega); rw [Nat.mul_one, Nat.add_zero] at this; exact this); have hfz := OwnG.frozen HO9.out p; have hpz : (p : Int) < (l.length : Int) := by omega)
      have HO10 : OwnP B4 (w9.setCell ⟨g4, p, none⟩ (.string s)) (.slice (some ⟨g4, 0, none⟩) l.length c4) (L.set p s) := by
        have := OwnG.set stC_len (i := p) (j := 0) (u := .string s) (x := s) HO9.out (by omega) (by omega) rfl
        rw [Nat.mul_one, Nat.add_zero] at this
        exact this
      go_roundw
      case rel => exact ⟨k + 1, by omega, by go_num, (hak.call hb9).setCell (p := ⟨g4, p, none⟩) (show w.heap.size ≤ g4 by omega) _, by have := hb9.size; simp at this ⊢; omega, by rw [HT.out]; exact HO10, (heap_setCell_other _ _ _ _ (by show w.heap.size + 1 ≠ g4; omega)).trans ((hb9.block (rowD hr1).2.2).trans hr1)⟩
      case measure => simp [intOf]; omega
set_option maxHeartbeats 8000000 in
theorem perfCrash_any (P Q : Option Addr) (cp cq : Nat) (l : List ByteArray) (m : List Wr) (B : Nat) (AK : Option Addr) (cK : Nat) (K : List Bool) (w : World) (hP : LiesP w P l) (hQ : LiesW w Q m) (hn : l.length ≤ 9223372036854775807) (hm : m.length ≤ 9223372036854775807) (hB : KBx B AK K.length cK w) (hK : LiesO w AK K) :
    Calls Try.prog 44 #[.agg #[.slice P l.length cp, .slice Q m.length cq], .func (.func 46) #[] #[.pointer (some ⟨B, 0, none⟩)]] w (PerfEnd l m (selK K) w) := by
  have hx := heap_past (.cells #[.slice none 0 0, .slice none 0 0] 25) (heap_new w (.cells #[.slice P l.length cp, .slice Q m.length cq] 25))
  have hr := heap_new (w.alloc (.cells #[.slice P l.length cp, .slice Q m.length cq] 25)) (.cells #[.slice none 0 0, .slice none 0 0] 25)
  rw [World.size_alloc] at hr
  have hu := ((Calm.refl w).alloc (.cells #[.slice P l.length cp, .slice Q m.length cq] 25)).alloc (.cells #[.slice none 0 0, .slice none 0 0] 25)
  have cC := fun u (hu : Calm w u) => diskCheck_any P Q cp cq l m u (hP.calm hu) (hQ.calm hu) hn hm
  have cF : ∀ (k : Nat) u, Calm w u → Calls Try.prog 46 #[.int .i64 k, .pointer (some ⟨B, 0, none⟩)] u fun e w' => e = .returned (.bool (selK K k)) ∧ Calm u w' := fun k u hu => crash1_any B AK cK K k u (hB.calm hu) (hK.calm hu)
  clear hB hK
  obtain ⟨x0, x1, hxs⟩ := rowD hx
  obtain ⟨r0, r1, hrs⟩ := rowD hr
  obtain ⟨f0, f1⟩ := freeD2 hr
  by_cases hz : dkErr l m = 0
  rotate_left
  · have HE : Hid (∀ w', Calm w w' → PerfEnd l m (selK K) w (.returned (.tuple #[.agg #[.slice none 0 0, .slice none 0 0], .int .i64 (dkErr l m)])) w') := show ∀ _, _ from fun w' hw => .inl ⟨hz, rfl, hw⟩
    have b1 : (dkErr l m != 0) = true := by rw [bne_iff_ne]; exact hz
    generalize PerfEnd l m (selK K) w = PE at HE ⊢
    clear hz hP hQ
    generalize dkErr l m = E at cC b1 HE ⊢
    go_enter Try.func44, Try.ntmps44
    generalize hQ0 : bodyPost Try.prog Try.f44 PE = Q0
    have HRET : Hid (∀ a w', bodyPost Try.prog Try.f44 PE .ret a w' → Q0 .ret a w') := show ∀ _ _, _ from fun a w' h => by rw [← hQ0]; exact h
    clear hQ0
    go_wp2_with (go_at_call 18; (with_reducible refine (cC _ hu).mono ?_); rintro e w1 ⟨rfl, hb1⟩; replace hx := (hb1.block hxs).trans hx; replace hr := (hb1.block hrs).trans hr; replace hu := hu.call hb1; clear hb1; obtain ⟨x0, x1, hxs⟩ := rowD hx; obtain ⟨r0, r1, hrs⟩ := rowD hr; obtain ⟨f0, f1⟩ := freeD2 hr)
    have hr9 := setD2 hr (.slice none 0 0) (.slice none 0 0)
    have hu9 := hu.twoD (g := w.heap.size + 1) (by omega) (.slice none 0 0) (.slice none 0 0)
    exact HRET.out _ _ (end_dkE (p := 4) (q := 5) rfl rfl _ _ _ _ _ _ _ rfl rfl rfl hr9 rfl (HE.out _ hu9))
  have HE : Hid (∀ w' v, OwnP w.heap.size w' v (doneL (selK K) 0 m l) → Calm w w' → PerfEnd l m (selK K) w (.returned (.tuple #[.agg #[v, .slice none 0 0], .int .i64 0])) w') := show ∀ _, _ from fun w' v h1 hw => .inr ⟨hz, v, rfl, h1, hw⟩
  generalize PerfEnd l m (selK K) w = PE at HE ⊢
  obtain ⟨h6, h5, -, hWS⟩ := dkErr_zero.1 hz
  have HWS := Lib.hid hWS
  have cP := fun u (hu : Calm w u) => cloneP_any P cp l u (by omega) (hP.calm hu)
  have HQ := Lib.hid hQ
  rw [hz] at cC
  clear hz hP hQ hWS hn hm
  go_enter Try.func44, Try.ntmps44
  generalize hQ0 : bodyPost Try.prog Try.f44 PE = Q0
  have HRET : Hid (∀ a w', bodyPost Try.prog Try.f44 PE .ret a w' → Q0 .ret a w') := show ∀ _ _, _ from fun a w' h => by rw [← hQ0]; exact h
  clear hQ0
  go_upto_region 5 with first
    | (go_at_call 18; (with_reducible refine (cC _ hu).mono ?_); rintro e w1 ⟨rfl, hb1⟩; replace hx := (hb1.block hxs).trans hx; replace hr := (hb1.block hrs).trans hr; replace hu := hu.call hb1; clear hb1; obtain ⟨x0, x1, hxs⟩ := rowD hx; obtain ⟨r0, r1, hrs⟩ := rowD hr; obtain ⟨f0, f1⟩ := freeD2 hr)
    | (go_at_call 39; (with_reducible refine (cP _ hu).mono ?_); rintro e w4 ⟨v4, rfl, ho4, hb1⟩; have hRl := hrs; replace hx := (hb1.block hxs).trans hx; replace hr := (hb1.block hrs).trans hr; replace hu := hu.call hb1; obtain ⟨x0, x1, hxs⟩ := rowD hx)
  obtain ⟨A4, c4, rfl, hc4, -⟩ := ho4.slice
  have hB4 := (Calm.size hb1)
  generalize w1.heap.size = B4 at ho4 hRl hB4
  have HO := Lib.hid ho4
  have HU := Lib.hid hu
  clear ho4 hb1 r0 r1 hrs f0 f1 cC cP
  go_wp2_with fail
  go_loopw [22, 8, 9] (fun i _ _ wr => ∃ k : Nat, k ≤ m.length ∧ i = .int .i64 k ∧ Calm w wr ∧ B4 ≤ wr.heap.size ∧ Hid (OwnP B4 wr (.slice A4 l.length c4) (doneL (selK K) 0 (m.take k) l)) ∧ wr.heap[w.heap.size + 1]? = some (.cells #[.slice none 0 0, .slice none 0 0] 25 (0, 0))) (fun i _ _ _ => m.length - (intOf i).toNat)
  case atStart => exact ⟨0, Nat.zero_le _, rfl, hu, hB4, HO, hr⟩
  case round =>
    obtain ⟨k, hk, rfl, hv, hBv, HOk, hr⟩ := hrel
    by_cases hlt : k < m.length
    rotate_left
    · have hkl : m.take k = m := List.take_of_length_le (by omega)
      rw [hkl] at HOk
      have HO8 := HOk
      obtain ⟨r0, r1, hrs⟩ := rowD hr
      obtain ⟨f0, f1⟩ := freeD2 hr
      clear HOk hkl
      go_wp2_with fail
      have hr9 := setD2 hr (.slice A4 l.length c4) (.slice none 0 0)
      have HO9 := Lib.hid HO8.out
      have hu9 := hv.twoD (g := w.heap.size + 1) (by omega) (.slice A4 l.length c4) (.slice none 0 0)
      exact HRET.out _ _ (end_dkE (p := 4) (q := 5) rfl rfl _ _ _ _ _ _ _ rfl rfl rfl hr9 rfl (HE.out _ (.slice A4 l.length c4) (OwnG.weaken (rowsG_set (rowsG_set HO9.out hRl 0 (.slice A4 l.length c4)) hRl 1 (.slice none 0 0)) (by omega)) hu9))
    obtain ⟨b, q, i, s, rfl, hb, HEw, c0, c1⟩ := (HQ.out.calm hv).get hlt
    have hW := wrE_zero.1 (HWS.out _ (List.mem_of_getElem? HEw.out))
    obtain ⟨p, rfl⟩ : ∃ p : Nat, i = (p : Int) := ⟨i.toNat, by have := hW.1; simp only at this; omega⟩
    have hpl : p < l.length := by have := hW.2.1; simp only at this; omega
    have hdl := doneL_len (selK K) (m.take k) 0 l
    obtain ⟨bk, hbk⟩ : ∃ bk : Bool, bk = (selK K) k := ⟨_, rfl⟩
    have HT := Lib.hid (show doneL (selK K) 0 (m.take (k + 1)) l = if bk = true then (doneL (selK K) 0 (m.take k) l).set p s else doneL (selK K) 0 (m.take k) l by rw [hbk]; exact doneL_take (f := (selK K)) (ps := l) HEw.out)
    have cFk : ∀ u, Calm w u → Calls Try.prog 46 #[.int .i64 k, .pointer (some ⟨B, 0, none⟩)] u fun e w' => e = .returned (.bool bk) ∧ Calm u w' := fun u hu => by rw [hbk]; exact cF k u hu
    have hak := (hv.alloc (.cells #[.int .i64 (p : Int), .string s] 41))
    have hyk := heap_new wr (.cells #[.int .i64 (p : Int), .string s] 41)
    have HO1 := Lib.hid (OwnP.calm HOk.out ((Calm.refl wr).alloc (.cells #[.int .i64 (p : Int), .string s] 41)))
    have hr1 := heap_past (.cells #[.int .i64 (p : Int), .string s] 41) hr
    clear hr HOk hW hbk HEw
    generalize doneL (selK K) 0 (m.take k) l = L at HO1 HT hdl
    obtain ⟨g4, cap4, hA4⟩ := OwnG.some_ HO1.out (by omega)
    obtain rfl : A4 = some ⟨g4, 0, none⟩ := by injection hA4
    have hg4 := (HO1.out.lt g4 rfl).1
    clear hA4 cap4
    cases bk
    · have HT := Lib.hid (HT.out.trans (if_neg (by simp)))
      go_wp2_with (go_at_call 46; (with_reducible refine (cFk _ hak).mono ?_); rintro e w9 ⟨rfl, hb9⟩)
      go_roundw
      case rel => exact ⟨k + 1, by omega, by go_num, hak.call hb9, by have := hb9.size; simp at this; omega, by rw [HT.out]; exact HO1.out.calm hb9, (hb9.block (rowD hr1).2.2).trans hr1⟩
      case measure => simp [intOf]; omega
    · have HT := Lib.hid (HT.out.trans (if_pos rfl))
      go_wp2_with (go_at_call 46; (with_reducible refine (cFk _ hak).mono ?_); rintro e w9 ⟨rfl, hb9⟩; have hyk2 := (hb9.block (rowD hyk).2.2).trans hyk; obtain ⟨y0, y1, hys⟩ := rowD hyk2; have HO9 := Lib.hid (HO1.out.calm hb9); have hcell : w9.cell? ⟨g4, p, none⟩ = some (.string (L[p]'(by omega))) := (by have := (OwnG.cell stC_len HO9.out (show p < L.length by omega)).1 0 (by omega); rw [Nat.mul_one, Nat.add_zero] at this; exact this); have hfz := OwnG.frozen HO9.out p; have hpz : (p : Int) < (l.length : Int) := by omega)
      have HO10 : OwnP B4 (w9.setCell ⟨g4, p, none⟩ (.string s)) (.slice (some ⟨g4, 0, none⟩) l.length c4) (L.set p s) := by
        have := OwnG.set stC_len (i := p) (j := 0) (u := .string s) (x := s) HO9.out (by omega) (by omega) rfl
        rw [Nat.mul_one, Nat.add_zero] at this
        exact this
      go_roundw
      case rel => exact ⟨k + 1, by omega, by go_num, (hak.call hb9).setCell (p := ⟨g4, p, none⟩) (show w.heap.size ≤ g4 by omega) _, by have := hb9.size; simp at this ⊢; omega, by rw [HT.out]; exact HO10, (heap_setCell_other _ _ _ _ (by show w.heap.size + 1 ≠ g4; omega)).trans ((hb9.block (rowD hr1).2.2).trans hr1)⟩
      case measure => simp [intOf]; omega
set_option maxHeartbeats 8000000 in
theorem diskSync_any (P Q : Option Addr) (cp cq : Nat) (l : List ByteArray) (m : List Wr) (w : World) (hP : LiesP w P l) (hQ : LiesW w Q m) (hn : l.length ≤ 9223372036854775807) (hm : m.length ≤ 9223372036854775807) :
    Calls Try.prog 15 #[.agg #[.slice P l.length cp, .slice Q m.length cq]] w (PerfEnd l m (fun _ => true) w) := by
  have hx := heap_past (.cells #[.slice none 0 0, .slice none 0 0] 25) (heap_new w (.cells #[.slice P l.length cp, .slice Q m.length cq] 25))
  have hr := heap_new (w.alloc (.cells #[.slice P l.length cp, .slice Q m.length cq] 25)) (.cells #[.slice none 0 0, .slice none 0 0] 25)
  rw [World.size_alloc] at hr
  have hu := ((Calm.refl w).alloc (.cells #[.slice P l.length cp, .slice Q m.length cq] 25)).alloc (.cells #[.slice none 0 0, .slice none 0 0] 25)
  obtain ⟨x0, x1, hxs⟩ := rowD hx
  obtain ⟨r0, r1, hrs⟩ := rowD hr
  obtain ⟨f0, f1⟩ := freeD2 hr
  have cC := fun u (hu : Calm w u) => perfSync_any P Q cp cq l m u (hP.calm hu) (hQ.calm hu) hn hm
  by_cases hz : dkErr l m = 0
  · have HE0 : Hid (∀ w' v, OwnP w.heap.size w' v (doneL (fun _ => true) 0 m l) → Calm w w' → PerfEnd l m (fun _ => true) w (.returned (.tuple #[.agg #[v, .slice none 0 0], .int .i64 0])) w') := show ∀ _, _ from fun w' v h1 hw => .inr ⟨hz, v, rfl, h1, hw⟩
    have cC2 := fun u (hu : Calm w u) => (cC u hu).mono (fun e w' h => (show ∃ A c, e = .returned (.tuple #[.agg #[.slice A (doneL (fun _ => true) 0 m l).length c, .slice none 0 0], .int .i64 0]) ∧ OwnP u.heap.size w' (.slice A (doneL (fun _ => true) 0 m l).length c) (doneL (fun _ => true) 0 m l) ∧ Calm u w' by
      rcases h with ⟨h, -⟩ | ⟨h1, v, h2, h3, h4⟩
      · exact absurd hz h
      · obtain ⟨A, c, rfl, -, -⟩ := h3.slice
        exact ⟨A, c, h2, h3, h4⟩))
    generalize PerfEnd l m (fun _ => true) w = PE at HE0 ⊢
    clear cC hz hP hQ hn hm
    generalize doneL (fun _ => true) 0 m l = L at HE0 cC2
    go_enter Try.func15, Try.ntmps15
    generalize hQ0 : bodyPost Try.prog Try.f15 PE = Q0
    have HRET : Hid (∀ a w', bodyPost Try.prog Try.f15 PE .ret a w' → Q0 .ret a w') := show ∀ _ _, _ from fun a w' h => by rw [← hQ0]; exact h
    clear hQ0
    go_wp2_with (go_at_call 44; (with_reducible refine (cC2 _ hu).mono ?_); rintro e w1 ⟨A9, c9, rfl, ho9, hb1⟩; have HO9 := Lib.hid ho9; clear ho9; replace hr := (hb1.block hrs).trans hr; replace hu := hu.call hb1; have hs1 := hrs; clear hb1 r0 r1 hrs f0 f1 x0 x1 hxs; obtain ⟨r0, r1, hrs⟩ := rowD hr; obtain ⟨f0, f1⟩ := freeD2 hr)
    have hr9 := setD2 hr (.slice A9 L.length c9) (.slice none 0 0)
    have hu9 := hu.twoD (g := w.heap.size + 1) (by omega) (.slice A9 L.length c9) (.slice none 0 0)
    exact HRET.out _ _ (end_dkE (p := 2) (q := 3) rfl rfl _ _ _ _ _ _ _ rfl rfl rfl hr9 rfl (HE0.out _ _ (OwnG.weaken (rowsG_set (rowsG_set HO9.out hs1 0 (.slice A9 L.length c9)) hs1 1 (.slice none 0 0)) (by omega)) hu9))
  · have HE : Hid (∀ w', Calm w w' → PerfEnd l m (fun _ => true) w (.returned (.tuple #[.agg #[.slice none 0 0, .slice none 0 0], .int .i64 (dkErr l m)])) w') := show ∀ _, _ from fun w' hw => .inl ⟨hz, rfl, hw⟩
    have cC2 := fun u (hu : Calm w u) => (cC u hu).mono (fun e w' h => (show e = .returned (.tuple #[.agg #[.slice none 0 0, .slice none 0 0], .int .i64 (dkErr l m)]) ∧ Calm u w' by
      rcases h with ⟨-, h⟩ | ⟨h1, -⟩
      · exact h
      · exact absurd h1 hz))
    generalize PerfEnd l m (fun _ => true) w = PE at HE ⊢
    clear cC hz hP hQ hn hm
    generalize dkErr l m = E at HE cC2
    go_enter Try.func15, Try.ntmps15
    generalize hQ0 : bodyPost Try.prog Try.f15 PE = Q0
    have HRET : Hid (∀ a w', bodyPost Try.prog Try.f15 PE .ret a w' → Q0 .ret a w') := show ∀ _ _, _ from fun a w' h => by rw [← hQ0]; exact h
    clear hQ0
    go_wp2_with (go_at_call 44; (with_reducible refine (cC2 _ hu).mono ?_); rintro e w1 ⟨rfl, hb1⟩; replace hr := (hb1.block hrs).trans hr; replace hu := hu.call hb1; have hs1 := hrs; clear hb1 r0 r1 hrs f0 f1 x0 x1 hxs; obtain ⟨r0, r1, hrs⟩ := rowD hr; obtain ⟨f0, f1⟩ := freeD2 hr)
    have hr9 := setD2 hr (.slice none 0 0) (.slice none 0 0)
    have hu9 := hu.twoD (g := w.heap.size + 1) (by omega) (.slice none 0 0) (.slice none 0 0)
    exact HRET.out _ _ (end_dkE (p := 2) (q := 3) rfl rfl _ _ _ _ _ _ _ rfl rfl rfl hr9 rfl (HE.out _ hu9))
set_option maxHeartbeats 8000000 in
theorem diskCrash_any (P Q : Option Addr) (cp cq : Nat) (l : List ByteArray) (m : List Wr) (AK : Option Addr) (cK : Nat) (K : List Bool) (w : World) (hP : LiesP w P l) (hQ : LiesW w Q m) (hn : l.length ≤ 9223372036854775807) (hm : m.length ≤ 9223372036854775807) (hK : LiesO w AK K) :
    Calls Try.prog 16 #[.agg #[.slice P l.length cp, .slice Q m.length cq], .slice AK K.length cK] w (PerfEnd l m (selK K) w) := by
  have hx := heap_past (.cells #[.slice none 0 0, .slice none 0 0] 25) (heap_past (.cells #[.slice AK K.length cK] 26) (heap_new w (.cells #[.slice P l.length cp, .slice Q m.length cq] 25)))
  have hk := heap_past (.cells #[.slice none 0 0, .slice none 0 0] 25) (heap_new (w.alloc (.cells #[.slice P l.length cp, .slice Q m.length cq] 25)) (.cells #[.slice AK K.length cK] 26))
  have hr := heap_new ((w.alloc (.cells #[.slice P l.length cp, .slice Q m.length cq] 25)).alloc (.cells #[.slice AK K.length cK] 26)) (.cells #[.slice none 0 0, .slice none 0 0] 25)
  rw [World.size_alloc] at hk hr
  rw [World.size_alloc] at hr
  have hu := (((Calm.refl w).alloc (.cells #[.slice P l.length cp, .slice Q m.length cq] 25)).alloc (.cells #[.slice AK K.length cK] 26)).alloc (.cells #[.slice none 0 0, .slice none 0 0] 25)
  obtain ⟨k0, hks⟩ := row1 hk
  replace hk : KBx (w.heap.size + 1) AK K.length cK _ := hk
  obtain ⟨x0, x1, hxs⟩ := rowD hx
  obtain ⟨r0, r1, hrs⟩ := rowD hr
  obtain ⟨f0, f1⟩ := freeD2 hr
  have cC := fun u (hu : Calm w u) (hk : KBx (w.heap.size + 1) AK K.length cK u) => perfCrash_any P Q cp cq l m (w.heap.size + 1) AK cK K u (hP.calm hu) (hQ.calm hu) hn hm hk (hK.calm hu)
  clear hK
  by_cases hz : dkErr l m = 0
  · have HE0 : Hid (∀ w' v, OwnP w.heap.size w' v (doneL (selK K) 0 m l) → Calm w w' → PerfEnd l m (selK K) w (.returned (.tuple #[.agg #[v, .slice none 0 0], .int .i64 0])) w') := show ∀ _, _ from fun w' v h1 hw => .inr ⟨hz, v, rfl, h1, hw⟩
    have cC2 := fun u (hu : Calm w u) (hk : KBx (w.heap.size + 1) AK K.length cK u) => (cC u hu hk).mono (fun e w' h => (show ∃ A c, e = .returned (.tuple #[.agg #[.slice A (doneL (selK K) 0 m l).length c, .slice none 0 0], .int .i64 0]) ∧ OwnP u.heap.size w' (.slice A (doneL (selK K) 0 m l).length c) (doneL (selK K) 0 m l) ∧ Calm u w' by
      rcases h with ⟨h, -⟩ | ⟨h1, v, h2, h3, h4⟩
      · exact absurd hz h
      · obtain ⟨A, c, rfl, -, -⟩ := h3.slice
        exact ⟨A, c, h2, h3, h4⟩))
    generalize PerfEnd l m (selK K) w = PE at HE0 ⊢
    clear cC hz hP hQ hn hm
    generalize doneL (selK K) 0 m l = L at HE0 cC2
    go_enter Try.func16, Try.ntmps16
    generalize hQ0 : bodyPost Try.prog Try.f16 PE = Q0
    have HRET : Hid (∀ a w', bodyPost Try.prog Try.f16 PE .ret a w' → Q0 .ret a w') := show ∀ _ _, _ from fun a w' h => by rw [← hQ0]; exact h
    clear hQ0
    go_wp2_with (go_at_call 44; (with_reducible refine (cC2 _ hu hk).mono ?_); rintro e w1 ⟨A9, c9, rfl, ho9, hb1⟩; have HO9 := Lib.hid ho9; clear ho9; replace hr := (hb1.block hrs).trans hr; replace hu := hu.call hb1; have hs1 := hrs; clear hb1 k0 hks hk r0 r1 hrs f0 f1 x0 x1 hxs; obtain ⟨r0, r1, hrs⟩ := rowD hr; obtain ⟨f0, f1⟩ := freeD2 hr)
    have hr9 := setD2 hr (.slice A9 L.length c9) (.slice none 0 0)
    have hu9 := hu.twoD (g := w.heap.size + 1 + 1) (by omega) (.slice A9 L.length c9) (.slice none 0 0)
    exact HRET.out _ _ (end_dkE (p := 4) (q := 5) rfl rfl _ _ _ _ _ _ _ rfl rfl rfl hr9 rfl (HE0.out _ _ (OwnG.weaken (rowsG_set (rowsG_set HO9.out hs1 0 (.slice A9 L.length c9)) hs1 1 (.slice none 0 0)) (by omega)) hu9))
  · have HE : Hid (∀ w', Calm w w' → PerfEnd l m (selK K) w (.returned (.tuple #[.agg #[.slice none 0 0, .slice none 0 0], .int .i64 (dkErr l m)])) w') := show ∀ _, _ from fun w' hw => .inl ⟨hz, rfl, hw⟩
    have cC2 := fun u (hu : Calm w u) (hk : KBx (w.heap.size + 1) AK K.length cK u) => (cC u hu hk).mono (fun e w' h => (show e = .returned (.tuple #[.agg #[.slice none 0 0, .slice none 0 0], .int .i64 (dkErr l m)]) ∧ Calm u w' by
      rcases h with ⟨-, h⟩ | ⟨h1, -⟩
      · exact h
      · exact absurd h1 hz))
    generalize PerfEnd l m (selK K) w = PE at HE ⊢
    clear cC hz hP hQ hn hm
    generalize dkErr l m = E at HE cC2
    go_enter Try.func16, Try.ntmps16
    generalize hQ0 : bodyPost Try.prog Try.f16 PE = Q0
    have HRET : Hid (∀ a w', bodyPost Try.prog Try.f16 PE .ret a w' → Q0 .ret a w') := show ∀ _ _, _ from fun a w' h => by rw [← hQ0]; exact h
    clear hQ0
    go_wp2_with (go_at_call 44; (with_reducible refine (cC2 _ hu hk).mono ?_); rintro e w1 ⟨rfl, hb1⟩; replace hr := (hb1.block hrs).trans hr; replace hu := hu.call hb1; have hs1 := hrs; clear hb1 k0 hks hk r0 r1 hrs f0 f1 x0 x1 hxs; obtain ⟨r0, r1, hrs⟩ := rowD hr; obtain ⟨f0, f1⟩ := freeD2 hr)
    have hr9 := setD2 hr (.slice none 0 0) (.slice none 0 0)
    have hu9 := hu.twoD (g := w.heap.size + 1 + 1) (by omega) (.slice none 0 0) (.slice none 0 0)
    exact HRET.out _ _ (end_dkE (p := 4) (q := 5) rfl rfl _ _ _ _ _ _ _ rfl rfl rfl hr9 rfl (HE.out _ hu9))
open Go.RowKit
theorem results_dk {fn : Func} {p : Tmp} (h : fn.results = #[.cell p 25]) (tmps : Array Value) (w : World) (g : Nat) (t : TypeId) (cs : Array Value) (fr : Nat × Nat)
    (hp : tmps.getD p undef = .pointer (some ⟨g, 0, none⟩)) (hg : w.heap[g]? = some (.cells cs t fr)) (hsz : cs.size = 2) : (results fn tmps).run Try.prog w = .ok (.agg cs) w := by
  have hp' : tmps[p]?.getD undef = .pointer (some ⟨g, 0, none⟩) := by simpa using hp
  have hi : (Try.prog.info? 25).map (·.size) = some cs.size := by rw [hsz]; kernel_rfl
  simp [results, h, hp', asAddr, run_loadVar_row w g t 25 cs fr _ hg Try.underlying25 rfl hi]
theorem end_dk {P : Program} {fn : Func} {p : Tmp} {Q : Ending → World → Prop} (hP : P = Try.prog) (h : fn.results = #[.cell p 25]) (a : Act) (w : World) (g : Nat) (t : TypeId) (cs : Array Value) (fr : Nat × Nat) (hd : a.defers = [])
    (hp : a.tmps.getD p undef = .pointer (some ⟨g, 0, none⟩)) (hg : w.heap[g]? = some (.cells cs t fr)) (hsz : cs.size = 2) (hQ : Q (.returned (.agg cs)) w) : bodyPost P fn Q .ret a w := by
  subst hP
  exact bodyPost_ret (v := .agg cs) (results_dk h a.tmps w g t cs fr hp hg hsz) hd hQ
open Go.RowKit
structure HasD (w : World) (P Q : Option Addr) (l : List ByteArray) (m : List Wr) : Prop where
 p : LiesP w P l
 q : LiesW w Q m
structure DkO (B : Nat) (w : World) (P Q : Option Addr) (cp cq : Nat) (l : List ByteArray) (m : List Wr) : Prop where
 p : OwnP B w (.slice P l.length cp) l
 q : OwnW B w (.slice Q m.length cq) m
section
variable {w w' : World} {P Q : Option Addr} {l : List ByteArray} {m : List Wr} {B cp cq : Nat}
theorem HasD.calm (h : HasD w P Q l m) (hb : Calm w w') : HasD w' P Q l m := ⟨h.p.calm hb, h.q.calm hb⟩
theorem DkO.has (h : DkO B w P Q cp cq l m) : HasD w P Q l m := ⟨(OwnP.at_ h.p).2, (OwnW.at_ h.q).2⟩
end
theorem dk_len {l : List ByteArray} {m : List Wr} (h : dkErr l m = 0) : l.length ≤ 9223372036854775807 ∧ m.length ≤ 9223372036854775807 := by
 have := dkErr_zero.1 h
 omega
def ADisk (l : List ByteArray) (m : List Wr) (w : World) (e : Ending) (w' : World) : Prop := ∃ P cp Q cq, e = .returned (.tuple #[.agg #[.slice P l.length cp, .slice Q m.length cq], .int .i64 0]) ∧ DkO w.heap.size w' P Q cp cq l m ∧ Calm w w'
section
variable {w : World} {P Q : Option Addr} {l : List ByteArray} {m : List Wr}
theorem HasD.put_ok (h : HasD w P Q l m) (cp cq : Nat) {i : Int} {s : ByteArray} (hE : ptE l m ⟨i, s⟩ = 0) : Calls Try.prog 14 #[.agg #[.slice P l.length cp, .slice Q m.length cq], .int .i64 i, .string s] w (ADisk l (m ++ [⟨i, s⟩]) w) := by
 have hz : dkErr l m = 0 := by
  by_cases hz : dkErr l m = 0
  ·exact hz
  ·unfold ptE at hE; rw [if_neg hz] at hE; exact absurd hE hz
 have hn := dk_len hz
 refine (diskPut_ok P Q cp cq l m i s w h.p h.q hn.1 hn.2 hE).mono fun e w' he => ?_
 rcases he with ⟨h2, -⟩ | ⟨-, v, u, h2, h3, h4, h5⟩
 ·exact absurd hE h2
 ·obtain ⟨P', cp', rfl, -, -⟩ := h3.slice
  obtain ⟨Q', cq', rfl, -, -⟩ := h4.slice
  exact ⟨P', cp', Q', cq', h2, ⟨h3, h4⟩, h5⟩
theorem HasD.rd (h : HasD w P Q l m) (cp cq : Nat) (hz : dkErr l m = 0) {k : Nat} {x : ByteArray} (hk : l[k]? = some x) : Calls Try.prog 13 #[.agg #[.slice P l.length cp, .slice Q m.length cq], .int .i64 k] w fun e w' => e = .returned (.tuple #[.string (rdL k m x), .int .i64 0]) ∧ Calm w w' := by
 have hn := dk_len hz
 have h1 := diskRead_any P Q cp cq l m k w h.p h.q hn.1 hn.2
 have hkl := (List.getElem?_eq_some_iff.1 hk).1
 have e1 : rdE l m k = 0 := by unfold rdE; rw [if_pos hz, if_neg (by omega)]
 have e2 : rdS l m k = rdL k m x := by
  unfold rdS
  rw [e1, if_pos rfl, Int.toNat_natCast, List.getD_eq_getElem?_getD, hk]; rfl
 rw [e1, e2] at h1
 exact h1
end
/-- The disk of one page that the laws begin with. -/
theorem one_any (s : ByteArray) (w : World) : Calls Try.prog 28 #[.string s] w fun e w' => ∃ g, e = .returned (.agg #[.slice (some ⟨g, 0, none⟩) 1 1, .slice none 0 0]) ∧ w'.heap[g]? = some (.cells #[.string s] 9 (0, 0)) ∧ Calm w w' := by
 go_enter Try.func28, Try.ntmps28
 generalize hQ0 : bodyPost Try.prog Try.f28 _ = Q0
 have HRET : Hid (∀ (a : Act) w' g, a.defers = [] → a.tmps.getD 2 undef = .pointer (some ⟨w.heap.size, 0, none⟩) → w'.heap[w.heap.size]? = some (.cells #[.slice (some ⟨g, 0, none⟩) 1 1, .slice none 0 0] 25 (0, 0)) → w'.heap[g]? = some (.cells #[.string s] 9 (0, 0)) → Calm w w' → Q0 .ret a w') := show ∀ _ _ _, _ from fun a w' g h0 h1 h2 h3 h4 => by
  rw [← hQ0]
  exact end_dk (p := 2) rfl rfl a w' w.heap.size _ _ (0, 0) h0 h1 h2 rfl ⟨g, rfl, h3, h4⟩
 clear hQ0
 go_wp2_with fail
 exact HRET.out _ _ (w.heap.size + 1) rfl rfl (heap_past _ (heap_new w _)) (by have := heap_new (w.alloc (.cells #[.slice (some ⟨w.heap.size + 1, 0, none⟩) 1 1, .slice none 0 0] 25)) (.cells #[.string s] 9); rw [World.size_alloc] at this; exact this) (((Calm.refl w).alloc _).alloc _)
theorem lies_one1 {w : World} {g : Nat} {s : ByteArray} (h : w.heap[g]? = some (.cells #[.string s] 9 (0, 0))) : HasD w (some ⟨g, 0, none⟩) none [s] [] :=
 ⟨fun _ => ⟨g, 0, rfl, (Array.getElem?_eq_some_iff.1 h).1, fun k x hk j hj => by
  have hk0 : k = 0 := by have := (List.getElem?_eq_some_iff.1 hk).1; simp at this; omega
  have hj0 : j = 0 := by omega
  subst hk0; subst hj0
  simp at hk; subst hk
  exact cell_of_row _ _ 0 _ _ _ h⟩, LiesG.nil_⟩
def ASync (L : List ByteArray) (n : Nat) (w : World) (e : Ending) (w' : World) : Prop := ∃ P cp, e = .returned (.tuple #[.agg #[.slice P n cp, .slice none 0 0], .int .i64 0]) ∧ OwnP w.heap.size w' (.slice P n cp) L ∧ Calm w w'
section
variable {w : World} {P Q : Option Addr} {l : List ByteArray} {m : List Wr}
theorem HasD.sync (h : HasD w P Q l m) (cp cq : Nat) (hz : dkErr l m = 0) : Calls Try.prog 15 #[.agg #[.slice P l.length cp, .slice Q m.length cq]] w (ASync (curP l m) l.length w) := by
 have hn := dk_len hz
 refine (diskSync_any P Q cp cq l m w h.p h.q hn.1 hn.2).mono fun e w' he => ?_
 rcases he with ⟨h2, -⟩ | ⟨-, v, h2, h3, h5⟩
 ·exact absurd hz h2
 ·obtain ⟨P', cp', rfl, -, -⟩ := OwnG.slice h3
  rw [doneL_len] at h2 h3
  exact ⟨P', cp', h2, h3, h5⟩
theorem HasD.crash (h : HasD w P Q l m) (cp cq : Nat) (hz : dkErr l m = 0) (A : Option Addr) (c : Nat) (K : List Bool) (hK : LiesO w A K) : Calls Try.prog 16 #[.agg #[.slice P l.length cp, .slice Q m.length cq], .slice A K.length c] w (ASync (doneL (selK K) 0 m l) l.length w) := by
 have hn := dk_len hz
 refine (diskCrash_any P Q cp cq l m A c K w h.p h.q hn.1 hn.2 hK).mono fun e w' he => ?_
 rcases he with ⟨h2, -⟩ | ⟨-, v, h2, h3, h5⟩
 ·exact absurd hz h2
 ·obtain ⟨P', cp', rfl, -, -⟩ := OwnG.slice h3
  rw [doneL_len] at h2 h3
  exact ⟨P', cp', h2, h3, h5⟩
end
theorem read_safe {w : World} {P : Option Addr} {n cp : Nat} {L : List ByteArray} (hP : LiesP w P L) (hn : L.length = n) (hz : dkErr L [] = 0) {k : Nat} {x : ByteArray} (hk : L[k]? = some x) : Calls Try.prog 13 #[.agg #[.slice P n cp, .slice none 0 0], .int .i64 k] w fun e w' => e = .returned (.tuple #[.string x, .int .i64 0]) ∧ Calm w w' := by
 subst hn
 exact HasD.rd (Q := none) (m := []) ⟨hP, LiesG.nil_⟩ cp 0 hz hk
theorem put_one (g : Nat) (u : World) (h : u.heap[g]? = some (.cells #[.string { data := #[97] }] 9 (0, 0))) : Calls Try.prog 14 #[.agg #[.slice (some ⟨g, 0, none⟩) 1 1, .slice none 0 0], .int .i64 0, .string { data := #[98] }] u fun e w' => ∃ P cp Q cq, e = .returned (.tuple #[.agg #[.slice P 1 cp, .slice Q 1 cq], .int .i64 0]) ∧ HasD w' P Q [{ data := #[97] }] [⟨0, { data := #[98] }⟩] ∧ Calm u w' :=
 ((lies_one1 h).put_ok 1 0 (i := 0) (s := { data := #[98] }) (by decide +kernel)).mono fun e w' ⟨P, cp, Q, cq, h1, h2, h3⟩ => ⟨P, cp, Q, cq, h1, h2.has, h3⟩
theorem read_one (P Q : Option Addr) (cp cq : Nat) (u : World) (h : HasD u P Q [{ data := #[97] }] [⟨0, { data := #[98] }⟩]) : Calls Try.prog 13 #[.agg #[.slice P 1 cp, .slice Q 1 cq], .int .i64 0] u fun e w' => e = .returned (.tuple #[.string { data := #[98] }, .int .i64 0]) ∧ Calm u w' :=
 h.rd cp cq (by decide +kernel) (k := 0) rfl
/-- Of a page: what was safe, or a write of it that was done. -/
theorem done_val {f : Nat → Bool} {n : Nat} : ∀ {ws : List Wr} {k0 : Nat} {ps : List ByteArray} {p T : ByteArray}, (∀ x ∈ ws, wrE ps.length x = 0) → ps[n]? = some p → (doneL f k0 ws ps)[n]? = some T → T = p ∨ ∃ j x, ws[j]? = some x ∧ x.i = (n : Int) ∧ T = x.s ∧ f (k0 + j) = true
 | [], k0, ps, p, T, _, h1, h2 => .inl (by have h2 : ps[n]? = some T := h2; rw [h1] at h2; exact (Option.some.inj h2).symm)
 |y :: ws, k0, ps, p, T, hw, h1, h2 => by
  have hy := wrE_zero.1 (hw y List.mem_cons_self)
  have h2 : (doneL f (k0 + 1) ws (if f k0 = true then ps.set y.i.toNat y.s else ps))[n]? = some T := h2
  have hn := (List.getElem?_eq_some_iff.1 h1).1
  by_cases hf : f k0 = true
  ·rw [if_pos hf] at h2
   by_cases hi : y.i = (n : Int)
   ·have h3 : (ps.set y.i.toNat y.s)[n]? = some y.s := by rw [List.getElem?_set, if_pos (by omega), if_pos (by omega)]
    rcases done_val (ws := ws) (fun x hx => by rw [List.length_set]; exact hw x (List.mem_cons_of_mem _ hx)) h3 h2 with h4 | ⟨j, x, h4, h5, h6, h7⟩
    ·exact .inr ⟨0, y, rfl, hi, h4, hf⟩
    ·exact .inr ⟨j + 1, x, h4, h5, h6, by rw [show k0 + (j + 1) = k0 + 1 + j by omega]; exact h7⟩
   ·have h3 : (ps.set y.i.toNat y.s)[n]? = some p := by rw [List.getElem?_set, if_neg (by omega)]; exact h1
    rcases done_val (ws := ws) (fun x hx => by rw [List.length_set]; exact hw x (List.mem_cons_of_mem _ hx)) h3 h2 with h4 | ⟨j, x, h4, h5, h6, h7⟩
    ·exact .inl h4
    ·exact .inr ⟨j + 1, x, h4, h5, h6, by rw [show k0 + (j + 1) = k0 + 1 + j by omega]; exact h7⟩
  ·rw [if_neg hf] at h2
   rcases done_val (ws := ws) (fun x hx => hw x (List.mem_cons_of_mem _ hx)) h1 h2 with h4 | ⟨j, x, h4, h5, h6, h7⟩
   ·exact .inl h4
   ·exact .inr ⟨j + 1, x, h4, h5, h6, by rw [show k0 + (j + 1) = k0 + 1 + j by omega]; exact h7⟩
theorem rdL_none {i : Int} : ∀ {ws : List Wr} {s : ByteArray}, (∀ x ∈ ws, x.i ≠ i) → rdL i ws s = s
 | [], _, _ => rfl
 |x :: ws, s, h => by
  show rdL i ws (if x.i = i then x.s else s) = s
  rw [if_neg (h x List.mem_cons_self)]
  exact rdL_none fun y hy => h y (List.mem_cons_of_mem _ hy)
open Go.RowKit
theorem ba_beq {s t : ByteArray} : (s.toList == t.toList) = true ↔ s = t := by
 constructor
 ·intro h
  by_cases e : s = t
  ·exact e
  ·rw [str_ne e] at h; cases h
 ·rintro rfl; simp
set_option maxHeartbeats 16000000 in
theorem dp_bad (P Q : Option Addr) (cp cq : Nat) (l : List ByteArray) (m : List Wr) (A : Option Addr) (c : Nat) (K : List Bool) (i : Int) (w : World) (hh : HasD w P Q l m) (hn : l.length ≤ 9223372036854775807) (hm : m.length ≤ 9223372036854775807) (h0 : dkErr l m ≠ 0) :
    Calls Try.prog 5 #[.agg #[.slice P l.length cp, .slice Q m.length cq], .slice A K.length c, .int .i64 i] w fun e w' => e = .returned (.bool true) ∧ Calm w w' := by
  have hx := heap_new w (.cells #[.slice P l.length cp, .slice Q m.length cq] 25)
  have hu := (Calm.refl w).alloc (.cells #[.slice P l.length cp, .slice Q m.length cq] 25)
  have cC := fun u (hu : Calm w u) => diskCheck_any P Q cp cq l m u (hh.calm hu).p (hh.calm hu).q hn hm
  have b1 : (dkErr l m != 0) = true := by rw [bne_iff_ne]; exact h0
  clear hh hn hm h0
  generalize dkErr l m = E at cC b1
  go_enter Try.func5, Try.ntmps5
  go_upto_region 1 with fail
  generalize w.alloc (.cells #[.slice P l.length cp, .slice Q m.length cq] 25) = w0 at hx hu ⊢
  obtain ⟨hx_0, hx_1, hx_s⟩ := rowD hx
  go_upto_region 5 with (first
      | (go_at_call 28; (with_reducible refine (one_any _ _).mono ?_); rintro e w1 ⟨g1, rfl, hg1, hk⟩; clear hx_0 hx_1 hx_s; replace hx := (hk.block (rowD hx).2.2).trans hx; replace hu := hu.call hk; clear hk; obtain ⟨hx_0, hx_1, hx_s⟩ := rowD hx)
      | (go_at_call 14; (with_reducible refine (put_one _ _ hg1).mono ?_); rintro e w2 ⟨P2, cp2, Q2, cq2, rfl, hd2, hk⟩; clear hg1; have HD2 := Lib.hid (hd2.calm ((Calm.refl _).alloc (.cells #[.slice P2 1 cp2, .slice Q2 1 cq2] 25))); clear hd2; clear hx_0 hx_1 hx_s; replace hx := (hk.block (rowD hx).2.2).trans hx; replace hu := hu.call hk; clear hk; obtain ⟨hx_0, hx_1, hx_s⟩ := rowD hx; clear hx_0 hx_1 hx_s; replace hx := heap_past (.cells #[.slice P2 1 cp2, .slice Q2 1 cq2] 25) hx; replace hu := hu.alloc (.cells #[.slice P2 1 cp2, .slice Q2 1 cq2] 25); have hX := heap_new w2 (.cells #[.slice P2 1 cp2, .slice Q2 1 cq2] 25); obtain ⟨hx_0, hx_1, hx_s⟩ := rowD hx; obtain ⟨hX_0, hX_1, hX_s⟩ := rowD hX)
      | (go_at_call 13; (with_reducible refine (read_one _ _ _ _ _ HD2.out).mono ?_); rintro e w3 ⟨rfl, hk⟩; clear HD2; clear hx_0 hx_1 hx_s; clear hX_0 hX_1 hX_s; replace hx := (hk.block (rowD hx).2.2).trans hx; replace hX := (hk.block (rowD hX).2.2).trans hX; replace hu := hu.call hk; clear hk; obtain ⟨hx_0, hx_1, hx_s⟩ := rowD hx; obtain ⟨hX_0, hX_1, hX_s⟩ := rowD hX))
  clear hx_0 hx_1 hx_s; clear hX_0 hX_1 hX_s
  clear hX
  obtain ⟨hx_0, hx_1, hx_s⟩ := rowD hx
  go_wp2_with (go_at_call 18; (with_reducible refine (cC _ hu).mono ?_); rintro e w4 ⟨rfl, hk⟩; clear hx_0 hx_1 hx_s; replace hx := (hk.block (rowD hx).2.2).trans hx; replace hu := hu.call hk; clear hk; obtain ⟨hx_0, hx_1, hx_s⟩ := rowD hx)
  go_ret
  exact ⟨rfl, hu⟩
set_option maxHeartbeats 16000000 in
theorem dp_empty (P Q : Option Addr) (cp cq : Nat) (l : List ByteArray) (m : List Wr) (A : Option Addr) (c : Nat) (K : List Bool) (i : Int) (w : World) (hh : HasD w P Q l m) (h0 : dkErr l m = 0) (hl : l.length = 0) :
    Calls Try.prog 5 #[.agg #[.slice P l.length cp, .slice Q m.length cq], .slice A K.length c, .int .i64 i] w fun e w' => e = .returned (.bool true) ∧ Calm w w' := by
  have hx := heap_new w (.cells #[.slice P l.length cp, .slice Q m.length cq] 25)
  have hu := (Calm.refl w).alloc (.cells #[.slice P l.length cp, .slice Q m.length cq] 25)
  obtain rfl : l = [] := List.length_eq_zero_iff.1 hl
  have cC := fun u (hu : Calm w u) => diskCheck_any P Q cp cq [] m u (hh.calm hu).p (hh.calm hu).q (dk_len h0).1 (dk_len h0).2
  rw [h0] at cC
  clear hh h0 hl
  simp only [List.length_nil] at hx hu cC ⊢
  go_enter Try.func5, Try.ntmps5
  go_upto_region 1 with fail
  generalize w.alloc (.cells #[.slice P 0 cp, .slice Q m.length cq] 25) = w0 at hx hu ⊢
  obtain ⟨hx_0, hx_1, hx_s⟩ := rowD hx
  go_upto_region 5 with (first
      | (go_at_call 28; (with_reducible refine (one_any _ _).mono ?_); rintro e w1 ⟨g1, rfl, hg1, hk⟩; clear hx_0 hx_1 hx_s; replace hx := (hk.block (rowD hx).2.2).trans hx; replace hu := hu.call hk; clear hk; obtain ⟨hx_0, hx_1, hx_s⟩ := rowD hx)
      | (go_at_call 14; (with_reducible refine (put_one _ _ hg1).mono ?_); rintro e w2 ⟨P2, cp2, Q2, cq2, rfl, hd2, hk⟩; clear hg1; have HD2 := Lib.hid (hd2.calm ((Calm.refl _).alloc (.cells #[.slice P2 1 cp2, .slice Q2 1 cq2] 25))); clear hd2; clear hx_0 hx_1 hx_s; replace hx := (hk.block (rowD hx).2.2).trans hx; replace hu := hu.call hk; clear hk; obtain ⟨hx_0, hx_1, hx_s⟩ := rowD hx; clear hx_0 hx_1 hx_s; replace hx := heap_past (.cells #[.slice P2 1 cp2, .slice Q2 1 cq2] 25) hx; replace hu := hu.alloc (.cells #[.slice P2 1 cp2, .slice Q2 1 cq2] 25); have hX := heap_new w2 (.cells #[.slice P2 1 cp2, .slice Q2 1 cq2] 25); obtain ⟨hx_0, hx_1, hx_s⟩ := rowD hx; obtain ⟨hX_0, hX_1, hX_s⟩ := rowD hX)
      | (go_at_call 13; (with_reducible refine (read_one _ _ _ _ _ HD2.out).mono ?_); rintro e w3 ⟨rfl, hk⟩; clear HD2; clear hx_0 hx_1 hx_s; clear hX_0 hX_1 hX_s; replace hx := (hk.block (rowD hx).2.2).trans hx; replace hX := (hk.block (rowD hX).2.2).trans hX; replace hu := hu.call hk; clear hk; obtain ⟨hx_0, hx_1, hx_s⟩ := rowD hx; obtain ⟨hX_0, hX_1, hX_s⟩ := rowD hX))
  clear hx_0 hx_1 hx_s; clear hX_0 hX_1 hX_s
  clear hX
  obtain ⟨hx_0, hx_1, hx_s⟩ := rowD hx
  go_wp2_with (go_at_call 18; (with_reducible refine (cC _ hu).mono ?_); rintro e w4 ⟨rfl, hk⟩; clear hx_0 hx_1 hx_s; replace hx := (hk.block (rowD hx).2.2).trans hx; replace hu := hu.call hk; clear hk; obtain ⟨hx_0, hx_1, hx_s⟩ := rowD hx)
  go_ret
  exact ⟨rfl, hu⟩
set_option maxHeartbeats 16000000 in
theorem dp_main (P Q : Option Addr) (cp cq : Nat) (l : List ByteArray) (m : List Wr) (A : Option Addr) (c : Nat) (K : List Bool) (i : Int) (w : World) (hh : HasD w P Q l m) (hK : LiesO w A K) (hK_n : K.length ≤ 9223372036854775807) (h0 : dkErr l m = 0) (hl : 0 < l.length) :
    Calls Try.prog 5 #[.agg #[.slice P l.length cp, .slice Q m.length cq], .slice A K.length c, .int .i64 i] w fun e w' => e = .returned (.bool true) ∧ Calm w w' := by
  have hx := heap_new w (.cells #[.slice P l.length cp, .slice Q m.length cq] 25)
  have hu := (Calm.refl w).alloc (.cells #[.slice P l.length cp, .slice Q m.length cq] 25)
  have cC := fun u (hu : Calm w u) => diskCheck_any P Q cp cq l m u (hh.calm hu).p (hh.calm hu).q (dk_len h0).1 (dk_len h0).2
  rw [h0] at cC
  have hn := (dk_len h0).1
  have hm4 := (dkErr_zero.1 h0).2.1
  obtain ⟨n, hnl, hWi⟩ := within_any i l.length hl (by omega)
  obtain ⟨p, hp⟩ : ∃ p, l[n]? = some p := ⟨_, List.getElem?_eq_getElem hnl⟩
  have cR := fun u (hu : Calm w u) => (hh.calm hu).rd cp cq h0 hp
  have cS := fun u (hu : Calm w u) => (hh.calm hu).sync cp cq h0
  have cK := fun u (hu : Calm w u) => (hh.calm hu).crash cp cq h0 A c K (hK.calm hu)
  have hWS := (dkErr_zero.1 h0).2.2.2
  have hs : (curP l m)[n]? = some (rdL (n : Int) m p) := done_read rfl hWS n p hp
  have hcl : (curP l m).length = l.length := doneL_len _ _ _ _
  have hce := done_err (fun _ => true) h0
  have cRS := fun u (P3 : Option Addr) cp3 B (ho : OwnP B u (.slice P3 l.length cp3) (curP l m)) => read_safe (cp := cp3) (OwnP.at_ ho).2 hcl hce hs
  obtain ⟨T, hT⟩ : ∃ T, (doneL (selK K) 0 m l)[n]? = some T := ⟨_, List.getElem?_eq_getElem (by rw [doneL_len]; exact hnl)⟩
  have hke := done_err (selK K) h0
  have cRK := fun u (P3 : Option Addr) cp3 B (ho : OwnP B u (.slice P3 l.length cp3) (doneL (selK K) 0 m l)) => read_safe (cp := cp3) (OwnP.at_ ho).2 (doneL_len _ _ _ _) hke hT
  have HV := Lib.hid (done_val hWS hp hT)
  have HN := Lib.hid (fun h => rdL_none (i := (n : Int)) (ws := m) (s := p) h)
  have HP := Lib.hid hp
  have HH := Lib.hid hh
  have HK := Lib.hid hK
  have hkn := hK_n
  clear hWS hs hcl hce hT hke hp hh hK h0
  generalize curP l m = LS at cS cRS
  generalize doneL (selK K) 0 m l = LK at cK cRK
  generalize hS : rdL (n : Int) m p = S at cR cRS HN
  clear hS
  go_enter Try.func5, Try.ntmps5
  go_upto_region 1 with fail
  generalize w.alloc (.cells #[.slice P l.length cp, .slice Q m.length cq] 25) = w0 at hx hu ⊢
  obtain ⟨hx_0, hx_1, hx_s⟩ := rowD hx
  go_upto_region 5 with (first
      | (go_at_call 28; (with_reducible refine (one_any _ _).mono ?_); rintro e w1 ⟨g1, rfl, hg1, hk⟩; clear hx_0 hx_1 hx_s; replace hx := (hk.block (rowD hx).2.2).trans hx; replace hu := hu.call hk; clear hk; obtain ⟨hx_0, hx_1, hx_s⟩ := rowD hx)
      | (go_at_call 14; (with_reducible refine (put_one _ _ hg1).mono ?_); rintro e w2 ⟨P2, cp2, Q2, cq2, rfl, hd2, hk⟩; clear hg1; have HD2 := Lib.hid (hd2.calm ((Calm.refl _).alloc (.cells #[.slice P2 1 cp2, .slice Q2 1 cq2] 25))); clear hd2; clear hx_0 hx_1 hx_s; replace hx := (hk.block (rowD hx).2.2).trans hx; replace hu := hu.call hk; clear hk; obtain ⟨hx_0, hx_1, hx_s⟩ := rowD hx; clear hx_0 hx_1 hx_s; replace hx := heap_past (.cells #[.slice P2 1 cp2, .slice Q2 1 cq2] 25) hx; replace hu := hu.alloc (.cells #[.slice P2 1 cp2, .slice Q2 1 cq2] 25); have hX := heap_new w2 (.cells #[.slice P2 1 cp2, .slice Q2 1 cq2] 25); obtain ⟨hx_0, hx_1, hx_s⟩ := rowD hx; obtain ⟨hX_0, hX_1, hX_s⟩ := rowD hX)
      | (go_at_call 13; (with_reducible refine (read_one _ _ _ _ _ HD2.out).mono ?_); rintro e w3 ⟨rfl, hk⟩; clear HD2; clear hx_0 hx_1 hx_s; clear hX_0 hX_1 hX_s; replace hx := (hk.block (rowD hx).2.2).trans hx; replace hX := (hk.block (rowD hX).2.2).trans hX; replace hu := hu.call hk; clear hk; obtain ⟨hx_0, hx_1, hx_s⟩ := rowD hx; obtain ⟨hX_0, hX_1, hX_s⟩ := rowD hX))
  clear hx_0 hx_1 hx_s; clear hX_0 hX_1 hX_s
  clear hX
  obtain ⟨hx_0, hx_1, hx_s⟩ := rowD hx
  go_upto_region 17 with (first
      | (go_at_call 18; (with_reducible refine (cC _ hu).mono ?_); rintro e w4 ⟨rfl, hk⟩; clear hx_0 hx_1 hx_s; replace hx := (hk.block (rowD hx).2.2).trans hx; replace hu := hu.call hk; clear hk; obtain ⟨hx_0, hx_1, hx_s⟩ := rowD hx)
      | (go_at_call 29; (with_reducible refine (hWi _).mono ?_); rintro e w4 ⟨rfl, rfl⟩)
      | (go_at_call 13; (with_reducible refine (cR _ hu).mono ?_); rintro e w5 ⟨rfl, hk⟩; clear cR; clear hx_0 hx_1 hx_s; replace hx := (hk.block (rowD hx).2.2).trans hx; replace hu := hu.call hk; clear hk; obtain ⟨hx_0, hx_1, hx_s⟩ := rowD hx)
      | (go_at_call 15; (with_reducible refine (cS _ hu).mono ?_); rintro e w6 ⟨P6, cp6, rfl, ho6, hk⟩; clear cS; have HO6 := Lib.hid (ho6.calm ((Calm.refl _).alloc (.cells #[.slice P6 l.length cp6, .slice none 0 0] 25))); clear ho6; clear hx_0 hx_1 hx_s; replace hx := (hk.block (rowD hx).2.2).trans hx; replace hu := hu.call hk; clear hk; obtain ⟨hx_0, hx_1, hx_s⟩ := rowD hx; clear hx_0 hx_1 hx_s; replace hx := heap_past (.cells #[.slice P6 l.length cp6, .slice none 0 0] 25) hx; replace hu := hu.alloc (.cells #[.slice P6 l.length cp6, .slice none 0 0] 25); have hA := heap_new w6 (.cells #[.slice P6 l.length cp6, .slice none 0 0] 25); obtain ⟨hx_0, hx_1, hx_s⟩ := rowD hx; obtain ⟨hA_0, hA_1, hA_s⟩ := rowD hA)
      | (go_at_call 16; (with_reducible refine (cK _ hu).mono ?_); rintro e w7 ⟨P7, cp7, rfl, ho7, hk⟩; clear cK; have HO7 := Lib.hid (ho7.calm ((Calm.refl _).alloc (.cells #[.slice P7 l.length cp7, .slice none 0 0] 25))); clear ho7; clear hx_0 hx_1 hx_s; clear hA_0 hA_1 hA_s; replace hx := (hk.block (rowD hx).2.2).trans hx; replace hA := (hk.block (rowD hA).2.2).trans hA; replace HO6 := Lib.hid (HO6.out.calm hk); replace hu := hu.call hk; clear hk; obtain ⟨hx_0, hx_1, hx_s⟩ := rowD hx; obtain ⟨hA_0, hA_1, hA_s⟩ := rowD hA; clear hx_0 hx_1 hx_s; clear hA_0 hA_1 hA_s; replace hx := heap_past (.cells #[.slice P7 l.length cp7, .slice none 0 0] 25) hx; replace hA := heap_past (.cells #[.slice P7 l.length cp7, .slice none 0 0] 25) hA; replace HO6 := Lib.hid (HO6.out.calm ((Calm.refl _).alloc (.cells #[.slice P7 l.length cp7, .slice none 0 0] 25))); replace hu := hu.alloc (.cells #[.slice P7 l.length cp7, .slice none 0 0] 25); have hB := heap_new w7 (.cells #[.slice P7 l.length cp7, .slice none 0 0] 25); obtain ⟨hx_0, hx_1, hx_s⟩ := rowD hx; obtain ⟨hA_0, hA_1, hA_s⟩ := rowD hA; obtain ⟨hB_0, hB_1, hB_s⟩ := rowD hB)
      | (go_at_call 13; (with_reducible refine (cRS _ _ _ _ HO6.out).mono ?_); rintro e w8 ⟨rfl, hk⟩; clear HO6 cRS; clear hx_0 hx_1 hx_s; clear hA_0 hA_1 hA_s; clear hB_0 hB_1 hB_s; replace hx := (hk.block (rowD hx).2.2).trans hx; replace hA := (hk.block (rowD hA).2.2).trans hA; replace hB := (hk.block (rowD hB).2.2).trans hB; replace HO7 := Lib.hid (HO7.out.calm hk); replace hu := hu.call hk; clear hk; obtain ⟨hx_0, hx_1, hx_s⟩ := rowD hx; obtain ⟨hA_0, hA_1, hA_s⟩ := rowD hA; obtain ⟨hB_0, hB_1, hB_s⟩ := rowD hB)
      | (go_at_call 13; (with_reducible refine (cRK _ _ _ _ HO7.out).mono ?_); rintro e w9 ⟨rfl, hk⟩; clear HO7 cRK; clear hx_0 hx_1 hx_s; clear hA_0 hA_1 hA_s; clear hB_0 hB_1 hB_s; replace hx := (hk.block (rowD hx).2.2).trans hx; replace hA := (hk.block (rowD hA).2.2).trans hA; replace hB := (hk.block (rowD hB).2.2).trans hB; replace hu := hu.call hk; clear hk; obtain ⟨hx_0, hx_1, hx_s⟩ := rowD hx; obtain ⟨hA_0, hA_1, hA_s⟩ := rowD hA; obtain ⟨hB_0, hB_1, hB_s⟩ := rowD hB))
  have hpz : (n : Int) < (l.length : Int) := by omega
  obtain ⟨bP, qP, pP, rfl, hbP, HEP, zP⟩ := (HH.out.p.calm hu).get hnl
  obtain rfl : pP = p := by have := HP.out; rw [HEP.out] at this; exact Option.some.inj this
  clear HEP
  go_wp2_with fail
  clear hx_0 hx_1 hx_s; clear hA_0 hA_1 hA_s; clear hB_0 hB_1 hB_s
  clear hA hB
  have HX := Lib.hid hx
  clear hx hbP zP
  generalize w9 = w10 at hu HX ⊢
  have HX10 := HX
  go_loopw [144, 18, 19, 20, 21] (fun n' ok some_ _ _ wr => ∃ (k : Nat) (b c' : Bool), k ≤ m.length ∧ n' = .int .i64 k ∧ ok = .bool b ∧ some_ = .bool c' ∧ Calm w wr ∧ Calm w10 wr ∧ Hid (b = true ↔ (T = pP ∨ ∃ j x, j < k ∧ m[j]? = some x ∧ x.i = (n : Int) ∧ T = x.s ∧ selK K j = true)) ∧ Hid (c' = true ↔ ∃ j x, j < k ∧ m[j]? = some x ∧ x.i = (n : Int))) (fun n' _ _ _ _ _ => m.length - (intOf n').toNat)
  case atStart => exact ⟨0, (T.toList == pP.toList), false, Nat.zero_le _, rfl, rfl, rfl, hu, Calm.refl _, ⟨fun h => .inl (ba_beq.1 h), fun h => h.elim ba_beq.2 fun ⟨j, x, h, _⟩ => absurd h (Nat.not_lt_zero _)⟩, ⟨fun h => (by cases h), fun ⟨j, x, h, _⟩ => absurd h (Nat.not_lt_zero _)⟩⟩
  case round =>
    obtain ⟨k, b, c', hkm, rfl, rfl, rfl, hv, hv7, HB, HC⟩ := hrel
    by_cases hlt : k < m.length
    rotate_left
    · have hb : b = true := HB.out.2 (HV.out.imp id fun ⟨j, x, h1, h2, h3, h4⟩ => ⟨j, x, by have := (List.getElem?_eq_some_iff.1 h1).1; omega, h1, h2, h3, by rw [Nat.zero_add] at h4; exact h4⟩)
      have hS : c' = false → S = pP := fun hc => HN.out fun x hx hi => by
        obtain ⟨j, hj⟩ := List.getElem?_of_mem hx
        have := HC.out.2 ⟨j, x, by have := (List.getElem?_eq_some_iff.1 hj).1; omega, hj, hi⟩
        rw [hc] at this; cases this
      subst hb
      have hx := (hv7.block (rowD HX10.out).2.2).trans HX10.out
      obtain ⟨x0, x1, hxs⟩ := rowD hx
      obtain ⟨bP', qP', pP', hA', hbP, HEP, zP⟩ := (HH.out.p.calm hv).get hnl
      obtain ⟨rfl, rfl⟩ : bP = bP' ∧ qP = qP' := by simpa using hA'
      obtain rfl : pP = pP' := by have := HP.out; rw [HEP.out] at this; exact (Option.some.inj this).symm
      clear HB HC HV HN HP HH HX HX10 hA' HEP hx
      cases c'
      · obtain rfl := hS rfl
        clear hS
        go_wp2_with fail
        go_ret
        exact ⟨ret_bool (by simp), hv⟩
      · clear hS
        go_wp2_with fail
        go_ret
        exact ⟨rfl, hv⟩
    obtain ⟨b1, q1, x1, s1, rfl, hb1, HE1, c0, c1⟩ := (HH.out.q.calm hv).get hlt
    have HBk : ∀ b', (b' = true ↔ (b = true ∨ (x1 = (n : Int) ∧ T = s1 ∧ selK K k = true))) → Hid (b' = true ↔ (T = pP ∨ ∃ j x, j < k + 1 ∧ m[j]? = some x ∧ x.i = (n : Int) ∧ T = x.s ∧ selK K j = true)) := fun b' hb' => show _ ↔ _ from by
      rw [hb', HB.out]
      constructor
      · rintro ((h | ⟨j, x, h1, h2⟩) | ⟨h1, h2, h3⟩)
        · exact .inl h
        · exact .inr ⟨j, x, by omega, h2⟩
        · exact .inr ⟨k, _, by omega, HE1.out, h1, h2, h3⟩
      · rintro (h | ⟨j, x, h1, h2, h3, h4, h5⟩)
        · exact .inl (.inl h)
        · rcases Nat.lt_or_ge j k with h6 | h6
          · exact .inl (.inr ⟨j, x, h6, h2, h3, h4, h5⟩)
          · obtain rfl : j = k := by omega
            rw [HE1.out] at h2
            obtain rfl := Option.some.inj h2
            exact .inr ⟨h3, h4, h5⟩
    have HCk : ∀ c'', (c'' = true ↔ (c' = true ∨ x1 = (n : Int))) → Hid (c'' = true ↔ ∃ j x, j < k + 1 ∧ m[j]? = some x ∧ x.i = (n : Int)) := fun c'' hc'' => show _ ↔ _ from by
      rw [hc'', HC.out]
      constructor
      · rintro (⟨j, x, h1, h2⟩ | h1)
        · exact ⟨j, x, by omega, h2⟩
        · exact ⟨k, _, by omega, HE1.out, h1⟩
      · rintro ⟨j, x, h1, h2, h3⟩
        rcases Nat.lt_or_ge j k with h6 | h6
        · exact .inl ⟨j, x, h6, h2, h3⟩
        · obtain rfl : j = k := by omega
          rw [HE1.out] at h2
          obtain rfl := Option.some.inj h2
          exact .inr h3
    by_cases hi : x1 = (n : Int)
    rotate_left
    · have HBk := HBk b ⟨.inl, fun h => h.elim id fun h => absurd h.1 hi⟩
      have HCk := HCk c' ⟨.inl, fun h => h.elim id fun h => absurd h hi⟩
      clear HB HC HE1 HV HN HP HX HX10
      go_wp2_with fail
      go_roundw
      case rel => exact ⟨k + 1, b, c', by omega, by go_num, rfl, rfl, hv.alloc _, hv7.alloc _, HBk, HCk⟩
      case measure => simp [intOf]; omega
    subst hi
    have HCk := HCk true ⟨fun _ => .inr rfl, fun _ => rfl⟩
    cases b
    rotate_left
    · have HBk := HBk true ⟨fun _ => .inl rfl, fun _ => rfl⟩
      clear HB HC HE1 HV HN HP HX HX10
      go_wp2_with fail
      go_roundw
      case rel => exact ⟨k + 1, true, true, by omega, by go_num, rfl, rfl, hv.alloc _, hv7.alloc _, HBk, HCk⟩
      case measure => simp [intOf]; omega
    by_cases hTs : T = s1
    rotate_left
    · have HBk := HBk false ⟨fun h => (by cases h), fun h => h.elim (fun h => by cases h) fun h => absurd h.2.1 hTs⟩
      have hs1 : (T.toList == s1.toList) = false := str_ne hTs
      clear HB HC HE1 HV HN HP HX HX10 hTs
      go_wp2_with fail
      go_roundw
      case rel => exact ⟨k + 1, false, true, by omega, by go_num, rfl, rfl, hv.alloc _, hv7.alloc _, HBk, HCk⟩
      case measure => simp [intOf]; omega
    by_cases hkK : k < K.length
    rotate_left
    · have hsel : selK K k = false := by unfold selK; rw [decide_eq_false hkK]; rfl
      have HB2 := HBk false ⟨fun h => (by cases h), fun h => h.elim (fun h => by cases h) fun h => by rw [hsel] at h; exact absurd h.2.2 (by decide)⟩
      have hkz : ¬ (k : Int) < (K.length : Int) := by omega
      subst hTs
      clear HB HC HE1 HV HN HP HX HX10 hsel hkK
      go_wp2_with fail
      go_roundw
      case rel => exact ⟨k + 1, false, true, by omega, by go_num, rfl, rfl, hv.alloc _, hv7.alloc _, HB2, HCk⟩
      case measure => simp [intOf]; omega
    · obtain ⟨bK, qK, sK, rfl, hbK, HEK, zK⟩ := (HK.out.calm hv).get hkK
      have hsel : selK K k = sK := by unfold selK; rw [decide_eq_true hkK, List.getD_eq_getElem?_getD, HEK.out]; rfl
      have HB2 := HBk sK ⟨fun h => .inr ⟨rfl, hTs, hsel.trans h⟩, fun h => h.elim (fun h => by cases h) fun h => hsel.symm.trans h.2.2⟩
      have hkz : (k : Int) < (K.length : Int) := by omega
      subst hTs
      clear HB HC HE1 HV HN HP HX HX10 hsel HEK
      go_wp2_with fail
      go_roundw
      case rel => exact ⟨k + 1, sK, true, by omega, by go_num, rfl, rfl, hv.alloc _, hv7.alloc _, HB2, HCk⟩
      case measure => simp [intOf]; omega
theorem diskPages_walk (P Q : Option Addr) (cp cq : Nat) (l : List ByteArray) (m : List Wr) (A : Option Addr) (c : Nat) (K : List Bool) (i : Int) (w : World) (hh : HasD w P Q l m) (hn : l.length ≤ 9223372036854775807) (hm : m.length ≤ 9223372036854775807) (hK : LiesO w A K) (hK_n : K.length ≤ 9223372036854775807) :
    Calls Try.prog 5 #[.agg #[.slice P l.length cp, .slice Q m.length cq], .slice A K.length c, .int .i64 i] w fun e w' => e = .returned (.bool true) ∧ Calm w w' := by
  by_cases h0 : dkErr l m = 0
  rotate_left
  · exact dp_bad P Q cp cq l m A c K i w hh hn hm h0
  by_cases hl : l.length = 0
  · exact dp_empty P Q cp cq l m A c K i w hh h0 hl
  · exact dp_main P Q cp cq l m A c K i w hh hK hK_n h0 (by omega)
end Go.Proofs.Ytkppoapjifeifaa
