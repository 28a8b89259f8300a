/- A statement whose order of evaluation is open and that stores once, a whole struct, into a block that was there: walked once by a plan. -/
import Derived.Test.YtimfjjnlbfcccaaRegion
namespace Go.Proofs.Ytimfjjnlbfcccaa
open Go.RowKit
section
variable {P : Program} {ops : Array Oper} {w0 : World} {F g : Nat} {z : Array Value} {t : TypeId}

/-- What is asked of one operation: it only reads, or is guarded off, or is the one store. -/
def Does.fitsO (P : Program) (ops : Array Oper) (w0 : World) (F g : Nat) (z : Array Value) (t : TypeId) (o : Oper) (a : Act) : Does → Prop
  | .val v => Region.wanted o (yielded ops a.tmps) = true ∧ ∀ w, Below F w0 w → Oper.quietUpon P (Calm w) w v ((execOp a.eval o).run P w)
  | .idle => Region.wanted o (yielded ops a.tmps) = false
  | .fill _ cs => Region.wanted o (yielded ops a.tmps) = true ∧ o.dst = none ∧
      ∀ w, w.heap[g]? = some (.cells z t (0, 0)) → (execOp a.eval o).run P w = .ok .skip (w.setRow g cs)
  | _ => False
def PlanO (P : Program) (ops : Array Oper) (w0 : World) (F g : Nat) (z : Array Value) (t : TypeId) (R : Act → Prop) : Nat → List Oper → List Does → Act → Prop
  | _, [], [], a => R a
  | i, o :: os, d :: ds, a => d.fitsO P ops w0 F g z t o a ∧ PlanO P ops w0 F g z t R (i + 1) os ds (a.put o.dst (d.out (fun _ => 0) i))
  | _, _, _, _ => False
def oneFillB (p : List Does) (s : Nat) : Bool := (List.range p.length).all fun j => j == s || match p[j]? with | some (.fill _ _) => false | _ => true
theorem oneFillB_spec {p : List Does} {s : Nat} (h : oneFillB p s = true) {j k : Nat} {cs : Array Value} (hj : p[j]? = some (.fill k cs)) : j = s := by
  have hlt : j < p.length := (List.getElem?_eq_some_iff.1 hj).1
  have := List.all_eq_true.1 h j (List.mem_range.2 hlt)
  rw [hj] at this
  simpa using this

theorem planO_get {p : List Does} {a0 : Act} {R : Act → Prop} (hs : Sound ops) : ∀ (os : List Oper) (ds : List Does) (i : Nat) (a : Act), os = ops.toList.drop i → ds = p.drop i →
    Agree ops p a0 (fun _ => 0) (· < i) a → PlanO P ops w0 F g z t R i os ds a →
    (∀ j o, i ≤ j → ops[j]? = some o → ∃ d b, p[j]? = some d ∧ Agree ops p a0 (fun _ => 0) (· < j) b ∧ d.fitsO P ops w0 F g z t o b) ∧ (∃ b, Agree ops p a0 (fun _ => 0) (· < ops.size) b ∧ R b) ∧ (i ≤ ops.size → i ≤ p.length → p.length = ops.size)
  | [], [], i, a, hos, hds, ha, h => by
    have hl : ops.size ≤ i := by have := congrArg List.length hos; simp at this; omega
    refine ⟨fun j o hj hoj => ?_, ⟨a, ⟨ha.defers, ha.size, fun k o d t ho hd hk ht hlt => ha.put k o d t ho hd (by omega) ht hlt, fun t ht => ha.old t fun k o ho hk => ht k o ho ?_⟩, h⟩, fun hi hi2 => ?_⟩
    · have := (Array.getElem?_eq_some_iff.1 hoj).1; omega
    · exact (Array.getElem?_eq_some_iff.1 ho).1
    · have := congrArg List.length hds; simp at this; omega
  | [], d :: ds, i, a, _, _, _, h => absurd h (by simp [PlanO])
  | o :: os, [], i, a, _, _, _, h => absurd h (by simp [PlanO])
  | o :: os, d :: ds, i, a, hos, hds, ha, h => by
    have hlen : i < ops.size := by have := congrArg List.length hos; simp at this; omega
    have ho : ops[i]? = some o := by
      have := congrArg (·[0]?) hos
      simpa using this.symm
    have hd : p[i]? = some d := by
      have := congrArg (·[0]?) hds
      simpa using this.symm
    have hos' : os = ops.toList.drop (i + 1) := by rw [← List.tail_drop, ← hos]; rfl
    have hds' : ds = p.drop (i + 1) := by rw [← List.tail_drop, ← hds]; rfl
    obtain ⟨h1, h2⟩ := h
    have hplen : i < p.length := by have := congrArg List.length hds; simp at this; omega
    obtain ⟨g1, g2, g3⟩ := planO_get hs os ds (i + 1) (a.put o.dst (d.out (fun _ => 0) i)) hos' hds' (ha.step hs ho hd (fun k => by omega)) h2
    refine ⟨fun j oj hj hoj => ?_, g2, fun _ _ => g3 (by omega) (by omega)⟩
    rcases Nat.eq_or_lt_of_le hj with rfl | hj
    · rw [ho] at hoj; cases hoj
      exact ⟨d, a, hd, ha, h1⟩
    · exact g1 j oj hj hoj

structure InvO (ops : Array Oper) (p : List Does) (a0 : Act) (w0 : World) (F g s : Nat) (z cs : Array Value) (t : TypeId) (listed : Array Bool) (a : Act) (w : World) : Prop where
  size : listed.size = ops.size
  act : Agree ops p a0 (fun _ => 0) (fun i => listed.getD i false = true) a
  low : Below F w0 w
  row : w.heap[g]? = some (.cells (if listed.getD s false then cs else z) t (0, 0))

theorem InvO.step {p : List Does} {a0 : Act} {R : Act → Prop} {Q : Exit → Act → World → Prop} {s : Nat} {cs : Array Value} (hs : Sound ops) (hone : oneFillB p s = true) (hcs : p[s]? = some (.fill 0 cs)) (hF : F ≤ w0.heap.size) (hg : F ≤ g)
    (hp : PlanO P ops w0 F g z t R 0 ops.toList p a0) {listed : Array Bool} {a : Act} {w : World} {j : Nat} (h : InvO ops p a0 w0 F g s z cs t listed a w) (hj : j ∈ Region.ready .any ops listed) :
    wpOp P ops Q j (fun a' w' => InvO ops p a0 w0 F g s z cs t (listed.setIfInBounds j true) a' w') a w := by
  obtain ⟨hun, o, ho, hall⟩ := mem_ready.1 hj
  have hjs : j < listed.size := by rw [h.size]; exact (Array.getElem?_eq_some_iff.1 ho).1
  have hnl : listed.getD j false = false := by
    rw [Array.getD_eq_getD_getElem?] at hun ⊢
    rw [Array.getElem?_eq_getElem hjs] at hun ⊢
    simpa using hun
  obtain ⟨g1, _, g3⟩ := planO_get hs ops.toList p 0 a0 rfl rfl ⟨rfl, rfl, fun i o d t _ _ hi => absurd hi (Nat.not_lt_zero _), fun t _ => rfl⟩ hp
  obtain ⟨d, b, hd, hb, hfit⟩ := g1 j o (Nat.zero_le _) ho
  have hlook : ∀ t ∈ o.looksAt ops, a.tmps[t]? = b.tmps[t]? := fun t ht => by
    by_cases hw : ∃ (i : Nat) (x : Oper), ops[i]? = some x ∧ x.dst = some t
    · obtain ⟨i, x, hx, hxt⟩ := hw
      obtain ⟨hij, e, he, hbe, rfl⟩ := hs.looks j i o x t ho hx hxt ht
      have hli := hall e he hbe
      have hpi : ∃ di, p[e.on]? = some di := by
        have := g3 (Nat.zero_le _) (Nat.zero_le _)
        have hlt : e.on < p.length := by rw [this]; exact (Array.getElem?_eq_some_iff.1 hx).1
        exact ⟨p[e.on], List.getElem?_eq_getElem hlt⟩
      obtain ⟨di, hdi⟩ := hpi
      by_cases hlt : t < a0.tmps.size
      · rw [h.act.put e.on x di t hx hdi hli hxt hlt, hb.put e.on x di t hx hdi hij hxt hlt]
      · have e1 : a.tmps[t]? = none := Array.getElem?_eq_none (by rw [h.act.size]; exact Nat.le_of_not_lt hlt)
        have e2 : b.tmps[t]? = none := Array.getElem?_eq_none (by rw [hb.size]; exact Nat.le_of_not_lt hlt)
        rw [e1, e2]
    · have hno : ∀ (i : Nat) (x : Oper), ops[i]? = some x → x.dst ≠ some t := fun i x hx hxt => hw ⟨i, x, hx, hxt⟩
      rw [h.act.old t fun i x hx _ => hno i x hx, hb.old t fun i x hx _ => hno i x hx]
  obtain ⟨hex, hwant⟩ := same_look (hs.noSelect j o · · ho) hlook
  have hact : Agree ops p a0 (fun _ => 0) (fun i => (listed.setIfInBounds j true).getD i false = true) (a.put o.dst (d.out (fun _ => 0) j)) := h.act.step hs ho hd fun i => getD_set_iff hjs
  have hsz := Below.size h.low
  have hgl : g < w.heap.size := (Array.getElem?_eq_some_iff.1 h.row).1
  have fin : j ≠ s → ∀ w', Calm w w' → InvO ops p a0 w0 F g s z cs t (listed.setIfInBounds j true) (a.put o.dst (d.out (fun _ => 0) j)) w' := fun hjs2 w' hw' => by
    refine ⟨by simp [h.size], hact, Below.trans h.low (Below.mono hw' (by omega)), ?_⟩
    rw [hw'.block hgl, h.row, getD_set_ne false hjs2]
  unfold wpOp
  simp only [ho]
  have hns : (∀ k cs', d ≠ .fill k cs') → j ≠ s := fun hnf e => by subst e; rw [hd] at hcs; cases hcs; exact hnf _ _ rfl
  cases d with
  | val v =>
    obtain ⟨f1, f2⟩ := hfit
    rw [hwant, f1, if_pos rfl]
    left
    unfold Oper.wp
    rw [hex]
    have f3 := f2 w h.low
    have fin := fin (hns fun k cs' e => by cases e)
    generalize (execOp b.eval o).run P w = r at *
    cases r with
    | ok n w' =>
      cases n <;> simp only [Oper.quietUpon] at f3 <;> simp only [Oper.upon]
      case value u => obtain ⟨e1, e2⟩ := f3; rw [e1, e2]; exact fin w (Calm.refl w)
      case skip => obtain ⟨e1, e2⟩ := f3; rw [e1, ← e2]; exact fin w (Calm.refl w)
      case enter f args =>
        obtain ⟨e1, hc⟩ := f3
        rw [e1]
        exact hc.mono fun e w'' ⟨he, hw''⟩ => by subst he; exact fin w'' hw''
    | halt x w' => simp only [Oper.quietUpon] at f3
  | idle =>
    have f1 : Region.wanted o (yielded ops b.tmps) = false := hfit
    rw [hwant, f1, if_neg (by simp)]
    exact fin (hns fun k cs' e => by cases e) w (Calm.refl w)
  | fill k cs' =>
    obtain ⟨f1, f0, f2⟩ := hfit
    obtain rfl := oneFillB_spec hone hd
    rw [hd] at hcs
    cases hcs
    rw [hwant, f1, if_pos rfl]
    left
    unfold Oper.wp
    have hr := h.row
    rw [hnl] at hr
    rw [hex, f2 w hr]
    simp only [Oper.upon]
    refine ⟨by simp [h.size], hact, Below.trans h.low ⟨rfl, rfl, rfl, by simp, fun k hk => setRow_other w g k cs (by omega)⟩, ?_⟩
    rw [setRow_heap w g _ cs t (0, 0) hr, (getD_set_iff hjs).2 (Or.inr rfl), if_pos rfl]
  | new z t kd => exact absurd hfit (by simp [Does.fitsO])
  | look k v => exact absurd hfit (by simp [Does.fitsO])

theorem wp_region_plan_old {id : Nat} {Q : Exit → Act → World → Prop} {a0 : Act} {l : List Oper} (p : List Does) (F g s : Nat) (z cs : Array Value) (t : TypeId) (hm : P.follows .mixedOrders = true) (hB : planB l.toArray = true) (hone : oneFillB p s = true)
    (hcs : p[s]? = some (.fill 0 cs)) (hF : F ≤ w0.heap.size) (hg : F ≤ g) (hz : w0.heap[g]? = some (.cells z t (0, 0)))
    (hp : PlanO P l.toArray w0.drew F g z t (fun a => ∀ w', Below F w0.drew w' → w'.heap[g]? = some (.cells cs t (0, 0)) → Q .normal a w') 0 l p a0) : (Code.region id l.toArray true).wp P Q a0 w0 := by
  have hs := planB_sound hB
  refine wp_region_any hm (wpAny_inv (fun listed a w => InvO l.toArray p a0 w0.drew F g s z cs t listed a w) (fun listed a w j h hj => ?_) (fun listed a w h h0 => ?_) _ _ _ _ (by simp [unlisted, List.countP_replicate]) ⟨by simp, ?_, Below.refl _ _, ?_⟩)
  · exact InvO.step (w0 := w0.drew) hs hone hcs hF hg hp h hj
  · have hall := fun i (hi : i < l.toArray.size) => all_listed hs h0 i i (Nat.le_refl _) hi h.size
    obtain ⟨_, ⟨b, hb, hR⟩, g3⟩ := planO_get hs l p 0 a0 rfl rfl ⟨rfl, rfl, fun i o d t _ _ hi => absurd hi (Nat.not_lt_zero _), fun t _ => rfl⟩ hp
    have hlen := g3 (Nat.zero_le _) (Nat.zero_le _)
    obtain rfl := Agree.same (fun i hi => ⟨hall i hi, hi⟩) (by omega) h.act hb
    have hsl : s < l.toArray.size := by rw [← hlen]; exact (List.getElem?_eq_some_iff.1 hcs).1
    have hr := h.row
    rw [hall s hsl, if_pos rfl] at hr
    exact hR w h.low hr
  · refine ⟨rfl, rfl, fun i o d t _ _ hi => ?_, fun _ _ => rfl⟩
    simp [Array.getElem?_replicate] at hi
    split at hi <;> simp at hi
  · have hno : (Array.replicate l.toArray.size false).getD s false = false := by
      rw [Array.getD_eq_getD_getElem?, Array.getElem?_replicate]
      split <;> rfl
    rw [hno]
    exact hz

variable {R : Act → Prop}
theorem planO_val {i : Nat} {o : Oper} {os : List Oper} {ds : List Does} {a : Act} {v : Value} (h1 : Region.wanted o (yielded ops a.tmps) = true) (h2 : ∀ w, Below F w0 w → Oper.quietUpon P (Calm w) w v ((execOp a.eval o).run P w))
    (h3 : PlanO P ops w0 F g z t R (i + 1) os ds (a.put o.dst v)) : PlanO P ops w0 F g z t R i (o :: os) (.val v :: ds) a := ⟨⟨h1, h2⟩, h3⟩
theorem planO_idle {i : Nat} {o : Oper} {os : List Oper} {ds : List Does} {a : Act} (h1 : Region.wanted o (yielded ops a.tmps) = false)
    (h3 : PlanO P ops w0 F g z t R (i + 1) os ds (a.put o.dst undef)) : PlanO P ops w0 F g z t R i (o :: os) (.idle :: ds) a := ⟨h1, h3⟩
theorem planO_row {i : Nat} {o : Oper} {os : List Oper} {ds : List Does} {a : Act} {cs : Array Value} {ty : TypeId} {x y : Operand} (ho : o.op = .store ty x y) (hg : o.guard = none) (hd : o.dst = none)
    (hx : a.eval x = .pointer (some ⟨g, 0, none⟩)) (hy : a.eval y = .agg cs)
    (hi : (P.info? ty).map (·.size) = some cs.size) (hz : z.size = cs.size) (h1 : cs.all (·.oneCell') = true)
    (h3 : PlanO P ops w0 F g z t R (i + 1) os ds (a.put o.dst undef)) : PlanO P ops w0 F g z t R i (o :: os) (.fill 0 cs :: ds) a := by
  refine ⟨⟨by simp [Region.wanted, hg], hd, fun w hw => ?_⟩, h3⟩
  unfold execOp
  simp only [ho, hx, hy, Instr.storeAt, Instr.sureAddr, Sem.run_bind, Sem.run_pure, Result.andThen_ok, run_storeVar_row w g t ty z cs hw hi hz h1]
theorem planO_end {i : Nat} {a : Act} (h : R a) : PlanO P ops w0 F g z t R i [] [] a := h
theorem Calm.low {a w w1 : World} (h : Calm a w) (hb : Below a.heap.size w.drew w1) : Calm a w1 := Below.trans h (Below.trans (Below.drew (Below.refl _ _)) hb)
/-- What of the lower blocks is as it was. -/
theorem low_facts {w w1 : World} (hb : Below F w.drew w1) : (∀ b o, b < F → w1.cell? ⟨b, o, none⟩ = w.cell? ⟨b, o, none⟩) ∧ (∀ b o, b < F → w1.frozen? ⟨b, o, none⟩ = w.frozen? ⟨b, o, none⟩) :=
  ⟨fun b o h => Below.cell hb (p := ⟨b, o, none⟩) h, fun b o h => Below.frozen hb (p := ⟨b, o, none⟩) h⟩
end
end Go.Proofs.Ytimfjjnlbfcccaa
