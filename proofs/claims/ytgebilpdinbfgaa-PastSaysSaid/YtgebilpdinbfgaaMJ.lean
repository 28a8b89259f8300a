/- MJ: texts of one kind in one file. -/
import Derived.RangeFuncNested
import Derived.RangeFuncBound
import Derived.RangeFuncCalls
import Derived.RangeFuncLeaves
import Derived.Shelf.Abstract
import Derived.Shelf.RegionOpen
import Derived.WalkKit
import Derived.OwnWalkIn
import Derived.TacticsInMore
import Derived.LoopNIn
import Derived.LoopIn
import Derived.Test.YtgebilpdinbfgaaMI
import Derived.Test.YtgebilpdinbfgaaMA
import Derived.Test.YtgebilpdinbfgaaMC
/- Iterators that range over one another: what a consumer holds, what an iterator gives, and a range over one. No function of the program. -/
namespace Go.Proofs.Ytgebilpdinbfgaa
open Go.RowKit

/-- From W to W': nothing has turned but blocks of M and new ones, and M' is M and new ones at most. -/
structure Grow (M M' : Nat → Prop) (W W' : World) : Prop where
  os : W'.os = W.os
  tape : W'.tape = W.tape
  output : W'.output = W.output
  size : W.heap.size ≤ W'.heap.size
  block : ∀ k, k < W.heap.size → ¬ M k → W'.heap[k]? = W.heap[k]?
  sub : ∀ k, M' k → M k ∨ W.heap.size ≤ k
set_option maxRecDepth 100000 in
theorem Grow.refl (M : Nat → Prop) (W : World) : Grow M M W W := ⟨rfl, rfl, rfl, Nat.le_refl _, fun _ _ _ => rfl, fun _ h => .inl h⟩
set_option maxRecDepth 100000 in
theorem Grow.trans {M M' M'' : Nat → Prop} {A B C : World} (h : Grow M M' A B) (k : Grow M' M'' B C) : Grow M M'' A C :=
  ⟨k.os.trans h.os, k.tape.trans h.tape, k.output.trans h.output, Nat.le_trans h.size k.size,
    fun i hi hn => (k.block i (Nat.lt_of_lt_of_le hi h.size) (fun hm => (h.sub i hm).elim hn (fun h2 => absurd hi (Nat.not_lt.2 h2)))).trans (h.block i hi hn),
    fun i hi => (k.sub i hi).elim (h.sub i) (fun h2 => .inr (Nat.le_trans h.size h2))⟩
set_option maxRecDepth 100000 in
theorem Grow.alloc {M M' : Nat → Prop} {A B : World} (h : Grow M M' A B) (o : Obj) : Grow M M' A (B.alloc o) :=
  h.trans ⟨rfl, rfl, rfl, by simp, fun k hk _ => Below.heap_alloc B o k hk, fun _ h => .inl h⟩
set_option maxRecDepth 100000 in
theorem Grow.put {M M' : Nat → Prop} {A B : World} (h : Grow M M' A B) {l : Nat} (hl : M l ∨ A.heap.size ≤ l) (o : Obj) : Grow M M' A (B.putObj l o) :=
  ⟨h.os, h.tape, h.output, by simpa using h.size, fun k hk hn => (World.putObj_heap_other (fun e => by subst e; exact hl.elim hn (fun h2 => absurd hk (Nat.not_lt.2 h2)))).trans (h.block k hk hn), h.sub⟩
set_option maxRecDepth 100000 in
theorem Grow.also {M M' : Nat → Prop} {A B : World} (h : Grow M M' A B) (L : Nat) : Grow (fun k => M k ∨ k = L) (fun k => M' k ∨ k = L) A B :=
  ⟨h.os, h.tape, h.output, h.size, fun k hk hn => h.block k hk (fun h1 => hn (.inl h1)), fun k hk => hk.elim (fun h1 => (h.sub k h1).elim (fun h2 => .inl (.inl h2)) .inr) (fun h1 => .inl (.inr h1))⟩
set_option maxRecDepth 100000 in
theorem Grow.calm {M : Nat → Prop} {A B : World} (h : Calm A B) : Grow M M A B := ⟨h.os, h.tape, h.output, h.size, fun _ hk _ => h.block hk, fun _ h => .inl h⟩
set_option maxRecDepth 100000 in
/-- What lay ahead of all of M lies. -/
theorem Calm.grow {M M' : Nat → Prop} {w A B : World} (hc : Calm w A) (h : Grow M M' A B) (hM : ∀ k, M k → w.heap.size ≤ k) : Calm w B :=
  ⟨h.os.trans hc.os, h.tape.trans hc.tape, h.output.trans hc.output, Nat.le_trans hc.size h.size, fun k hk => (h.block k (Nat.lt_of_lt_of_le hk hc.size) (fun hm => absurd hk (Nat.not_lt.2 (hM k hm)))).trans (hc.block hk)⟩

/-- What a consumer holds speaks of its own blocks, and of what lay ahead of base, alone. -/
structure Hold {α : Type} (base : Nat) (J : List α → (Nat → Prop) → World → Prop) : Prop where
  lt : ∀ {q M W}, J q M W → ∀ k, M k → k < W.heap.size
  keep : ∀ {q M W W'}, J q M W → W'.os = W.os → W'.tape = W.tape → W'.output = W.output → W.heap.size ≤ W'.heap.size → (∀ k, k < W.heap.size → (M k ∨ k < base) → W'.heap[k]? = W.heap[k]?) → J q M W'
set_option maxRecDepth 100000 in
theorem Hold.alloc {α : Type} {base : Nat} {J : List α → (Nat → Prop) → World → Prop} (h : Hold base J) {q : List α} {M : Nat → Prop} {W : World} (hJ : J q M W) (o : Obj) : J q M (W.alloc o) :=
  h.keep hJ rfl rfl rfl (by simp) fun k hk _ => Below.heap_alloc W o k hk
set_option maxRecDepth 100000 in
theorem Hold.put {α : Type} {base : Nat} {J : List α → (Nat → Prop) → World → Prop} (h : Hold base J) {q : List α} {M : Nat → Prop} {W : World} (hJ : J q M W) {l : Nat} (hl : ¬ M l) (hb : base ≤ l) (o : Obj) : J q M (W.putObj l o) :=
  h.keep hJ rfl rfl rfl (by simp) fun k _ hor => World.putObj_heap_other (fun e => by subst e; exact hor.elim hl (fun h2 => absurd h2 (Nat.not_lt.2 hb)))
set_option maxRecDepth 100000 in
theorem Hold.calm {α : Type} {base : Nat} {J : List α → (Nat → Prop) → World → Prop} (h : Hold base J) {q : List α} {M : Nat → Prop} {W W' : World} (hJ : J q M W) (hc : Calm W W') : J q M W' :=
  h.keep hJ hc.os hc.tape hc.output hc.size fun _ hk _ => hc.block hk

/-- The rounds of loop L go on, each with one more. -/
def Yld {α : Type} (P : Program) (encs : α → Array Value) (N L : Nat) (J : List α → (Nat → Prop) → World → Prop) : Prop :=
  ∀ (m : Nat) (q : List α) (M : Nat → Prop) (x : α) (W : World), J q M W → q.length < N →
    YieldAt Fence.wide m P L (encs x) W fun e W' => e = .returned (.bool true) ∧ ∃ M', J (q ++ [x]) M' W' ∧ Grow M M' W W'
/-- An iterator that gives just xs, where ok holds at its call. -/
def Gives {α : Type} (P : Program) (f : Nat) (lb : Array Value) (encs : α → Array Value) (xs : List α) (ok : (Nat → Prop) → World → Prop) : Prop :=
  ∀ (N L base : Nat) (J : List α → (Nat → Prop) → World → Prop), Hold base J → Yld P encs N L J →
    ∀ (n : Nat) (q : List α) (M : Nat → Prop) (W : World), base ≤ W.heap.size → J q M W → ok M W → q.length + xs.length ≤ N →
      CallsIn Fence.wide n P f (#[.func (.yield L) #[] #[]] ++ lb) W fun e W' => (∃ v, e = .returned v) ∧ ∃ M', J (q ++ xs) M' W' ∧ Grow M M' W W'

set_option maxRecDepth 100000 in
set_option maxHeartbeats 1000000 in
theorem wpIn_range_gives {α : Type} {P : Program} {Q : Exit → Act → World → Prop} {a : Act} {w : World} {n : Nat} {g : Operand} {ps : Array Tmp} {assign body : Code} {f : Nat} {lb : Array Value}
    (hg : a.eval g = .func (.func f) #[] lb) (eg : ∀ args w, (callFunc f args).run P w = .ok (.enter f args) w)
    {encs : α → Array Value} (hps : ∀ x, (encs x).size = ps.size) {xs : List α} {ok : (Nat → Prop) → World → Prop} (hseq : Gives P f lb encs xs ok)
    {base : Nat} {J : List α → (Nat → Prop) → World → Prop} (hH : Hold base J) (hbase : base ≤ w.heap.size) {q0 : List α} {M0 : Nat → Prop} (hJ : J q0 M0 w)
    (hok : ∀ W1, Calm w W1 → ok (fun k => M0 k ∨ k = w.heap.size + 1) W1)
    (Ax : α → Act → World → Prop) (hAx : ∀ x a' W l r r', Ax x a' W → W.heap[l]? = some (.loop r) → Ax x a' (W.putObj l (.loop r')))
    (hassign : ∀ (m L : Nat) (q : List α) (M : Nat → Prop) (x : α) (W : World) (K : Act → World → Prop), q.length < xs.length → J (q0 ++ q) M W → Grow M0 M w W → (∀ a' W', J (q0 ++ q) M W' → Grow M M W W' → Ax x a' W' → K a' W') →
      assign.wpIn (Fence.wide.inRound L) m P (Exit.then K (fun _ _ _ => False)) { tmps := (ps.zip (encs x)).foldl (fun t (p, v) => t.setIfInBounds p v) a.tmps, defers := [] } W)
    (hbody : ∀ (m L : Nat) (q : List α) (M : Nat → Prop) (x : α) (a' : Act) (W : World), q.length < xs.length → J (q0 ++ q) M W → Grow M0 M w W → Ax x a' W →
      body.wpIn (Fence.wide.inRound L) m P (fun ex _ W' => ex = .normal ∧ ∃ M', J (q0 ++ q ++ [x]) M' W' ∧ Grow M M' W W') a' W)
    (hdone : ∀ (D : Nat) (M' : Nat → Prop) (W : World), w.heap.size ≤ D → ¬ M' D → W.heap[D]? = some (.deferred (some [])) → J (q0 ++ xs) M' W → Grow M0 M' w W → Q .normal { a with defers := { target := .collected D, args := #[] } :: a.defers } W) :
    (Code.rangeFunc g ps assign body).wpIn Fence.wide n P Q a w := by
  refine wpIn_rangeFunc ?_
  intro fn hfn
  obtain ⟨rec, hrec⟩ : ∃ rec : LoopState → Loop, rec = fun st => { state := st, pending := none, fn, tmps := a.tmps, params := ps, assign, body, defers := w.heap.size } := ⟨_, rfl⟩
  obtain ⟨W1, hW1⟩ : ∃ W1, (w.alloc (.deferred (some []))).alloc (.loop (rec .ready)) = W1 := ⟨_, rfl⟩
  have hL1 : W1.heap[w.heap.size + 1]? = some (.loop (rec .ready)) := by
    rw [← hW1]; have := World.alloc_heap_new (w.alloc (.deferred (some []))) (.loop (rec .ready)); rwa [World.size_alloc] at this
  have hD1 : W1.heap[w.heap.size]? = some (.deferred (some [])) := by
    rw [← hW1]; exact (Below.heap_alloc _ _ _ (by simp)).trans (World.alloc_heap_new w _)
  have hs1 : W1.heap.size = w.heap.size + 2 := by rw [← hW1]; simp
  have hc1 : Calm w W1 := by rw [← hW1]; exact ((Calm.refl w).alloc _).alloc _
  have hJ1 : J q0 M0 W1 := hH.calm hJ hc1
  have hMlt := hH.lt hJ
  refine ⟨w.heap.size + 1, [{ target := .collected w.heap.size, args := #[] }], W1, { target := .fn (.func f) lb, args := #[.func (.yield (w.heap.size + 1)) #[] #[]] }, W1, f,
    #[.func (.yield (w.heap.size + 1)) #[] #[]] ++ lb, W1, ?_, ?_, fun _ _ => trivial, ?_, fun h => (by cases h), ?_⟩
  · rw [← hW1, hrec]; exact run_enterLoop_outer _ _ _ _ _
  · simp only [resolve, hg]
    simp [go_sem]
  · simp [invoke, go_sem, eg]
  · obtain ⟨J', hJ'⟩ : ∃ J' : List α → (Nat → Prop) → World → Prop, J' = fun q M'' W => ∃ M, J (q0 ++ q) M W ∧ M'' = (fun k => M k ∨ k = w.heap.size + 1) ∧ ¬ M (w.heap.size + 1) ∧ ¬ M w.heap.size ∧ Grow M0 M w W ∧ W.heap[w.heap.size + 1]? = some (.loop (rec .ready)) ∧ W.heap[w.heap.size]? = some (.deferred (some [])) := ⟨_, rfl⟩
    have hH' : Hold (w.heap.size + 2) J' := by
      subst hJ'
      constructor
      · rintro q M'' W ⟨M, h1, rfl, -, -, -, h5, -⟩ k hk
        rcases hk with hk | rfl
        · exact hH.lt h1 k hk
        · exact (Array.getElem?_eq_some_iff.1 h5).1
      · rintro q M'' W W' ⟨M, h1, rfl, h2, h3, h4, h5, h6⟩ e1 e2 e3 hsz hsame
        have hlt := (Array.getElem?_eq_some_iff.1 h5).1
        refine ⟨M, hH.keep h1 e1 e2 e3 hsz (fun k hk hor => hsame k hk (hor.elim (fun h => .inl (.inl h)) (fun h => .inr (by omega)))), rfl, h2, h3, ?_, (hsame _ hlt (.inl (.inr rfl))).trans h5, (hsame _ (by omega) (.inr (by omega))).trans h6⟩
        exact ⟨e1.trans h4.os, e2.trans h4.tape, e3.trans h4.output, Nat.le_trans h4.size hsz, fun k hk hn => (hsame k (Nat.lt_of_lt_of_le hk h4.size) (.inr (by omega))).trans (h4.block k hk hn), h4.sub⟩
    have hY' : Yld P encs xs.length (w.heap.size + 1) J' := by
      subst hJ'
      rintro m q M'' x W ⟨M, h1, rfl, h2, h3, h4, h5, h6⟩ hlen
      have hlt := (Array.getElem?_eq_some_iff.1 h5).1
      have hy := run_yield (P := P) (args := encs x) h5 (by rw [hrec]; exact hps x)
      rw [hrec] at hy
      refine ⟨fn, _, assign, body, hy, roundIn_of_wpIn hfn (hassign m _ q M x W _ hlen h1 h4 ?_)⟩
      clear hy
      intro a' Wa hja hga hax
      have hla : Wa.heap[w.heap.size + 1]? = some (.loop (rec .ready)) := (hga.block _ hlt h2).trans h5
      have hDa : Wa.heap[w.heap.size]? = some (.deferred (some [])) := (hga.block _ (by omega) h3).trans h6
      have hlta := (Array.getElem?_eq_some_iff.1 hla).1
      refine ⟨_, run_beginRound hla (by rw [hrec]), ?_⟩
      have hlb : (Wa.putObj (w.heap.size + 1) (.loop { rec .ready with state := .busy })).heap[w.heap.size + 1]? = some (.loop { rec .ready with state := .busy }) := World.putObj_heap_same hlta
      have hDb : (Wa.putObj (w.heap.size + 1) (.loop { rec .ready with state := .busy })).heap[w.heap.size]? = some (.deferred (some [])) := (World.putObj_heap_other (by omega)).trans hDa
      have hjb := hH.put hja (l := w.heap.size + 1) h2 (by omega) (.loop { rec .ready with state := .busy })
      have hgb : Grow M0 M w (Wa.putObj (w.heap.size + 1) (.loop { rec .ready with state := .busy })) := (h4.trans hga).put (.inr (by omega)) _
      refine wpIn_mono (hbody m _ q M x a' _ hlen hjb hgb (hAx x a' _ _ _ _ hax hla)) ?_
      rintro e a3 W3 ⟨rfl, M3, hj3, hg3⟩
      have hl3 := (hg3.block _ (Array.getElem?_eq_some_iff.1 hlb).1 h2).trans hlb
      have hD3 := (hg3.block _ (Array.getElem?_eq_some_iff.1 hDb).1 h3).trans hDb
      have n3 : ¬ M3 (w.heap.size + 1) := fun h => (hg3.sub _ h).elim h2 fun h9 => absurd (Array.getElem?_eq_some_iff.1 hlb).1 (Nat.not_lt.2 h9)
      have n4 : ¬ M3 w.heap.size := fun h => (hg3.sub _ h).elim h3 fun h9 => absurd (Array.getElem?_eq_some_iff.1 hDb).1 (Nat.not_lt.2 h9)
      have hr := run_endRound (P := P) none hl3
      refine ⟨_, _, hr, rfl, _, ⟨M3, ?_, rfl, n3, n4, ?_, ?_, ?_⟩, ?_⟩
      · rw [← List.append_assoc]
        exact hH.put hj3 n3 (by omega) _
      · exact (hgb.trans hg3).put (.inr (by omega)) _
      · rw [World.putObj_heap_same (Array.getElem?_eq_some_iff.1 hl3).1, hrec]; rfl
      · exact (World.putObj_heap_other (by omega)).trans hD3
      · exact ((((hga.also _).put (.inl (.inr rfl)) _).trans (hg3.also _)).put (.inl (.inr rfl)) _)
    have hJ1' : J' [] (fun k => M0 k ∨ k = w.heap.size + 1) W1 := by
      rw [hJ']
      exact ⟨M0, by simpa using hJ1, rfl, fun h => by have := hMlt _ h; omega, fun h => by have := hMlt _ h; omega, Grow.calm hc1, hL1, hD1⟩
    refine (hseq xs.length (w.heap.size + 1) (w.heap.size + 2) J' hH' hY' (n - 1) [] _ W1 (by omega) hJ1' (hok W1 hc1) (by simp)).mono ?_
    rintro e W2 ⟨⟨v, rfl⟩, M2, hj2, hg2⟩
    rw [hJ'] at hj2
    obtain ⟨M, h1, rfl, h2, h3, h4, h5, h6⟩ := hj2
    have hr := run_endLoop (P := P) h5 (by rw [hrec]; simp)
    refine ⟨none, _, by rw [hr, hrec], ?_⟩
    refine hdone _ M _ (Nat.le_refl _) h3 ((World.putObj_heap_other (by omega)).trans h6) ?_ (h4.put (.inr (by omega)) _)
    simp only [List.nil_append] at h1
    exact hH.put h1 h2 (by omega) _

/-- The marks of the ranges that a function has made. -/
def marks (Ds : List Nat) : List Deferred := Ds.map fun D => { target := .collected D, args := #[] }
set_option maxRecDepth 100000 in
/-- A function's end behind some ranges. -/
theorem leaves_marks {α : Type} {P : Program} {n : Nat} {fn : Func} {tmps : Array Value} {R : Ending → World → Prop} {base : Nat} {J : List α → (Nat → Prop) → World → Prop} (hH : Hold base J) {q : List α} {M M0 : Nat → Prop} {w : World} (hb : base ≤ w.heap.size) :
    ∀ (Ds : List Nat) (W : World), (∀ D ∈ Ds, w.heap.size ≤ D ∧ ¬ M D ∧ W.heap[D]? = some (.deferred (some []))) → Ds.Nodup → J q M W → Grow M0 M w W →
      (∀ W', J q M W' → Grow M0 M w W' → ∃ v, (results fn tmps).run P W' = .ok v W' ∧ R (.returned v) W') → LeavesInM Fence.wide n P fn tmps R (marks Ds) .returning W
  | [], W, _, _, hJ, hG, h => h W hJ hG
  | D :: Ds, W, hD, hn, hJ, hG, h => by
    obtain ⟨h1, h2, h3⟩ := hD D (List.mem_cons_self ..)
    obtain ⟨n1, n2⟩ := List.nodup_cons.1 hn
    refine ⟨by simp, .inl ⟨D, _, rfl, run_takeDeferred h3, ?_⟩⟩
    refine leaves_marks hH hb Ds _ (fun E hE => ?_) n2 (hH.put hJ h2 (by omega) _) (hG.put (.inr h1) _) h
    obtain ⟨g1, g2, g3⟩ := hD E (List.mem_cons_of_mem _ hE)
    exact ⟨g1, g2, (World.putObj_heap_other (fun e => by subst e; exact n1 hE)).trans g3⟩
end Go.Proofs.Ytgebilpdinbfgaa

/- tree.records: an iterator that ranges over itself. -/
namespace Go.Proofs.Ytgebilpdinbfgaa
open Go.RowKit Go.Shelf
attribute [local go_sem] Oper.semAt_some

/-- The records beneath a node, in order, down to a depth. -/
def recsD (l : List Nd) : Nat → Int → List El
  | 0, _ => []
  | d + 1, x => match ndOf l x with | none => [] | some n => n.E ++ n.K.flatMap (recsD l d)

set_option maxRecDepth 100000 in
theorem treeRecords_any (root : Int) (A : Option Addr) (c len : Nat) (x : Int) (w : World) :
    Calls Try.prog 38 #[.agg #[.int .i64 root, .slice A len c], .int .i64 x] w fun e w' =>
      e = .returned (.func (.func 65) #[] #[.pointer (some ⟨w.heap.size, 0, none⟩), .pointer (some ⟨w.heap.size + 1, 0, none⟩)]) ∧ w' = (w.alloc (.cells #[.int .i64 root, .slice A len c] 24)).alloc (.cells #[.int .i64 x] 3) := by
  go_enter Try.func38, Try.ntmps38
  go_wp2_with fail
  go_ret
  exact ⟨rfl, rfl⟩

set_option maxRecDepth 100000 in
theorem wrap_one {j : Nat} (h : j + 1 ≤ 400) : wrap64 ((j : Int) + 1) = ((j + 1 : Nat) : Int) := by
  rw [IntWalk.wrap64_in _ (by omega)]; omega
set_option maxRecDepth 100000 in
theorem step_one {j n : Nat} (h : j < n) : n - (intOf (.int .i64 ((j + 1 : Nat) : Int))).toNat < n - (intOf (.int .i64 (j : Int))).toNat := by
  simp only [intOf, Int.toNat_natCast]
  omega
abbrev encE (e : El) : Array Value := #[.agg #[.int .i64 e.p, .int .i64 e.o, .int .i64 e.f, .int .i64 e.m, .int .i64 e.g, .string e.s]]
set_option maxRecDepth 100000 in
set_option maxHeartbeats 8000000 in
theorem recs_gives (root : Int) (A : Option Addr) (c : Nat) (l : List Nd) (w0 : World) (hT : TrAt w0 A l) (hok : NdsOk l) (hin : ∀ n ∈ l, ∀ y ∈ n.K, 0 ≤ y ∧ y < (l.length : Int)) :
    ∀ (d : Nat) (x : Int), Deep l d x → ∀ bt bx : Nat, Gives Try.prog 65 #[.pointer (some ⟨bt, 0, none⟩), .pointer (some ⟨bx, 0, none⟩)] encE (recsD l d x)
      (fun M W => Calm w0 W ∧ (∀ k, M k → w0.heap.size ≤ k) ∧ W.heap[bt]? = some (.cells #[.int .i64 root, .slice A l.length c] 24 (0, 0)) ∧ W.heap[bx]? = some (.cells #[.int .i64 x] 3 (0, 0)) ∧ ¬ M bt ∧ ¬ M bx)
  | 0, _, hD => absurd hD id
  | d + 1, x, hD => by
    intro bt bx N L base J hH hY n q M W hb hJ hok1 hlen
    have HT0 := Lib.hid hT
    obtain ⟨hc, hM, hbt, hbx, nbt, nbx⟩ := hok1
    obtain ⟨nd, hn, hcase⟩ := hD
    have ih := fun y (hy : Deep l d y) => recs_gives root A c l w0 hT hok hin d y hy
    obtain ⟨hx0, hxl, hxn⟩ := nd_of_in hn
    obtain ⟨X, rfl⟩ : ∃ X : Nat, x = (X : Int) := ⟨x.toNat, by omega⟩
    have hXl : X < l.length := by omega
    obtain ⟨b, qq, kd, A1, A2, A3, A4, c1, c2, c3, c4, E, K, S, T, hA, hbl, HN, HA, n0, n1, n2, n3, n4⟩ := (hT.calm hc).get hXl
    cases hA
    have hnd : nd = ⟨kd, A1, A2, A3, A4, c1, c2, c3, c4, E, K, S, T⟩ := by
      have := HN.out
      rw [Int.toNat_natCast] at hxn
      rw [hxn] at this
      exact Option.some.inj this
    subst hnd
    have hrec : recsD l (d + 1) (X : Int) = E ++ K.flatMap (recsD l d) := by rw [recsD, hn]
    rw [hrec] at hlen ⊢
    obtain ⟨t0, t1, htl⟩ := rowT hbt
    have hbxc : W.cell? ⟨bx, 0, none⟩ = some (.int .i64 (X : Int)) := cell_of_row W bx _ _ _ (0, 0) hbx
    have hbxl : bx < W.heap.size := (Array.getElem?_eq_some_iff.1 hbx).1
    refine callsIn_of_wp_marks Try.func65 rfl trivial ?_ rfl
    simp only [Try.ntmps65, List.size_toArray, List.length_cons, List.length_nil, Nat.reduceAdd, Nat.reduceSub, Array.replicate_succ, Array.replicate_zero, List.push_toArray, List.append_toArray, List.nil_append, List.cons_append]
    have hlt := hH.lt hJ
    have hy0 := heap_new W (.cells #[.func (.yield L) #[] #[]] 74)
    have hnb := heap_new (W.alloc (.cells #[.func (.yield L) #[] #[]] 74)) (.cells #[.int .i64 kd, .slice A1 E.length c1, .slice A2 K.length c2, .slice A3 S.length c3, .slice A4 T.length c4] 60)
    rw [World.size_alloc] at hnb
    have hcW := ((Calm.refl W).alloc (.cells #[.func (.yield L) #[] #[]] 74)).alloc (.cells #[.int .i64 kd, .slice A1 E.length c1, .slice A2 K.length c2, .slice A3 S.length c3, .slice A4 T.length c4] 60)
    have hys := (((Calm.refl _).alloc (.cells #[.int .i64 kd, .slice A1 E.length c1, .slice A2 K.length c2, .slice A3 S.length c3, .slice A4 T.length c4] 60)).block (by simp)).trans hy0
    have hsz2 : ((W.alloc (.cells #[.func (.yield L) #[] #[]] 74)).alloc (.cells #[.int .i64 kd, .slice A1 E.length c1, .slice A2 K.length c2, .slice A3 S.length c3, .slice A4 T.length c4] 60)).heap.size = W.heap.size + 2 := by simp
    gi_wp2
    obtain ⟨W2, hW2⟩ : ∃ W2, (W.alloc (.cells #[.func (.yield L) #[] #[]] 74)).alloc (.cells #[.int .i64 kd, .slice A1 E.length c1, .slice A2 K.length c2, .slice A3 S.length c3, .slice A4 T.length c4] 60) = W2 := ⟨_, rfl⟩
    rw [hW2] at hnb hcW hys hsz2 ⊢
    clear hW2 hy0 t0 t1 htl hbxc hbxl n0 n1 n2 n3 n4 HA
    have hG0 : Hid (Grow M M W W2) := Grow.calm hcW
    have hJ2 := Lib.hid (hH.calm hJ hcW)
    have hbt2 := Lib.hid ((hcW.block (Array.getElem?_eq_some_iff.1 hbt).1).trans hbt)
    have HLT : Hid (∀ k, M k → k < W.heap.size) := hlt
    have HMW : Hid (∀ k, M k → w0.heap.size ≤ k) := hM
    have HC2 := Lib.hid (hc.call hcW)
    have hE8 : E.length ≤ 8 := (nd_sizes (hok _ (List.mem_of_getElem? HN.out))).1
    have hnbM : ¬ M (W.heap.size + 1) := fun h => by have := hlt _ h; omega
    have hysM : ¬ M W.heap.size := fun h => by have := hlt _ h; omega
    clear hlt hM hJ hbt hc hcW
    gi_loopw [18] (fun i wr => ∃ (k : Nat) (M1 : Nat → Prop), k ≤ E.length ∧ i = .int .i64 k ∧ Hid (J (q ++ E.take k) M1 wr) ∧ Hid (Grow M M1 W2 wr)) (fun i _ => E.length - (intOf i).toNat)
    case atStart => exact ⟨0, M, Nat.zero_le _, rfl, by rw [List.take_zero, List.append_nil]; exact hJ2, Grow.refl _ _⟩
    case round =>
      obtain ⟨k, M1, hk, rfl, hJ1, hG1⟩ := hrel
      have hw1 := hG1.out.size
      have y1 := (hG1.out.block W.heap.size (by omega) hysM).trans hys
      have b1 := (hG1.out.block (W.heap.size + 1) (by omega) hnbM).trans hnb
      obtain ⟨z0, z1, z2, z3, z4, hzs⟩ := row5 b1
      have cy : wr.cell? ⟨W.heap.size, 0, none⟩ = some (.func (.yield L) #[] #[]) := cell_of_row wr W.heap.size 0 _ _ (0, 0) y1
      have hyl : W.heap.size < wr.heap.size := by omega
      by_cases hlt : k < E.length
      · have hcr := HC2.out.grow hG1.out HMW.out
        obtain ⟨bl, ql, p, o, f, m, g, s, hAe, hbe, HE, hm, e0, e1, e2, e3, e4, e5⟩ := (((HT0.out.calm hcr).nd _ (List.mem_of_getElem? HN.out)).e.get hlt)
        simp only at hAe
        subst hAe
        obtain ⟨fn, tmps, assign, body, hyy, hR⟩ := hY (n - 1) (q ++ E.take k) M1 ⟨p, o, f, m, g, s⟩ (wr.alloc (.cells #[.int .i64 p, .int .i64 o, .int .i64 f, .int .i64 m, .int .i64 g, .string s] 33)) (hH.alloc hJ1.out _) (by simp only [List.length_append, List.length_take] at hlen ⊢; omega)
        have hsucc : Hid (q ++ E.take k ++ [⟨p, o, f, m, g, s⟩] = q ++ E.take (k + 1)) := show _ = _ by rw [List.append_assoc, takeSnoc' HE.out]
        gi_wp2
        refine ⟨fun h => (by cases h), hR.mono ?_⟩
        rintro e W3 ⟨rfl, M3, hJ3, hG3⟩
        rw [hsucc.out] at hJ3
        have HJ3 := Lib.hid hJ3
        have HG3 := Lib.hid ((hG1.out.alloc _).trans hG3)
        clear hJ3 hG3 hR hyy
        gi_wp2
        go_roundw
        case rel => exact ⟨k + 1, M3, by omega, by go_num, HJ3, HG3⟩
        case measure => simp [intOf]; omega
      have hJE : Hid (J (q ++ E) M1 wr) := by have := hJ1.out; rw [List.take_of_length_le (by omega)] at this; exact this
      have hys2 := hys
      clear hJ1 hnb hys z0
      gi_wp2
      refine wpIn_loop (fun a' w' => ∃ (j : Nat) (M2 : Nat → Prop) (Ds : List Nat) (v8 v9 v31 v32 v33 v34 v35 v36 v37 v38 v39 v40 v41 v42 : Value), j ≤ K.length ∧ Hid (J (q ++ E ++ (K.take j).flatMap (recsD l d)) M2 w') ∧ Hid (Grow M M2 W2 w') ∧ Hid (∀ D ∈ Ds, W2.heap.size ≤ D ∧ D < w'.heap.size ∧ ¬ M2 D ∧ w'.heap[D]? = some (.deferred (some []))) ∧ Ds.Nodup ∧
        a' = { tmps := #[.func (.yield L) #[] #[], .pointer (some ⟨bt, 0, none⟩), .pointer (some ⟨bx, 0, none⟩), .pointer (some ⟨W.heap.size, 0, none⟩), .pointer (some ⟨W.heap.size + 1, 0, none⟩), undef, u6, undef, v8, v9,
        .pointer (some ⟨bt, 1, none⟩), .slice (some ⟨b, qq, none⟩) l.length c, .int .i64 (X : Int), .pointer (some ⟨b, qq + X * 5, none⟩), .agg #[.int .i64 kd, .slice A1 E.length c1, .slice A2 K.length c2, .slice A3 S.length c3, .slice A4 T.length c4],
        .pointer (some ⟨W.heap.size + 1, 1, none⟩), .slice A1 E.length c1, .int .i64 (E.length : Int), .int .i64 (k : Int), .bool false, u20, u21, u22, u23, u24, u25, u26, .pointer (some ⟨W.heap.size + 1, 2, none⟩), .slice A2 K.length c2, .int .i64 (K.length : Int), .int .i64 (j : Int), v31, v32, v33, v34, v35, v36, v37, v38, v39, v40, v41, v42], defers := marks Ds }) (fun a' _ => K.length - (intOf (a'.tmps.getD 30 undef)).toNat) ?_ ?_
      · exact ⟨0, M1, [], _, _, _, _, _, _, _, _, _, _, _, _, _, _, Nat.zero_le _, by rw [List.take_zero, List.flatMap_nil, List.append_nil]; exact hJE, hG1, (show ∀ _, _ from fun D h => absurd h List.not_mem_nil), List.nodup_nil, rfl⟩
      clear hJE hG1 hw1 y1 b1 cy hyl z1 z2 z3 z4 hzs hJ2
      rintro a' wk ⟨j, M2, Ds, v8, v9, v31, v32, v33, v34, v35, v36, v37, v38, v39, v40, v41, v42, hj, hJk, hGk, hDs, hnd, rfl⟩
      have hwk := hGk.out.size
      have hcr := HC2.out.grow hGk.out HMW.out
      have t1 := (hGk.out.block bt (by have := (Array.getElem?_eq_some_iff.1 hbt2.out).1; omega) nbt).trans hbt2.out
      obtain ⟨t0, t1', htl⟩ := rowT t1
      by_cases hlt : j < K.length
      · obtain ⟨bk, qk, y, hAk, hbk, HY, cyk⟩ := (((HT0.out.calm hcr).nd _ (List.mem_of_getElem? HN.out)).k.get hlt)
        simp only at hAk
        subst hAk
        have hyd : Hid (Deep l d y) := by
          rcases hcase with ⟨h8, -⟩ | ⟨-, h9⟩
          · have h9 := (nd_sizes (hok _ (List.mem_of_getElem? HN.out))).2.2.2.2.2 h8
            simp only at h9
            rw [h9] at hlt
            simp at hlt
          · exact h9 y (List.mem_of_getElem? HY.out)
        gi_wp2
        refine ⟨trivial, fun h => (by cases h), ?_⟩
        refine (callsIn_wide.2 (treeRecords_any _ _ _ _ _ _)).mono ?_
        rintro e w' ⟨rfl, rfl⟩
        gi_wp2
        have hcA := ((Calm.refl wk).alloc (.cells #[.int .i64 root, .slice (some ⟨b, qq, none⟩) l.length c] 24)).alloc (.cells #[.int .i64 y] 3)
        have hbt' := heap_new wk (.cells #[.int .i64 root, .slice (some ⟨b, qq, none⟩) l.length c] 24)
        have hby' := heap_new (wk.alloc (.cells #[.int .i64 root, .slice (some ⟨b, qq, none⟩) l.length c] 24)) (.cells #[.int .i64 y] 3)
        rw [World.size_alloc] at hby'
        have hbt'' := (((Calm.refl _).alloc (.cells #[.int .i64 y] 3)).block (by simp)).trans hbt'
        have hszA : ((wk.alloc (.cells #[.int .i64 root, .slice (some ⟨b, qq, none⟩) l.length c] 24)).alloc (.cells #[.int .i64 y] 3)).heap.size = wk.heap.size + 2 := by simp
        have hlk := hH.lt hJk.out
        have hJA := Lib.hid (hH.calm hJk.out hcA)
        obtain ⟨WA, hWA⟩ : ∃ WA, (wk.alloc (.cells #[.int .i64 root, .slice (some ⟨b, qq, none⟩) l.length c] 24)).alloc (.cells #[.int .i64 y] 3) = WA := ⟨_, rfl⟩
        rw [hWA] at hcA hby' hbt'' hszA hJA ⊢
        clear hWA hbt'
        have hGA := Lib.hid (hGk.out.trans (Grow.calm (M := M2) hcA))
        have hM2w : Hid (∀ k, M2 k → w0.heap.size ≤ k) := show ∀ _, _ from fun k hk => by
          rcases hGk.out.sub k hk with h | h
          · exact HMW.out k h
          · have := HC2.out.size; omega
        have ysA := (hGA.out.block W.heap.size (by omega) hysM).trans hys2
        have hysM2 : ¬ M2 W.heap.size := fun h => (hGk.out.sub _ h).elim hysM (by omega)
        have hflen : Hid (((K.take j).flatMap (recsD l d)).length + (recsD l d y).length ≤ (K.flatMap (recsD l d)).length) := show _ ≤ _ by
          have e9 : K = K.take j ++ y :: K.drop (j + 1) := by
            rw [← (List.getElem?_eq_some_iff.1 HY.out).2, List.getElem_cons_drop, List.take_append_drop]
          have e8 : K.flatMap (recsD l d) = (K.take j).flatMap (recsD l d) ++ (recsD l d y ++ (K.drop (j + 1)).flatMap (recsD l d)) := by
            conv => lhs; rw [e9]
            rw [List.flatMap_append, List.flatMap_cons]
          rw [e8, List.length_append, List.length_append]
          omega
        have hsucc : Hid (q ++ E ++ (K.take j).flatMap (recsD l d) ++ recsD l d y = q ++ E ++ (K.take (j + 1)).flatMap (recsD l d)) := show _ = _ by
          rw [← takeSnoc' HY.out, List.flatMap_append, List.flatMap_singleton, List.append_assoc]
        refine wpIn_range_gives (f := 65) (lb := #[.pointer (some ⟨wk.heap.size, 0, none⟩), .pointer (some ⟨wk.heap.size + 1, 0, none⟩)]) ?hg (enters_of Try.func65 (by kernel_rfl) rfl) (encs := encE) ?hps
          (ih y hyd.out wk.heap.size (wk.heap.size + 1)) hH (by omega) (q0 := q ++ E ++ (K.take j).flatMap (recsD l d)) (M0 := M2) hJA.out
          (fun W1 h1 => ⟨(hcr.call hcA).call h1, fun k hk => hk.elim (hM2w.out k) (fun h => by have := hcr.size; omega), (h1.block (by omega)).trans hbt'', (h1.block (by omega)).trans hby', fun h => h.elim (fun h => by have := hlk _ h; omega) (by omega), fun h => h.elim (fun h => by have := hlk _ h; omega) (by omega)⟩)
          (fun e a' W' => ∃ B : Nat, W'.heap[B]? = some (.cells #[.int .i64 e.p, .int .i64 e.o, .int .i64 e.f, .int .i64 e.m, .int .i64 e.g, .string e.s] 33 (0, 0)) ∧ a' = { tmps := #[.func (.yield L) #[] #[], .pointer (some ⟨bt, 0, none⟩), .pointer (some ⟨bx, 0, none⟩), .pointer (some ⟨W.heap.size, 0, none⟩), .pointer (some ⟨W.heap.size + 1, 0, none⟩), undef, u6, undef, .int .i64 y, .pointer (some ⟨B, 0, none⟩),
          .pointer (some ⟨bt, 1, none⟩), .slice (some ⟨b, qq, none⟩) l.length c, .int .i64 (X : Int), .pointer (some ⟨b, qq + X * 5, none⟩), .agg #[.int .i64 kd, .slice A1 E.length c1, .slice (some ⟨bk, qk, none⟩) K.length c2, .slice A3 S.length c3, .slice A4 T.length c4],
          .pointer (some ⟨W.heap.size + 1, 1, none⟩), .slice A1 E.length c1, .int .i64 (E.length : Int), .int .i64 (k : Int), .bool false, u20, u21, u22, u23, u24, u25, u26, .pointer (some ⟨W.heap.size + 1, 2, none⟩), .slice (some ⟨bk, qk, none⟩) K.length c2, .int .i64 (K.length : Int), .int .i64 (j : Int),
          .bool true, .pointer (some ⟨bk, qk + j, none⟩), .int .i64 y, .agg #[.int .i64 root, .slice (some ⟨b, qq, none⟩) l.length c], .int .i64 y, .func (.func 65) #[] #[.pointer (some ⟨wk.heap.size, 0, none⟩), .pointer (some ⟨wk.heap.size + 1, 0, none⟩)], .agg #[.int .i64 e.p, .int .i64 e.o, .int .i64 e.f, .int .i64 e.m, .int .i64 e.g, .string e.s], v38, v39, v40, v41, v42], defers := [] })
          (fun e a' W' L' r r' hx hl => by
            obtain ⟨B, h1, h2⟩ := hx
            exact ⟨B, (World.putObj_heap_other (fun e => by subst e; rw [h1] at hl; cases hl)).trans h1, h2⟩)
          ?assign ?body ?done
        case hg => rfl
        case hps => intro _; rfl
        case assign =>
          intro m L' q' M' e W' KK hq hj' hg' hK
          gi_wp2
          exact hK _ _ (hH.alloc hj' _) ((Grow.refl _ _).alloc _) ⟨W'.heap.size, heap_new _ _, rfl⟩
        case body =>
          rintro m L' q' M' e a' W' hq hj' hg' ⟨B, hB, rfl⟩
          have hsW := hg'.size
          have yW := (hg'.block W.heap.size (by omega) hysM2).trans ysA
          have cyW : W'.cell? ⟨W.heap.size, 0, none⟩ = some (.func (.yield L) #[] #[]) := cell_of_row W' W.heap.size 0 _ _ (0, 0) yW
          have hylW : W.heap.size < W'.heap.size := by omega
          obtain ⟨x0, x1, x2, x3, x4, x5, hxl⟩ := row6 hB
          obtain ⟨fn, tmps, assign, body, hyy, hR⟩ := hY (m - 1) (q ++ E ++ (K.take j).flatMap (recsD l d) ++ q') M' e W' hj' (by have := hflen.out; simp only [List.length_append] at hlen this ⊢; omega)
          gi_wp2
          refine ⟨fun h => (by cases h), RoundIn.mono (F := Fence.wide.inRound L') hR ?_⟩
          rintro e1 W3 ⟨rfl, M3, hJ3, hG3⟩
          have HJ3 := Lib.hid hJ3
          have HG3 := Lib.hid hG3
          clear hJ3 hG3 hR hyy
          gi_wp2
          exact ⟨M3, (by have h9 := HJ3.out; simp only [List.append_assoc] at h9 ⊢; exact h9), HG3.out⟩
        case done =>
          rintro D M' W' hD1 hD2 hD3 hj' hg'
          have HJ := Lib.hid hj'
          have HG := Lib.hid (hGA.out.trans hg')
          have HD : Hid (∀ D' ∈ D :: Ds, W2.heap.size ≤ D' ∧ D' < W'.heap.size ∧ ¬ M' D' ∧ W'.heap[D']? = some (.deferred (some []))) := show ∀ _, _ from fun D' hD' => by
            rcases List.mem_cons.1 hD' with rfl | hD'
            · exact ⟨by omega, (Array.getElem?_eq_some_iff.1 hD3).1, hD2, hD3⟩
            · obtain ⟨g1, g2, g3, g4⟩ := hDs.out D' hD'
              refine ⟨g1, by have := hg'.size; omega, fun h => (hg'.sub _ h).elim g3 (by omega), ?_⟩
              rw [hg'.block D' (by omega) g3, hcA.block g2]
              exact g4
          have HN2 : Hid ((D :: Ds).Nodup) := List.nodup_cons.2 ⟨fun h => by have := (hDs.out D h).2.1; omega, hnd⟩
          have hK8 : j + 1 ≤ 400 := by
            have := (nd_sizes (hok _ (List.mem_of_getElem? HN.out))).2.1
            simp only at this
            omega
          have ej := Lib.hid (wrap_one hK8)
          clear hK8
          rw [hsucc.out] at HJ
          clear hj' hg' hD3
          gi_wp2
          rw [ej.out]
          exact ⟨⟨j + 1, M', D :: Ds, _, _, _, _, _, _, _, _, _, _, _, _, _, _, by omega, HJ, HG, HD, HN2.out, rfl⟩, step_one hlt⟩
      have hEnd : Hid (J (q ++ (E ++ K.flatMap (recsD l d))) M2 wk) := by
        have := hJk.out
        rw [List.take_of_length_le (by omega), List.append_assoc] at this
        exact this
      gi_wp2
      exact leaves_marks hH hb Ds wk (fun D hD => by obtain ⟨g1, g2, g3, g4⟩ := hDs.out D hD; exact ⟨by omega, g3, g4⟩) hnd hEnd.out ((hG0.out.trans hGk.out)) fun W' h1 h2 => ⟨_, results_none rfl _ _ _, ⟨_, rfl⟩, M2, h1, h2⟩
end Go.Proofs.Ytgebilpdinbfgaa

/- How many records a tree has. -/
namespace Go.Proofs.Ytgebilpdinbfgaa

/-- The levels beneath some nodes. -/
def levF (l : List Nd) (L : List Int) : Nat → List Int
  | 0 => L
  | k + 1 => (levF l L k).flatMap (kidsOf l)
set_option maxRecDepth 100000 in
theorem levF_shift (l : List Nd) (L : List Int) : ∀ k, levF l (L.flatMap (kidsOf l)) k = levF l L (k + 1)
  | 0 => rfl
  | k + 1 => by rw [levF, levF_shift l L k]; rfl
set_option maxRecDepth 100000 in
theorem lev_levF (l : List Nd) (root : Int) : ∀ k, lev l root k = levF l [root] k
  | 0 => rfl
  | k + 1 => by rw [lev, levF, lev_levF l root k]
def tot (l : List Nd) (L : List Int) : Nat → Nat
  | 0 => 0
  | k + 1 => tot l L k + (levF l L k).length
set_option maxRecDepth 100000 in
theorem tot_shift (l : List Nd) (L : List Int) : ∀ k, tot l L (k + 1) = L.length + tot l (L.flatMap (kidsOf l)) k
  | 0 => by simp [tot, levF]
  | k + 1 => by rw [tot, tot_shift l L k, tot, levF_shift]; omega
set_option maxRecDepth 100000 in
theorem Hist.tot {l : List Nd} {root : Int} : ∀ {k : Nat} {bs : List Bool}, Hist l root k bs → bs.countP (fun b => !b) + tot l [root] k = l.length
  | 0, bs, h => by
    have h : bs = _ := h
    rw [h, Go.Proofs.Ytgebilpdinbfgaa.tot, List.countP_replicate]
    simp
  | k + 1, bs, ⟨b0, h1, _, h3⟩ => by
    have e1 := h1.tot
    have e2 := h3.count
    rw [lev_levF] at e2
    rw [Go.Proofs.Ytgebilpdinbfgaa.tot]
    omega
set_option maxRecDepth 100000 in
theorem flat_recs {l : List Nd} (d : Nat) (hE : ∀ n ∈ l, n.E.length ≤ 8) : ∀ L : List Int, (L.flatMap (recsD l (d + 1))).length ≤ 8 * L.length + ((L.flatMap (kidsOf l)).flatMap (recsD l d)).length
  | [] => by simp
  | x :: L => by
    have ih := flat_recs d hE L
    rw [List.flatMap_cons, List.length_append, List.flatMap_cons, List.flatMap_append, List.length_append, List.length_cons]
    have h1 : (recsD l (d + 1) x).length ≤ 8 + ((kidsOf l x).flatMap (recsD l d)).length := by
      rw [recsD]
      cases hn : ndOf l x with
      | none => simp
      | some n =>
        obtain ⟨_, _, h9⟩ := nd_of_in hn
        have := hE n (List.mem_of_getElem? h9)
        rw [kids_of h9]
        simp only [List.length_append]
        omega
    omega
set_option maxRecDepth 100000 in
theorem recs_tot {l : List Nd} (hE : ∀ n ∈ l, n.E.length ≤ 8) : ∀ (d : Nat) (L : List Int), (L.flatMap (recsD l d)).length ≤ 8 * tot l L d
  | 0, L => by
    have : L.flatMap (recsD l 0) = [] := List.flatMap_eq_nil_iff.2 fun _ _ => rfl
    rw [this]; simp
  | d + 1, L => by
    have h1 := flat_recs d hE L
    have h2 := recs_tot hE d (L.flatMap (kidsOf l))
    rw [tot_shift]
    omega
set_option maxRecDepth 100000 in
/-- The depth of a tree, its levels' marks, and how many records it has at most. -/
theorem LinkP.all {l : List Nd} {root : Int} (hok : NdsOk l) (h : LinkP l root) : ∃ d bs, 0 < d ∧ d ≤ l.length ∧ Deep l d root ∧ Hist l root d bs ∧ lev l root d = [] ∧ (∀ (i : Nat) (n : Nd), l[i]? = some n → n.kd ≠ 0 → bs[i]? = some true) ∧ (recsD l d root).length ≤ 8 * l.length := by
  obtain ⟨m, bs, h1, h2, h3⟩ := h
  cases m with
  | zero => cases h2
  | succ m =>
    have e1 := h1.short
    have e2 := h1.tot
    have e3 := recs_tot (fun n hn => (nd_sizes (hok n hn)).1) (m + 1) [root]
    rw [List.flatMap_singleton] at e3
    exact ⟨m + 1, bs, by omega, by omega, h1.deep hok h2 m 0 (by omega) root (List.mem_singleton.2 rfl), h1, h2, h3, by omega⟩
end Go.Proofs.Ytgebilpdinbfgaa

/- tree.All. -/
namespace Go.Proofs.Ytgebilpdinbfgaa
open Go.RowKit Go.Shelf
attribute [local go_sem] Oper.semAt_some

set_option maxRecDepth 100000 in
/-- append(out, e), with where the row then lies. -/
theorem run_append_el (w : World) (ty : TypeId) (base : Nat) (v : Value) (l : List El) (hown : OwnR base w v l) (g t : Nat) (e : El) (fr : Nat × Nat)
    (hg : w.heap[g]? = some (.cells #[.int .i64 e.p, .int .i64 e.o, .int .i64 e.f, .int .i64 e.m, .int .i64 e.g, .string e.s] t fr)) (hl : l.length ≤ 1000000) (hbase : base ≤ w.heap.size) :
    ∃ v' w', (Builtin.append_ #[27, 27] ty #[v, .slice (some ⟨g, 0, none⟩) 1 1]).run Try.prog w = .ok v' w' ∧ OwnR base w' v' (l ++ [e]) ∧ w.grownBy w' v.ownBlock ∧ (∀ k, v'.ownBlock = some k → v.ownBlock = some k ∨ w.heap.size ≤ k) := by
  obtain ⟨i0, hi, hz0, hz1, hz2⟩ := info_parts infoElem
  have hnews : ∀ j u, (El.cells e)[j]? = some u → w.cell? ((⟨g, 0, none⟩ : Addr).add j) = some u := fun j u hj => by
    have : (⟨g, 0, none⟩ : Addr).add j = ⟨g, j, none⟩ := by unfold Addr.add; split <;> simp_all
    rw [this, cell_of_row w g j _ t fr hg, ← hj]
    simp [El.cells]
  obtain ⟨v', w', hr, h1, h2, -⟩ := run_append_own (P := Try.prog) w base 27 ty 33 i0 _ 6 56 Try.underlying27 hi hz0 hz1 hz2 rfl (by decide) v _ _ hown ⟨g, 0, none⟩ 1 1 (El.cells e) rfl hnews (cells_one _) (by unfold maxLen; omega) (by omega) hbase
  refine ⟨v', w', hr, ?_, h2, ?_⟩
  · unfold OwnR
    rw [List.length_append, cellsOf_snoc]
    exact h1
  · intro k hk
    rcases hown.2 with ⟨rfl, h0⟩ | ⟨g', cap, cur, rfl, hbg, hg', hnc, hcm, hcs, htake⟩
    · have hr2 := run_append_nil (P := Try.prog) w 27 ty 33 i0 _ Try.underlying27 hi hz0 ⟨g, 0, none⟩ 1 1 (El.cells e) (by rw [hz1]; rfl) hnews (by omega) (by omega) (by rw [hz2]; omega)
      rw [hr] at hr2
      injection hr2 with a b
      subst a
      injection hk with hk
      exact .inr (by simp at hk; omega)
    · by_cases hroom : l.length + 1 ≤ cap
      · have hr2 := run_append_room (P := Try.prog) w 27 ty 33 i0 Try.underlying27 hi g' l.length cap cur hg' ⟨g, 0, none⟩ 1 1 (El.cells e) (by rw [hz1]; rfl) hnews (cells_one _) hroom (by rw [hz1, hcs, show (El.cells e).length = 6 from rfl]; omega)
        rw [hr] at hr2
        injection hr2 with a b
        subst a
        injection hk with hk
        exact .inl (by rw [← hk]; rfl)
      · have holds := hown.cells (g := g') rfl
        have hr2 := run_append_grow (P := Try.prog) w 27 ty 33 i0 _ Try.underlying27 hi hz0 ⟨g', 0, none⟩ l.length cap (cellsOf l) (by rw [hz1, cellsOf_len]) holds ⟨g, 0, none⟩ 1 1 (El.cells e) (by rw [hz1]; rfl) hnews (by omega) (by omega) (growslice_fits (by omega) (by rw [hz2]; omega))
        rw [hr] at hr2
        injection hr2 with a b
        subst a
        injection hk with hk
        exact .inr (by simp at hk; omega)
set_option maxRecDepth 100000 in
theorem wpListIn_append_el {F : Fence} {n : Nat} {ops : Array Oper} {rest : List Oper} {o : Oper} {a : Act} {w : World} {Q : Exit → Act → World → Prop} (hgd : o.guard = none) (s x : Operand)
    (hop : o.op = .call { callee := .builtin .append, args := #[s, x], argTypes := #[27, 27] })
    (base : Nat) (v : Value) (l : List El) (hs : a.eval s = v) (hown : OwnR base w v l) (g t : Nat) (e : El) (fr : Nat × Nat)
    (hx : a.eval x = .slice (some ⟨g, 0, none⟩) 1 1) (hg : w.heap[g]? = some (.cells #[.int .i64 e.p, .int .i64 e.o, .int .i64 e.f, .int .i64 e.m, .int .i64 e.g, .string e.s] t fr)) (hl : l.length ≤ 1000000) (hbase : base ≤ w.heap.size)
    (hK : ∀ v' w', OwnR base w' v' (l ++ [e]) → w.grownBy w' v.ownBlock → (∀ k, v'.ownBlock = some k → v.ownBlock = some k ∨ w.heap.size ≤ k) → wpListIn F n Try.prog ops Q rest (a.put o.dst v') w') : wpListIn F n Try.prog ops Q (o :: rest) a w := by
  refine wpListIn_plain hgd fun K hK' => ?_
  obtain ⟨v', w', hrun, r1, r2, r3⟩ := run_append_el w o.type base v l hown g t e fr hg hl hbase
  unfold Oper.wpIn
  refine ⟨?_, ?_⟩
  · simp [Oper.about, hop, resolve, Target.leads, Sem.run_pure]
  · rw [Oper.semAt_plain F _ _ (by rw [hop]; intro c hc'; cases hc')]
    simp [execOp, hop, resolve, invoke, builtin, hs, hx, hrun, Result.andThen]
    exact hK' _ _ (hK v' w' r1 r2 r3)

/-- What All holds: its variable's box B, and the row that it owns. -/
def JAll (B : Nat) (q : List El) (M : Nat → Prop) (W : World) : Prop :=
  ∃ v, M = (fun k => k = B ∨ v.ownBlock = some k) ∧ W.heap[B]? = some (.cells #[v] 27 (0, 0)) ∧ OwnR (B + 1) W v q
set_option maxRecDepth 100000 in
theorem OwnR.same {base : Nat} {w w' : World} {v : Value} {l : List El} (h : OwnR base w v l) (hb : ∀ k, v.ownBlock = some k → w'.heap[k]? = w.heap[k]?) : OwnR base w' v l := by
  refine ⟨h.1, ?_⟩
  rcases h.2 with h1 | ⟨g, cap, cur, rfl, h2, h3, h4⟩
  · exact .inl h1
  · exact .inr ⟨g, cap, cur, rfl, h2, (hb g rfl).trans h3, h4⟩
def JAllV (B : Nat) (v : Value) (q : List El) (M : Nat → Prop) (W : World) : Prop :=
  M = (fun k => k = B ∨ v.ownBlock = some k) ∧ W.heap[B]? = some (.cells #[v] 27 (0, 0)) ∧ OwnR (B + 1) W v q
set_option maxRecDepth 100000 in
theorem JAllV.hold (B base : Nat) (v : Value) : Hold base (JAllV B v) := by
  constructor
  · rintro q M W ⟨rfl, h1, h2⟩ k hk
    rcases hk with rfl | hk
    · exact (Array.getElem?_eq_some_iff.1 h1).1
    · exact (h2.lt k hk).2
  · rintro q M W W' ⟨rfl, h1, h2⟩ - - - hsz hs
    refine ⟨rfl, (hs B (Array.getElem?_eq_some_iff.1 h1).1 (.inl (.inl rfl))).trans h1, h2.same fun k hk => hs k (h2.lt k hk).2 (.inl (.inr hk))⟩
set_option maxRecDepth 100000 in
theorem JAll.hold (B base : Nat) : Hold base (JAll B) := by
  constructor
  · rintro q M W ⟨v, h⟩
    exact (JAllV.hold B base v).lt h
  · rintro q M W W' ⟨v, h⟩ e1 e2 e3 hsz hs
    exact ⟨v, (JAllV.hold B base v).keep h e1 e2 e3 hsz hs⟩
set_option maxRecDepth 100000 in
theorem OwnR.slice {base : Nat} {w : World} {v : Value} {l : List El} (h : OwnR base w v l) : ∃ A c, v = .slice A l.length c := by
  rcases h.2 with ⟨rfl, h0⟩ | ⟨g, cap, cur, rfl, -⟩
  · rw [h0]; exact ⟨_, _, rfl⟩
  · exact ⟨_, _, rfl⟩
set_option maxRecDepth 100000 in
theorem OwnR.weaken {base base' : Nat} {w : World} {v : Value} {l : List El} (h : OwnR base w v l) (hb : base' ≤ base) : OwnR base' w v l := by
  refine ⟨h.1, ?_⟩
  rcases h.2 with h1 | ⟨g, cap, cur, h1, h2, h3⟩
  · exact .inl h1
  · exact .inr ⟨g, cap, cur, h1, Nat.le_trans hb h2, h3⟩
/-- All records of a tree, in order. -/
noncomputable def allOf (l : List Nd) (root : Int) : List El := recsD l (depthOf l root) root

set_option maxRecDepth 100000 in
set_option maxHeartbeats 8000000 in
theorem treeAll_any (root : Int) (A : Option Addr) (c : Nat) (l : List Nd) (w : World) (h : TrAt w A l) :
    Calls Try.prog 16 #[.agg #[.int .i64 root, .slice A l.length c]] w fun e w' => ∃ v, e = .returned (.tuple #[v, .int .i64 (treeErr l root)]) ∧ OwnR w.heap.size w' v (if treeErr l root = 0 then allOf l root else []) ∧ Calm w w' := by
  have hx := heap_new w (.cells #[.int .i64 root, .slice A l.length c] 24)
  have hu := (Calm.refl w).alloc (.cells #[.int .i64 root, .slice A l.length c] 24)
  have cC := fun u (hu : Calm w u) => treeCheck_any root A c l u (h.calm hu)
  by_cases hz : treeErr l root = 0
  rotate_left
  · have b1 : (treeErr l root != 0) = true := by rw [bne_iff_ne]; exact hz
    rw [if_neg hz]
    generalize treeErr l root = R at cC b1 ⊢
    clear h hz
    go_enter Try.func16, Try.ntmps16
    obtain ⟨x0, x1, hxs⟩ := rowT hx
    go_wp2_with (go_at_call 37; (with_reducible refine (cC _ hu).mono ?_); rintro e w1 ⟨rfl, hb1⟩; have hu1 := hu.call hb1; clear hb1)
    go_ret2
    exact ⟨_, rfl, OwnR.nil _ _, hu1⟩
  obtain ⟨hl4, hok, hG⟩ := treeErr_zero.1 hz
  obtain ⟨d, -, -, hdl, hD, -, -, -, hlen⟩ := hG.1.all hok
  rw [if_pos hz]
  have hall : allOf l root = recsD l d root := by unfold allOf; rw [depthOf_eq hok hD]
  rw [hall]
  rw [hz] at cC ⊢
  refine callsIn_wide (n := 3).1 ?_
  refine callsIn_of_wp_marks Try.func16 rfl trivial ?_ rfl
  simp only [Try.ntmps16, List.size_toArray, List.length_cons, List.length_nil, Nat.reduceAdd, Nat.reduceSub, Array.replicate_succ, Array.replicate_zero, List.push_toArray, List.append_toArray, List.nil_append, List.cons_append]
  obtain ⟨x0, x1, hxs⟩ := rowT hx
  gi_wp2
  refine ⟨trivial, (callsIn_wide.2 (cC _ hu)).mono ?_⟩
  rintro e w1 ⟨rfl, hb1⟩
  have hx1 := (hb1.block (by simp)).trans hx
  have hu1 := hu.call hb1
  have hw1 := hb1.size
  simp only [World.size_alloc] at hw1
  have hbox := heap_new w1 (.cells #[.slice none 0 0] 27)
  have hcA := ((Calm.refl w1).alloc (.cells #[.slice none 0 0] 27))
  have hx2 := (hcA.block (Array.getElem?_eq_some_iff.1 hx1).1).trans hx1
  clear hb1 x0 x1 hxs cC
  obtain ⟨x0, x1, hxs⟩ := rowT hx1
  gi_wp2
  refine ⟨trivial, (callsIn_wide.2 (treeRecords_any _ _ _ _ _ _)).mono ?_⟩
  rintro e w' ⟨rfl, rfl⟩
  gi_wp2
  have hb1 := heap_new (w1.alloc (.cells #[.slice none 0 0] 27)) (.cells #[.int .i64 root, .slice A l.length c] 24)
  have hb2 := heap_new ((w1.alloc (.cells #[.slice none 0 0] 27)).alloc (.cells #[.int .i64 root, .slice A l.length c] 24)) (.cells #[.int .i64 root] 3)
  have hcB := ((Calm.refl (w1.alloc (.cells #[.slice none 0 0] 27))).alloc (.cells #[.int .i64 root, .slice A l.length c] 24)).alloc (.cells #[.int .i64 root] 3)
  have hb1' := (((Calm.refl _).alloc (.cells #[.int .i64 root] 3)).block (by simp)).trans hb1
  have hbox' := (hcB.block (by simp)).trans hbox
  have hszB : (((w1.alloc (.cells #[.slice none 0 0] 27)).alloc (.cells #[.int .i64 root, .slice A l.length c] 24)).alloc (.cells #[.int .i64 root] 3)).heap.size = w1.heap.size + 3 := by simp
  have hc2 := (hu1.call hcA).call hcB
  simp only [World.size_alloc] at hb1' hb2
  clear hx2 hcB hb1 hbox hcA
  obtain ⟨WA, hWA⟩ : ∃ WA, ((w1.alloc (.cells #[.slice none 0 0] 27)).alloc (.cells #[.int .i64 root, .slice A l.length c] 24)).alloc (.cells #[.int .i64 root] 3) = WA := ⟨_, rfl⟩
  rw [hWA] at hb1' hb2 hbox' hszB hc2 ⊢
  clear hWA
  have hJ0 : JAll w1.heap.size [] (fun k => k = w1.heap.size ∨ (Value.slice none 0 0).ownBlock = some k) WA := ⟨_, rfl, hbox', OwnR.nil _ _⟩
  have hn0 : ∀ k, (k = w1.heap.size ∨ (Value.slice none 0 0).ownBlock = some k) → k = w1.heap.size := fun k hk => hk.elim id (fun h => by cases h)
  have HLEN := Lib.hid (show (recsD l d root).length ≤ 3200 by omega)
  refine wpIn_range_gives (f := 65) (lb := #[.pointer (some ⟨w1.heap.size + 1, 0, none⟩), .pointer (some ⟨w1.heap.size + 1 + 1, 0, none⟩)]) ?hg (enters_of Try.func65 (by kernel_rfl) rfl) (encs := encE) ?hps
    (recs_gives root A c l w h hok (hG.1.kids hok) d root hD (w1.heap.size + 1) (w1.heap.size + 1 + 1)) (JAll.hold w1.heap.size 0) (Nat.zero_le _) (q0 := []) hJ0
    (fun W1 h1 => ⟨hc2.call h1, fun k hk => hk.elim (fun h => by rw [hn0 k h]; omega) (fun h => by omega), (h1.block (by omega)).trans hb1', (h1.block (by omega)).trans hb2, fun h => h.elim (fun h => by have := hn0 _ h; omega) (by omega), fun h => h.elim (fun h => by have := hn0 _ h; omega) (by omega)⟩)
    (fun e a' W' => ∃ B : Nat, W'.heap[B]? = some (.cells #[.int .i64 e.p, .int .i64 e.o, .int .i64 e.f, .int .i64 e.m, .int .i64 e.g, .string e.s] 33 (0, 0)) ∧ a' = { tmps := #[.agg #[.int .i64 root, .slice A l.length c], .pointer (some ⟨w.heap.size, 0, none⟩), .slice none 0 0, .int .i64 0, .int .i64 0, .pointer (some ⟨w1.heap.size, 0, none⟩), .pointer (some ⟨B, 0, none⟩), .agg #[.int .i64 root, .slice A l.length c], .int .i64 0, .int .i64 0, .bool false, undef,
      .agg #[.int .i64 root, .slice A l.length c], .pointer (some ⟨w.heap.size, 0, none⟩), .int .i64 root, .func (.func 65) #[] #[.pointer (some ⟨w1.heap.size + 1, 0, none⟩), .pointer (some ⟨w1.heap.size + 1 + 1, 0, none⟩)], .agg #[.int .i64 e.p, .int .i64 e.o, .int .i64 e.f, .int .i64 e.m, .int .i64 e.g, .string e.s], undef, undef, undef, undef, undef], defers := [] })
    (fun e a' W' L' r r' hx hl => by
      obtain ⟨B, h1, h2⟩ := hx
      exact ⟨B, (World.putObj_heap_other (fun e => by subst e; rw [h1] at hl; cases hl)).trans h1, h2⟩)
    ?assign ?body ?done
  case hg => rfl
  case hps => intro _; rfl
  case assign =>
    intro m L' q' M' e W' KK hq hj' hg' hK
    gi_wp2
    exact hK _ _ ((JAll.hold _ 0).alloc hj' _) ((Grow.refl _ _).alloc _) ⟨W'.heap.size, heap_new _ _, rfl⟩
  case body =>
    rintro m L' q' M' e a' W' hq ⟨v, rfl, hj1, hj2⟩ hg' ⟨B, hB, rfl⟩
    simp only [List.nil_append] at hj2
    obtain ⟨x0, x1, x2, x3, x4, x5, hxl⟩ := row6 hB
    have hBl := (Array.getElem?_eq_some_iff.1 hj1).1
    have cB : W'.cell? ⟨w1.heap.size, 0, none⟩ = some v := cell_of_row W' w1.heap.size 0 _ _ (0, 0) hj1
    have hql : q'.length ≤ 1000000 := by have := HLEN.out; omega
    have hnE := heap_new W' (.cells #[.int .i64 e.p, .int .i64 e.o, .int .i64 e.f, .int .i64 e.m, .int .i64 e.g, .string e.s] 33)
    obtain ⟨A9, c9, hv9⟩ := hj2.slice
    subst hv9
    have hown1 := Lib.hid (hj2.calm ((Calm.refl _).alloc (.cells #[.int .i64 e.p, .int .i64 e.o, .int .i64 e.f, .int .i64 e.m, .int .i64 e.g, .string e.s] 33)))
    have hj1a := Lib.hid ((((Calm.refl W').alloc (.cells #[.int .i64 e.p, .int .i64 e.o, .int .i64 e.f, .int .i64 e.m, .int .i64 e.g, .string e.s] 33)).block hBl).trans hj1)
    have hne : Hid (∀ k, (Value.slice A9 q'.length c9).ownBlock = some k → k ≠ w1.heap.size) := show ∀ _, _ from fun k hk he => by have := (hj2.lt k hk).1; omega
    clear hj2 hB
    iterate 12 (first | gi_at_builtin | gi_step | go_values | gi_upon | go_simp)
    refine wpListIn_append_el rfl _ _ rfl (w1.heap.size + 1) (.slice A9 q'.length c9) q' rfl hown1.out W'.heap.size _ e (0, 0) rfl hnE hql (by simp; omega) ?_
    intro v' w9 ho9 hg9 hs9
    obtain ⟨A8, c8, hv8⟩ := ho9.slice
    subst hv8
    have hB9 := (hg9.block w1.heap.size (by simp; omega) (fun h => hne.out _ h.symm rfl)).trans hj1a.out
    have HO9 := Lib.hid ho9
    have HG9 := Lib.hid hg9
    have HS9 := Lib.hid hs9
    clear ho9 hg9 hs9
    have f9 := frozen_of_row w9 w1.heap.size 0 _ _ hB9
    have cB9 := cell_of_row w9 w1.heap.size 0 _ _ (0, 0) hB9
    gi_wp2
    have hs9 := HG9.out.size
    rw [World.size_alloc] at hs9
    have hown9 : OwnR (w1.heap.size + 1) (w9.setCell ⟨w1.heap.size, 0, none⟩ (.slice A8 (q' ++ [e]).length c8)) (.slice A8 (q' ++ [e]).length c8) (q' ++ [e]) := HO9.out.same fun k hk => heap_setCell_other w9 ⟨w1.heap.size, 0, none⟩ k _ (by have := (HO9.out.lt k hk).1; simp only; omega)
    refine ⟨fun k => k = w1.heap.size ∨ (Value.slice A8 (q' ++ [e]).length c8).ownBlock = some k, ⟨.slice A8 (q' ++ [e]).length c8, rfl, ?_, ?_⟩, ?_⟩
    · have := heap_setCell_same w9 w1.heap.size 0 _ _ (.slice A8 (q' ++ [e]).length c8) hB9
      simpa using this
    · simpa using hown9
    · have g1 : Grow (fun k => k = w1.heap.size ∨ (Value.slice A9 q'.length c9).ownBlock = some k) (fun k => k = w1.heap.size ∨ (Value.slice A8 (q' ++ [e]).length c8).ownBlock = some k) (W'.alloc (.cells #[.int .i64 e.p, .int .i64 e.o, .int .i64 e.f, .int .i64 e.m, .int .i64 e.g, .string e.s] 33)) w9 :=
        ⟨HG9.out.os, HG9.out.tape, HG9.out.output, HG9.out.size, fun k hk hn => HG9.out.block k hk (fun h => hn (.inr h.symm)), fun k hk => hk.elim (fun h => .inl (.inl h)) (fun h => (HS9.out k h).elim (fun h => .inl (.inr h)) .inr)⟩
      have g2 := ((Grow.refl _ W').alloc _).trans g1
      have g3 := grown_set w9 w1.heap.size 0 (.slice A8 (q' ++ [e]).length c8)
      have g4 : Grow (fun k => k = w1.heap.size ∨ (Value.slice A8 (q' ++ [e]).length c8).ownBlock = some k) (fun k => k = w1.heap.size ∨ (Value.slice A8 (q' ++ [e]).length c8).ownBlock = some k) w9 (w9.setCell ⟨w1.heap.size, 0, none⟩ (.slice A8 (q' ++ [e]).length c8)) :=
        ⟨g3.os, g3.tape, g3.output, g3.size, fun k hk hn => g3.block k hk (fun h => hn (.inl (by injection h))), fun _ h => .inl h⟩
      simpa using g2.trans g4
  case done =>
    rintro D M' W' hD1 hD2 hD3 ⟨v, rfl, hj1, hj2⟩ hg'
    obtain ⟨A9, c9, hv9⟩ := hj2.slice
    subst hv9
    have hBl := (Array.getElem?_eq_some_iff.1 hj1).1
    have cB := cell_of_row W' w1.heap.size 0 _ _ (0, 0) hj1
    have HJ : JAllV w1.heap.size (.slice A9 (recsD l d root).length c9) (recsD l d root) (fun k => k = w1.heap.size ∨ (Value.slice A9 (recsD l d root).length c9).ownBlock = some k) W' := ⟨rfl, hj1, hj2⟩
    have HG := Lib.hid hg'
    have hM9 : ∀ k, (k = w1.heap.size ∨ (Value.slice none 0 0).ownBlock = some k) → w.heap.size ≤ k := fun k hk => by rw [hn0 k hk]; omega
    clear hj1 hj2 hg'
    gi_wp2
    refine leaves_marks (JAllV.hold w1.heap.size 0 _) (w := WA) (Nat.zero_le _) [D] W' (fun D' hD' => by rw [List.mem_singleton.1 hD']; exact ⟨hD1, hD2, hD3⟩) (by simp) HJ HG.out fun W3 h1 h2 => ⟨_, results_tmp2 rfl _ _ _, _, rfl, ?_, hc2.grow h2 hM9⟩
    exact h1.2.2.weaken (by omega)
end Go.Proofs.Ytgebilpdinbfgaa

/- A tree's records rise, and how many it has at least. -/
namespace Go.Proofs.Ytgebilpdinbfgaa

def sL (a b : Sp) : Prop := sLt (a.p, a.o, a.f) a.m (b.p, b.o, b.f) b.m
set_option maxRecDepth 100000 in
theorem sL_trans {a b c : Sp} (h : sL a b) (k : sL b c) : sL a c := sLt_trans h k
set_option maxRecDepth 100000 in
theorem inB_iff {lo hi s : Sp} : inB lo hi s ↔ ¬ sL s lo ∧ sL s hi := by
  unfold inB sL
  rw [scmp_le]
  constructor
  · rintro ⟨h1, h2⟩
    refine ⟨h1, ?_⟩
    have h := scmp_sLt (a := ⟨s.p, s.o, s.f, s.m, 0, ByteArray.empty⟩) (b := ⟨hi.p, hi.o, hi.f, hi.m, 0, ByteArray.empty⟩)
    simp only [El.key] at h
    refine h.1 ?_
    rcases scmp_or s.p s.o s.f s.m hi.p hi.o hi.f hi.m with h3 | h3 | h3 <;> omega
  · rintro ⟨h1, h2⟩
    refine ⟨h1, ?_⟩
    have h := scmp_sLt (a := ⟨s.p, s.o, s.f, s.m, 0, ByteArray.empty⟩) (b := ⟨hi.p, hi.o, hi.f, hi.m, 0, ByteArray.empty⟩)
    simp only [El.key] at h
    rw [h.2 h2]; omega
set_option maxRecDepth 100000 in
/-- s is not ahead of lo. -/
theorem sL_le_trans {a b c : Sp} (h : sL a b) (k : ¬ sL c b) : sL a c := by
  rcases sLt_tri (a.p, a.o, a.f) a.m (c.p, c.o, c.f) c.m with h1 | h1 | h1
  · exact h1
  · obtain ⟨h2, h3⟩ := h1
    exfalso; apply k
    unfold sL at h ⊢
    rw [← h2, ← h3]; exact h
  · exact absurd (sLt_trans h1 h) k
set_option maxRecDepth 100000 in
theorem rise_sp {a b : El} : Rise a b ↔ sL a.sp b.sp := Iff.rfl
set_option maxRecDepth 100000 in
theorem seps_rise {S : List Sp} (h : (S.map Sp.el).Pairwise Rise) : S.Pairwise sL := by
  rw [List.pairwise_map] at h
  exact h
set_option maxRecDepth 100000 in
/-- What is behind one separator and ahead of another. -/
theorem sL_irrefl {a : Sp} (h : sL a a) : False := sLt_irrefl _ _ h
set_option maxRecDepth 100000 in
theorem bdLo_at {S : List Sp} {lo : Sp} {j : Nat} (h0 : 0 < j) (hj : j ≤ S.length) : bdLo S lo j = S[j - 1]'(by omega) := by
  unfold bdLo
  rw [if_neg (by omega), List.getElem?_eq_getElem (by omega)]
  rfl
set_option maxRecDepth 100000 in
theorem bdHi_at {S : List Sp} {hi : Sp} {j : Nat} (hj : j < S.length) : bdHi S hi j = S[j] := by
  unfold bdHi
  rw [List.getElem?_eq_getElem hj]
  rfl
set_option maxRecDepth 100000 in
theorem bdHi_end {S : List Sp} {hi : Sp} {j : Nat} (hj : S.length ≤ j) : bdHi S hi j = hi := by
  unfold bdHi
  rw [List.getElem?_eq_none hj]
  rfl
set_option maxRecDepth 100000 in
/-- A flat map over a list, by its places. -/
theorem pairwise_flat {α β : Type} {R : β → β → Prop} {f : α → List β} : ∀ {K : List α}, (∀ (j : Nat) (y : α), K[j]? = some y → (f y).Pairwise R) → (∀ (i j : Nat) (x y : α), i < j → K[i]? = some x → K[j]? = some y → ∀ a ∈ f x, ∀ b ∈ f y, R a b) → (K.flatMap f).Pairwise R
  | [], _, _ => List.Pairwise.nil
  | x :: K, h1, h2 => by
    rw [List.flatMap_cons, List.pairwise_append]
    refine ⟨h1 0 x rfl, pairwise_flat (fun j y hy => h1 (j + 1) y (by simpa using hy)) (fun i j a b hij ha hb => h2 (i + 1) (j + 1) a b (by omega) (by simpa using ha) (by simpa using hb)), fun a ha b hb => ?_⟩
    obtain ⟨y, hy, hb⟩ := List.mem_flatMap.1 hb
    obtain ⟨j, hj, rfl⟩ := List.getElem_of_mem hy
    exact h2 0 (j + 1) x _ (by omega) rfl (by rw [List.getElem?_cons_succ]; exact List.getElem?_eq_getElem hj) a ha b hb
set_option maxRecDepth 100000 in
/-- The records beneath a node whose spots are within bounds rise, within them. -/
theorem ord_recs {l : List Nd} (hok : NdsOk l) : ∀ (d : Nat) (x : Int) (lo hi : Sp), Deep l d x → OrdP l d x lo hi → (recsD l d x).Pairwise Rise ∧ ∀ e ∈ recsD l d x, inB lo hi e.sp
  | 0, _, _, _, h, _ => absurd h id
  | d + 1, x, lo, hi, ⟨n, hn, hc⟩, ho => by
    obtain ⟨o1, o2, o3⟩ := ho n hn
    have hr : recsD l (d + 1) x = n.E ++ n.K.flatMap (recsD l d) := by rw [recsD, hn]
    have h9 := hok n (List.mem_of_getElem? (nd_of_in hn).2.2)
    rw [hr]
    rcases hc with ⟨hk, -⟩ | ⟨hk, hkids⟩
    · rw [hk] at h9
      obtain ⟨l1, l2, l3, l4, l5, l6⟩ := leaf_good h9
      rw [List.eq_nil_of_length_eq_zero l1]
      simp only [List.flatMap_nil, List.append_nil]
      exact ⟨l6, o1⟩
    · rw [hk] at h9
      obtain ⟨g1, g2, g3, g4, g5, g6, g7, g8⟩ := inner_good h9
      have hS := seps_rise g8
      rw [List.eq_nil_of_length_eq_zero g1]
      simp only [List.nil_append]
      have ih := fun (j : Nat) (y : Int) (hy : n.K[j]? = some y) => ord_recs hok d y _ _ (hkids y (List.mem_of_getElem? hy)) (o3 j y hy)
      have hlt : ∀ {j : Nat} {y : Int}, n.K[j]? = some y → j ≤ n.S.length := fun hy => by have := (List.getElem?_eq_some_iff.1 hy).1; omega
      -- a child's bounds lie within the node's
      have hlo : ∀ {j : Nat} {y : Int}, n.K[j]? = some y → ∀ s : Sp, inB (bdLo n.S lo j) (bdHi n.S hi j) s → inB lo hi s := fun {j y} hy s hs => by
        have hjs := hlt hy
        rw [inB_iff] at hs ⊢
        constructor
        · intro h1
          rcases Nat.eq_zero_or_pos j with h0 | h0
          · subst h0
            exact hs.1 h1
          · rw [bdLo_at h0 hjs] at hs
            have h2 := (inB_iff.1 (o2 _ (List.getElem_mem (by omega : j - 1 < n.S.length)))).1
            exact hs.1 (sL_le_trans h1 h2)
        · rcases Nat.lt_or_ge j n.S.length with h0 | h0
          · have h3 := hs.2
            rw [bdHi_at h0] at h3
            exact sL_trans h3 (inB_iff.1 (o2 _ (List.getElem_mem h0))).2
          · have h3 := hs.2
            rw [bdHi_end h0] at h3
            exact h3
      refine ⟨pairwise_flat (fun j y hy => (ih j y hy).1) fun i j a b hij ha hb e he e' he' => ?_, fun e he => ?_⟩
      · have h1 := (inB_iff.1 ((ih i a ha).2 e he)).2
        have h2 := (inB_iff.1 ((ih j b hb).2 e' he')).1
        have hjs := hlt hb
        rw [bdHi_at (by omega)] at h1
        rw [bdLo_at (by omega) hjs] at h2
        refine rise_sp.2 (sL_le_trans h1 fun h3 => h2 ?_)
        rcases Nat.lt_or_ge i (j - 1) with h4 | h4
        · exact sL_trans h3 (List.pairwise_iff_getElem.1 hS i (j - 1) (by omega) (by omega) h4)
        · have : i = j - 1 := by omega
          subst this
          exact h3
      · obtain ⟨y, hy, he⟩ := List.mem_flatMap.1 he
        obtain ⟨j, hj, rfl⟩ := List.getElem_of_mem hy
        exact hlo (List.getElem?_eq_getElem hj) _ ((ih j _ (List.getElem?_eq_getElem hj)).2 e he)

set_option maxRecDepth 100000 in
/-- Each node beneath the root has four records or children: so many records are beneath it. -/
theorem flat_least {α β : Type} {f : α → List β} {m : Nat} : ∀ {K : List α}, (∀ y ∈ K, m ≤ (f y).length) → K.length * m ≤ (K.flatMap f).length
  | [], _ => by simp
  | x :: K, h => by
    have h1 := flat_least (K := K) fun y hy => h y (List.mem_cons_of_mem _ hy)
    have h2 := h x (List.mem_cons_self ..)
    rw [List.flatMap_cons, List.length_append, List.length_cons, Nat.add_mul, Nat.one_mul]
    omega
set_option maxRecDepth 100000 in
theorem fill_recs {l : List Nd} {root : Int} {D : Nat} (hok : NdsOk l) (hF : FillP root l) (hR : Deep l D root) : ∀ (d : Nat) (x : Int), Deep l d x → d < D → 4 ^ d ≤ (recsD l d x).length
  | 0, _, h, _ => absurd h id
  | d + 1, x, hD, hlt => by
    have hx : x ≠ root := fun h => by
      subst h
      have := Deep.one hok hD hR
      omega
    obtain ⟨n, hn, hc⟩ := hD
    obtain ⟨i1, i2, i3⟩ := nd_of_in hn
    have hr : recsD l (d + 1) x = n.E ++ n.K.flatMap (recsD l d) := by rw [recsD, hn]
    have h9 := hok n (List.mem_of_getElem? i3)
    have hfill := hF x.toNat n i3 (by omega)
    rw [hr, List.length_append]
    rcases hc with ⟨hk, rfl⟩ | ⟨hk, hkids⟩
    · rw [hk] at h9 hfill
      obtain ⟨l1, -⟩ := leaf_good h9
      have := hfill (by omega)
      omega
    · rw [hk] at h9 hfill
      obtain ⟨g1, -⟩ := inner_good h9
      have h4 := hfill (by omega)
      have h5 := flat_least (m := 4 ^ d) fun y hy => fill_recs hok hF hR d y (hkids y hy) (by omega)
      have h6 : 4 * 4 ^ d ≤ n.K.length * 4 ^ d := Nat.mul_le_mul_right _ (by omega)
      rw [Nat.pow_succ]
      omega
set_option maxRecDepth 100000 in
theorem fill_root {l : List Nd} {root : Int} {d : Nat} (hok : NdsOk l) (hF : FillP root l) (hR : Deep l (d + 2) root) : 2 * 4 ^ (d + 1) ≤ (recsD l (d + 2) root).length := by
  obtain ⟨n, hn, hc⟩ := id hR
  obtain ⟨i1, i2, i3⟩ := nd_of_in hn
  have hr : recsD l (d + 2) root = n.E ++ n.K.flatMap (recsD l (d + 1)) := by rw [recsD, hn]
  have h9 := hok n (List.mem_of_getElem? i3)
  rw [hr, List.length_append]
  rcases hc with ⟨hk, h0⟩ | ⟨hk, hkids⟩
  · omega
  · rw [hk] at h9
    obtain ⟨g1, g2, -⟩ := inner_good h9
    have h5 := flat_least (m := 4 ^ (d + 1)) fun y hy => fill_recs hok hF hR (d + 1) y (hkids y hy) (by omega)
    have h6 : 2 * 4 ^ (d + 1) ≤ n.K.length * 4 ^ (d + 1) := Nat.mul_le_mul_right _ g2
    omega
set_option maxRecDepth 100000 in
/-- A tree of one empty leaf. -/
theorem leaf_tree : treeErr [ndLeaf] 0 = 0 ∧ depthOf [ndLeaf] 0 = 1 := by
  have hok : NdsOk [ndLeaf] := fun n hn => by
    rw [List.mem_singleton.1 hn]
    show ndErr 1 [] [] [] [] = 0
    unfold ndErr leafErr
    rw [if_neg (by decide), if_pos rfl, if_neg (by simp), if_neg (by simp)]
    rfl
  have hD : Deep [ndLeaf] 1 0 := ⟨ndLeaf, rfl, .inl ⟨rfl, rfl⟩⟩
  refine ⟨treeErr_zero.2 ⟨by simp, hok, ⟨1, [true], ⟨[false], rfl, by simp [lev], ?_⟩, rfl, fun i n hi h0 => ?_⟩, fun i n hi hr => ?_, fun i n hi j x hx => ?_, 1, hD, fun n hn => ?_⟩, depthOf_eq hok hD⟩
  · refine ⟨⟨by omega, by simp, rfl, by simp [kindOf, ndLeaf], by simp [kindOf, headKind, lev, ndLeaf]⟩, rfl⟩
  · cases i with
    | zero => rfl
    | succ i => simp at hi
  · cases i with
    | zero => exact absurd rfl hr
    | succ i => simp at hi
  · cases i with
    | zero => simp at hi; subst hi; simp [ndLeaf] at hx
    | succ i => simp at hi
  · have : n = ndLeaf := by
      have : ndOf [ndLeaf] 0 = some ndLeaf := rfl
      rw [this] at hn
      exact (Option.some.inj hn).symm
    subst this
    exact ⟨fun e he => absurd he List.not_mem_nil, fun e he => absurd he List.not_mem_nil, fun j y hy => by simp [ndLeaf] at hy⟩
end Go.Proofs.Ytgebilpdinbfgaa

/- TreeDeep: the law's own walk. -/
namespace Go.Proofs.Ytgebilpdinbfgaa
open Go.RowKit

set_option maxRecDepth 100000 in
theorem recs_wf {w : World} {A : Option Addr} {l : List Nd} (h : TrAt w A l) : ∀ (d : Nat) (x : Int), ∀ e ∈ recsD l d x, e.wf
  | 0, _, e, he => absurd he List.not_mem_nil
  | d + 1, x, e, he => by
    rw [recsD] at he
    cases hn : ndOf l x with
    | none => rw [hn] at he; exact absurd he List.not_mem_nil
    | some n =>
      rw [hn] at he
      simp only at he
      rcases List.mem_append.1 he with he | he
      · exact (h.nd n (List.mem_of_getElem? (nd_of_in hn).2.2)).e.1 e he
      · obtain ⟨y, _, hy⟩ := List.mem_flatMap.1 he
        exact recs_wf h d y e hy
/-- What the law asks of a tree's records and its depth. -/
structure DeepOk (M : List El) (D : Nat) : Prop where
  one : 1 ≤ D
  least : 2 ≤ D → 2 * 4 ^ (D - 1) ≤ M.length
  most : M.length ≤ 3200
  rise : M.Pairwise Rise
set_option maxRecDepth 100000 in
theorem deep_ok {l : List Nd} {root : Int} (h : treeErr l root = 0) : DeepOk (allOf l root) (depthOf l root) := by
  obtain ⟨hl, hok, hG⟩ := treeErr_zero.1 h
  obtain ⟨d, bs, h0, hd, hD, h1, h2, h3, h4⟩ := hG.1.all hok
  have e1 := depthOf_eq hok hD
  unfold allOf
  rw [e1]
  refine ⟨h0, fun h2 => ?_, by omega, ?_⟩
  · obtain ⟨e, rfl⟩ : ∃ e, d = e + 2 := ⟨d - 2, by omega⟩
    exact fill_root hok hG.2.1 hD
  · obtain ⟨d', g1, g2⟩ := hG.2.2.2
    rw [Deep.one hok g1 hD] at g2
    exact (ord_recs hok d root _ _ hD g2).1

end Go.Proofs.Ytgebilpdinbfgaa

