/- Texts of one kind in one file. -/
import Derived.Lib.SliceRun
import Derived.Lib.Hide
import Derived.BigQuiet
import Derived.IntWalk
import Derived.Deep.RegionWith
import Derived.Test.YthfjanmihfbjoaaPkChangeSays1
set_option maxRecDepth 100000
namespace Go.Proofs.Ythfjanmihfbjoaa
structure Chg where
 p : Int
 o : Int
 f : Int
 hd : Bool
 hs : Bool
 ws : ByteArray
 vs : ByteArray
theorem Chg.ext_iff' {a b : Chg} : a = b ↔ a.p = b.p ∧ a.o = b.o ∧ a.f = b.f ∧ a.hd = b.hd ∧ a.hs = b.hs ∧ a.ws = b.ws ∧ a.vs = b.vs := by
 cases a; cases b; simp
instance : DecidableEq Chg := fun _ _ => decidable_of_iff _ Chg.ext_iff'.symm
structure St where
 th : Bool
 v : ByteArray
theorem St.ext_iff' {a b : St} : a = b ↔ a.th = b.th ∧ a.v = b.v := by cases a; cases b; simp
instance : DecidableEq St := fun _ _ => decidable_of_iff _ St.ext_iff'.symm
def Chg.key (c : Chg) : Int × Int × Int := (c.p, c.o, c.f)
def Chg.bef (c : Chg) : St := ⟨c.hd, c.ws⟩
def Chg.aft (c : Chg) : St := ⟨c.hs, c.vs⟩
def noS : St := ⟨false, { data := #[] }⟩
def mkC (k : Int × Int × Int) (a b : St) : Chg := ⟨k.1, k.2.1, k.2.2, a.th, b.th, a.v, b.v⟩
theorem mkC_key (k : Int × Int × Int) (a b : St) : (mkC k a b).key = k := rfl
def fitS (s : St) : Prop := s.th = true ∨ s.v.size = 0
instance (s : St) : Decidable (fitS s) := by unfold fitS; infer_instance
def Chg.err (c : Chg) : Int := if keyErr c.p c.o c.f = 0 then (if c.ws.size ≤ 40 ∧ c.vs.size ≤ 40 then (if fitS c.bef ∧ fitS c.aft ∧ c.bef ≠ c.aft then 0 else 3) else 2) else keyErr c.p c.o c.f
theorem Chg.err_zero {c : Chg} : c.err = 0 ↔ kErr c.key = 0 ∧ c.ws.size ≤ 40 ∧ c.vs.size ≤ 40 ∧ fitS c.bef ∧ fitS c.aft ∧ c.bef ≠ c.aft := by
 unfold Chg.err kErr Chg.key
 by_cases h1 : keyErr c.p c.o c.f = 0
 ·rw [if_pos h1]
  by_cases h2 : c.ws.size ≤ 40 ∧ c.vs.size ≤ 40
  ·rw [if_pos h2]
   by_cases h3 : fitS c.bef ∧ fitS c.aft ∧ c.bef ≠ c.aft
   ·rw [if_pos h3]; exact ⟨fun _ => ⟨h1, h2.1, h2.2, h3⟩, fun _ => rfl⟩
   ·rw [if_neg h3]; exact ⟨fun h => absurd h (by decide), fun h => absurd h.2.2.2 h3⟩
  ·rw [if_neg h2]; exact ⟨fun h => absurd h (by decide), fun h => absurd ⟨h.2.1, h.2.2.1⟩ h2⟩
 ·rw [if_neg h1]; exact ⟨fun h => absurd h h1, fun h => absurd h.1 h1⟩
def stepC (l : List Chg) (i : Nat) : Int :=
 match l[i]? with
 |none => 0
 |some c => if c.err ≠ 0 then c.err else
  match (if i = 0 then none else l[i - 1]?) with
  |none => 0
  |some q => if kLt q.key c.key then 0 else 3
def chErr (l : List Chg) : Int := if 400 < l.length then 2 else firstErr (stepC l) l.length
def KS (l : List Chg) : Prop := l.Pairwise fun a b => kLt a.key b.key
def GoodC (l : List Chg) : Prop := l.length ≤ 400 ∧ (∀ c ∈ l, c.err = 0) ∧ KS l
theorem stepC_zero {l : List Chg} {i : Nat} (hi : i < l.length) : stepC l i = 0 ↔ l[i].err = 0 ∧ (∀ h : 0 < i, kLt (l[i - 1]'(by omega)).key l[i].key) := by
 unfold stepC
 rw [List.getElem?_eq_getElem hi]
 simp only
 by_cases he : l[i].err = 0
 ·rw [if_neg (by simpa using he)]
  by_cases h0 : i = 0
  ·subst h0; simp [he]
  ·rw [if_neg h0, List.getElem?_eq_getElem (by omega)]
   simp only
   by_cases hF : kLt (l[i - 1]'(by omega)).key l[i].key
   ·simp [hF, he]
   ·simp only [hF, if_false]
    constructor
    ·intro h; omega
    ·intro h; exact absurd (h.2 (by omega)) id
 ·rw [if_pos he]; simp [he]
theorem ks_of_steps {l : List Chg} (h : ∀ i (hi : i + 1 < l.length), kLt l[i].key l[i + 1].key) : KS l := by
 unfold KS
 rw [List.pairwise_iff_getElem]
 intro i j hi hj hij
 obtain ⟨d, rfl⟩ : ∃ d, j = i + 1 + d := ⟨j - (i + 1), by omega⟩
 induction d with
 |zero => exact h i hj
 |succ d ih =>
  have := ih (by omega) (by omega)
  exact kLt_trans this (h (i + 1 + d) hj)
theorem chErr_zero {l : List Chg} : chErr l = 0 ↔ GoodC l := by
 unfold chErr GoodC
 by_cases hl : 400 < l.length
 ·rw [if_pos hl]; constructor
  ·intro h; omega
  ·intro h; omega
 ·rw [if_neg hl, firstErr_zero]
  constructor
  ·intro h
   refine ⟨by omega, fun e he => ?_, ks_of_steps fun i hi => ?_⟩
   ·obtain ⟨i, hi, rfl⟩ := List.getElem_of_mem he
    exact ((stepC_zero hi).1 (h i hi)).1
   ·exact ((stepC_zero hi).1 (h (i + 1) hi)).2 (by omega)
  ·rintro ⟨_, h1, h2⟩ i hi
   rw [stepC_zero hi]
   exact ⟨h1 _ (List.getElem_mem _), fun h => List.pairwise_iff_getElem.1 h2 (i - 1) i (by omega) hi (by omega)⟩
def fnd (l : List Chg) (k : Int × Int × Int) : Option Chg := l.find? fun c => decide (c.key = k)
theorem fnd_cons (x : Chg) (l : List Chg) (k : Int × Int × Int) : fnd (x :: l) k = if x.key = k then some x else fnd l k := by
 unfold fnd; rw [List.find?_cons]; by_cases h : x.key = k <;> simp [h]
theorem fnd_key {l : List Chg} {k : Int × Int × Int} {x : Chg} (h : fnd l k = some x) : x.key = k ∧ x ∈ l := by
 have h1 := List.find?_some h
 exact ⟨by simpa using h1, List.mem_of_find?_eq_some h⟩
theorem fnd_none {l : List Chg} {k : Int × Int × Int} : fnd l k = none ↔ ∀ x ∈ l, x.key ≠ k := by
 unfold fnd; rw [List.find?_eq_none]; simp
theorem KS.cons {x : Chg} {l : List Chg} : KS (x :: l) ↔ (∀ y ∈ l, kLt x.key y.key) ∧ KS l := List.pairwise_cons
theorem fnd_low {x : Chg} {l : List Chg} (h : KS (x :: l)) {k : Int × Int × Int} (hk : ¬ kLt x.key k) : fnd l k = none := fnd_none.2 fun y hy e => hk (e ▸ (KS.cons.1 h).1 y hy)
theorem fnd_mem {l : List Chg} (h : KS l) {x : Chg} (hx : x ∈ l) : fnd l x.key = some x := by
 induction l with
 |nil => simp at hx
 |cons y l ih =>
  rw [fnd_cons]
  rcases List.mem_cons.1 hx with rfl | h2
  ·rw [if_pos rfl]
  ·rw [if_neg (kLt_ne ((KS.cons.1 h).1 x h2)), ih (KS.cons.1 h).2 h2]
def revC (c : Chg) : Chg := mkC c.key c.aft c.bef
def revL (l : List Chg) : List Chg := l.map revC
theorem revL_ks {l : List Chg} (h : KS l) : KS (revL l) := by unfold KS revL; rw [List.pairwise_map]; exact h
theorem revC_err {c : Chg} (h : c.err = 0) : (revC c).err = 0 := by
 obtain ⟨h1, h2, h3, h4, h5, h6⟩ := Chg.err_zero.1 h
 exact Chg.err_zero.2 ⟨h1, h3, h2, h5, h4, fun e => h6 e.symm⟩
theorem fnd_rev (l : List Chg) (k : Int × Int × Int) : fnd (revL l) k = (fnd l k).map revC := by
 unfold fnd revL; rw [List.find?_map]; rfl
def comp : List Chg → List Chg → Option (List Chg)
 | [], b => some b
 |x :: a, [] => some (x :: a)
 |x :: a, y :: b =>
  if kLt x.key y.key then (comp a (y :: b)).map (x :: ·)
  else if kLt y.key x.key then (comp (x :: a) b).map (y :: ·)
  else if x.aft ≠ y.bef then none
  else if x.bef ≠ y.aft then (comp a b).map (mkC x.key x.bef y.aft :: ·)
  else comp a b
termination_by a b => a.length + b.length
def badAt : Option Chg → Option Chg → Prop
 |some x, some y => x.aft ≠ y.bef
 |_, _ => False
def compAt : Option Chg → Option Chg → Option Chg
 |none, y => y
 |some x, none => some x
 |some x, some y => if x.bef = y.aft then none else some (mkC x.key x.bef y.aft)
theorem comp_nil (b : List Chg) : comp [] b = some b := by unfold comp; rfl
theorem comp_nil' (a : List Chg) : comp a [] = some a := by cases a <;> (unfold comp; rfl)
theorem badAt_none (y : Option Chg) : ¬ badAt none y := by unfold badAt; simp
theorem badAt_none' (x : Option Chg) : ¬ badAt x none := by unfold badAt; cases x <;> simp
theorem compAt_none' (x : Option Chg) : compAt x none = x := by cases x <;> rfl
theorem comp_keys {a b : List Chg} : ∀ {c : List Chg}, comp a b = some c → ∀ z ∈ c, (∃ x ∈ a, x.key = z.key) ∨ (∃ y ∈ b, y.key = z.key) := by
 induction a, b using comp.induct with
 |case1 b => intro c h z hz; rw [comp_nil] at h; cases h; exact .inr ⟨z, hz, rfl⟩
 |case2 x a => intro c h z hz; rw [comp_nil'] at h; cases h; exact .inl ⟨z, hz, rfl⟩
 |case3 x a y b h1 ih =>
  intro c h z hz
  rw [comp, if_pos h1] at h
  obtain ⟨c', hc, rfl⟩ := Option.map_eq_some_iff.1 h
  rcases List.mem_cons.1 hz with rfl | hz
  ·exact .inl ⟨_, List.mem_cons_self .., rfl⟩
  ·exact (ih hc z hz).imp (fun ⟨q, h, e⟩ => ⟨q, List.mem_cons_of_mem _ h, e⟩) id
 |case4 x a y b h1 h2 ih =>
  intro c h z hz
  rw [comp, if_neg h1, if_pos h2] at h
  obtain ⟨c', hc, rfl⟩ := Option.map_eq_some_iff.1 h
  rcases List.mem_cons.1 hz with rfl | hz
  ·exact .inr ⟨_, List.mem_cons_self .., rfl⟩
  ·exact (ih hc z hz).imp id (fun ⟨q, h, e⟩ => ⟨q, List.mem_cons_of_mem _ h, e⟩)
 |case5 x a y b h1 h2 h3 => intro c h; rw [comp, if_neg h1, if_neg h2, if_pos h3] at h; cases h
 |case6 x a y b h1 h2 h3 h4 ih =>
  intro c h z hz
  rw [comp, if_neg h1, if_neg h2, if_neg h3, if_pos h4] at h
  obtain ⟨c', hc, rfl⟩ := Option.map_eq_some_iff.1 h
  rcases List.mem_cons.1 hz with rfl | hz
  ·exact .inl ⟨_, List.mem_cons_self .., rfl⟩
  ·exact (ih hc z hz).imp (fun ⟨q, h, e⟩ => ⟨q, List.mem_cons_of_mem _ h, e⟩) (fun ⟨q, h, e⟩ => ⟨q, List.mem_cons_of_mem _ h, e⟩)
 |case7 x a y b h1 h2 h3 h4 ih =>
  intro c h z hz
  rw [comp, if_neg h1, if_neg h2, if_neg h3, if_neg h4] at h
  exact (ih h z hz).imp (fun ⟨q, h, e⟩ => ⟨q, List.mem_cons_of_mem _ h, e⟩) (fun ⟨q, h, e⟩ => ⟨q, List.mem_cons_of_mem _ h, e⟩)
theorem comp_ks {a b : List Chg} : ∀ {c : List Chg}, KS a → KS b → comp a b = some c → KS c := by
 induction a, b using comp.induct with
 |case1 b => intro c _ hb h; rw [comp_nil] at h; cases h; exact hb
 |case2 x a => intro c ha _ h; rw [comp_nil'] at h; cases h; exact ha
 |case3 x a y b h1 ih =>
  intro c ha hb h
  rw [comp, if_pos h1] at h
  obtain ⟨c', hc, rfl⟩ := Option.map_eq_some_iff.1 h
  refine KS.cons.2 ⟨fun z hz => ?_, ih (KS.cons.1 ha).2 hb hc⟩
  rcases comp_keys hc z hz with ⟨q, hq, e⟩ | ⟨q, hq, e⟩
  ·exact e ▸ (KS.cons.1 ha).1 q hq
  ·rcases List.mem_cons.1 hq with rfl | hq
   ·exact e ▸ h1
   ·exact e ▸ kLt_trans h1 ((KS.cons.1 hb).1 q hq)
 |case4 x a y b h1 h2 ih =>
  intro c ha hb h
  rw [comp, if_neg h1, if_pos h2] at h
  obtain ⟨c', hc, rfl⟩ := Option.map_eq_some_iff.1 h
  refine KS.cons.2 ⟨fun z hz => ?_, ih ha (KS.cons.1 hb).2 hc⟩
  rcases comp_keys hc z hz with ⟨q, hq, e⟩ | ⟨q, hq, e⟩
  ·rcases List.mem_cons.1 hq with rfl | hq
   ·exact e ▸ h2
   ·exact e ▸ kLt_trans h2 ((KS.cons.1 ha).1 q hq)
  ·exact e ▸ (KS.cons.1 hb).1 q hq
 |case5 x a y b h1 h2 h3 => intro c _ _ h; rw [comp, if_neg h1, if_neg h2, if_pos h3] at h; cases h
 |case6 x a y b h1 h2 h3 h4 ih =>
  intro c ha hb h
  rw [comp, if_neg h1, if_neg h2, if_neg h3, if_pos h4] at h
  obtain ⟨c', hc, rfl⟩ := Option.map_eq_some_iff.1 h
  have hk : x.key = y.key := by rcases kLt_tri x.key y.key with h | h | h; exact absurd h h1; exact h; exact absurd h h2
  refine KS.cons.2 ⟨fun z hz => ?_, ih (KS.cons.1 ha).2 (KS.cons.1 hb).2 hc⟩
  rw [mkC_key]
  rcases comp_keys hc z hz with ⟨q, hq, e⟩ | ⟨q, hq, e⟩
  ·exact e ▸ (KS.cons.1 ha).1 q hq
  ·rw [hk]; exact e ▸ (KS.cons.1 hb).1 q hq
 |case7 x a y b h1 h2 h3 h4 ih =>
  intro c ha hb h
  rw [comp, if_neg h1, if_neg h2, if_neg h3, if_neg h4] at h
  exact ih (KS.cons.1 ha).2 (KS.cons.1 hb).2 h
/-- Composition, key by key. -/
theorem comp_at {a b : List Chg} : ∀ {c : List Chg}, KS a → KS b → comp a b = some c → ∀ k, ¬ badAt (fnd a k) (fnd b k) ∧ fnd c k = compAt (fnd a k) (fnd b k) := by
 induction a, b using comp.induct with
 |case1 b => intro c _ hb h k; rw [comp_nil] at h; cases h; exact ⟨badAt_none _, rfl⟩
 |case2 x a => intro c ha _ h k; rw [comp_nil'] at h; cases h; exact ⟨badAt_none' _, (compAt_none' _).symm⟩
 |case3 x a y b h1 ih =>
  intro c ha hb h k
  rw [comp, if_pos h1] at h
  obtain ⟨c', hc, rfl⟩ := Option.map_eq_some_iff.1 h
  by_cases hk : x.key = k
  ·have hn : fnd (y :: b) k = none := by
    rw [fnd_cons, if_neg fun e => kLt_ne h1 (hk.trans e.symm), fnd_low hb (hk ▸ kLt_asymm h1)]
   rw [hn, fnd_cons, if_pos hk, fnd_cons, if_pos hk]
   exact ⟨badAt_none' _, rfl⟩
  ·rw [fnd_cons x a, if_neg hk, fnd_cons x c', if_neg hk]
   exact ih (KS.cons.1 ha).2 hb hc k
 |case4 x a y b h1 h2 ih =>
  intro c ha hb h k
  rw [comp, if_neg h1, if_pos h2] at h
  obtain ⟨c', hc, rfl⟩ := Option.map_eq_some_iff.1 h
  by_cases hk : y.key = k
  ·have hn : fnd (x :: a) k = none := by
    rw [fnd_cons, if_neg fun e => kLt_ne h2 (hk.trans e.symm), fnd_low ha (hk ▸ kLt_asymm h2)]
   rw [hn, fnd_cons, if_pos hk, fnd_cons, if_pos hk]
   exact ⟨badAt_none _, rfl⟩
  ·rw [fnd_cons y b, if_neg hk, fnd_cons y c', if_neg hk]
   exact ih ha (KS.cons.1 hb).2 hc k
 |case5 x a y b h1 h2 h3 => intro c _ _ h; rw [comp, if_neg h1, if_neg h2, if_pos h3] at h; cases h
 |case6 x a y b h1 h2 h3 h4 ih =>
  intro c ha hb h k
  rw [comp, if_neg h1, if_neg h2, if_neg h3, if_pos h4] at h
  obtain ⟨c', hc, rfl⟩ := Option.map_eq_some_iff.1 h
  have hk : x.key = y.key := by rcases kLt_tri x.key y.key with h | h | h; exact absurd h h1; exact h; exact absurd h h2
  by_cases hx : x.key = k
  ·rw [fnd_cons, if_pos hx, fnd_cons, if_pos (hk ▸ hx), fnd_cons, if_pos (by rw [mkC_key]; exact hx)]
   exact ⟨fun h => h3 h, (if_neg h4).symm⟩
  ·rw [fnd_cons, if_neg hx, fnd_cons, if_neg (hk ▸ hx), fnd_cons, if_neg (by rw [mkC_key]; exact hx)]
   exact ih (KS.cons.1 ha).2 (KS.cons.1 hb).2 hc k
 |case7 x a y b h1 h2 h3 h4 ih =>
  intro c ha hb h k
  rw [comp, if_neg h1, if_neg h2, if_neg h3, if_neg h4] at h
  have hk : x.key = y.key := by rcases kLt_tri x.key y.key with h | h | h; exact absurd h h1; exact h; exact absurd h h2
  have ih := ih (KS.cons.1 ha).2 (KS.cons.1 hb).2 h k
  by_cases hx : x.key = k
  ·rw [fnd_low ha (hx ▸ kLt_irrefl _), fnd_low hb (by rw [← hk, hx]; exact kLt_irrefl _)] at ih
   rw [fnd_cons, if_pos hx, fnd_cons, if_pos (hk ▸ hx), ih.2]
   refine ⟨fun h => h3 h, ?_⟩
   exact (if_pos (Decidable.of_not_not h4)).symm
  ·rw [fnd_cons, if_neg hx, fnd_cons, if_neg (hk ▸ hx)]
   exact ih
theorem comp_bad {a b : List Chg} : KS a → KS b → comp a b = none → ∃ k, badAt (fnd a k) (fnd b k) := by
 induction a, b using comp.induct with
 |case1 b => intro _ _ h; rw [comp_nil] at h; cases h
 |case2 x a => intro _ _ h; rw [comp_nil'] at h; cases h
 |case3 x a y b h1 ih =>
  intro ha hb h
  rw [comp, if_pos h1, Option.map_eq_none_iff] at h
  obtain ⟨k, hk⟩ := ih (KS.cons.1 ha).2 hb h
  refine ⟨k, ?_⟩
  rw [fnd_cons x a, if_neg]
  ·exact hk
  ·rintro rfl; rw [fnd_low ha (kLt_irrefl _)] at hk; exact badAt_none _ hk
 |case4 x a y b h1 h2 ih =>
  intro ha hb h
  rw [comp, if_neg h1, if_pos h2, Option.map_eq_none_iff] at h
  obtain ⟨k, hk⟩ := ih ha (KS.cons.1 hb).2 h
  refine ⟨k, ?_⟩
  rw [fnd_cons y b, if_neg]
  ·exact hk
  ·rintro rfl; rw [fnd_low hb (kLt_irrefl _)] at hk; exact badAt_none' _ hk
 |case5 x a y b h1 h2 h3 =>
  intro _ _ _
  have hk : x.key = y.key := by rcases kLt_tri x.key y.key with h | h | h; exact absurd h h1; exact h; exact absurd h h2
  refine ⟨x.key, ?_⟩
  rw [fnd_cons, if_pos rfl, fnd_cons, if_pos hk.symm]
  exact h3
 |case6 x a y b h1 h2 h3 h4 ih =>
  intro ha hb h
  rw [comp, if_neg h1, if_neg h2, if_neg h3, if_pos h4, Option.map_eq_none_iff] at h
  obtain ⟨k, hk⟩ := ih (KS.cons.1 ha).2 (KS.cons.1 hb).2 h
  have hxy : x.key = y.key := by rcases kLt_tri x.key y.key with h | h | h; exact absurd h h1; exact h; exact absurd h h2
  refine ⟨k, ?_⟩
  have hx : x.key ≠ k := by rintro rfl; rw [fnd_low ha (kLt_irrefl _)] at hk; exact badAt_none _ hk
  rw [fnd_cons, if_neg hx, fnd_cons, if_neg (hxy ▸ hx)]
  exact hk
 |case7 x a y b h1 h2 h3 h4 ih =>
  intro ha hb h
  rw [comp, if_neg h1, if_neg h2, if_neg h3, if_neg h4] at h
  obtain ⟨k, hk⟩ := ih (KS.cons.1 ha).2 (KS.cons.1 hb).2 h
  have hxy : x.key = y.key := by rcases kLt_tri x.key y.key with h | h | h; exact absurd h h1; exact h; exact absurd h h2
  refine ⟨k, ?_⟩
  have hx : x.key ≠ k := by rintro rfl; rw [fnd_low ha (kLt_irrefl _)] at hk; exact badAt_none _ hk
  rw [fnd_cons, if_neg hx, fnd_cons, if_neg (hxy ▸ hx)]
  exact hk
theorem comp_ok {a b : List Chg} : ∀ {c : List Chg}, (∀ x ∈ a, x.err = 0) → (∀ y ∈ b, y.err = 0) → comp a b = some c → ∀ z ∈ c, z.err = 0 := by
 induction a, b using comp.induct with
 |case1 b => intro c _ hb h z hz; rw [comp_nil] at h; cases h; exact hb z hz
 |case2 x a => intro c ha _ h z hz; rw [comp_nil'] at h; cases h; exact ha z hz
 |case3 x a y b h1 ih =>
  intro c ha hb h z hz
  rw [comp, if_pos h1] at h
  obtain ⟨c', hc, rfl⟩ := Option.map_eq_some_iff.1 h
  rcases List.mem_cons.1 hz with rfl | hz
  ·exact ha _ (List.mem_cons_self ..)
  ·exact ih (fun q hq => ha q (List.mem_cons_of_mem _ hq)) hb hc z hz
 |case4 x a y b h1 h2 ih =>
  intro c ha hb h z hz
  rw [comp, if_neg h1, if_pos h2] at h
  obtain ⟨c', hc, rfl⟩ := Option.map_eq_some_iff.1 h
  rcases List.mem_cons.1 hz with rfl | hz
  ·exact hb _ (List.mem_cons_self ..)
  ·exact ih ha (fun q hq => hb q (List.mem_cons_of_mem _ hq)) hc z hz
 |case5 x a y b h1 h2 h3 => intro c _ _ h; rw [comp, if_neg h1, if_neg h2, if_pos h3] at h; cases h
 |case6 x a y b h1 h2 h3 h4 ih =>
  intro c ha hb h z hz
  rw [comp, if_neg h1, if_neg h2, if_neg h3, if_pos h4] at h
  obtain ⟨c', hc, rfl⟩ := Option.map_eq_some_iff.1 h
  rcases List.mem_cons.1 hz with rfl | hz
  ·obtain ⟨x1, x2, _, x4, _, _⟩ := Chg.err_zero.1 (ha x (List.mem_cons_self ..))
   obtain ⟨_, _, y3, _, y5, _⟩ := Chg.err_zero.1 (hb y (List.mem_cons_self ..))
   exact Chg.err_zero.2 ⟨x1, x2, y3, x4, y5, h4⟩
  ·exact ih (fun q hq => ha q (List.mem_cons_of_mem _ hq)) (fun q hq => hb q (List.mem_cons_of_mem _ hq)) hc z hz
 |case7 x a y b h1 h2 h3 h4 ih =>
  intro c ha hb h z hz
  rw [comp, if_neg h1, if_neg h2, if_neg h3, if_neg h4] at h
  exact ih (fun q hq => ha q (List.mem_cons_of_mem _ hq)) (fun q hq => hb q (List.mem_cons_of_mem _ hq)) h z hz
open Go.RowKit
section
variable {α : Type} {cv : α → List Value} {N : Nat}
def LiesG (cv : α → List Value) (N : Nat) (w : World) (A : Option Addr) (l : List α) : Prop :=
 0 < l.length → ∃ b q, A = some ⟨b, q, none⟩ ∧ b < w.heap.size ∧ ∀ (k : Nat) (x : α), l[k]? = some x → ∀ j, j < N → w.cell? ⟨b, q + k * N + j, none⟩ = (cv x)[j]?
def cvs (cv : α → List Value) (l : List α) : List Value := l.flatMap cv
def OwnG (t : TypeId) (cv : α → List Value) (N : Nat) (base : Nat) (w : World) (v : Value) (l : List α) : Prop := w.ownsRow base t N v l.length (cvs cv l)
theorem LiesG.calm {w w' : World} {A : Option Addr} {l : List α} (h : LiesG cv N w A l) (hb : Calm w w') : LiesG cv N w' A l := fun hl => by
 obtain ⟨b, q, hA, hlt, hk⟩ := h hl
 exact ⟨b, q, hA, Nat.lt_of_lt_of_le hlt hb.size, fun k x hx j hj => (hb.facts.1 b _ hlt).trans (hk k x hx j hj)⟩
theorem LiesG.nil_ {w : World} {A : Option Addr} : LiesG cv N w A ([] : List α) := fun h => absurd h (by simp)
theorem cvs_len (hN : ∀ x, (cv x).length = N) (l : List α) : (cvs cv l).length = l.length * N := by
 unfold cvs
 induction l with
 |nil => simp
 |cons e l ih => rw [List.flatMap_cons, List.length_append, ih, hN, List.length_cons, Nat.succ_mul]; omega
theorem cvs_at (hN : ∀ x, (cv x).length = N) : ∀ (l : List α) (k j : Nat) (e : α), l[k]? = some e → j < N → (cvs cv l)[k * N + j]? = (cv e)[j]?
 | [], k, j, e, h, _ => by simp at h
 |x :: l, 0, j, e, h, hj => by
  simp at h; subst h
  show (cv x ++ cvs cv l)[0 * N + j]? = _
  rw [Nat.zero_mul, Nat.zero_add, List.getElem?_append_left (by rw [hN]; exact hj)]
 |x :: l, k + 1, j, e, h, hj => by
  show (cv x ++ cvs cv l)[(k + 1) * N + j]? = _
  rw [Nat.succ_mul, List.getElem?_append_right (by rw [hN]; omega), hN]
  rw [show k * N + N + j - N = k * N + j by omega]
  exact cvs_at hN l k j e (by simpa using h) hj
theorem cvs_snoc (l : List α) (e : α) : cvs cv (l ++ [e]) = cvs cv l ++ cv e := by unfold cvs; simp
theorem cvs_app (a b : List α) : cvs cv (a ++ b) = cvs cv a ++ cvs cv b := by unfold cvs; simp
theorem cvs_one (h1 : ∀ x, ∀ u ∈ cv x, u.oneCell' = true) (l : List α) : ∀ u ∈ cvs cv l, u.oneCell' = true := by
 intro u hu
 obtain ⟨e, _, h⟩ := List.mem_flatMap.1 hu
 exact h1 e u h
theorem cvs_set (hN : ∀ x, (cv x).length = N) : ∀ {l : List α} {i j : Nat} {u : Value} {x : α} (hi : i < l.length) (_ : j < N) (_ : cv x = (cv l[i]).set j u), (cvs cv l).set (i * N + j) u = cvs cv (l.set i x)
 | [], _, _, _, _, hi, _, _ => absurd hi (by simp)
 |y :: l, 0, j, u, x, hi, hj, hx => by
  show (cv y ++ cvs cv l).set (0 * N + j) u = cv x ++ cvs cv l
  rw [Nat.zero_mul, Nat.zero_add, List.set_append_left _ _ (by rw [hN]; exact hj), hx]
  rfl
 |y :: l, i + 1, j, u, x, hi, hj, hx => by
  show (cv y ++ cvs cv l).set ((i + 1) * N + j) u = cv y ++ cvs cv (l.set i x)
  rw [List.set_append_right _ _ (by rw [hN, Nat.succ_mul]; omega), hN, show (i + 1) * N + j - N = i * N + j by rw [Nat.succ_mul]; omega]
  congr 1
  exact cvs_set hN (l := l) (i := i) (by simpa using hi) hj hx
/-- Each cell of a row that stands in memory. -/
theorem LiesG.cells (hN : ∀ x, (cv x).length = N) (h0 : 0 < N) {w : World} {b q : Nat} {l : List α} (h : LiesG cv N w (some ⟨b, q, none⟩) l) : ∀ j v, (cvs cv l)[j]? = some v → b < w.heap.size ∧ w.cell? ⟨b, q + j, none⟩ = some v := fun j v hj => by
 have hlt : j < l.length * N := by rw [← cvs_len hN]; exact (List.getElem?_eq_some_iff.1 hj).1
 have hk : j / N < l.length := (Nat.div_lt_iff_lt_mul h0).2 hlt
 have hm : j % N < N := Nat.mod_lt _ h0
 have he := Nat.div_add_mod j N
 rw [Nat.mul_comm] at he
 have hel := List.getElem?_eq_getElem hk
 obtain ⟨b', q', hA, hb, hat⟩ := h (Nat.lt_of_le_of_lt (Nat.zero_le _) hk)
 injection hA with hA
 injection hA with h1 h2
 subst h1; subst h2
 have h6 := hat _ _ hel _ hm
 have hj2 := cvs_at hN l (j / N) (j % N) _ hel hm
 rw [he] at hj2
 rw [Nat.add_assoc, he] at h6
 rw [h6, ← hj2, hj]
 exact ⟨hb, rfl⟩
section
variable {t : TypeId} {base : Nat} {w w' : World} {v : Value} {l : List α}
theorem OwnG.lt (h : OwnG t cv N base w v l) : ∀ k, v.ownBlock = some k → base ≤ k ∧ k < w.heap.size := World.ownsRow.lt h
theorem OwnG.calm (h : OwnG t cv N base w v l) (hb : Calm w w') : OwnG t cv N base w' v l := World.ownsRow.kept h (hb.grownBy none) (by
 rcases v.ownBlock with _ | k
 ·exact .inl rfl
 ·exact .inr (by simp))
theorem OwnG.nil (t : TypeId) (cv : α → List Value) (N : Nat) (base : Nat) (w : World) : OwnG t cv N base w (.slice none 0 0) [] := World.ownsRow_nil _ _ _ _
theorem OwnG.weaken {base' : Nat} (h : OwnG t cv N base w v l) (hb : base' ≤ base) : OwnG t cv N base' w v l := ⟨h.1, h.2.imp id fun ⟨g, cap, cur, h1, h2, h3⟩ => ⟨g, cap, cur, h1, Nat.le_trans hb h2, h3⟩⟩
theorem Calm.grownG {a : World} (h : Calm a w) (hb : a.heap.size ≤ base) (ho : OwnG t cv N base w v l) (hg : w.grownBy w' v.ownBlock) : Calm a w' :=
 Below.grown h hg h.size fun k hk => Nat.le_trans hb (ho.lt k hk).1
theorem OwnG.lies (hN : ∀ x, (cv x).length = N) (h : OwnG t cv N base w v l) : ∃ A c, v = .slice A l.length c ∧ l.length ≤ c ∧ c ≤ 9223372036854775807 ∧ LiesG cv N w A l := by
 rcases h.2 with ⟨rfl, hl⟩ | ⟨g, cap, cur, rfl, _, hg, hnc, hcm, _, ht⟩
 ·have : l = [] := List.eq_nil_of_length_eq_zero hl
  subst this
  exact ⟨none, 0, rfl, Nat.le_refl _, by omega, LiesG.nil_⟩
 ·refine ⟨some ⟨g, 0, none⟩, cap, rfl, hnc, by simp only [maxLen] at hcm; omega, fun hpos => ⟨g, 0, rfl, (Array.getElem?_eq_some_iff.1 hg).1, fun k e he j hj => ?_⟩⟩
  have hk : k < l.length := (List.getElem?_eq_some_iff.1 he).1
  have hkn : k * N + j < l.length * N := by
   have := Nat.mul_le_mul_right N (show k + 1 ≤ l.length from hk)
   rw [Nat.succ_mul] at this
   omega
  rw [Nat.zero_add, cell_of_row w g _ cur _ (0, 0) hg, ← cvs_at hN l k j e he hj, ← ht, List.getElem?_take, if_pos hkn, Array.getElem?_toList]
theorem OwnG.at_ (hN : ∀ x, (cv x).length = N) {A : Option Addr} {n c : Nat} (h : OwnG t cv N base w (.slice A n c) l) : n = l.length ∧ LiesG cv N w A l := by
 obtain ⟨A', c', hv, _, _, hL⟩ := h.lies hN
 injection hv with h1 h2 h3
 subst h1
 exact ⟨h2, hL⟩
theorem OwnG.some_ (h : OwnG t cv N base w v l) (hl : 0 < l.length) : ∃ g cap, v = .slice (some ⟨g, 0, none⟩) l.length cap := by
 rcases h.2 with ⟨_, h1⟩ | ⟨g', cap', cur, h1, _⟩
 ·omega
 ·exact ⟨g', cap', h1⟩
/-- One cell of an element is stored in an owned row. -/
theorem OwnG.set (hN : ∀ x, (cv x).length = N) {g n cap i j : Nat} {u : Value} {x : α} (h : OwnG t cv N base w (.slice (some ⟨g, 0, none⟩) n cap) l) (hi : i < l.length) (hj : j < N) (hx : cv x = (cv l[i]).set j u) :
    OwnG t cv N base (w.setCell ⟨g, i * N + j, none⟩ u) (.slice (some ⟨g, 0, none⟩) n cap) (l.set i x) := by
  have hn : n = l.length := by
    rcases h.2 with ⟨h1, _⟩ | ⟨g', cap', cur, h1, _⟩
    · cases h1
    · injection h1
  subst hn
  have h1 := (World.ownsRow.stored h (i * N + j) u).1
  unfold OwnG
  rw [List.length_set, ← cvs_set hN hi hj hx]
  exact h1
theorem OwnG.frozen {g n cap : Nat} (h : OwnG t cv N base w (.slice (some ⟨g, 0, none⟩) n cap) l) (j : Nat) : w.frozen? ⟨g, j, none⟩ = false := by
 have hn : n = l.length := by
  rcases h.2 with ⟨h1, _⟩ | ⟨g', cap', cur, h1, _⟩
  ·cases h1
  ·injection h1
 subst hn
 exact World.ownsRow.frozenAt h j
theorem OwnG.cell (hN : ∀ x, (cv x).length = N) {g n cap i : Nat} (h : OwnG t cv N base w (.slice (some ⟨g, 0, none⟩) n cap) l) (hi : i < l.length) : (∀ j, j < N → w.cell? ⟨g, i * N + j, none⟩ = (cv l[i])[j]?) ∧ base ≤ g ∧ g < w.heap.size ∧ n = l.length ∧ n ≤ cap := by
 have hn : n = l.length ∧ n ≤ cap := by
  rcases h.2 with ⟨h1, _⟩ | ⟨g', cap', cur, h1, _, _, h2, _⟩
  ·cases h1
  ·injection h1 with h3 h4 h5
   exact ⟨h4, by omega⟩
 obtain ⟨hn, hnc⟩ := hn
 subst hn
 have hlt := h.lt g rfl
 refine ⟨fun j hj => ?_, hlt.1, hlt.2, rfl, hnc⟩
 have := Nat.mul_le_mul_right N (show i + 1 ≤ l.length from hi)
 rw [Nat.succ_mul] at this
 rw [World.ownsRow.cellAt h (i * N + j) (by omega), cvs_at hN l i j _ (List.getElem?_eq_getElem hi) hj]
end
end
open Go.RowKit
def chgV (x : Chg) : List Value := [.int .i64 x.p, .int .i64 x.o, .int .i64 x.f, .bool x.hd, .bool x.hs, .string x.ws, .string x.vs]
theorem chgV_len (x : Chg) : (chgV x).length = 7 := rfl
theorem chgV_one (x : Chg) : ∀ u ∈ chgV x, u.oneCell' = true := by intro u hu; simp only [chgV, List.mem_cons, List.not_mem_nil, or_false] at hu; rcases hu with rfl | rfl | rfl | rfl | rfl | rfl | rfl <;> rfl
abbrev LiesC (w : World) (A : Option Addr) (l : List Chg) : Prop := LiesG chgV 7 w A l
abbrev OwnC (base : Nat) (w : World) (v : Value) (l : List Chg) : Prop := OwnG 33 chgV 7 base w v l
theorem infoChg : (Try.prog.info? 33).map (fun i => (i.zero, i.size, i.bytes)) = some (some (.agg #[.int .i64 0, .int .i64 0, .int .i64 0, .bool false, .bool false, .string ByteArray.empty, .string ByteArray.empty]), 7, 64) := by kernel_rfl
/-- What a walk reads of a change. -/
theorem chg_get {w : World} {A : Option Addr} {l : List Chg} (h : LiesC w A l) {k : Nat} (hk : k < l.length) : ∃ (b q : Nat) (p o f : Int) (hd hs : Bool) (ws vs : ByteArray), A = some ⟨b, q, none⟩ ∧ b < w.heap.size ∧ Hid (l[k]? = some ⟨p, o, f, hd, hs, ws, vs⟩) ∧
    w.cell? ⟨b, q + k * 7, none⟩ = some (.int .i64 p) ∧ w.cell? ⟨b, q + k * 7 + 1, none⟩ = some (.int .i64 o) ∧ w.cell? ⟨b, q + k * 7 + 2, none⟩ = some (.int .i64 f) ∧ w.cell? ⟨b, q + k * 7 + 3, none⟩ = some (.bool hd) ∧ w.cell? ⟨b, q + k * 7 + 4, none⟩ = some (.bool hs) ∧ w.cell? ⟨b, q + k * 7 + 5, none⟩ = some (.string ws) ∧ w.cell? ⟨b, q + k * 7 + 6, none⟩ = some (.string vs) := by
  obtain ⟨b, q, hA, hlt, hc⟩ := h (by omega)
  have he := List.getElem?_eq_getElem hk
  have h2 := hc k _ he
  generalize l[k] = z at he h2
  obtain ⟨p, o, f, hd, hs, ws, vs⟩ := z
  exact ⟨b, q, p, o, f, hd, hs, ws, vs, hA, hlt, he, h2 0 (by omega), h2 1 (by omega), h2 2 (by omega), h2 3 (by omega), h2 4 (by omega), h2 5 (by omega), h2 6 (by omega)⟩
theorem chg_get2 {w : World} {b q : Nat} {l : List Chg} (h : LiesC w (some ⟨b, q, none⟩) l) {k : Nat} (hk : k < l.length) : ∃ (p o f : Int) (hd hs : Bool) (ws vs : ByteArray), Hid (l[k]? = some ⟨p, o, f, hd, hs, ws, vs⟩) ∧
    w.cell? ⟨b, q + k * 7, none⟩ = some (.int .i64 p) ∧ w.cell? ⟨b, q + k * 7 + 1, none⟩ = some (.int .i64 o) ∧ w.cell? ⟨b, q + k * 7 + 2, none⟩ = some (.int .i64 f) ∧ w.cell? ⟨b, q + k * 7 + 3, none⟩ = some (.bool hd) ∧ w.cell? ⟨b, q + k * 7 + 4, none⟩ = some (.bool hs) ∧ w.cell? ⟨b, q + k * 7 + 5, none⟩ = some (.string ws) ∧ w.cell? ⟨b, q + k * 7 + 6, none⟩ = some (.string vs) := by
  obtain ⟨b', q', p, o, f, hd, hs, ws, vs, hA, hlt, he, h0, h1, h2, h3, h4, h5, h6⟩ := chg_get h hk
  injection hA with hA
  injection hA with e1 e2
  subst e1; subst e2
  exact ⟨p, o, f, hd, hs, ws, vs, he, h0, h1, h2, h3, h4, h5, h6⟩
theorem chg_own {w : World} {v : Value} {base : Nat} {l : List Chg} (h : OwnC base w v l) : ∃ A c, v = .slice A l.length c ∧ l.length ≤ c ∧ c ≤ 9223372036854775807 ∧ LiesC w A l := h.lies chgV_len
/-- append(out, c): one change more in a row of the call's own. -/
theorem wpList_append_chg {ops : Array Oper} {rest : List Oper} {o : Oper} {a : Act} {w : World} {Q : Exit → Act → World → Prop} (hgd : o.guard = none) (s x : Operand)
    (ho : o.op = .call { callee := .builtin .append, args := #[s, x], argTypes := #[23, 23] })
    (base : Nat) (v : Value) (l : List Chg) (hs : a.eval s = v) (hown : OwnC base w v l) (g t : Nat) (e : Chg) (fr : Nat × Nat)
    (hx : a.eval x = .slice (some ⟨g, 0, none⟩) 1 1) (hg : w.heap[g]? = some (.cells #[.int .i64 e.p, .int .i64 e.o, .int .i64 e.f, .bool e.hd, .bool e.hs, .string e.ws, .string e.vs] t fr)) (hl : (l.length + 1) * 64 ≤ 140737488355328) (hbase : base ≤ w.heap.size)
    (h : ∀ v' w', OwnC base w' v' (l ++ [e]) → (∀ w0 : World, w0.heap.size ≤ base → Calm w0 w → Calm w0 w') → wpList Try.prog ops Q rest (a.put o.dst v') w') : wpList Try.prog ops Q (o :: rest) a w := by
  obtain ⟨i0, hi, hz0, hz1, hz2⟩ := info_parts infoChg
  refine wpList_append_own w hgd s x _ ho base 33 i0 _ 7 64 Try.underlying23 hi hz0 hz1 hz2 rfl (by decide) v _ _ hs hown ⟨g, 0, none⟩ 1 1 (chgV e) hx rfl (fun j u hj => ?_) (chgV_one e) (by unfold maxLen; omega) (by omega) hbase fun v' w' h1 h2 _ => ?_
  · have : (⟨g, 0, none⟩ : Addr).add j = ⟨g, j, none⟩ := by unfold Addr.add; split <;> simp_all
    rw [this, cell_of_row w g j _ t fr hg, ← hj]
    simp [chgV]
  · refine h v' w' ?_ fun w0 h0 hc => hc.grownG h0 hown h2
    unfold OwnC OwnG
    rw [List.length_append, cvs_snoc]
    exact h1
theorem row7 {w : World} {g t : Nat} {a b c d e f x : Value} {fr : Nat × Nat} (h : w.heap[g]? = some (.cells #[a, b, c, d, e, f, x] t fr)) : w.cell? ⟨g, 0, none⟩ = some a ∧ w.cell? ⟨g, 1, none⟩ = some b ∧ w.cell? ⟨g, 2, none⟩ = some c ∧ w.cell? ⟨g, 3, none⟩ = some d ∧ w.cell? ⟨g, 4, none⟩ = some e ∧ w.cell? ⟨g, 5, none⟩ = some f ∧ w.cell? ⟨g, 6, none⟩ = some x ∧ g < w.heap.size :=
 ⟨cell_of_row _ _ 0 _ _ _ h, cell_of_row _ _ 1 _ _ _ h, cell_of_row _ _ 2 _ _ _ h, cell_of_row _ _ 3 _ _ _ h, cell_of_row _ _ 4 _ _ _ h, cell_of_row _ _ 5 _ _ _ h, cell_of_row _ _ 6 _ _ _ h, (Array.getElem?_eq_some_iff.1 h).1⟩
open Go.ChangeShapes Go.WideShapes Go.ChangeAt Go.RowKit
set_option maxHeartbeats 1000000 in
theorem chBefore_any (p o f : Int) (hd hs : Bool) (ws vs : ByteArray) (w : World) : Calls Try.prog 48 #[.agg #[.int .i64 p, .int .i64 o, .int .i64 f, .bool hd, .bool hs, .string ws, .string vs]] w fun e w' => e = .returned (.agg #[.bool hd, .string ws]) ∧ Calm w w' := by
 go_enter Try.func48, Try.ntmps48
 go_wp2_with fail
 go_returns
 exact ⟨rfl, by repeat (first | (with_reducible exact Calm.refl _) | (with_reducible refine Calm.alloc ?_ _) | (with_reducible refine Calm.drew ?_) | (with_reducible refine Calm.drewN ?_ _) | (refine Calm.call ?_ (by with_reducible assumption)))⟩
set_option maxHeartbeats 1000000 in
theorem chAfter_any (p o f : Int) (hd hs : Bool) (ws vs : ByteArray) (w : World) : Calls Try.prog 61 #[.agg #[.int .i64 p, .int .i64 o, .int .i64 f, .bool hd, .bool hs, .string ws, .string vs]] w fun e w' => e = .returned (.agg #[.bool hs, .string vs]) ∧ Calm w w' := by
 go_enter Try.func61, Try.ntmps61
 go_wp2_with fail
 go_returns
 exact ⟨rfl, by repeat (first | (with_reducible exact Calm.refl _) | (with_reducible refine Calm.alloc ?_ _) | (with_reducible refine Calm.drew ?_) | (with_reducible refine Calm.drewN ?_ _) | (refine Calm.call ?_ (by with_reducible assumption)))⟩
set_option maxHeartbeats 1000000 in
theorem chBetween_any (p o f : Int) (hd hs : Bool) (ws vs : ByteArray) (w : World) : Calls Try.prog 60 #[.agg #[.int .i64 p, .int .i64 o, .int .i64 f], .agg #[.bool hd, .string ws], .agg #[.bool hs, .string vs]] w fun e w' => e = .returned (.agg #[.int .i64 p, .int .i64 o, .int .i64 f, .bool hd, .bool hs, .string ws, .string vs]) ∧ Calm w w' := by
 go_enter Try.func60, Try.ntmps60
 go_wp2_with fail
 go_returns
 exact ⟨rfl, by repeat (first | (with_reducible exact Calm.refl _) | (with_reducible refine Calm.alloc ?_ _) | (with_reducible refine Calm.drew ?_) | (with_reducible refine Calm.drewN ?_ _) | (refine Calm.call ?_ (by with_reducible assumption)))⟩
theorem size_zero {s : ByteArray} (h : s.size = 0) : s = { data := #[] } := ByteArray.ext (Array.eq_empty_of_size_eq_zero h)
theorem str_some {s : ByteArray} (h : ¬ s.size = 0) : s.toList.isEmpty = false := by
 rw [ByteArray.toList_eq, Bool.eq_false_iff]
 intro e
 rw [List.isEmpty_iff] at e
 exact h (by show s.data.size = 0; rw [← Array.length_toList, e]; rfl)
set_option maxHeartbeats 1000000 in
theorem chFits_any (b : Bool) (s : ByteArray) (w : World) : Calls Try.prog 66 #[.agg #[.bool b, .string s]] w fun e w' => e = .returned (.bool (decide (fitS ⟨b, s⟩))) ∧ Calm w w' := by
 cases b with
 |true =>
  have K : Hid (true = decide (fitS ⟨true, s⟩)) := by show _ = _; rw [decide_eq_true (show fitS ⟨true, s⟩ from .inl rfl)]
  go_enter Try.func66, Try.ntmps66
  go_wp2_with fail
  go_ret
  exact ⟨ret_bool K.out, by repeat (first | (with_reducible exact Calm.refl _) | (with_reducible refine Calm.alloc ?_ _) | (with_reducible refine Calm.drew ?_) | (with_reducible refine Calm.drewN ?_ _) | (refine Calm.call ?_ (by with_reducible assumption)))⟩
 |false =>
  by_cases h : s.size = 0
  ·have K : Hid (true = decide (fitS ⟨false, s⟩)) := by show _ = _; rw [decide_eq_true (show fitS ⟨false, s⟩ from .inr h)]
   obtain rfl := size_zero h
   clear h
   go_enter Try.func66, Try.ntmps66
   go_wp2_with fail
   go_ret
   exact ⟨ret_bool K.out, by repeat (first | (with_reducible exact Calm.refl _) | (with_reducible refine Calm.alloc ?_ _) | (with_reducible refine Calm.drew ?_) | (with_reducible refine Calm.drewN ?_ _) | (refine Calm.call ?_ (by with_reducible assumption)))⟩
  ·have K : Hid (s.toList.isEmpty = decide (fitS ⟨false, s⟩)) := by
    show _ = _
    rw [str_some h, decide_eq_false]
    rintro (h1 | h1)
    ·cases h1
    ·exact h h1
   clear h
   go_enter Try.func66, Try.ntmps66
   go_wp2_with fail
   go_ret
   exact ⟨ret_bool K.out, by repeat (first | (with_reducible exact Calm.refl _) | (with_reducible refine Calm.alloc ?_ _) | (with_reducible refine Calm.drew ?_) | (with_reducible refine Calm.drewN ?_ _) | (refine Calm.call ?_ (by with_reducible assumption)))⟩
open Go.ChangeShapes Go.WideShapes Go.ChangeAt Go.RowKit
set_option maxHeartbeats 4000000 in
theorem checkChange_any (p o f : Int) (hd hs : Bool) (ws vs : ByteArray) (w : World) : Calls Try.prog 37 #[.agg #[.int .i64 p, .int .i64 o, .int .i64 f, .bool hd, .bool hs, .string ws, .string vs]] w fun e w' => e = .returned (.int .i64 (Chg.err ⟨p, o, f, hd, hs, ws, vs⟩)) ∧ Calm w w' := by
 have cK := fun u => keyCheck_any p o f u
 by_cases hk : keyErr p o f = 0
 rotate_left
 ·have K : Hid (keyErr p o f = Chg.err ⟨p, o, f, hd, hs, ws, vs⟩) := by show _ = _; unfold Chg.err; rw [if_neg hk]
  have b1 : (keyErr p o f != 0) = true := by simpa using hk
  generalize keyErr p o f = x at cK b1 K
  clear hk
  go_enter Try.func37, Try.ntmps37
  go_wp2_with (go_at_call 54; refine (cK _).mono ?_; rintro e w1 ⟨rfl, hb1⟩; have hx := (hb1.block (k := w.heap.size) (by simp)).trans (heap_new w _); obtain ⟨x0, x1, x2, x3, x4, x5, x6, hxs⟩ := row7 hx; have hu := ((Calm.refl w).alloc _).call hb1; clear hb1 hx)
  go_ret
  exact ⟨ret_int K.out, hu⟩
 rw [hk] at cK
 by_cases hz : ws.size ≤ 40 ∧ vs.size ≤ 40
 rotate_left
 ·have K : Hid (2 = Chg.err ⟨p, o, f, hd, hs, ws, vs⟩) := by show _ = _; unfold Chg.err; rw [if_pos hk, if_neg hz]
  clear hk
  by_cases h1 : ws.size ≤ 40
  ·have h2 : 40 < vs.size := by omega
   clear hz
   go_enter Try.func37, Try.ntmps37
   go_wp2_with (go_at_call 54; refine (cK _).mono ?_; rintro e w1 ⟨rfl, hb1⟩; have hx := (hb1.block (k := w.heap.size) (by simp)).trans (heap_new w _); obtain ⟨x0, x1, x2, x3, x4, x5, x6, hxs⟩ := row7 hx; have hu := ((Calm.refl w).alloc _).call hb1; clear hb1 hx)
   go_ret
   exact ⟨ret_int K.out, hu⟩
  ·have h2 : 40 < ws.size := by omega
   clear hz h1
   go_enter Try.func37, Try.ntmps37
   go_wp2_with (go_at_call 54; refine (cK _).mono ?_; rintro e w1 ⟨rfl, hb1⟩; have hx := (hb1.block (k := w.heap.size) (by simp)).trans (heap_new w _); obtain ⟨x0, x1, x2, x3, x4, x5, x6, hxs⟩ := row7 hx; have hu := ((Calm.refl w).alloc _).call hb1; clear hb1 hx)
   go_ret
   exact ⟨ret_int K.out, hu⟩
 obtain ⟨z1, z2⟩ := hz
 by_cases f1 : fitS ⟨hd, ws⟩
 rotate_left
 ·skip
  have K : Hid (3 = Chg.err ⟨p, o, f, hd, hs, ws, vs⟩) := by show _ = _; unfold Chg.err; rw [if_pos hk, if_pos ⟨z1, z2⟩, if_neg fun h => f1 h.1]
  have cB := fun u => chBefore_any p o f hd hs ws vs u
  have cA := fun u => chAfter_any p o f hd hs ws vs u
  have cF1 := fun u => chFits_any hd ws u
  have cF2 := fun u => chFits_any hs vs u
  rw [decide_eq_false f1] at cF1
  clear f1 hk
  go_enter Try.func37, Try.ntmps37
  go_upto_region 6 with (go_at_call 54; refine (cK _).mono ?_; rintro e w1 ⟨rfl, hb1⟩; have hx := (hb1.block (k := w.heap.size) (by simp)).trans (heap_new w _); obtain ⟨x0, x1, x2, x3, x4, x5, x6, hxs⟩ := row7 hx; have hu := ((Calm.refl w).alloc _).call hb1; clear hb1 hx)
  refine wp_region_plan [.val ((.agg #[.int .i64 p, .int .i64 o, .int .i64 f, .bool hd, .bool hs, .string ws, .string vs])), .val (.agg #[.bool hd, .string ws]), .val (.bool false), .val (.bool true), .val (.bool true), .idle, .idle, .idle, .idle, .val (.bool true), .val (.bool true), .idle, .idle, .idle, .idle, .idle, .val (.bool true)] (by kernel_rfl) (by kernel_rfl) (by kernel_rfl) ?_
  intro X
  iterate 5
   refine plan_val (by kernel_rfl) (fun u hu => ?_) ?_
   ·obtain ⟨hc, hf, hz⟩ := hu.of_drew.facts
    go_simp
    all_goals first
     |(go_at_call 48; exact cB _)
     |(go_at_call 61; exact cA _)
     |(go_at_call 66; exact cF1 _)
     |(go_at_call 66; exact cF2 _)
   simp only [Act.put, List.setIfInBounds_toArray, List.set_cons_zero, List.set_cons_succ, Nat.reduceAdd]
  iterate 4
   refine plan_idle (by kernel_rfl) ?_
   simp only [Act.put, List.setIfInBounds_toArray, List.set_cons_zero, List.set_cons_succ, Nat.reduceAdd]
  iterate 2
   refine plan_val (by kernel_rfl) (fun u hu => ?_) ?_
   ·obtain ⟨hc, hf, hz⟩ := hu.of_drew.facts
    go_simp
    all_goals first
     |(go_at_call 48; exact cB _)
     |(go_at_call 61; exact cA _)
     |(go_at_call 66; exact cF1 _)
     |(go_at_call 66; exact cF2 _)
   simp only [Act.put, List.setIfInBounds_toArray, List.set_cons_zero, List.set_cons_succ, Nat.reduceAdd]
  iterate 5
   refine plan_idle (by kernel_rfl) ?_
   simp only [Act.put, List.setIfInBounds_toArray, List.set_cons_zero, List.set_cons_succ, Nat.reduceAdd]
  iterate 1
   refine plan_val (by kernel_rfl) (fun u hu => ?_) ?_
   ·obtain ⟨hc, hf, hz⟩ := hu.of_drew.facts
    go_simp
    all_goals first
     |(go_at_call 48; exact cB _)
     |(go_at_call 61; exact cA _)
     |(go_at_call 66; exact cF1 _)
     |(go_at_call 66; exact cF2 _)
   simp only [Act.put, List.setIfInBounds_toArray, List.set_cons_zero, List.set_cons_succ, Nat.reduceAdd]
  refine plan_end ?_
  intro w' hB
  have hk := hB.calm.of_drew
  clear hB
  go_wp2_with fail
  go_ret
  exact ⟨ret_int K.out, hu.call hk⟩
 by_cases f2 : fitS ⟨hs, vs⟩
 rotate_left
 ·skip
  have K : Hid (3 = Chg.err ⟨p, o, f, hd, hs, ws, vs⟩) := by show _ = _; unfold Chg.err; rw [if_pos hk, if_pos ⟨z1, z2⟩, if_neg fun h => f2 h.2.1]
  have cB := fun u => chBefore_any p o f hd hs ws vs u
  have cA := fun u => chAfter_any p o f hd hs ws vs u
  have cF1 := fun u => chFits_any hd ws u
  have cF2 := fun u => chFits_any hs vs u
  rw [decide_eq_true f1] at cF1
  rw [decide_eq_false f2] at cF2
  clear f1 f2 hk
  go_enter Try.func37, Try.ntmps37
  go_upto_region 6 with (go_at_call 54; refine (cK _).mono ?_; rintro e w1 ⟨rfl, hb1⟩; have hx := (hb1.block (k := w.heap.size) (by simp)).trans (heap_new w _); obtain ⟨x0, x1, x2, x3, x4, x5, x6, hxs⟩ := row7 hx; have hu := ((Calm.refl w).alloc _).call hb1; clear hb1 hx)
  refine wp_region_plan [.val ((.agg #[.int .i64 p, .int .i64 o, .int .i64 f, .bool hd, .bool hs, .string ws, .string vs])), .val (.agg #[.bool hd, .string ws]), .val (.bool true), .val (.bool false), .val (.bool false), .val ((.agg #[.int .i64 p, .int .i64 o, .int .i64 f, .bool hd, .bool hs, .string ws, .string vs])), .val (.agg #[.bool hs, .string vs]), .val (.bool false), .val (.bool true), .val (.bool true), .val (.bool true), .idle, .idle, .idle, .idle, .idle, .val (.bool true)] (by kernel_rfl) (by kernel_rfl) (by kernel_rfl) ?_
  intro X
  iterate 11
   refine plan_val (by kernel_rfl) (fun u hu => ?_) ?_
   ·obtain ⟨hc, hf, hz⟩ := hu.of_drew.facts
    go_simp
    all_goals first
     |(go_at_call 48; exact cB _)
     |(go_at_call 61; exact cA _)
     |(go_at_call 66; exact cF1 _)
     |(go_at_call 66; exact cF2 _)
   simp only [Act.put, List.setIfInBounds_toArray, List.set_cons_zero, List.set_cons_succ, Nat.reduceAdd]
  iterate 5
   refine plan_idle (by kernel_rfl) ?_
   simp only [Act.put, List.setIfInBounds_toArray, List.set_cons_zero, List.set_cons_succ, Nat.reduceAdd]
  iterate 1
   refine plan_val (by kernel_rfl) (fun u hu => ?_) ?_
   ·obtain ⟨hc, hf, hz⟩ := hu.of_drew.facts
    go_simp
    all_goals first
     |(go_at_call 48; exact cB _)
     |(go_at_call 61; exact cA _)
     |(go_at_call 66; exact cF1 _)
     |(go_at_call 66; exact cF2 _)
   simp only [Act.put, List.setIfInBounds_toArray, List.set_cons_zero, List.set_cons_succ, Nat.reduceAdd]
  refine plan_end ?_
  intro w' hB
  have hk := hB.calm.of_drew
  clear hB
  go_wp2_with fail
  go_ret
  exact ⟨ret_int K.out, hu.call hk⟩
 by_cases h3 : hd = hs
 ·subst h3
  by_cases h4 : ws = vs
  ·subst h4
   have K : Hid (3 = Chg.err ⟨p, o, f, hd, hd, ws, ws⟩) := by show _ = _; unfold Chg.err; rw [if_pos hk, if_pos ⟨z1, z2⟩, if_neg fun h => h.2.2 rfl]
   have cB := fun u => chBefore_any p o f hd hd ws ws u
   have cA := fun u => chAfter_any p o f hd hd ws ws u
   have cF1 := fun u => chFits_any hd ws u
   have cF2 := fun u => chFits_any hd ws u
   rw [decide_eq_true f1] at cF1
   rw [decide_eq_true f2] at cF2
   clear f1 f2 hk
   go_enter Try.func37, Try.ntmps37
   go_upto_region 6 with (go_at_call 54; refine (cK _).mono ?_; rintro e w1 ⟨rfl, hb1⟩; have hx := (hb1.block (k := w.heap.size) (by simp)).trans (heap_new w _); obtain ⟨x0, x1, x2, x3, x4, x5, x6, hxs⟩ := row7 hx; have hu := ((Calm.refl w).alloc _).call hb1; clear hb1 hx)
   refine wp_region_plan [.val ((.agg #[.int .i64 p, .int .i64 o, .int .i64 f, .bool hd, .bool hd, .string ws, .string ws])), .val (.agg #[.bool hd, .string ws]), .val (.bool true), .val (.bool false), .val (.bool false), .val ((.agg #[.int .i64 p, .int .i64 o, .int .i64 f, .bool hd, .bool hd, .string ws, .string ws])), .val (.agg #[.bool hd, .string ws]), .val (.bool true), .val (.bool false), .val (.bool false), .val (.bool false), .val ((.agg #[.int .i64 p, .int .i64 o, .int .i64 f, .bool hd, .bool hd, .string ws, .string ws])), .val (.agg #[.bool hd, .string ws]), .val ((.agg #[.int .i64 p, .int .i64 o, .int .i64 f, .bool hd, .bool hd, .string ws, .string ws])), .val (.agg #[.bool hd, .string ws]), .val (.bool true), .val (.bool true)] (by kernel_rfl) (by kernel_rfl) (by kernel_rfl) ?_
   intro X
   iterate 17
    refine plan_val (by kernel_rfl) (fun u hu => ?_) ?_
    ·obtain ⟨hc, hf, hz⟩ := hu.of_drew.facts
     go_simp
     all_goals first
      |(go_at_call 48; exact cB _)
      |(go_at_call 61; exact cA _)
      |(go_at_call 66; exact cF1 _)
      |(go_at_call 66; exact cF2 _)
    simp only [Act.put, List.setIfInBounds_toArray, List.set_cons_zero, List.set_cons_succ, Nat.reduceAdd]
   refine plan_end ?_
   intro w' hB
   have hk := hB.calm.of_drew
   clear hB
   go_wp2_with fail
   go_ret
   exact ⟨ret_int K.out, hu.call hk⟩
  ·skip
   have K : Hid (0 = Chg.err ⟨p, o, f, hd, hd, ws, vs⟩) := by show _ = _; unfold Chg.err; rw [if_pos hk, if_pos ⟨z1, z2⟩, if_pos ⟨f1, f2, fun e => h4 (St.ext_iff'.1 e).2⟩]
   have cB := fun u => chBefore_any p o f hd hd ws vs u
   have cA := fun u => chAfter_any p o f hd hd ws vs u
   have cF1 := fun u => chFits_any hd ws u
   have cF2 := fun u => chFits_any hd vs u
   rw [decide_eq_true f1] at cF1
   rw [decide_eq_true f2] at cF2
   have e1 := str_ne h4
   clear f1 f2 hk h4
   go_enter Try.func37, Try.ntmps37
   go_upto_region 6 with (go_at_call 54; refine (cK _).mono ?_; rintro e w1 ⟨rfl, hb1⟩; have hx := (hb1.block (k := w.heap.size) (by simp)).trans (heap_new w _); obtain ⟨x0, x1, x2, x3, x4, x5, x6, hxs⟩ := row7 hx; have hu := ((Calm.refl w).alloc _).call hb1; clear hb1 hx)
   refine wp_region_plan [.val ((.agg #[.int .i64 p, .int .i64 o, .int .i64 f, .bool hd, .bool hd, .string ws, .string vs])), .val (.agg #[.bool hd, .string ws]), .val (.bool true), .val (.bool false), .val (.bool false), .val ((.agg #[.int .i64 p, .int .i64 o, .int .i64 f, .bool hd, .bool hd, .string ws, .string vs])), .val (.agg #[.bool hd, .string vs]), .val (.bool true), .val (.bool false), .val (.bool false), .val (.bool false), .val ((.agg #[.int .i64 p, .int .i64 o, .int .i64 f, .bool hd, .bool hd, .string ws, .string vs])), .val (.agg #[.bool hd, .string ws]), .val ((.agg #[.int .i64 p, .int .i64 o, .int .i64 f, .bool hd, .bool hd, .string ws, .string vs])), .val (.agg #[.bool hd, .string vs]), .val (.bool false), .val (.bool false)] (by kernel_rfl) (by kernel_rfl) (by kernel_rfl) ?_
   intro X
   iterate 17
    refine plan_val (by kernel_rfl) (fun u hu => ?_) ?_
    ·obtain ⟨hc, hf, hz⟩ := hu.of_drew.facts
     go_simp
     all_goals first
      |(go_at_call 48; exact cB _)
      |(go_at_call 61; exact cA _)
      |(go_at_call 66; exact cF1 _)
      |(go_at_call 66; exact cF2 _)
    simp only [Act.put, List.setIfInBounds_toArray, List.set_cons_zero, List.set_cons_succ, Nat.reduceAdd]
   refine plan_end ?_
   intro w' hB
   have hk := hB.calm.of_drew
   clear hB
   go_wp2_with fail
   go_ret
   exact ⟨ret_int K.out, hu.call hk⟩
 ·skip
  have K : Hid (0 = Chg.err ⟨p, o, f, hd, hs, ws, vs⟩) := by show _ = _; unfold Chg.err; rw [if_pos hk, if_pos ⟨z1, z2⟩, if_pos ⟨f1, f2, fun e => h3 (St.ext_iff'.1 e).1⟩]
  have cB := fun u => chBefore_any p o f hd hs ws vs u
  have cA := fun u => chAfter_any p o f hd hs ws vs u
  have cF1 := fun u => chFits_any hd ws u
  have cF2 := fun u => chFits_any hs vs u
  rw [decide_eq_true f1] at cF1
  rw [decide_eq_true f2] at cF2
  have e1 : (hd == hs) = false := by simpa using h3
  clear f1 f2 hk h3
  go_enter Try.func37, Try.ntmps37
  go_upto_region 6 with (go_at_call 54; refine (cK _).mono ?_; rintro e w1 ⟨rfl, hb1⟩; have hx := (hb1.block (k := w.heap.size) (by simp)).trans (heap_new w _); obtain ⟨x0, x1, x2, x3, x4, x5, x6, hxs⟩ := row7 hx; have hu := ((Calm.refl w).alloc _).call hb1; clear hb1 hx)
  refine wp_region_plan [.val ((.agg #[.int .i64 p, .int .i64 o, .int .i64 f, .bool hd, .bool hs, .string ws, .string vs])), .val (.agg #[.bool hd, .string ws]), .val (.bool true), .val (.bool false), .val (.bool false), .val ((.agg #[.int .i64 p, .int .i64 o, .int .i64 f, .bool hd, .bool hs, .string ws, .string vs])), .val (.agg #[.bool hs, .string vs]), .val (.bool true), .val (.bool false), .val (.bool false), .val (.bool false), .val ((.agg #[.int .i64 p, .int .i64 o, .int .i64 f, .bool hd, .bool hs, .string ws, .string vs])), .val (.agg #[.bool hd, .string ws]), .val ((.agg #[.int .i64 p, .int .i64 o, .int .i64 f, .bool hd, .bool hs, .string ws, .string vs])), .val (.agg #[.bool hs, .string vs]), .val (.bool false), .val (.bool false)] (by kernel_rfl) (by kernel_rfl) (by kernel_rfl) ?_
  intro X
  iterate 17
   refine plan_val (by kernel_rfl) (fun u hu => ?_) ?_
   ·obtain ⟨hc, hf, hz⟩ := hu.of_drew.facts
    go_simp
    all_goals first
     |(go_at_call 48; exact cB _)
     |(go_at_call 61; exact cA _)
     |(go_at_call 66; exact cF1 _)
     |(go_at_call 66; exact cF2 _)
   simp only [Act.put, List.setIfInBounds_toArray, List.set_cons_zero, List.set_cons_succ, Nat.reduceAdd]
  refine plan_end ?_
  intro w' hB
  have hk := hB.calm.of_drew
  clear hB
  go_wp2_with fail
  go_ret
  exact ⟨ret_int K.out, hu.call hk⟩
open Go.ChangeShapes Go.WideShapes Go.ChangeAt Go.RowKit
def NoErrC (l : List Chg) (k : Nat) : Prop := ∀ j, j < k → stepC l j = 0
theorem chErr_at {l : List Chg} {k : Nat} (hbig : ¬ 400 < l.length) (hN : NoErrC l k) (hk : stepC l k ≠ 0) (hlt : k < l.length) : stepC l k = chErr l := by
 unfold chErr; rw [if_neg hbig, firstErr_at hN hk hlt]
theorem chErr_good {l : List Chg} (hbig : ¬ 400 < l.length) (hN : NoErrC l l.length) : 0 = chErr l := by
 unfold chErr; rw [if_neg hbig]; exact (firstErr_zero.2 hN).symm
theorem stepC_err {l : List Chg} {k : Nat} {c : Chg} (h : l[k]? = some c) (he : c.err ≠ 0) : stepC l k = c.err := by
 unfold stepC; rw [h]; simp only; rw [if_pos he]
theorem stepC_first {l : List Chg} {c : Chg} (h : l[0]? = some c) (he : c.err = 0) : stepC l 0 = 0 := by
 unfold stepC; rw [h]; simp [he]
theorem stepC_form {l : List Chg} {k : Nat} {c q : Chg} (h : l[k]? = some c) (he : c.err = 0) (hk : 0 < k) (hq : l[k - 1]? = some q) : stepC l k = if kLt q.key c.key then 0 else 3 := by
 unfold stepC; rw [h]; simp only; rw [if_neg (by simpa using he), if_neg (by omega), hq]
set_option maxHeartbeats 8000000 in
theorem chCheck_any (A : Option Addr) (c : Nat) (l : List Chg) (w : World) (hn : l.length ≤ 9223372036854775807) (hL : LiesC w A l) :
    Calls Try.prog 17 #[.slice A l.length c] w fun e w' => e = .returned (.int .i64 (chErr l)) ∧ Calm w w' := by
  by_cases hbig : 400 < l.length
  · have K : Hid (2 = chErr l) := by show _ = _; unfold chErr; rw [if_pos hbig]
    go_enter Try.func17, Try.ntmps17
    go_wp2_with fail
    go_ret
    exact ⟨ret_int K.out, Calm.refl _⟩
  go_enter Try.func17, Try.ntmps17
  go_wp2_with fail
  go_loopw [11] (fun i wr => ∃ k : Nat, k ≤ l.length ∧ i = .int .i64 k ∧ Calm w wr ∧ NoErrC l k) (fun i _ => l.length - (intOf i).toNat)
  case atStart => exact ⟨0, Nat.zero_le _, rfl, Calm.refl _, fun j hj => absurd hj (Nat.not_lt_zero _)⟩
  case round =>
    obtain ⟨k, hk, rfl, hu, hN⟩ := hrel
    by_cases hlt : k < l.length
    rotate_left
    · have hkl : k = l.length := by omega
      have K : Hid (0 = chErr l) := chErr_good hbig (by rw [← hkl]; exact hN)
      clear hkl
      go_wp2_with fail
      go_ret
      exact ⟨ret_int K.out, hu⟩
    obtain ⟨b, q, p, o, f, hd, hs, ws, vs, rfl, hb, HE, c0, c1, c2, c3, c4, c5, c6⟩ := chg_get (hL.calm hu) hlt
    have cC := fun u => checkChange_any p o f hd hs ws vs u
    by_cases he : Chg.err ⟨p, o, f, hd, hs, ws, vs⟩ = 0
    rotate_left
    · have b1 : (Chg.err ⟨p, o, f, hd, hs, ws, vs⟩ != 0) = true := by simpa using he
      have K : Hid (Chg.err ⟨p, o, f, hd, hs, ws, vs⟩ = chErr l) := by
        have h1 := stepC_err HE.out he
        rw [← chErr_at hbig hN (by rw [h1]; exact he) hlt, h1]; rfl
      generalize Chg.err ⟨p, o, f, hd, hs, ws, vs⟩ = E at cC b1 K
      clear he
      go_wp2_with (go_at_call 37; refine (cC _).mono ?_; rintro e w1 ⟨rfl, hb1⟩)
      go_ret
      exact ⟨ret_int K.out, by repeat (first | (with_reducible exact Calm.refl _) | (with_reducible refine Calm.alloc ?_ _) | (with_reducible refine Calm.drew ?_) | (with_reducible refine Calm.drewN ?_ _) | (refine Calm.call ?_ (by with_reducible assumption)))⟩
    rw [he] at cC
    have HE0 : Hid (Chg.err ⟨p, o, f, hd, hs, ws, vs⟩ = 0) := he
    clear he
    by_cases hk0 : k = 0
    · subst hk0
      have hN1 : NoErrC l 1 := fun j hj => by
        have : j = 0 := by omega
        subst this
        exact stepC_first HE.out HE0.out
      simp only [Nat.zero_mul, Nat.add_zero] at c0 c1 c2 c3 c4 c5 c6
      go_wp2_with (go_at_call 37; refine (cC _).mono ?_; rintro e w1 ⟨rfl, hb1⟩)
      refine wp_region_plan [.val (.int .i64 (0)), .val (.bool false), .val (.bool false), .idle, .idle, .idle, .idle, .idle, .idle, .idle, .idle, .idle, .idle, .val (.bool false)] (by kernel_rfl) (by kernel_rfl) (by kernel_rfl) ?_
      intro X
      iterate 3
        refine plan_val (by kernel_rfl) (fun u hu => ?_) ?_
        · obtain ⟨hc, hf, hz⟩ := hu.of_drew.facts
          go_simp
        simp only [Act.put, List.setIfInBounds_toArray, List.set_cons_zero, List.set_cons_succ, Nat.reduceAdd]
      iterate 10
        refine plan_idle (by kernel_rfl) ?_
        simp only [Act.put, List.setIfInBounds_toArray, List.set_cons_zero, List.set_cons_succ, Nat.reduceAdd]
      iterate 1
        refine plan_val (by kernel_rfl) (fun u hu => ?_) ?_
        · obtain ⟨hc, hf, hz⟩ := hu.of_drew.facts
          go_simp
        simp only [Act.put, List.setIfInBounds_toArray, List.set_cons_zero, List.set_cons_succ, Nat.reduceAdd]
      refine plan_end ?_
      intro w' hB
      have hk := hB.calm.of_drew
      clear hB
      go_wp2_with fail
      exact ⟨⟨1, by omega, rfl, ((hu.alloc _).call hb1).call hk, hN1⟩, by simp [intOf]; omega⟩
    obtain ⟨p', o', f', hd', hs', ws', vs', HE', d0, d1, d2, d3, d4, d5, d6⟩ := chg_get2 (hL.calm hu) (k := k - 1) (by omega)
    have hS := stepC_form HE.out HE0.out (by omega) HE'.out
    have hk1 : 1 ≤ k := by omega
    have cM := fun u => cmp_any p' o' f' p o f u
    by_cases hF : kLt (p', o', f') (p, o, f)
    · rw [if_pos (show kLt (Chg.key ⟨p', o', f', hd', hs', ws', vs'⟩) (Chg.key ⟨p, o, f, hd, hs, ws, vs⟩) from hF)] at hS
      rw [show kcmp p' o' f' p o f = -1 from kcmp_kLt.2 hF] at cM
      have hN1 : NoErrC l (k + 1) := fun j hj => by
        rcases Nat.lt_or_ge j k with h | h
        · exact hN j h
        · rw [show j = k by omega]; exact hS
      clear hS hF hk0
      go_wp2_with (go_at_call 37; refine (cC _).mono ?_; rintro e w1 ⟨rfl, hb1⟩)
      have hx := (hb1.block (k := wr.heap.size) (by simp)).trans (heap_new wr _)
      obtain ⟨x0, x1, x2, x3, x4, x5, x6, hxs⟩ := row7 hx
      have hv := ((Calm.refl wr).alloc _).call hb1
      have hv1 := hu.call hv
      have hb2 : b < w1.heap.size := Nat.lt_of_lt_of_le hb hv.size
      have hvc := hv.facts.1
      replace d0 := (hvc _ _ hb).trans d0; replace d1 := (hvc _ _ hb).trans d1; replace d2 := (hvc _ _ hb).trans d2
      clear hvc hv hb1 hx c0 c1 c2 c3 c4 c5 c6 d3 d4 d5 d6 hL
      have z0 : 0 < k := hk1
      have z1 : IntKind.i64.wrap ((k : Int) - 1) = (k : Int) - 1 := IntWalk.i64_in _ (by omega)
      have z2 : ((k : Int) - 1).toNat = k - 1 := by omega
      have z3 : 0 ≤ (k : Int) - 1 := by omega
      have z4 : (k : Int) - 1 < l.length := by omega
      have z5 : 1 ≤ (k : Int) := by omega
      refine wp_region_plan [.val (.int .i64 ((k : Int))), .val (.bool true), .val (.bool true), .val (.slice (some ⟨b, q, none⟩) l.length c), .val (.int .i64 ((k : Int))), .val (.int .i64 ((k : Int) - 1)), .val (.pointer (some ⟨b, q + (k - 1) * 7, none⟩)), .val (.pointer (some ⟨b, q + (k - 1) * 7, none⟩)), .val (.agg #[.int .i64 p', .int .i64 o', .int .i64 f']), .val (.pointer (some ⟨wr.heap.size, 0, none⟩)), .val (.agg #[.int .i64 p, .int .i64 o, .int .i64 f]), .val (.int .i64 (-1)), .val (.bool false), .val (.bool false)] (by kernel_rfl) (by kernel_rfl) (by kernel_rfl) ?_
      intro X
      iterate 14
        refine plan_val (by kernel_rfl) (fun u hu => ?_) ?_
        · obtain ⟨hc, hf, hz⟩ := hu.of_drew.facts
          go_simp
          all_goals first
            | (go_at_call 38; exact cM _)
        simp only [Act.put, List.setIfInBounds_toArray, List.set_cons_zero, List.set_cons_succ, Nat.reduceAdd]
      refine plan_end ?_
      intro w' hB
      have hk := hB.calm.of_drew
      clear hB
      clear z0 z1 z2 z3 z4 z5
      go_wp2_with fail
      go_roundw
      case rel => exact ⟨k + 1, by omega, by go_num, hv1.call hk, hN1⟩
      case measure => simp [intOf]; omega
    · rw [if_neg (show ¬ kLt (Chg.key ⟨p', o', f', hd', hs', ws', vs'⟩) (Chg.key ⟨p, o, f, hd, hs, ws, vs⟩) from hF)] at hS
      have K : Hid (3 = chErr l) := hS.symm.trans (chErr_at hbig hN (by rw [hS]; decide) hlt)
      have hx1 : kcmp p' o' f' p o f = 0 ∨ kcmp p' o' f' p o f = 1 := by
        rcases kcmp_or p' o' f' p o f with h | h | h
        · exact absurd (kcmp_kLt.1 h) hF
        · exact .inl h
        · exact .inr h
      generalize kcmp p' o' f' p o f = M at cM hx1
      have hx0 : 0 ≤ M := by omega
      clear hx1
      clear hS hF hk0
      go_wp2_with (go_at_call 37; refine (cC _).mono ?_; rintro e w1 ⟨rfl, hb1⟩)
      have hx := (hb1.block (k := wr.heap.size) (by simp)).trans (heap_new wr _)
      obtain ⟨x0, x1, x2, x3, x4, x5, x6, hxs⟩ := row7 hx
      have hv := ((Calm.refl wr).alloc _).call hb1
      have hv1 := hu.call hv
      have hb2 : b < w1.heap.size := Nat.lt_of_lt_of_le hb hv.size
      have hvc := hv.facts.1
      replace d0 := (hvc _ _ hb).trans d0; replace d1 := (hvc _ _ hb).trans d1; replace d2 := (hvc _ _ hb).trans d2
      clear hvc hv hb1 hx c0 c1 c2 c3 c4 c5 c6 d3 d4 d5 d6 hL
      have z0 : 0 < k := hk1
      have z1 : IntKind.i64.wrap ((k : Int) - 1) = (k : Int) - 1 := IntWalk.i64_in _ (by omega)
      have z2 : ((k : Int) - 1).toNat = k - 1 := by omega
      have z3 : 0 ≤ (k : Int) - 1 := by omega
      have z4 : (k : Int) - 1 < l.length := by omega
      have z5 : 1 ≤ (k : Int) := by omega
      refine wp_region_plan [.val (.int .i64 ((k : Int))), .val (.bool true), .val (.bool true), .val (.slice (some ⟨b, q, none⟩) l.length c), .val (.int .i64 ((k : Int))), .val (.int .i64 ((k : Int) - 1)), .val (.pointer (some ⟨b, q + (k - 1) * 7, none⟩)), .val (.pointer (some ⟨b, q + (k - 1) * 7, none⟩)), .val (.agg #[.int .i64 p', .int .i64 o', .int .i64 f']), .val (.pointer (some ⟨wr.heap.size, 0, none⟩)), .val (.agg #[.int .i64 p, .int .i64 o, .int .i64 f]), .val (.int .i64 (M)), .val (.bool true), .val (.bool true)] (by kernel_rfl) (by kernel_rfl) (by kernel_rfl) ?_
      intro X
      iterate 14
        refine plan_val (by kernel_rfl) (fun u hu => ?_) ?_
        · obtain ⟨hc, hf, hz⟩ := hu.of_drew.facts
          go_simp
          all_goals first
            | (go_at_call 38; exact cM _)
        simp only [Act.put, List.setIfInBounds_toArray, List.set_cons_zero, List.set_cons_succ, Nat.reduceAdd]
      refine plan_end ?_
      intro w' hB
      have hk := hB.calm.of_drew
      clear hB
      clear z0 z1 z2 z3 z4 z5
      go_wp2_with fail
      go_ret
      exact ⟨ret_int K.out, hv1.call hk⟩
open Go.ChangeShapes Go.WideShapes Go.ChangeAt Go.RowKit
def CgEnd (L : List Chg) (w : World) (e : Ending) (w' : World) : Prop := ∃ v, e = .returned v ∧ OwnC w.heap.size w' v L ∧ Calm w w'
def CgEnd2 (L : List Chg) (E : Int) (w : World) (e : Ending) (w' : World) : Prop := ∃ v, e = .returned (.tuple #[v, .int .i64 E]) ∧ OwnC w.heap.size w' v L ∧ Calm w w'
theorem rev_take {l : List Chg} {k : Nat} {c : Chg} (h : l[k]? = some c) : revL (l.take (k + 1)) = revL (l.take k) ++ [revC c] := by
 obtain ⟨hk, rfl⟩ := List.getElem?_eq_some_iff.1 h
 unfold revL
 rw [List.take_succ_eq_append_getElem hk, List.map_append]; rfl
theorem rev_len (l : List Chg) : (revL l).length = l.length := by unfold revL; rw [List.length_map]
set_option maxHeartbeats 8000000 in
theorem reversed_any (A : Option Addr) (c : Nat) (l : List Chg) (w : World) (hn : l.length ≤ 400) (hL : LiesC w A l) :
    Calls Try.prog 30 #[.slice A l.length c] w (CgEnd (revL l) w) := by
  have HN := Lib.hid hn
  have hn : l.length ≤ 9223372036854775807 := by omega
  go_enter Try.func30, Try.ntmps30
  go_wp2_with fail
  go_loopw [3, 8] (fun v i wr => ∃ k : Nat, k ≤ l.length ∧ i = .int .i64 k ∧ Calm w wr ∧ Hid (OwnC w.heap.size wr v (revL (l.take k)))) (fun _ i _ => l.length - (intOf i).toNat)
  case atStart => exact ⟨0, Nat.zero_le _, rfl, Calm.refl _, show OwnG _ _ _ _ _ _ _ from OwnG.nil _ _ _ _ _⟩
  case round =>
    obtain ⟨k, hk, rfl, hv, HT⟩ := hrel
    by_cases hlt : k < l.length
    rotate_left
    · have HT2 := HT.out
      rw [List.take_of_length_le (by omega)] at HT2
      have HT3 := Lib.hid HT2
      clear HT2
      go_wp2_with fail
      go_ret
      exact ⟨_, rfl, HT3.out, hv⟩
    obtain ⟨b, q, p, o, f, hd, hs, ws, vs, rfl, hb, HE, c0, c1, c2, c3, c4, c5, c6⟩ := chg_get (hL.calm hv) hlt
    have hF := rev_take HE.out
    have hl1 : ((revL (l.take k)).length + 1) * 64 ≤ 140737488355328 := by
      have := HN.out
      rw [rev_len, List.length_take]; omega
    generalize revL (l.take k) = M at HT hF hl1
    have hF := Lib.hid hF
    obtain ⟨AM, cM, rfl, -, -, -⟩ := chg_own HT.out
    have hl1 := Lib.hid hl1
    have hv1 := hv.alloc (.cells #[.int .i64 p, .int .i64 o, .int .i64 f, .bool hd, .bool hs, .string ws, .string vs] 33 (0, 0))
    have HT2 := Lib.hid (HT.out.calm ((Calm.refl wr).alloc (.cells #[.int .i64 p, .int .i64 o, .int .i64 f, .bool hd, .bool hs, .string ws, .string vs] 33 (0, 0))))
    have hx := heap_new wr (.cells #[.int .i64 p, .int .i64 o, .int .i64 f, .bool hd, .bool hs, .string ws, .string vs] 33 (0, 0))
    clear HE HT
    go_upto_region 5 with fail
    generalize hW : wr.alloc (.cells #[.int .i64 p, .int .i64 o, .int .i64 f, .bool hd, .bool hs, .string ws, .string vs] 33 (0, 0)) = w2 at hv1 HT2 hx ⊢
    clear hW
    obtain ⟨x0, x1, x2, x3, x4, x5, x6, hxs⟩ := row7 hx
    clear hx
    refine wp_region_plan_tail 9 [.val (.slice AM M.length cM), .val (.pointer (some ⟨wr.heap.size, 0, none⟩)), .val (.agg #[.int .i64 p, .int .i64 o, .int .i64 f]), .val (.agg #[.int .i64 p, .int .i64 o, .int .i64 f, .bool hd, .bool hs, .string ws, .string vs]), .val (.agg #[.bool hs, .string vs]), .val (.agg #[.int .i64 p, .int .i64 o, .int .i64 f, .bool hd, .bool hs, .string ws, .string vs]), .val (.agg #[.bool hd, .string ws]), .val (.agg #[.int .i64 p, .int .i64 o, .int .i64 f, .bool hs, .bool hd, .string vs, .string ws]), .new #[.int .i64 p, .int .i64 o, .int .i64 f, .bool hs, .bool hd, .string vs, .string ws] 33 (some 1)] (by kernel_rfl) (by kernel_rfl) (by kernel_rfl) (by kernel_rfl) ?_
    intro X
    simp only [List.take_succ_cons, List.take_zero, List.drop_succ_cons, List.drop_zero]
    iterate 8
      refine plan_val (by kernel_rfl) (fun u hu => ?_) ?_
      · obtain ⟨hc, hf, hz⟩ := hu.of_drew.facts
        go_simp
        all_goals first
          | (go_at_call 61; exact chAfter_any _ _ _ _ _ _ _ _)
          | (go_at_call 48; exact chBefore_any _ _ _ _ _ _ _ _)
          | (go_at_call 60; exact chBetween_any _ _ _ _ _ _ _ _)
      simp only [Act.put, List.setIfInBounds_toArray, List.set_cons_zero, List.set_cons_succ, Nat.reduceAdd]
    refine plan_lit (by kernel_rfl) (fun u => ?_) ?_
    · go_simp
    simp only [Act.put, List.setIfInBounds_toArray, List.set_cons_zero, List.set_cons_succ, Nat.reduceAdd]
    refine plan_end ?_
    intro w' hB
    have hk := hB.calm.of_drew
    have hr := hB.row 8 _ _ rfl
    have HT4 := Lib.hid (HT2.out.calm hk)
    have hv4 := hv1.call hk
    clear hB HT2 x0 x1 x2 x3 x4 x5 x6 hxs c0 c1 c2 c3 c4 c5 c6
    go_wp2_with (at_builtin; refine wpList_append_chg rfl _ _ rfl w.heap.size _ _ rfl HT4.out _ _ ⟨p, o, f, hs, hd, vs, ws⟩ _ rfl hr.2 hl1.out hv4.size ?_; intro v' w9 ho9 hk9; have HT9 := Lib.hid ho9; have hv9 := hk9 w (Nat.le_refl _) hv4; clear ho9 hk9)
    go_roundw
    case rel => exact ⟨k + 1, by omega, by go_num, hv9, show OwnG _ _ _ _ _ _ _ from by rw [hF.out]; exact HT9.out⟩
    case measure => simp [intOf]; omega
set_option maxHeartbeats 2000000 in
theorem chBack_any (A : Option Addr) (c : Nat) (l : List Chg) (w : World) (hn : l.length ≤ 9223372036854775807) (hL : LiesC w A l) :
    Calls Try.prog 12 #[.slice A l.length c] w (CgEnd2 (if chErr l = 0 then revL l else []) (chErr l) w) := by
  have cC := fun u (hu : Calm w u) => chCheck_any A c l u hn (hL.calm hu)
  have hu := Calm.refl w
  by_cases h : chErr l = 0
  · rw [if_pos h]
    have hl := (chErr_zero.1 h).1
    have cR := fun u (hu : Calm w u) => reversed_any A c l u hl (hL.calm hu)
    unfold CgEnd at cR
    rw [h] at cC ⊢
    clear hL hn hl h
    go_enter Try.func12, Try.ntmps12
    go_wp2_with (first
      | (go_at_call 17; refine (cC _ hu).mono ?_; rintro e w1 ⟨rfl, hb1⟩; replace hu := hu.call hb1)
      | (go_at_call 30; refine (cR _ hu).mono ?_; rintro e w2 ⟨v, rfl, ho, hb2⟩; have HO := Lib.hid (OwnG.weaken ho hu.size); replace hu := hu.call hb2; clear ho hb2))
    go_ret2
    exact ⟨_, rfl, HO.out, hu⟩
  · rw [if_neg h]
    have b1 : (chErr l != 0) = true := by simpa using h
    generalize chErr l = E at cC b1 ⊢
    clear h
    go_enter Try.func12, Try.ntmps12
    go_wp2_with (go_at_call 17; refine (cC _ hu).mono ?_; rintro e w1 ⟨rfl, hb1⟩; replace hu := hu.call hb1)
    go_ret2
    exact ⟨_, rfl, OwnG.nil _ _ _ _ _, hu⟩
def sV (l : List El) (q : Int × Int × Int) (u : Int) : Option ByteArray := (atR l q u).map El.s
def stO : Option ByteArray → St
 |some s => ⟨true, s⟩
 |none => noS
def stA (l : List El) (k : Int × Int × Int) (t : Int) : St := stO (sV l k t)
theorem stO_inj {a b : Option ByteArray} (h : stO a = stO b) : a = b := by
 unfold stO at h
 cases a <;> cases b <;> simp [noS, St.ext_iff'] at h ⊢
 exact h
def kMax : Int × Int × Int := (15, 1048576, 1073741824)
def newC (e : El) : Chg := mkC e.key noS ⟨true, e.s⟩
def creat (l : List El) (t : Int) : List Chg := (rangeR l (0, 0, 0) kMax t).map newC
def betL (l : List El) (a b : Int) : List Chg := (comp (revL (creat l a)) (creat l b)).getD []
theorem key_in {k : Int × Int × Int} (h : kErr k = 0) : ¬ kLt k (0, 0, 0) ∧ ¬ kLt kMax k := by
 unfold kErr keyErr at h
 split at h
 ·rename_i h1
  unfold kLt kMax
  simp only
  omega
 ·cases h
theorem creat_ks {l : List El} (h : Good l) (t : Int) : KS (creat l t) := by
 unfold KS creat; rw [List.pairwise_map]; exact range_rise h _ _ t
theorem creat_at {l : List El} (h : Good l) (t : Int) (k : Int × Int × Int) : fnd (creat l t) k = (sV l k t).map fun s => mkC k noS ⟨true, s⟩ := by
 unfold sV
 cases ha : atR l k t with
 |none =>
  refine fnd_none.2 fun x hx e => ?_
  obtain ⟨y, hy, rfl⟩ := List.mem_map.1 hx
  have h1 := at_range h hy
  rw [show y.key = k from e, ha] at h1
  cases h1
 |some e =>
  obtain ⟨h1, h2⟩ := (atR_iff h.2.2).1 ha
  unfold isAt at h2; rw [decide_eq_true_eq] at h2
  obtain ⟨rfl, h3⟩ := h2
  have hk := key_in (key_good h h1)
  have hm : newC e ∈ creat l t := List.mem_map.2 ⟨e, List.mem_filter.2 ⟨h1, by unfold inR; rw [decide_eq_true_eq]; exact ⟨hk.1, hk.2, h3⟩⟩, rfl⟩
  exact fnd_mem (creat_ks h t) hm
theorem bet_some {l : List El} (h : Good l) (a b : Int) : comp (revL (creat l a)) (creat l b) = some (betL l a b) := by
 unfold betL
 cases hc : comp (revL (creat l a)) (creat l b) with
 |some c => rfl
 |none =>
  obtain ⟨k, hk⟩ := comp_bad (revL_ks (creat_ks h a)) (creat_ks h b) hc
  rw [fnd_rev, creat_at h, creat_at h] at hk
  cases h1 : sV l k a with
  |none => rw [h1] at hk; exact absurd hk (badAt_none _)
  |some s =>
   cases h2 : sV l k b with
   |none => rw [h2] at hk; exact absurd hk (badAt_none' _)
   |some s' => rw [h1, h2] at hk; exact absurd rfl hk
theorem bet_ks {l : List El} (h : Good l) (a b : Int) : KS (betL l a b) := comp_ks (revL_ks (creat_ks h a)) (creat_ks h b) (bet_some h a b)
/-- What differs of a key. -/
theorem bet_at {l : List El} (h : Good l) (a b : Int) (k : Int × Int × Int) : fnd (betL l a b) k = if stA l k a = stA l k b then none else some (mkC k (stA l k a) (stA l k b)) := by
 rw [(comp_at (revL_ks (creat_ks h a)) (creat_ks h b) (bet_some h a b) k).2, fnd_rev, creat_at h, creat_at h]
 unfold stA
 cases h1 : sV l k a with
 |none =>
  cases h2 : sV l k b with
  |none => rw [if_pos rfl]; rfl
  |some s' => rw [if_neg (fun e => by cases stO_inj e)]; rfl
 |some s =>
  cases h2 : sV l k b with
  |none => rw [if_neg (fun e => by cases stO_inj e)]; rfl
  |some s' => rfl
theorem creat_ok {l : List El} (h : Good l) (t : Int) : ∀ c ∈ creat l t, c.err = 0 := fun c hc => by
 obtain ⟨e, he, rfl⟩ := List.mem_map.1 hc
 have h1 := (List.mem_filter.1 he).1
 have h2 := h.2.1 e h1
 unfold El.err at h2
 have h3 := (elemErr_zero.1 h2).2.2
 refine Chg.err_zero.2 ⟨key_good h h1, Nat.zero_le _, ?_, .inr rfl, .inl rfl, ?_⟩
 ·show e.s.size ≤ 40; omega
 ·intro e2; cases (St.ext_iff'.1 e2).1
theorem ks_short : ∀ {L : List Chg} {l : List El}, KS L → (∀ c ∈ L, ∃ e ∈ l, e.key = c.key) → L.length ≤ l.length
 | [], _, _, _ => Nat.zero_le _
 |c :: L, l, hK, h => by
  obtain ⟨e, he, hk⟩ := h c (List.mem_cons_self ..)
  have ih := ks_short (L := L) (l := l.erase e) (KS.cons.1 hK).2 fun d hd => by
   obtain ⟨x, hx, hxk⟩ := h d (List.mem_cons_of_mem _ hd)
   refine ⟨x, (List.mem_erase_of_ne fun e2 => ?_).2 hx, hxk⟩
   subst e2
   exact kLt_ne ((KS.cons.1 hK).1 d hd) (hk.symm.trans hxk)
  rw [List.length_erase_of_mem he] at ih
  have := List.length_pos_of_mem he
  simp only [List.length_cons]; omega
theorem bet_good {l : List El} (h : Good l) (a b : Int) : GoodC (betL l a b) := by
 refine ⟨Nat.le_trans (ks_short (bet_ks h a b) fun c hc => ?_) h.1, comp_ok (fun x hx => ?_) (creat_ok h b) (bet_some h a b), bet_ks h a b⟩
 ·rcases comp_keys (bet_some h a b) c hc with ⟨x, hx, e⟩ | ⟨x, hx, e⟩
  ·obtain ⟨y, hy, rfl⟩ := List.mem_map.1 hx
   obtain ⟨z, hz, rfl⟩ := List.mem_map.1 hy
   exact ⟨z, (List.mem_filter.1 hz).1, e⟩
  ·obtain ⟨z, hz, rfl⟩ := List.mem_map.1 hx
   exact ⟨z, (List.mem_filter.1 hz).1, e⟩
 ·obtain ⟨y, hy, rfl⟩ := List.mem_map.1 hx
  exact revC_err (creat_ok h a y hy)
open Go.RowKit
def SlEnd (l : List El) (n : Int) (w : World) (e : Ending) (w' : World) : Prop := ∃ v, e = .returned (.tuple #[v, .int .i64 n]) ∧ Sl w' v l ∧ Calm w w'
theorem OwnR.sl {base : Nat} {w : World} {v : Value} {l : List El} (h : OwnR base w v l) (hw : ∀ e ∈ l, e.wf) : Sl w v l := by
 obtain ⟨A, c, hv, h1, h2, h3⟩ := h.lies hw
 exact ⟨A, c, hv, by omega, h3⟩
theorem inR_iff (p o f m g : Int) (s : ByteArray) (p' o' f' p2 o2 f2 t : Int) : inR (p', o', f') (p2, o2, f2) t ⟨p, o, f, m, g, s⟩ = true ↔ kcmp p' o' f' p o f ≤ 0 ∧ kcmp p o f p2 o2 f2 ≤ 0 ∧ liveP m g t := by
 unfold inR
 rw [decide_eq_true_eq]
 have h1 : kLt (p, o, f) (p', o', f') ↔ kcmp p' o' f' p o f = 1 := kcmp_kGt.symm
 have h2 : kLt (p2, o2, f2) (p, o, f) ↔ kcmp p o f p2 o2 f2 = 1 := kcmp_kGt.symm
 simp only [El.key, El.live]
 rw [h1, h2]
 rcases kcmp_or p' o' f' p o f with h | h | h <;> rcases kcmp_or p o f p2 o2 f2 with h' | h' | h' <;> simp [h, h']
set_option maxHeartbeats 8000000 in
theorem runRange_any (A : Option Addr) (d : Nat) (l : List El) (p' o' f' p2 o2 f2 t : Int) (w : World) (hn : l.length ≤ 9223372036854775807) (hL : Lies w A l) :
    Calls Try.prog 59 #[.slice A l.length d, .agg #[.int .i64 p', .int .i64 o', .int .i64 f'], .agg #[.int .i64 p2, .int .i64 o2, .int .i64 f2], .int .i64 t] w (SlEnd (if rgErr l (p', o', f') (p2, o2, f2) = 0 then rangeR l (p', o', f') (p2, o2, f2) t else []) (rgErr l (p', o', f') (p2, o2, f2)) w) := by
  have cC : ∀ u, Calm w u → Calls Try.prog 26 #[.slice A l.length d] u fun e w' => e = .returned (.int .i64 (runErr l)) ∧ Calm u w' := fun u hu => runCheck_any A d l u hn (hL.calm hu)
  have cK := keyCheck_any p' o' f'
  have cK2 := keyCheck_any p2 o2 f2
  have hx : ((w.alloc (.cells #[.int .i64 p', .int .i64 o', .int .i64 f'] 31)).alloc (.cells #[.int .i64 p2, .int .i64 o2, .int .i64 f2] 31)).heap[w.heap.size]? = some (.cells #[.int .i64 p', .int .i64 o', .int .i64 f'] 31 (0, 0)) := heap_past _ (heap_new _ _)
  have hy : ((w.alloc (.cells #[.int .i64 p', .int .i64 o', .int .i64 f'] 31)).alloc (.cells #[.int .i64 p2, .int .i64 o2, .int .i64 f2] 31)).heap[w.heap.size + 1]? = some (.cells #[.int .i64 p2, .int .i64 o2, .int .i64 f2] 31 (0, 0)) := by simpa using heap_new (w.alloc (.cells #[.int .i64 p', .int .i64 o', .int .i64 f'] 31)) (.cells #[.int .i64 p2, .int .i64 o2, .int .i64 f2] 31)
  have hu := ((Calm.refl w).alloc (.cells #[.int .i64 p', .int .i64 o', .int .i64 f'] 31)).alloc (.cells #[.int .i64 p2, .int .i64 o2, .int .i64 f2] 31)
  by_cases he : runErr l = 0
  rotate_left
  · have e1 : rgErr l (p', o', f') (p2, o2, f2) = runErr l := by simp [rgErr, he]
    rw [e1, if_neg he]
    have b1 : (runErr l != 0) = true := by simpa using he
    clear he e1 hL cK cK2
    go_enter Try.func59, Try.ntmps59
    go_wp2_with (go_at_call 26; refine (cC _ hu).mono ?_; rintro e w1 ⟨rfl, hb1⟩; replace hx := (hb1.block (row3 hx).2.2.2).trans hx; replace hy := (hb1.block (row3 hy).2.2.2).trans hy; replace hu := hu.call hb1; clear hb1; obtain ⟨x0, x1, x2, hxs⟩ := row3 hx; obtain ⟨y0, y1, y2, hys⟩ := row3 hy)
    go_ret2
    exact ⟨_, rfl, Sl.nil _ _ _, hu⟩
  have hG := runErr_zero.1 he
  rw [he] at cC
  by_cases hk : keyErr p' o' f' = 0
  rotate_left
  · have e1 : rgErr l (p', o', f') (p2, o2, f2) = keyErr p' o' f' := by simp [rgErr, he, kErr, hk]
    rw [e1, if_neg hk]
    have b1 : (keyErr p' o' f' != 0) = true := by simpa using hk
    clear he hk e1 hL hG cK2
    go_enter Try.func59, Try.ntmps59
    go_wp2_with (first
      | (go_at_call 26; refine (cC _ hu).mono ?_; rintro e w1 ⟨rfl, hb1⟩; replace hx := (hb1.block (row3 hx).2.2.2).trans hx; replace hy := (hb1.block (row3 hy).2.2.2).trans hy; replace hu := hu.call hb1; clear hb1; obtain ⟨x0, x1, x2, hxs⟩ := row3 hx; obtain ⟨y0, y1, y2, hys⟩ := row3 hy)
      | (go_at_call 54; refine (cK _).mono ?_; rintro e w1 ⟨rfl, hb1⟩; replace hx := (hb1.block (row3 hx).2.2.2).trans hx; replace hy := (hb1.block (row3 hy).2.2.2).trans hy; replace hu := hu.call hb1; clear hb1; obtain ⟨x0, x1, x2, hxs⟩ := row3 hx; obtain ⟨y0, y1, y2, hys⟩ := row3 hy))
    go_ret2
    exact ⟨_, rfl, Sl.nil _ _ _, hu⟩
  by_cases hk2 : keyErr p2 o2 f2 = 0
  rotate_left
  · have e1 : rgErr l (p', o', f') (p2, o2, f2) = keyErr p2 o2 f2 := by simp [rgErr, he, kErr, hk]
    rw [e1, if_neg hk2]
    rw [hk] at cK
    have b1 : (keyErr p2 o2 f2 != 0) = true := by simpa using hk2
    clear he hk hk2 e1 hL hG
    go_enter Try.func59, Try.ntmps59
    go_wp2_with (first
      | (go_at_call 26; refine (cC _ hu).mono ?_; rintro e w1 ⟨rfl, hb1⟩; replace hx := (hb1.block (row3 hx).2.2.2).trans hx; replace hy := (hb1.block (row3 hy).2.2.2).trans hy; replace hu := hu.call hb1; clear hb1; obtain ⟨x0, x1, x2, hxs⟩ := row3 hx; obtain ⟨y0, y1, y2, hys⟩ := row3 hy)
      | (go_at_call 54; refine (cK _).mono ?_; rintro e w1 ⟨rfl, hb1⟩; replace hx := (hb1.block (row3 hx).2.2.2).trans hx; replace hy := (hb1.block (row3 hy).2.2.2).trans hy; replace hu := hu.call hb1; clear hb1; obtain ⟨x0, x1, x2, hxs⟩ := row3 hx; obtain ⟨y0, y1, y2, hys⟩ := row3 hy; clear cK)
      | (go_at_call 54; refine (cK2 _).mono ?_; rintro e w1 ⟨rfl, hb1⟩; replace hx := (hb1.block (row3 hx).2.2.2).trans hx; replace hy := (hb1.block (row3 hy).2.2.2).trans hy; replace hu := hu.call hb1; clear hb1; obtain ⟨x0, x1, x2, hxs⟩ := row3 hx; obtain ⟨y0, y1, y2, hys⟩ := row3 hy))
    go_ret2
    exact ⟨_, rfl, Sl.nil _ _ _, hu⟩
  have e1 : rgErr l (p', o', f') (p2, o2, f2) = 0 := by simp [rgErr, he, kErr, hk, hk2]
  rw [e1, if_pos rfl]
  rw [hk] at cK
  rw [hk2] at cK2
  have hn4 : l.length ≤ 400 := hG.1
  clear he hk hk2 e1 hG
  go_enter Try.func59, Try.ntmps59
  go_wp2_with (first
    | (go_at_call 26; refine (cC _ hu).mono ?_; rintro e w1 ⟨rfl, hb1⟩; replace hx := (hb1.block (row3 hx).2.2.2).trans hx; replace hy := (hb1.block (row3 hy).2.2.2).trans hy; replace hu := hu.call hb1; clear hb1; obtain ⟨x0, x1, x2, hxs⟩ := row3 hx; obtain ⟨y0, y1, y2, hys⟩ := row3 hy; clear cC)
    | (go_at_call 54; refine (cK _).mono ?_; rintro e w1 ⟨rfl, hb1⟩; replace hx := (hb1.block (row3 hx).2.2.2).trans hx; replace hy := (hb1.block (row3 hy).2.2.2).trans hy; replace hu := hu.call hb1; clear hb1; obtain ⟨x0, x1, x2, hxs⟩ := row3 hx; obtain ⟨y0, y1, y2, hys⟩ := row3 hy; clear cK)
    | (go_at_call 54; refine (cK2 _).mono ?_; rintro e w1 ⟨rfl, hb1⟩; replace hx := (hb1.block (row3 hx).2.2.2).trans hx; replace hy := (hb1.block (row3 hy).2.2.2).trans hy; replace hu := hu.call hb1; clear hb1; obtain ⟨x0, x1, x2, hxs⟩ := row3 hx; obtain ⟨y0, y1, y2, hys⟩ := row3 hy; clear cK2))
  have hRL : ∀ k, (rangeR (l.take k) (p', o', f') (p2, o2, f2) t).length ≤ 400 := fun k => by
    have h1 := rangeR_le (l.take k) (p', o', f') (p2, o2, f2) t
    have h2 : (l.take k).length ≤ l.length := List.length_take_le' _ _
    omega
  replace hL := hL.calm hu
  clear x0 x1 x2 y0 y1 y2 hxs hys
  obtain ⟨w3, hw3⟩ : ∃ w3 : World, w3 = w1 := ⟨_, rfl⟩
  subst hw3
  go_loopw [13, 33] (fun v i wr => ∃ k : Nat, k ≤ l.length ∧ i = .int .i64 k ∧ Calm w3 wr ∧ Hid (OwnR w3.heap.size wr v (rangeR (l.take k) (p', o', f') (p2, o2, f2) t))) (fun _ i _ => l.length - (intOf i).toNat)
  case atStart => exact ⟨0, Nat.zero_le _, rfl, Calm.refl _, show OwnR _ _ _ _ from OwnR.nil _ _⟩
  case round =>
    obtain ⟨k, hk, rfl, hur, ho⟩ := hrel
    by_cases hlt : k < l.length
    rotate_left
    · have K : Hid (rangeR (l.take k) (p', o', f') (p2, o2, f2) t = rangeR l (p', o', f') (p2, o2, f2) t) := by show _ = _; rw [List.take_of_length_le (by omega)]
      rw [K.out] at ho
      have hS := ho.out.sl fun e he => hL.1 e (List.mem_filter.1 he).1
      replace hur := hu.call hur
      clear K ho
      go_wp2_with fail
      go_ret2
      exact ⟨_, rfl, hS, hur⟩
    replace hx := (hur.block (row3 hx).2.2.2).trans hx
    replace hy := (hur.block (row3 hy).2.2.2).trans hy
    obtain ⟨b, q, p, o, f, m, g, s, rfl, hb, HE, hm, c0, c1, c2, c3, c4, c5⟩ := (hL.calm hur).get hlt
    have hT := rangeR_take HE.out (p', o', f') (p2, o2, f2) t
    have hI := inR_iff p o f m g s p' o' f' p2 o2 f2 t
    have hz : (wr.alloc (.cells #[.int .i64 p, .int .i64 o, .int .i64 f, .int .i64 m, .int .i64 g, .string s] 43)).heap[wr.heap.size]? = some (.cells #[.int .i64 p, .int .i64 o, .int .i64 f, .int .i64 m, .int .i64 g, .string s] 43 (0, 0)) := heap_new _ _
    replace hx := heap_past (.cells #[.int .i64 p, .int .i64 o, .int .i64 f, .int .i64 m, .int .i64 g, .string s] 43) hx
    replace hy := heap_past (.cells #[.int .i64 p, .int .i64 o, .int .i64 f, .int .i64 m, .int .i64 g, .string s] 43) hy
    replace ho := Lib.hid (ho.out.calm ((Calm.refl wr).alloc (.cells #[.int .i64 p, .int .i64 o, .int .i64 f, .int .i64 m, .int .i64 g, .string s] 43)))
    replace hur := hur.alloc (.cells #[.int .i64 p, .int .i64 o, .int .i64 f, .int .i64 m, .int .i64 g, .string s] 43)
    have hRk := hRL k
    obtain ⟨x0, x1, x2, hxs⟩ := row3 hx
    obtain ⟨y0, y1, y2, hys⟩ := row3 hy
    obtain ⟨z0, z1, z2, z3, z4, z5, hzs⟩ := row6 hz
    clear HE hRL hL
    have cA := cmp_any p' o' f' p o f
    have cB := cmp_any p o f p2 o2 f2
    have cL := live_any p o f m g t s
    generalize kcmp p' o' f' p o f = k1 at cA hI
    generalize kcmp p o f p2 o2 f2 = k2 at cB hI
    by_cases hin : inR (p', o', f') (p2, o2, f2) t ⟨p, o, f, m, g, s⟩ = true
    · rw [if_pos hin] at hT
      obtain ⟨h1, h2, h3⟩ := hI.1 hin
      rw [decide_eq_true h3] at cL
      have HT := Lib.hid hT
      clear hI hin h3 hT
      go_wp2_with (first
        | (go_at_call 38; refine (cA _).mono ?_; rintro e w1 ⟨rfl, hb1⟩; replace hx := (hb1.block (row3 hx).2.2.2).trans hx; replace hy := (hb1.block (row3 hy).2.2.2).trans hy; replace hz := (hb1.block (row6 hz).2.2.2.2.2.2).trans hz; replace ho := Lib.hid (ho.out.calm hb1); replace hur := hur.call hb1; clear hb1; obtain ⟨x0, x1, x2, hxs⟩ := row3 hx; obtain ⟨y0, y1, y2, hys⟩ := row3 hy; obtain ⟨z0, z1, z2, z3, z4, z5, hzs⟩ := row6 hz; clear cA)
        | (go_at_call 38; refine (cB _).mono ?_; rintro e w1 ⟨rfl, hb1⟩; replace hx := (hb1.block (row3 hx).2.2.2).trans hx; replace hy := (hb1.block (row3 hy).2.2.2).trans hy; replace hz := (hb1.block (row6 hz).2.2.2.2.2.2).trans hz; replace ho := Lib.hid (ho.out.calm hb1); replace hur := hur.call hb1; clear hb1; obtain ⟨x0, x1, x2, hxs⟩ := row3 hx; obtain ⟨y0, y1, y2, hys⟩ := row3 hy; obtain ⟨z0, z1, z2, z3, z4, z5, hzs⟩ := row6 hz; clear cB)
        | (go_at_call 78; refine (cL _).mono ?_; rintro e w1 ⟨rfl, hb1⟩; replace hx := (hb1.block (row3 hx).2.2.2).trans hx; replace hy := (hb1.block (row3 hy).2.2.2).trans hy; replace hz := (hb1.block (row6 hz).2.2.2.2.2.2).trans hz; replace ho := Lib.hid (ho.out.calm hb1); replace hur := hur.call hb1; clear hb1; obtain ⟨x0, x1, x2, hxs⟩ := row3 hx; obtain ⟨y0, y1, y2, hys⟩ := row3 hy; obtain ⟨z0, z1, z2, z3, z4, z5, hzs⟩ := row6 hz)
        | (at_builtin; refine wpList_append_el rfl _ _ rfl _ _ _ rfl (ho.out.calm ((Calm.refl _).alloc _)) _ _ p o f m g s _ rfl (heap_new _ _) (by omega) (by simp; exact Nat.le_succ_of_le hur.size) ?_; intro v' w9 ho9 hc9; have hur9 := hc9 _ (Nat.le_refl _) (hur.alloc _); rw [← HT.out] at ho9))
      have HO := Lib.hid ho9
      clear ho9 HT hc9
      go_roundw
      case rel => exact ⟨k + 1, by omega, by go_num, hur9, HO⟩
      case measure => simp [intOf]; omega
    · rw [if_neg hin, List.append_nil] at hT
      rw [← hT] at ho
      clear hT
      have hc : ¬ k1 ≤ 0 ∨ (k1 ≤ 0 ∧ ¬ k2 ≤ 0) ∨ (k1 ≤ 0 ∧ k2 ≤ 0 ∧ ¬ liveP m g t) := by
        by_cases a1 : k1 ≤ 0
        · by_cases a2 : k2 ≤ 0
          · exact .inr (.inr ⟨a1, a2, fun a3 => hin (hI.2 ⟨a1, a2, a3⟩)⟩)
          · exact .inr (.inl ⟨a1, a2⟩)
        · exact .inl a1
      clear hI hin
      rcases hc with h1 | ⟨h1, h2⟩ | ⟨h1, h2, h3⟩
      all_goals
        try rw [decide_eq_false h3] at cL
        try clear h3
        go_wp2_with (first
          | (go_at_call 38; refine (cA _).mono ?_; rintro e w1 ⟨rfl, hb1⟩; replace hx := (hb1.block (row3 hx).2.2.2).trans hx; replace hy := (hb1.block (row3 hy).2.2.2).trans hy; replace hz := (hb1.block (row6 hz).2.2.2.2.2.2).trans hz; replace ho := Lib.hid (ho.out.calm hb1); replace hur := hur.call hb1; clear hb1; obtain ⟨x0, x1, x2, hxs⟩ := row3 hx; obtain ⟨y0, y1, y2, hys⟩ := row3 hy; obtain ⟨z0, z1, z2, z3, z4, z5, hzs⟩ := row6 hz; clear cA)
          | (go_at_call 38; refine (cB _).mono ?_; rintro e w1 ⟨rfl, hb1⟩; replace hx := (hb1.block (row3 hx).2.2.2).trans hx; replace hy := (hb1.block (row3 hy).2.2.2).trans hy; replace hz := (hb1.block (row6 hz).2.2.2.2.2.2).trans hz; replace ho := Lib.hid (ho.out.calm hb1); replace hur := hur.call hb1; clear hb1; obtain ⟨x0, x1, x2, hxs⟩ := row3 hx; obtain ⟨y0, y1, y2, hys⟩ := row3 hy; obtain ⟨z0, z1, z2, z3, z4, z5, hzs⟩ := row6 hz; clear cB)
          | (go_at_call 78; refine (cL _).mono ?_; rintro e w1 ⟨rfl, hb1⟩; replace hx := (hb1.block (row3 hx).2.2.2).trans hx; replace hy := (hb1.block (row3 hy).2.2.2).trans hy; replace hz := (hb1.block (row6 hz).2.2.2.2.2.2).trans hz; replace ho := Lib.hid (ho.out.calm hb1); replace hur := hur.call hb1; clear hb1; obtain ⟨x0, x1, x2, hxs⟩ := row3 hx; obtain ⟨y0, y1, y2, hys⟩ := row3 hy; obtain ⟨z0, z1, z2, z3, z4, z5, hzs⟩ := row6 hz))
        go_roundw
        case rel => exact ⟨k + 1, by omega, by go_num, hur, ho⟩
        case measure => simp [intOf]; omega
open Go.ChangeShapes Go.WideShapes Go.ChangeAt Go.RowKit
theorem rg_all (l : List El) : rgErr l (0, 0, 0) (15, 1048576, 1073741824) = runErr l := by
 unfold rgErr
 by_cases h : runErr l = 0
 ·rw [if_pos h, h]; decide
 ·rw [if_neg h]
theorem new_take {l : List El} {k : Nat} {e : El} (h : l[k]? = some e) : (l.take (k + 1)).map newC = (l.take k).map newC ++ [newC e] := by
 obtain ⟨hk, rfl⟩ := List.getElem?_eq_some_iff.1 h
 rw [List.take_succ_eq_append_getElem hk, List.map_append]; rfl
set_option maxHeartbeats 8000000 in
theorem creation_any (A : Option Addr) (c : Nat) (l : List El) (t : Int) (w : World) (hn : l.length ≤ 9223372036854775807) (hL : Lies w A l) :
    Calls Try.prog 28 #[.slice A l.length c, .int .i64 t] w (CgEnd2 (if runErr l = 0 then creat l t else []) (runErr l) w) := by
  have cR := fun u (hu : Calm w u) => runRange_any A c l 0 0 0 15 1048576 1073741824 t u hn (hL.calm hu)
  unfold SlEnd at cR
  simp only [rg_all] at cR
  have hu := (Calm.refl w).alloc (.cells #[.int .i64 15, .int .i64 1048576, .int .i64 1073741824] 31 (0, 0))
  by_cases hE : runErr l = 0
  rotate_left
  · rw [if_neg hE]
    simp only [if_neg hE] at cR
    have b1 : (runErr l != 0) = true := by simpa using hE
    generalize runErr l = E at *
    go_enter Try.func28, Try.ntmps28
    go_wp2_with (go_at_call 59; (with_reducible refine (cR _ hu).mono ?_); rintro e w1 ⟨v, rfl, hs, hb⟩; obtain ⟨A1, c1, rfl, _, _⟩ := hs; replace hu := hu.call hb; clear hb cR)
    go_ret2
    exact ⟨_, rfl, OwnG.nil _ _ _ _ _, hu⟩
  have hG : Good l := runErr_zero.1 hE
  rw [if_pos hE, hE]
  simp only [hE, if_pos] at cR
  have hl4 := hG.1
  obtain ⟨M, hM⟩ : ∃ M, M = rangeR l (0, 0, 0) (15, 1048576, 1073741824) t := ⟨_, rfl⟩
  rw [← hM] at cR
  have hMl : M.length ≤ 400 := by rw [hM]; exact Nat.le_trans (rangeR_le _ _ _ _) hl4
  have hcr : creat l t = M.map newC := by unfold creat kMax; rw [hM]
  rw [hcr]
  have HMl := Lib.hid hMl
  clear hE hG hM hL hcr hl4 hMl
  go_enter Try.func28, Try.ntmps28
  go_upto_region 5 with (go_at_call 59; (with_reducible refine (cR _ hu).mono ?_); rintro e w1 ⟨v, rfl, hs, hb⟩; obtain ⟨A1, c1, rfl, _, hl1⟩ := hs; have HL1 := Lib.hid hl1; replace hu := hu.call hb; clear hb cR hl1)
  have hu1 := hu
  clear hu
  have hMl : M.length ≤ 9223372036854775807 := by have := HMl.out; omega
  go_wp2_with fail
  go_loopw [9, 26] (fun v i wr => ∃ k : Nat, k ≤ M.length ∧ i = .int .i64 k ∧ Calm w1 wr ∧ Hid (OwnC w1.heap.size wr v ((M.take k).map newC))) (fun _ i _ => M.length - (intOf i).toNat)
  case atStart => exact ⟨0, Nat.zero_le _, rfl, Calm.refl _, show OwnG _ _ _ _ _ _ _ from OwnG.nil _ _ _ _ _⟩
  case round =>
    obtain ⟨k, hk, rfl, hv, HT⟩ := hrel
    by_cases hlt : k < M.length
    rotate_left
    · have HT2 := HT.out
      rw [List.take_of_length_le (by omega)] at HT2
      have HT3 := Lib.hid HT2
      clear HT2
      go_wp2_with fail
      go_ret2
      exact ⟨_, rfl, HT3.out.weaken hu1.size, hu1.call hv⟩
    obtain ⟨b, q, p, o, f, m, g, s, rfl, hb, HE, hm, c0, c1, c2, c3, c4, c5⟩ := (HL1.out.calm hv).get hlt
    have hF := new_take HE.out
    have hl1 : (((M.take k).map newC).length + 1) * 64 ≤ 140737488355328 := by
      have := HMl.out
      rw [List.length_map, List.length_take]; omega
    generalize (M.take k).map newC = K at HT hF hl1
    have hF := Lib.hid hF
    have hl1 := Lib.hid hl1
    obtain ⟨AM, cM, rfl, -, -, -⟩ := chg_own HT.out
    have hv2 := hv.alloc (.cells #[.int .i64 p, .int .i64 o, .int .i64 f, .int .i64 m, .int .i64 g, .string s] 43 (0, 0))
    have HT2 := Lib.hid (HT.out.calm ((Calm.refl wr).alloc (.cells #[.int .i64 p, .int .i64 o, .int .i64 f, .int .i64 m, .int .i64 g, .string s] 43 (0, 0))))
    clear HE HT
    have cB := fun u => chBetween_any p o f false true { data := #[] } s u
    go_wp2_with (first
      | (go_at_call 60; (with_reducible refine (cB _).mono ?_); rintro e w2 ⟨rfl, hb2⟩; replace HT2 := Lib.hid ((HT2.out.calm hb2).calm ((Calm.refl _).alloc (.cells #[.int .i64 p, .int .i64 o, .int .i64 f, .bool false, .bool true, .string { data := #[] }, .string s] 33 (0, 0)))); replace hv2 := (hv2.call hb2).alloc (.cells #[.int .i64 p, .int .i64 o, .int .i64 f, .bool false, .bool true, .string { data := #[] }, .string s] 33 (0, 0)); clear hb2 cB)
      | (at_builtin; refine wpList_append_chg rfl _ _ rfl w1.heap.size _ _ rfl HT2.out _ _ ⟨p, o, f, false, true, { data := #[] }, s⟩ _ rfl (heap_new _ _) hl1.out hv2.size ?_; intro v' w9 ho9 hk9; have HT9 := Lib.hid ho9; have hv9 := hk9 w1 (Nat.le_refl _) hv2; clear ho9 hk9))
    go_roundw
    case rel => exact ⟨k + 1, by omega, by go_num, hv9, show OwnG _ _ _ _ _ _ _ from by rw [hF.out]; exact HT9.out⟩
    case measure => simp [intOf]; omega
open Go.RowKit
theorem ownC_row {base g cap : Nat} {w : World} {l : List Chg} {cur : List Value} (hb : base ≤ g) (hg : w.heap[g]? = some (.cells cur.toArray 33 (0, 0))) (hn : l.length ≤ cap) (hc : cap ≤ maxLen) (hs : cur.length = cap * 7) (ht : cur.take (l.length * 7) = cvs chgV l) :
    OwnC base w (.slice (some ⟨g, 0, none⟩) l.length cap) l :=
  ⟨cvs_len chgV_len l, .inr ⟨g, cap, cur.toArray, rfl, hb, hg, hn, hc, by simpa using hs, by simpa using ht⟩⟩
/-- append(out, s...), s any slice that reads as records. -/
theorem wpList_append_liesC {ops : Array Oper} {rest : List Oper} {o : Oper} {a : Act} {w : World} {Q : Exit → Act → World → Prop} (hgd : o.guard = none) (s x : Operand)
    (ho : o.op = .call { callee := .builtin .append, args := #[s, x], argTypes := #[23, 23] })
    (base : Nat) (v : Value) (l : List Chg) (hs : a.eval s = v) (hown : OwnC base w v l) (A : Option Addr) (c : Nat) (l2 : List Chg) (hx : a.eval x = .slice A l2.length c) (hsrc : LiesC w A l2)
    (hl : (l.length + l2.length) * 64 ≤ 140737488355328) (hbase : base ≤ w.heap.size)
    (h : ∀ v' w', OwnC base w' v' (l ++ l2) → (∀ w0 : World, w0.heap.size ≤ base → Calm w0 w → Calm w0 w') → wpList Try.prog ops Q rest (a.put o.dst v') w') : wpList Try.prog ops Q (o :: rest) a w := by
  obtain ⟨i0, hi, hz0, hz1, hz2⟩ := info_parts infoChg
  have fin : ∀ v' w', w'.ownsRow base 33 7 v' (l.length + l2.length) (cvs chgV l ++ cvs chgV l2) → w.grownBy w' v.ownBlock → wpList Try.prog ops Q rest (a.put o.dst v') w' := fun v' w' h1 h2 => by
    refine h v' w' ?_ fun w0 h0 hc => hc.grownG h0 hown h2
    unfold OwnC OwnG
    rw [List.length_append, cvs_app]
    exact h1
  rcases A with _ | ad
  · have h0 : l2 = [] := by
      rcases Nat.eq_zero_or_pos l2.length with h | h
      · exact List.eq_nil_of_length_eq_zero h
      · obtain ⟨_, _, h1, _⟩ := hsrc h; cases h1
    subst h0
    refine wpList_plain hgd fun K hK => ?_
    have hrun : (Builtin.append_ #[23, 23] o.type #[v, .slice none 0 c]).run Try.prog w = .ok v w := by
      rcases hown.2 with ⟨rfl, hn⟩ | ⟨g, cap, cur, rfl, _, _, hnc, _⟩
      · simp [Builtin.append_, run_underlying Try.underlying23, sizeOf, typeInfo, hi, Builtin.lenOf, Builtin.firstCells]
      · simp [Builtin.append_, run_underlying Try.underlying23, sizeOf, typeInfo, hi, Builtin.lenOf, Builtin.firstCells, hnc, storeCells]
    have hx' : a.eval x = .slice none 0 c := hx
    unfold Oper.wp execOp
    simp only [ho, resolve, invoke, builtin, Sem.run_bind, Sem.run_pure, Result.andThen_ok, List.map_toArray, List.map_cons, List.map_nil, hs, hx', hrun]
    exact hK _ _ (h v w (by simpa using hown) fun _ _ h => h)
  · refine wpList_append_own w hgd s x _ ho base 33 i0 _ 7 64 Try.underlying23 hi hz0 hz1 hz2 rfl (by decide) v _ _ hs hown ad l2.length c (cvs chgV l2) hx (cvs_len chgV_len l2) (fun j u hj => ?_) (cvs_one chgV_one l2) (by unfold maxLen; omega) (by omega) hbase fun v' w' h1 h2 _ => fin v' w' h1 h2
    have hj2 : j < l2.length * 7 := by rw [← cvs_len chgV_len]; exact (List.getElem?_eq_some_iff.1 hj).1
    obtain ⟨b, q, hA, _, _⟩ := hsrc (by omega)
    injection hA with hA
    subst hA
    have e : (⟨b, q, none⟩ : Addr).add j = ⟨b, q + j, none⟩ := by unfold Addr.add; split <;> simp_all
    rw [e]
    exact (LiesG.cells chgV_len (by decide) hsrc j u hj).2
set_option maxHeartbeats 4000000 in
theorem growC_any (n : Nat) (w : World) (hn : n ≤ 1000) : Calls Try.prog 69 #[.slice none 0 0, .int .i64 (n : Int)] w fun e w' => ∃ v, e = .returned v ∧ OwnC w.heap.size w' v [] ∧ Calm w w' := by
 by_cases h0 : n = 0
 ·subst h0
  go_enter Try.func69, Try.ntmps69
  go_wp2_with fail
  go_ret
  exact ⟨_, rfl, OwnG.nil _ _ _ _ _, Calm.refl _⟩
 obtain ⟨i0, hi0, hz0, hzs, hzb⟩ := info_parts infoChg
 obtain ⟨G, hG⟩ : ∃ G, G = grownCap w n 0 33 := ⟨_, rfl⟩
 have hGn : n ≤ G := by rw [hG]; exact grownCap_ge w _ _ _
 have hGm : G ≤ maxLen := by rw [hG]; exact grownCap_le_maxLen w n 0 _ (by unfold maxLen; omega)
 obtain ⟨C, hC⟩ : ∃ C : List Value, C = (Builtin.zeroCells (Value.agg #[.int .i64 0, .int .i64 0, .int .i64 0, .bool false, .bool false, .string ByteArray.empty, .string ByteArray.empty]).cells n).toList ++ (Builtin.zeroCells (Value.agg #[.int .i64 0, .int .i64 0, .int .i64 0, .bool false, .bool false, .string ByteArray.empty, .string ByteArray.empty]).cells (G - n)).toList := ⟨_, rfl⟩
 have hCl : C.length = G * 7 := by
  rw [hC, List.length_append, Array.length_toList, Array.length_toList, size_zeroCells, size_zeroCells]
  show n * 7 + (G - n) * 7 = G * 7
  omega
 have hrz : ∀ ty, (Builtin.append_ #[23, 3] ty #[.slice none 0 0, .int .i64 (n : Int)]).run Try.prog w = .ok (.slice (some ⟨w.heap.size, 0, none⟩) n G) (w.drew.alloc (.cells C.toArray 33)) := fun ty => by
  have h := Lib.run_append_grow_zeros w 23 3 ty 33 i0 _ .i64 .i64 Try.underlying23 Try.underlying3 hi0 hz0 none 0 0 [] (run_firstCells_none w.drew _ 0 0 0) n (by omega) (by omega) (by omega) (by omega) (by rw [hzb]; omega) (by rw [hzb]; exact growslice_fits (by omega) (by omega))
  rw [Nat.zero_add, ← hG] at h
  rw [h, hC]
  exact congrArg (fun x => Result.ok _ (w.drew.alloc (.cells x 33))) (Array.toList_inj.1 (by simp))
 have hO : OwnC w.heap.size (w.drew.alloc (.cells C.toArray 33)) (.slice (some ⟨w.heap.size, 0, none⟩) 0 G) [] :=
  ownC_row (l := []) (Nat.le_refl _) (heap_alloc_new w.drew _) (Nat.zero_le _) hGm hCl rfl
 have HO := Lib.hid hO
 have hni : (0 : Int) < (n : Int) := by omega
 have hG0 : ¬ G = 0 := by omega
 clear hG hGn hGm hC hCl hi0 hz0 hzs hzb h0 hO
 go_enter Try.func69, Try.ntmps69
 go_wp2_with (at_builtin; refine Lib.wpList_append_run _ rfl _ _ _ _ rfl _ _ rfl rfl _ _ (hrz _) ?_)
 go_ret
 exact ⟨_, rfl, HO.out, ((Calm.refl w).drew).alloc _⟩
set_option maxHeartbeats 8000000 in
theorem concat3C_any (H : Nat) (A1 A2 A3 : Option Addr) (c1 c2 c3 : Nat) (l1 l2 l3 : List Chg) (w : World) (h : l1.length + l2.length + l3.length ≤ 1000) (hL1 : LiesC w A1 l1) (hL2 : LiesC w A2 l2) (hL3 : LiesC w A3 l3) (t : Nat)
    (hx : w.heap[H]? = some (.cells #[.slice A1 l1.length c1, .slice A2 l2.length c2, .slice A3 l3.length c3] t (0, 0))) :
    Calls Try.prog 40 #[.slice (some ⟨H, 0, none⟩) 3 3] w fun e w' => ∃ v, e = .returned v ∧ OwnC w.heap.size w' v (l1 ++ l2 ++ l3) ∧ Calm w w' := by
  have x0 := cell_of_row _ _ 0 _ _ _ hx
  have x1 := cell_of_row _ _ 1 _ _ _ hx
  have x2 := cell_of_row _ _ 2 _ _ _ hx
  have hxs := (Array.getElem?_eq_some_iff.1 hx).1
  have HX0 := Lib.hid hx
  simp only [List.getElem?_toArray, List.getElem?_cons_zero, List.getElem?_cons_succ] at x0 x1 x2
  have cG := fun u => growC_any (l1.length + l2.length + l3.length) u (by omega)
  rw [show ((l1.length + l2.length + l3.length : Nat) : Int) = (l1.length : Int) + (l2.length : Int) + (l3.length : Int) from by omega] at cG
  have n1 : (l1.length : Int) ≤ 1000 := by omega
  have n2 : (l2.length : Int) ≤ 1000 := by omega
  have n3 : (l3.length : Int) ≤ 1000 := by omega
  have hc : (([] ++ l1 ++ l2).length + l3.length) * 64 ≤ 140737488355328 := by simp only [List.nil_append, List.length_append]; omega
  have hb : (([] ++ l1).length + l2.length) * 64 ≤ 140737488355328 := by simp only [List.nil_append]; omega
  have hb0 : (([] : List Chg).length + l1.length) * 64 ≤ 140737488355328 := by simp only [List.length_nil]; omega
  clear h
  go_enter Try.func40, Try.ntmps40
  go_wp2_with fail
  refine wp_loop_rounds 4 ?_
  rw [rounds_succ]
  go_wp2_with fail
  rw [rounds_succ]
  go_wp2_with fail
  rw [rounds_succ]
  go_wp2_with fail
  rw [rounds_succ]
  go_wp2_with (go_at_call 69; refine (cG _).mono ?_; rintro e w1 ⟨v, rfl, hov, hb1⟩; have hu := (Calm.refl w).call hb1; have HO := Lib.hid hov; replace hx := (hb1.block hxs).trans hx; clear hov hb1)
  have x0 := cell_of_row _ _ 0 _ _ _ hx
  have x1 := cell_of_row _ _ 1 _ _ _ hx
  simp only [List.getElem?_toArray, List.getElem?_cons_zero, List.getElem?_cons_succ] at x0 x1
  have HL1 := Lib.hid (hL1.calm hu)
  clear hL1
  have HL2 := Lib.hid hL2
  clear hL2
  have HL3 := Lib.hid hL3
  clear hL3
  refine wp_loop_rounds 4 ?_
  rw [rounds_succ]
  go_wp2_with (at_builtin; go_must (refine wpList_append_liesC rfl _ _ rfl w.heap.size _ [] rfl HO.out _ _ l1 rfl HL1.out hb0 hu.size ?_); intro v2 w2 ho2 hc2; have hu2 := hc2 _ (Nat.le_refl _) hu; have HO2 := Lib.hid ho2; clear ho2 hc2; have y1 := cell_of_row _ _ 1 _ _ _ ((hu2.block hxs).trans HX0.out); simp only [List.getElem?_toArray, List.getElem?_cons_zero, List.getElem?_cons_succ] at y1)
  rw [rounds_succ]
  go_wp2_with (at_builtin; go_must (refine wpList_append_liesC rfl _ _ rfl w.heap.size _ _ rfl HO2.out _ _ l2 rfl (HL2.out.calm hu2) hb hu2.size ?_); intro v3 w3 ho3 hc3; have hu3 := hc3 _ (Nat.le_refl _) hu2; have HO3 := Lib.hid ho3; clear ho3 hc3; have y2 := cell_of_row _ _ 2 _ _ _ ((hu3.block hxs).trans HX0.out); simp only [List.getElem?_toArray, List.getElem?_cons_zero, List.getElem?_cons_succ] at y2)
  rw [rounds_succ]
  go_wp2_with (at_builtin; go_must (refine wpList_append_liesC rfl _ _ rfl w.heap.size _ _ rfl HO3.out _ _ l3 rfl (HL3.out.calm hu3) hc hu3.size ?_); intro v4 w4 ho4 hc4; have hu4 := hc4 _ (Nat.le_refl _) hu3; have HO4 := Lib.hid ho4; clear ho4 hc4)
  rw [rounds_succ]
  go_wp2_with fail
  go_ret
  exact ⟨_, rfl, HO4.out, hu4⟩
open Go.ChangeShapes Go.WideShapes Go.ChangeAt Go.RowKit
def slLen : Value → Nat
 | .slice _ n _ => n
 |_ => 0
/-- The first change of a row, and the rest of the row. -/
theorem chg_cons {w : World} {A : Option Addr} {l : List Chg} (h : LiesC w A l) (hk : 0 < l.length) : ∃ (b q : Nat) (p o f : Int) (hd hs : Bool) (ws vs : ByteArray) (T : List Chg), A = some ⟨b, q, none⟩ ∧ b < w.heap.size ∧ Hid (l = ⟨p, o, f, hd, hs, ws, vs⟩ :: T) ∧ Hid (LiesC w (some ⟨b, q + 7, none⟩) T) ∧
    w.cell? ⟨b, q, none⟩ = some (.int .i64 p) ∧ w.cell? ⟨b, q + 1, none⟩ = some (.int .i64 o) ∧ w.cell? ⟨b, q + 2, none⟩ = some (.int .i64 f) ∧ w.cell? ⟨b, q + 3, none⟩ = some (.bool hd) ∧ w.cell? ⟨b, q + 4, none⟩ = some (.bool hs) ∧ w.cell? ⟨b, q + 5, none⟩ = some (.string ws) ∧ w.cell? ⟨b, q + 6, none⟩ = some (.string vs) := by
  obtain ⟨b, q, p, o, f, hd, hs, ws, vs, rfl, hb, HE, c0, c1, c2, c3, c4, c5, c6⟩ := chg_get h hk
  simp only [Nat.zero_mul, Nat.add_zero] at c0 c1 c2 c3 c4 c5 c6
  cases l with
  | nil => simp at hk
  | cons x T =>
    have hx : x = ⟨p, o, f, hd, hs, ws, vs⟩ := by have := HE.out; simpa using this
    subst hx
    refine ⟨b, q, p, o, f, hd, hs, ws, vs, T, rfl, hb, rfl, show LiesC _ _ _ from fun hT => ⟨b, q + 7, rfl, hb, fun k y hy j hj => ?_⟩, c0, c1, c2, c3, c4, c5, c6⟩
    obtain ⟨b2, q2, hA, _, hc⟩ := h hk
    injection hA with hA
    injection hA with e1 e2
    subst e1; subst e2
    have := hc (k + 1) y (by simpa using hy) j hj
    rw [← this]
    congr 2
    omega
theorem liesC_nil {w : World} {A : Option Addr} {l : List Chg} (h : ¬ 0 < l.length) : LiesC w A l := fun h2 => absurd h2 h
def coErr (a b : List Chg) : Int := match comp a b with | some _ => 0 | none => 1
def coL (a b : List Chg) : List Chg := (comp a b).getD []
set_option maxHeartbeats 16000000 in
theorem compose_any (A B : Option Addr) (c d : Nat) (a b : List Chg) (w : World) (hc : a.length ≤ c) (hd0 : b.length ≤ d) (hn : a.length + b.length ≤ 1000) (hA : LiesC w A a) (hB : LiesC w B b) :
    Calls Try.prog 29 #[.slice A a.length c, .slice B b.length d] w (CgEnd2 (coL a b) (coErr a b) w) := by
  generalize hL : coL a b = L
  generalize hE : coErr a b = E
  have HLE : Hid (coL a b = L ∧ coErr a b = E) := ⟨hL, hE⟩
  clear hL hE
  have HC := Lib.hid hc
  have HD := Lib.hid hd0
  have HNN := Lib.hid hn
  have HA := Lib.hid hA
  have HB := Lib.hid hB
  clear hA hB hc hd0 hn
  go_enter Try.func29, Try.ntmps29
  go_wp2_with fail
  go_loopw [6, 0, 1] (fun v va vb wr => ∃ (a' b' M : List Chg) (A1 B1 : Option Addr) (c1 d1 : Nat), va = .slice A1 a'.length c1 ∧ vb = .slice B1 b'.length d1 ∧ Calm w wr ∧ Hid (LiesC w A1 a') ∧ Hid (LiesC w B1 b') ∧ Hid (a'.length ≤ c1 ∧ b'.length ≤ d1 ∧ M.length + a'.length + b'.length ≤ 1000) ∧ Hid (comp a b = (comp a' b').map (M ++ ·)) ∧ Hid (OwnC w.heap.size wr v M)) (fun _ va vb _ => slLen va + slLen vb)
  case atStart => exact ⟨a, b, [], A, B, c, d, rfl, rfl, Calm.refl _, HA, HB, show _ ∧ _ from ⟨HC.out, HD.out, by have := HNN.out; simp only [List.length_nil]; omega⟩, show _ = _ from by simp, show OwnG _ _ _ _ _ _ _ from OwnG.nil _ _ _ _ _⟩
  case round =>
    obtain ⟨a', b', M, A1, B1, c1, d1, rfl, rfl, hv, HA1, HB1, HN, HK, HT⟩ := hrel
    clear HA HB HC HD HNN
    obtain ⟨n1, n3, n5⟩ := HN.out
    clear HN
    obtain ⟨AM, cM, rfl, -, -, -⟩ := chg_own HT.out
    have n5 := Lib.hid n5
    by_cases hla : 0 < a'.length
    rotate_left
    · have HR : Hid (L = M ++ a' ++ b' ∧ E = 0) := by
        have h1 := HK.out
        have h2 : comp a' b' = some (a' ++ b') := by
          rw [List.eq_nil_of_length_eq_zero (by omega : a'.length = 0), comp_nil]; rfl
        rw [h2] at h1
        obtain ⟨e1, e2⟩ := HLE.out
        unfold coL at e1
        unfold coErr at e2
        rw [h1] at e1 e2
        exact ⟨e1.symm.trans (List.append_assoc ..).symm, e2.symm⟩
      have cC := fun u (hu : Calm w u) (ho : LiesC u AM M) (H t : Nat) hx => concat3C_any H AM A1 B1 cM c1 d1 M a' b' u n5.out ho (HA1.out.calm hu) (HB1.out.calm hu) t hx
      have hM0 := Lib.hid (show LiesC wr AM M from (HT.out.at_ chgV_len).2)
      obtain ⟨rfl, rfl⟩ := HR.out
      clear HLE HK n5 HR
      have hv2 := hv.alloc (.cells #[.slice AM M.length cM, .slice A1 a'.length c1, .slice B1 b'.length d1] 23 (0, 0))
      have hM1 := Lib.hid (hM0.out.calm ((Calm.refl wr).alloc (.cells #[.slice AM M.length cM, .slice A1 a'.length c1, .slice B1 b'.length d1] 23 (0, 0))))
      go_wp2_with (go_at_call 40; refine (cC _ hv2 hM1.out _ _ (heap_new _ _)).mono ?_; rintro e w9 ⟨v9, rfl, ho9, hb9⟩; have HO9 := Lib.hid (OwnG.weaken ho9 hv2.size); have hu9 := hv2.call hb9; clear ho9 hb9)
      go_ret2
      exact ⟨_, rfl, HO9.out, hu9⟩
    by_cases hlb : 0 < b'.length
    rotate_left
    · have HR : Hid (L = M ++ a' ++ b' ∧ E = 0) := by
        have h1 := HK.out
        have h2 : comp a' b' = some (a' ++ b') := by
          rw [List.eq_nil_of_length_eq_zero (by omega : b'.length = 0), comp_nil', List.append_nil]
        rw [h2] at h1
        obtain ⟨e1, e2⟩ := HLE.out
        unfold coL at e1
        unfold coErr at e2
        rw [h1] at e1 e2
        exact ⟨e1.symm.trans (List.append_assoc ..).symm, e2.symm⟩
      have cC := fun u (hu : Calm w u) (ho : LiesC u AM M) (H t : Nat) hx => concat3C_any H AM A1 B1 cM c1 d1 M a' b' u n5.out ho (HA1.out.calm hu) (HB1.out.calm hu) t hx
      have hM0 := Lib.hid (show LiesC wr AM M from (HT.out.at_ chgV_len).2)
      obtain ⟨rfl, rfl⟩ := HR.out
      clear HLE HK n5 HR
      have hv2 := hv.alloc (.cells #[.slice AM M.length cM, .slice A1 a'.length c1, .slice B1 b'.length d1] 23 (0, 0))
      have hM1 := Lib.hid (hM0.out.calm ((Calm.refl wr).alloc (.cells #[.slice AM M.length cM, .slice A1 a'.length c1, .slice B1 b'.length d1] 23 (0, 0))))
      go_wp2_with (go_at_call 40; refine (cC _ hv2 hM1.out _ _ (heap_new _ _)).mono ?_; rintro e w9 ⟨v9, rfl, ho9, hb9⟩; have HO9 := Lib.hid (OwnG.weaken ho9 hv2.size); have hu9 := hv2.call hb9; clear ho9 hb9)
      go_ret2
      exact ⟨_, rfl, HO9.out, hu9⟩
    obtain ⟨ba, qa, p, o, f, hd, hs, ws, vs, a1, rfl, hb, HX, HA2, c0, c1', c2, c3, c4, c5, c6⟩ := chg_cons (HA1.out.calm hv) hla
    obtain ⟨bb, qb, p', o', f', hd', hs', ws', vs', b1, rfl, hb', HY, HB2, d0, d1', d2, d3, d4, d5, d6⟩ := chg_cons (HB1.out.calm hv) hlb
    obtain ⟨b9, q9, p9, o9, f9, hd9, hs9, ws9, vs9, a9, e9, -, HX9, HA3, -⟩ := chg_cons HA1.out hla
    obtain rfl : a9 = a1 := by have := HX9.out.symm.trans HX.out; injection this
    have HA4 : Hid (LiesC w (if c1 = 1 then some ⟨ba, qa, none⟩ else some ⟨ba, qa + 7, none⟩) a9) := by
      injection e9 with e9; injection e9 with e1 e2; subst e1; subst e2
      show LiesC _ _ _
      split
      · refine liesC_nil ?_; have := congrArg List.length HX.out; simp only [List.length_cons] at this; omega
      · exact HA3.out
    clear HA3 HX9 e9 HA2
    obtain ⟨b8, q8, p8, o8, f8, hd8, hs8, ws8, vs8, a8, e9, -, HX9, HA3, -⟩ := chg_cons HB1.out hlb
    obtain rfl : a8 = b1 := by have := HX9.out.symm.trans HY.out; injection this
    have HB4 : Hid (LiesC w (if d1 = 1 then some ⟨bb, qb, none⟩ else some ⟨bb, qb + 7, none⟩) a8) := by
      injection e9 with e9; injection e9 with e1 e2; subst e1; subst e2
      show LiesC _ _ _
      split
      · refine liesC_nil ?_; have := congrArg List.length HY.out; simp only [List.length_cons] at this; omega
      · exact HA3.out
    clear HA3 HX9 e9 HB2
    have la : Hid (a'.length = a9.length + 1) := by show _ = _; rw [HX.out]; rfl
    have lb : Hid (b'.length = a8.length + 1) := by show _ = _; rw [HY.out]; rfl
    have hl1 : Hid ((M.length + 1) * 64 ≤ 140737488355328) := show _ ≤ _ from by have := n5.out; omega
    go_wp2_with fail
    refine wp_region_plan [.val (.slice (some ⟨ba, qa, none⟩) a'.length c1), .val (.pointer (some ⟨ba, qa, none⟩)), .val (.agg #[.int .i64 p, .int .i64 o, .int .i64 f, .bool hd, .bool hs, .string ws, .string vs]), .val (.slice (some ⟨bb, qb, none⟩) b'.length d1), .val (.pointer (some ⟨bb, qb, none⟩)), .val (.agg #[.int .i64 p', .int .i64 o', .int .i64 f', .bool hd', .bool hs', .string ws', .string vs']), .new #[.int .i64 0, .int .i64 0, .int .i64 0, .bool false, .bool false, .string { data := #[] }, .string { data := #[] }] 33, .new #[.int .i64 0, .int .i64 0, .int .i64 0, .bool false, .bool false, .string { data := #[] }, .string { data := #[] }] 33, .fill 6 #[.int .i64 p, .int .i64 o, .int .i64 f, .bool hd, .bool hs, .string ws, .string vs], .fill 7 #[.int .i64 p', .int .i64 o', .int .i64 f', .bool hd', .bool hs', .string ws', .string vs']] (by kernel_rfl) (by kernel_rfl) (by kernel_rfl) ?_
    intro X
    iterate 6
      refine plan_val (by kernel_rfl) (fun u hu => ?_) ?_
      · obtain ⟨hc, hf, hz⟩ := hu.of_drew.facts
        go_simp
      simp only [Act.put, List.setIfInBounds_toArray, List.set_cons_zero, List.set_cons_succ, Nat.reduceAdd]
    refine plan_new (by kernel_rfl) (fun u => ?_) ?_
    · go_simp
    simp only [Act.put, List.setIfInBounds_toArray, List.set_cons_zero, List.set_cons_succ, Nat.reduceAdd]
    refine plan_new (by kernel_rfl) (fun u => ?_) ?_
    · go_simp
    simp only [Act.put, List.setIfInBounds_toArray, List.set_cons_zero, List.set_cons_succ, Nat.reduceAdd]
    refine plan_fill_row rfl rfl rfl (by kernel_rfl) rfl rfl rfl (by kernel_rfl) rfl (by simp [Value.oneCell']) ?_
    simp only [Act.put]
    refine plan_fill_row rfl rfl rfl (by kernel_rfl) rfl rfl rfl (by kernel_rfl) rfl (by simp [Value.oneCell']) ?_
    simp only [Act.put]
    refine plan_end ?_
    intro w' hB
    have hk := hB.calm.of_drew
    have hx := (hB.row 6 _ _ rfl).2
    have hy := (hB.row 7 _ _ rfl).2
    have HT2 := Lib.hid (HT.out.calm hk)
    have hv2 := hv.call hk
    clear hB HT c0 c1' c2 c3 c4 c5 c6 d0 d1' d2 d3 d4 d5 d6 hb hb'
    generalize X 6 = g1 at hx ⊢
    generalize X 7 = g2 at hy ⊢
    clear hv hk
    have hgs1 := (row7 hx).2.2.2.2.2.2.2
    have hgs2 := (row7 hy).2.2.2.2.2.2.2
    obtain ⟨x0, x1, x2, x3, x4, x5, x6, -⟩ := row7 hx
    obtain ⟨y0, y1, y2, y3, y4, y5, y6, -⟩ := row7 hy
    have HHX := Lib.hid hx
    have HHY := Lib.hid hy
    clear hx hy
    have cKm := fun u => cmp_any p o f p' o' f' u
    by_cases h1 : kLt (p, o, f) (p', o', f')
    · rw [show kcmp p o f p' o' f' = -1 from kcmp_kLt.2 h1] at cKm
      have HK2 : Hid (comp a b = (comp a9 b').map ((M ++ [⟨p, o, f, hd, hs, ws, vs⟩]) ++ ·)) := by
        show _ = _
        rw [HK.out, HX.out, HY.out, comp, if_pos (show kLt (Chg.key ⟨p, o, f, hd, hs, ws, vs⟩) (Chg.key ⟨p', o', f', hd', hs', ws', vs'⟩) from h1), Option.map_map]
        congr 1
        funext z; simp
      clear h1 HK HX
      go_wp2_with (first
        | (go_at_call 38; refine (cKm _).mono ?_; rintro e w4 ⟨rfl, hb4⟩; obtain ⟨x0, x1, x2, x3, x4, x5, x6, -⟩ := row7 ((hb4.block hgs1).trans HHX.out); replace HT2 := Lib.hid ((HT2.out.calm hb4).calm ((Calm.refl _).alloc (.cells #[.int .i64 p, .int .i64 o, .int .i64 f, .bool hd, .bool hs, .string ws, .string vs] 33 (0, 0)))); replace hv2 := (hv2.call hb4).alloc (.cells #[.int .i64 p, .int .i64 o, .int .i64 f, .bool hd, .bool hs, .string ws, .string vs] 33 (0, 0)); clear hb4 HHX HHY hgs1 hgs2)
        | (at_builtin; refine wpList_append_chg rfl _ _ rfl w.heap.size _ _ rfl HT2.out _ _ ⟨p, o, f, hd, hs, ws, vs⟩ _ rfl (heap_new _ _) hl1.out hv2.size ?_; intro v' w9 ho9 hk9; have HT9 := Lib.hid ho9; have hv9 := hk9 w (Nat.le_refl _) hv2; clear ho9 hk9))
      have hlen : a'.length - 1 = a9.length := by rw [la.out]; rfl
      go_roundw
      case rel => exact ⟨a9, b', _, _, _, c1 - 1, d1, by rw [← hlen], rfl, hv9, HA4, HB1, show _ ∧ _ from ⟨by have := la.out; omega, n3, by have := la.out; have := n5.out; simp only [List.length_append, List.length_cons, List.length_nil]; omega⟩, HK2, HT9⟩
      case measure => simp only [slLen]; omega
    by_cases h2 : kLt (p', o', f') (p, o, f)
    · rw [show kcmp p o f p' o' f' = 1 from kcmp_kGt.2 h2] at cKm
      have HK2 : Hid (comp a b = (comp a' a8).map ((M ++ [⟨p', o', f', hd', hs', ws', vs'⟩]) ++ ·)) := by
        show _ = _
        rw [HK.out, HX.out, HY.out, comp, if_neg (show ¬ kLt (Chg.key ⟨p, o, f, hd, hs, ws, vs⟩) (Chg.key ⟨p', o', f', hd', hs', ws', vs'⟩) from h1), if_pos (show kLt (Chg.key ⟨p', o', f', hd', hs', ws', vs'⟩) (Chg.key ⟨p, o, f, hd, hs, ws, vs⟩) from h2), Option.map_map]
        congr 1
        funext z; simp
      clear h1 h2 HK HY
      go_wp2_with (first
        | (go_at_call 38; refine (cKm _).mono ?_; rintro e w4 ⟨rfl, hb4⟩; obtain ⟨y0, y1, y2, y3, y4, y5, y6, -⟩ := row7 ((hb4.block hgs2).trans HHY.out); replace HT2 := Lib.hid ((HT2.out.calm hb4).calm ((Calm.refl _).alloc (.cells #[.int .i64 p', .int .i64 o', .int .i64 f', .bool hd', .bool hs', .string ws', .string vs'] 33 (0, 0)))); replace hv2 := (hv2.call hb4).alloc (.cells #[.int .i64 p', .int .i64 o', .int .i64 f', .bool hd', .bool hs', .string ws', .string vs'] 33 (0, 0)); clear hb4 HHX HHY hgs1 hgs2)
        | (at_builtin; refine wpList_append_chg rfl _ _ rfl w.heap.size _ _ rfl HT2.out _ _ ⟨p', o', f', hd', hs', ws', vs'⟩ _ rfl (heap_new _ _) hl1.out hv2.size ?_; intro v' w9 ho9 hk9; have HT9 := Lib.hid ho9; have hv9 := hk9 w (Nat.le_refl _) hv2; clear ho9 hk9))
      have hlen : b'.length - 1 = a8.length := by rw [lb.out]; rfl
      go_roundw
      case rel => exact ⟨a', a8, _, _, _, c1, d1 - 1, rfl, by rw [← hlen], hv9, HA1, HB4, show _ ∧ _ from ⟨n1, by have := lb.out; omega, by have := lb.out; have := n5.out; simp only [List.length_append, List.length_cons, List.length_nil]; omega⟩, HK2, HT9⟩
      case measure => simp only [slLen]; omega
    obtain ⟨rfl, rfl, rfl⟩ : p = p' ∧ o = o' ∧ f = f' := by
      rcases kLt_tri (p, o, f) (p', o', f') with h | h | h
      · exact absurd h h1
      · simpa using h
      · exact absurd h h2
    rw [show kcmp p o f p o f = 0 from kcmp_eq.2 ⟨rfl, rfl, rfl⟩] at cKm
    have hKr := HK.out
    rw [HX.out, HY.out, comp, if_neg (show ¬ kLt (Chg.key ⟨p, o, f, hd, hs, ws, vs⟩) (Chg.key ⟨p, o, f, hd', hs', ws', vs'⟩) from h1), if_neg (show ¬ kLt (Chg.key ⟨p, o, f, hd', hs', ws', vs'⟩) (Chg.key ⟨p, o, f, hd, hs, ws, vs⟩) from h2)] at hKr
    clear h1 h2 HK
    have cA := fun u => chAfter_any p o f hd hs ws vs u
    have cB := fun u => chBefore_any p o f hd' hs' ws' vs' u
    have cA' := fun u => chAfter_any p o f hd' hs' ws' vs' u
    have cB' := fun u => chBefore_any p o f hd hs ws vs u
    by_cases e1 : St.mk hs vs = St.mk hd' ws'
    rotate_left
    · have HR : Hid ([] = L ∧ 1 = E) := by
        rw [if_pos (show Chg.aft ⟨p, o, f, hd, hs, ws, vs⟩ ≠ Chg.bef ⟨p, o, f, hd', hs', ws', vs'⟩ from e1)] at hKr
        obtain ⟨q1, q2⟩ := HLE.out
        unfold coL at q1
        unfold coErr at q2
        rw [hKr] at q1 q2
        exact ⟨q1, q2⟩
      clear hKr HLE HX HY
      have e2 : (hs == hd') = false ∨ hs = hd' ∧ (vs.toList == ws'.toList) = false := by
        by_cases q : hs = hd'
        · exact .inr ⟨q, str_ne fun h => e1 (St.ext_iff'.2 ⟨q, h⟩)⟩
        · exact .inl (by simpa using q)
      clear e1
      rcases e2 with e2 | ⟨rfl, e2⟩
      · go_upto_region 14 with (go_at_call 38; refine (cKm _).mono ?_; rintro e w4 ⟨rfl, hb4⟩; obtain ⟨x0, x1, x2, x3, x4, x5, x6, -⟩ := row7 ((hb4.block hgs1).trans HHX.out); obtain ⟨y0, y1, y2, y3, y4, y5, y6, -⟩ := row7 ((hb4.block hgs2).trans HHY.out); replace hgs1 := Nat.lt_of_lt_of_le hgs1 hb4.size; replace hgs2 := Nat.lt_of_lt_of_le hgs2 hb4.size; replace HHX := Lib.hid ((hb4.block (row7 HHX.out).2.2.2.2.2.2.2).trans HHX.out); replace HHY := Lib.hid ((hb4.block (row7 HHY.out).2.2.2.2.2.2.2).trans HHY.out); replace HT2 := Lib.hid (HT2.out.calm hb4); replace hv2 := hv2.call hb4; clear hb4)
        refine wp_region_plan [.val (.agg #[.int .i64 p, .int .i64 o, .int .i64 f, .bool hd, .bool hs, .string ws, .string vs]), .val (.agg #[.bool hs, .string vs]), .val (.agg #[.int .i64 p, .int .i64 o, .int .i64 f, .bool hd', .bool hs', .string ws', .string vs']), .val (.agg #[.bool hd', .string ws']), .val (.bool true), .val (.bool true)] (by kernel_rfl) (by kernel_rfl) (by kernel_rfl) ?_
        intro X
        iterate 6
          refine plan_val (by kernel_rfl) (fun u hu => ?_) ?_
          · obtain ⟨hc, hf, hz⟩ := hu.of_drew.facts
            go_simp
            all_goals first
              | (go_at_call 61; exact cA _)
              | (go_at_call 48; exact cB _)
          simp only [Act.put, List.setIfInBounds_toArray, List.set_cons_zero, List.set_cons_succ, Nat.reduceAdd]
        refine plan_end ?_
        intro w' hB
        have hk := hB.calm.of_drew
        clear hB
        go_wp2_with fail
        go_ret2
        obtain ⟨rfl, rfl⟩ := HR.out
        exact ⟨_, rfl, OwnG.nil _ _ _ _ _, hv2.call hk⟩
      · go_upto_region 14 with (go_at_call 38; refine (cKm _).mono ?_; rintro e w4 ⟨rfl, hb4⟩; obtain ⟨x0, x1, x2, x3, x4, x5, x6, -⟩ := row7 ((hb4.block hgs1).trans HHX.out); obtain ⟨y0, y1, y2, y3, y4, y5, y6, -⟩ := row7 ((hb4.block hgs2).trans HHY.out); replace hgs1 := Nat.lt_of_lt_of_le hgs1 hb4.size; replace hgs2 := Nat.lt_of_lt_of_le hgs2 hb4.size; replace HHX := Lib.hid ((hb4.block (row7 HHX.out).2.2.2.2.2.2.2).trans HHX.out); replace HHY := Lib.hid ((hb4.block (row7 HHY.out).2.2.2.2.2.2.2).trans HHY.out); replace HT2 := Lib.hid (HT2.out.calm hb4); replace hv2 := hv2.call hb4; clear hb4)
        refine wp_region_plan [.val (.agg #[.int .i64 p, .int .i64 o, .int .i64 f, .bool hd, .bool hs, .string ws, .string vs]), .val (.agg #[.bool hs, .string vs]), .val (.agg #[.int .i64 p, .int .i64 o, .int .i64 f, .bool hs, .bool hs', .string ws', .string vs']), .val (.agg #[.bool hs, .string ws']), .val (.bool true), .val (.bool true)] (by kernel_rfl) (by kernel_rfl) (by kernel_rfl) ?_
        intro X
        iterate 6
          refine plan_val (by kernel_rfl) (fun u hu => ?_) ?_
          · obtain ⟨hc, hf, hz⟩ := hu.of_drew.facts
            go_simp
            all_goals first
              | (go_at_call 61; exact cA _)
              | (go_at_call 48; exact cB _)
          simp only [Act.put, List.setIfInBounds_toArray, List.set_cons_zero, List.set_cons_succ, Nat.reduceAdd]
        refine plan_end ?_
        intro w' hB
        have hk := hB.calm.of_drew
        clear hB
        go_wp2_with fail
        go_ret2
        obtain ⟨rfl, rfl⟩ := HR.out
        exact ⟨_, rfl, OwnG.nil _ _ _ _ _, hv2.call hk⟩
    obtain ⟨rfl, rfl⟩ := St.ext_iff'.1 e1
    have e1' : ¬ (Chg.aft ⟨p, o, f, hd, hs, ws, vs⟩ ≠ Chg.bef ⟨p, o, f, hs, hs', vs, vs'⟩) := fun h => h rfl
    rw [if_neg e1'] at hKr
    clear e1 e1'
    simp only at cA cA' cB cB'
    by_cases e3 : St.mk hd ws = St.mk hs' vs'
    · have HK2 : Hid (comp a b = (comp a9 a8).map (M ++ ·)) := by
        rw [if_neg (show ¬ Chg.bef ⟨p, o, f, hd, hs, ws, vs⟩ ≠ Chg.aft ⟨p, o, f, hs, hs', vs, vs'⟩ from fun h => h e3)] at hKr
        exact hKr
      obtain ⟨rfl, rfl⟩ := St.ext_iff'.1 e3
      clear hKr e3 HX HY
      simp only at cA cA' cB cB'
      go_upto_region 14 with (go_at_call 38; refine (cKm _).mono ?_; rintro e w4 ⟨rfl, hb4⟩; obtain ⟨x0, x1, x2, x3, x4, x5, x6, -⟩ := row7 ((hb4.block hgs1).trans HHX.out); obtain ⟨y0, y1, y2, y3, y4, y5, y6, -⟩ := row7 ((hb4.block hgs2).trans HHY.out); replace hgs1 := Nat.lt_of_lt_of_le hgs1 hb4.size; replace hgs2 := Nat.lt_of_lt_of_le hgs2 hb4.size; replace HHX := Lib.hid ((hb4.block (row7 HHX.out).2.2.2.2.2.2.2).trans HHX.out); replace HHY := Lib.hid ((hb4.block (row7 HHY.out).2.2.2.2.2.2.2).trans HHY.out); replace HT2 := Lib.hid (HT2.out.calm hb4); replace hv2 := hv2.call hb4; clear hb4)
      refine wp_region_plan [.val (.agg #[.int .i64 p, .int .i64 o, .int .i64 f, .bool hd, .bool hs, .string ws, .string vs]), .val (.agg #[.bool hs, .string vs]), .val (.agg #[.int .i64 p, .int .i64 o, .int .i64 f, .bool hs, .bool hd, .string vs, .string ws]), .val (.agg #[.bool hs, .string vs]), .val (.bool false), .val (.bool false)] (by kernel_rfl) (by kernel_rfl) (by kernel_rfl) ?_
      intro X
      iterate 6
        refine plan_val (by kernel_rfl) (fun u hu => ?_) ?_
        · obtain ⟨hc, hf, hz⟩ := hu.of_drew.facts
          go_simp
          all_goals first
            | (go_at_call 61; exact cA _)
            | (go_at_call 48; exact cB _)
        simp only [Act.put, List.setIfInBounds_toArray, List.set_cons_zero, List.set_cons_succ, Nat.reduceAdd]
      refine plan_end ?_
      intro w' hB
      have hk := hB.calm.of_drew
      clear hB
      obtain ⟨x0, x1, x2, x3, x4, x5, x6, -⟩ := row7 ((hk.block hgs1).trans HHX.out)
      obtain ⟨y0, y1, y2, y3, y4, y5, y6, -⟩ := row7 ((hk.block hgs2).trans HHY.out)
      replace HHX := Lib.hid ((hk.block hgs1).trans HHX.out)
      replace HHY := Lib.hid ((hk.block hgs2).trans HHY.out)
      replace hgs1 := Nat.lt_of_lt_of_le hgs1 hk.size
      replace hgs2 := Nat.lt_of_lt_of_le hgs2 hk.size
      replace HT2 := Lib.hid (HT2.out.calm hk)
      replace hv2 := hv2.call hk
      clear hk
      go_upto_region 5 with fail
      refine wp_region_plan [.val (.agg #[.int .i64 p, .int .i64 o, .int .i64 f, .bool hd, .bool hs, .string ws, .string vs]), .val (.agg #[.bool hd, .string ws]), .val (.agg #[.int .i64 p, .int .i64 o, .int .i64 f, .bool hs, .bool hd, .string vs, .string ws]), .val (.agg #[.bool hd, .string ws]), .val (.bool false)] (by kernel_rfl) (by kernel_rfl) (by kernel_rfl) ?_
      intro X
      iterate 5
        refine plan_val (by kernel_rfl) (fun u hu => ?_) ?_
        · obtain ⟨hc, hf, hz⟩ := hu.of_drew.facts
          go_simp
          all_goals first
            | (go_at_call 48; exact cB' _)
            | (go_at_call 61; exact cA' _)
        simp only [Act.put, List.setIfInBounds_toArray, List.set_cons_zero, List.set_cons_succ, Nat.reduceAdd]
      refine plan_end ?_
      intro w' hB
      have hk := hB.calm.of_drew
      clear hB
      obtain ⟨x0, x1, x2, x3, x4, x5, x6, -⟩ := row7 ((hk.block hgs1).trans HHX.out)
      obtain ⟨y0, y1, y2, y3, y4, y5, y6, -⟩ := row7 ((hk.block hgs2).trans HHY.out)
      replace HHX := Lib.hid ((hk.block hgs1).trans HHX.out)
      replace HHY := Lib.hid ((hk.block hgs2).trans HHY.out)
      replace hgs1 := Nat.lt_of_lt_of_le hgs1 hk.size
      replace hgs2 := Nat.lt_of_lt_of_le hgs2 hk.size
      replace HT2 := Lib.hid (HT2.out.calm hk)
      replace hv2 := hv2.call hk
      clear hk
      go_upto_region 7 with fail
      go_quiet (fail)
      go_wp2_with fail
      go_roundw
      case rel => exact ⟨a9, a8, _, _, _, c1 - 1, d1 - 1, by rw [show a9.length = a'.length - 1 from by rw [la.out]; rfl], by rw [show a8.length = b'.length - 1 from by rw [lb.out]; rfl], hv2.drewN _, HA4, HB4, show _ ∧ _ from ⟨by have := la.out; omega, by have := lb.out; omega, by have := lb.out; have := la.out; have := n5.out; omega⟩, HK2, show OwnG _ _ _ _ _ _ _ from HT2.out.calm ((Calm.refl _).drewN _)⟩
      case measure => simp only [slLen]; omega
    have cW := fun u => chBetween_any p o f hd hs' ws vs' u
    have HK2 : Hid (comp a b = (comp a9 a8).map ((M ++ [⟨p, o, f, hd, hs', ws, vs'⟩]) ++ ·)) := by
      rw [if_pos (show Chg.bef ⟨p, o, f, hd, hs, ws, vs⟩ ≠ Chg.aft ⟨p, o, f, hs, hs', vs, vs'⟩ from e3), Option.map_map] at hKr
      show _ = _
      rw [hKr]
      congr 1
      funext z; simp [mkC, Chg.key, Chg.bef, Chg.aft]
    have e2 : (hd == hs') = false ∨ hd = hs' ∧ (ws.toList == vs'.toList) = false := by
      by_cases q : hd = hs'
      · exact .inr ⟨q, str_ne fun h => e3 (St.ext_iff'.2 ⟨q, h⟩)⟩
      · exact .inl (by simpa using q)
    clear e3 hKr HX HY
    rcases e2 with e2 | ⟨rfl, e2⟩
    · skip
      go_upto_region 14 with (go_at_call 38; refine (cKm _).mono ?_; rintro e w4 ⟨rfl, hb4⟩; obtain ⟨x0, x1, x2, x3, x4, x5, x6, -⟩ := row7 ((hb4.block hgs1).trans HHX.out); obtain ⟨y0, y1, y2, y3, y4, y5, y6, -⟩ := row7 ((hb4.block hgs2).trans HHY.out); replace hgs1 := Nat.lt_of_lt_of_le hgs1 hb4.size; replace hgs2 := Nat.lt_of_lt_of_le hgs2 hb4.size; replace HHX := Lib.hid ((hb4.block (row7 HHX.out).2.2.2.2.2.2.2).trans HHX.out); replace HHY := Lib.hid ((hb4.block (row7 HHY.out).2.2.2.2.2.2.2).trans HHY.out); replace HT2 := Lib.hid (HT2.out.calm hb4); replace hv2 := hv2.call hb4; clear hb4)
      refine wp_region_plan [.val (.agg #[.int .i64 p, .int .i64 o, .int .i64 f, .bool hd, .bool hs, .string ws, .string vs]), .val (.agg #[.bool hs, .string vs]), .val (.agg #[.int .i64 p, .int .i64 o, .int .i64 f, .bool hs, .bool hs', .string vs, .string vs']), .val (.agg #[.bool hs, .string vs]), .val (.bool false), .val (.bool false)] (by kernel_rfl) (by kernel_rfl) (by kernel_rfl) ?_
      intro X
      iterate 6
        refine plan_val (by kernel_rfl) (fun u hu => ?_) ?_
        · obtain ⟨hc, hf, hz⟩ := hu.of_drew.facts
          go_simp
          all_goals first
            | (go_at_call 61; exact cA _)
            | (go_at_call 48; exact cB _)
        simp only [Act.put, List.setIfInBounds_toArray, List.set_cons_zero, List.set_cons_succ, Nat.reduceAdd]
      refine plan_end ?_
      intro w' hB
      have hk := hB.calm.of_drew
      clear hB
      obtain ⟨x0, x1, x2, x3, x4, x5, x6, -⟩ := row7 ((hk.block hgs1).trans HHX.out)
      obtain ⟨y0, y1, y2, y3, y4, y5, y6, -⟩ := row7 ((hk.block hgs2).trans HHY.out)
      replace HHX := Lib.hid ((hk.block hgs1).trans HHX.out)
      replace HHY := Lib.hid ((hk.block hgs2).trans HHY.out)
      replace hgs1 := Nat.lt_of_lt_of_le hgs1 hk.size
      replace hgs2 := Nat.lt_of_lt_of_le hgs2 hk.size
      replace HT2 := Lib.hid (HT2.out.calm hk)
      replace hv2 := hv2.call hk
      clear hk
      go_upto_region 5 with fail
      refine wp_region_plan [.val (.agg #[.int .i64 p, .int .i64 o, .int .i64 f, .bool hd, .bool hs, .string ws, .string vs]), .val (.agg #[.bool hd, .string ws]), .val (.agg #[.int .i64 p, .int .i64 o, .int .i64 f, .bool hs, .bool hs', .string vs, .string vs']), .val (.agg #[.bool hs', .string vs']), .val (.bool true)] (by kernel_rfl) (by kernel_rfl) (by kernel_rfl) ?_
      intro X
      iterate 5
        refine plan_val (by kernel_rfl) (fun u hu => ?_) ?_
        · obtain ⟨hc, hf, hz⟩ := hu.of_drew.facts
          go_simp
          all_goals first
            | (go_at_call 48; exact cB' _)
            | (go_at_call 61; exact cA' _)
        simp only [Act.put, List.setIfInBounds_toArray, List.set_cons_zero, List.set_cons_succ, Nat.reduceAdd]
      refine plan_end ?_
      intro w' hB
      have hk := hB.calm.of_drew
      clear hB
      obtain ⟨x0, x1, x2, x3, x4, x5, x6, -⟩ := row7 ((hk.block hgs1).trans HHX.out)
      obtain ⟨y0, y1, y2, y3, y4, y5, y6, -⟩ := row7 ((hk.block hgs2).trans HHY.out)
      replace HHX := Lib.hid ((hk.block hgs1).trans HHX.out)
      replace HHY := Lib.hid ((hk.block hgs2).trans HHY.out)
      replace hgs1 := Nat.lt_of_lt_of_le hgs1 hk.size
      replace hgs2 := Nat.lt_of_lt_of_le hgs2 hk.size
      replace HT2 := Lib.hid (HT2.out.calm hk)
      replace hv2 := hv2.call hk
      clear hk
      go_upto_region 6 with fail
      refine wp_region_plan_tail 9 [.val (.slice AM M.length cM), .val (.pointer (some ⟨g1, 0, none⟩)), .val (.agg #[.int .i64 p, .int .i64 o, .int .i64 f]), .val (.agg #[.int .i64 p, .int .i64 o, .int .i64 f, .bool hd, .bool hs, .string ws, .string vs]), .val (.agg #[.bool hd, .string ws]), .val (.agg #[.int .i64 p, .int .i64 o, .int .i64 f, .bool hs, .bool hs', .string vs, .string vs']), .val (.agg #[.bool hs', .string vs']), .val (.agg #[.int .i64 p, .int .i64 o, .int .i64 f, .bool hd, .bool hs', .string ws, .string vs']), .new #[.int .i64 p, .int .i64 o, .int .i64 f, .bool hd, .bool hs', .string ws, .string vs'] 33 (some 1)] (by kernel_rfl) (by kernel_rfl) (by kernel_rfl) (by kernel_rfl) ?_
      intro X
      simp only [List.take_succ_cons, List.take_zero, List.drop_succ_cons, List.drop_zero]
      iterate 8
        refine plan_val (by kernel_rfl) (fun u hu => ?_) ?_
        · obtain ⟨hc, hf, hz⟩ := hu.of_drew.facts
          go_simp
          all_goals first
            | (go_at_call 48; exact cB' _)
            | (go_at_call 61; exact cA' _)
            | (go_at_call 60; exact cW _)
        simp only [Act.put, List.setIfInBounds_toArray, List.set_cons_zero, List.set_cons_succ, Nat.reduceAdd]
      refine plan_lit (by kernel_rfl) (fun u => ?_) ?_
      · go_simp
      simp only [Act.put, List.setIfInBounds_toArray, List.set_cons_zero, List.set_cons_succ, Nat.reduceAdd]
      refine plan_end ?_
      intro w' hB
      have hk := hB.calm.of_drew
      have hr := hB.row 8 _ _ rfl
      replace HT2 := Lib.hid (HT2.out.calm hk)
      replace hv2 := hv2.call hk
      clear hB hk
      have hla' : a'.length - 1 = a9.length := by rw [la.out]; rfl
      have hlb' : b'.length - 1 = a8.length := by rw [lb.out]; rfl
      go_upto_region 7 with (at_builtin; refine wpList_append_chg rfl _ _ rfl w.heap.size _ _ rfl HT2.out _ _ ⟨p, o, f, hd, hs', ws, vs'⟩ _ rfl hr.2 hl1.out hv2.size ?_; intro v' w9 ho9 hk9; have HT9 := Lib.hid ho9; have hv9 := hk9 w (Nat.le_refl _) hv2; clear ho9 hk9)
      clear hla' hlb'
      go_quiet (fail)
      go_wp2_with fail
      go_roundw
      case rel => exact ⟨a9, a8, _, _, _, c1 - 1, d1 - 1, by rw [show a9.length = a'.length - 1 from by rw [la.out]; rfl], by rw [show a8.length = b'.length - 1 from by rw [lb.out]; rfl], hv9.drewN _, HA4, HB4, show _ ∧ _ from ⟨by have := la.out; omega, by have := lb.out; omega, by have := lb.out; have := la.out; have := n5.out; simp only [List.length_append, List.length_cons, List.length_nil]; omega⟩, HK2, show OwnG _ _ _ _ _ _ _ from HT9.out.calm ((Calm.refl _).drewN _)⟩
      case measure => simp only [slLen]; omega
    · skip
      go_upto_region 14 with (go_at_call 38; refine (cKm _).mono ?_; rintro e w4 ⟨rfl, hb4⟩; obtain ⟨x0, x1, x2, x3, x4, x5, x6, -⟩ := row7 ((hb4.block hgs1).trans HHX.out); obtain ⟨y0, y1, y2, y3, y4, y5, y6, -⟩ := row7 ((hb4.block hgs2).trans HHY.out); replace hgs1 := Nat.lt_of_lt_of_le hgs1 hb4.size; replace hgs2 := Nat.lt_of_lt_of_le hgs2 hb4.size; replace HHX := Lib.hid ((hb4.block (row7 HHX.out).2.2.2.2.2.2.2).trans HHX.out); replace HHY := Lib.hid ((hb4.block (row7 HHY.out).2.2.2.2.2.2.2).trans HHY.out); replace HT2 := Lib.hid (HT2.out.calm hb4); replace hv2 := hv2.call hb4; clear hb4)
      refine wp_region_plan [.val (.agg #[.int .i64 p, .int .i64 o, .int .i64 f, .bool hd, .bool hs, .string ws, .string vs]), .val (.agg #[.bool hs, .string vs]), .val (.agg #[.int .i64 p, .int .i64 o, .int .i64 f, .bool hs, .bool hd, .string vs, .string vs']), .val (.agg #[.bool hs, .string vs]), .val (.bool false), .val (.bool false)] (by kernel_rfl) (by kernel_rfl) (by kernel_rfl) ?_
      intro X
      iterate 6
        refine plan_val (by kernel_rfl) (fun u hu => ?_) ?_
        · obtain ⟨hc, hf, hz⟩ := hu.of_drew.facts
          go_simp
          all_goals first
            | (go_at_call 61; exact cA _)
            | (go_at_call 48; exact cB _)
        simp only [Act.put, List.setIfInBounds_toArray, List.set_cons_zero, List.set_cons_succ, Nat.reduceAdd]
      refine plan_end ?_
      intro w' hB
      have hk := hB.calm.of_drew
      clear hB
      obtain ⟨x0, x1, x2, x3, x4, x5, x6, -⟩ := row7 ((hk.block hgs1).trans HHX.out)
      obtain ⟨y0, y1, y2, y3, y4, y5, y6, -⟩ := row7 ((hk.block hgs2).trans HHY.out)
      replace HHX := Lib.hid ((hk.block hgs1).trans HHX.out)
      replace HHY := Lib.hid ((hk.block hgs2).trans HHY.out)
      replace hgs1 := Nat.lt_of_lt_of_le hgs1 hk.size
      replace hgs2 := Nat.lt_of_lt_of_le hgs2 hk.size
      replace HT2 := Lib.hid (HT2.out.calm hk)
      replace hv2 := hv2.call hk
      clear hk
      go_upto_region 5 with fail
      refine wp_region_plan [.val (.agg #[.int .i64 p, .int .i64 o, .int .i64 f, .bool hd, .bool hs, .string ws, .string vs]), .val (.agg #[.bool hd, .string ws]), .val (.agg #[.int .i64 p, .int .i64 o, .int .i64 f, .bool hs, .bool hd, .string vs, .string vs']), .val (.agg #[.bool hd, .string vs']), .val (.bool true)] (by kernel_rfl) (by kernel_rfl) (by kernel_rfl) ?_
      intro X
      iterate 5
        refine plan_val (by kernel_rfl) (fun u hu => ?_) ?_
        · obtain ⟨hc, hf, hz⟩ := hu.of_drew.facts
          go_simp
          all_goals first
            | (go_at_call 48; exact cB' _)
            | (go_at_call 61; exact cA' _)
        simp only [Act.put, List.setIfInBounds_toArray, List.set_cons_zero, List.set_cons_succ, Nat.reduceAdd]
      refine plan_end ?_
      intro w' hB
      have hk := hB.calm.of_drew
      clear hB
      obtain ⟨x0, x1, x2, x3, x4, x5, x6, -⟩ := row7 ((hk.block hgs1).trans HHX.out)
      obtain ⟨y0, y1, y2, y3, y4, y5, y6, -⟩ := row7 ((hk.block hgs2).trans HHY.out)
      replace HHX := Lib.hid ((hk.block hgs1).trans HHX.out)
      replace HHY := Lib.hid ((hk.block hgs2).trans HHY.out)
      replace hgs1 := Nat.lt_of_lt_of_le hgs1 hk.size
      replace hgs2 := Nat.lt_of_lt_of_le hgs2 hk.size
      replace HT2 := Lib.hid (HT2.out.calm hk)
      replace hv2 := hv2.call hk
      clear hk
      go_upto_region 6 with fail
      refine wp_region_plan_tail 9 [.val (.slice AM M.length cM), .val (.pointer (some ⟨g1, 0, none⟩)), .val (.agg #[.int .i64 p, .int .i64 o, .int .i64 f]), .val (.agg #[.int .i64 p, .int .i64 o, .int .i64 f, .bool hd, .bool hs, .string ws, .string vs]), .val (.agg #[.bool hd, .string ws]), .val (.agg #[.int .i64 p, .int .i64 o, .int .i64 f, .bool hs, .bool hd, .string vs, .string vs']), .val (.agg #[.bool hd, .string vs']), .val (.agg #[.int .i64 p, .int .i64 o, .int .i64 f, .bool hd, .bool hd, .string ws, .string vs']), .new #[.int .i64 p, .int .i64 o, .int .i64 f, .bool hd, .bool hd, .string ws, .string vs'] 33 (some 1)] (by kernel_rfl) (by kernel_rfl) (by kernel_rfl) (by kernel_rfl) ?_
      intro X
      simp only [List.take_succ_cons, List.take_zero, List.drop_succ_cons, List.drop_zero]
      iterate 8
        refine plan_val (by kernel_rfl) (fun u hu => ?_) ?_
        · obtain ⟨hc, hf, hz⟩ := hu.of_drew.facts
          go_simp
          all_goals first
            | (go_at_call 48; exact cB' _)
            | (go_at_call 61; exact cA' _)
            | (go_at_call 60; exact cW _)
        simp only [Act.put, List.setIfInBounds_toArray, List.set_cons_zero, List.set_cons_succ, Nat.reduceAdd]
      refine plan_lit (by kernel_rfl) (fun u => ?_) ?_
      · go_simp
      simp only [Act.put, List.setIfInBounds_toArray, List.set_cons_zero, List.set_cons_succ, Nat.reduceAdd]
      refine plan_end ?_
      intro w' hB
      have hk := hB.calm.of_drew
      have hr := hB.row 8 _ _ rfl
      replace HT2 := Lib.hid (HT2.out.calm hk)
      replace hv2 := hv2.call hk
      clear hB hk
      have hla' : a'.length - 1 = a9.length := by rw [la.out]; rfl
      have hlb' : b'.length - 1 = a8.length := by rw [lb.out]; rfl
      go_upto_region 7 with (at_builtin; refine wpList_append_chg rfl _ _ rfl w.heap.size _ _ rfl HT2.out _ _ ⟨p, o, f, hd, hd, ws, vs'⟩ _ rfl hr.2 hl1.out hv2.size ?_; intro v' w9 ho9 hk9; have HT9 := Lib.hid ho9; have hv9 := hk9 w (Nat.le_refl _) hv2; clear ho9 hk9)
      clear hla' hlb'
      go_quiet (fail)
      go_wp2_with fail
      go_roundw
      case rel => exact ⟨a9, a8, _, _, _, c1 - 1, d1 - 1, by rw [show a9.length = a'.length - 1 from by rw [la.out]; rfl], by rw [show a8.length = b'.length - 1 from by rw [lb.out]; rfl], hv9.drewN _, HA4, HB4, show _ ∧ _ from ⟨by have := la.out; omega, by have := lb.out; omega, by have := lb.out; have := la.out; have := n5.out; simp only [List.length_append, List.length_cons, List.length_nil]; omega⟩, HK2, show OwnG _ _ _ _ _ _ _ from HT9.out.calm ((Calm.refl _).drewN _)⟩
      case measure => simp only [slLen]; omega
open Go.ChangeShapes Go.WideShapes Go.ChangeAt Go.RowKit
theorem creat_len {l : List El} (h : Good l) (t : Int) : (creat l t).length ≤ 400 := by
 unfold creat; rw [List.length_map]; exact Nat.le_trans (rangeR_le _ _ _ _) h.1
set_option maxHeartbeats 8000000 in
theorem chBet_any (A : Option Addr) (c : Nat) (l : List El) (a b : Int) (w : World) (hn : l.length ≤ 9223372036854775807) (hL : Lies w A l) :
    Calls Try.prog 11 #[.slice A l.length c, .int .i64 a, .int .i64 b] w (CgEnd2 (if runErr l = 0 then betL l a b else []) (runErr l) w) := by
  have cA := fun u (hu : Calm w u) => creation_any A c l a u hn (hL.calm hu)
  have cB := fun u (hu : Calm w u) => creation_any A c l b u hn (hL.calm hu)
  unfold CgEnd2 at cA cB
  have hu := Calm.refl w
  clear hL
  by_cases hE : runErr l = 0
  rotate_left
  · rw [if_neg hE]
    simp only [if_neg hE] at cA
    have b1 : (runErr l != 0) = true := by simpa using hE
    generalize runErr l = E at *
    go_enter Try.func11, Try.ntmps11
    go_wp2_with (go_at_call 28; (with_reducible refine (cA _ hu).mono ?_); rintro e w1 ⟨v, rfl, hs, hb⟩; replace hu := hu.call hb; clear hb cA hs)
    go_ret2
    exact ⟨_, rfl, OwnG.nil _ _ _ _ _, hu⟩
  have hG : Good l := runErr_zero.1 hE
  simp only [hE, if_pos] at cA cB ⊢
  have h1 := creat_len hG a
  have h2 := creat_len hG b
  have hb := bet_some hG a b
  have hco : coErr (revL (creat l a)) (creat l b) = 0 ∧ coL (revL (creat l a)) (creat l b) = betL l a b := by
    unfold coErr coL; rw [hb]; exact ⟨rfl, rfl⟩
  generalize creat l a = K1 at *
  generalize creat l b = K2 at *
  generalize betL l a b = K3 at *
  have H1 := Lib.hid h1
  have H2 := Lib.hid h2
  have HCO := Lib.hid hco
  clear h1 h2 hb hco hG hE hn
  go_enter Try.func11, Try.ntmps11
  go_wp2_with (first
    | (go_at_call 28; (with_reducible refine (cA _ hu).mono ?_); rintro e w1 ⟨v, rfl, ho1, hb⟩; replace HO1 := Lib.hid ho1; replace hu1 := hu.call hb; obtain ⟨A1, c1, rfl, -, -, -⟩ := chg_own ho1; clear hb cA ho1 hu)
    | (go_at_call 28; (with_reducible refine (cB _ hu1).mono ?_); rintro e w2 ⟨v, rfl, ho2, hb⟩; have HO2 := Lib.hid ho2; replace hu2 := hu1.call hb; replace HO1 := Lib.hid (HO1.out.calm hb); obtain ⟨A2, c2, rfl, -, -, -⟩ := chg_own ho2; clear hb cB ho2 hu1)
    | (go_at_call 30; refine (reversed_any A1 c1 K1 _ H1.out (HO1.out.at_ chgV_len).2).mono ?_; rintro e w3 ⟨v, rfl, ho3, hb⟩; have HO3 := Lib.hid ho3; replace hu3 := hu2.call hb; replace HO2 := Lib.hid (HO2.out.calm hb); obtain ⟨A3, c3, hv3, -, -, -⟩ := chg_own ho3; have HV3 := Lib.hid hv3; subst hv3; clear hb ho3 hu2 HO1 HV3)
    | (go_at_call 29; go_must (refine (compose_any A3 A2 c3 c2 (revL K1) K2 _ (by obtain ⟨_, _, q1, q2, q3, _⟩ := chg_own HO3.out; injection q1 with _ _ q4; omega) (by obtain ⟨_, _, q1, q2, q3, _⟩ := chg_own HO2.out; injection q1 with _ _ q4; omega) (by have := H1.out; have := H2.out; rw [rev_len]; omega) (HO3.out.at_ chgV_len).2 (HO2.out.at_ chgV_len).2).mono ?_); rintro e w4 ⟨v, rfl, ho4, hb⟩; rw [HCO.out.1]; rw [HCO.out.2] at ho4; have HO4 := Lib.hid ho4; replace hu4 := hu3.call hb; have hz4 := hu3.size; clear hb ho4))
  go_ret2
  exact ⟨_, rfl, HO4.out.weaken hz4, hu4⟩
open Go.RowKit
def El.val (e : El) : Value := .agg #[.int .i64 e.p, .int .i64 e.o, .int .i64 e.f, .int .i64 e.m, .int .i64 e.g, .string e.s]
open Go.ChangeShapes Go.WideShapes Go.ChangeAt Go.RowKit
set_option maxHeartbeats 8000000 in
theorem equalC_self (A A' : Option Addr) (c c' : Nat) (l : List Chg) (w : World) (hn : l.length ≤ 9223372036854775807) (hL : LiesC w A l) (hL' : LiesC w A' l) :
    Calls Try.prog 14 #[.slice A l.length c, .slice A' l.length c'] w fun e w' => e = .returned (.bool true) ∧ Calm w w' := by
  go_enter Try.func14, Try.ntmps14
  go_wp2_with fail
  go_loopw [13] (fun i wr => ∃ k : Nat, k ≤ l.length ∧ i = .int .i64 k ∧ Calm w wr) (fun i _ => l.length - (intOf i).toNat)
  case atStart => exact ⟨0, Nat.zero_le _, rfl, Calm.refl _⟩
  case round =>
    obtain ⟨k, hk, rfl, hu⟩ := hrel
    by_cases hlt : k < l.length
    rotate_left
    · go_wp2_with fail
      go_ret
      exact ⟨rfl, hu⟩
    obtain ⟨b, q, p, o, f, hd, hs, ws, vs, rfl, hb, HE, c0, c1, c2, c3, c4, c5, c6⟩ := chg_get (hL.calm hu) hlt
    obtain ⟨b', q', p', o', f', hd', hs', ws', vs', rfl, hb', HE', d0, d1, d2, d3, d4, d5, d6⟩ := chg_get (hL'.calm hu) hlt
    have hq : (⟨p, o, f, hd, hs, ws, vs⟩ : Chg) = ⟨p', o', f', hd', hs', ws', vs'⟩ := by
      have := HE.out.symm.trans HE'.out; injection this
    injection hq with e0 e1 e2 e3 e4 e5 e6
    subst e0; subst e1; subst e2; subst e3; subst e4; subst e5; subst e6
    clear hL hL' HE HE'
    go_wp2_with fail
    refine wp_region_plan [.val (.slice (some ⟨b, q, none⟩) l.length c), .val (.int .i64 ((k : Int))), .val (.pointer (some ⟨b, q + k * 7, none⟩)), .val (.agg #[.int .i64 p, .int .i64 o, .int .i64 f, .bool hd, .bool hs, .string ws, .string vs]), .val (.slice (some ⟨b', q', none⟩) l.length c'), .val (.int .i64 ((k : Int))), .val (.pointer (some ⟨b', q' + k * 7, none⟩)), .val (.agg #[.int .i64 p, .int .i64 o, .int .i64 f, .bool hd, .bool hs, .string ws, .string vs]), .val (.bool false)] (by kernel_rfl) (by kernel_rfl) (by kernel_rfl) ?_
    intro X
    iterate 9
      refine plan_val (by kernel_rfl) (fun u hu => ?_) ?_
      · obtain ⟨hc, hf, hz⟩ := hu.of_drew.facts
        go_simp
      simp only [Act.put, List.setIfInBounds_toArray, List.set_cons_zero, List.set_cons_succ, Nat.reduceAdd]
    refine plan_end ?_
    intro w' hB
    have hk := hB.calm.of_drew
    clear hB
    go_wp2_with fail
    go_roundw
    case rel => exact ⟨k + 1, by omega, by go_num, hu.call hk⟩
    case measure => simp [intOf]; omega
section
variable {H : Type} {enc : TypeId × Value → H} {w : World} {base : Nat} {spare : Nat → Bool} {held : Bool}
theorem cellsChg : Try.prog.cellsOf 33 = 7 := by kernel_rfl
theorem cellsBool : Try.prog.cellsOf 4 = 1 := by kernel_rfl
theorem chg_cells {fuel : Nat} {cs : List Value} {x : DataW H × List MemPlace} (h : DataW.trod enc Try.prog w base spare held fuel 33 cs = some x) : ∃ c : Chg, cs = chgV c ∧ True := by
 obtain ⟨y0, y1, y2, y3, y4, n, hd, hl, h0, h1, h2, h3, h4⟩ := trod_struct5 Try.underlying33 h
 obtain ⟨p, o, f, e0, _, _, _⟩ := key_cells h0
 obtain ⟨a, e1, _⟩ := DataW.trod_bool Try.underlying4 h1
 obtain ⟨b, e2, _⟩ := DataW.trod_bool Try.underlying4 h2
 obtain ⟨s, e3, _, _⟩ := DataW.trod_string Try.underlying9 h3
 obtain ⟨v, e4, _, _⟩ := DataW.trod_string Try.underlying9 h4
 simp only [cellsBool, cellsKey, cellsStr, cellsChg] at e0 e1 e2 e3 e4 hl
 match cs, hl with
 | [c0, c1, c2, c3, c4, c5, c6], _ =>
  simp at e0 e1 e2 e3 e4
  obtain ⟨a0, a1, a2⟩ := e0
  exact ⟨⟨p, o, f, a, b, s, v⟩, by rw [a0, a1, a2, e1, e2, e3, e4]; rfl, trivial⟩
variable {r : Reach} {b0 : Nat} {v : Value} {d : DataW H} {ps : List MemPlace}
theorem open_chgs (hv : Value.okWide Try.prog w r b0 23 v) (h : DataW.Trod enc Try.prog w base spare held 23 v d ps) :
    ∃ (A : Option Addr) (c : Nat) (l : List Chg), v = .slice A l.length c ∧ l.length ≤ 9223372036854775807 ∧ l.length ≤ c ∧ LiesC w A l := by
  obtain ⟨A0, len, cap, rfl⟩ := okWide_slice Try.underlying23 hv
  obtain ⟨fuel, hf⟩ := h
  obtain ⟨A, c, l, e1, le1, lc1, -, at1, -⟩ := rows_open (α := Chg) chgV (fun _ => True) 7 Try.underlying23 cellsChg (by omega) (fun fuel cs x hx => chg_cells hx) hf
  have e2 : Value.slice A0 len cap = .slice A l.length c := by simpa [Value.cells] using e1
  rw [e2]
  exact ⟨A, c, l, rfl, le1, lc1, at1⟩
end
open Go.ChangeShapes Go.WideShapes Go.ChangeAt Go.RowKit
theorem lies_own {w : World} {v : Value} {base : Nat} {l : List Chg} {n : Nat} (h : OwnC base w v l) (hn : l.length = n) : ∃ A c, v = .slice A n c ∧ Hid (n ≤ c) ∧ Hid (LiesC w A l) := by
 obtain ⟨A, c, hv, h1, _, h2⟩ := chg_own h
 subst hn
 exact ⟨A, c, hv, h1, h2⟩
end Go.Proofs.Ythfjanmihfbjoaa
