/- Texts of one kind in one file. -/
import Derived.Below
import Derived.Laws.BitsAll
import Derived.IntWalk
import Derived.Test.YtljjeolifdpedaaRows
import Derived.Handy
import Derived.Deep.Quiet
import Derived.Deep.QuietTactic
import Derived.Laws.Tables
import Derived.StillTail
import Derived.WalkSpells
import Derived.WalkLawsBesides
import Derived.Lib.Hide
import Derived.Deep.RegionWith
import Derived.Deep.RegionHeld3
import Derived.Deep.DeepCutAuto
import Derived.BigQuiet
import Derived.Laws.OwnMore
import Derived.Deep.AppendLies
import Derived.Deep.Draws
import Derived.Laws.BytesArg
import Derived.Laws.MakeOwn
import Derived.Laws.IdiomStrings
import Derived.OwnWalk
import Derived.Lib.AppendStr
import Derived.Deep.Slices
import Derived.ProofKit
import Derived.OpenShut
import Derived.Lib.SmallJoins
import Derived.Deep.LoopGhost
import Derived.Outline
import Derived.Deep.AppendSrc
import Derived.Deep.RegionLaw
import Derived.Laws.Externs
import Derived.Lib.AppendZerosOnto
import Derived.Lib.Overlaps
import Derived.Lib.SliceRun
import Derived.SizedLaws
import Derived.Deep.MidRow
import Derived.ChangeKeysEq
import Derived.Laws.StructEq
import Derived.Maps.AppendAt
import Derived.Test.YtljjeolifdpedaaShelf
import Derived.Lib.Builder
import Derived.Lib.UnsafeStr
import Derived.Test.YtljjeolifdpedaaPkRealmFeeds5
set_option maxRecDepth 100000
namespace Go.Proofs.Ytljjeolifdpedaa
theorem kcmp_key {p o f p' o' f' : Int} : kcmp p o f p' o' f' = 0 ↔ (p, o, f) = (p', o', f') := by rw [kcmp_eq, key3_eq]
def El.live (e : El) (t : Int) : Prop := liveP e.m e.g t
instance (e : El) (t : Int) : Decidable (e.live t) := by unfold El.live; infer_instance
theorem latest_snoc (l : List El) (e : El) : latest (l ++ [e]) = if latest l < e.last then e.last else latest l := by
 unfold latest; rw [List.foldl_append]; rfl
theorem latest_take {l : List El} {k : Nat} (hk : k < l.length) : latest (l.take (k + 1)) = if latest (l.take k) < l[k].last then l[k].last else latest (l.take k) := by
 rw [List.take_succ_eq_append_getElem hk, latest_snoc]
theorem latest_nonneg (l : List El) : 0 ≤ latest l := (foldl_latest_ge l 0).1
theorem foldl_latest_le (l : List El) : ∀ t b, t ≤ b → (∀ e ∈ l, e.last ≤ b) → l.foldl (fun t (e : El) => if t < e.last then e.last else t) t ≤ b := by
 induction l with
 |nil => intro t b h _; exact h
 |cons x l ih =>
  intro t b h h2
  rw [List.foldl_cons]
  refine ih _ b ?_ fun e he => h2 e (by simp [he])
  have := h2 x (by simp)
  split
  ·exact this
  ·exact h
theorem latest_le {l : List El} {b : Int} (hb : 0 ≤ b) (h : ∀ e ∈ l, e.last ≤ b) : latest l ≤ b := foldl_latest_le l 0 b hb h
theorem last_le {e : El} {b : Int} (h1 : e.m ≤ b) (h2 : e.g ≤ b) : e.last ≤ b := by unfold El.last lastOf; split <;> omega
def isAt (k : Int × Int × Int) (t : Int) (e : El) : Bool := decide (e.key = k ∧ e.live t)
def atR (l : List El) (k : Int × Int × Int) (t : Int) : Option El := l.find? (isAt k t)
theorem uniqAt {l : List El} (h : l.Pairwise Fol) {k : Int × Int × Int} {t : Int} {i j : Nat} (hi : i < l.length) (hj : j < l.length) (h1 : isAt k t l[i] = true) (h2 : isAt k t l[j] = true) : i = j := by
 unfold isAt at h1 h2
 rw [decide_eq_true_eq] at h1 h2
 have key : ∀ a b (ha : a < l.length) (hb : b < l.length), a < b → (l[a].key = k ∧ l[a].live t) → (l[b].key = k ∧ l[b].live t) → False := fun a b ha hb hab p q => by
  have hF := (List.pairwise_iff_getElem.1 h a b ha hb hab).2 (p.1.trans q.1.symm)
  have p2 := p.2; have q2 := q.2
  unfold El.live liveP at p2 q2
  omega
 rcases Nat.lt_trichotomy i j with h3 | h3 | h3
 ·exact (key i j hi hj h3 h1 h2).elim
 ·exact h3
 ·exact (key j i hj hi h3 h2 h1).elim
theorem find_of {l : List El} (h : l.Pairwise Fol) {k : Int × Int × Int} {t : Int} {i : Nat} (hi : i < l.length) (h1 : isAt k t l[i] = true) : atR l k t = some l[i] := by
 unfold atR
 have hs : (l.find? (isAt k t)).isSome = true := by rw [List.find?_isSome]; exact ⟨_, List.getElem_mem hi, h1⟩
 obtain ⟨e, he⟩ := Option.isSome_iff_exists.1 hs
 rw [he]
 have hp := List.find?_some he
 obtain ⟨j, hj, rfl⟩ := List.getElem_of_mem (List.mem_of_find?_eq_some he)
 have := uniqAt h hj hi hp h1
 subst this; rfl
theorem find_none {l : List El} {k : Int × Int × Int} {t : Int} (h : ∀ e ∈ l, isAt k t e = false) : atR l k t = none := by
 unfold atR; rw [List.find?_eq_none]; intro e he; simp [h e he]
def pos (l : List El) (k : Int × Int × Int) (t : Int) : Nat := l.countP (fun e => !decide (sLt k t e.key e.m))
theorem pos_le (l : List El) (k : Int × Int × Int) (t : Int) : pos l k t ≤ l.length := List.countP_le_length
theorem pos_part {l : List El} {k : Int × Int × Int} {t : Int} {c : Nat} (hc : c ≤ l.length) (h1 : ∀ i (h : i < l.length), i < c → ¬ sLt k t l[i].key l[i].m) (h2 : ∀ i (h : i < l.length), c ≤ i → sLt k t l[i].key l[i].m) : pos l k t = c := by
 unfold pos
 rw [← List.take_append_drop c l, List.countP_append]
 have e1 : (l.take c).countP (fun e => !decide (sLt k t e.key e.m)) = (l.take c).length := by
  rw [List.countP_eq_length]
  intro e he
  obtain ⟨i, hi, rfl⟩ := List.getElem_of_mem he
  simp at hi
  simp only [List.getElem_take, Bool.not_eq_true', decide_eq_false_iff_not]
  exact h1 i (by omega) (by omega)
 have e2 : (l.drop c).countP (fun e => !decide (sLt k t e.key e.m)) = 0 := by
  rw [List.countP_eq_zero]
  intro e he
  obtain ⟨i, hi, rfl⟩ := List.getElem_of_mem he
  simp at hi
  simp only [List.getElem_drop, Bool.not_eq_true', decide_eq_false_iff_not, Classical.not_not]
  exact h2 (c + i) (by omega) (by omega)
 rw [e1, e2]; simp; omega
def hitB (l : List El) (c : Nat) (k : Int × Int × Int) (t : Int) : Bool :=
 match l[c - 1]? with
 |some e => decide (0 < c ∧ e.key = k ∧ e.live t)
 |none => false
theorem hitB_none {l : List El} (k : Int × Int × Int) (t : Int) : hitB l 0 k t = false := by
 unfold hitB; split <;> simp
theorem hitB_some {l : List El} {c : Nat} {k : Int × Int × Int} {t : Int} {e : El} (h0 : 0 < c) (h : l[c - 1]? = some e) : hitB l c k t = decide (e.key = k ∧ e.live t) := by
 unfold hitB; rw [h]; simp [h0]
theorem pos_spec {l : List El} (h : l.Pairwise Fol) (k : Int × Int × Int) (t : Int) : (∀ i (hi : i < l.length), i < pos l k t → ¬ sLt k t l[i].key l[i].m) ∧ (∀ i (hi : i < l.length), pos l k t ≤ i → sLt k t l[i].key l[i].m) := by
 have M : ∀ i j (hi : i < l.length) (hj : j < l.length), i ≤ j → sLt k t l[i].key l[i].m → sLt k t l[j].key l[j].m := fun i j hi hj hij h' => by
  rcases Nat.lt_or_eq_of_le hij with h1 | h1
  ·exact sLt_trans h' (List.pairwise_iff_getElem.1 h i j hi hj h1).1
  ·subst h1; exact h'
 have E : ∀ n, n ≤ l.length → ∃ c, c ≤ n ∧ (∀ i (hi : i < l.length), i < c → ¬ sLt k t l[i].key l[i].m) ∧ (∀ i (hi : i < l.length), c ≤ i → i < n → sLt k t l[i].key l[i].m) := fun n => by
  induction n with
  |zero => intro _; exact ⟨0, Nat.le_refl _, fun i _ h0 => absurd h0 (Nat.not_lt_zero _), fun i _ _ h0 => absurd h0 (Nat.not_lt_zero _)⟩
  |succ n ih =>
   intro hn
   obtain ⟨c, hc, h1, h2⟩ := ih (by omega)
   by_cases hp : sLt k t l[n].key l[n].m
   ·refine ⟨c, by omega, h1, fun i hi hci hin => ?_⟩
    rcases Nat.lt_or_ge i n with h3 | h3
    ·exact h2 i hi hci h3
    ·rw [show l[i] = l[n] from by congr 1; omega]; exact hp
   ·refine ⟨n + 1, Nat.le_refl _, fun i hi hin h3 => ?_, fun i hi h3 h4 => by omega⟩
    exact hp (M i n hi (by omega) (by omega) h3)
 obtain ⟨c, hc, h1, h2⟩ := E l.length (Nat.le_refl _)
 rw [pos_part hc h1 (fun i hi hci => h2 i hi hci hi)]
 exact ⟨h1, fun i hi hci => h2 i hi hci hi⟩
theorem pos_of_at {l : List El} (h : l.Pairwise Fol) {k : Int × Int × Int} {t : Int} {i : Nat} (hi : i < l.length) (h1 : isAt k t l[i] = true) : pos l k t = i + 1 := by
 unfold isAt at h1
 rw [decide_eq_true_eq] at h1
 obtain ⟨hk, hl⟩ := h1
 unfold El.live liveP at hl
 refine pos_part (by omega) (fun j hj hji h2 => ?_) (fun j hj hij => ?_)
 ·rcases Nat.lt_or_eq_of_le (Nat.le_of_lt_succ hji) with h3 | h3
  ·have hF := (List.pairwise_iff_getElem.1 h j i hj hi h3).1
   have := sLt_trans h2 hF
   rw [hk, sLt_same] at this; omega
  ·subst h3; rw [hk, sLt_same] at h2; omega
 ·have hF := List.pairwise_iff_getElem.1 h i j hi hj (by omega)
  have h5 := hF.1
  rw [hk] at h5
  rcases h5 with h5 | ⟨h5, h6⟩
  ·exact .inl h5
  ·have := hF.2 (hk.trans h5); exact .inr ⟨h5, by omega⟩
theorem hitB_pos {l : List El} (h : l.Pairwise Fol) (k : Int × Int × Int) (t : Int) :
    (hitB l (pos l k t) k t = true ∧ ∃ (hi : pos l k t - 1 < l.length), isAt k t l[pos l k t - 1] = true ∧ 0 < pos l k t ∧ atR l k t = some l[pos l k t - 1]) ∨ (hitB l (pos l k t) k t = false ∧ atR l k t = none ∧ ∀ e ∈ l, isAt k t e = false) := by
  by_cases hx : ∃ e ∈ l, isAt k t e = true
  · obtain ⟨e, he, hp⟩ := hx
    obtain ⟨i, hi, rfl⟩ := List.getElem_of_mem he
    have hpos := pos_of_at h hi hp
    left
    have h1 : pos l k t - 1 = i := by omega
    refine ⟨?_, by omega, ?_, by omega, ?_⟩
    · rw [hitB_some (by omega) (by rw [h1]; exact List.getElem?_eq_getElem hi)]; exact hp
    · simp only [h1]; exact hp
    · simp only [h1]; exact find_of h hi hp
  · have hn : ∀ e ∈ l, isAt k t e = false := fun e he => by
      cases hp : isAt k t e
      · rfl
      · exact absurd ⟨e, he, hp⟩ hx
    right
    refine ⟨?_, find_none hn, hn⟩
    unfold hitB
    split
    · rename_i e he
      have := hn e (List.mem_of_getElem? he)
      unfold isAt at this
      rw [decide_eq_false_iff_not] at this ⊢
      exact fun h2 => this h2.2
    · rfl
def upd (k : Int × Int × Int) (s : ByteArray) (t : Int) (e : El) : El := if e.key = k ∧ e.g = 0 then (if e.m = t then { e with s := s } else { e with g := t }) else e
def isSame (k : Int × Int × Int) (t : Int) (e : El) : Bool := decide (e.key = k ∧ e.g = 0 ∧ e.m = t)
def isOpen (k : Int × Int × Int) (e : El) : Bool := decide (e.key = k ∧ e.g = 0)
def fresh (k : Int × Int × Int) (s : ByteArray) (t : Int) : El := ⟨k.1, k.2.1, k.2.2, t, 0, s⟩
def putR (l : List El) (k : Int × Int × Int) (s : ByteArray) (t : Int) : List El := if l.any (isSame k t) then l.map (upd k s t) else ins (fresh k s t) (l.map (upd k s t))
def wrErr (l : List El) (x : El) : Int := if runErr l = 0 then (if x.err = 0 then (if x.m < latest l then 9 else 0) else x.err) else runErr l
def putErr (l : List El) (k : Int × Int × Int) (s : ByteArray) (t : Int) : Int := if wrErr l (fresh k s t) = 0 then (if l.any (isSame k t) then 0 else if 400 ≤ l.length then 8 else 0) else wrErr l (fresh k s t)
def cutStep (k : Int × Int × Int) (t : Int) (e : El) : Option El := if e.key = k ∧ e.g = 0 then (if e.m = t then none else some { e with g := t }) else some e
def cutR (l : List El) (k : Int × Int × Int) (t : Int) : List El := l.filterMap (cutStep k t)
def cutErr (l : List El) (k : Int × Int × Int) (t : Int) : Int := if wrErr l (fresh k { data := #[] } t) = 0 then (if l.any (isOpen k) then 0 else 4) else wrErr l (fresh k { data := #[] } t)
def insAt (l : List El) (i : Nat) (e : El) : List El := l.take i ++ e :: l.drop i
def delAt (l : List El) (i : Nat) : List El := l.take i ++ l.drop (i + 1)
theorem fresh_key (k : Int × Int × Int) (s : ByteArray) (t : Int) : (fresh k s t).key = k := rfl
theorem wrErr_zero {l : List El} {x : El} : wrErr l x = 0 ↔ Good l ∧ x.err = 0 ∧ latest l ≤ x.m := by
 unfold wrErr
 by_cases h1 : runErr l = 0
 ·rw [if_pos h1]
  have hG := runErr_zero.1 h1
  by_cases h2 : x.err = 0
  ·rw [if_pos h2]
   by_cases h3 : x.m < latest l
   ·rw [if_pos h3]; constructor
    ·intro h; omega
    ·intro h; omega
   ·rw [if_neg h3]; constructor
    ·intro _; exact ⟨hG, h2, by omega⟩
    ·intro _; rfl
  ·rw [if_neg h2]; constructor
   ·intro h; exact absurd h h2
   ·intro h; exact h.2.1
 ·rw [if_neg h1]; constructor
  ·intro h; exact absurd h h1
  ·intro h; exact absurd (runErr_zero.2 h.1) h1
theorem open_at {l : List El} (h : Good l) {t : Int} (hl : latest l ≤ t) {k : Int × Int × Int} {e : El} (he : e ∈ l) : isAt k t e = isOpen k e := by
 have hb := mem_bounds h he
 unfold isAt isOpen El.live liveP
 rw [Bool.eq_iff_iff, decide_eq_true_eq, decide_eq_true_eq]
 constructor
 ·rintro ⟨h1, h2⟩; exact ⟨h1, by omega⟩
 ·rintro ⟨h1, h2⟩; exact ⟨h1, by omega⟩
theorem upd_not {k : Int × Int × Int} {s : ByteArray} {t : Int} {e : El} (h : isOpen k e = false) : upd k s t e = e := by
 unfold isOpen at h; rw [decide_eq_false_iff_not] at h
 unfold upd; rw [if_neg h]
theorem upd_open {k : Int × Int × Int} {s : ByteArray} {t : Int} {e : El} (h : isOpen k e = true) : upd k s t e = if e.m = t then { e with s := s } else { e with g := t } := by
 unfold isOpen at h; rw [decide_eq_true_eq] at h
 unfold upd; rw [if_pos h]
theorem upd_key (k : Int × Int × Int) (s : ByteArray) (t : Int) (e : El) : (upd k s t e).key = e.key := by
 unfold upd El.key; split <;> (try split) <;> rfl
theorem upd_m (k : Int × Int × Int) (s : ByteArray) (t : Int) (e : El) : (upd k s t e).m = e.m := by
 unfold upd; split <;> (try split) <;> rfl
/-- At most one record of a key is open. -/
theorem open_uniq {l : List El} (h : Good l) {k : Int × Int × Int} {i j : Nat} (hi : i < l.length) (hj : j < l.length) (h1 : isOpen k l[i] = true) (h2 : isOpen k l[j] = true) : i = j := by
 refine uniqAt h.2.2 (k := k) (t := latest l) hi hj ?_ ?_
 ·rw [open_at h (Int.le_refl _) (List.getElem_mem hi)]; exact h1
 ·rw [open_at h (Int.le_refl _) (List.getElem_mem hj)]; exact h2
/-- The open record of k, if there is one. -/
theorem hit_open {l : List El} (h : Good l) (k : Int × Int × Int) {t : Int} (hl : latest l ≤ t) :
    (hitB l (pos l k t) k t = true ∧ 0 < pos l k t ∧ ∃ (hi : pos l k t - 1 < l.length), isOpen k l[pos l k t - 1] = true ∧ (∀ j (hj : j < l.length), j ≠ pos l k t - 1 → isOpen k l[j] = false)) ∨
    (hitB l (pos l k t) k t = false ∧ ∀ e ∈ l, isOpen k e = false) := by
  rcases hitB_pos h.2.2 k t with ⟨h1, hi, h2, h3, _⟩ | ⟨h1, _, h3⟩
  · left
    rw [open_at h hl (List.getElem_mem hi)] at h2
    refine ⟨h1, h3, hi, h2, fun j hj hne => ?_⟩
    cases hp : isOpen k l[j]
    · rfl
    · exact absurd (open_uniq h hj hi hp h2) hne
  · right
    exact ⟨h1, fun e he => by rw [← open_at h hl he]; exact h3 e he⟩
theorem map_none {l : List El} {k : Int × Int × Int} {s : ByteArray} {t : Int} (h : ∀ e ∈ l, isOpen k e = false) : l.map (upd k s t) = l := by
 conv => rhs; rw [← List.map_id l]
 exact List.map_congr_left fun e he => upd_not (h e he)
theorem map_set {l : List El} {k : Int × Int × Int} {s : ByteArray} {t : Int} {i : Nat} (hi : i < l.length) (h : ∀ j (hj : j < l.length), j ≠ i → isOpen k l[j] = false) : l.map (upd k s t) = l.set i (upd k s t l[i]) := by
 refine List.ext_getElem (by simp) fun j h1 h2 => ?_
 rw [List.getElem_map, List.getElem_set]
 split
 ·subst_vars; rfl
 ·exact upd_not (h j (by simpa using h1) (by omega))
theorem same_none {l : List El} {k : Int × Int × Int} {t : Int} (h : ∀ e ∈ l, isOpen k e = false) : l.any (isSame k t) = false := by
 rw [List.any_eq_false]
 intro e he h2
 have := h e he
 unfold isOpen at this; unfold isSame at h2
 rw [decide_eq_false_iff_not] at this; rw [decide_eq_true_eq] at h2
 exact this ⟨h2.1, h2.2.1⟩
theorem same_at {l : List El} {k : Int × Int × Int} {t : Int} {i : Nat} (hi : i < l.length) (ho : isOpen k l[i] = true) (h : ∀ j (hj : j < l.length), j ≠ i → isOpen k l[j] = false) : l.any (isSame k t) = decide (l[i].m = t) := by
 unfold isOpen at ho; rw [decide_eq_true_eq] at ho
 rw [Bool.eq_iff_iff, List.any_eq_true, decide_eq_true_eq]
 constructor
 ·rintro ⟨e, he, h2⟩
  obtain ⟨j, hj, rfl⟩ := List.getElem_of_mem he
  unfold isSame at h2; rw [decide_eq_true_eq] at h2
  by_cases hji : j = i
  ·subst hji; exact h2.2.2
  ·have := h j hj hji
   unfold isOpen at this; rw [decide_eq_false_iff_not] at this
   exact absurd ⟨h2.1, h2.2.1⟩ this
 ·intro h2
  exact ⟨_, List.getElem_mem hi, by unfold isSame; rw [decide_eq_true_eq]; exact ⟨ho.1, ho.2, h2⟩⟩
/-- The place of x in rising records. -/
theorem ins_at {x : El} : ∀ {l : List El}, l.Pairwise (fun a b => sLt a.key a.m b.key b.m) → ins x l = insAt l (pos l x.key x.m) x
 | [], _ => rfl
 |y :: l, h => by
  rw [List.pairwise_cons] at h
  unfold ins
  by_cases hx : sLt x.key x.m y.key y.m
  ·rw [if_pos hx]
   have h0 : pos (y :: l) x.key x.m = 0 := by
    unfold pos
    rw [List.countP_eq_zero]
    intro e he
    simp only [Bool.not_eq_true', decide_eq_false_iff_not, Classical.not_not]
    rcases List.mem_cons.1 he with rfl | he
    ·exact hx
    ·exact sLt_trans hx (h.1 e he)
   rw [h0]; rfl
  ·rw [if_neg hx]
   have h1 : pos (y :: l) x.key x.m = pos l x.key x.m + 1 := by
    unfold pos
    rw [List.countP_cons_of_pos (by simp [hx])]
   rw [h1, ins_at h.2]
   rfl
theorem pos_map (l : List El) (k' : Int × Int × Int) (s : ByteArray) (t : Int) (k : Int × Int × Int) (u : Int) : pos (l.map (upd k' s t)) k u = pos l k u := by
 unfold pos
 rw [List.countP_map]
 congr 1
 funext e
 simp only [Function.comp, upd_key, upd_m]
/-- What a write makes of the records that were there is a run again. -/
theorem good_map {l : List El} (h : Good l) {k : Int × Int × Int} {s : ByteArray} {t : Int} (hl : latest l ≤ t) (ht : t ≤ 2147483647) (hs : (s.size : Int) ≤ 40) : Good (l.map (upd k s t)) := by
 refine ⟨by rw [List.length_map]; exact h.1, fun e he => ?_, ?_⟩
 ·obtain ⟨x, hx, rfl⟩ := List.mem_map.1 he
  have hb := mem_bounds h hx
  have hx0 := h.2.1 x hx
  cases ho : isOpen k x
  ·rw [upd_not ho]; exact hx0
  ·rw [upd_open ho]
   unfold isOpen at ho; rw [decide_eq_true_eq] at ho
   unfold El.err at hx0 ⊢
   rw [elemErr_zero] at hx0
   split
   ·exact elemErr_zero.2 ⟨hx0.1, hx0.2.1, hs⟩
   ·refine elemErr_zero.2 ⟨hx0.1, ?_, hx0.2.2⟩
    unfold timeOk; simp only; omega
 ·rw [List.pairwise_map, List.pairwise_iff_getElem]
  intro i j hi hj hij
  have hF := List.pairwise_iff_getElem.1 h.2.2 i j hi hj hij
  refine ⟨by rw [upd_key, upd_key, upd_m, upd_m]; exact hF.1, fun hk => ?_⟩
  rw [upd_key, upd_key] at hk
  have h2 := hF.2 hk
  have ho : isOpen k l[i] = false := by
   unfold isOpen; rw [decide_eq_false_iff_not]; exact fun h3 => h2.1 h3.2
  rw [upd_not ho, upd_m]
  exact h2
theorem pairwise_ins {l : List El} {i : Nat} {x : El} (h : l.Pairwise Fol) (h1 : ∀ e ∈ l.take i, Fol e x) (h2 : ∀ e ∈ l.drop i, Fol x e) : (insAt l i x).Pairwise Fol := by
 unfold insAt
 rw [List.pairwise_append, List.pairwise_cons]
 refine ⟨h.sublist (List.take_sublist _ _), ⟨h2, h.sublist (List.drop_sublist _ _)⟩, fun a ha b hb => ?_⟩
 rcases List.mem_cons.1 hb with rfl | hb
 ·exact h1 a ha
 ·have := List.take_append_drop i l
  rw [← this, List.pairwise_append] at h
  exact h.2.2 a ha b hb
/-- A new record among records of which none of its key is open. -/
theorem good_ins {l : List El} (h : Good l) {x : El} (hx : x.err = 0) (hl : latest l ≤ x.m) (hn : ∀ e ∈ l, e.key = x.key → e.g ≠ 0) (h4 : l.length < 400) : Good (insAt l (pos l x.key x.m) x) := by
 have hp := pos_spec h.2.2 x.key x.m
 refine ⟨?_, fun e he => ?_, pairwise_ins h.2.2 (fun e he => ?_) (fun e he => ?_)⟩
 ·unfold insAt; rw [List.length_append, List.length_cons, List.length_take, List.length_drop]; omega
 ·unfold insAt at he
  rcases List.mem_append.1 he with h1 | h1
  ·exact h.2.1 e (List.mem_of_mem_take h1)
  ·rcases List.mem_cons.1 h1 with rfl | h1
   ·exact hx
   ·exact h.2.1 e (List.mem_of_mem_drop h1)
 ·have he2 := List.mem_of_mem_take he
  obtain ⟨i, hi, rfl⟩ := List.getElem_of_mem he
  rw [List.length_take] at hi
  have h1 := hp.1 i (by omega) (by omega)
  rw [List.getElem_take] at he2 ⊢
  have hb := mem_bounds h he2
  rcases sLt_tri l[i].key l[i].m x.key x.m with h3 | ⟨h3, h5⟩ | h3
  ·exact ⟨h3, fun hk => ⟨hn _ he2 hk, by omega⟩⟩
  ·have := hn _ he2 h3
   omega
  ·exact absurd h3 h1
 ·have he2 := List.mem_of_mem_drop he
  obtain ⟨i, hi, rfl⟩ := List.getElem_of_mem he
  rw [List.length_drop] at hi
  have h1 := hp.2 (pos l x.key x.m + i) (by omega) (by omega)
  rw [List.getElem_drop] at he2 ⊢
  have hb := mem_bounds h he2
  refine ⟨h1, fun hk => ?_⟩
  rw [← hk, sLt_same] at h1
  omega
theorem sizes {l : List El} {x : El} (h : wrErr l x = 0) : (x.s.size : Int) ≤ 40 ∧ x.m ≤ 2147483647 ∧ 1 ≤ x.m := by
 have h2 := (wrErr_zero.1 h).2.1
 have ht := err_time h2
 unfold El.err at h2
 rw [elemErr_zero] at h2
 unfold timeOk at ht
 exact ⟨h2.2.2, by omega, by omega⟩
theorem put_same {l : List El} {k : Int × Int × Int} {s : ByteArray} {t : Int} {i : Nat} (hi : i < l.length) (ho : isOpen k l[i] = true) (h : ∀ j (hj : j < l.length), j ≠ i → isOpen k l[j] = false) (hm : l[i].m = t) :
    l.any (isSame k t) = true ∧ putR l k s t = l.set i { l[i] with s := s } := by
  have h1 : l.any (isSame k t) = true := by rw [same_at hi ho h]; exact decide_eq_true hm
  refine ⟨h1, ?_⟩
  unfold putR
  rw [if_pos h1, map_set hi h, upd_open ho, if_pos hm]
theorem put_new {l : List El} {k : Int × Int × Int} {s : ByteArray} {t : Int} (hG : Good l) {i : Nat} (hi : i < l.length) (ho : isOpen k l[i] = true) (h : ∀ j (hj : j < l.length), j ≠ i → isOpen k l[j] = false) (hm : l[i].m ≠ t) (hl : latest l ≤ t) (ht : t ≤ 2147483647) (hs : (s.size : Int) ≤ 40) :
    l.any (isSame k t) = false ∧ Good (l.set i { l[i] with g := t }) ∧ pos (l.set i { l[i] with g := t }) k t = pos l k t ∧ putR l k s t = insAt (l.set i { l[i] with g := t }) (pos l k t) (fresh k s t) := by
  have h1 : l.any (isSame k t) = false := by rw [same_at hi ho h]; exact decide_eq_false hm
  have h2 : l.map (upd k s t) = l.set i { l[i] with g := t } := by rw [map_set hi h, upd_open ho, if_neg hm]
  have h3 := good_map hG (k := k) (s := s) hl ht hs
  have h4 := pos_map l k s t k t
  refine ⟨h1, by rw [← h2]; exact h3, by rw [← h2]; exact h4, ?_⟩
  unfold putR
  rw [h1]
  show ins _ _ = _
  rw [ins_at (Fol.rise h3.2.2)]
  show insAt _ (pos _ k t) _ = _
  rw [h4, h2]
theorem put_none {l : List El} {k : Int × Int × Int} {s : ByteArray} {t : Int} (hG : Good l) (h : ∀ e ∈ l, isOpen k e = false) : l.any (isSame k t) = false ∧ putR l k s t = insAt l (pos l k t) (fresh k s t) := by
 refine ⟨same_none h, ?_⟩
 unfold putR
 rw [same_none h]
 show ins _ _ = _
 rw [map_none h, ins_at (Fol.rise hG.2.2)]
 rfl
theorem cut_filter {l : List El} {k : Int × Int × Int} {t : Int} (h : ∀ e ∈ l, isOpen k e = false) : cutR l k t = l := by
 unfold cutR
 induction l with
 |nil => rfl
 |cons x l ih =>
  have h1 := h x (by simp)
  unfold isOpen at h1; rw [decide_eq_false_iff_not] at h1
  rw [List.filterMap_cons]
  simp only [cutStep, if_neg h1]
  rw [ih fun e he => h e (by simp [he])]
theorem cut_at {l : List El} {k : Int × Int × Int} {t : Int} {i : Nat} (hi : i < l.length) (ho : isOpen k l[i] = true) (h : ∀ j (hj : j < l.length), j ≠ i → isOpen k l[j] = false) :
    cutR l k t = if l[i].m = t then delAt l i else l.set i { l[i] with g := t } := by
  have e : l = l.take i ++ l[i] :: l.drop (i + 1) := by rw [← List.drop_eq_getElem_cons hi, List.take_append_drop]
  have h1 : cutR (l.take i) k t = l.take i := cut_filter fun x hx => by
    obtain ⟨j, hj, rfl⟩ := List.getElem_of_mem hx
    rw [List.length_take] at hj
    rw [List.getElem_take]; exact h j (by omega) (by omega)
  have h2 : cutR (l.drop (i + 1)) k t = l.drop (i + 1) := cut_filter fun x hx => by
    obtain ⟨j, hj, rfl⟩ := List.getElem_of_mem hx
    rw [List.length_drop] at hj
    rw [List.getElem_drop]; exact h _ (by omega) (by omega)
  have h3 : cutR l k t = cutR (l.take i) k t ++ (cutR [l[i]] k t ++ cutR (l.drop (i + 1)) k t) := by
    unfold cutR
    conv => lhs; rw [e]
    rw [List.filterMap_append, ← List.singleton_append, List.filterMap_append]
  unfold isOpen at ho; rw [decide_eq_true_eq] at ho
  rw [h3, h1, h2]
  by_cases hm : l[i].m = t
  · rw [if_pos hm]
    simp [cutR, cutStep, ho, hm, delAt]
  · rw [if_neg hm, List.set_eq_take_append_cons_drop, if_pos hi]
    simp [cutR, cutStep, ho, hm]
theorem open_any {l : List El} {k : Int × Int × Int} {i : Nat} (hi : i < l.length) (ho : isOpen k l[i] = true) : l.any (isOpen k) = true := List.any_eq_true.2 ⟨_, List.getElem_mem hi, ho⟩
theorem open_no {l : List El} {k : Int × Int × Int} (h : ∀ e ∈ l, isOpen k e = false) : l.any (isOpen k) = false := by
 rw [List.any_eq_false]; intro e he; rw [h e he]; simp
theorem good_del {l : List El} (h : Good l) (i : Nat) : Good (delAt l i) := by
 have hs : (delAt l i).Sublist l := by
  unfold delAt
  conv => rhs; rw [← List.take_append_drop i l]
  refine List.Sublist.append (List.Sublist.refl _) ?_
  rw [← List.drop_drop]
  exact List.drop_sublist _ _
 exact ⟨Nat.le_trans hs.length_le h.1, fun e he => h.2.1 e (hs.mem he), h.2.2.sublist hs⟩
theorem latest_set {l : List El} {i : Nat} {t : Int} (h : Good l) (hl : latest l ≤ t) (hi : i < l.length) : latest (l.set i { l[i] with g := t }) ≤ t := by
 have h0 := latest_nonneg l
 refine latest_le (by omega) fun e he => ?_
 rcases List.mem_or_eq_of_mem_set he with h1 | h1
 ·exact Int.le_trans (latest_ge h1) hl
 ·subst h1
  have hb := mem_bounds h (List.getElem_mem hi)
  exact last_le (by simp only; omega) (by simp only; omega)
/-- What Put makes of a run is a run. -/
theorem put_good {l : List El} {k : Int × Int × Int} {s : ByteArray} {t : Int} (hw : wrErr l (fresh k s t) = 0) (hp : putErr l k s t = 0) : Good (putR l k s t) := by
 obtain ⟨hG, hx, hl⟩ := wrErr_zero.1 hw
 obtain ⟨z1, z2, z3⟩ := sizes hw
 unfold putErr at hp
 rw [if_pos hw] at hp
 have hlt : latest l ≤ t := hl
 have z4 : 1 ≤ t := z3
 rcases hit_open hG k hlt with ⟨h1, h2, hi, h3, h4⟩ | ⟨h1, h2⟩
 ·by_cases hm : l[pos l k t - 1].m = t
  ·obtain ⟨e1, e2⟩ := put_same (s := s) hi h3 h4 hm
   rw [e2]
   have h5 := good_map hG (k := k) (s := s) hlt z2 z1
   rw [map_set hi h4, upd_open h3, if_pos hm] at h5
   exact h5
  ·obtain ⟨e1, e2, e3, e4⟩ := put_new (s := s) hG hi h3 h4 hm hlt z2 z1
   rw [e1] at hp
   have h4' : l.length < 400 := by
    rcases Nat.lt_or_ge l.length 400 with h | h
    ·exact h
    ·rw [if_neg (by simp), if_pos h] at hp; omega
   have hno : ∀ e ∈ l.set (pos l k t - 1) { l[pos l k t - 1] with g := t }, e.key = (fresh k s t).key → e.g ≠ 0 := fun e he hk hg => by
    rw [fresh_key] at hk
    obtain ⟨j, hj, rfl⟩ := List.getElem_of_mem he
    rw [List.length_set] at hj
    rw [List.getElem_set] at hk hg
    split at hg
    ·simp only at hg; omega
    ·rename_i hne
     rw [if_neg hne] at hk
     have := h4 j hj (by omega)
     unfold isOpen at this; rw [decide_eq_false_iff_not] at this
     exact this ⟨hk, hg⟩
   have h9 : Good (insAt (l.set (pos l k t - 1) { l[pos l k t - 1] with g := t }) (pos (l.set (pos l k t - 1) { l[pos l k t - 1] with g := t }) k t) (fresh k s t)) := good_ins (x := fresh k s t) e2 hx (latest_set hG hlt hi) hno (by rw [List.length_set]; exact h4')
   rw [e3] at h9
   rw [e4]
   exact h9
 ·obtain ⟨e1, e2⟩ := put_none (s := s) (t := t) hG h2
  rw [e1] at hp
  have h4' : l.length < 400 := by
   rcases Nat.lt_or_ge l.length 400 with h | h
   ·exact h
   ·rw [if_neg (by simp), if_pos h] at hp; omega
  rw [e2]
  exact good_ins (x := fresh k s t) hG hx hl (fun e he hk hg => by
   have := h2 e he
   unfold isOpen at this; rw [decide_eq_false_iff_not] at this
   exact this ⟨hk, hg⟩) h4'
theorem cut_good {l : List El} {k : Int × Int × Int} {t : Int} (hw : wrErr l (fresh k { data := #[] } t) = 0) : Good (cutR l k t) := by
 obtain ⟨hG, hx, hl⟩ := wrErr_zero.1 hw
 obtain ⟨z1, z2, z3⟩ := sizes hw
 have hlt : latest l ≤ t := hl
 rcases hit_open hG k hlt with ⟨h1, h2, hi, h3, h4⟩ | ⟨h1, h2⟩
 ·rw [cut_at hi h3 h4]
  by_cases hm : l[pos l k t - 1].m = t
  ·rw [if_pos hm]; exact good_del hG _
  ·rw [if_neg hm]
   exact (put_new (s := { data := #[] }) hG hi h3 h4 hm hlt z2 z1).2.1
 ·rw [cut_filter h2]; exact hG
theorem ins_mem {x e : El} : ∀ {l : List El}, e ∈ ins x l → e = x ∨ e ∈ l
 | [], h => by simp [ins] at h; exact .inl h
 |y :: l, h => by
  unfold ins at h
  split at h
  ·rcases List.mem_cons.1 h with h | h
   ·exact .inl h
   ·exact .inr h
  ·rcases List.mem_cons.1 h with h | h
   ·exact .inr (by simp [h])
   ·rcases ins_mem h with h | h
    ·exact .inl h
    ·exact .inr (by simp [h])
open Go.RowKit
section
variable {P : Program} {ops : Array Oper}
inductive Doing where
 |val (v : Value) (bef : List Nat := [])
 |idle
 |late (aft : List Nat := [])
def Doing.out (Y : Nat → Value) (i : Nat) : Doing → Value
 | .val v _ => v
 | .idle => undef
 | .late _ => Y i
def updV (Y : Nat → Value) (i : Nat) (y : Value) : Nat → Value := fun j => if j = i then y else Y j
def updB (L : Nat → Bool) (i : Nat) : Nat → Bool := fun j => if j = i then true else L j
abbrev Stages := List Bool → (Nat → Value) → World → Prop
def Doing.fits (P : Program) (ops : Array Oper) (late : List Nat) (St : Stages) (Y : Nat → Value) (i : Nat) (o : Oper) (a : Act) : Doing → Prop
  | .val v bef => Region.wanted o (yielded ops a.tmps) = true ∧ ∀ (L : Nat → Bool) (w : World), (∀ j ∈ bef, L j = false) → St (late.map L) Y w → Oper.quietUpon P (Calm w) w v ((execOp a.eval o).run P w)
  | .idle => Region.wanted o (yielded ops a.tmps) = false
  | .late aft => ∀ (L : Nat → Bool) (w : World), L i = false → (∀ j ∈ aft, L j = true) → St (late.map L) Y w →
      wpList P ops (fun x a' w' => x = .normal ∧ ∃ y, a' = a.put o.dst y ∧ St (late.map (updB L i)) (updV Y i y) w') [o] a w
def PlanS (P : Program) (ops : Array Oper) (late : List Nat) (St : Stages) (Y : Nat → Value) (R : Act → Prop) : Nat → List Oper → List Doing → Act → Prop
 |_, [], [], a => R a
 |i, o :: os, d :: ds, a => d.fits P ops late St Y i o a ∧ PlanS P ops late St Y R (i + 1) os ds (a.put o.dst (d.out Y i))
 |_, _, _, _ => False
def stagesB (ops : Array Oper) (late : List Nat) (p : List Doing) : Bool :=
  late.all (fun i => decide (i < p.length)) && (List.range p.length).all fun i => match p[i]? with
    | none => true
    | some (.val _ bef) => !late.contains i && bef.all fun j => match ops[j]? with
        | none => false
        | some x => x.after.any fun e => Region.binds .any e && e.on == i
    | some .idle => !late.contains i
    | some (.late aft) => late.contains i && aft.all fun j => match ops[i]? with
        | none => false
        | some x => x.after.any fun e => Region.binds .any e && e.on == j
structure AgreeV (ops : Array Oper) (val : Nat → Value) (a0 : Act) (S : Nat → Prop) (a : Act) : Prop where
 defers : a.defers = a0.defers
 size : a.tmps.size = a0.tmps.size
 put : ∀ i o t, ops[i]? = some o → S i → o.dst = some t → t < a0.tmps.size → a.tmps[t]? = some (val i)
 old : ∀ t, (∀ i o, ops[i]? = some o → S i → o.dst ≠ some t) → a.tmps[t]? = a0.tmps[t]?
theorem AgreeV.step {val val' : Nat → Value} {a0 : Act} {S T : Nat → Prop} {a : Act} (hs : Sound ops) (h : AgreeV ops val a0 S a) {j : Nat} {o : Oper} (ho : ops[j]? = some o)
    (hT : ∀ i, T i ↔ (S i ∨ i = j)) (hv : ∀ i, S i → i ≠ j → val' i = val i) (hj : ¬ S j) {v : Value} (hvj : ∀ t, o.dst = some t → t < a0.tmps.size → val' j = v) : AgreeV ops val' a0 T (a.put o.dst v) := by
  refine ⟨by rw [put_def, h.defers], by rw [put_size, h.size], fun i oi t hoi hi ht hlt => ?_, fun t ht => ?_⟩
  · rw [put_get]
    rcases (hT i).1 hi with hi | rfl
    · have hij : i ≠ j := fun e => by subst e; exact hj hi
      by_cases hc : o.dst = some t ∧ t < a.tmps.size
      · obtain rfl := hs.apart j i o oi t ho hoi ht hc.1
        exact absurd rfl hij
      · rw [if_neg hc, hv i hi hij]
        exact h.put i oi t hoi hi ht hlt
    · rw [ho] at hoi; cases hoi
      rw [if_pos ⟨ht, by rw [h.size]; exact hlt⟩, hvj t ht hlt]
  · rw [put_get, if_neg (fun hc => ht j o ho ((hT j).2 (Or.inr rfl)) hc.1)]
    exact h.old t fun i oi hoi hi => ht i oi hoi ((hT i).2 (Or.inl hi))
theorem AgreeV.same {val : Nat → Value} {a0 : Act} {S T : Nat → Prop} {a b : Act} (hST : ∀ i, i < ops.size → (S i ∧ T i)) (ha : AgreeV ops val a0 S a) (hb : AgreeV ops val a0 T b) : a = b := by
 obtain ⟨at_, ad⟩ := a
 obtain ⟨bt, bd⟩ := b
 have h1 : ad = bd := ha.defers.trans hb.defers.symm
 subst h1
 congr 1
 apply Array.ext_getElem?
 intro t
 by_cases hw : ∃ (i : Nat) (x : Oper), ops[i]? = some x ∧ x.dst = some t
 ·obtain ⟨i, x, hx, hxt⟩ := hw
  have hi : i < ops.size := (Array.getElem?_eq_some_iff.1 hx).1
  by_cases hlt : t < a0.tmps.size
  ·exact (ha.put i x t hx (hST i hi).1 hxt hlt).trans (hb.put i x t hx (hST i hi).2 hxt hlt).symm
  ·rw [Array.getElem?_eq_none (by have := ha.size; simp only at this; omega), Array.getElem?_eq_none (by have := hb.size; simp only at this; omega)]
 ·have hno : ∀ (i : Nat) (x : Oper), ops[i]? = some x → x.dst ≠ some t := fun i x hx hxt => hw ⟨i, x, hx, hxt⟩
  exact (ha.old t fun i x hx _ => hno i x hx).trans (hb.old t fun i x hx _ => hno i x hx).symm
def valsOf (p : List Doing) (Y : Nat → Value) (i : Nat) : Value := match p[i]? with | some d => d.out Y i | none => undef
theorem planS_get {late : List Nat} {St : Stages} {Y : Nat → Value} {p : List Doing} {a0 : Act} {R : Act → Prop} (hs : Sound ops) : ∀ (os : List Oper) (ds : List Doing) (i : Nat) (a : Act), os = ops.toList.drop i → ds = p.drop i →
    AgreeV ops (valsOf p Y) a0 (· < i) a → PlanS P ops late St Y R i os ds a →
    (∀ j o, i ≤ j → ops[j]? = some o → ∃ d b, p[j]? = some d ∧ AgreeV ops (valsOf p Y) a0 (· < j) b ∧ d.fits P ops late St Y j o b) ∧ (∃ b, AgreeV ops (valsOf p Y) a0 (· < ops.size) b ∧ R b) ∧ (i ≤ ops.size → i ≤ p.length → p.length = ops.size)
  | [], [], i, a, hos, hds, ha, h => by
    have hl : ops.size ≤ i := by have := congrArg List.length hos; simp at this; omega
    refine ⟨fun j o hj hoj => ?_, ⟨a, ⟨ha.defers, ha.size, fun k o t ho hk ht hlt => ha.put k o t ho (by omega) ht hlt, fun t ht => ha.old t fun k o ho hk => ht k o ho ?_⟩, h⟩, fun hi hi2 => ?_⟩
    · have := (Array.getElem?_eq_some_iff.1 hoj).1; omega
    · exact (Array.getElem?_eq_some_iff.1 ho).1
    · have := congrArg List.length hds; simp at this; omega
  | [], d :: ds, i, a, _, _, _, h => absurd h (by simp [PlanS])
  | o :: os, [], i, a, _, _, _, h => absurd h (by simp [PlanS])
  | o :: os, d :: ds, i, a, hos, hds, ha, h => by
    have hlen : i < ops.size := by have := congrArg List.length hos; simp at this; omega
    have ho : ops[i]? = some o := by
      have := congrArg (·[0]?) hos
      simpa using this.symm
    have hd : p[i]? = some d := by
      have := congrArg (·[0]?) hds
      simpa using this.symm
    have hos' : os = ops.toList.drop (i + 1) := by rw [← List.tail_drop, ← hos]; rfl
    have hds' : ds = p.drop (i + 1) := by rw [← List.tail_drop, ← hds]; rfl
    obtain ⟨h1, h2⟩ := h
    have hplen : i < p.length := by have := congrArg List.length hds; simp at this; omega
    have hval : valsOf p Y i = d.out Y i := by unfold valsOf; rw [hd]
    obtain ⟨g1, g2, g3⟩ := planS_get hs os ds (i + 1) (a.put o.dst (d.out Y i)) hos' hds' (ha.step hs ho (fun k => by omega) (fun _ _ _ => rfl) (by omega) (fun _ _ _ => hval)) h2
    refine ⟨fun j oj hj hoj => ?_, g2, fun _ _ => g3 (by omega) (by omega)⟩
    rcases Nat.eq_or_lt_of_le hj with rfl | hj
    · rw [ho] at hoj; cases hoj
      exact ⟨d, a, hd, ha, h1⟩
    · exact g1 j oj hj hoj
structure InvS (ops : Array Oper) (late : List Nat) (St : Stages) (p : List Doing) (a0 : Act) (Y : Nat → Value) (listed : Array Bool) (a : Act) (w : World) : Prop where
 size : listed.size = ops.size
 act : AgreeV ops (valsOf p Y) a0 (fun i => listed.getD i false = true) a
 st : St (late.map fun i => listed.getD i false) Y w
 down : ∀ i o e, ops[i]? = some o → listed.getD i false = true → e ∈ o.after → Region.binds .any e = true → listed.getD e.on false = true
theorem map_early {late : List Nat} {L M : Nat → Bool} {i : Nat} (hi : late.contains i = false) (h : ∀ j, j ≠ i → M j = L j) : late.map M = late.map L := by
 apply List.map_congr_left
 intro j hj
 refine h j fun e => ?_
 subst e
 rw [List.contains_iff_mem.2 hj] at hi
 cases hi
theorem InvS.step {late : List Nat} {St : Stages} {p : List Doing} {a0 : Act} {R : (Nat → Value) → Act → Prop} {Q : Exit → Act → World → Prop} (hs : Sound ops) (hB : stagesB ops late p = true)
    (hC : ∀ bs Y w w', St bs Y w → Calm w w' → St bs Y w') (hp : ∀ Y, PlanS P ops late St Y (R Y) 0 ops.toList p a0) {Y : Nat → Value} {listed : Array Bool} {a : Act} {w : World} {j : Nat}
    (h : InvS ops late St p a0 Y listed a w) (hj : j ∈ Region.ready .any ops listed) :
    wpOp P ops Q j (fun a' w' => ∃ Y', InvS ops late St p a0 Y' (listed.setIfInBounds j true) a' w') a w := by
  obtain ⟨hun, o, ho, hall⟩ := mem_ready.1 hj
  have hjs : j < listed.size := by rw [h.size]; exact (Array.getElem?_eq_some_iff.1 ho).1
  have hnl : listed.getD j false = false := by
    rw [Array.getD_eq_getD_getElem?] at hun ⊢
    rw [Array.getElem?_eq_getElem hjs] at hun ⊢
    simpa using hun
  obtain ⟨g1, _, g3⟩ := planS_get (Y := Y) hs ops.toList p 0 a0 rfl rfl ⟨rfl, rfl, fun i o t _ hi => absurd hi (Nat.not_lt_zero _), fun t _ => rfl⟩ (hp Y)
  obtain ⟨d, b, hd, hb, hfit⟩ := g1 j o (Nat.zero_le _) ho
  have hlook : ∀ t ∈ o.looksAt ops, a.tmps[t]? = b.tmps[t]? := fun t ht => by
    by_cases hw : ∃ (i : Nat) (x : Oper), ops[i]? = some x ∧ x.dst = some t
    · obtain ⟨i, x, hx, hxt⟩ := hw
      obtain ⟨hij, e, he, hbe, rfl⟩ := hs.looks j i o x t ho hx hxt ht
      have hli := hall e he hbe
      by_cases hlt : t < a0.tmps.size
      · rw [h.act.put e.on x t hx hli hxt hlt, hb.put e.on x t hx hij hxt hlt]
      · have e1 : a.tmps[t]? = none := Array.getElem?_eq_none (by rw [h.act.size]; exact Nat.le_of_not_lt hlt)
        have e2 : b.tmps[t]? = none := Array.getElem?_eq_none (by rw [hb.size]; exact Nat.le_of_not_lt hlt)
        rw [e1, e2]
    · have hno : ∀ (i : Nat) (x : Oper), ops[i]? = some x → x.dst ≠ some t := fun i x hx hxt => hw ⟨i, x, hx, hxt⟩
      rw [h.act.old t fun i x hx _ => hno i x hx, hb.old t fun i x hx _ => hno i x hx]
  obtain ⟨hex, hwant⟩ := same_look (hs.noSelect j o · · ho) hlook
  have hdown : ∀ i o' e, ops[i]? = some o' → (listed.setIfInBounds j true).getD i false = true → e ∈ o'.after → Region.binds .any e = true → (listed.setIfInBounds j true).getD e.on false = true := fun i o' e ho' hi he hbe => by
    rcases (getD_set_iff hjs).1 hi with hi | rfl
    · exact getD_set_true (h.down i o' e ho' hi he hbe)
    · rw [ho] at ho'; cases ho'
      exact getD_set_true (hall e he hbe)
  have hpB := List.all_eq_true.1 (Bool.and_eq_true_iff.1 hB).2 j (List.mem_range.2 (List.getElem?_eq_some_iff.1 hd).1)
  rw [hd] at hpB
  have hmapE : late.contains j = false → (late.map fun i => (listed.setIfInBounds j true).getD i false) = late.map fun i => listed.getD i false := fun hl =>
    map_early hl fun i hi => getD_set_ne false (Ne.symm hi)
  have hmapL : (late.map fun i => (listed.setIfInBounds j true).getD i false) = late.map (updB (fun i => listed.getD i false) j) := by
    apply List.map_congr_left
    intro i _
    unfold updB
    by_cases hij : i = j
    · subst hij; rw [if_pos rfl]; exact (getD_set_iff hjs).2 (Or.inr rfl)
    · rw [if_neg hij]; exact getD_set_ne false (Ne.symm hij)
  have hvalj : valsOf p Y j = d.out Y j := by unfold valsOf; rw [hd]
  have hnS : ¬ (listed.getD j false = true) := by rw [hnl]; simp
  unfold wpOp
  simp only [ho]
  cases d with
  | val v bef =>
    simp only [Bool.and_eq_true, Bool.not_eq_true'] at hpB
    obtain ⟨f1, f2⟩ := hfit
    rw [hwant, f1, if_pos rfl]
    left
    unfold Oper.wp
    rw [hex]
    have hbef : ∀ k ∈ bef, listed.getD k false = false := fun k hk => by
      have h1 := List.all_eq_true.1 hpB.2 k hk
      cases hok : ops[k]? with
      | none => rw [hok] at h1; cases h1
      | some x =>
        rw [hok] at h1
        obtain ⟨e, he, h2⟩ := Array.any_eq_true'.1 h1
        simp only [Bool.and_eq_true, beq_iff_eq] at h2
        cases hlk : listed.getD k false with
        | false => rfl
        | true =>
          have := h.down k x e hok hlk he h2.1
          rw [h2.2, hnl] at this
          cases this
    have f3 := f2 (fun i => listed.getD i false) w hbef h.st
    have fin : ∀ w', Calm w w' → ∃ Y', InvS ops late St p a0 Y' (listed.setIfInBounds j true) (a.put o.dst v) w' := fun w' hw' =>
      ⟨Y, by simp [h.size], h.act.step hs ho (fun i => getD_set_iff hjs) (fun _ _ _ => rfl) hnS (fun _ _ _ => hvalj), by rw [hmapE hpB.1]; exact hC _ _ _ _ h.st hw', hdown⟩
    generalize (execOp b.eval o).run P w = r at *
    cases r with
    | ok n w' =>
      cases n <;> simp only [Oper.quietUpon] at f3 <;> simp only [Oper.upon]
      case value u => obtain ⟨e1, e2⟩ := f3; rw [e1, e2]; exact fin w (Calm.refl w)
      case skip => obtain ⟨e1, e2⟩ := f3; rw [e1, ← e2]; exact fin w (Calm.refl w)
      case enter f args =>
        obtain ⟨e1, hc⟩ := f3
        rw [e1]
        exact hc.mono fun e w'' ⟨he, hw''⟩ => by subst he; exact fin w'' hw''
    | halt x w' => simp only [Oper.quietUpon] at f3
  | idle =>
    simp only [Bool.not_eq_true'] at hpB
    have f1 : Region.wanted o (yielded ops b.tmps) = false := hfit
    rw [hwant, f1, if_neg (by simp)]
    exact ⟨Y, by simp [h.size], h.act.step hs ho (fun i => getD_set_iff hjs) (fun _ _ _ => rfl) hnS (fun _ _ _ => hvalj), by rw [hmapE hpB]; exact h.st, hdown⟩
  | late aft =>
    simp only [Bool.and_eq_true] at hpB
    have haft : ∀ k ∈ aft, listed.getD k false = true := fun k hk => by
      have h1 := List.all_eq_true.1 hpB.2 k hk
      rw [ho] at h1
      obtain ⟨e, he, h2⟩ := Array.any_eq_true'.1 h1
      simp only [Bool.and_eq_true, beq_iff_eq] at h2
      rw [← h2.2]
      exact hall e he h2.1
    have f2 := hfit (fun i => listed.getD i false) w hnl haft h.st
    rw [← hmapL] at f2
    have fin : ∀ (v : Value) (w' : World), (∃ y, b.put o.dst v = b.put o.dst y ∧ St (late.map fun i => (listed.setIfInBounds j true).getD i false) (updV Y j y) w') →
        ∃ Y', InvS ops late St p a0 Y' (listed.setIfInBounds j true) (a.put o.dst v) w' := fun v w' ⟨y, hy, hst⟩ => by
      refine ⟨updV Y j y, by simp [h.size], h.act.step hs ho (fun i => getD_set_iff hjs) (fun i _ hij => ?_) hnS (fun t ht hlt => ?_), hst, hdown⟩
      · unfold valsOf
        cases hpi : p[i]? with
        | none => rfl
        | some di => cases di <;> simp [Doing.out, updV, hij]
      · have h1 := congrArg (fun c : Act => c.tmps[t]?) hy
        simp only [put_get] at h1
        have hlb : t < b.tmps.size := by rw [hb.size]; exact hlt
        rw [if_pos ⟨ht, hlb⟩, if_pos ⟨ht, hlb⟩] at h1
        unfold valsOf
        rw [hd]
        simp only [Doing.out, updV, if_pos]
        exact (Option.some.inj h1).symm
    simp only [wpList] at f2
    rw [hwant]
    cases hw : Region.wanted o (yielded ops b.tmps) with
    | false =>
      rw [hw] at f2
      rw [if_neg (by simp)] at f2 ⊢
      obtain ⟨_, y, hy, hst⟩ := f2
      exact fin undef w ⟨y, hy, hst⟩
    | true =>
      rw [hw] at f2
      rw [if_pos rfl] at f2 ⊢
      left
      rcases f2 with f2 | ⟨_, x, w2, hx, _⟩
      rotate_left
      · cases hx
      unfold Oper.wp at f2 ⊢
      rw [hex]
      generalize (execOp b.eval o).run P w = r at *
      cases r with
      | ok n w' =>
        cases n <;> simp only [Oper.upon] at f2 ⊢
        case value v => exact fin v w' f2.2
        case skip => exact fin undef w' f2.2
        case defer dd =>
          obtain ⟨_, y, hy, _⟩ := f2
          have h1 := congrArg Act.defers hy
          rw [put_def, put_def] at h1
          simp at h1
        case enter f args =>
          refine f2.mono fun e w'' he => ?_
          cases e with
          | returned v => exact fin v w'' he.2
          | panicked c => cases he.1
          | outgrown => obtain ⟨x, w2, hx, _⟩ := he; cases hx
        case row row args => exact f2.mono fun v w'' he => fin v w'' he.2
      | halt x w' =>
        cases x <;> simp only [Oper.upon] at f2
        case panic v => cases f2.1
/-- A REGION THAT DRAWS ITS ORDER AND WRITES, by stages. -/
theorem wp_region_stages {id : Nat} {Q : Exit → Act → World → Prop} {a0 : Act} {w0 : World} {l : List Oper} (p : List Doing) (late : List Nat) (St : Stages) (hm : P.follows .mixedOrders = true) (hB : planB l.toArray = true) (hS : stagesB l.toArray late p = true)
    (hC : ∀ bs Y w w', St bs Y w → Calm w w' → St bs Y w') (h0 : ∀ Y, St (late.map fun _ => false) Y w0.drew)
    (hp : ∀ Y, PlanS P l.toArray late St Y (fun a => ∀ w', St (late.map fun _ => true) Y w' → Q .normal a w') 0 l p a0) : (Code.region id l.toArray true).wp P Q a0 w0 := by
  have hs := planB_sound hB
  refine wp_region_any hm (wpAny_inv (fun listed a w => ∃ Y, InvS l.toArray late St p a0 Y listed a w) (fun listed a w j h hj => ?_) (fun listed a w h h0 => ?_) _ _ _ _ (by simp [unlisted, List.countP_replicate]) ⟨fun _ => undef, by simp, ?_, ?_, ?_⟩)
  · obtain ⟨Y, h⟩ := h
    exact InvS.step hs hS hC hp h hj
  · obtain ⟨Y, h⟩ := h
    have hall := fun i (hi : i < l.toArray.size) => all_listed hs h0 i i (Nat.le_refl _) hi h.size
    obtain ⟨_, ⟨b, hb, hR⟩, g3⟩ := planS_get (Y := Y) hs l p 0 a0 rfl rfl ⟨rfl, rfl, fun i o t _ hi => absurd hi (Nat.not_lt_zero _), fun t _ => rfl⟩ (hp Y)
    have hlen := g3 (Nat.zero_le _) (Nat.zero_le _)
    obtain rfl := AgreeV.same (fun i hi => ⟨hall i hi, hi⟩) h.act hb
    refine hR w ?_
    have hst := h.st
    have e : (late.map fun i => listed.getD i false) = late.map fun _ => true := by
      apply List.map_congr_left
      intro i hi
      have hil : i < p.length := of_decide_eq_true (List.all_eq_true.1 (Bool.and_eq_true_iff.1 hS).1 i hi)
      exact hall i (by omega)
    rw [e] at hst
    exact hst
  · refine ⟨rfl, rfl, fun i o t _ hi => ?_, fun _ _ => rfl⟩
    simp [Array.getElem?_replicate] at hi
    split at hi <;> simp at hi
  · have e : (late.map fun i => (Array.replicate l.toArray.size false).getD i false) = late.map fun _ => false := by
      apply List.map_congr_left
      intro i _
      exact getD_replicate_false _ _
    rw [e]
    exact h0 _
  · intro i o e _ hi
    simp [Array.getElem?_replicate] at hi
    split at hi <;> simp at hi
end
open Go.RowKit
section
variable {P : Program} {ops : Array Oper}
theorem planS_val {late : List Nat} {St : Stages} {Y : Nat → Value} {R : Act → Prop} {i : Nat} {o : Oper} {os : List Oper} {ds : List Doing} {a : Act} {v : Value} {bef : List Nat} (h1 : Region.wanted o (yielded ops a.tmps) = true)
    (h2 : ∀ (L : Nat → Bool) (w : World), (∀ j ∈ bef, L j = false) → St (late.map L) Y w → Oper.quietUpon P (Calm w) w v ((execOp a.eval o).run P w))
    (h3 : PlanS P ops late St Y R (i + 1) os ds (a.put o.dst v)) : PlanS P ops late St Y R i (o :: os) (.val v bef :: ds) a := ⟨⟨h1, h2⟩, h3⟩
theorem planS_late {late : List Nat} {St : Stages} {Y : Nat → Value} {R : Act → Prop} {i : Nat} {o : Oper} {os : List Oper} {ds : List Doing} {a : Act} {aft : List Nat}
    (h2 : ∀ (L : Nat → Bool) (w : World), L i = false → (∀ j ∈ aft, L j = true) → St (late.map L) Y w → wpList P ops (fun x a' w' => x = .normal ∧ ∃ y, a' = a.put o.dst y ∧ St (late.map (updB L i)) (updV Y i y) w') [o] a w)
    (h3 : PlanS P ops late St Y R (i + 1) os ds (a.put o.dst (Y i))) : PlanS P ops late St Y R i (o :: os) (.late aft :: ds) a := ⟨h2, h3⟩
theorem planS_end {late : List Nat} {St : Stages} {Y : Nat → Value} {R : Act → Prop} {i : Nat} {a : Act} (h : R a) : PlanS P ops late St Y R i [] [] a := h
variable {i j k : Nat} {A0 : World → Prop} {A1 A2 A3 : Value → World → Prop} {Y : Nat → Value} {L : Nat → Bool} {w : World}
end
open Go.RowKit
theorem row3 {w : World} {g t : Nat} {a b c : Value} {fr : Nat × Nat} (h : w.heap[g]? = some (.cells #[a, b, c] t fr)) : w.cell? ⟨g, 0, none⟩ = some a ∧ w.cell? ⟨g, 1, none⟩ = some b ∧ w.cell? ⟨g, 2, none⟩ = some c ∧ g < w.heap.size :=
 ⟨cell_of_row _ _ 0 _ _ _ h, cell_of_row _ _ 1 _ _ _ h, cell_of_row _ _ 2 _ _ _ h, (Array.getElem?_eq_some_iff.1 h).1⟩
open Go.ChangeShapes Go.WideShapes Go.ChangeAt Go.RowKit
section
variable {H : Type} {enc : TypeId × Value → H} {w : World} {base : Nat} {spare : Nat → Bool} {held : Bool}
variable {r : Reach} {b0 : Nat} {v : Value} {d : DataW H} {ps : List MemPlace}
theorem open_key (hv : Value.okWide Try.prog w r b0 27 v) (h : DataW.Trod enc Try.prog w base spare held 27 v d ps) :
    ∃ p o f : Int, v = .agg #[.int .i64 p, .int .i64 o, .int .i64 f] ∧ (Lit.int .i64 p).wf = true ∧ (Lit.int .i64 o).wf = true ∧ (Lit.int .i64 f).wf = true := by
  obtain ⟨cs, rfl, _⟩ := okWide_struct Try.underlying27 hv
  obtain ⟨fuel, hf⟩ := h
  obtain ⟨p, o, f, e, ws⟩ := key_cells hf
  exact ⟨p, o, f, by rw [show cs = _ from Array.toList_inj.1 e], ws⟩
end
open Go.RowKit
set_option maxHeartbeats 4000000 in
theorem runLast_any (A : Option Addr) (c : Nat) (l : List El) (w : World) (hn : l.length ≤ 9223372036854775807) (hL : Lies w A l) :
    Calls Try.prog 32 #[.slice A l.length c] w fun e w' => e = .returned (.tuple #[.int .i64 (if runErr l = 0 then latest l else 0), .int .i64 (runErr l)]) ∧ Calm w w' := by
  by_cases he : runErr l = 0
  rotate_left
  · have b1 : (runErr l != 0) = true := by simpa using he
    rw [if_neg he]
    clear he
    go_enter Try.func32, Try.ntmps32
    go_wp2_with (go_at_call 65; refine (runCheck_any _ _ _ _ hn hL).mono ?_; rintro e w1 ⟨rfl, hb1⟩)
    go_ret2
    exact ⟨rfl, hb1⟩
  have b1 : (runErr l != 0) = false := by simpa using he
  rw [if_pos he]
  have HE : Hid (runErr l = 0) := he
  clear he
  go_enter Try.func32, Try.ntmps32
  go_wp2_with (go_at_call 65; refine (runCheck_any _ _ _ _ hn hL).mono ?_; rintro e w1 ⟨rfl, hb1⟩)
  go_loopw [5, 15] (fun t i wr => ∃ k : Nat, k ≤ l.length ∧ i = .int .i64 k ∧ t = .int .i64 (latest (l.take k)) ∧ Calm w wr) (fun _ i _ => l.length - (intOf i).toNat)
  case atStart => exact ⟨0, Nat.zero_le _, rfl, rfl, hb1⟩
  case round =>
    obtain ⟨k, hk, rfl, rfl, hu⟩ := hrel
    by_cases hlt : k < l.length
    rotate_left
    · have K : Hid (latest (l.take k) = latest l) := by show _ = _; rw [List.take_of_length_le (by omega)]
      go_wp2_with fail
      go_ret2
      exact ⟨by rw [HE.out]; first | rfl | (rw [← K.out]; rfl), hu⟩
    obtain ⟨b, q, p, o, f, m, g, s, rfl, hb, HE, hm, c0, c1, c2, c3, c4, c5⟩ := (hL.calm hu).get hlt
    have K : Hid (latest (l.take (k + 1)) = if latest (l.take k) < lastOf m g then lastOf m g else latest (l.take k)) := by
      show _ = _
      rw [latest_take hlt, (List.getElem?_eq_some_iff.1 HE.out).2]
      rfl
    generalize latest (l.take k) = t0 at K ⊢
    go_wp2_with (go_at_call 72; refine (last_any _ _ _ _ _ _ _).mono ?_; rintro e w1 ⟨rfl, hb1⟩)
    go_roundw
    case rel => exact ⟨k + 1, by omega, by go_num, by first | (rw [K.out]; done) | (rw [K.out]; congr 1; rw [Int.max_def]; split <;> split <;> omega), (hu.alloc _).call hb1⟩
    case measure => simp [intOf]; omega
open Go.RowKit
theorem decide_gt (p o f m p' o' f' m' : Int) : decide (0 < scmp p o f m p' o' f' m') = decide (sLt (p', o', f') m' (p, o, f) m) := by
 rw [Bool.eq_iff_iff, decide_eq_true_eq, decide_eq_true_eq]
 have h := scmp_sLt (a := ⟨p, o, f, m, 0, ByteArray.empty⟩) (b := ⟨p', o', f', m', 0, ByteArray.empty⟩)
 simp only [El.key] at h
 have h0 : scmp p o f m p' o' f' m' = 0 ↔ (p, o, f) = (p', o', f') ∧ m = m' := by rw [scmp_eq, kcmp_key]
 rcases scmp_or p o f m p' o' f' m' with h1 | h1 | h1
 ·rw [h1]
  constructor
  ·intro h2; omega
  ·intro h2; exact absurd (h.1 h1) (sLt_asymm h2)
 ·rw [h1]
  obtain ⟨e1, e2⟩ := h0.1 h1
  rw [e1, e2]
  constructor
  ·intro h2; omega
  ·intro h2; exact absurd h2 (sLt_irrefl _ _)
 ·rw [h1]
  constructor
  ·intro _
   rcases sLt_tri (p, o, f) m (p', o', f') m' with h2 | h2 | h2
   ·rw [h.2 h2] at h1; omega
   ·rw [h0.2 h2] at h1; omega
   ·exact h2
  ·intro _; omega
set_option maxHeartbeats 4000000 in
theorem after1_any (B1 B2 : Nat) (A : Option Addr) (c : Nat) (l : List El) (p' o' f' m' : Int) (i : Nat) (w : World) (hi : i < l.length) (hL : Lies w A l)
    (hx : w.heap[B1]? = some (.cells #[.slice A l.length c] 22 (0, 0))) (hy : w.heap[B2]? = some (.cells #[.int .i64 p', .int .i64 o', .int .i64 f', .int .i64 m'] 101 (0, 0))) :
    Calls Try.prog 110 #[.int .i64 i, .pointer (some ⟨B1, 0, none⟩), .pointer (some ⟨B2, 0, none⟩)] w fun e w' => e = .returned (.bool (decide (sLt (p', o', f') m' l[i].key l[i].m))) ∧ Calm w w' := by
  obtain ⟨b, q, p, o, f, m, g, s, rfl, hb, HE, hm, c0, c1, c2, c3, c4, c5⟩ := hL.get hi
  have hK : Hid (decide (0 < scmp p o f m p' o' f' m') = decide (sLt (p', o', f') m' l[i].key l[i].m)) := by
    rw [(List.getElem?_eq_some_iff.1 HE.out).2]; exact decide_gt _ _ _ _ _ _ _ _
  generalize decide (sLt (p', o', f') m' l[i].key l[i].m) = r at hK ⊢
  clear hL HE
  have x0 := cell_of_row _ _ 0 _ _ _ hx
  simp only [List.getElem?_toArray, List.getElem?_cons_zero] at x0
  have hxs := (Array.getElem?_eq_some_iff.1 hx).1
  obtain ⟨y0, y1, y2, y3, hys⟩ := row4 hy
  have hiz : (i : Int) < (l.length : Int) := by omega
  generalize l.length = n at *
  clear hx hy
  go_enter Try.func110, Try.ntmps110
  go_wp2_with fail
  refine wp_region_plan [.val (.slice (some ⟨b, q, none⟩) n c), .val (.int .i64 i), .val (.pointer (some ⟨b, q + i * 6, none⟩)), .val (.agg #[.int .i64 p, .int .i64 o, .int .i64 f, .int .i64 m, .int .i64 g, .string s]), .val (.agg #[.int .i64 p, .int .i64 o, .int .i64 f, .int .i64 m]), .val (.agg #[.int .i64 p', .int .i64 o', .int .i64 f', .int .i64 m']), .val (.int .i64 (scmp p o f m p' o' f' m')), .val (.bool (decide (0 < scmp p o f m p' o' f' m'))), .val (.bool (decide (0 < scmp p o f m p' o' f' m')))] (by kernel_rfl) (by kernel_rfl) (by kernel_rfl) ?_
  intro X
  iterate 9
    refine plan_val (by kernel_rfl) (fun u hu => ?_) ?_
    · obtain ⟨hc, hf, hz⟩ := hu.of_drew.facts
      go_simp
      all_goals first
        | (go_at_call 88; exact spot_any _ _ _ _ _ _ _)
        | (go_at_call 111; exact cmpSpot_any _ _ _ _ _ _ _ _ _)
    simp only [Act.put, List.setIfInBounds_toArray, List.set_cons_zero, List.set_cons_succ, Nat.reduceAdd]
  refine plan_end ?_
  intro w' hB
  have hk := hB.calm.of_drew
  clear hB
  go_wp2_with fail
  go_ret
  exact ⟨ret_bool hK.out, hk⟩
def Boxes (B1 B2 : Nat) (A : Option Addr) (n c : Nat) (p' o' f' m' : Int) (w : World) : Prop :=
 w.heap[B1]? = some (.cells #[.slice A n c] 22 (0, 0)) ∧ w.heap[B2]? = some (.cells #[.int .i64 p', .int .i64 o', .int .i64 f', .int .i64 m'] 101 (0, 0))
theorem Boxes.calm {B1 B2 : Nat} {A : Option Addr} {n c : Nat} {p' o' f' m' : Int} {w w' : World} (h : Boxes B1 B2 A n c p' o' f' m' w) (hb : Calm w w') : Boxes B1 B2 A n c p' o' f' m' w' :=
 ⟨(hb.block (Array.getElem?_eq_some_iff.1 h.1).1).trans h.1, (hb.block (Array.getElem?_eq_some_iff.1 h.2).1).trans h.2⟩
set_option maxHeartbeats 4000000 in
theorem search_any (B1 B2 : Nat) (A : Option Addr) (c : Nat) (l : List El) (p' o' f' m' : Int) (w : World) (hn : l.length ≤ 400) (hL : Lies w A l) (hS : l.Pairwise Fol) (hB : Boxes B1 B2 A l.length c p' o' f' m' w) :
    Calls Try.prog 102 #[.int .i64 l.length, .func (.func 110) #[] #[.pointer (some ⟨B1, 0, none⟩), .pointer (some ⟨B2, 0, none⟩)]] w fun e w' => e = .returned (.int .i64 (pos l (p', o', f') m')) ∧ Calm w w' := by
  have C : ∀ (u : World) (i : Nat) (r : Bool) (h : i < l.length), Calm w u → decide (sLt (p', o', f') m' l[i].key l[i].m) = r →
      Calls Try.prog 110 (#[.int .i64 i] ++ #[.pointer (some ⟨B1, 0, none⟩), .pointer (some ⟨B2, 0, none⟩)]) u fun e w' => e = .returned (.bool r) ∧ Calm u w' := fun u i r h hu hr => by
    rw [← hr]; exact after1_any B1 B2 A c l p' o' f' m' i u h (hL.calm hu) (hB.calm hu).1 (hB.calm hu).2
  have M : ∀ i j (hi : i < l.length) (hj : j < l.length), i ≤ j → sLt (p', o', f') m' l[i].key l[i].m → sLt (p', o', f') m' l[j].key l[j].m := fun i j hi hj hij h => by
    rcases Nat.lt_or_eq_of_le hij with h1 | h1
    · exact sLt_trans h (List.pairwise_iff_getElem.1 hS i j hi hj h1).1
    · subst h1; exact h
  clear hL hB hS
  go_enter Try.func102, Try.ntmps102
  go_wp2_with fail
  go_loopg [5, 6] l.length (fun kx s5 s6 wr => ∃ lo hi : Nat, s5 = .int .i64 lo ∧ s6 = .int .i64 hi ∧ lo ≤ hi ∧ hi ≤ l.length ∧ hi - lo ≤ kx ∧ Calm w wr ∧
    Hid ((∀ t (h : t < l.length), t < lo → ¬ sLt (p', o', f') m' l[t].key l[t].m) ∧ (∀ t (h : t < l.length), hi ≤ t → sLt (p', o', f') m' l[t].key l[t].m)))
  case atStart => exact ⟨0, l.length, rfl, rfl, Nat.zero_le _, Nat.le_refl _, by omega, Calm.refl _, show _ ∧ _ from ⟨fun t h ht => absurd ht (Nat.not_lt_zero _), fun t h1 h2 => by omega⟩⟩
  case round =>
    obtain ⟨lo, hi, rfl, rfl, hlh, hin, hg, hu, I⟩ := hrel
    by_cases hlt : lo < hi
    · have hmid : (lo + hi) / 2 < l.length := by omega
      cases hp : decide (sLt (p', o', f') m' l[(lo + hi) / 2].key l[(lo + hi) / 2].m)
      · have hc := C wr ((lo + hi) / 2) false hmid hu hp
        rw [show (((lo + hi) / 2 : Nat) : Int) = ((lo : Int) + (hi : Int)) / 2 by omega] at hc
        have I2 : Hid ((∀ t (h : t < l.length), t < (lo + hi) / 2 + 1 → ¬ sLt (p', o', f') m' l[t].key l[t].m) ∧ (∀ t (h : t < l.length), hi ≤ t → sLt (p', o', f') m' l[t].key l[t].m)) := show _ ∧ _ from
          ⟨fun t h ht h2 => absurd (M t _ h hmid (by omega) h2) (of_decide_eq_false hp), I.out.2⟩
        clear hp C
        go_wp2_with (go_at_call 110; refine hc.mono ?_; rintro e w1 ⟨rfl, hb1⟩)
        go_roundg (hi - ((lo + hi) / 2 + 1))
        case measure => omega
        case rel => exact ⟨(lo + hi) / 2 + 1, hi, by rw [show ((lo : Int) + (hi : Int)) / 2 + 1 = (((lo + hi) / 2 + 1 : Nat) : Int) by omega], rfl, by omega, hin, Nat.le_refl _, hu.call hb1, I2⟩
      · have hc := C wr ((lo + hi) / 2) true hmid hu hp
        rw [show (((lo + hi) / 2 : Nat) : Int) = ((lo : Int) + (hi : Int)) / 2 by omega] at hc
        have I2 : Hid ((∀ t (h : t < l.length), t < lo → ¬ sLt (p', o', f') m' l[t].key l[t].m) ∧ (∀ t (h : t < l.length), (lo + hi) / 2 ≤ t → sLt (p', o', f') m' l[t].key l[t].m)) := show _ ∧ _ from
          ⟨I.out.1, fun t h ht => M _ t hmid h ht (of_decide_eq_true hp)⟩
        clear hp C
        go_wp2_with (go_at_call 110; refine hc.mono ?_; rintro e w1 ⟨rfl, hb1⟩)
        go_roundg ((lo + hi) / 2 - lo)
        case measure => omega
        case rel => exact ⟨lo, (lo + hi) / 2, rfl, by rw [show ((lo : Int) + (hi : Int)) / 2 = (((lo + hi) / 2 : Nat) : Int) by omega], by omega, by omega, Nat.le_refl _, hu.call hb1, I2⟩
    · obtain rfl : hi = lo := by omega
      have K : Hid (pos l (p', o', f') m' = hi) := pos_part hin (fun i h hi' => I.out.1 i h hi') (fun i h hi' => I.out.2 i h hi')
      clear C
      go_wp2_with fail
      go_ret
      exact ⟨by rw [K.out]; rfl, hu⟩
open Go.RowKit
theorem equal_self (A A' : Option Addr) (c c' : Nat) (l : List El) (w : World) (hn : l.length ≤ 9223372036854775807) (hL : Lies w A l) (hL' : Lies w A' l) :
    Calls Try.prog 24 #[.slice A l.length c, .slice A' l.length c'] w fun e w' => e = .returned (.bool true) ∧ Calm w w' := by
  have h := equal_any A A' c c' l l w hn hn hL hL'
  rw [decide_eq_true (rfl : l = l)] at h
  exact h
open Go.RowKit
def Keeps (base : Nat) (w w' : World) : Prop := ∀ w0 : World, w0.heap.size ≤ base → Calm w0 w → Calm w0 w'
def OwnEnd (base : Nat) (l : List El) (w : World) (e : Ending) (w' : World) : Prop := ∃ v, e = .returned v ∧ OwnR base w' v l ∧ Keeps base w w'
theorem infoElem6s : (Try.prog.info? 50).map (·.size) = some 6 := by kernel_rfl
/-- copy(d, s) of records, into a row. -/
theorem run_copy_el (w : World) (ty : TypeId) (g o dLen dCap : Nat) (a : Addr) (sLen sCap : Nat) (cur : List Value) (t : TypeId) (cs : List Value)
    (hg : w.heap[g]? = some (.cells cur.toArray t (0, 0))) (hn : cs.length = Nat.min sLen dLen * 6)
    (hsrc : ∀ j v, cs[j]? = some v → w.cell? (a.add j) = some v) (hfit : o + cs.length ≤ cur.length) (h1 : ∀ v ∈ cs, v.oneCell' = true) :
    (Builtin.copy_ #[22, 22] ty #[.slice (some ⟨g, o, none⟩) dLen dCap, .slice (some a) sLen sCap]).run Try.prog w =
      .ok (goInt (Nat.min sLen dLen)) (w.setRow g (spl cur o cs).toArray) := by
  have hl := run_loadCells_list (P := Try.prog) w a cs hsrc
  have hst := run_storeCells_at Try.prog g o t cs 0 cur.toArray w hg (by simpa using hfit) h1
  have hs := infoElem6s
  cases hq : Try.prog.info? 50 with
  | none => simp [hq] at hs
  | some i =>
    have hi : i.size = 6 := by simpa [hq] using hs
    simp [Builtin.copy_, run_underlying Try.underlying22, Builtin.lenOf, Builtin.firstCells, sizeOf, typeInfo, hq, hi, ← hn, hl, hst, spl]
/-- A copy whose run is known, as an operation of a plain region and of one that draws. -/
theorem wpList_copy_known {P : Program} {w : World} {ops : Array Oper} {rest : List Oper} {o : Oper} {a : Act} {Q : Exit → Act → World → Prop} (hgd : o.guard = none) (d s : Operand) (t : TypeId)
    (ho : o.op = .call { callee := .builtin .copy, args := #[d, s], argTypes := #[t, t] }) (v u : Value) (hd : a.eval d = v) (hs : a.eval s = u) {v' : Value} {w' : World}
    (hr : (Builtin.copy_ #[t, t] o.type #[v, u]).run P w = .ok v' w') (h : wpList P ops Q rest (a.put o.dst v') w') : wpList P ops Q (o :: rest) a w :=
  wpList_plain hgd fun _ hK => by
    unfold Oper.wp execOp
    simp only [ho, resolve, invoke, builtin, Sem.run_bind, Sem.run_pure, Result.andThen_ok, List.map_toArray, List.map_cons, List.map_nil, hd, hs, hr]
    exact hK _ _ h
theorem step_copy_known {P : Program} {ops : Array Oper} {o : Oper} {a : Act} {w : World} {K : Act → World → Prop} {Q : Exit → Act → World → Prop} {E : Prop}
    (hg : o.guard = none) (d x : Operand) (t : TypeId) (hop : o.op = Op.call { callee := Callee.builtin Builtin.copy, args := #[d, x], argTypes := #[t, t] })
    (v u : Value) (hd : a.eval d = v) (hx : a.eval x = u) {v' : Value} {w' : World} (hr : (Builtin.copy_ #[t, t] o.type #[v, u]).run P w = .ok v' w') (hK : K (a.put o.dst v') w') :
    if Region.wanted o (yielded ops a.tmps) = true then Oper.wp P o a w K Q else E := by
  have hw : Region.wanted o (yielded ops a.tmps) = true := by simp [Region.wanted, hg]
  rw [if_pos hw]
  unfold Oper.wp
  simp only [execOp, hop, resolve, invoke, builtin, Sem.run_bind, Sem.run_pure, Result.andThen_ok, List.map_toArray, List.map_cons, List.map_nil, hd, hx, hr]
  exact hK
theorem insAt_len {l : List El} {i : Nat} (e : El) (hi : i ≤ l.length) : (insAt l i e).length = l.length + 1 := by
 unfold insAt; rw [List.length_append, List.length_cons, List.length_take, List.length_drop]; omega
theorem cellsOf_drop {l : List El} {i : Nat} (hi : i ≤ l.length) : (cellsOf l).drop (i * 6) = cellsOf (l.drop i) := by
 have h := cellsOf_app (l.take i) (l.drop i)
 rw [List.take_append_drop] at h
 rw [h]
 exact List.drop_left' (by rw [cellsOf_len, List.length_take]; congr 1; omega)
theorem cellsOf_ins (l : List El) (i : Nat) (e : El) : cellsOf (insAt l i e) = cellsOf (l.take i) ++ e.cells ++ cellsOf (l.drop i) := by
 unfold insAt; rw [cellsOf_app, List.append_assoc]; rfl
theorem spl_mid (a x c y : List Value) (h : x.length = y.length) (o : Nat) (ho : o = a.length) : spl (a ++ x ++ c) o y = a ++ y ++ c := by
 subst ho
 have e1 : (a ++ x ++ c).take a.length = a := by rw [List.append_assoc]; exact List.take_left' rfl
 have e2 : (a ++ x ++ c).drop (a.length + y.length) = c := List.drop_left' (by rw [List.length_append, h])
 unfold spl
 rw [e1, e2]
theorem parts {cur : List Value} {l : List El} {i : Nat} (hc : cur.take (l.length * 6) = cellsOf l) (hs : (l.length + 1) * 6 ≤ cur.length) :
    ∃ d r, cur = cellsOf (l.take i) ++ cellsOf (l.drop i) ++ d ++ r ∧ d.length = 6 ∧ r = cur.drop ((l.length + 1) * 6) := by
  refine ⟨(cur.drop (l.length * 6)).take 6, cur.drop ((l.length + 1) * 6), ?_, ?_, rfl⟩
  · rw [← cellsOf_app, List.take_append_drop, ← hc, List.append_assoc]
    have h1 : (cur.drop (l.length * 6)).drop 6 = cur.drop ((l.length + 1) * 6) := by rw [List.drop_drop]; congr 1; omega
    rw [← h1, List.take_append_drop, List.take_append_drop]
  · rw [List.length_take, List.length_drop]; omega
theorem row_shift {cur : List Value} {l : List El} {i : Nat} (e : El) (hi : i ≤ l.length) (hc : cur.take (l.length * 6) = cellsOf l) (hs : (l.length + 1) * 6 ≤ cur.length) :
    spl (spl cur ((i + 1) * 6) (cellsOf (l.drop i))) (i * 6) e.cells = cellsOf (insAt l i e) ++ cur.drop ((l.length + 1) * 6) := by
  obtain ⟨d, r, hcur, hd, hr⟩ := parts (i := i) hc hs
  have hl1 : (cellsOf (l.take i)).length = i * 6 := by rw [cellsOf_len, List.length_take]; congr 1; omega
  have hl2 : (cellsOf (l.drop i)).length = (l.length - i) * 6 := by rw [cellsOf_len, List.length_drop]
  rw [← hr]
  obtain ⟨x, y, hxy, hx⟩ : ∃ x y, cellsOf (l.drop i) ++ d = x ++ y ∧ x.length = 6 := ⟨(cellsOf (l.drop i) ++ d).take 6, (cellsOf (l.drop i) ++ d).drop 6, (List.take_append_drop _ _).symm, by rw [List.length_take, List.length_append]; omega⟩
  have hy : y.length = (cellsOf (l.drop i)).length := by
    have := congrArg List.length hxy
    rw [List.length_append, List.length_append] at this; omega
  have h1 : cur = (cellsOf (l.take i) ++ x) ++ y ++ r := by
    rw [hcur, List.append_assoc (cellsOf (l.take i)), hxy]; simp
  have h2 : spl cur ((i + 1) * 6) (cellsOf (l.drop i)) = (cellsOf (l.take i) ++ x) ++ cellsOf (l.drop i) ++ r := by
    rw [h1]
    exact spl_mid _ _ _ _ hy _ (by rw [List.length_append, hl1, hx]; omega)
  rw [h2, cellsOf_ins]
  have h3 := spl_mid (cellsOf (l.take i)) x (cellsOf (l.drop i) ++ r) e.cells (by rw [hx]; rfl) (i * 6) hl1.symm
  rw [show (cellsOf (l.take i) ++ x) ++ cellsOf (l.drop i) ++ r = cellsOf (l.take i) ++ x ++ (cellsOf (l.drop i) ++ r) by simp, h3]
  simp
theorem row_fresh {cur : List Value} {l : List El} {i : Nat} (e : El) (hi : i ≤ l.length) (hc : cur.take (i * 6) = cellsOf (l.take i)) (hs : (l.length + 1) * 6 ≤ cur.length) :
    spl (spl cur (i * 6) e.cells) ((i + 1) * 6) (cellsOf (l.drop i)) = cellsOf (insAt l i e) ++ cur.drop ((l.length + 1) * 6) := by
  have hl1 : (cellsOf (l.take i)).length = i * 6 := by rw [cellsOf_len, List.length_take]; congr 1; omega
  have hl2 : (cellsOf (l.drop i)).length = (l.length - i) * 6 := by rw [cellsOf_len, List.length_drop]
  obtain ⟨x, y, hxy, hx, hy⟩ : ∃ x y, cur = cellsOf (l.take i) ++ x ++ y ++ cur.drop ((l.length + 1) * 6) ∧ x.length = 6 ∧ y.length = (cellsOf (l.drop i)).length := by
    refine ⟨(cur.drop (i * 6)).take 6, ((cur.drop (i * 6)).drop 6).take ((l.length - i) * 6), ?_, ?_, ?_⟩
    · rw [← hc]
      have h1 : cur.drop ((l.length + 1) * 6) = ((cur.drop (i * 6)).drop 6).drop ((l.length - i) * 6) := by rw [List.drop_drop, List.drop_drop]; congr 1; omega
      rw [h1, List.append_assoc, List.take_append_drop, List.append_assoc, List.take_append_drop, List.take_append_drop]
    · rw [List.length_take, List.length_drop]; omega
    · rw [List.length_take, List.length_drop, List.length_drop, hl2]; omega
  generalize cur.drop ((l.length + 1) * 6) = r at hxy ⊢
  rw [hxy, cellsOf_ins]
  have h2 := spl_mid (cellsOf (l.take i)) x (y ++ r) e.cells (by rw [hx]; rfl) (i * 6) hl1.symm
  rw [show cellsOf (l.take i) ++ x ++ y ++ r = cellsOf (l.take i) ++ x ++ (y ++ r) by simp, h2]
  have h3 := spl_mid (cellsOf (l.take i) ++ e.cells) y r (cellsOf (l.drop i)) hy ((i + 1) * 6) (by rw [List.length_append, hl1]; show _ = _ + 6; omega)
  rw [show cellsOf (l.take i) ++ e.cells ++ (y ++ r) = cellsOf (l.take i) ++ e.cells ++ y ++ r by simp, h3]
open Go.ChangeShapes Go.WideShapes Go.ChangeAt Go.RowKit
theorem isRealm_any (p : Int) (w : World) : Calls Try.prog 68 #[.int .i64 p] w fun e w' => e = .returned (.bool (decide (0 ≤ p ∧ p ≤ 15))) ∧ Calm w w' := by
 by_cases h0 : 0 ≤ p <;> by_cases h1 : p ≤ 15
 all_goals
  go_enter Try.func68, Try.ntmps68
  go_wp2_with fail
  go_ret
  exact ⟨by simp [h0, h1], Calm.refl _⟩
noncomputable def roleErr (l : List El) (R F : List Int) (p r : Int) : Int := if bkErr l R F = 0 then (if 0 ≤ p ∧ p ≤ 15 then (if gI R p.toNat = r then 0 else 10) else 1) else bkErr l R F
set_option maxHeartbeats 4000000 in
theorem checkRole_any (A : Option Addr) (c : Nat) (l : List El) (R F : List Int) (p r : Int) (w : World) (hn : l.length ≤ 9223372036854775807) (hL : Lies w A l) (hR : R.length = 16) (hF : F.length = 16) :
    Calls Try.prog 74 #[.agg (bkC A l.length c R F).toArray, .int .i64 p, .int .i64 r] w fun e w' => e = .returned (.int .i64 (roleErr l R F p r)) ∧ Calm w w' := by
  have cC := fun u (hu : Calm w u) => realmCheck_any A c l R F u hn (hL.calm hu) hR hF
  have hx := heap_new w (.cells (bkC A l.length c R F).toArray 25)
  have hu := (Calm.refl w).alloc (.cells (bkC A l.length c R F).toArray 25)
  have hxl : w.heap.size < (w.alloc (.cells (bkC A l.length c R F).toArray 25)).heap.size := by simp
  have HX := Lib.hid hx
  have RR : ∀ u : World, u.heap[w.heap.size]? = some (.cells (bkC A l.length c R F).toArray 25 (0, 0)) → ∀ k, k < 16 → u.cell? ⟨w.heap.size, 1 + k, none⟩ = some (.int .i64 (gI R k)) := fun u h k hk => (cell_of_row _ _ (1 + k) _ _ _ h).trans (bk_role hR hk)
  have RRH := Lib.hid RR
  have hJ : Hid ((Try.prog.info? 25).map (·.size) = some (bkC A l.length c R F).length) := show _ = _ by rw [bkC_len hR hF]; exact infoBook
  clear hx RR
  generalize (bkC A l.length c R F) = CL at *
  unfold roleErr
  generalize bkErr l R F = E at cC ⊢
  by_cases hE : E = 0
  rotate_left
  · rw [if_neg hE]
    have b1 := ne_rl hE
    go_enter Try.func74, Try.ntmps74
    go_wp2_with (first
      | (refine wpList_load_mid rfl 25 (.tmp 3) rfl w.heap.size 0 rfl CL _ (range_all HX.out) Try.underlying25 rfl hJ.out ?_)
      | (go_at_call 23; refine (cC _ hu).mono ?_; rintro e w1 ⟨rfl, hb1⟩; replace hu := hu.call hb1))
    go_ret
    exact ⟨rfl, hu⟩
  rw [if_pos hE]
  subst hE
  by_cases hp : 0 ≤ p ∧ p ≤ 15
  rotate_left
  · rw [if_neg hp]
    have cI := fun u => isRealm_any p u
    rw [decide_eq_false hp] at cI
    go_enter Try.func74, Try.ntmps74
    go_wp2_with (first
      | (refine wpList_load_mid rfl 25 (.tmp 3) rfl w.heap.size 0 rfl CL _ (range_all HX.out) Try.underlying25 rfl hJ.out ?_)
      | (go_at_call 23; refine (cC _ hu).mono ?_; rintro e w1 ⟨rfl, hb1⟩; replace hu := hu.call hb1)
      | (go_at_call 68; refine (cI _).mono ?_; rintro e w2 ⟨rfl, hb2⟩; replace hu := hu.call hb2))
    go_ret
    exact ⟨rfl, hu⟩
  rw [if_pos hp]
  have cI := fun u => isRealm_any p u
  rw [decide_eq_true hp] at cI
  obtain ⟨k, rfl⟩ : ∃ k : Nat, p = k := ⟨p.toNat, by omega⟩
  have hk : k < 16 := by omega
  have hki : (k : Int) < 16 := by omega
  rw [Int.toNat_natCast]
  by_cases hr : gI R k = r
  · rw [if_pos hr]
    subst hr
    go_enter Try.func74, Try.ntmps74
    go_wp2_with (first
      | (refine wpList_load_mid rfl 25 (.tmp 3) rfl w.heap.size 0 rfl CL _ (range_all HX.out) Try.underlying25 rfl hJ.out ?_)
      | (go_at_call 23; refine (cC _ hu).mono ?_; rintro e w1 ⟨rfl, hb1⟩; replace HX := Lib.hid ((hb1.block hxl).trans HX.out); replace hxl := Nat.lt_of_lt_of_le hxl hb1.size; replace hu := hu.call hb1)
      | (go_at_call 68; refine (cI _).mono ?_; rintro e w2 ⟨rfl, hb2⟩; replace HX := Lib.hid ((hb2.block hxl).trans HX.out); have c1 := RRH.out _ HX.out k hk; replace hu := hu.call hb2))
    go_ret
    exact ⟨rfl, hu⟩
  · rw [if_neg hr]
    have b1 := ne_rl (show gI R k - r ≠ 0 by omega)
    have b2 : (gI R k != r) = true := by simpa using hr
    clear b1
    go_enter Try.func74, Try.ntmps74
    go_wp2_with (first
      | (refine wpList_load_mid rfl 25 (.tmp 3) rfl w.heap.size 0 rfl CL _ (range_all HX.out) Try.underlying25 rfl hJ.out ?_)
      | (go_at_call 23; refine (cC _ hu).mono ?_; rintro e w1 ⟨rfl, hb1⟩; replace HX := Lib.hid ((hb1.block hxl).trans HX.out); replace hxl := Nat.lt_of_lt_of_le hxl hb1.size; replace hu := hu.call hb1)
      | (go_at_call 68; refine (cI _).mono ?_; rintro e w2 ⟨rfl, hb2⟩; replace HX := Lib.hid ((hb2.block hxl).trans HX.out); have c1 := RRH.out _ HX.out k hk; replace hu := hu.call hb2))
    go_ret
    exact ⟨rfl, hu⟩
open Go.ChangeShapes Go.WideShapes Go.ChangeAt Go.RowKit
theorem results_bk {fn : Func} {p : Tmp} (h : fn.results = #[.cell p 25]) (tmps : Array Value) (w : World) (g : Nat) (t : TypeId) (cs : Array Value) (fr : Nat × Nat)
    (hp : tmps.getD p undef = .pointer (some ⟨g, 0, none⟩)) (hg : w.heap[g]? = some (.cells cs t fr)) (hsz : cs.size = 33) :
    (results fn tmps).run Try.prog w = .ok (.agg cs) w := by
  have hp' : tmps[p]?.getD undef = .pointer (some ⟨g, 0, none⟩) := by simpa using hp
  have hi : (Try.prog.info? 25).map (·.size) = some cs.size := by rw [hsz]; kernel_rfl
  simp [results, h, hp', asAddr, run_loadVar_row w g t 25 cs fr _ hg Try.underlying25 rfl hi]
theorem end_bk {P : Program} {fn : Func} {p : Tmp} {Q : Ending → World → Prop} (hP : P = Try.prog) (h : fn.results = #[.cell p 25]) (a : Act) (w : World) (g : Nat) (t : TypeId) (cs : Array Value) (fr : Nat × Nat) (hd : a.defers = [])
    (hp : a.tmps.getD p undef = .pointer (some ⟨g, 0, none⟩)) (hg : w.heap[g]? = some (.cells cs t fr)) (hsz : cs.size = 33) (hQ : Q (.returned (.agg cs)) w) : bodyPost P fn Q .ret a w := by
  subst hP
  exact bodyPost_ret (v := .agg cs) (results_bk h a.tmps w g t cs fr hp hg hsz) hd hQ
theorem goodSub {l l' : List El} (h : Good l) (hs : l'.Sublist l) : Good l' :=
 ⟨Nat.le_trans hs.length_le h.1, fun e he => h.2.1 e (hs.subset he), h.2.2.sublist hs⟩
open Go.ChangeShapes Go.WideShapes Go.ChangeAt Go.RowKit
def posP (l : List El) (p : Int) : Nat := (l.filter fun e => decide (e.p < p)).length
theorem posP_part {l : List El} {p : Int} {h : Nat} (hn : h ≤ l.length) (h1 : ∀ i (hi : i < l.length), i < h → l[i].p < p) (h2 : ∀ i (hi : i < l.length), h ≤ i → ¬ l[i].p < p) : posP l p = h := by
 unfold posP
 have e1 : (l.take h).filter (fun e => decide (e.p < p)) = l.take h := List.filter_eq_self.2 fun e he => by
  obtain ⟨i, hi, rfl⟩ := List.getElem_of_mem he
  rw [List.length_take] at hi
  rw [List.getElem_take]
  exact decide_eq_true (h1 i (by omega) (by omega))
 have e2 : (l.drop h).filter (fun e => decide (e.p < p)) = [] := List.filter_eq_nil_iff.2 fun e he => by
  obtain ⟨i, hi, rfl⟩ := List.getElem_of_mem he
  rw [List.length_drop] at hi
  rw [List.getElem_drop, decide_eq_true_eq]
  exact h2 (h + i) (by omega) (by omega)
 rw [← List.take_append_drop h l, List.filter_append, e1, e2, List.append_nil, List.length_take]
 omega
theorem Fol.p_le {a b : El} (h : Fol a b) : a.p ≤ b.p := by
 have h1 := h.1
 rcases Int.lt_or_le b.p a.p with h2 | h2
 ·exfalso
  unfold sLt kLt at h1
  simp only [El.key, Prod.mk.injEq] at h1
  omega
 ·exact h2
def RiseP (l : List El) : Prop := l.Pairwise fun a b => a.p ≤ b.p
theorem riseP {l : List El} (h : l.Pairwise Fol) : RiseP l := h.imp fun h => h.p_le
theorem rise_split {p : Int} : ∀ {l : List El}, RiseP l → l.take (posP l p) = l.filter (fun e => decide (e.p < p)) ∧ l.drop (posP l p) = l.filter (fun e => !decide (e.p < p))
 | [], _ => ⟨rfl, rfl⟩
 |e :: l, h => by
  have h1 := List.pairwise_cons.1 h
  have ih := rise_split (p := p) h1.2
  by_cases he : e.p < p
  ·have e1 : posP (e :: l) p = posP l p + 1 := by unfold posP; rw [List.filter_cons_of_pos (by simpa using he)]; rfl
   rw [e1, List.take_succ_cons, List.drop_succ_cons, List.filter_cons_of_pos (by simpa using he), List.filter_cons_of_neg (by simpa using he), ih.1, ih.2]
   exact ⟨rfl, rfl⟩
  ·have hn : ∀ x ∈ l, ¬ x.p < p := fun x hx => by have := h1.1 x hx; omega
   have e2 : l.filter (fun e => decide (e.p < p)) = [] := List.filter_eq_nil_iff.2 fun x hx => by simpa using hn x hx
   have e1 : posP (e :: l) p = 0 := by unfold posP; rw [List.filter_cons_of_neg (by simpa using he), e2]; rfl
   rw [e1, List.take_zero, List.drop_zero, List.filter_cons_of_neg (by simpa using he), e2, List.filter_eq_self.2 (fun x hx => by
    rcases List.mem_cons.1 hx with rfl | hx
    ·simpa using he
    ·simpa using hn x hx)]
   exact ⟨rfl, rfl⟩
def mineL (l : List El) (p : Int) : List El := l.filter fun e => decide (e.p = p)
def otherL (l : List El) (p : Int) : List El := l.filter fun e => !decide (e.p = p)
theorem posP_le (l : List El) (p : Int) : posP l p ≤ l.length := List.length_filter_le _ _
theorem posP_mono (l : List El) (p : Int) : posP l p ≤ posP l (p + 1) := by
 unfold posP
 refine List.Sublist.length_le ?_
 rw [show (l.filter fun e => decide (e.p < p)) = (l.filter fun e => decide (e.p < p + 1)).filter fun e => decide (e.p < p) from by
  rw [List.filter_filter]
  congr 1
  funext e
  by_cases h : e.p < p
  ·simp [h]; omega
  ·simp [h]]
 exact List.filter_sublist
theorem RiseP.drop {l : List El} (h : RiseP l) (n : Nat) : RiseP (l.drop n) := List.Pairwise.sublist (List.drop_sublist _ _) h
theorem posP_drop {l : List El} (h : RiseP l) (p : Int) : posP l (p + 1) = posP l p + posP (l.drop (posP l p)) (p + 1) := by
 have h1 := rise_split (p := p) h
 conv => lhs; rw [← List.take_append_drop (posP l p) l]
 unfold posP at *
 rw [List.filter_append, List.length_append]
 congr 1
 rw [h1.1, List.filter_filter]
 congr 2
 funext e
 by_cases h : e.p < p
 ·simp [h]; omega
 ·simp [h]
theorem mine_part {l : List El} (h : RiseP l) (p : Int) : (l.drop (posP l p)).take (posP l (p + 1) - posP l p) = mineL l p := by
 have h1 := rise_split (p := p) h
 have h2 := rise_split (p := p + 1) (h.drop (posP l p))
 rw [posP_drop h, Nat.add_sub_cancel_left, h2.1, h1.2, List.filter_filter]
 unfold mineL
 congr 1
 funext e
 by_cases ha : e.p < p <;> by_cases hb : e.p < p + 1 <;> by_cases hc : e.p = p <;> simp [ha, hb, hc] <;> omega
theorem other_part {l : List El} (h : RiseP l) (p : Int) : l.take (posP l p) ++ l.drop (posP l (p + 1)) = otherL l p := by
 have h1 := rise_split (p := p) h
 have h2 := rise_split (p := p + 1) h
 unfold otherL
 conv => rhs; rw [← List.take_append_drop (posP l p) l, ← List.take_append_drop (posP l (p + 1) - posP l p) (l.drop (posP l p)), mine_part h, List.drop_drop, show posP l p + (posP l (p + 1) - posP l p) = posP l (p + 1) by have := posP_mono l p; omega]
 rw [List.filter_append, List.filter_append]
 have e1 : (l.take (posP l p)).filter (fun e => !decide (e.p = p)) = l.take (posP l p) := List.filter_eq_self.2 fun e he => by
  rw [h1.1] at he
  have := (List.mem_filter.1 he).2
  simp at this ⊢; omega
 have e2 : (mineL l p).filter (fun e => !decide (e.p = p)) = [] := List.filter_eq_nil_iff.2 fun e he => by
  have := (List.mem_filter.1 he).2
  simpa using this
 have e3 : (l.drop (posP l (p + 1))).filter (fun e => !decide (e.p = p)) = l.drop (posP l (p + 1)) := List.filter_eq_self.2 fun e he => by
  rw [h2.2] at he
  have := (List.mem_filter.1 he).2
  simp at this ⊢; omega
 rw [e1, e2, e3, List.nil_append]
set_option maxHeartbeats 4000000 in
theorem first1_any (B1 B2 : Nat) (A : Option Addr) (c : Nat) (l : List El) (p' : Int) (i : Nat) (w : World) (hi : i < l.length) (hL : Lies w A l)
    (hx : w.heap[B1]? = some (.cells #[.slice A l.length c] 22 (0, 0))) (hy : w.heap[B2]? = some (.cells #[.int .i64 p'] 3 (0, 0))) :
    Calls Try.prog 103 #[.int .i64 i, .pointer (some ⟨B1, 0, none⟩), .pointer (some ⟨B2, 0, none⟩)] w fun e w' => e = .returned (.bool (decide (p' ≤ l[i].p))) ∧ Calm w w' := by
  obtain ⟨b, q, p, o, f, m, g, s, rfl, hb, HE, hm, c0, c1, c2, c3, c4, c5⟩ := hL.get hi
  have hK : Hid (decide (p' ≤ p) = decide (p' ≤ l[i].p)) := by
    rw [(List.getElem?_eq_some_iff.1 HE.out).2]; rfl
  generalize decide (p' ≤ l[i].p) = r at hK ⊢
  clear hL HE
  have x0 := cell_of_row _ _ 0 _ _ _ hx
  simp only [List.getElem?_toArray, List.getElem?_cons_zero] at x0
  have hxs := (Array.getElem?_eq_some_iff.1 hx).1
  have y0 := cell_of_row _ _ 0 _ _ _ hy
  simp only [List.getElem?_toArray, List.getElem?_cons_zero] at y0
  have hys := (Array.getElem?_eq_some_iff.1 hy).1
  have hiz : (i : Int) < (l.length : Int) := by omega
  generalize l.length = n at *
  clear hx hy
  go_enter Try.func103, Try.ntmps103
  go_wp2_with fail
  refine wp_region_plan [.val (.slice (some ⟨b, q, none⟩) n c), .val (.int .i64 (i)), .val (.pointer (some ⟨b, q + i * 6, none⟩)), .val (.pointer (some ⟨b, q + i * 6, none⟩)), .val (.pointer (some ⟨b, q + i * 6, none⟩)), .val (.int .i64 (p)), .val (.int .i64 (p')), .val (.bool (decide (p' ≤ p))), .val (.bool (decide (p' ≤ p)))] (by kernel_rfl) (by kernel_rfl) (by kernel_rfl) ?_
  intro X
  iterate 9
    refine plan_val (by kernel_rfl) (fun u hu => ?_) ?_
    · obtain ⟨hc, hf, hz⟩ := hu.of_drew.facts
      go_simp
      all_goals first
        | (fail)
    simp only [Act.put, List.setIfInBounds_toArray, List.set_cons_zero, List.set_cons_succ, Nat.reduceAdd]
  refine plan_end ?_
  intro w' hB
  have hk := hB.calm.of_drew
  clear hB
  go_wp2_with fail
  go_ret
  exact ⟨ret_bool hK.out, hk⟩
def BoxesP (B1 B2 : Nat) (A : Option Addr) (n c : Nat) (p' : Int) (w : World) : Prop :=
 w.heap[B1]? = some (.cells #[.slice A n c] 22 (0, 0)) ∧ w.heap[B2]? = some (.cells #[.int .i64 p'] 3 (0, 0))
theorem BoxesP.calm {B1 B2 : Nat} {A : Option Addr} {n c : Nat} {p' : Int} {w w' : World} (h : BoxesP B1 B2 A n c p' w) (hb : Calm w w') : BoxesP B1 B2 A n c p' w' :=
 ⟨(hb.block (Array.getElem?_eq_some_iff.1 h.1).1).trans h.1, (hb.block (Array.getElem?_eq_some_iff.1 h.2).1).trans h.2⟩
set_option maxHeartbeats 4000000 in
theorem searchP_any (B1 B2 : Nat) (A : Option Addr) (c : Nat) (l : List El) (p' : Int) (w : World) (hn : l.length ≤ 400) (hL : Lies w A l) (hS : RiseP l) (hB : BoxesP B1 B2 A l.length c p' w) :
    Calls Try.prog 102 #[.int .i64 l.length, .func (.func 103) #[] #[.pointer (some ⟨B1, 0, none⟩), .pointer (some ⟨B2, 0, none⟩)]] w fun e w' => e = .returned (.int .i64 (posP l p')) ∧ Calm w w' := by
  have C : ∀ (u : World) (i : Nat) (r : Bool) (h : i < l.length), Calm w u → decide (p' ≤ l[i].p) = r →
      Calls Try.prog 103 (#[.int .i64 i] ++ #[.pointer (some ⟨B1, 0, none⟩), .pointer (some ⟨B2, 0, none⟩)]) u fun e w' => e = .returned (.bool r) ∧ Calm u w' := fun u i r h hu hr => by
    rw [← hr]; exact first1_any B1 B2 A c l p' i u h (hL.calm hu) (hB.calm hu).1 (hB.calm hu).2
  have M : ∀ i j (hi : i < l.length) (hj : j < l.length), i ≤ j → p' ≤ l[i].p → p' ≤ l[j].p := fun i j hi hj hij h => by
    rcases Nat.lt_or_eq_of_le hij with h1 | h1
    · have := List.pairwise_iff_getElem.1 hS i j hi hj h1; omega
    · subst h1; exact h
  clear hL hB hS
  go_enter Try.func102, Try.ntmps102
  go_wp2_with fail
  go_loopg [5, 6] l.length (fun kx s5 s6 wr => ∃ lo hi : Nat, s5 = .int .i64 lo ∧ s6 = .int .i64 hi ∧ lo ≤ hi ∧ hi ≤ l.length ∧ hi - lo ≤ kx ∧ Calm w wr ∧
    Hid ((∀ t (h : t < l.length), t < lo → ¬ p' ≤ l[t].p) ∧ (∀ t (h : t < l.length), hi ≤ t → p' ≤ l[t].p)))
  case atStart => exact ⟨0, l.length, rfl, rfl, Nat.zero_le _, Nat.le_refl _, by omega, Calm.refl _, show _ ∧ _ from ⟨fun t h ht => absurd ht (Nat.not_lt_zero _), fun t h1 h2 => by omega⟩⟩
  case round =>
    obtain ⟨lo, hi, rfl, rfl, hlh, hin, hg, hu, I⟩ := hrel
    by_cases hlt : lo < hi
    · have hmid : (lo + hi) / 2 < l.length := by omega
      cases hp : decide (p' ≤ l[(lo + hi) / 2].p)
      · have hc := C wr ((lo + hi) / 2) false hmid hu hp
        rw [show (((lo + hi) / 2 : Nat) : Int) = ((lo : Int) + (hi : Int)) / 2 by omega] at hc
        have I2 : Hid ((∀ t (h : t < l.length), t < (lo + hi) / 2 + 1 → ¬ p' ≤ l[t].p) ∧ (∀ t (h : t < l.length), hi ≤ t → p' ≤ l[t].p)) := show _ ∧ _ from
          ⟨fun t h ht h2 => absurd (M t _ h hmid (by omega) h2) (of_decide_eq_false hp), I.out.2⟩
        clear hp C
        go_wp2_with (go_at_call 103; refine hc.mono ?_; rintro e w1 ⟨rfl, hb1⟩)
        go_roundg (hi - ((lo + hi) / 2 + 1))
        case measure => omega
        case rel => exact ⟨(lo + hi) / 2 + 1, hi, by rw [show ((lo : Int) + (hi : Int)) / 2 + 1 = (((lo + hi) / 2 + 1 : Nat) : Int) by omega], rfl, by omega, hin, Nat.le_refl _, hu.call hb1, I2⟩
      · have hc := C wr ((lo + hi) / 2) true hmid hu hp
        rw [show (((lo + hi) / 2 : Nat) : Int) = ((lo : Int) + (hi : Int)) / 2 by omega] at hc
        have I2 : Hid ((∀ t (h : t < l.length), t < lo → ¬ p' ≤ l[t].p) ∧ (∀ t (h : t < l.length), (lo + hi) / 2 ≤ t → p' ≤ l[t].p)) := show _ ∧ _ from
          ⟨I.out.1, fun t h ht => M _ t hmid h ht (of_decide_eq_true hp)⟩
        clear hp C
        go_wp2_with (go_at_call 103; refine hc.mono ?_; rintro e w1 ⟨rfl, hb1⟩)
        go_roundg ((lo + hi) / 2 - lo)
        case measure => omega
        case rel => exact ⟨lo, (lo + hi) / 2, rfl, by rw [show ((lo : Int) + (hi : Int)) / 2 = (((lo + hi) / 2 : Nat) : Int) by omega], by omega, by omega, Nat.le_refl _, hu.call hb1, I2⟩
    · obtain rfl : hi = lo := by omega
      have K : Hid (posP l p' = hi) := posP_part hin (fun i h hi' => by have := I.out.1 i h hi'; omega) (fun i h hi' => by have := I.out.2 i h hi'; omega)
      clear C
      go_wp2_with fail
      go_ret
      exact ⟨by rw [K.out]; rfl, hu⟩
set_option maxHeartbeats 4000000 in
theorem first_any (A : Option Addr) (c : Nat) (l : List El) (p' : Int) (w : World) (hn : l.length ≤ 400) (hL : Lies w A l) (hS : RiseP l) :
    Calls Try.prog 76 #[.slice A l.length c, .int .i64 p'] w fun e w' => e = .returned (.int .i64 (posP l p')) ∧ Calm w w' := by
  have hu := ((Calm.refl w).alloc (.cells #[.slice A l.length c] 22)).alloc (.cells #[.int .i64 p'] 3)
  have hb : BoxesP w.heap.size (w.heap.size + 1) A l.length c p' ((w.alloc (.cells #[.slice A l.length c] 22)).alloc (.cells #[.int .i64 p'] 3)) := ⟨heap_past _ (heap_new w _), two_new w _ _⟩
  have cS := searchP_any w.heap.size (w.heap.size + 1) A c l p' _ hn (hL.calm hu) hS hb
  clear hb
  go_enter Try.func76, Try.ntmps76
  go_wp2_with (go_at_call 102; refine cS.mono ?_; rintro e w1 ⟨rfl, hb1⟩)
  go_ret
  exact ⟨rfl, hu.call hb1⟩
open Go.ChangeShapes Go.WideShapes Go.ChangeAt Go.RowKit
theorem roleErr_zero {l : List El} {R F : List Int} {p r : Int} (h : roleErr l R F p r = 0) : bkErr l R F = 0 ∧ (0 ≤ p ∧ p ≤ 15) ∧ gI R p.toNat = r := by
 unfold roleErr at h
 by_cases h1 : bkErr l R F = 0
 ·rw [if_pos h1] at h
  by_cases h2 : 0 ≤ p ∧ p ≤ 15
  ·rw [if_pos h2] at h
   by_cases h3 : gI R p.toNat = r
   ·exact ⟨h1, h2, h3⟩
   ·rw [if_neg h3] at h; exact absurd h (by decide)
  ·rw [if_neg h2] at h; exact absurd h (by decide)
 ·rw [if_neg h1] at h; exact absurd h h1
theorem lies_sub {w : World} {b q : Nat} {l : List El} (h : Lies w (some ⟨b, q, none⟩) l) (x n : Nat) (hn : x + n ≤ l.length) : Lies w (some ⟨b, q + x * 6, none⟩) ((l.drop x).take n) := by
 have hlen : ((l.drop x).take n).length = n := by rw [List.length_take, List.length_drop]; omega
 refine ⟨fun e he => h.1 e (List.drop_subset _ _ (List.take_subset _ _ he)), fun hpos => ?_⟩
 rw [hlen] at hpos
 obtain ⟨b', q', hA, hlt, hk⟩ := h.2 (by omega)
 injection hA with hA
 injection hA with h1 h2
 subst h1; subst h2
 refine ⟨b, q + x * 6, rfl, hlt, fun k e he => ?_⟩
 have hkn : k < n := by have := (List.getElem?_eq_some_iff.1 he).1; omega
 rw [List.getElem?_take_of_lt hkn, List.getElem?_drop] at he
 have := hk _ _ he
 rw [show q + (x + k) * 6 = q + x * 6 + k * 6 by omega] at this
 exact this
open Go.ChangeShapes Go.WideShapes Go.ChangeAt Go.RowKit
theorem allocs4 (w : World) (o0 o1 o2 o3 : Obj) : Calm w ((((w.alloc o0).alloc o1).alloc o2).alloc o3) ∧ ((((w.alloc o0).alloc o1).alloc o2).alloc o3).heap.size = w.heap.size + 4 ∧ ((((w.alloc o0).alloc o1).alloc o2).alloc o3).heap[w.heap.size]? = some o0 ∧ ((((w.alloc o0).alloc o1).alloc o2).alloc o3).heap[w.heap.size + 1]? = some o1 ∧ ((((w.alloc o0).alloc o1).alloc o2).alloc o3).heap[w.heap.size + 2]? = some o2 ∧ ((((w.alloc o0).alloc o1).alloc o2).alloc o3).heap[w.heap.size + 3]? = some o3 := by
 have h0 := heap_past o3 (heap_past o2 (heap_past o1 (heap_new w o0)))
 have h1 := heap_past o3 (heap_past o2 (heap_new (w.alloc o0) o1))
 have h2 := heap_past o3 (heap_new ((w.alloc o0).alloc o1) o2)
 have h3 := heap_new (((w.alloc o0).alloc o1).alloc o2) o3
 refine ⟨(((((Calm.refl w).alloc o0).alloc o1).alloc o2).alloc o3), by simp, h0, by simpa using h1, by simpa using h2, by simpa using h3⟩
theorem allocs5 (w : World) (o0 o1 o2 o3 o4 : Obj) : Calm w (((((w.alloc o0).alloc o1).alloc o2).alloc o3).alloc o4) ∧ (((((w.alloc o0).alloc o1).alloc o2).alloc o3).alloc o4).heap.size = w.heap.size + 5 ∧ (((((w.alloc o0).alloc o1).alloc o2).alloc o3).alloc o4).heap[w.heap.size]? = some o0 ∧ (((((w.alloc o0).alloc o1).alloc o2).alloc o3).alloc o4).heap[w.heap.size + 1]? = some o1 ∧ (((((w.alloc o0).alloc o1).alloc o2).alloc o3).alloc o4).heap[w.heap.size + 2]? = some o2 ∧ (((((w.alloc o0).alloc o1).alloc o2).alloc o3).alloc o4).heap[w.heap.size + 3]? = some o3 ∧ (((((w.alloc o0).alloc o1).alloc o2).alloc o3).alloc o4).heap[w.heap.size + 4]? = some o4 := by
 obtain ⟨a, b, c, d, e, f⟩ := allocs4 w o0 o1 o2 o3
 have h4 := heap_new ((((w.alloc o0).alloc o1).alloc o2).alloc o3) o4
 rw [b] at h4
 exact ⟨a.alloc o4, by rw [World.size_alloc, b], heap_past o4 c, heap_past o4 d, heap_past o4 e, heap_past o4 f, h4⟩
set_option maxHeartbeats 4000000 in
theorem rlwrite_bad (A : Option Addr) (c : Nat) (l : List El) (R F : List Int) (p : Int) (fv : Value) (w : World) (hn : l.length ≤ 9223372036854775807) (hL : Lies w A l) (hR : R.length = 16) (hF : F.length = 16) (hE : roleErr l R F p 1 ≠ 0) :
    Calls Try.prog 42 #[.agg (bkC A l.length c R F).toArray, .int .i64 p, fv] w (BkEnd (roleErr l R F p 1) [] z16 z16 w) := by
  have cC := fun u (hu : Calm w u) => checkRole_any A c l R F p 1 u hn (hL.calm hu) hR hF
  have hx := heap_past (.cells #[.slice none 0 0, .int .i64 0, .int .i64 0, .int .i64 0, .int .i64 0, .int .i64 0, .int .i64 0, .int .i64 0, .int .i64 0, .int .i64 0, .int .i64 0, .int .i64 0, .int .i64 0, .int .i64 0, .int .i64 0, .int .i64 0, .int .i64 0, .int .i64 0, .int .i64 0, .int .i64 0, .int .i64 0, .int .i64 0, .int .i64 0, .int .i64 0, .int .i64 0, .int .i64 0, .int .i64 0, .int .i64 0, .int .i64 0, .int .i64 0, .int .i64 0, .int .i64 0, .int .i64 0] 25) (heap_new w (.cells (bkC A l.length c R F).toArray 25))
  have hz : ((w.alloc (.cells (bkC A l.length c R F).toArray 25)).alloc (.cells #[.slice none 0 0, .int .i64 0, .int .i64 0, .int .i64 0, .int .i64 0, .int .i64 0, .int .i64 0, .int .i64 0, .int .i64 0, .int .i64 0, .int .i64 0, .int .i64 0, .int .i64 0, .int .i64 0, .int .i64 0, .int .i64 0, .int .i64 0, .int .i64 0, .int .i64 0, .int .i64 0, .int .i64 0, .int .i64 0, .int .i64 0, .int .i64 0, .int .i64 0, .int .i64 0, .int .i64 0, .int .i64 0, .int .i64 0, .int .i64 0, .int .i64 0, .int .i64 0, .int .i64 0] 25)).heap[w.heap.size + 1]? = some (.cells #[.slice none 0 0, .int .i64 0, .int .i64 0, .int .i64 0, .int .i64 0, .int .i64 0, .int .i64 0, .int .i64 0, .int .i64 0, .int .i64 0, .int .i64 0, .int .i64 0, .int .i64 0, .int .i64 0, .int .i64 0, .int .i64 0, .int .i64 0, .int .i64 0, .int .i64 0, .int .i64 0, .int .i64 0, .int .i64 0, .int .i64 0, .int .i64 0, .int .i64 0, .int .i64 0, .int .i64 0, .int .i64 0, .int .i64 0, .int .i64 0, .int .i64 0, .int .i64 0, .int .i64 0] 25 (0, 0)) := two_new w _ _
  have hu := ((Calm.refl w).alloc (.cells (bkC A l.length c R F).toArray 25)).alloc (.cells #[.slice none 0 0, .int .i64 0, .int .i64 0, .int .i64 0, .int .i64 0, .int .i64 0, .int .i64 0, .int .i64 0, .int .i64 0, .int .i64 0, .int .i64 0, .int .i64 0, .int .i64 0, .int .i64 0, .int .i64 0, .int .i64 0, .int .i64 0, .int .i64 0, .int .i64 0, .int .i64 0, .int .i64 0, .int .i64 0, .int .i64 0, .int .i64 0, .int .i64 0, .int .i64 0, .int .i64 0, .int .i64 0, .int .i64 0, .int .i64 0, .int .i64 0, .int .i64 0, .int .i64 0] 25)
  have hsz : ((w.alloc (.cells (bkC A l.length c R F).toArray 25)).alloc (.cells #[.slice none 0 0, .int .i64 0, .int .i64 0, .int .i64 0, .int .i64 0, .int .i64 0, .int .i64 0, .int .i64 0, .int .i64 0, .int .i64 0, .int .i64 0, .int .i64 0, .int .i64 0, .int .i64 0, .int .i64 0, .int .i64 0, .int .i64 0, .int .i64 0, .int .i64 0, .int .i64 0, .int .i64 0, .int .i64 0, .int .i64 0, .int .i64 0, .int .i64 0, .int .i64 0, .int .i64 0, .int .i64 0, .int .i64 0, .int .i64 0, .int .i64 0, .int .i64 0, .int .i64 0] 25)).heap.size = w.heap.size + 2 := by simp
  have hJ : Hid ((Try.prog.info? 25).map (·.size) = some (bkC A l.length c R F).length) := show _ = _ by rw [bkC_len hR hF]; exact infoBook
  have hJ3 : Hid ((Try.prog.info? 25).map (·.size) = some 33) := show _ = _ from infoBook
  have b1 := ne_rl hE
  generalize roleErr l R F p 1 = E at cC b1 hE ⊢
  generalize (bkC A l.length c R F) = CL at *
  go_enter Try.func42, Try.ntmps42
  go_upto_region 1 with fail
  generalize ((w.alloc (.cells CL.toArray 25)).alloc (.cells #[.slice none 0 0, .int .i64 0, .int .i64 0, .int .i64 0, .int .i64 0, .int .i64 0, .int .i64 0, .int .i64 0, .int .i64 0, .int .i64 0, .int .i64 0, .int .i64 0, .int .i64 0, .int .i64 0, .int .i64 0, .int .i64 0, .int .i64 0, .int .i64 0, .int .i64 0, .int .i64 0, .int .i64 0, .int .i64 0, .int .i64 0, .int .i64 0, .int .i64 0, .int .i64 0, .int .i64 0, .int .i64 0, .int .i64 0, .int .i64 0, .int .i64 0, .int .i64 0, .int .i64 0] 25)) = w2 at hx hz hu hsz ⊢
  obtain ⟨ZC, hZC⟩ : ∃ z : Array Value, z = #[.slice none 0 0, .int .i64 0, .int .i64 0, .int .i64 0, .int .i64 0, .int .i64 0, .int .i64 0, .int .i64 0, .int .i64 0, .int .i64 0, .int .i64 0, .int .i64 0, .int .i64 0, .int .i64 0, .int .i64 0, .int .i64 0, .int .i64 0, .int .i64 0, .int .i64 0, .int .i64 0, .int .i64 0, .int .i64 0, .int .i64 0, .int .i64 0, .int .i64 0, .int .i64 0, .int .i64 0, .int .i64 0, .int .i64 0, .int .i64 0, .int .i64 0, .int .i64 0, .int .i64 0] := ⟨_, rfl⟩
  rw [← hZC] at hz
  have hIZ : IsZk ZC := hZC
  clear hZC
  have HX := Lib.hid hx
  have HZ := Lib.hid hz
  have hxl : w.heap.size < w2.heap.size := by omega
  have hzl : w.heap.size + 1 < w2.heap.size := by omega
  clear hx hz
  go_upto_region 3 with (first
    | (refine wpList_load_mid rfl 25 (.tmp 3) rfl w.heap.size 0 rfl CL _ (range_all HX.out) Try.underlying25 rfl hJ.out ?_)
    | (go_at_call 74; refine (cC _ hu).mono ?_; rintro e w3 ⟨rfl, hb1⟩; replace HX := Lib.hid ((hb1.block hxl).trans HX.out); replace HZ := Lib.hid ((hb1.block hzl).trans HZ.out); replace hxl := Nat.lt_of_lt_of_le hxl hb1.size; replace hzl := Nat.lt_of_lt_of_le hzl hb1.size; replace hu := hu.call hb1; clear hb1))
  go_wp2_with (refine wpList_store_rowB rfl 25 (.tmp 6) (.tmp 19) rfl (w.heap.size + 1) _ ZC ZC rfl (by rw [show ZC = _ from hIZ]; rfl) HZ.out (by rw [hIZ.size]; exact hJ3.out) rfl hIZ.one ?_)
  (try simp only [Exit.inBlock, Exit.then])
  refine end_bkE (p := 6) (q := 7) rfl rfl _ _ (w.heap.size + 1) _ ZC _ _ rfl rfl rfl (setRow_heap _ _ _ _ _ _ HZ.out) hIZ.size ?_
  exact BkEnd.none (by rw [show ZC = _ from hIZ]; rfl) (hu.setRow (by omega) _)
set_option maxHeartbeats 4000000 in
theorem put_wrap (A : Option Addr) (c : Nat) (l : List El) (R F : List Int) (p o f : Int) (s : ByteArray) (t : Int) (E : Int) (L : List El) (R2 F2 : List Int) (w : World) (hR : R.length = 16) (hF : F.length = 16) (hR2 : R2.length = 16) (hF2 : F2.length = 16)
    (cW : ∀ u, Calm w u → u.heap[w.heap.size + 1]? = some (.cells #[.int .i64 p, .int .i64 o, .int .i64 f] 27 (0, 0)) → u.heap[w.heap.size + 2]? = some (.cells #[.string s] 9 (0, 0)) → u.heap[w.heap.size + 3]? = some (.cells #[.int .i64 t] 3 (0, 0)) → Calls Try.prog 42 #[.agg (bkC A l.length c R F).toArray, .int .i64 p, .func (.func 43) #[] #[.pointer (some ⟨w.heap.size + 1, 0, none⟩), .pointer (some ⟨w.heap.size + 2, 0, none⟩), .pointer (some ⟨w.heap.size + 3, 0, none⟩)]] u (BkEnd E L R2 F2 u)) :
    Calls Try.prog 10 #[.agg (bkC A l.length c R F).toArray, .agg #[.int .i64 p, .int .i64 o, .int .i64 f], .string s, .int .i64 t] w (BkEnd E L R2 F2 w) := by
  have hall := allocs5 w (.cells (bkC A l.length c R F).toArray 25) (.cells #[.int .i64 p, .int .i64 o, .int .i64 f] 27) (.cells #[.string s] 9) (.cells #[.int .i64 t] 3) (.cells #[.slice none 0 0, .int .i64 0, .int .i64 0, .int .i64 0, .int .i64 0, .int .i64 0, .int .i64 0, .int .i64 0, .int .i64 0, .int .i64 0, .int .i64 0, .int .i64 0, .int .i64 0, .int .i64 0, .int .i64 0, .int .i64 0, .int .i64 0, .int .i64 0, .int .i64 0, .int .i64 0, .int .i64 0, .int .i64 0, .int .i64 0, .int .i64 0, .int .i64 0, .int .i64 0, .int .i64 0, .int .i64 0, .int .i64 0, .int .i64 0, .int .i64 0, .int .i64 0, .int .i64 0] 25)
  obtain ⟨hu, hsz, hx, hk,  hq2, hq3, hz⟩ := hall
  have hJ : Hid ((Try.prog.info? 25).map (·.size) = some (bkC A l.length c R F).length) := show _ = _ by rw [bkC_len hR hF]; exact infoBook
  have hJ3 : Hid ((Try.prog.info? 25).map (·.size) = some 33) := show _ = _ from infoBook
  have h2 : ∀ A' c', (bkC A' L.length c' R2 F2).toArray.size = 33 := fun A' c' => by
    have := bkC_len (A := A') (n := L.length) (c := c') hR2 hF2
    rw [← this]; simp
  have h3 : ∀ A' c', (bkC A' L.length c' R2 F2).toArray.all (·.oneCell') = true := fun A' c' => bk_one
  have H2 := Lib.hid h2
  have H3 := Lib.hid h3
  clear h2 h3
  generalize (bkC A l.length c R F) = CL at *
  go_enter Try.func10, Try.ntmps10
  go_upto_region 1 with fail
  generalize (((((w.alloc (.cells CL.toArray 25)).alloc (.cells #[.int .i64 p, .int .i64 o, .int .i64 f] 27)).alloc (.cells #[.string s] 9)).alloc (.cells #[.int .i64 t] 3)).alloc (.cells #[.slice none 0 0, .int .i64 0, .int .i64 0, .int .i64 0, .int .i64 0, .int .i64 0, .int .i64 0, .int .i64 0, .int .i64 0, .int .i64 0, .int .i64 0, .int .i64 0, .int .i64 0, .int .i64 0, .int .i64 0, .int .i64 0, .int .i64 0, .int .i64 0, .int .i64 0, .int .i64 0, .int .i64 0, .int .i64 0, .int .i64 0, .int .i64 0, .int .i64 0, .int .i64 0, .int .i64 0, .int .i64 0, .int .i64 0, .int .i64 0, .int .i64 0, .int .i64 0, .int .i64 0] 25)) = w2 at hx hk hq2 hq3 hz hu hsz ⊢
  obtain ⟨ZC, hZC⟩ : ∃ z : Array Value, z = #[.slice none 0 0, .int .i64 0, .int .i64 0, .int .i64 0, .int .i64 0, .int .i64 0, .int .i64 0, .int .i64 0, .int .i64 0, .int .i64 0, .int .i64 0, .int .i64 0, .int .i64 0, .int .i64 0, .int .i64 0, .int .i64 0, .int .i64 0, .int .i64 0, .int .i64 0, .int .i64 0, .int .i64 0, .int .i64 0, .int .i64 0, .int .i64 0, .int .i64 0, .int .i64 0, .int .i64 0, .int .i64 0, .int .i64 0, .int .i64 0, .int .i64 0, .int .i64 0, .int .i64 0] := ⟨_, rfl⟩
  rw [← hZC] at hz
  have hIZ : IsZk ZC := hZC
  clear hZC
  obtain ⟨k0, k1, k2, hks⟩ := row3 hk
  have HX := Lib.hid hx
  have HZ := Lib.hid hz
  have HK := Lib.hid hk
  have HQ2 := Lib.hid hq2
  have HQ3 := Lib.hid hq3
  have hzl : w.heap.size + 4 < w2.heap.size := by omega
  clear hx hz hk hq2 hq3
  go_wp2_with (first
    | (refine wpList_load_mid rfl 25 (.tmp 4) rfl w.heap.size 0 rfl CL _ (range_all HX.out) Try.underlying25 rfl hJ.out ?_)
    | (go_at_call 42; refine (cW _ hu HK.out HQ2.out HQ3.out).mono ?_; rintro e w4 ⟨A', c', rfl, ho4, hb2⟩; replace HZ := Lib.hid ((hb2.block hzl).trans HZ.out); have HO4 := Lib.hid (ho4.down (show w.heap.size + 5 ≤ w2.heap.size by omega)); replace hu := hu.call hb2; clear hb2 ho4)
    | (refine wpList_store_rowB rfl 25 (.tmp 8) (.tmp 15) rfl (w.heap.size + 4) _ ZC _ rfl rfl HZ.out (by rw [H2.out]; exact hJ3.out) (hIZ.size.trans (H2.out _ _).symm) (H3.out _ _) ?_))
  refine end_bkE (p := 8) (q := 9) rfl rfl _ _ (w.heap.size + 4) _ _ _ _ rfl rfl rfl (setRow_heap _ _ _ _ _ _ HZ.out) (H2.out _ _) ?_
  exact ⟨A', c', rfl, (OwnR.keep HO4.out fun j hj => setRow_other _ _ j _ (by omega)).down (by omega), hu.setRow (by omega) _⟩
set_option maxHeartbeats 4000000 in
theorem cut_wrap (A : Option Addr) (c : Nat) (l : List El) (R F : List Int) (p o f : Int) (t : Int) (E : Int) (L : List El) (R2 F2 : List Int) (w : World) (hR : R.length = 16) (hF : F.length = 16) (hR2 : R2.length = 16) (hF2 : F2.length = 16)
    (cW : ∀ u, Calm w u → u.heap[w.heap.size + 1]? = some (.cells #[.int .i64 p, .int .i64 o, .int .i64 f] 27 (0, 0)) → u.heap[w.heap.size + 2]? = some (.cells #[.int .i64 t] 3 (0, 0)) → Calls Try.prog 42 #[.agg (bkC A l.length c R F).toArray, .int .i64 p, .func (.func 45) #[] #[.pointer (some ⟨w.heap.size + 1, 0, none⟩), .pointer (some ⟨w.heap.size + 2, 0, none⟩)]] u (BkEnd E L R2 F2 u)) :
    Calls Try.prog 11 #[.agg (bkC A l.length c R F).toArray, .agg #[.int .i64 p, .int .i64 o, .int .i64 f], .int .i64 t] w (BkEnd E L R2 F2 w) := by
  have hall := allocs4 w (.cells (bkC A l.length c R F).toArray 25) (.cells #[.int .i64 p, .int .i64 o, .int .i64 f] 27) (.cells #[.int .i64 t] 3) (.cells #[.slice none 0 0, .int .i64 0, .int .i64 0, .int .i64 0, .int .i64 0, .int .i64 0, .int .i64 0, .int .i64 0, .int .i64 0, .int .i64 0, .int .i64 0, .int .i64 0, .int .i64 0, .int .i64 0, .int .i64 0, .int .i64 0, .int .i64 0, .int .i64 0, .int .i64 0, .int .i64 0, .int .i64 0, .int .i64 0, .int .i64 0, .int .i64 0, .int .i64 0, .int .i64 0, .int .i64 0, .int .i64 0, .int .i64 0, .int .i64 0, .int .i64 0, .int .i64 0, .int .i64 0] 25)
  obtain ⟨hu, hsz, hx, hk,  hq2, hz⟩ := hall
  have hJ : Hid ((Try.prog.info? 25).map (·.size) = some (bkC A l.length c R F).length) := show _ = _ by rw [bkC_len hR hF]; exact infoBook
  have hJ3 : Hid ((Try.prog.info? 25).map (·.size) = some 33) := show _ = _ from infoBook
  have h2 : ∀ A' c', (bkC A' L.length c' R2 F2).toArray.size = 33 := fun A' c' => by
    have := bkC_len (A := A') (n := L.length) (c := c') hR2 hF2
    rw [← this]; simp
  have h3 : ∀ A' c', (bkC A' L.length c' R2 F2).toArray.all (·.oneCell') = true := fun A' c' => bk_one
  have H2 := Lib.hid h2
  have H3 := Lib.hid h3
  clear h2 h3
  generalize (bkC A l.length c R F) = CL at *
  go_enter Try.func11, Try.ntmps11
  go_upto_region 1 with fail
  generalize ((((w.alloc (.cells CL.toArray 25)).alloc (.cells #[.int .i64 p, .int .i64 o, .int .i64 f] 27)).alloc (.cells #[.int .i64 t] 3)).alloc (.cells #[.slice none 0 0, .int .i64 0, .int .i64 0, .int .i64 0, .int .i64 0, .int .i64 0, .int .i64 0, .int .i64 0, .int .i64 0, .int .i64 0, .int .i64 0, .int .i64 0, .int .i64 0, .int .i64 0, .int .i64 0, .int .i64 0, .int .i64 0, .int .i64 0, .int .i64 0, .int .i64 0, .int .i64 0, .int .i64 0, .int .i64 0, .int .i64 0, .int .i64 0, .int .i64 0, .int .i64 0, .int .i64 0, .int .i64 0, .int .i64 0, .int .i64 0, .int .i64 0, .int .i64 0] 25)) = w2 at hx hk hq2 hz hu hsz ⊢
  obtain ⟨ZC, hZC⟩ : ∃ z : Array Value, z = #[.slice none 0 0, .int .i64 0, .int .i64 0, .int .i64 0, .int .i64 0, .int .i64 0, .int .i64 0, .int .i64 0, .int .i64 0, .int .i64 0, .int .i64 0, .int .i64 0, .int .i64 0, .int .i64 0, .int .i64 0, .int .i64 0, .int .i64 0, .int .i64 0, .int .i64 0, .int .i64 0, .int .i64 0, .int .i64 0, .int .i64 0, .int .i64 0, .int .i64 0, .int .i64 0, .int .i64 0, .int .i64 0, .int .i64 0, .int .i64 0, .int .i64 0, .int .i64 0, .int .i64 0] := ⟨_, rfl⟩
  rw [← hZC] at hz
  have hIZ : IsZk ZC := hZC
  clear hZC
  obtain ⟨k0, k1, k2, hks⟩ := row3 hk
  have HX := Lib.hid hx
  have HZ := Lib.hid hz
  have HK := Lib.hid hk
  have HQ2 := Lib.hid hq2
  have hzl : w.heap.size + 3 < w2.heap.size := by omega
  clear hx hz hk hq2
  go_wp2_with (first
    | (refine wpList_load_mid rfl 25 (.tmp 3) rfl w.heap.size 0 rfl CL _ (range_all HX.out) Try.underlying25 rfl hJ.out ?_)
    | (go_at_call 42; refine (cW _ hu HK.out HQ2.out).mono ?_; rintro e w4 ⟨A', c', rfl, ho4, hb2⟩; replace HZ := Lib.hid ((hb2.block hzl).trans HZ.out); have HO4 := Lib.hid (ho4.down (show w.heap.size + 4 ≤ w2.heap.size by omega)); replace hu := hu.call hb2; clear hb2 ho4)
    | (refine wpList_store_rowB rfl 25 (.tmp 6) (.tmp 13) rfl (w.heap.size + 3) _ ZC _ rfl rfl HZ.out (by rw [H2.out]; exact hJ3.out) (hIZ.size.trans (H2.out _ _).symm) (H3.out _ _) ?_))
  refine end_bkE (p := 6) (q := 7) rfl rfl _ _ (w.heap.size + 3) _ _ _ _ rfl rfl rfl (setRow_heap _ _ _ _ _ _ HZ.out) (H2.out _ _) ?_
  exact ⟨A', c', rfl, (OwnR.keep HO4.out fun j hj => setRow_other _ _ j _ (by omega)).down (by omega), hu.setRow (by omega) _⟩
open Go.ChangeShapes Go.WideShapes Go.ChangeAt Go.RowKit
def bR : List Int := [1, 2, 0, 0, 0, 0, 0, 0, 0, 0, 0, 0, 0, 0, 0, 0]
theorem IsZk.at0 {z : Array Value} (h : IsZk z) : z[1]? = some (.int .i64 0) ∧ z[2]? = some (.int .i64 0) := by rw [show z = _ from h]; exact ⟨rfl, rfl⟩
theorem IsZk.book {z : Array Value} (h : IsZk z) : (z.setIfInBounds 1 (.int .i64 1)).setIfInBounds 2 (.int .i64 2) = (bkC none 0 0 bR z16).toArray := by rw [show z = _ from h]; rfl
set_option maxHeartbeats 4000000 in
theorem book_any (w : World) : Calls Try.prog 21 #[] w fun e w' => e = .returned (.agg (bkC none 0 0 bR z16).toArray) ∧ Calm w w' := by
 have hx := heap_past (.cells #[.slice none 0 0, .int .i64 0, .int .i64 0, .int .i64 0, .int .i64 0, .int .i64 0, .int .i64 0, .int .i64 0, .int .i64 0, .int .i64 0, .int .i64 0, .int .i64 0, .int .i64 0, .int .i64 0, .int .i64 0, .int .i64 0, .int .i64 0, .int .i64 0, .int .i64 0, .int .i64 0, .int .i64 0, .int .i64 0, .int .i64 0, .int .i64 0, .int .i64 0, .int .i64 0, .int .i64 0, .int .i64 0, .int .i64 0, .int .i64 0, .int .i64 0, .int .i64 0, .int .i64 0] 25) (heap_new w (.cells #[.slice none 0 0, .int .i64 0, .int .i64 0, .int .i64 0, .int .i64 0, .int .i64 0, .int .i64 0, .int .i64 0, .int .i64 0, .int .i64 0, .int .i64 0, .int .i64 0, .int .i64 0, .int .i64 0, .int .i64 0, .int .i64 0, .int .i64 0, .int .i64 0, .int .i64 0, .int .i64 0, .int .i64 0, .int .i64 0, .int .i64 0, .int .i64 0, .int .i64 0, .int .i64 0, .int .i64 0, .int .i64 0, .int .i64 0, .int .i64 0, .int .i64 0, .int .i64 0, .int .i64 0] 25))
 have hz : ((w.alloc (.cells #[.slice none 0 0, .int .i64 0, .int .i64 0, .int .i64 0, .int .i64 0, .int .i64 0, .int .i64 0, .int .i64 0, .int .i64 0, .int .i64 0, .int .i64 0, .int .i64 0, .int .i64 0, .int .i64 0, .int .i64 0, .int .i64 0, .int .i64 0, .int .i64 0, .int .i64 0, .int .i64 0, .int .i64 0, .int .i64 0, .int .i64 0, .int .i64 0, .int .i64 0, .int .i64 0, .int .i64 0, .int .i64 0, .int .i64 0, .int .i64 0, .int .i64 0, .int .i64 0, .int .i64 0] 25)).alloc (.cells #[.slice none 0 0, .int .i64 0, .int .i64 0, .int .i64 0, .int .i64 0, .int .i64 0, .int .i64 0, .int .i64 0, .int .i64 0, .int .i64 0, .int .i64 0, .int .i64 0, .int .i64 0, .int .i64 0, .int .i64 0, .int .i64 0, .int .i64 0, .int .i64 0, .int .i64 0, .int .i64 0, .int .i64 0, .int .i64 0, .int .i64 0, .int .i64 0, .int .i64 0, .int .i64 0, .int .i64 0, .int .i64 0, .int .i64 0, .int .i64 0, .int .i64 0, .int .i64 0, .int .i64 0] 25)).heap[w.heap.size + 1]? = some (.cells #[.slice none 0 0, .int .i64 0, .int .i64 0, .int .i64 0, .int .i64 0, .int .i64 0, .int .i64 0, .int .i64 0, .int .i64 0, .int .i64 0, .int .i64 0, .int .i64 0, .int .i64 0, .int .i64 0, .int .i64 0, .int .i64 0, .int .i64 0, .int .i64 0, .int .i64 0, .int .i64 0, .int .i64 0, .int .i64 0, .int .i64 0, .int .i64 0, .int .i64 0, .int .i64 0, .int .i64 0, .int .i64 0, .int .i64 0, .int .i64 0, .int .i64 0, .int .i64 0, .int .i64 0] 25 (0, 0)) := two_new w _ _
 have hu := ((Calm.refl w).alloc (.cells #[.slice none 0 0, .int .i64 0, .int .i64 0, .int .i64 0, .int .i64 0, .int .i64 0, .int .i64 0, .int .i64 0, .int .i64 0, .int .i64 0, .int .i64 0, .int .i64 0, .int .i64 0, .int .i64 0, .int .i64 0, .int .i64 0, .int .i64 0, .int .i64 0, .int .i64 0, .int .i64 0, .int .i64 0, .int .i64 0, .int .i64 0, .int .i64 0, .int .i64 0, .int .i64 0, .int .i64 0, .int .i64 0, .int .i64 0, .int .i64 0, .int .i64 0, .int .i64 0, .int .i64 0] 25)).alloc (.cells #[.slice none 0 0, .int .i64 0, .int .i64 0, .int .i64 0, .int .i64 0, .int .i64 0, .int .i64 0, .int .i64 0, .int .i64 0, .int .i64 0, .int .i64 0, .int .i64 0, .int .i64 0, .int .i64 0, .int .i64 0, .int .i64 0, .int .i64 0, .int .i64 0, .int .i64 0, .int .i64 0, .int .i64 0, .int .i64 0, .int .i64 0, .int .i64 0, .int .i64 0, .int .i64 0, .int .i64 0, .int .i64 0, .int .i64 0, .int .i64 0, .int .i64 0, .int .i64 0, .int .i64 0] 25)
 have hsz : ((w.alloc (.cells #[.slice none 0 0, .int .i64 0, .int .i64 0, .int .i64 0, .int .i64 0, .int .i64 0, .int .i64 0, .int .i64 0, .int .i64 0, .int .i64 0, .int .i64 0, .int .i64 0, .int .i64 0, .int .i64 0, .int .i64 0, .int .i64 0, .int .i64 0, .int .i64 0, .int .i64 0, .int .i64 0, .int .i64 0, .int .i64 0, .int .i64 0, .int .i64 0, .int .i64 0, .int .i64 0, .int .i64 0, .int .i64 0, .int .i64 0, .int .i64 0, .int .i64 0, .int .i64 0, .int .i64 0] 25)).alloc (.cells #[.slice none 0 0, .int .i64 0, .int .i64 0, .int .i64 0, .int .i64 0, .int .i64 0, .int .i64 0, .int .i64 0, .int .i64 0, .int .i64 0, .int .i64 0, .int .i64 0, .int .i64 0, .int .i64 0, .int .i64 0, .int .i64 0, .int .i64 0, .int .i64 0, .int .i64 0, .int .i64 0, .int .i64 0, .int .i64 0, .int .i64 0, .int .i64 0, .int .i64 0, .int .i64 0, .int .i64 0, .int .i64 0, .int .i64 0, .int .i64 0, .int .i64 0, .int .i64 0, .int .i64 0] 25)).heap.size = w.heap.size + 2 := by simp
 have hJ : Hid ((Try.prog.info? 25).map (·.size) = some 33) := show _ = _ from infoBook
 go_enter Try.func21, Try.ntmps21
 go_upto_region 2 with fail
 generalize ((w.alloc (.cells #[.slice none 0 0, .int .i64 0, .int .i64 0, .int .i64 0, .int .i64 0, .int .i64 0, .int .i64 0, .int .i64 0, .int .i64 0, .int .i64 0, .int .i64 0, .int .i64 0, .int .i64 0, .int .i64 0, .int .i64 0, .int .i64 0, .int .i64 0, .int .i64 0, .int .i64 0, .int .i64 0, .int .i64 0, .int .i64 0, .int .i64 0, .int .i64 0, .int .i64 0, .int .i64 0, .int .i64 0, .int .i64 0, .int .i64 0, .int .i64 0, .int .i64 0, .int .i64 0, .int .i64 0] 25)).alloc (.cells #[.slice none 0 0, .int .i64 0, .int .i64 0, .int .i64 0, .int .i64 0, .int .i64 0, .int .i64 0, .int .i64 0, .int .i64 0, .int .i64 0, .int .i64 0, .int .i64 0, .int .i64 0, .int .i64 0, .int .i64 0, .int .i64 0, .int .i64 0, .int .i64 0, .int .i64 0, .int .i64 0, .int .i64 0, .int .i64 0, .int .i64 0, .int .i64 0, .int .i64 0, .int .i64 0, .int .i64 0, .int .i64 0, .int .i64 0, .int .i64 0, .int .i64 0, .int .i64 0, .int .i64 0] 25)) = w2 at hx hz hu hsz ⊢
 obtain ⟨ZC, hZC⟩ : ∃ z : Array Value, z = #[.slice none 0 0, .int .i64 0, .int .i64 0, .int .i64 0, .int .i64 0, .int .i64 0, .int .i64 0, .int .i64 0, .int .i64 0, .int .i64 0, .int .i64 0, .int .i64 0, .int .i64 0, .int .i64 0, .int .i64 0, .int .i64 0, .int .i64 0, .int .i64 0, .int .i64 0, .int .i64 0, .int .i64 0, .int .i64 0, .int .i64 0, .int .i64 0, .int .i64 0, .int .i64 0, .int .i64 0, .int .i64 0, .int .i64 0, .int .i64 0, .int .i64 0, .int .i64 0, .int .i64 0] := ⟨_, rfl⟩
 rw [← hZC] at hx hz
 have hIZ : IsZk ZC := hZC
 clear hZC
 have c1 := (cell_of_row _ _ 1 _ _ _ hz).trans hIZ.at0.1
 have c2 := (cell_of_row _ _ 2 _ _ _ hz).trans hIZ.at0.2
 have f1 := frozen_of_row _ _ 1 _ _ hz
 have f2 := frozen_of_row _ _ 2 _ _ hz
 have HX := Lib.hid hx
 have HZ := Lib.hid hz
 clear hx hz
 go_upto_region 3 with fail
 have hx6 := heap_setCell_same _ _ 2 _ _ (Value.int .i64 2) (heap_setCell_same w2 (w.heap.size + 1) 1 _ _ (Value.int .i64 1) HZ.out)
 rw [hIZ.book] at hx6
 have hz6 : ((w2.setCell ⟨w.heap.size + 1, 1, none⟩ (Value.int .i64 1)).setCell ⟨w.heap.size + 1, 2, none⟩ (Value.int .i64 2)).heap[w.heap.size]? = some (.cells ZC 25 (0, 0)) := ((Below.heap_setCell _ _ _ _ (show w.heap.size ≠ w.heap.size + 1 by omega)).trans (Below.heap_setCell _ _ _ _ (show w.heap.size ≠ w.heap.size + 1 by omega))).trans HX.out
 have hu6 := (hu.setCell (p := ⟨w.heap.size + 1, 1, none⟩) (Nat.le_succ _) (Value.int .i64 1)).setCell (p := ⟨w.heap.size + 1, 2, none⟩) (Nat.le_succ _) (Value.int .i64 2)
 generalize ((w2.setCell ⟨w.heap.size + 1, 1, none⟩ (Value.int .i64 1)).setCell ⟨w.heap.size + 1, 2, none⟩ (Value.int .i64 2)) = w6 at hx6 hz6 hu6 ⊢
 have hlen : (bkC none 0 0 bR z16).length = 33 := rfl
 have hone : (bkC none 0 0 bR z16).toArray.all (·.oneCell') = true := bk_one
 have HX6 := Lib.hid hx6
 have HZ6 := Lib.hid hz6
 clear c1 c2 f1 f2 HX HZ hx6 hz6 hu
 generalize hCL : (bkC none 0 0 bR z16) = CL at *
 have HCL := Lib.hid hCL
 clear hCL
 have hj2 : Hid ((Try.prog.info? 25).map (·.size) = some CL.length) := show _ = _ by rw [hlen]; exact hJ.out
 have hj3 : Hid ((Try.prog.info? 25).map (·.size) = some CL.toArray.size) := show _ = _ by rw [List.size_toArray, hlen]; exact hJ.out
 have hsc : CL.toArray.size = 33 := by rw [← hlen]; simp
 have HONE := Lib.hid hone
 have HSC := Lib.hid hsc
 clear hone hlen hJ hsc
 go_wp2_with (first
  |(refine wpList_load_mid rfl 25 (.tmp 1) rfl (w.heap.size + 1) 0 rfl CL _ (range_all HX6.out) Try.underlying25 rfl hj2.out ?_)
  |(refine wpList_store_rowB rfl 25 (.tmp 0) (.tmp 6) rfl w.heap.size _ ZC CL.toArray rfl rfl HZ6.out hj3.out (hIZ.size.trans HSC.out.symm) HONE.out ?_))
 refine end_bk rfl rfl _ _ w.heap.size _ CL.toArray _ rfl rfl (setRow_heap _ _ _ _ _ _ HZ6.out) HSC.out ?_
 exact ⟨by rw [HCL.out], hu6.setRow (Nat.le_refl _) _⟩
open Go.ChangeShapes Go.WideShapes Go.ChangeAt Go.RowKit
theorem gI_set {R : List Int} {k j : Nat} {r : Int} (hk : k < R.length) : gI (R.set k r) j = if j = k then r else gI R j := by
 unfold gI
 rw [List.getD_eq_getElem?_getD, List.getD_eq_getElem?_getD, List.getElem?_set]
 by_cases h : k = j
 ·subst h; rw [if_pos rfl, if_pos hk, if_pos rfl]; rfl
 ·rw [if_neg h, if_neg (fun e => h e.symm)]
theorem bkErr_ok {l : List El} {R F : List Int} (hG : Good l) (h : bkOk l R F) : bkErr l R F = 0 := by
 unfold bkErr
 rw [if_pos (runErr_zero.2 hG), if_pos h]
theorem roleErr_of {l : List El} {R F : List Int} {k : Nat} {r : Int} (h : bkErr l R F = 0) (hk : k < 16) : roleErr l R F k r = if gI R k = r then 0 else 10 := by
 unfold roleErr
 rw [if_pos h, if_pos (by omega), Int.toNat_natCast]
theorem good_nil : Good [] := ⟨by simp, by simp, List.Pairwise.nil⟩
theorem book_ok : bkErr [] bR z16 = 0 := bkErr_ok good_nil ⟨fun k hk => by
 have : ∀ k : Fin 16, fedFit (gI bR k.1) (gI z16 k.1) = true := by decide
 exact this ⟨k, hk⟩, fun e he => absurd he (by simp)⟩
open Go.ChangeShapes Go.WideShapes Go.ChangeAt Go.RowKit
theorem BkEnd.nil0 {E : Int} {R F : List Int} {w w' : World} {e : Ending} (h : BkEnd E [] R F w e w') : ∃ A c, e = .returned (.tuple #[.agg (bkC A 0 c R F).toArray, .int .i64 E]) ∧ Calm w w' := by
 obtain ⟨A, c, h1, _, h3⟩ := h
 exact ⟨A, c, h1, h3⟩
open Go.ChangeShapes Go.WideShapes Go.ChangeAt Go.RowKit
theorem wpList_append_el3 {ops : Array Oper} {rest : List Oper} {o : Oper} {a : Act} {w : World} {Q : Exit → Act → World → Prop} (hgd : o.guard = none) (s x : Operand)
    (ho : o.op = .call { callee := .builtin .append, args := #[s, x], argTypes := #[22, 22] })
    (base : Nat) (v : Value) (l : List El) (hs : a.eval s = v) (hown : OwnR base w v l) (g t : Nat) (p o' f m gg : Int) (sv : ByteArray) (fr : Nat × Nat)
    (hx : a.eval x = .slice (some ⟨g, 0, none⟩) 1 1) (hg : w.heap[g]? = some (.cells #[.int .i64 p, .int .i64 o', .int .i64 f, .int .i64 m, .int .i64 gg, .string sv] t fr)) (hl : l.length ≤ 1000000) (hbase : base ≤ w.heap.size)
    (h : ∀ v' w', OwnR base w' v' (l ++ [⟨p, o', f, m, gg, sv⟩]) → w.grownBy w' v.ownBlock → (v'.ownBlock = v.ownBlock ∨ v'.ownBlock = some w.heap.size) → wpList Try.prog ops Q rest (a.put o.dst v') w') : wpList Try.prog ops Q (o :: rest) a w := by
  obtain ⟨i0, hi, hz0, hz1, hz2⟩ := info_parts infoElem
  refine wpList_append_own_at w hgd s x _ ho base 50 i0 _ 6 56 Try.underlying22 hi hz0 hz1 hz2 rfl (by decide) v _ _ hs hown ⟨g, 0, none⟩ 1 1 (El.cells ⟨p, o', f, m, gg, sv⟩) hx rfl (fun j u hj => ?_) (cells_one _) (by unfold maxLen; omega) (by omega) hbase fun v' w' h1 h2 _ h4 => ?_
  · have : (⟨g, 0, none⟩ : Addr).add j = ⟨g, j, none⟩ := by unfold Addr.add; split <;> simp_all
    rw [this, cell_of_row w g j _ t fr hg, ← hj]
    simp [El.cells]
  · refine h v' w' ?_ h2 h4
    unfold OwnR
    rw [List.length_append, cellsOf_snoc]
    exact h1
def Two (base : Nat) (w : World) (v1 v2 : Value) (l1 l2 : List El) : Prop := OwnR base w v1 l1 ∧ OwnR base w v2 l2 ∧ ∀ g, v1.ownBlock = some g → v2.ownBlock ≠ some g
theorem Two.calm {base : Nat} {w w' : World} {v1 v2 : Value} {l1 l2 : List El} (h : Two base w v1 v2 l1 l2) (hb : Calm w w') : Two base w' v1 v2 l1 l2 := ⟨h.1.calm hb, h.2.1.calm hb, h.2.2⟩
theorem Two.first {base : Nat} {w w' : World} {v1 v2 v' : Value} {l1 l2 l : List El} (h : Two base w v1 v2 l1 l2) (h1 : OwnR base w' v' l) (h2 : w.grownBy w' v1.ownBlock) (h4 : v'.ownBlock = v1.ownBlock ∨ v'.ownBlock = some w.heap.size) : Two base w' v' v2 l l2 := by
 obtain ⟨a, b, c⟩ := h
 refine ⟨h1, World.ownsRow.kept b h2 ?_, fun g hg => ?_⟩
 ·rcases hv : v2.ownBlock with _ | k
  ·exact .inl rfl
  ·right
   rcases hv1 : v1.ownBlock with _ | k1
   ·simp
   ·intro e
    injection e with e
    exact c k1 hv1 (by rw [hv, e])
 ·rcases h4 with h4 | h4
  ·exact c g (h4 ▸ hg)
  ·intro e
   have := (b.lt g e).2
   rw [h4] at hg
   injection hg with hg
   omega
theorem Two.swap {base : Nat} {w : World} {v1 v2 : Value} {l1 l2 : List El} (h : Two base w v1 v2 l1 l2) : Two base w v2 v1 l2 l1 := ⟨h.2.1, h.1, fun g hg e => h.2.2 g e hg⟩
theorem Two.nil (base : Nat) (w : World) : Two base w (.slice none 0 0) (.slice none 0 0) [] [] := ⟨OwnR.nil _ _, OwnR.nil _ _, fun g hg => by cases hg⟩
theorem mineL_take {l : List El} {k : Nat} {e : El} (h : l[k]? = some e) (p : Int) : mineL (l.take (k + 1)) p = mineL (l.take k) p ++ if e.p = p then [e] else [] := by
 unfold mineL
 rw [take_snoc3 h, List.filter_append]
 congr 1
 by_cases h1 : e.p = p
 ·rw [if_pos h1, List.filter_cons_of_pos (by simpa using h1)]; rfl
 ·rw [if_neg h1, List.filter_cons_of_neg (by simpa using h1)]; rfl
theorem otherL_take {l : List El} {k : Nat} {e : El} (h : l[k]? = some e) (p : Int) : otherL (l.take (k + 1)) p = otherL (l.take k) p ++ if e.p = p then [] else [e] := by
 unfold otherL
 rw [take_snoc3 h, List.filter_append]
 congr 1
 by_cases h1 : e.p = p
 ·rw [if_pos h1, List.filter_cons_of_neg (by simpa using h1)]; rfl
 ·rw [if_neg h1, List.filter_cons_of_pos (by simpa using h1)]; rfl
def RmEnd (l : List El) (p : Int) (w : World) (e : Ending) (w' : World) : Prop := ∃ v1 v2, e = .returned (.tuple #[v1, v2]) ∧ Two w.heap.size w' v1 v2 (mineL l p) (otherL l p) ∧ Calm w w'
set_option maxHeartbeats 4000000 in
theorem refRealm_any (A : Option Addr) (c : Nat) (l : List El) (p : Int) (w : World) (hn : l.length ≤ 400) (hL : Lies w A l) :
    Calls Try.prog 14 #[.slice A l.length c, .int .i64 p] w (RmEnd l p w) := by
  go_enter Try.func14, Try.ntmps14
  go_wp2_with fail
  go_loopw [4, 5, 10] (fun m1 m2 i wr => ∃ k : Nat, k ≤ l.length ∧ i = .int .i64 k ∧ Calm w wr ∧ Hid (Two w.heap.size wr m1 m2 (mineL (l.take k) p) (otherL (l.take k) p))) (fun _ _ i _ => l.length - (intOf i).toNat)
  case atStart => exact ⟨0, Nat.zero_le _, rfl, Calm.refl _, show Two _ _ _ _ _ _ from Two.nil _ _⟩
  case round =>
    obtain ⟨k, hk, rfl, hu, HT⟩ := hrel
    by_cases hlt : k < l.length
    rotate_left
    · have HT2 := HT.out
      rw [List.take_of_length_le (by omega)] at HT2
      have HT3 := Lib.hid HT2
      clear HT2
      go_wp2_with fail
      go_ret2
      exact ⟨_, _, rfl, HT3.out, hu⟩
    obtain ⟨b, q, p1, o, f, m, g, s, rfl, hb, HE, hm, c0, c1, c2, c3, c4, c5⟩ := (hL.calm hu).get hlt
    have hs := hu.size
    have hM := mineL_take HE.out p
    have hO := otherL_take HE.out p
    simp only at hM hO
    have hl1 : (mineL (l.take k) p).length ≤ 1000000 := Nat.le_trans (List.length_filter_le _ _) (by rw [List.length_take]; omega)
    have hl2 : (otherL (l.take k) p).length ≤ 1000000 := Nat.le_trans (List.length_filter_le _ _) (by rw [List.length_take]; omega)
    have HT0 := Lib.hid (HT.out.calm (((Calm.refl wr).alloc (.cells #[.int .i64 p1, .int .i64 o, .int .i64 f, .int .i64 m, .int .i64 g, .string s] 50)).alloc (.cells #[.int .i64 p1, .int .i64 o, .int .i64 f, .int .i64 m, .int .i64 g, .string s] 50)))
    have hu2 := (hu.alloc (.cells #[.int .i64 p1, .int .i64 o, .int .i64 f, .int .i64 m, .int .i64 g, .string s] 50)).alloc (.cells #[.int .i64 p1, .int .i64 o, .int .i64 f, .int .i64 m, .int .i64 g, .string s] 50)
    have HM := Lib.hid hM
    have HO := Lib.hid hO
    have HL1 := Lib.hid hl1
    have HL2 := Lib.hid hl2
    clear HE hM hO hl1 hl2 HT
    by_cases h1 : p1 = p
    · subst h1
      rw [if_pos rfl] at HM HO
      go_wp2_with (at_builtin; refine wpList_append_el3 rfl _ _ rfl w.heap.size _ _ rfl HT0.out.1 _ _ p1 o f m g s _ rfl (two_new _ _ _) HL1.out (by simp; omega) ?_; intro v' w9 ho9 hg9 hc9; have HT9 := Lib.hid (HT0.out.first ho9 hg9 hc9); have hu9 := hu2.grown (Nat.le_refl _) HT0.out.1 hg9; clear ho9 hg9 hc9)
      go_roundw
      case rel => exact ⟨k + 1, by omega, by go_num, hu9, show Two _ _ _ _ _ _ from by rw [HM.out, HO.out, List.append_nil]; exact HT9.out⟩
      case measure => simp [intOf]; omega
    · have b1 : (p1 == p) = false := by simpa using h1
      rw [if_neg h1] at HM HO
      clear h1
      go_wp2_with (at_builtin; refine wpList_append_el3 rfl _ _ rfl w.heap.size _ _ rfl HT0.out.2.1 _ _ p1 o f m g s _ rfl (two_new _ _ _) HL2.out (by simp; omega) ?_; intro v' w9 ho9 hg9 hc9; have HT9 := Lib.hid (HT0.out.swap.first ho9 hg9 hc9).swap; have hu9 := hu2.grown (Nat.le_refl _) HT0.out.2.1 hg9; clear ho9 hg9 hc9)
      go_roundw
      case rel => exact ⟨k + 1, by omega, by go_num, hu9, show Two _ _ _ _ _ _ from by rw [HM.out, HO.out, List.append_nil]; exact HT9.out⟩
      case measure => simp [intOf]; omega
open Go.ChangeShapes Go.WideShapes Go.ChangeAt Go.RowKit
theorem quiet_load {P : Program} {S : World → Prop} {o : Oper} {a : Act} {u : World} (ty : TypeId) (x : Operand) (ho : o.op = .load ty x) (b : Nat) (hx : a.eval x = .pointer (some ⟨b, 0, none⟩)) (cs : List Value) (d : TypeDesc) (hc : u.rangeAt b 0 cs)
    (hu : P.underlying ty = some d) (hd : d.isRow = true) (hi : (P.info? ty).map (·.size) = some cs.length) (_ : S u) : Oper.quietUpon P S u (.agg cs.toArray) ((execOp a.eval o).run P u) := by
  unfold execOp
  simp only [ho, hx, Instr.loadAt, Instr.sureAddr, Sem.run_bind, Sem.run_pure, Result.andThen_ok, run_loadVar_mid u b 0 ty cs d hc hu hd hi]
  exact ⟨rfl, rfl⟩
open Go.ChangeShapes Go.WideShapes Go.ChangeAt Go.RowKit
def AgreeR (l L : List El) (R F R2 F2 : List Int) (p : Int) : Prop := ∀ i : Nat, i < 16 → (i : Int) ≠ p → mineL l i = mineL L i ∧ gI R i = gI R2 i ∧ gI F i = gI F2 i
set_option maxHeartbeats 16000000 in
theorem same_any (A A2 : Option Addr) (c c2 : Nat) (l L : List El) (R F R2 F2 : List Int) (p : Int) (g : Nat) (w : World) (hl4 : l.length ≤ 400) (hB : bkErr L R2 F2 = 0) (hL : Lies w A l) (hL2 : Lies w A2 L) (hR : R.length = 16) (hF : F.length = 16) (hR2 : R2.length = 16) (hF2 : F2.length = 16) (hg : Box w g (bkC A l.length c R F)) (hAg : AgreeR l L R F R2 F2 p) :
    Calls Try.prog 22 #[.agg (bkC A2 L.length c2 R2 F2).toArray, .int .i64 p, .pointer (some ⟨g, 0, none⟩)] w fun e w' => e = .returned (.bool true) ∧ Calm w w' := by
  have hG2 := (bkErr_zero hB).1
  have cC := fun u (hu : Calm w u) => realmCheck_any A2 c2 L R2 F2 u (by have := hG2.1; omega) (hL2.calm hu) hR2 hF2
  rw [hB] at cC
  have cR1 := fun (n : Nat) u (hu : Calm w u) => refRealm_any A c l n u hl4 (hL.calm hu)
  have cR2 := fun (n : Nat) u (hu : Calm w u) => refRealm_any A2 c2 L n u hG2.1 (hL2.calm hu)
  unfold RmEnd at cR1 cR2
  have hw1 : ∀ n : Nat, ∀ e ∈ mineL l n, e.wf := fun n e he => hL.1 e (List.mem_filter.1 he).1
  have hw2 : ∀ n : Nat, ∀ e ∈ mineL L n, e.wf := fun n e he => hL2.1 e (List.mem_filter.1 he).1
  have hm : ∀ n : Nat, (mineL l n).length ≤ 9223372036854775807 := fun n => Nat.le_trans (List.length_filter_le _ _) (by omega)
  have HAg := Lib.hid hAg
  have H3 : Box (w.alloc (.cells (bkC A2 L.length c2 R2 F2).toArray 25)) w.heap.size (bkC A2 L.length c2 R2 F2) := Box.new w _
  have H0 := hg.calm ((Calm.refl w).alloc (.cells (bkC A2 L.length c2 R2 F2).toArray 25))
  have hu := (Calm.refl w).alloc (.cells (bkC A2 L.length c2 R2 F2).toArray 25)
  clear hAg hB hG2 hL hL2 hg
  go_enter Try.func22, Try.ntmps22
  go_upto_region 1 with fail
  generalize (w.alloc (.cells (bkC A2 L.length c2 R2 F2).toArray 25)) = v0 at H3 H0 hu ⊢
  go_upto_region 3 with (first
    | (refine wpList_load_mid rfl 25 (.tmp 3) rfl w.heap.size 0 rfl (bkC A2 L.length c2 R2 F2) _ (range_all H3) Try.underlying25 rfl (bkJ hR2 hF2) ?_)
    | (go_at_call 23; (with_reducible refine (cC _ hu).mono ?_); rintro e w1 ⟨rfl, hb1⟩; replace H0 := H0.calm hb1; replace H3 := H3.calm hb1; replace hu := hu.call hb1; clear hb1 cC))
  go_wp2_with fail
  go_loopw [14] (fun i wr => ∃ n : Nat, n ≤ 16 ∧ i = .int .i64 n ∧ Calm w wr ∧ Hid (Box wr g (bkC A l.length c R F)) ∧ Hid (Box wr w.heap.size (bkC A2 L.length c2 R2 F2))) (fun i _ => 16 - (intOf i).toNat)
  case atStart => exact ⟨0, Nat.zero_le _, rfl, hu, H0, H3⟩
  case round =>
    obtain ⟨n, hn, rfl, hu, HG, HX⟩ := hrel
    replace H0 := HG.out
    replace H3 := HX.out
    clear HG HX
    by_cases hlt : n < 16
    rotate_left
    · go_wp2_with fail
      go_ret
      exact ⟨rfl, hu⟩
    have hki : (n : Int) < 16 := by omega
    have r0 := H0.run
    go_upto_region 7 with (go_at_call 14; (with_reducible refine (cR1 _ _ hu).mono ?_); rintro e w2 ⟨v1, v2, rfl, hTw, hb2⟩; obtain ⟨A4, c4, rfl, hlc4, hcc4, hl4⟩ := hTw.1.lies (hw1 n); have HL4 := Lib.hid hl4; replace H0 := H0.calm hb2; replace H3 := H3.calm hb2; have r3 := H3.run; replace hu := hu.call hb2; clear hb2 hTw hl4 hlc4 hcc4)
    clear r0
    go_upto_region 8 with (go_at_call 14; (with_reducible refine (cR2 _ _ hu).mono ?_); rintro e w3 ⟨v3, v4, rfl, hTw, hb3⟩; obtain ⟨A5, c5, rfl, hlc5, hcc5, hl5⟩ := hTw.1.lies (hw2 n); have HL5 := Lib.hid hl5; replace HL4 := Lib.hid (HL4.out.calm hb3); replace H0 := H0.calm hb3; replace H3 := H3.calm hb3; replace hu := hu.call hb3; clear hb3 hTw hl5 hlc5 hcc5)
    clear r3
    have hHg := H0.lt
    have hHx := H3.lt
    have d1 := H0.role hR hlt
    have d2 := H3.role hR2 hlt
    have d3 := H0.fed hR hF hlt
    have d4 := H3.fed hR2 hF2 hlt
    have HU := Lib.hid hu
    clear hu
    by_cases hnp : (n : Int) = p
    · subst hnp
      clear d1 d2 d3 d4
      generalize (mineL l (n : Int)).length = len1 at *
      generalize (mineL L (n : Int)).length = len2 at *
      refine wp_region_plan [.val (.int .i64 ((n : Int))), .val (.int .i64 ((n : Int))), .val (.bool false), .val (.bool false), .idle, .idle, .idle, .idle, .idle, .idle, .idle, .idle, .idle, .idle, .idle, .idle, .idle, .idle, .idle, .idle, .idle, .idle, .idle, .idle, .idle, .idle, .idle, .idle, .idle, .idle, .val (.bool false)] (by kernel_rfl) (by kernel_rfl) (by kernel_rfl) ?_
      intro X
      iterate 4
        refine plan_val (by kernel_rfl) (fun u hu => ?_) ?_
        · obtain ⟨hc, hf, hz⟩ := hu.of_drew.facts
          go_simp
          all_goals first
            | (omega)
            | ((simp; done))
            | (assumption)
        simp only [Act.put, List.setIfInBounds_toArray, List.set_cons_zero, List.set_cons_succ, Nat.reduceAdd]
      iterate 26
        refine plan_idle (by kernel_rfl) ?_
        simp only [Act.put, List.setIfInBounds_toArray, List.set_cons_zero, List.set_cons_succ, Nat.reduceAdd]
      iterate 1
        refine plan_val (by kernel_rfl) (fun u hu => ?_) ?_
        · obtain ⟨hc, hf, hz⟩ := hu.of_drew.facts
          go_simp
          all_goals first
            | (omega)
            | ((simp; done))
            | (assumption)
        simp only [Act.put, List.setIfInBounds_toArray, List.set_cons_zero, List.set_cons_succ, Nat.reduceAdd]
      refine plan_end ?_
      intro w' hB
      have hk := hB.calm.of_drew
      clear hB
      replace H0 := H0.calm hk
      replace H3 := H3.calm hk
      have hu := HU.out.call hk
      clear hk
      go_wp2_with fail
      go_roundw
      case rel => exact ⟨n + 1, by omega, by go_num, hu, H0, H3⟩
      case measure => simp [intOf]; omega
    · obtain ⟨a1, a2, a3⟩ := HAg.out n hlt hnp
      rw [← a1] at HL5
      rw [← a2] at d2
      rw [← a3] at d4
      have cE := fun u (hu : Calm w3 u) => equal_self A4 A5 c4 c5 (mineL l n) u (hm n) (HL4.out.calm hu) (HL5.out.calm hu)
      have h2 : (mineL L (n : Int)).length = (mineL l (n : Int)).length := by rw [a1]
      generalize (mineL L (n : Int)).length = len2 at *
      subst h2
      have b1 : ((n : Int) != p) = true := by simpa using hnp
      have b2 : decide ((n : Int) = p) = false := decide_eq_false hnp
      clear a1 a2 a3 HL4 HL5
      generalize gI R n = r at *
      generalize gI F n = z at *
      generalize (mineL l (n : Int)).length = len1 at *
      refine wp_region_plan [.val (.int .i64 ((n : Int))), .val (.int .i64 (p)), .val (.bool true), .val (.bool true), .val (.slice A4 len1 c4), .val (.slice A5 len1 c5), .val (.bool true), .val (.bool false), .val (.bool false), .val (.int .i64 ((n : Int))), .val (.pointer (some ⟨w.heap.size, 1, none⟩)), .val (.pointer (some ⟨w.heap.size, 1+n, none⟩)), .val (.int .i64 (r)), .val (.int .i64 ((n : Int))), .val (.pointer (some ⟨g, 1, none⟩)), .val (.pointer (some ⟨g, 1+n, none⟩)), .val (.int .i64 (r)), .val (.bool false), .val (.bool false), .val (.bool false), .val (.int .i64 ((n : Int))), .val (.pointer (some ⟨w.heap.size, 17, none⟩)), .val (.pointer (some ⟨w.heap.size, 17+n, none⟩)), .val (.int .i64 (z)), .val (.int .i64 ((n : Int))), .val (.pointer (some ⟨g, 17, none⟩)), .val (.pointer (some ⟨g, 17+n, none⟩)), .val (.int .i64 (z)), .val (.bool false), .val (.bool false), .val (.bool false)] (by kernel_rfl) (by kernel_rfl) (by kernel_rfl) ?_
      intro X
      iterate 31
        refine plan_val (by kernel_rfl) (fun u hu => ?_) ?_
        · obtain ⟨hc, hf, hz⟩ := hu.of_drew.facts
          go_simp
          all_goals first
            | ((go_at_call 24; (with_reducible exact cE _ hu.of_drew)))
            | (omega)
            | ((simp; done))
            | (assumption)
        simp only [Act.put, List.setIfInBounds_toArray, List.set_cons_zero, List.set_cons_succ, Nat.reduceAdd]
      refine plan_end ?_
      intro w' hB
      have hk := hB.calm.of_drew
      clear hB
      replace H0 := H0.calm hk
      replace H3 := H3.calm hk
      have hu := HU.out.call hk
      clear hk
      go_wp2_with fail
      go_roundw
      case rel => exact ⟨n + 1, by omega, by go_num, hu, H0, H3⟩
      case measure => simp [intOf]; omega
theorem mem_fedL {e : El} : ∀ {fr l : List El}, fr.Pairwise Rise → (e ∈ fedL l fr ↔ e ∈ fr ∨ (e ∈ l ∧ ∀ x ∈ fr, ¬ (e.key = x.key ∧ e.m = x.m)))
 | [], l, _ => by simp [fedL]
 |x :: fr, l, h => by
  rw [List.pairwise_cons] at h
  have ih := mem_fedL (e := e) (fr := fr) (l := setS x l) h.2
  have hE : fedL l (x :: fr) = fedL (setS x l) fr := rfl
  rw [hE, ih, mem_setS]
  constructor
  ·rintro (h1 | ⟨rfl | ⟨h1, h2⟩, h3⟩)
   ·exact .inl (by simp [h1])
   ·exact .inl (by simp)
   ·refine .inr ⟨h1, fun y hy => ?_⟩
    rcases List.mem_cons.1 hy with rfl | hy
    ·exact h2
    ·exact h3 y hy
  ·rintro (h1 | ⟨h1, h2⟩)
   ·rcases List.mem_cons.1 h1 with rfl | h1
    ·exact .inr ⟨.inl rfl, fun y hy => rise_ne (h.1 y hy)⟩
    ·exact .inl h1
   ·exact .inr ⟨.inr ⟨h1, h2 x (by simp)⟩, fun y hy => h2 y (by simp [hy])⟩
open Go.RowKit
/-- append(out, s...), s any slice that reads as records. -/
theorem wpList_append_lies {ops : Array Oper} {rest : List Oper} {o : Oper} {a : Act} {w : World} {Q : Exit → Act → World → Prop} (hgd : o.guard = none) (s x : Operand)
    (ho : o.op = .call { callee := .builtin .append, args := #[s, x], argTypes := #[22, 22] })
    (base : Nat) (v : Value) (l : List El) (hs : a.eval s = v) (hown : OwnR base w v l) (A : Option Addr) (c : Nat) (l2 : List El) (hx : a.eval x = .slice A l2.length c) (hsrc : Lies w A l2)
    (hl : (l.length + l2.length) * 56 ≤ 140737488355328) (hbase : base ≤ w.heap.size)
    (h : ∀ v' w', OwnR base w' v' (l ++ l2) → (∀ w0 : World, w0.heap.size ≤ base → Calm w0 w → Calm w0 w') → wpList Try.prog ops Q rest (a.put o.dst v') w') : wpList Try.prog ops Q (o :: rest) a w := by
  obtain ⟨i0, hi, hz0, hz1, hz2⟩ := info_parts infoElem
  have fin : ∀ v' w', w'.ownsRow base 50 6 v' (l.length + l2.length) (cellsOf l ++ cellsOf l2) → w.grownBy w' v.ownBlock → wpList Try.prog ops Q rest (a.put o.dst v') w' := fun v' w' h1 h2 => by
    refine h v' w' ?_ fun w0 h0 hc => hc.grown h0 hown h2
    unfold OwnR
    rw [List.length_append, show cellsOf (l ++ l2) = cellsOf l ++ cellsOf l2 from by simp [cellsOf]]
    exact h1
  rcases A with _ | ad
  · have h0 : l2 = [] := by
      rcases Nat.eq_zero_or_pos l2.length with h | h
      · exact List.eq_nil_of_length_eq_zero h
      · obtain ⟨_, _, h1, _⟩ := hsrc.2 h; cases h1
    subst h0
    refine wpList_plain hgd fun K hK => ?_
    have hrun : (Builtin.append_ #[22, 22] o.type #[v, .slice none 0 c]).run Try.prog w = .ok v w := by
      rcases hown.2 with ⟨rfl, hn⟩ | ⟨g, cap, cur, rfl, _, _, hnc, _⟩
      · simp [Builtin.append_, run_underlying Try.underlying22, sizeOf, typeInfo, hi, Builtin.lenOf, Builtin.firstCells]
      · simp [Builtin.append_, run_underlying Try.underlying22, sizeOf, typeInfo, hi, Builtin.lenOf, Builtin.firstCells, hnc, storeCells]
    have hx' : a.eval x = .slice none 0 c := hx
    unfold Oper.wp execOp
    simp only [ho, resolve, invoke, builtin, Sem.run_bind, Sem.run_pure, Result.andThen_ok, List.map_toArray, List.map_cons, List.map_nil, hs, hx', hrun]
    exact hK _ _ (h v w (by simpa using hown) fun _ _ h => h)
  · refine wpList_append_own w hgd s x _ ho base 50 i0 _ 6 56 Try.underlying22 hi hz0 hz1 hz2 rfl (by decide) v _ _ hs hown ad l2.length c (cellsOf l2) hx (cellsOf_len l2) (fun j u hj => ?_) (cellsOf_one l2) (by unfold maxLen; omega) (by omega) hbase fun v' w' h1 h2 _ => fin v' w' h1 h2
    have hj2 : j < l2.length * 6 := by rw [← cellsOf_len]; exact (List.getElem?_eq_some_iff.1 hj).1
    obtain ⟨b, q, hA, _, _⟩ := hsrc.2 (by omega)
    injection hA with hA
    subst hA
    have e : (⟨b, q, none⟩ : Addr).add j = ⟨b, q + j, none⟩ := by unfold Addr.add; split <;> simp_all
    rw [e]
    exact hsrc.cells j u hj
set_option maxHeartbeats 4000000 in
theorem grow_any (n : Nat) (w : World) (hn : n ≤ 1000) : Calls Try.prog 106 #[.slice none 0 0, .int .i64 (n : Int)] w fun e w' => ∃ v, e = .returned v ∧ OwnR w.heap.size w' v [] ∧ Calm w w' := by
 by_cases h0 : n = 0
 ·subst h0
  go_enter Try.func106, Try.ntmps106
  go_wp2_with fail
  go_ret
  exact ⟨_, rfl, OwnR.nil _ _, Calm.refl _⟩
 obtain ⟨i0, hi0, hz0, hzs, hzb⟩ := info_parts infoElem
 obtain ⟨G, hG⟩ : ∃ G, G = grownCap w n 0 50 := ⟨_, rfl⟩
 have hGn : n ≤ G := by rw [hG]; exact grownCap_ge w _ _ _
 have hGm : G ≤ maxLen := by rw [hG]; exact grownCap_le_maxLen w n 0 _ (by unfold maxLen; omega)
 obtain ⟨C, hC⟩ : ∃ C : List Value, C = (Builtin.zeroCells (Value.agg #[.int .i64 0, .int .i64 0, .int .i64 0, .int .i64 0, .int .i64 0, .string ByteArray.empty]).cells n).toList ++ (Builtin.zeroCells (Value.agg #[.int .i64 0, .int .i64 0, .int .i64 0, .int .i64 0, .int .i64 0, .string ByteArray.empty]).cells (G - n)).toList := ⟨_, rfl⟩
 have hCl : C.length = G * 6 := by
  rw [hC, List.length_append, Array.length_toList, Array.length_toList, size_zeroCells, size_zeroCells]
  show n * 6 + (G - n) * 6 = G * 6
  omega
 have hrz : ∀ ty, (Builtin.append_ #[22, 3] ty #[.slice none 0 0, .int .i64 (n : Int)]).run Try.prog w = .ok (.slice (some ⟨w.heap.size, 0, none⟩) n G) (w.drew.alloc (.cells C.toArray 50)) := fun ty => by
  have h := Lib.run_append_grow_zeros w 22 3 ty 50 i0 _ .i64 .i64 Try.underlying22 Try.underlying3 hi0 hz0 none 0 0 [] (run_firstCells_none w.drew _ 0 0 0) n (by omega) (by omega) (by omega) (by omega) (by rw [hzb]; omega) (by rw [hzb]; exact growslice_fits (by omega) (by omega))
  rw [Nat.zero_add, ← hG] at h
  rw [h, hC]
  exact congrArg (fun x => Result.ok _ (w.drew.alloc (.cells x 50))) (Array.toList_inj.1 (by simp))
 have hO : OwnR w.heap.size (w.drew.alloc (.cells C.toArray 50)) (.slice (some ⟨w.heap.size, 0, none⟩) 0 G) [] :=
  OwnR.row (l := []) (Nat.le_refl _) (heap_alloc_new w.drew _) (Nat.zero_le _) hGm hCl rfl
 have HO := Lib.hid hO
 have hni : (0 : Int) < (n : Int) := by omega
 have hG0 : ¬ G = 0 := by omega
 clear hG hGn hGm hC hCl hi0 hz0 hzs hzb h0 hO
 go_enter Try.func106, Try.ntmps106
 go_wp2_with (at_builtin; refine Lib.wpList_append_run _ rfl _ _ _ _ rfl _ _ rfl rfl _ _ (hrz _) ?_)
 go_ret
 exact ⟨_, rfl, HO.out, ((Calm.refl w).drew).alloc _⟩
open Go.RowKit
set_option maxHeartbeats 8000000 in
theorem concat3_any (H : Nat) (A1 A2 A3 : Option Addr) (c1 c2 c3 : Nat) (l1 l2 l3 : List El) (w : World) (h : l1.length + l2.length + l3.length ≤ 1000) (hL1 : Lies w A1 l1) (hL2 : Lies w A2 l2) (hL3 : Lies w A3 l3) (t : Nat)
    (hx : w.heap[H]? = some (.cells #[.slice A1 l1.length c1, .slice A2 l2.length c2, .slice A3 l3.length c3] t (0, 0))) :
    Calls Try.prog 83 #[.slice (some ⟨H, 0, none⟩) 3 3] w fun e w' => ∃ v, e = .returned v ∧ OwnR w.heap.size w' v (l1 ++ l2 ++ l3) ∧ Calm w w' := by
  have x0 := cell_of_row _ _ 0 _ _ _ hx
  have x1 := cell_of_row _ _ 1 _ _ _ hx
  have x2 := cell_of_row _ _ 2 _ _ _ hx
  have hxs := (Array.getElem?_eq_some_iff.1 hx).1
  have HX0 := Lib.hid hx
  simp only [List.getElem?_toArray, List.getElem?_cons_zero, List.getElem?_cons_succ] at x0 x1 x2
  have cG := fun u => grow_any (l1.length + l2.length + l3.length) u (by omega)
  rw [show ((l1.length + l2.length + l3.length : Nat) : Int) = (l1.length : Int) + (l2.length : Int) + (l3.length : Int) from by omega] at cG
  have n1 : (l1.length : Int) ≤ 1000 := by omega
  have n2 : (l2.length : Int) ≤ 1000 := by omega
  have n3 : (l3.length : Int) ≤ 1000 := by omega
  have hc : (([] ++ l1 ++ l2).length + l3.length) * 56 ≤ 140737488355328 := by simp only [List.nil_append, List.length_append]; omega
  have hb : (([] ++ l1).length + l2.length) * 56 ≤ 140737488355328 := by simp only [List.nil_append]; omega
  have hb0 : (([] : List El).length + l1.length) * 56 ≤ 140737488355328 := by simp only [List.length_nil]; omega
  clear h
  go_enter Try.func83, Try.ntmps83
  go_wp2_with fail
  refine wp_loop_rounds 4 ?_
  rw [rounds_succ]
  go_wp2_with fail
  rw [rounds_succ]
  go_wp2_with fail
  rw [rounds_succ]
  go_wp2_with fail
  rw [rounds_succ]
  go_wp2_with (go_at_call 106; refine (cG _).mono ?_; rintro e w1 ⟨v, rfl, hov, hb1⟩; have hu := (Calm.refl w).call hb1; have HO := Lib.hid hov; replace hx := (hb1.block hxs).trans hx; clear hov hb1)
  have x0 := cell_of_row _ _ 0 _ _ _ hx
  have x1 := cell_of_row _ _ 1 _ _ _ hx
  simp only [List.getElem?_toArray, List.getElem?_cons_zero, List.getElem?_cons_succ] at x0 x1
  have HL1 := Lib.hid (hL1.calm hu)
  clear hL1
  have HL2 := Lib.hid hL2
  clear hL2
  have HL3 := Lib.hid hL3
  clear hL3
  refine wp_loop_rounds 4 ?_
  rw [rounds_succ]
  go_wp2_with (at_builtin; go_must (refine wpList_append_lies rfl _ _ rfl w.heap.size _ [] rfl HO.out _ _ l1 rfl HL1.out hb0 hu.size ?_); intro v2 w2 ho2 hc2; have hu2 := hc2 _ (Nat.le_refl _) hu; have HO2 := Lib.hid ho2; clear ho2 hc2; have y1 := cell_of_row _ _ 1 _ _ _ ((hu2.block hxs).trans HX0.out); simp only [List.getElem?_toArray, List.getElem?_cons_zero, List.getElem?_cons_succ] at y1)
  rw [rounds_succ]
  go_wp2_with (at_builtin; go_must (refine wpList_append_lies rfl _ _ rfl w.heap.size _ _ rfl HO2.out _ _ l2 rfl (HL2.out.calm hu2) hb hu2.size ?_); intro v3 w3 ho3 hc3; have hu3 := hc3 _ (Nat.le_refl _) hu2; have HO3 := Lib.hid ho3; clear ho3 hc3; have y2 := cell_of_row _ _ 2 _ _ _ ((hu3.block hxs).trans HX0.out); simp only [List.getElem?_toArray, List.getElem?_cons_zero, List.getElem?_cons_succ] at y2)
  rw [rounds_succ]
  go_wp2_with (at_builtin; go_must (refine wpList_append_lies rfl _ _ rfl w.heap.size _ _ rfl HO3.out _ _ l3 rfl (HL3.out.calm hu3) hc hu3.size ?_); intro v4 w4 ho4 hc4; have hu4 := hc4 _ (Nat.le_refl _) hu3; have HO4 := Lib.hid ho4; clear ho4 hc4)
  rw [rounds_succ]
  go_wp2_with fail
  go_ret
  exact ⟨_, rfl, HO4.out, hu4⟩
end Go.Proofs.Ytljjeolifdpedaa
