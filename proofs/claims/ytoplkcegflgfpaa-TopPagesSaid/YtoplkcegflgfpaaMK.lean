/- MK: texts of one kind in one file. -/
import Derived.Deep.AppendSrc
import Derived.Deep.RegionLaw
import Derived.Laws.Externs
import Derived.Lib.AppendZerosOnto
import Derived.Lib.Overlaps
import Derived.Lib.SliceRun
import Derived.Lib.Hide
import Derived.Outline
import Derived.IntWalk
import Derived.Deep.RegionWith
import Derived.Test.YtoplkcegflgfpaaMA
import Derived.Test.YtoplkcegflgfpaaMC
import Derived.Test.YtoplkcegflgfpaaMF
import Derived.Test.YtoplkcegflgfpaaMJ
import Derived.Test.YtoplkcegflgfpaaMG
import Derived.Test.YtoplkcegflgfpaaMH
/- Plain mathematics: writing and deleting in a run. -/
namespace Go.Proofs.Ytoplkcegflgfpaa

def upd (k : Int × Int × Int) (s : ByteArray) (t : Int) (e : El) : El := if e.key = k ∧ e.g = 0 then (if e.m = t then { e with s := s } else { e with g := t }) else e
def isSame (k : Int × Int × Int) (t : Int) (e : El) : Bool := decide (e.key = k ∧ e.g = 0 ∧ e.m = t)
def isOpen (k : Int × Int × Int) (e : El) : Bool := decide (e.key = k ∧ e.g = 0)
def fresh (k : Int × Int × Int) (s : ByteArray) (t : Int) : El := ⟨k.1, k.2.1, k.2.2, t, 0, s⟩
def ins (x : El) : List El → List El
  | [] => [x]
  | y :: l => if sLt x.key x.m y.key y.m then x :: y :: l else y :: ins x l
def putR (l : List El) (k : Int × Int × Int) (s : ByteArray) (t : Int) : List El := if l.any (isSame k t) then l.map (upd k s t) else ins (fresh k s t) (l.map (upd k s t))
def wrErr (l : List El) (x : El) : Int := if runErr l = 0 then (if x.err = 0 then (if x.m < latest l then 9 else 0) else x.err) else runErr l
def putErr (l : List El) (k : Int × Int × Int) (s : ByteArray) (t : Int) : Int := if wrErr l (fresh k s t) = 0 then (if l.any (isSame k t) then 0 else if 400 ≤ l.length then 8 else 0) else wrErr l (fresh k s t)
def cutStep (k : Int × Int × Int) (t : Int) (e : El) : Option El := if e.key = k ∧ e.g = 0 then (if e.m = t then none else some { e with g := t }) else some e
def cutR (l : List El) (k : Int × Int × Int) (t : Int) : List El := l.filterMap (cutStep k t)
def cutErr (l : List El) (k : Int × Int × Int) (t : Int) : Int := if wrErr l (fresh k { data := #[] } t) = 0 then (if l.any (isOpen k) then 0 else 4) else wrErr l (fresh k { data := #[] } t)
def insAt (l : List El) (i : Nat) (e : El) : List El := l.take i ++ e :: l.drop i
def delAt (l : List El) (i : Nat) : List El := l.take i ++ l.drop (i + 1)

set_option maxRecDepth 100000 in
theorem fresh_key (k : Int × Int × Int) (s : ByteArray) (t : Int) : (fresh k s t).key = k := rfl
set_option maxRecDepth 100000 in
theorem wrErr_zero {l : List El} {x : El} : wrErr l x = 0 ↔ Good l ∧ x.err = 0 ∧ latest l ≤ x.m := by
  unfold wrErr
  by_cases h1 : runErr l = 0
  · rw [if_pos h1]
    have hG := runErr_zero.1 h1
    by_cases h2 : x.err = 0
    · rw [if_pos h2]
      by_cases h3 : x.m < latest l
      · rw [if_pos h3]; constructor
        · intro h; omega
        · intro h; omega
      · rw [if_neg h3]; constructor
        · intro _; exact ⟨hG, h2, by omega⟩
        · intro _; rfl
    · rw [if_neg h2]; constructor
      · intro h; exact absurd h h2
      · intro h; exact h.2.1
  · rw [if_neg h1]; constructor
    · intro h; exact absurd h h1
    · intro h; exact absurd (runErr_zero.2 h.1) h1

set_option maxRecDepth 100000 in
theorem mem_bounds {l : List El} (h : Good l) {e : El} (he : e ∈ l) : 1 ≤ e.m ∧ e.m ≤ latest l ∧ e.g ≤ latest l ∧ (e.g = 0 ∨ e.m < e.g) := by
  have ht := err_time (h.2.1 e he)
  unfold timeOk at ht
  have h1 := latest_ge he
  have h2 := last_ge e
  omega
set_option maxRecDepth 100000 in
theorem open_at {l : List El} (h : Good l) {t : Int} (hl : latest l ≤ t) {k : Int × Int × Int} {e : El} (he : e ∈ l) : isAt k t e = isOpen k e := by
  have hb := mem_bounds h he
  unfold isAt isOpen El.live liveP
  rw [Bool.eq_iff_iff, decide_eq_true_eq, decide_eq_true_eq]
  constructor
  · rintro ⟨h1, h2⟩; exact ⟨h1, by omega⟩
  · rintro ⟨h1, h2⟩; exact ⟨h1, by omega⟩
set_option maxRecDepth 100000 in
theorem upd_not {k : Int × Int × Int} {s : ByteArray} {t : Int} {e : El} (h : isOpen k e = false) : upd k s t e = e := by
  unfold isOpen at h; rw [decide_eq_false_iff_not] at h
  unfold upd; rw [if_neg h]
set_option maxRecDepth 100000 in
theorem upd_open {k : Int × Int × Int} {s : ByteArray} {t : Int} {e : El} (h : isOpen k e = true) : upd k s t e = if e.m = t then { e with s := s } else { e with g := t } := by
  unfold isOpen at h; rw [decide_eq_true_eq] at h
  unfold upd; rw [if_pos h]
set_option maxRecDepth 100000 in
theorem upd_key (k : Int × Int × Int) (s : ByteArray) (t : Int) (e : El) : (upd k s t e).key = e.key := by
  unfold upd El.key; split <;> (try split) <;> rfl
set_option maxRecDepth 100000 in
theorem upd_m (k : Int × Int × Int) (s : ByteArray) (t : Int) (e : El) : (upd k s t e).m = e.m := by
  unfold upd; split <;> (try split) <;> rfl
set_option maxRecDepth 100000 in
/-- At most one record of a key is open. -/
theorem open_uniq {l : List El} (h : Good l) {k : Int × Int × Int} {i j : Nat} (hi : i < l.length) (hj : j < l.length) (h1 : isOpen k l[i] = true) (h2 : isOpen k l[j] = true) : i = j := by
  refine uniqAt h.2.2 (k := k) (t := latest l) hi hj ?_ ?_
  · rw [open_at h (Int.le_refl _) (List.getElem_mem hi)]; exact h1
  · rw [open_at h (Int.le_refl _) (List.getElem_mem hj)]; exact h2
set_option maxRecDepth 100000 in
/-- The open record of k, if there is one. -/
theorem hit_open {l : List El} (h : Good l) (k : Int × Int × Int) {t : Int} (hl : latest l ≤ t) :
    (hitB l (pos l k t) k t = true ∧ 0 < pos l k t ∧ ∃ (hi : pos l k t - 1 < l.length), isOpen k l[pos l k t - 1] = true ∧ (∀ j (hj : j < l.length), j ≠ pos l k t - 1 → isOpen k l[j] = false)) ∨
    (hitB l (pos l k t) k t = false ∧ ∀ e ∈ l, isOpen k e = false) := by
  rcases hitB_pos h.2.2 k t with ⟨h1, hi, h2, h3, _⟩ | ⟨h1, _, h3⟩
  · left
    rw [open_at h hl (List.getElem_mem hi)] at h2
    refine ⟨h1, h3, hi, h2, fun j hj hne => ?_⟩
    cases hp : isOpen k l[j]
    · rfl
    · exact absurd (open_uniq h hj hi hp h2) hne
  · right
    exact ⟨h1, fun e he => by rw [← open_at h hl he]; exact h3 e he⟩
set_option maxRecDepth 100000 in
theorem map_none {l : List El} {k : Int × Int × Int} {s : ByteArray} {t : Int} (h : ∀ e ∈ l, isOpen k e = false) : l.map (upd k s t) = l := by
  conv => rhs; rw [← List.map_id l]
  exact List.map_congr_left fun e he => upd_not (h e he)
set_option maxRecDepth 100000 in
theorem map_set {l : List El} {k : Int × Int × Int} {s : ByteArray} {t : Int} {i : Nat} (hi : i < l.length) (h : ∀ j (hj : j < l.length), j ≠ i → isOpen k l[j] = false) : l.map (upd k s t) = l.set i (upd k s t l[i]) := by
  refine List.ext_getElem (by simp) fun j h1 h2 => ?_
  rw [List.getElem_map, List.getElem_set]
  split
  · subst_vars; rfl
  · exact upd_not (h j (by simpa using h1) (by omega))
set_option maxRecDepth 100000 in
theorem same_none {l : List El} {k : Int × Int × Int} {t : Int} (h : ∀ e ∈ l, isOpen k e = false) : l.any (isSame k t) = false := by
  rw [List.any_eq_false]
  intro e he h2
  have := h e he
  unfold isOpen at this; unfold isSame at h2
  rw [decide_eq_false_iff_not] at this; rw [decide_eq_true_eq] at h2
  exact this ⟨h2.1, h2.2.1⟩
set_option maxRecDepth 100000 in
theorem same_at {l : List El} {k : Int × Int × Int} {t : Int} {i : Nat} (hi : i < l.length) (ho : isOpen k l[i] = true) (h : ∀ j (hj : j < l.length), j ≠ i → isOpen k l[j] = false) : l.any (isSame k t) = decide (l[i].m = t) := by
  unfold isOpen at ho; rw [decide_eq_true_eq] at ho
  rw [Bool.eq_iff_iff, List.any_eq_true, decide_eq_true_eq]
  constructor
  · rintro ⟨e, he, h2⟩
    obtain ⟨j, hj, rfl⟩ := List.getElem_of_mem he
    unfold isSame at h2; rw [decide_eq_true_eq] at h2
    by_cases hji : j = i
    · subst hji; exact h2.2.2
    · have := h j hj hji
      unfold isOpen at this; rw [decide_eq_false_iff_not] at this
      exact absurd ⟨h2.1, h2.2.1⟩ this
  · intro h2
    exact ⟨_, List.getElem_mem hi, by unfold isSame; rw [decide_eq_true_eq]; exact ⟨ho.1, ho.2, h2⟩⟩

set_option maxRecDepth 100000 in
/-- The place of x in rising records. -/
theorem ins_at {x : El} : ∀ {l : List El}, l.Pairwise (fun a b => sLt a.key a.m b.key b.m) → ins x l = insAt l (pos l x.key x.m) x
  | [], _ => rfl
  | y :: l, h => by
    rw [List.pairwise_cons] at h
    unfold ins
    by_cases hx : sLt x.key x.m y.key y.m
    · rw [if_pos hx]
      have h0 : pos (y :: l) x.key x.m = 0 := by
        unfold pos
        rw [List.countP_eq_zero]
        intro e he
        simp only [Bool.not_eq_true', decide_eq_false_iff_not, Classical.not_not]
        rcases List.mem_cons.1 he with rfl | he
        · exact hx
        · exact sLt_trans hx (h.1 e he)
      rw [h0]; rfl
    · rw [if_neg hx]
      have h1 : pos (y :: l) x.key x.m = pos l x.key x.m + 1 := by
        unfold pos
        rw [List.countP_cons_of_pos (by simp [hx])]
      rw [h1, ins_at h.2]
      rfl
set_option maxRecDepth 100000 in
theorem pos_map (l : List El) (k' : Int × Int × Int) (s : ByteArray) (t : Int) (k : Int × Int × Int) (u : Int) : pos (l.map (upd k' s t)) k u = pos l k u := by
  unfold pos
  rw [List.countP_map]
  congr 1
  funext e
  simp only [Function.comp, upd_key, upd_m]
set_option maxRecDepth 100000 in
theorem Fol.rise {l : List El} (h : l.Pairwise Fol) : l.Pairwise (fun a b => sLt a.key a.m b.key b.m) := h.imp fun h => h.1

set_option maxRecDepth 100000 in
/-- What a write makes of the records that were there is a run again. -/
theorem good_map {l : List El} (h : Good l) {k : Int × Int × Int} {s : ByteArray} {t : Int} (hl : latest l ≤ t) (ht : t ≤ 2147483647) (hs : (s.size : Int) ≤ 40) : Good (l.map (upd k s t)) := by
  refine ⟨by rw [List.length_map]; exact h.1, fun e he => ?_, ?_⟩
  · obtain ⟨x, hx, rfl⟩ := List.mem_map.1 he
    have hb := mem_bounds h hx
    have hx0 := h.2.1 x hx
    cases ho : isOpen k x
    · rw [upd_not ho]; exact hx0
    · rw [upd_open ho]
      unfold isOpen at ho; rw [decide_eq_true_eq] at ho
      unfold El.err at hx0 ⊢
      rw [elemErr_zero] at hx0
      split
      · exact elemErr_zero.2 ⟨hx0.1, hx0.2.1, hs⟩
      · refine elemErr_zero.2 ⟨hx0.1, ?_, hx0.2.2⟩
        unfold timeOk; simp only; omega
  · rw [List.pairwise_map, List.pairwise_iff_getElem]
    intro i j hi hj hij
    have hF := List.pairwise_iff_getElem.1 h.2.2 i j hi hj hij
    refine ⟨by rw [upd_key, upd_key, upd_m, upd_m]; exact hF.1, fun hk => ?_⟩
    rw [upd_key, upd_key] at hk
    have h2 := hF.2 hk
    have ho : isOpen k l[i] = false := by
      unfold isOpen; rw [decide_eq_false_iff_not]; exact fun h3 => h2.1 h3.2
    rw [upd_not ho, upd_m]
    exact h2
set_option maxRecDepth 100000 in
theorem pairwise_ins {l : List El} {i : Nat} {x : El} (h : l.Pairwise Fol) (h1 : ∀ e ∈ l.take i, Fol e x) (h2 : ∀ e ∈ l.drop i, Fol x e) : (insAt l i x).Pairwise Fol := by
  unfold insAt
  rw [List.pairwise_append, List.pairwise_cons]
  refine ⟨h.sublist (List.take_sublist _ _), ⟨h2, h.sublist (List.drop_sublist _ _)⟩, fun a ha b hb => ?_⟩
  rcases List.mem_cons.1 hb with rfl | hb
  · exact h1 a ha
  · have := List.take_append_drop i l
    rw [← this, List.pairwise_append] at h
    exact h.2.2 a ha b hb
set_option maxRecDepth 100000 in
/-- A new record among records of which none of its key is open. -/
theorem good_ins {l : List El} (h : Good l) {x : El} (hx : x.err = 0) (hl : latest l ≤ x.m) (hn : ∀ e ∈ l, e.key = x.key → e.g ≠ 0) (h4 : l.length < 400) : Good (insAt l (pos l x.key x.m) x) := by
  have hp := pos_spec h.2.2 x.key x.m
  refine ⟨?_, fun e he => ?_, pairwise_ins h.2.2 (fun e he => ?_) (fun e he => ?_)⟩
  · unfold insAt; rw [List.length_append, List.length_cons, List.length_take, List.length_drop]; omega
  · unfold insAt at he
    rcases List.mem_append.1 he with h1 | h1
    · exact h.2.1 e (List.mem_of_mem_take h1)
    · rcases List.mem_cons.1 h1 with rfl | h1
      · exact hx
      · exact h.2.1 e (List.mem_of_mem_drop h1)
  · have he2 := List.mem_of_mem_take he
    obtain ⟨i, hi, rfl⟩ := List.getElem_of_mem he
    rw [List.length_take] at hi
    have h1 := hp.1 i (by omega) (by omega)
    rw [List.getElem_take] at he2 ⊢
    have hb := mem_bounds h he2
    rcases sLt_tri l[i].key l[i].m x.key x.m with h3 | ⟨h3, h5⟩ | h3
    · exact ⟨h3, fun hk => ⟨hn _ he2 hk, by omega⟩⟩
    · have := hn _ he2 h3
      omega
    · exact absurd h3 h1
  · have he2 := List.mem_of_mem_drop he
    obtain ⟨i, hi, rfl⟩ := List.getElem_of_mem he
    rw [List.length_drop] at hi
    have h1 := hp.2 (pos l x.key x.m + i) (by omega) (by omega)
    rw [List.getElem_drop] at he2 ⊢
    have hb := mem_bounds h he2
    refine ⟨h1, fun hk => ?_⟩
    rw [← hk, sLt_same] at h1
    omega

/-! ### the three ways of a write -/
set_option maxRecDepth 100000 in
theorem sizes {l : List El} {x : El} (h : wrErr l x = 0) : (x.s.size : Int) ≤ 40 ∧ x.m ≤ 2147483647 ∧ 1 ≤ x.m := by
  have h2 := (wrErr_zero.1 h).2.1
  have ht := err_time h2
  unfold El.err at h2
  rw [elemErr_zero] at h2
  unfold timeOk at ht
  exact ⟨h2.2.2, by omega, by omega⟩
set_option maxRecDepth 100000 in
theorem put_same {l : List El} {k : Int × Int × Int} {s : ByteArray} {t : Int} {i : Nat} (hi : i < l.length) (ho : isOpen k l[i] = true) (h : ∀ j (hj : j < l.length), j ≠ i → isOpen k l[j] = false) (hm : l[i].m = t) :
    l.any (isSame k t) = true ∧ putR l k s t = l.set i { l[i] with s := s } := by
  have h1 : l.any (isSame k t) = true := by rw [same_at hi ho h]; exact decide_eq_true hm
  refine ⟨h1, ?_⟩
  unfold putR
  rw [if_pos h1, map_set hi h, upd_open ho, if_pos hm]
set_option maxRecDepth 100000 in
theorem put_new {l : List El} {k : Int × Int × Int} {s : ByteArray} {t : Int} (hG : Good l) {i : Nat} (hi : i < l.length) (ho : isOpen k l[i] = true) (h : ∀ j (hj : j < l.length), j ≠ i → isOpen k l[j] = false) (hm : l[i].m ≠ t) (hl : latest l ≤ t) (ht : t ≤ 2147483647) (hs : (s.size : Int) ≤ 40) :
    l.any (isSame k t) = false ∧ Good (l.set i { l[i] with g := t }) ∧ pos (l.set i { l[i] with g := t }) k t = pos l k t ∧ putR l k s t = insAt (l.set i { l[i] with g := t }) (pos l k t) (fresh k s t) := by
  have h1 : l.any (isSame k t) = false := by rw [same_at hi ho h]; exact decide_eq_false hm
  have h2 : l.map (upd k s t) = l.set i { l[i] with g := t } := by rw [map_set hi h, upd_open ho, if_neg hm]
  have h3 := good_map hG (k := k) (s := s) hl ht hs
  have h4 := pos_map l k s t k t
  refine ⟨h1, by rw [← h2]; exact h3, by rw [← h2]; exact h4, ?_⟩
  unfold putR
  rw [h1]
  show ins _ _ = _
  rw [ins_at (Fol.rise h3.2.2)]
  show insAt _ (pos _ k t) _ = _
  rw [h4, h2]
set_option maxRecDepth 100000 in
theorem put_none {l : List El} {k : Int × Int × Int} {s : ByteArray} {t : Int} (hG : Good l) (h : ∀ e ∈ l, isOpen k e = false) : l.any (isSame k t) = false ∧ putR l k s t = insAt l (pos l k t) (fresh k s t) := by
  refine ⟨same_none h, ?_⟩
  unfold putR
  rw [same_none h]
  show ins _ _ = _
  rw [map_none h, ins_at (Fol.rise hG.2.2)]
  rfl
set_option maxRecDepth 100000 in
theorem cut_filter {l : List El} {k : Int × Int × Int} {t : Int} (h : ∀ e ∈ l, isOpen k e = false) : cutR l k t = l := by
  unfold cutR
  induction l with
  | nil => rfl
  | cons x l ih =>
    have h1 := h x (by simp)
    unfold isOpen at h1; rw [decide_eq_false_iff_not] at h1
    rw [List.filterMap_cons]
    simp only [cutStep, if_neg h1]
    rw [ih fun e he => h e (by simp [he])]
set_option maxRecDepth 100000 in
theorem cut_at {l : List El} {k : Int × Int × Int} {t : Int} {i : Nat} (hi : i < l.length) (ho : isOpen k l[i] = true) (h : ∀ j (hj : j < l.length), j ≠ i → isOpen k l[j] = false) :
    cutR l k t = if l[i].m = t then delAt l i else l.set i { l[i] with g := t } := by
  have e : l = l.take i ++ l[i] :: l.drop (i + 1) := by rw [← List.drop_eq_getElem_cons hi, List.take_append_drop]
  have h1 : cutR (l.take i) k t = l.take i := cut_filter fun x hx => by
    obtain ⟨j, hj, rfl⟩ := List.getElem_of_mem hx
    rw [List.length_take] at hj
    rw [List.getElem_take]; exact h j (by omega) (by omega)
  have h2 : cutR (l.drop (i + 1)) k t = l.drop (i + 1) := cut_filter fun x hx => by
    obtain ⟨j, hj, rfl⟩ := List.getElem_of_mem hx
    rw [List.length_drop] at hj
    rw [List.getElem_drop]; exact h _ (by omega) (by omega)
  have h3 : cutR l k t = cutR (l.take i) k t ++ (cutR [l[i]] k t ++ cutR (l.drop (i + 1)) k t) := by
    unfold cutR
    conv => lhs; rw [e]
    rw [List.filterMap_append, ← List.singleton_append, List.filterMap_append]
  unfold isOpen at ho; rw [decide_eq_true_eq] at ho
  rw [h3, h1, h2]
  by_cases hm : l[i].m = t
  · rw [if_pos hm]
    simp [cutR, cutStep, ho, hm, delAt]
  · rw [if_neg hm, List.set_eq_take_append_cons_drop, if_pos hi]
    simp [cutR, cutStep, ho, hm]
set_option maxRecDepth 100000 in
theorem open_any {l : List El} {k : Int × Int × Int} {i : Nat} (hi : i < l.length) (ho : isOpen k l[i] = true) : l.any (isOpen k) = true := List.any_eq_true.2 ⟨_, List.getElem_mem hi, ho⟩
set_option maxRecDepth 100000 in
theorem open_no {l : List El} {k : Int × Int × Int} (h : ∀ e ∈ l, isOpen k e = false) : l.any (isOpen k) = false := by
  rw [List.any_eq_false]; intro e he; rw [h e he]; simp
set_option maxRecDepth 100000 in
theorem good_del {l : List El} (h : Good l) (i : Nat) : Good (delAt l i) := by
  have hs : (delAt l i).Sublist l := by
    unfold delAt
    conv => rhs; rw [← List.take_append_drop i l]
    refine List.Sublist.append (List.Sublist.refl _) ?_
    rw [← List.drop_drop]
    exact List.drop_sublist _ _
  exact ⟨Nat.le_trans hs.length_le h.1, fun e he => h.2.1 e (hs.mem he), h.2.2.sublist hs⟩

set_option maxRecDepth 100000 in
theorem set_key {l : List El} {i : Nat} (hi : i < l.length) {x : El} (hk : x.key = l[i].key) : ∀ e ∈ l.set i x, ∃ d ∈ l, d.key = e.key := fun e he => by
  rcases List.mem_or_eq_of_mem_set he with h | h
  · exact ⟨e, h, rfl⟩
  · exact ⟨l[i], List.getElem_mem hi, by rw [h, hk]⟩
set_option maxRecDepth 100000 in
theorem latest_set {l : List El} {i : Nat} {t : Int} (h : Good l) (hl : latest l ≤ t) (hi : i < l.length) : latest (l.set i { l[i] with g := t }) ≤ t := by
  have h0 := latest_nonneg l
  refine latest_le (by omega) fun e he => ?_
  rcases List.mem_or_eq_of_mem_set he with h1 | h1
  · exact Int.le_trans (latest_ge h1) hl
  · subst h1
    have hb := mem_bounds h (List.getElem_mem hi)
    exact last_le (by simp only; omega) (by simp only; omega)
set_option maxRecDepth 100000 in
/-- What Put makes of a run is a run. -/
theorem put_good {l : List El} {k : Int × Int × Int} {s : ByteArray} {t : Int} (hw : wrErr l (fresh k s t) = 0) (hp : putErr l k s t = 0) : Good (putR l k s t) := by
  obtain ⟨hG, hx, hl⟩ := wrErr_zero.1 hw
  obtain ⟨z1, z2, z3⟩ := sizes hw
  unfold putErr at hp
  rw [if_pos hw] at hp
  have hlt : latest l ≤ t := hl
  have z4 : 1 ≤ t := z3
  rcases hit_open hG k hlt with ⟨h1, h2, hi, h3, h4⟩ | ⟨h1, h2⟩
  · by_cases hm : l[pos l k t - 1].m = t
    · obtain ⟨e1, e2⟩ := put_same (s := s) hi h3 h4 hm
      rw [e2]
      have h5 := good_map hG (k := k) (s := s) hlt z2 z1
      rw [map_set hi h4, upd_open h3, if_pos hm] at h5
      exact h5
    · obtain ⟨e1, e2, e3, e4⟩ := put_new (s := s) hG hi h3 h4 hm hlt z2 z1
      rw [e1] at hp
      have h4' : l.length < 400 := by
        rcases Nat.lt_or_ge l.length 400 with h | h
        · exact h
        · rw [if_neg (by simp), if_pos h] at hp; omega
      have hno : ∀ e ∈ l.set (pos l k t - 1) { l[pos l k t - 1] with g := t }, e.key = (fresh k s t).key → e.g ≠ 0 := fun e he hk hg => by
        rw [fresh_key] at hk
        obtain ⟨j, hj, rfl⟩ := List.getElem_of_mem he
        rw [List.length_set] at hj
        rw [List.getElem_set] at hk hg
        split at hg
        · simp only at hg; omega
        · rename_i hne
          rw [if_neg hne] at hk
          have := h4 j hj (by omega)
          unfold isOpen at this; rw [decide_eq_false_iff_not] at this
          exact this ⟨hk, hg⟩
      have h9 : Good (insAt (l.set (pos l k t - 1) { l[pos l k t - 1] with g := t }) (pos (l.set (pos l k t - 1) { l[pos l k t - 1] with g := t }) k t) (fresh k s t)) := good_ins (x := fresh k s t) e2 hx (latest_set hG hlt hi) hno (by rw [List.length_set]; exact h4')
      rw [e3] at h9
      rw [e4]
      exact h9
  · obtain ⟨e1, e2⟩ := put_none (s := s) (t := t) hG h2
    rw [e1] at hp
    have h4' : l.length < 400 := by
      rcases Nat.lt_or_ge l.length 400 with h | h
      · exact h
      · rw [if_neg (by simp), if_pos h] at hp; omega
    rw [e2]
    exact good_ins (x := fresh k s t) hG hx hl (fun e he hk hg => by
      have := h2 e he
      unfold isOpen at this; rw [decide_eq_false_iff_not] at this
      exact this ⟨hk, hg⟩) h4'
set_option maxRecDepth 100000 in
theorem cut_good {l : List El} {k : Int × Int × Int} {t : Int} (hw : wrErr l (fresh k { data := #[] } t) = 0) : Good (cutR l k t) := by
  obtain ⟨hG, hx, hl⟩ := wrErr_zero.1 hw
  obtain ⟨z1, z2, z3⟩ := sizes hw
  have hlt : latest l ≤ t := hl
  rcases hit_open hG k hlt with ⟨h1, h2, hi, h3, h4⟩ | ⟨h1, h2⟩
  · rw [cut_at hi h3 h4]
    by_cases hm : l[pos l k t - 1].m = t
    · rw [if_pos hm]; exact good_del hG _
    · rw [if_neg hm]
      exact (put_new (s := { data := #[] }) hG hi h3 h4 hm hlt z2 z1).2.1
  · rw [cut_filter h2]; exact hG

/-! ### what the document's loops collect -/
def beyond (x : El) (y : El) : Bool := decide (sLt x.key x.m y.key y.m)
set_option maxRecDepth 100000 in
theorem ins_none {x : El} : ∀ {l : List El}, (∀ y ∈ l, beyond x y = false) → ins x l = l ++ [x]
  | [], _ => rfl
  | y :: l, h => by
    have h1 := h y (by simp)
    unfold beyond at h1; rw [decide_eq_false_iff_not] at h1
    unfold ins
    rw [if_neg h1, ins_none fun z hz => h z (by simp [hz])]
    rfl
set_option maxRecDepth 100000 in
theorem ins_some {x : El} : ∀ {a : List El} (b : List El), a.any (beyond x) = true → ins x (a ++ b) = ins x a ++ b
  | [], _, h => by simp at h
  | y :: a, b, h => by
    show ins x (y :: (a ++ b)) = _
    unfold ins
    by_cases h1 : sLt x.key x.m y.key y.m
    · rw [if_pos h1, if_pos h1]; rfl
    · rw [if_neg h1, if_neg h1]
      rw [List.any_cons] at h
      have h2 : beyond x y = false := by unfold beyond; rw [decide_eq_false_iff_not]; exact h1
      rw [h2, Bool.false_or] at h
      rw [ins_some b h]; rfl
set_option maxRecDepth 100000 in
theorem ins_first {x e : El} : ∀ {a : List El}, (∀ y ∈ a, beyond x y = false) → beyond x e = true → ins x (a ++ [e]) = a ++ [x] ++ [e]
  | [], _, h => by
    unfold beyond at h; rw [decide_eq_true_eq] at h
    show ins x [e] = _
    unfold ins
    rw [if_pos h]; rfl
  | y :: a, h0, h => by
    have h1 := h0 y (by simp)
    unfold beyond at h1; rw [decide_eq_false_iff_not] at h1
    show ins x (y :: (a ++ [e])) = _
    unfold ins
    rw [if_neg h1, ins_first (fun z hz => h0 z (by simp [hz])) h]
    rfl
set_option maxRecDepth 100000 in
theorem ins_mem {x e : El} : ∀ {l : List El}, e ∈ ins x l → e = x ∨ e ∈ l
  | [], h => by simp [ins] at h; exact .inl h
  | y :: l, h => by
    unfold ins at h
    split at h
    · rcases List.mem_cons.1 h with h | h
      · exact .inl h
      · exact .inr h
    · rcases List.mem_cons.1 h with h | h
      · exact .inr (by simp [h])
      · rcases ins_mem h with h | h
        · exact .inl h
        · exact .inr (by simp [h])
set_option maxRecDepth 100000 in
theorem any_not {x : El} {l : List El} (h : l.any (beyond x) = false) : ∀ y ∈ l, beyond x y = false := fun y hy => by
  rw [List.any_eq_false] at h
  have := h y hy
  simpa using this
set_option maxRecDepth 100000 in
theorem take_snoc3 {l : List El} {k : Nat} {e : El} (h : l[k]? = some e) : l.take (k + 1) = l.take k ++ [e] := by
  obtain ⟨hk, he⟩ := List.getElem?_eq_some_iff.1 h
  rw [List.take_succ_eq_append_getElem hk, he]

end Go.Proofs.Ytoplkcegflgfpaa

/- slices.Clone, slices.Insert of one record, slices.Delete of one record: over a row that the caller owns. -/
namespace Go.Proofs.Ytoplkcegflgfpaa
open Go.RowKit

/-- What lies below base is as it was. -/
def Keeps (base : Nat) (w w' : World) : Prop := ∀ w0 : World, w0.heap.size ≤ base → Calm w0 w → Calm w0 w'
def OwnEnd (base : Nat) (l : List El) (w : World) (e : Ending) (w' : World) : Prop := ∃ v, e = .returned v ∧ OwnR base w' v l ∧ Keeps base w w'

set_option maxRecDepth 100000 in
theorem infoElem6s : (Try.prog.info? 43).map (·.size) = some 6 := by kernel_rfl

def spl (cur : List Value) (o : Nat) (cs : List Value) : List Value := cur.take o ++ cs ++ cur.drop (o + cs.length)
set_option maxRecDepth 100000 in
/-- copy(d, s) of records, into a row. -/
theorem run_copy_el (w : World) (ty : TypeId) (g o dLen dCap : Nat) (a : Addr) (sLen sCap : Nat) (cur : List Value) (t : TypeId) (cs : List Value)
    (hg : w.heap[g]? = some (.cells cur.toArray t (0, 0))) (hn : cs.length = Nat.min sLen dLen * 6)
    (hsrc : ∀ j v, cs[j]? = some v → w.cell? (a.add j) = some v) (hfit : o + cs.length ≤ cur.length) (h1 : ∀ v ∈ cs, v.oneCell' = true) :
    (Builtin.copy_ #[25, 25] ty #[.slice (some ⟨g, o, none⟩) dLen dCap, .slice (some a) sLen sCap]).run Try.prog w =
      .ok (goInt (Nat.min sLen dLen)) (w.setRow g (spl cur o cs).toArray) := by
  have hl := run_loadCells_list (P := Try.prog) w a cs hsrc
  have hst := run_storeCells_at Try.prog g o t cs 0 cur.toArray w hg (by simpa using hfit) h1
  have hs := infoElem6s
  cases hq : Try.prog.info? 43 with
  | none => simp [hq] at hs
  | some i =>
    have hi : i.size = 6 := by simpa [hq] using hs
    simp [Builtin.copy_, run_underlying Try.underlying25, Builtin.lenOf, Builtin.firstCells, sizeOf, typeInfo, hq, hi, ← hn, hl, hst, spl]

set_option maxRecDepth 100000 in
/-- A copy whose run is known, as an operation of a plain region and of one that draws. -/
theorem wpList_copy_known {P : Program} {w : World} {ops : Array Oper} {rest : List Oper} {o : Oper} {a : Act} {Q : Exit → Act → World → Prop} (hgd : o.guard = none) (d s : Operand) (t : TypeId)
    (ho : o.op = .call { callee := .builtin .copy, args := #[d, s], argTypes := #[t, t] }) (v u : Value) (hd : a.eval d = v) (hs : a.eval s = u) {v' : Value} {w' : World}
    (hr : (Builtin.copy_ #[t, t] o.type #[v, u]).run P w = .ok v' w') (h : wpList P ops Q rest (a.put o.dst v') w') : wpList P ops Q (o :: rest) a w :=
  wpList_plain hgd fun _ hK => by
    unfold Oper.wp execOp
    simp only [ho, resolve, invoke, builtin, Sem.run_bind, Sem.run_pure, Result.andThen_ok, List.map_toArray, List.map_cons, List.map_nil, hd, hs, hr]
    exact hK _ _ h
set_option maxRecDepth 100000 in
theorem step_copy_known {P : Program} {ops : Array Oper} {o : Oper} {a : Act} {w : World} {K : Act → World → Prop} {Q : Exit → Act → World → Prop} {E : Prop}
    (hg : o.guard = none) (d x : Operand) (t : TypeId) (hop : o.op = Op.call { callee := Callee.builtin Builtin.copy, args := #[d, x], argTypes := #[t, t] })
    (v u : Value) (hd : a.eval d = v) (hx : a.eval x = u) {v' : Value} {w' : World} (hr : (Builtin.copy_ #[t, t] o.type #[v, u]).run P w = .ok v' w') (hK : K (a.put o.dst v') w') :
    if Region.wanted o (yielded ops a.tmps) = true then Oper.wp P o a w K Q else E := by
  have hw : Region.wanted o (yielded ops a.tmps) = true := by simp [Region.wanted, hg]
  rw [if_pos hw]
  unfold Oper.wp
  simp only [execOp, hop, resolve, invoke, builtin, Sem.run_bind, Sem.run_pure, Result.andThen_ok, List.map_toArray, List.map_cons, List.map_nil, hd, hx, hr]
  exact hK

set_option maxRecDepth 100000 in
theorem Lies.cells {w : World} {b q : Nat} {l : List El} (h : Lies w (some ⟨b, q, none⟩) l) : ∀ j v, (cellsOf l)[j]? = some v → w.cell? ⟨b, q + j, none⟩ = some v := fun j v hj => by
  have hlt : j < l.length * 6 := by rw [← cellsOf_len]; exact (List.getElem?_eq_some_iff.1 hj).1
  have hk : j / 6 < l.length := by omega
  have hel := List.getElem?_eq_getElem hk
  obtain ⟨b', q', hA, _, hat⟩ := h.2 (by omega)
  injection hA with hA
  injection hA with h1 h2
  subst h1; subst h2
  have h6 := hat _ _ hel
  rw [show j = j / 6 * 6 + j % 6 by omega, cellsOf_at l (j / 6) (j % 6) _ hel (by omega)] at hj
  have hm : j % 6 < 6 := by omega
  obtain ⟨h0, h1, h2, h3, h4, h5⟩ := h6
  rw [show q + j = q + j / 6 * 6 + j % 6 by omega]
  rcases (by omega : j % 6 = 0 ∨ j % 6 = 1 ∨ j % 6 = 2 ∨ j % 6 = 3 ∨ j % 6 = 4 ∨ j % 6 = 5) with e | e | e | e | e | e <;> rw [e] at hj ⊢ <;> simp [El.cells] at hj <;> subst hj <;> assumption

set_option maxRecDepth 100000 in
set_option maxHeartbeats 4000000 in
theorem clone_any (A : Option Addr) (c : Nat) (l : List El) (w : World) (hn : l.length ≤ 400) (hL : Lies w A l) :
    Calls Try.prog 20 #[.slice A l.length c] w fun e w' => ∃ v, e = .returned v ∧ OwnR w.heap.size w' v l ∧ Calm w w' := by
  rcases A with _ | ⟨b, q, sp⟩
  · have h0 : l = [] := by
      rcases Nat.eq_zero_or_pos l.length with h | h
      · exact List.eq_nil_of_length_eq_zero h
      · obtain ⟨_, _, h1, _⟩ := hL.2 h; cases h1
    subst h0
    have q22 : ∀ (w : World) (n c n' c' : Nat), (binOp .eql 25 (.slice none n c) (.slice none n' c')).run Try.prog w = .ok (.bool true) w := fun w n c n' c' => Lib.run_eql_slice_nil w _ _ none n c n' c' Try.underlying25
    go_enter Try.func20, Try.ntmps20
    go_wp2_with fail
    go_ret
    exact ⟨_, rfl, OwnR.nil _ _, Calm.refl _⟩
  · obtain ⟨i0, hi, hz0, hz1, hz2⟩ := info_parts infoElem
    have q22 : ∀ (w : World) (a : Addr) (n c n' c' : Nat), (binOp .eql 25 (.slice (some a) n c) (.slice none n' c')).run Try.prog w = .ok (.bool false) w := fun w a n c n' c' => Lib.run_eql_slice_nil w _ _ (some a) n c n' c' Try.underlying25
    have hsrc : Hid (∀ j v, (cellsOf l)[j]? = some v → (w.alloc (.cells #[] 43)).cell? ((⟨b, q, sp⟩ : Addr).add j) = some v) := show ∀ _, _ from fun j v hj => by
      have hlt : j < l.length * 6 := by rw [← cellsOf_len]; exact (List.getElem?_eq_some_iff.1 hj).1
      obtain ⟨b', q', hA, hb, _⟩ := hL.2 (by omega)
      injection hA with hA
      injection hA with h1 h2 h3
      subst h1; subst h2; subst h3
      have := hL.cells j v hj
      have e : (⟨b, q, none⟩ : Addr).add j = ⟨b, q + j, none⟩ := by unfold Addr.add; split <;> simp_all
      rw [e, World.cell?_alloc_lt _ _ _ hb]; exact this
    have hlen : (cellsOf l).length = l.length * 6 := cellsOf_len l
    have HLEN := Lib.hid hlen
    have hone : Hid (∀ u ∈ cellsOf l, u.oneCell' = true) := cellsOf_one l
    have hbig : l.length * 56 ≤ 140737488355328 := by omega
    have hmax : l.length ≤ maxLen := by unfold maxLen; omega
    clear hlen hL
    go_enter Try.func20, Try.ntmps20
    go_wp2_with (at_builtin; refine wpList_append_own _ rfl _ _ 25 rfl w.heap.size 43 i0 _ 6 56 Try.underlying25 hi hz0 hz1 hz2 rfl (by decide) _ _ _ rfl (World.ownsRow_made w #[] 0 (Nat.le_refl _) (Nat.zero_le _) (by simp)) ⟨b, q, sp⟩ l.length c (cellsOf l) rfl HLEN.out hsrc.out hone.out (by rw [Nat.zero_add]; exact hmax) (by rw [Nat.zero_add]; exact hbig) (by simp) ?_; intro v' w1 hown hgrow _)
    have hO : OwnR w.heap.size w1 v' l := by unfold OwnR; simpa using hown
    have hC : Calm w w1 := Below.grown ((Calm.refl w).alloc _) hgrow (by simp) (by intro k hk; cases hk; exact Nat.le_refl _)
    clear hown hgrow
    go_wp2_with fail
    go_ret
    exact ⟨_, rfl, hO, hC⟩

/-! ### the rows' contents -/
set_option maxRecDepth 100000 in
theorem insAt_len {l : List El} {i : Nat} (e : El) (hi : i ≤ l.length) : (insAt l i e).length = l.length + 1 := by
  unfold insAt; rw [List.length_append, List.length_cons, List.length_take, List.length_drop]; omega
set_option maxRecDepth 100000 in
theorem cellsOf_app (a b : List El) : cellsOf (a ++ b) = cellsOf a ++ cellsOf b := by unfold cellsOf; simp
set_option maxRecDepth 100000 in
theorem cellsOf_take {l : List El} {i : Nat} (hi : i ≤ l.length) : (cellsOf l).take (i * 6) = cellsOf (l.take i) := by
  have h := cellsOf_app (l.take i) (l.drop i)
  rw [List.take_append_drop] at h
  rw [h]
  exact List.take_left' (by rw [cellsOf_len, List.length_take]; congr 1; omega)
set_option maxRecDepth 100000 in
theorem cellsOf_drop {l : List El} {i : Nat} (hi : i ≤ l.length) : (cellsOf l).drop (i * 6) = cellsOf (l.drop i) := by
  have h := cellsOf_app (l.take i) (l.drop i)
  rw [List.take_append_drop] at h
  rw [h]
  exact List.drop_left' (by rw [cellsOf_len, List.length_take]; congr 1; omega)
set_option maxRecDepth 100000 in
theorem cellsOf_ins (l : List El) (i : Nat) (e : El) : cellsOf (insAt l i e) = cellsOf (l.take i) ++ e.cells ++ cellsOf (l.drop i) := by
  unfold insAt; rw [cellsOf_app, List.append_assoc]; rfl
set_option maxRecDepth 100000 in
theorem spl_mid (a x c y : List Value) (h : x.length = y.length) (o : Nat) (ho : o = a.length) : spl (a ++ x ++ c) o y = a ++ y ++ c := by
  subst ho
  have e1 : (a ++ x ++ c).take a.length = a := by rw [List.append_assoc]; exact List.take_left' rfl
  have e2 : (a ++ x ++ c).drop (a.length + y.length) = c := List.drop_left' (by rw [List.length_append, h])
  unfold spl
  rw [e1, e2]
set_option maxRecDepth 100000 in
theorem parts {cur : List Value} {l : List El} {i : Nat} (hc : cur.take (l.length * 6) = cellsOf l) (hs : (l.length + 1) * 6 ≤ cur.length) :
    ∃ d r, cur = cellsOf (l.take i) ++ cellsOf (l.drop i) ++ d ++ r ∧ d.length = 6 ∧ r = cur.drop ((l.length + 1) * 6) := by
  refine ⟨(cur.drop (l.length * 6)).take 6, cur.drop ((l.length + 1) * 6), ?_, ?_, rfl⟩
  · rw [← cellsOf_app, List.take_append_drop, ← hc, List.append_assoc]
    have h1 : (cur.drop (l.length * 6)).drop 6 = cur.drop ((l.length + 1) * 6) := by rw [List.drop_drop]; congr 1; omega
    rw [← h1, List.take_append_drop, List.take_append_drop]
  · rw [List.length_take, List.length_drop]; omega
set_option maxRecDepth 100000 in
theorem row_shift {cur : List Value} {l : List El} {i : Nat} (e : El) (hi : i ≤ l.length) (hc : cur.take (l.length * 6) = cellsOf l) (hs : (l.length + 1) * 6 ≤ cur.length) :
    spl (spl cur ((i + 1) * 6) (cellsOf (l.drop i))) (i * 6) e.cells = cellsOf (insAt l i e) ++ cur.drop ((l.length + 1) * 6) := by
  obtain ⟨d, r, hcur, hd, hr⟩ := parts (i := i) hc hs
  have hl1 : (cellsOf (l.take i)).length = i * 6 := by rw [cellsOf_len, List.length_take]; congr 1; omega
  have hl2 : (cellsOf (l.drop i)).length = (l.length - i) * 6 := by rw [cellsOf_len, List.length_drop]
  rw [← hr]
  -- the row as: what is ahead of i; six cells; as many as stand from i on; the rest
  obtain ⟨x, y, hxy, hx⟩ : ∃ x y, cellsOf (l.drop i) ++ d = x ++ y ∧ x.length = 6 := ⟨(cellsOf (l.drop i) ++ d).take 6, (cellsOf (l.drop i) ++ d).drop 6, (List.take_append_drop _ _).symm, by rw [List.length_take, List.length_append]; omega⟩
  have hy : y.length = (cellsOf (l.drop i)).length := by
    have := congrArg List.length hxy
    rw [List.length_append, List.length_append] at this; omega
  have h1 : cur = (cellsOf (l.take i) ++ x) ++ y ++ r := by
    rw [hcur, List.append_assoc (cellsOf (l.take i)), hxy]; simp
  have h2 : spl cur ((i + 1) * 6) (cellsOf (l.drop i)) = (cellsOf (l.take i) ++ x) ++ cellsOf (l.drop i) ++ r := by
    rw [h1]
    exact spl_mid _ _ _ _ hy _ (by rw [List.length_append, hl1, hx]; omega)
  rw [h2, cellsOf_ins]
  have h3 := spl_mid (cellsOf (l.take i)) x (cellsOf (l.drop i) ++ r) e.cells (by rw [hx]; rfl) (i * 6) hl1.symm
  rw [show (cellsOf (l.take i) ++ x) ++ cellsOf (l.drop i) ++ r = cellsOf (l.take i) ++ x ++ (cellsOf (l.drop i) ++ r) by simp, h3]
  simp
set_option maxRecDepth 100000 in
theorem row_fresh {cur : List Value} {l : List El} {i : Nat} (e : El) (hi : i ≤ l.length) (hc : cur.take (i * 6) = cellsOf (l.take i)) (hs : (l.length + 1) * 6 ≤ cur.length) :
    spl (spl cur (i * 6) e.cells) ((i + 1) * 6) (cellsOf (l.drop i)) = cellsOf (insAt l i e) ++ cur.drop ((l.length + 1) * 6) := by
  have hl1 : (cellsOf (l.take i)).length = i * 6 := by rw [cellsOf_len, List.length_take]; congr 1; omega
  have hl2 : (cellsOf (l.drop i)).length = (l.length - i) * 6 := by rw [cellsOf_len, List.length_drop]
  obtain ⟨x, y, hxy, hx, hy⟩ : ∃ x y, cur = cellsOf (l.take i) ++ x ++ y ++ cur.drop ((l.length + 1) * 6) ∧ x.length = 6 ∧ y.length = (cellsOf (l.drop i)).length := by
    refine ⟨(cur.drop (i * 6)).take 6, ((cur.drop (i * 6)).drop 6).take ((l.length - i) * 6), ?_, ?_, ?_⟩
    · rw [← hc]
      have h1 : cur.drop ((l.length + 1) * 6) = ((cur.drop (i * 6)).drop 6).drop ((l.length - i) * 6) := by rw [List.drop_drop, List.drop_drop]; congr 1; omega
      rw [h1, List.append_assoc, List.take_append_drop, List.append_assoc, List.take_append_drop, List.take_append_drop]
    · rw [List.length_take, List.length_drop]; omega
    · rw [List.length_take, List.length_drop, List.length_drop, hl2]; omega
  generalize cur.drop ((l.length + 1) * 6) = r at hxy ⊢
  rw [hxy, cellsOf_ins]
  have h2 := spl_mid (cellsOf (l.take i)) x (y ++ r) e.cells (by rw [hx]; rfl) (i * 6) hl1.symm
  rw [show cellsOf (l.take i) ++ x ++ y ++ r = cellsOf (l.take i) ++ x ++ (y ++ r) by simp, h2]
  have h3 := spl_mid (cellsOf (l.take i) ++ e.cells) y r (cellsOf (l.drop i)) hy ((i + 1) * 6) (by rw [List.length_append, hl1]; show _ = _ + 6; omega)
  rw [show cellsOf (l.take i) ++ e.cells ++ (y ++ r) = cellsOf (l.take i) ++ e.cells ++ y ++ r by simp, h3]
set_option maxRecDepth 100000 in
/-- A row whose first cells are those of l, in a block from base on. -/
theorem OwnR.row {base g cap : Nat} {w : World} {l : List El} {cur : List Value} (hb : base ≤ g) (hg : w.heap[g]? = some (.cells cur.toArray 43 (0, 0))) (hn : l.length ≤ cap) (hc : cap ≤ maxLen) (hs : cur.length = cap * 6) (ht : cur.take (l.length * 6) = cellsOf l) :
    OwnR base w (.slice (some ⟨g, 0, none⟩) l.length cap) l :=
  ⟨cellsOf_len l, .inr ⟨g, cap, cur.toArray, rfl, hb, hg, hn, hc, by simpa using hs, by simpa using ht⟩⟩
set_option maxRecDepth 100000 in
theorem spl_len {cur cs : List Value} {o : Nat} (h : o + cs.length ≤ cur.length) : (spl cur o cs).length = cur.length := by
  unfold spl; simp only [List.length_append, List.length_take, List.length_drop]; omega
set_option maxRecDepth 100000 in
theorem cellsOf_set : ∀ {l : List El} {i j : Nat} {u : Value} {x : El} (hi : i < l.length) (_ : j < 6) (_ : x.cells = l[i].cells.set j u), (cellsOf l).set (i * 6 + j) u = cellsOf (l.set i x)
  | [], _, _, _, _, hi, _, _ => absurd hi (by simp)
  | y :: l, 0, j, u, x, hi, hj, hx => by
    show (y.cells ++ cellsOf l).set (0 * 6 + j) u = x.cells ++ cellsOf l
    rw [Nat.zero_mul, Nat.zero_add, List.set_append_left _ _ (by rw [cells_len]; exact hj), hx]
    rfl
  | y :: l, i + 1, j, u, x, hi, hj, hx => by
    show (y.cells ++ cellsOf l).set ((i + 1) * 6 + j) u = y.cells ++ cellsOf (l.set i x)
    rw [List.set_append_right _ _ (by rw [cells_len]; omega), cells_len, show (i + 1) * 6 + j - 6 = i * 6 + j by omega]
    congr 1
    exact cellsOf_set (l := l) (i := i) (by simpa using hi) hj hx
set_option maxRecDepth 100000 in
/-- One field of a record is stored in an owned row. -/
theorem OwnR.set {base g n cap i j : Nat} {w : World} {l : List El} {u : Value} {x : El} (h : OwnR base w (.slice (some ⟨g, 0, none⟩) n cap) l) (hi : i < l.length) (hj : j < 6) (hx : x.cells = l[i].cells.set j u) :
    OwnR base (w.setCell ⟨g, i * 6 + j, none⟩ u) (.slice (some ⟨g, 0, none⟩) n cap) (l.set i x) := by
  have hn : n = l.length := by
    rcases h.2 with ⟨h1, _⟩ | ⟨g', cap', cur, h1, _⟩
    · cases h1
    · injection h1
  subst hn
  have h1 := (World.ownsRow.stored h (i * 6 + j) u).1
  unfold OwnR
  rw [List.length_set, ← cellsOf_set hi hj hx]
  exact h1
set_option maxRecDepth 100000 in
theorem OwnR.cell {base g n cap i : Nat} {w : World} {l : List El} (h : OwnR base w (.slice (some ⟨g, 0, none⟩) n cap) l) (hi : i < l.length) : ElAt w g (i * 6) l[i] ∧ (∀ j, w.frozen? ⟨g, j, none⟩ = false) ∧ base ≤ g ∧ g < w.heap.size ∧ n = l.length ∧ n ≤ cap := by
  have hn : n = l.length ∧ n ≤ cap := by
    rcases h.2 with ⟨h1, _⟩ | ⟨g', cap', cur, h1, _, _, h2, _⟩
    · cases h1
    · injection h1 with h3 h4 h5
      exact ⟨h4, by omega⟩
  obtain ⟨hn, hnc⟩ := hn
  subst hn
  have key : ∀ j, j < 6 → w.cell? ⟨g, i * 6 + j, none⟩ = l[i].cells[j]? := fun j hj => by
    rw [World.ownsRow.cellAt h (i * 6 + j) (by omega), cellsOf_at l i j _ (List.getElem?_eq_getElem hi) hj]
  have hlt := h.lt g rfl
  exact ⟨⟨key 0 (by omega), key 1 (by omega), key 2 (by omega), key 3 (by omega), key 4 (by omega), key 5 (by omega)⟩, fun j => World.ownsRow.frozenAt h j, hlt.1, hlt.2, rfl, hnc⟩
set_option maxRecDepth 100000 in
theorem OwnR.some {base : Nat} {w : World} {v : Value} {l : List El} (h : OwnR base w v l) (hl : 0 < l.length) : ∃ g cap, v = .slice (some ⟨g, 0, none⟩) l.length cap := by
  rcases h.2 with ⟨_, h1⟩ | ⟨g', cap', cur, h1, _⟩
  · omega
  · exact ⟨g', cap', h1⟩
set_option maxRecDepth 100000 in
theorem OwnR.reads {base n c : Nat} {A : Option Addr} {w : World} {l : List El} (h : OwnR base w (.slice A n c) l) (hw : ∀ e ∈ l, e.wf) : n = l.length ∧ Lies w A l := by
  obtain ⟨A', c', hv, _, _, hL⟩ := h.lies hw
  injection hv with h1 h2 h3
  subst h1
  exact ⟨h2, hL⟩
set_option maxRecDepth 100000 in
theorem Good.wf {l : List El} (h : Good l) : ∀ e ∈ l, e.wf := fun e he => by
  have := mem_bounds h he
  unfold El.wf; omega
end Go.Proofs.Ytoplkcegflgfpaa

/- slices.Insert of one record. -/
namespace Go.Proofs.Ytoplkcegflgfpaa
open Go.RowKit

set_option maxRecDepth 100000 in
theorem zero6 : ∀ w, (Go.sizeOf 43).run Try.prog w = .ok 6 w := fun _ => by kernel_rfl

set_option maxRecDepth 100000 in
set_option maxHeartbeats 8000000 in
theorem insert_shift (g h i n cap : Nat) (l : List El) (cur : List Value) (p o f m gg : Int) (s : ByteArray) (w : World) (hn : n = l.length) (hi : i < n) (hn4 : n ≤ 400) (hroom : n + 1 ≤ cap) (hc63 : cap ≤ 9223372036854775807)
    (hg : w.heap[g]? = some (.cells cur.toArray 43 (0, 0))) (hs : cur.length = cap * 6) (ht : cur.take (n * 6) = cellsOf l) (hh : w.heap[h]? = some (.cells #[.int .i64 p, .int .i64 o, .int .i64 f, .int .i64 m, .int .i64 gg, .string s] 43 (0, 0))) (hne : h ≠ g) :
    Calls Try.prog 75 #[.slice (some ⟨g, 0, none⟩) n cap, .int .i64 i, .slice (some ⟨h, 0, none⟩) 1 1] w fun e w' => e = .returned (.slice (some ⟨g, 0, none⟩) (n + 1) cap) ∧
      w'.heap[g]? = some (.cells (spl (spl cur ((i + 1) * 6) (cellsOf (l.drop i))) (i * 6) (El.cells ⟨p, o, f, m, gg, s⟩)).toArray 43 (0, 0)) ∧ w.grownBy w' (some g) := by
  have hov : ∀ lb cb, (callFunc 105 #[.slice (some ⟨h, 0, none⟩) 1 1, .slice (some ⟨g, (i + 1) * 6, none⟩) lb cb]).run Try.prog w = .ok (.value (.bool false)) w := fun lb cb => by
    rw [run_callFunc_extern Try.func105 (by kernel_rfl) (by kernel_rfl) (by kernel_rfl) (e := Extern.SlicesOverlaps.overlaps #[25, 25] #[4]) (by kernel_rfl),
      Lib.run_overlaps_apart w 25 4 43 Try.underlying25 6 zero6 ⟨h, 0, none⟩ ⟨g, (i + 1) * 6, none⟩ 1 1 lb cb hne 43 43 6 cur.toArray.size (by simp [World.shape?, hh]) (by simp [World.shape?, hg]) (by rw [List.size_toArray, hs]; omega) (frozen_of_row _ _ _ _ _ hh) (frozen_of_row _ _ _ _ _ hh)]
    rfl
  have hdl : (cellsOf (l.drop i)).length = (n - i) * 6 := by rw [cellsOf_len, List.length_drop, hn]
  have hcell : ∀ j v, (cellsOf (l.drop i))[j]? = some v → w.cell? ⟨g, i * 6 + j, none⟩ = some v := fun j v hj => by
    have hj2 : j < (n - i) * 6 := by rw [← hdl]; exact (List.getElem?_eq_some_iff.1 hj).1
    rw [← cellsOf_drop (by omega), List.getElem?_drop, ← ht, List.getElem?_take, if_pos (by omega)] at hj
    rw [cell_of_row _ _ _ _ _ _ hg, ← hj, List.getElem?_toArray]
  have hfit1 : (i + 1) * 6 + (cellsOf (l.drop i)).length ≤ cur.length := by omega
  obtain ⟨c1, hc1⟩ : ∃ c1, c1 = spl cur ((i + 1) * 6) (cellsOf (l.drop i)) := ⟨_, rfl⟩
  have hc1l : c1.length = cur.length := by rw [hc1]; exact spl_len hfit1
  have hcp1 : ∀ ty dc sc, (Builtin.copy_ #[25, 25] ty #[.slice (some ⟨g, (i + 1) * 6, none⟩) (n - i) dc, .slice (some ⟨g, i * 6, none⟩) (n + 1 - i) sc]).run Try.prog w.drew = .ok (goInt (Nat.min (n + 1 - i) (n - i))) (w.drew.setRow g c1.toArray) := fun ty dc sc => by
    rw [hc1]
    refine run_copy_el w.drew ty g ((i + 1) * 6) (n - i) dc ⟨g, i * 6, none⟩ (n + 1 - i) sc cur _ (cellsOf (l.drop i)) hg (by rw [hdl]; congr 1; simp only [Nat.min_def]; split <;> omega) (fun j v hj => ?_) hfit1 (cellsOf_one _)
    rw [Addr.add_lit]; exact hcell j v hj
  have hcp2 : ∀ W : World, W.heap = (w.drew.setRow g c1.toArray).heap → ∀ ty dc, (Builtin.copy_ #[25, 25] ty #[.slice (some ⟨g, i * 6, none⟩) (n + 1 - i) dc, .slice (some ⟨h, 0, none⟩) 1 1]).run Try.prog W = .ok (goInt (Nat.min 1 (n + 1 - i))) (W.setRow g (spl c1 (i * 6) (El.cells ⟨p, o, f, m, gg, s⟩)).toArray) := fun W hW ty dc => by
    refine run_copy_el W ty g (i * 6) (n + 1 - i) dc ⟨h, 0, none⟩ 1 1 c1 43 _ (by rw [hW]; exact setRow_heap _ _ _ _ _ _ hg) (by show 6 = _; simp only [Nat.min_def]; split <;> omega) (fun j v hj => ?_) (by show _ + 6 ≤ _; omega) (cells_one _)
    have e : (⟨h, 0, none⟩ : Addr).add j = ⟨h, j, none⟩ := by unfold Addr.add; split <;> simp_all
    have hhW : W.heap[h]? = some (.cells #[.int .i64 p, .int .i64 o, .int .i64 f, .int .i64 m, .int .i64 gg, .string s] 43 (0, 0)) := by rw [hW, setRow_other _ _ _ _ hne]; exact hh
    rw [e, cell_of_row _ _ _ _ _ _ hhW, ← hj]; simp [El.cells]
  have hfin : ∀ W : World, W.heap = (w.drew.setRow g c1.toArray).heap → W.os = w.os → W.tape = w.tape → W.output = w.output → (W.setRow g (spl c1 (i * 6) (El.cells ⟨p, o, f, m, gg, s⟩)).toArray).heap[g]? = some (.cells (spl c1 (i * 6) (El.cells ⟨p, o, f, m, gg, s⟩)).toArray 43 (0, 0)) ∧ w.grownBy (W.setRow g (spl c1 (i * 6) (El.cells ⟨p, o, f, m, gg, s⟩)).toArray) (some g) := fun W hW h1 h2 h3 => by
    refine ⟨setRow_heap _ _ c1.toArray _ _ _ (by rw [hW]; exact setRow_heap _ _ _ _ _ _ hg), h1, h2, h3, ?_, fun k hk hne' => ?_⟩
    · rw [show (W.setRow g _).heap.size = W.heap.size by simp, hW]; simp
    · have hkg : k ≠ g := fun e => hne' (by rw [e])
      rw [setRow_other _ _ _ _ hkg, hW, setRow_other _ _ _ _ hkg]
      rfl
  rw [← hc1]
  have hin : i ≤ n := by omega
  have hz2 : ¬ ((i : Int) = (n : Int)) := by omega
  have hw1 : IntKind.i64.wrap ((i : Int) + 1) = (i : Int) + 1 := by rw [IntKind.wrap_i64]; omega
  have hb1 : (0 : Int) ≤ (i : Int) + 1 := by omega
  have htn : ((i : Int) + 1).toNat = i + 1 := by omega
  have hb2 : ¬ (cap = i + 1) := by omega
  have hb3 : (i : Int) ≤ (n : Int) + 1 := by omega
  have hb4 : ¬ (cap = i) := by omega
  have hb5 : (i : Int) < (n : Int) := by omega
  have hb6 : (n : Int) + 1 ≤ (cap : Int) := by omega
  clear hdl hcell hfit1 hc1 hc1l hn ht hs hg hh
  go_enter Try.func75, Try.ntmps75
  go_wp2_with (simp only [hov])
  go_region_law (refine step_copy_known rfl _ _ 25 rfl _ _ (by simp [Act.eval, Act.put]) (by simp [Act.eval, Act.put]) (hcp1 _ _ _) ?_)
  go_wp2_with (at_builtin; refine wpList_copy_known rfl _ _ 25 rfl _ _ rfl rfl (hcp2 _ rfl _ _) ?_)
  go_ret
  exact ⟨rfl, hfin _ rfl rfl rfl rfl⟩

def GrowEnd (w : World) (l : List El) (i : Nat) (x : El) (e : Ending) (w' : World) : Prop :=
  ∃ (G : Nat) (C : List Value), e = .returned (.slice (some ⟨w.heap.size, 0, none⟩) (l.length + 1) G) ∧ l.length + 1 ≤ G ∧ G ≤ maxLen ∧ C.length = G * 6 ∧ C.take (i * 6) = cellsOf (l.take i) ∧
    w'.heap[w.heap.size]? = some (.cells (spl (spl C (i * 6) x.cells) ((i + 1) * 6) (cellsOf (l.drop i))).toArray 43 (0, 0)) ∧ Calm w w'

set_option maxRecDepth 100000 in
set_option maxHeartbeats 8000000 in
theorem insert_grow (g h i n cap : Nat) (l : List El) (cur : List Value) (p o f m gg : Int) (s : ByteArray) (w : World) (hn : n = l.length) (hi : i < n) (hn4 : n ≤ 400) (hnc : n ≤ cap) (hroom : cap < n + 1)
    (hg : w.heap[g]? = some (.cells cur.toArray 43 (0, 0))) (ht : cur.take (n * 6) = cellsOf l) (hh : w.heap[h]? = some (.cells #[.int .i64 p, .int .i64 o, .int .i64 f, .int .i64 m, .int .i64 gg, .string s] 43 (0, 0))) :
    Calls Try.prog 75 #[.slice (some ⟨g, 0, none⟩) n cap, .int .i64 i, .slice (some ⟨h, 0, none⟩) 1 1] w (GrowEnd w l i ⟨p, o, f, m, gg, s⟩) := by
  obtain ⟨i0, hi0, hz0, hzs, hzb⟩ := info_parts infoElem
  have hgw : g < w.heap.size := (Array.getElem?_eq_some_iff.1 hg).1
  have hhw : h < w.heap.size := (Array.getElem?_eq_some_iff.1 hh).1
  have hcl : ∀ j v, (cellsOf l)[j]? = some v → w.cell? ⟨g, j, none⟩ = some v := fun j v hj => by
    have hj2 : j < n * 6 := by rw [hn, ← cellsOf_len]; exact (List.getElem?_eq_some_iff.1 hj).1
    rw [← ht, List.getElem?_take, if_pos hj2] at hj
    rw [cell_of_row _ _ _ _ _ _ hg, ← hj, List.getElem?_toArray]
  have hdl : (cellsOf (l.drop i)).length = (n - i) * 6 := by rw [cellsOf_len, List.length_drop, hn]
  have htl : (cellsOf (l.take i)).length = i * 6 := by rw [cellsOf_len, List.length_take]; congr 1; omega
  have hkk : (n : Int) + 1 - (i : Int) = ((n + 1 - i : Nat) : Int) := by omega
  have hik : i + (n + 1 - i) = n + 1 := by omega
  have hold : (Builtin.firstCells i0.size i (.slice (some ⟨g, 0, none⟩) i cap)).run Try.prog w.drew = .ok (cellsOf (l.take i)).toArray w.drew := by
    rw [hzs]
    refine run_firstCells_some w.drew 6 i ⟨g, 0, none⟩ i cap (cellsOf (l.take i)) htl fun j v hj => ?_
    have e : (⟨g, 0, none⟩ : Addr).add j = ⟨g, j, none⟩ := by unfold Addr.add; split <;> simp_all
    rw [e]
    rw [← cellsOf_take (by omega), List.getElem?_take] at hj
    split at hj
    · exact hcl j v hj
    · cases hj
  obtain ⟨G, hG⟩ : ∃ G, G = grownCap w (n + 1) cap 43 := ⟨_, rfl⟩
  obtain ⟨C, hC⟩ : ∃ C : List Value, C = cellsOf (l.take i) ++ (Builtin.zeroCells (Value.agg #[.int .i64 0, .int .i64 0, .int .i64 0, .int .i64 0, .int .i64 0, .string ByteArray.empty]).cells (n + 1 - i)).toList ++ (Builtin.zeroCells (Value.agg #[.int .i64 0, .int .i64 0, .int .i64 0, .int .i64 0, .int .i64 0, .string ByteArray.empty]).cells (G - (n + 1))).toList := ⟨_, rfl⟩
  have hGn : n + 1 ≤ G := by rw [hG]; exact grownCap_ge w _ _ _
  have hGm : G ≤ maxLen := by rw [hG]; exact grownCap_le_maxLen w (n + 1) cap _ (by unfold maxLen; omega)
  have hCl : C.length = G * 6 := by
    rw [hC, List.length_append, List.length_append, htl, Array.length_toList, Array.length_toList, size_zeroCells, size_zeroCells]
    show i * 6 + (n + 1 - i) * 6 + (G - (n + 1)) * 6 = G * 6
    omega
  have hCt : C.take (i * 6) = cellsOf (l.take i) := by rw [hC, List.append_assoc]; exact List.take_left' htl
  have hrz : ∀ ty, (Builtin.append_ #[25, 3] ty #[.slice (some ⟨g, 0, none⟩) i cap, .int .i64 ((n : Int) + 1 - (i : Int))]).run Try.prog w = .ok (.slice (some ⟨w.heap.size, 0, none⟩) (n + 1) G) (w.drew.alloc (.cells C.toArray 43)) := fun ty => by
    have h := Lib.run_append_grow_zeros w 25 3 ty 43 i0 _ .i64 .i64 Try.underlying25 Try.underlying3 hi0 hz0 (some ⟨g, 0, none⟩) i cap (cellsOf (l.take i)) hold (n + 1 - i) (by omega) (by omega) (by omega) (by omega) (by rw [hzb]; omega) (by rw [hzb, hik]; exact growslice_fits hroom (by omega))
    rw [hik, ← hG] at h
    rw [hkk, h, hC]
    exact congrArg (fun x => Result.ok _ (w.drew.alloc (.cells x 43))) (Array.toList_inj.1 (by simp))
  obtain ⟨W1, hW1⟩ : ∃ W1, W1 = w.drew.alloc (.cells C.toArray 43) := ⟨_, rfl⟩
  have hHg : W1.heap[w.heap.size]? = some (.cells C.toArray 43 (0, 0)) := by rw [hW1]; exact heap_alloc_new w.drew _
  have hGg : W1.heap[g]? = some (.cells cur.toArray 43 (0, 0)) := by rw [hW1, Below.heap_alloc w.drew _ _ hgw]; exact hg
  have hHh : W1.heap[h]? = some (.cells #[.int .i64 p, .int .i64 o, .int .i64 f, .int .i64 m, .int .i64 gg, .string s] 43 (0, 0)) := by rw [hW1, Below.heap_alloc w.drew _ _ hhw]; exact hh
  obtain ⟨c1, hc1⟩ : ∃ c1, c1 = spl C (i * 6) (El.cells ⟨p, o, f, m, gg, s⟩) := ⟨_, rfl⟩
  have hc1l : c1.length = C.length := by rw [hc1]; exact spl_len (by show _ + 6 ≤ _; omega)
  have hcpA : ∀ W : World, W.heap = W1.heap → ∀ ty dc, (Builtin.copy_ #[25, 25] ty #[.slice (some ⟨w.heap.size, i * 6, none⟩) (n + 1 - i) dc, .slice (some ⟨h, 0, none⟩) 1 1]).run Try.prog W = .ok (goInt (Nat.min 1 (n + 1 - i))) (W.setRow w.heap.size c1.toArray) := fun W hW ty dc => by
    rw [hc1]
    refine run_copy_el W ty w.heap.size (i * 6) (n + 1 - i) dc ⟨h, 0, none⟩ 1 1 C 43 _ (by rw [hW]; exact hHg) (by show 6 = _; simp only [Nat.min_def]; split <;> omega) (fun j v hj => ?_) (by show _ + 6 ≤ _; omega) (cells_one _)
    have e : (⟨h, 0, none⟩ : Addr).add j = ⟨h, j, none⟩ := by unfold Addr.add; split <;> simp_all
    rw [e, cell_of_row _ _ _ _ _ _ (by rw [hW]; exact hHh), ← hj]; simp [El.cells]
  have hcpB : ∀ W : World, W.heap = (W1.setRow w.heap.size c1.toArray).heap → ∀ ty dc sc, (Builtin.copy_ #[25, 25] ty #[.slice (some ⟨w.heap.size, (i + 1) * 6, none⟩) (n - i) dc, .slice (some ⟨g, i * 6, none⟩) (n - i) sc]).run Try.prog W = .ok (goInt (Nat.min (n - i) (n - i))) (W.setRow w.heap.size (spl c1 ((i + 1) * 6) (cellsOf (l.drop i))).toArray) := fun W hW ty dc sc => by
    refine run_copy_el W ty w.heap.size ((i + 1) * 6) (n - i) dc ⟨g, i * 6, none⟩ (n - i) sc c1 43 _ (by rw [hW]; exact setRow_heap _ _ _ _ _ _ hHg) (by rw [hdl]; congr 1; exact (Nat.min_self _).symm) (fun j v hj => ?_) (by rw [hdl]; omega) (cellsOf_one _)
    rw [Addr.add_lit, cell_of_row _ _ _ _ _ _ (show W.heap[g]? = _ by rw [hW, setRow_other _ _ _ _ (by omega)]; exact hGg)]
    rw [← cellsOf_drop (by omega), List.getElem?_drop, ← ht, List.getElem?_take] at hj
    split at hj
    · rw [← hj, List.getElem?_toArray]
    · cases hj
  have hfin : ∀ W : World, W.heap = (W1.setRow w.heap.size c1.toArray).heap → W.os = w.os → W.tape = w.tape → W.output = w.output → (W.setRow w.heap.size (spl c1 ((i + 1) * 6) (cellsOf (l.drop i))).toArray).heap[w.heap.size]? = some (.cells (spl c1 ((i + 1) * 6) (cellsOf (l.drop i))).toArray 43 (0, 0)) ∧ Calm w (W.setRow w.heap.size (spl c1 ((i + 1) * 6) (cellsOf (l.drop i))).toArray) := fun W hW h1 h2 h3 => by
    refine ⟨setRow_heap _ _ c1.toArray _ _ _ (by rw [hW]; exact setRow_heap _ _ _ _ _ _ hHg), h1, h2, h3, ?_, fun k hk => ?_⟩
    · rw [show (W.setRow w.heap.size _).heap.size = W.heap.size by simp, hW, hW1]; simp
    · rw [setRow_other _ _ _ _ (by omega), hW, setRow_other _ _ _ _ (by omega), hW1]
      exact Below.heap_alloc w.drew _ _ hk
  have hGi : ¬ (G = i) := by omega
  have hGim : ¬ (G = i + 1) := by omega
  have hci : ¬ (cap = i) := by omega
  have hG63 : G ≤ 9223372036854775807 := by unfold maxLen at hGm; omega
  have HEND : ∀ w', w'.heap[w.heap.size]? = some (.cells (spl c1 ((i + 1) * 6) (cellsOf (l.drop i))).toArray 43 (0, 0)) → Calm w w' → GrowEnd w l i ⟨p, o, f, m, gg, s⟩ (.returned (.slice (some ⟨w.heap.size, 0, none⟩) (n + 1) G)) w' := fun w' h1 h2 =>
    ⟨G, C, by rw [hn], by omega, hGm, hCl, hCt, by rw [hc1] at h1; exact h1, h2⟩
  have hz2 : ¬ ((i : Int) = (n : Int)) := by omega
  have hz3 : (cap : Int) < (n : Int) + 1 := by omega
  have hw1 : IntKind.i64.wrap ((i : Int) + 1) = (i : Int) + 1 := by rw [IntKind.wrap_i64]; omega
  have hb1 : (0 : Int) ≤ (i : Int) + 1 := by omega
  have hin : i ≤ n := by omega
  have htn : ((i : Int) + 1).toNat = i + 1 := by omega
  have hb3 : (i : Int) ≤ (n : Int) := by omega
  subst hW1
  clear hkk hik hold hG hC hGn hGm hCl hCt hc1 hc1l hcl hdl htl hn ht hg hh hHg hGg hHh hi0 hz0 hzs hzb hgw hhw
  go_enter Try.func75, Try.ntmps75
  go_wp2_with (first
    | (at_builtin; refine Lib.wpList_append_run _ rfl _ _ _ _ rfl _ _ rfl rfl _ _ (hrz _) ?_)
    | (refine wpList_copy_known rfl _ _ 25 rfl _ _ rfl rfl (v' := goInt (Nat.min 1 (n + 1 - i))) (w' := ((w.alloc (.cells C.toArray 43)).drew).setRow w.heap.size c1.toArray) (by exact hcpA ((w.alloc (.cells C.toArray 43)).drew) rfl _ _) ?_))
  go_region_law (refine step_copy_known rfl _ _ 25 rfl (.slice (some ⟨w.heap.size, (i + 1) * 6, none⟩) (n - i) (G - (i + 1))) (.slice (some ⟨g, i * 6, none⟩) (n - i) (cap - i)) (by simp [Act.eval, Act.put]) (by simp [Act.eval, Act.put]) (v' := goInt (Nat.min (n - i) (n - i))) (w' := ((((w.alloc (.cells C.toArray 43)).drew).setRow w.heap.size c1.toArray).drew).setRow w.heap.size (spl c1 ((i + 1) * 6) (cellsOf (l.drop i))).toArray) (by exact hcpB ((((w.alloc (.cells C.toArray 43)).drew).setRow w.heap.size c1.toArray).drew) rfl _ _ _) ?_)
  go_wp2_with fail
  go_ret
  exact HEND _ (hfin ((((w.alloc (.cells C.toArray 43)).drew).setRow w.heap.size c1.toArray).drew) rfl rfl rfl rfl).1 (hfin ((((w.alloc (.cells C.toArray 43)).drew).setRow w.heap.size c1.toArray).drew) rfl rfl rfl rfl).2

set_option maxRecDepth 100000 in
theorem Keeps.append {base : Nat} {w w' : World} (h : ∀ w0 : World, w0.heap.size ≤ base → Calm w0 w → Calm w0 w') : Keeps base w w' := h

set_option maxRecDepth 100000 in
set_option maxHeartbeats 8000000 in
theorem insert_any (base h i : Nat) (v : Value) (l : List El) (p o f m gg : Int) (s : ByteArray) (w : World) (hi : i ≤ l.length) (hl : l.length ≤ 400) (ho : OwnR base w v l) (hb : base ≤ w.heap.size)
    (hh : w.heap[h]? = some (.cells #[.int .i64 p, .int .i64 o, .int .i64 f, .int .i64 m, .int .i64 gg, .string s] 43 (0, 0))) (hne : v.ownBlock ≠ some h) :
    Calls Try.prog 75 #[v, .int .i64 i, .slice (some ⟨h, 0, none⟩) 1 1] w (OwnEnd base (insAt l i ⟨p, o, f, m, gg, s⟩) w) := by
  have hend : i = l.length → insAt l i ⟨p, o, f, m, gg, s⟩ = l ++ [⟨p, o, f, m, gg, s⟩] := fun h => by unfold insAt; rw [h, List.take_length, List.drop_length]
  rcases id ho.2 with ⟨rfl, hl0⟩ | ⟨g, cap, cur, rfl, hbg, hg, hnc, hcm, hcs, ht⟩
  · have h0 : i = l.length := by omega
    rw [hend h0]
    have h1 : i = 0 := by omega
    subst h1
    have HO := Lib.hid ho
    clear ho hend hi h0
    go_enter Try.func75, Try.ntmps75
    go_wp2_with (at_builtin; refine wpList_append_el rfl _ _ rfl base _ l rfl HO.out h _ p o f m gg s _ rfl hh (by omega) hb ?_; intro v' w9 ho9 hc9)
    have HO9 := Lib.hid ho9
    have HC9 := Lib.hid hc9
    clear ho9 hc9
    go_wp2_with fail
    go_ret
    exact ⟨_, rfl, HO9.out, HC9.out⟩
  · have hcs' : cur.toList.length = cap * 6 := by simpa using hcs
    have hg' : w.heap[g]? = some (.cells cur.toList.toArray 43 (0, 0)) := by simpa using hg
    have hc63 : cap ≤ 9223372036854775807 := by unfold maxLen at hcm; exact hcm
    have hKe : ∀ w', w.grownBy w' (some g) → Keeps base w w' := fun w' hgr w0 h0 hc => Below.grown hc hgr hc.size fun k hk => by injection hk with hk; omega
    by_cases hin : i = l.length
    · rw [hend hin]
      have HO := Lib.hid ho
      obtain ⟨n, hn⟩ : ∃ n, n = l.length := ⟨_, rfl⟩
      have hin' : i = n := by omega
      rw [← hn] at HO ⊢
      have hn4 : n ≤ 400 := by omega
      have hll : l.length ≤ 1000000 := by omega
      have hnc' : n ≤ cap := by omega
      clear ho hend hi hin hn hl hcs' hg' hKe ht hcs hnc
      subst hin'
      by_cases hci : cap = i
      all_goals
        first | subst hci | skip
        go_enter Try.func75, Try.ntmps75
        go_wp2_with (at_builtin; refine wpList_append_el rfl _ _ rfl base _ l rfl HO.out h _ p o f m gg s _ rfl hh hll hb ?_; intro v' w9 ho9 hc9)
        have HO9 := Lib.hid ho9
        have HC9 := Lib.hid hc9
        clear ho9 hc9
        go_wp2_with fail
        go_ret
        exact ⟨_, rfl, HO9.out, HC9.out⟩
    · by_cases hroom : l.length + 1 ≤ cap
      · refine (insert_shift g h i l.length cap l cur.toList p o f m gg s w rfl (by omega) hl hroom hc63 hg' hcs' ht hh (fun e => hne (by simp [Value.ownBlock, e]))).mono fun e w' ⟨he, hr, hgr⟩ => ⟨_, he, ?_, hKe w' hgr⟩
        rw [row_shift _ (by omega) ht (by omega)] at hr
        have hil := insAt_len ⟨p, o, f, m, gg, s⟩ hi
        rw [← hil]
        have hlc : (cellsOf (insAt l i ⟨p, o, f, m, gg, s⟩)).length = (l.length + 1) * 6 := by rw [cellsOf_len, hil]
        exact OwnR.row hbg hr (by omega) hcm (by rw [List.length_append, hlc, List.length_drop]; omega) (List.take_left' (by rw [cellsOf_len]))
      · refine (insert_grow g h i l.length cap l cur.toList p o f m gg s w rfl (by omega) hl hnc (by omega) hg' ht hh).mono fun e w' ⟨G, C, he, h1, h2, h3, h4, hr, hc⟩ => ⟨_, he, ?_, fun w0 h0 hcc => hcc.call hc⟩
        rw [row_fresh _ (by omega) h4 (by omega)] at hr
        have hil := insAt_len ⟨p, o, f, m, gg, s⟩ hi
        rw [← hil]
        have hlc : (cellsOf (insAt l i ⟨p, o, f, m, gg, s⟩)).length = (l.length + 1) * 6 := by rw [cellsOf_len, hil]
        exact OwnR.row hb hr (by omega) h2 (by rw [List.length_append, hlc, List.length_drop]; omega) (List.take_left' (by rw [cellsOf_len]))
end Go.Proofs.Ytoplkcegflgfpaa

/- run.after, run.live. -/
namespace Go.Proofs.Ytoplkcegflgfpaa
open Go.RowKit

set_option maxRecDepth 100000 in
set_option maxHeartbeats 4000000 in
theorem after_any (A : Option Addr) (c : Nat) (l : List El) (p o f m : Int) (w : World) (hn : l.length ≤ 400) (hL : Lies w A l) (hS : l.Pairwise Fol) :
    Calls Try.prog 76 #[.slice A l.length c, .agg #[.int .i64 p, .int .i64 o, .int .i64 f, .int .i64 m]] w fun e w' => e = .returned (.int .i64 (pos l (p, o, f) m)) ∧ Calm w w' := by
  have C : ∀ u B1 B2, Calm w u → Boxes B1 B2 A l.length c p o f m u → Calls Try.prog 107 #[.int .i64 l.length, .func (.func 108) #[] #[.pointer (some ⟨B1, 0, none⟩), .pointer (some ⟨B2, 0, none⟩)]] u fun e w' => e = .returned (.int .i64 (pos l (p, o, f) m)) ∧ Calm u w' :=
    fun u B1 B2 hu hB => search_any B1 B2 A c l p o f m u hn (hL.calm hu) hS hB
  generalize pos l (p, o, f) m = r at C ⊢
  clear hL hS
  go_enter Try.func76, Try.ntmps76
  go_wp2_with (go_at_call 107; refine (C _ _ _ (((Calm.refl _).alloc _).alloc _) ⟨heap_past _ (heap_new _ _), by simpa using heap_new (w.alloc (.cells #[.slice A l.length c] 25)) (.cells #[.int .i64 p, .int .i64 o, .int .i64 f, .int .i64 m] 46)⟩).mono ?_; rintro e w1 ⟨rfl, hb1⟩)
  go_ret
  exact ⟨rfl, by repeat (first | (with_reducible exact Calm.refl _) | (with_reducible refine Calm.alloc ?_ _) | (with_reducible refine Calm.drew ?_) | (with_reducible refine Calm.drewN ?_ _) | (refine Calm.call ?_ (by with_reducible assumption)))⟩

set_option maxRecDepth 100000 in
set_option maxHeartbeats 4000000 in
theorem liveRun_any (A : Option Addr) (d : Nat) (l : List El) (p' o' f' t : Int) (w : World) (hn : l.length ≤ 400) (hL : Lies w A l) (hS : l.Pairwise Fol) :
    Calls Try.prog 74 #[.slice A l.length d, .agg #[.int .i64 p', .int .i64 o', .int .i64 f'], .int .i64 t] w fun e w' => e = .returned (.tuple #[.int .i64 (if hitB l (pos l (p', o', f') t) (p', o', f') t then (pos l (p', o', f') t : Int) - 1 else 0), .bool (hitB l (pos l (p', o', f') t) (p', o', f') t)]) ∧ Calm w w' := by
  have C : ∀ u, Calm w u → Calls Try.prog 76 #[.slice A l.length d, .agg #[.int .i64 p', .int .i64 o', .int .i64 f', .int .i64 t]] u fun e w' => e = .returned (.int .i64 (pos l (p', o', f') t)) ∧ Calm u w' :=
    fun u hu => after_any A d l p' o' f' t u hn (hL.calm hu) hS
  have hpl := pos_le l (p', o', f') t
  generalize pos l (p', o', f') t = c at C hpl ⊢
  have hx : (w.alloc (.cells #[.int .i64 p', .int .i64 o', .int .i64 f'] 41)).heap[w.heap.size]? = some (.cells #[.int .i64 p', .int .i64 o', .int .i64 f'] 41 (0, 0)) := heap_new _ _
  have hw0 := (Calm.refl w).alloc (.cells #[.int .i64 p', .int .i64 o', .int .i64 f'] 41)
  by_cases h0 : c = 0
  · subst h0
    rw [hitB_none]
    go_enter Try.func74, Try.ntmps74
    go_wp2_with (go_at_call 76; refine (C _ hw0).mono ?_; rintro e w1 ⟨rfl, hb1⟩; have hu := hw0.call hb1; clear hx hw0 C hb1)
    refine wp_region_plan [.val (.int .i64 (-1)), .val (.bool true), .val (.bool true), .idle, .idle, .idle, .idle, .idle, .idle, .idle, .val (.bool true), .val (.bool true), .idle, .idle, .idle, .idle, .idle, .idle, .idle, .val (.bool true)] (by kernel_rfl) (by kernel_rfl) (by kernel_rfl) ?_
    intro X
    iterate 3
      refine plan_val (by kernel_rfl) (fun u hu => ?_) ?_
      · obtain ⟨hc, hf, hz⟩ := hu.of_drew.facts
        go_simp
      simp only [Act.put, List.setIfInBounds_toArray, List.set_cons_zero, List.set_cons_succ, Nat.reduceAdd]
    iterate 7
      refine plan_idle (by kernel_rfl) ?_
      simp only [Act.put, List.setIfInBounds_toArray, List.set_cons_zero, List.set_cons_succ, Nat.reduceAdd]
    iterate 2
      refine plan_val (by kernel_rfl) (fun u hu => ?_) ?_
      · obtain ⟨hc, hf, hz⟩ := hu.of_drew.facts
        go_simp
      simp only [Act.put, List.setIfInBounds_toArray, List.set_cons_zero, List.set_cons_succ, Nat.reduceAdd]
    iterate 7
      refine plan_idle (by kernel_rfl) ?_
      simp only [Act.put, List.setIfInBounds_toArray, List.set_cons_zero, List.set_cons_succ, Nat.reduceAdd]
    iterate 1
      refine plan_val (by kernel_rfl) (fun u hu => ?_) ?_
      · obtain ⟨hc, hf, hz⟩ := hu.of_drew.facts
        go_simp
      simp only [Act.put, List.setIfInBounds_toArray, List.set_cons_zero, List.set_cons_succ, Nat.reduceAdd]
    refine plan_end ?_
    intro w' hB
    have hk := hB.calm.of_drew
    clear hB
    go_wp2_with fail
    go_ret2
    exact ⟨rfl, hu.call hk⟩
  obtain ⟨b, q, p, o, f, m, g, s, rfl, hb, HE, hm, c0, c1, c2, c3, c4, c5⟩ := hL.get (k := c - 1) (by omega)
  have hH := hitB_some (k := (p', o', f')) (t := t) (by omega : 0 < c) HE.out
  simp only [El.key, El.live] at hH
  have z0 : 0 < c := by omega
  have z1 : IntKind.i64.wrap ((c : Int) - 1) = (c : Int) - 1 := IntWalk.i64_in _ (by omega)
  have z2 : ((c : Int) - 1).toNat = c - 1 := by omega
  have z3 : 0 ≤ (c : Int) - 1 := by omega
  have z4 : (c : Int) - 1 < l.length := by omega
  have z5 : 1 ≤ (c : Int) := by omega
  have Z : (0 < c ∧ IntKind.i64.wrap ((c : Int) - 1) = (c : Int) - 1 ∧ ((c : Int) - 1).toNat = c - 1 ∧ 0 ≤ (c : Int) - 1 ∧ (c : Int) - 1 < l.length ∧ 1 ≤ (c : Int)) := ⟨z0, z1, z2, z3, z4, z5⟩
  have ZZ := Lib.hid Z
  clear Z z0 z1 z2 z3 z4 h0
  generalize hb0 : hitB l c (p', o', f') t = r at hH ⊢
  clear hb0 hL HE hS
  generalize l.length = n at *
  have hc9 : (c : Int) ≤ 400 := by omega
  go_enter Try.func74, Try.ntmps74
  go_upto_region 2 with (go_at_call 76; refine (C _ hw0).mono ?_; rintro e w1 ⟨rfl, hb1⟩; have hu := hw0.call hb1; replace hx := (hb1.block (by simp)).trans hx; clear C hw0)
  obtain ⟨z0, z1, z2, z3, z4, z5'⟩ := ZZ.out
  have hvc := hu.facts.1
  replace c0 := (hvc _ _ hb).trans c0; replace c1 := (hvc _ _ hb).trans c1; replace c2 := (hvc _ _ hb).trans c2; replace c3 := (hvc _ _ hb).trans c3; replace c4 := (hvc _ _ hb).trans c4; replace c5 := (hvc _ _ hb).trans c5
  have hb2 : b < w1.heap.size := Nat.lt_of_lt_of_le hb hu.size
  obtain ⟨x0, x1, x2, hxs⟩ := row3 hx
  clear hvc hb1 hx ZZ hb
  by_cases hK : (p, o, f) = (p', o', f')
  rotate_left
  · have e0 : r = false := by rw [hH]; simp [hK]
    subst e0
    clear hH
    have h3 : ¬ p = p' ∨ (p = p' ∧ ¬ o = o') ∨ (p = p' ∧ o = o' ∧ ¬ f = f') := by simp only [Prod.mk.injEq] at hK; omega
    clear hK
    rcases h3 with h3 | ⟨h3, h4⟩ | ⟨h3, h4, h5⟩
    · skip
      refine wp_region_plan [.val (.int .i64 ((c : Int) - 1)), .val (.bool false), .val (.bool false), .val (.slice (some ⟨b, q, none⟩) n d), .val (.int .i64 ((c : Int) - 1)), .val (.pointer (some ⟨b, q + (c - 1) * 6, none⟩)), .val (.pointer (some ⟨b, q + (c - 1) * 6, none⟩)), .val (.agg #[.int .i64 p, .int .i64 o, .int .i64 f]), .val (.agg #[.int .i64 p', .int .i64 o', .int .i64 f']), .val (.bool true), .val (.bool true), .val (.bool true), .idle, .idle, .idle, .idle, .idle, .idle, .idle, .val (.bool true)] (by kernel_rfl) (by kernel_rfl) (by kernel_rfl) ?_
      intro X
      iterate 12
        refine plan_val (by kernel_rfl) (fun u hu => ?_) ?_
        · obtain ⟨hc, hf, hz⟩ := hu.of_drew.facts
          go_simp
        simp only [Act.put, List.setIfInBounds_toArray, List.set_cons_zero, List.set_cons_succ, Nat.reduceAdd]
      iterate 7
        refine plan_idle (by kernel_rfl) ?_
        simp only [Act.put, List.setIfInBounds_toArray, List.set_cons_zero, List.set_cons_succ, Nat.reduceAdd]
      iterate 1
        refine plan_val (by kernel_rfl) (fun u hu => ?_) ?_
        · obtain ⟨hc, hf, hz⟩ := hu.of_drew.facts
          go_simp
        simp only [Act.put, List.setIfInBounds_toArray, List.set_cons_zero, List.set_cons_succ, Nat.reduceAdd]
      refine plan_end ?_
      intro w' hB
      have hk := hB.calm.of_drew
      clear hB
      clear z0 z1 z2 z3 z4 z5
      go_wp2_with fail
      go_ret2
      exact ⟨rfl, hu.call hk⟩
    · skip
      subst h3
      refine wp_region_plan [.val (.int .i64 ((c : Int) - 1)), .val (.bool false), .val (.bool false), .val (.slice (some ⟨b, q, none⟩) n d), .val (.int .i64 ((c : Int) - 1)), .val (.pointer (some ⟨b, q + (c - 1) * 6, none⟩)), .val (.pointer (some ⟨b, q + (c - 1) * 6, none⟩)), .val (.agg #[.int .i64 p, .int .i64 o, .int .i64 f]), .val (.agg #[.int .i64 p, .int .i64 o', .int .i64 f']), .val (.bool true), .val (.bool true), .val (.bool true), .idle, .idle, .idle, .idle, .idle, .idle, .idle, .val (.bool true)] (by kernel_rfl) (by kernel_rfl) (by kernel_rfl) ?_
      intro X
      iterate 12
        refine plan_val (by kernel_rfl) (fun u hu => ?_) ?_
        · obtain ⟨hc, hf, hz⟩ := hu.of_drew.facts
          go_simp
        simp only [Act.put, List.setIfInBounds_toArray, List.set_cons_zero, List.set_cons_succ, Nat.reduceAdd]
      iterate 7
        refine plan_idle (by kernel_rfl) ?_
        simp only [Act.put, List.setIfInBounds_toArray, List.set_cons_zero, List.set_cons_succ, Nat.reduceAdd]
      iterate 1
        refine plan_val (by kernel_rfl) (fun u hu => ?_) ?_
        · obtain ⟨hc, hf, hz⟩ := hu.of_drew.facts
          go_simp
        simp only [Act.put, List.setIfInBounds_toArray, List.set_cons_zero, List.set_cons_succ, Nat.reduceAdd]
      refine plan_end ?_
      intro w' hB
      have hk := hB.calm.of_drew
      clear hB
      clear z0 z1 z2 z3 z4 z5
      go_wp2_with fail
      go_ret2
      exact ⟨rfl, hu.call hk⟩
    · skip
      subst h3
      subst h4
      refine wp_region_plan [.val (.int .i64 ((c : Int) - 1)), .val (.bool false), .val (.bool false), .val (.slice (some ⟨b, q, none⟩) n d), .val (.int .i64 ((c : Int) - 1)), .val (.pointer (some ⟨b, q + (c - 1) * 6, none⟩)), .val (.pointer (some ⟨b, q + (c - 1) * 6, none⟩)), .val (.agg #[.int .i64 p, .int .i64 o, .int .i64 f]), .val (.agg #[.int .i64 p, .int .i64 o, .int .i64 f']), .val (.bool true), .val (.bool true), .val (.bool true), .idle, .idle, .idle, .idle, .idle, .idle, .idle, .val (.bool true)] (by kernel_rfl) (by kernel_rfl) (by kernel_rfl) ?_
      intro X
      iterate 12
        refine plan_val (by kernel_rfl) (fun u hu => ?_) ?_
        · obtain ⟨hc, hf, hz⟩ := hu.of_drew.facts
          go_simp
        simp only [Act.put, List.setIfInBounds_toArray, List.set_cons_zero, List.set_cons_succ, Nat.reduceAdd]
      iterate 7
        refine plan_idle (by kernel_rfl) ?_
        simp only [Act.put, List.setIfInBounds_toArray, List.set_cons_zero, List.set_cons_succ, Nat.reduceAdd]
      iterate 1
        refine plan_val (by kernel_rfl) (fun u hu => ?_) ?_
        · obtain ⟨hc, hf, hz⟩ := hu.of_drew.facts
          go_simp
        simp only [Act.put, List.setIfInBounds_toArray, List.set_cons_zero, List.set_cons_succ, Nat.reduceAdd]
      refine plan_end ?_
      intro w' hB
      have hk := hB.calm.of_drew
      clear hB
      clear z0 z1 z2 z3 z4 z5
      go_wp2_with fail
      go_ret2
      exact ⟨rfl, hu.call hk⟩
  simp only [Prod.mk.injEq] at hK
  obtain ⟨rfl, rfl, rfl⟩ := hK
  by_cases hl : liveP m g t
  · have e0 : r = true := by rw [hH]; simp [hl]
    subst e0
    have L : ∀ u, Calls Try.prog 104 #[.agg #[.int .i64 p, .int .i64 o, .int .i64 f, .int .i64 m, .int .i64 g, .string s], .int .i64 t] u fun e w' => e = .returned (.bool true) ∧ Calm u w' := fun u => (live_any p o f m g t s u).mono fun e w' h => ⟨h.1.trans (ret_bool (decide_eq_true hl)), h.2⟩
    clear hH hl
    refine wp_region_plan [.val (.int .i64 ((c : Int) - 1)), .val (.bool false), .val (.bool false), .val (.slice (some ⟨b, q, none⟩) n d), .val (.int .i64 ((c : Int) - 1)), .val (.pointer (some ⟨b, q + (c - 1) * 6, none⟩)), .val (.pointer (some ⟨b, q + (c - 1) * 6, none⟩)), .val (.agg #[.int .i64 p, .int .i64 o, .int .i64 f]), .val (.agg #[.int .i64 p, .int .i64 o, .int .i64 f]), .val (.bool false), .val (.bool false), .val (.bool false), .val (.slice (some ⟨b, q, none⟩) n d), .val (.int .i64 ((c : Int) - 1)), .val (.pointer (some ⟨b, q + (c - 1) * 6, none⟩)), .val (.agg #[.int .i64 p, .int .i64 o, .int .i64 f, .int .i64 m, .int .i64 g, .string s]), .val (.int .i64 (t)), .val (.bool true), .val (.bool false), .val (.bool false)] (by kernel_rfl) (by kernel_rfl) (by kernel_rfl) ?_
    intro X
    iterate 20
      refine plan_val (by kernel_rfl) (fun u hu => ?_) ?_
      · obtain ⟨hc, hf, hz⟩ := hu.of_drew.facts
        go_simp
        all_goals first
          | (go_at_call 104; exact L _)
      simp only [Act.put, List.setIfInBounds_toArray, List.set_cons_zero, List.set_cons_succ, Nat.reduceAdd]
    refine plan_end ?_
    intro w' hB
    have hk := hB.calm.of_drew
    clear hB
    clear z0 z1 z2 z3 z4 z5
    go_wp2_with fail
    go_ret2
    exact ⟨rfl, hu.call hk⟩
  · have e0 : r = false := by rw [hH]; simp [hl]
    subst e0
    have L : ∀ u, Calls Try.prog 104 #[.agg #[.int .i64 p, .int .i64 o, .int .i64 f, .int .i64 m, .int .i64 g, .string s], .int .i64 t] u fun e w' => e = .returned (.bool false) ∧ Calm u w' := fun u => (live_any p o f m g t s u).mono fun e w' h => ⟨h.1.trans (ret_bool (decide_eq_false hl)), h.2⟩
    clear hH hl
    refine wp_region_plan [.val (.int .i64 ((c : Int) - 1)), .val (.bool false), .val (.bool false), .val (.slice (some ⟨b, q, none⟩) n d), .val (.int .i64 ((c : Int) - 1)), .val (.pointer (some ⟨b, q + (c - 1) * 6, none⟩)), .val (.pointer (some ⟨b, q + (c - 1) * 6, none⟩)), .val (.agg #[.int .i64 p, .int .i64 o, .int .i64 f]), .val (.agg #[.int .i64 p, .int .i64 o, .int .i64 f]), .val (.bool false), .val (.bool false), .val (.bool false), .val (.slice (some ⟨b, q, none⟩) n d), .val (.int .i64 ((c : Int) - 1)), .val (.pointer (some ⟨b, q + (c - 1) * 6, none⟩)), .val (.agg #[.int .i64 p, .int .i64 o, .int .i64 f, .int .i64 m, .int .i64 g, .string s]), .val (.int .i64 (t)), .val (.bool false), .val (.bool true), .val (.bool true)] (by kernel_rfl) (by kernel_rfl) (by kernel_rfl) ?_
    intro X
    iterate 20
      refine plan_val (by kernel_rfl) (fun u hu => ?_) ?_
      · obtain ⟨hc, hf, hz⟩ := hu.of_drew.facts
        go_simp
        all_goals first
          | (go_at_call 104; exact L _)
      simp only [Act.put, List.setIfInBounds_toArray, List.set_cons_zero, List.set_cons_succ, Nat.reduceAdd]
    refine plan_end ?_
    intro w' hB
    have hk := hB.calm.of_drew
    clear hB
    clear z0 z1 z2 z3 z4 z5
    go_wp2_with fail
    go_ret2
    exact ⟨rfl, hu.call hk⟩
end Go.Proofs.Ytoplkcegflgfpaa

/- run.Range, annalref.Range. -/
namespace Go.Proofs.Ytoplkcegflgfpaa
open Go.RowKit

/-- A call hands back a slice that reads as l, and an error. -/
def SlEnd (l : List El) (n : Int) (w : World) (e : Ending) (w' : World) : Prop := ∃ v, e = .returned (.tuple #[v, .int .i64 n]) ∧ Sl w' v l ∧ Calm w w'
def Sl1End (l : List El) (w : World) (e : Ending) (w' : World) : Prop := ∃ v, e = .returned v ∧ Sl w' v l ∧ Calm w w'
set_option maxRecDepth 100000 in
theorem OwnR.sl {base : Nat} {w : World} {v : Value} {l : List El} (h : OwnR base w v l) (hw : ∀ e ∈ l, e.wf) : Sl w v l := by
  obtain ⟨A, c, hv, h1, h2, h3⟩ := h.lies hw
  exact ⟨A, c, hv, by omega, h3⟩

set_option maxRecDepth 100000 in
theorem inR_iff (p o f m g : Int) (s : ByteArray) (p' o' f' p2 o2 f2 t : Int) : inR (p', o', f') (p2, o2, f2) t ⟨p, o, f, m, g, s⟩ = true ↔ kcmp p' o' f' p o f ≤ 0 ∧ kcmp p o f p2 o2 f2 ≤ 0 ∧ liveP m g t := by
  unfold inR
  rw [decide_eq_true_eq]
  have h1 : kLt (p, o, f) (p', o', f') ↔ kcmp p' o' f' p o f = 1 := kcmp_kGt.symm
  have h2 : kLt (p2, o2, f2) (p, o, f) ↔ kcmp p o f p2 o2 f2 = 1 := kcmp_kGt.symm
  simp only [El.key, El.live]
  rw [h1, h2]
  rcases kcmp_or p' o' f' p o f with h | h | h <;> rcases kcmp_or p o f p2 o2 f2 with h' | h' | h' <;> simp [h, h']

end Go.Proofs.Ytoplkcegflgfpaa

/- run.checkWrite, run.Put. -/
namespace Go.Proofs.Ytoplkcegflgfpaa
open Go.RowKit

set_option maxRecDepth 100000 in
set_option maxHeartbeats 4000000 in
theorem checkWrite_any (A : Option Addr) (c : Nat) (l : List El) (p o f m g : Int) (s : ByteArray) (w : World) (hn : l.length ≤ 9223372036854775807) (hL : Lies w A l) :
    Calls Try.prog 73 #[.slice A l.length c, .agg #[.int .i64 p, .int .i64 o, .int .i64 f, .int .i64 m, .int .i64 g, .string s]] w fun e w' => e = .returned (.int .i64 (wrErr l ⟨p, o, f, m, g, s⟩)) ∧ Calm w w' := by
  have hx := heap_new w (.cells #[.int .i64 p, .int .i64 o, .int .i64 f, .int .i64 m, .int .i64 g, .string s] 43)
  have hu := (Calm.refl w).alloc (.cells #[.int .i64 p, .int .i64 o, .int .i64 f, .int .i64 m, .int .i64 g, .string s] 43)
  have cL : ∀ u, Calm w u → Calls Try.prog 102 #[.slice A l.length c] u fun e w' => e = .returned (.tuple #[.int .i64 (if runErr l = 0 then latest l else 0), .int .i64 (runErr l)]) ∧ Calm u w' := fun u hu => runLast_any A c l u hn (hL.calm hu)
  by_cases he : runErr l = 0
  rotate_left
  · have e1 : wrErr l ⟨p, o, f, m, g, s⟩ = runErr l := by unfold wrErr; rw [if_neg he]
    rw [e1]
    rw [if_neg he] at cL
    have b1 : (runErr l != 0) = true := by simpa using he
    clear e1 he hL
    go_enter Try.func73, Try.ntmps73
    go_wp2_with (go_at_call 102; refine (cL _ hu).mono ?_; rintro e w1 ⟨rfl, hb1⟩; replace hu := hu.call hb1)
    go_ret
    exact ⟨rfl, hu⟩
  rw [if_pos he, he] at cL
  have cE := elemCheck_any p o f m g s
  by_cases h2 : elemErr p o f m g s.size = 0
  rotate_left
  · have e1 : wrErr l ⟨p, o, f, m, g, s⟩ = elemErr p o f m g s.size := by
      unfold wrErr; rw [if_pos he]
      exact if_neg h2
    rw [e1]
    have b1 : (elemErr p o f m g s.size != 0) = true := by simpa using h2
    clear e1 he h2 hL
    generalize latest l = t0 at cL
    go_enter Try.func73, Try.ntmps73
    go_wp2_with (first
      | (go_at_call 102; refine (cL _ hu).mono ?_; rintro e w1 ⟨rfl, hb1⟩; replace hu := hu.call hb1; replace hx := (hb1.block (row6 hx).2.2.2.2.2.2).trans hx; obtain ⟨x0, x1, x2, x3, x4, x5, hxs⟩ := row6 hx; clear hb1)
      | (go_at_call 103; refine (cE _).mono ?_; rintro e w1 ⟨rfl, hb1⟩; replace hu := hu.call hb1))
    go_ret
    exact ⟨rfl, hu⟩
  have e1 : wrErr l ⟨p, o, f, m, g, s⟩ = if m < latest l then 9 else 0 := by
    unfold wrErr; rw [if_pos he]
    exact if_pos h2
  rw [e1]
  rw [h2] at cE
  clear e1 he h2 hL
  generalize latest l = t0 at cL
  by_cases h3 : m < t0
  · rw [if_pos h3]
    go_enter Try.func73, Try.ntmps73
    go_wp2_with (first
      | (go_at_call 102; refine (cL _ hu).mono ?_; rintro e w1 ⟨rfl, hb1⟩; replace hu := hu.call hb1; replace hx := (hb1.block (row6 hx).2.2.2.2.2.2).trans hx; obtain ⟨x0, x1, x2, x3, x4, x5, hxs⟩ := row6 hx; clear hb1)
      | (go_at_call 103; refine (cE _).mono ?_; rintro e w1 ⟨rfl, hb1⟩; replace hu := hu.call hb1; replace hx := (hb1.block (row6 hx).2.2.2.2.2.2).trans hx; obtain ⟨x0, x1, x2, x3, x4, x5, hxs⟩ := row6 hx; clear hb1))
    go_ret
    exact ⟨rfl, hu⟩
  · rw [if_neg h3]
    go_enter Try.func73, Try.ntmps73
    go_wp2_with (first
      | (go_at_call 102; refine (cL _ hu).mono ?_; rintro e w1 ⟨rfl, hb1⟩; replace hu := hu.call hb1; replace hx := (hb1.block (row6 hx).2.2.2.2.2.2).trans hx; obtain ⟨x0, x1, x2, x3, x4, x5, hxs⟩ := row6 hx; clear hb1)
      | (go_at_call 103; refine (cE _).mono ?_; rintro e w1 ⟨rfl, hb1⟩; replace hu := hu.call hb1; replace hx := (hb1.block (row6 hx).2.2.2.2.2.2).trans hx; obtain ⟨x0, x1, x2, x3, x4, x5, hxs⟩ := row6 hx; clear hb1))
    go_ret
    exact ⟨rfl, hu⟩
end Go.Proofs.Ytoplkcegflgfpaa

/- run.Put. -/
namespace Go.Proofs.Ytoplkcegflgfpaa
open Go.RowKit

set_option maxRecDepth 100000 in
set_option maxHeartbeats 16000000 in
theorem runPut_any (A : Option Addr) (d : Nat) (l : List El) (p' o' f' : Int) (s' : ByteArray) (t : Int) (w : World) (hn : l.length ≤ 9223372036854775807) (hL : Lies w A l) :
    Calls Try.prog 50 #[.slice A l.length d, .agg #[.int .i64 p', .int .i64 o', .int .i64 f'], .string s', .int .i64 t] w (SlEnd (if putErr l (p', o', f') s' t = 0 then putR l (p', o', f') s' t else []) (putErr l (p', o', f') s' t) w) := by
  have hy : ((w.alloc (.cells #[.int .i64 p', .int .i64 o', .int .i64 f'] 41)).alloc (.cells #[.int .i64 p', .int .i64 o', .int .i64 f', .int .i64 t, .int .i64 0, .string s'] 43)).heap[w.heap.size]? = some (.cells #[.int .i64 p', .int .i64 o', .int .i64 f'] 41 (0, 0)) := heap_past _ (heap_new _ _)
  have hz : ((w.alloc (.cells #[.int .i64 p', .int .i64 o', .int .i64 f'] 41)).alloc (.cells #[.int .i64 p', .int .i64 o', .int .i64 f', .int .i64 t, .int .i64 0, .string s'] 43)).heap[w.heap.size + 1]? = some (.cells #[.int .i64 p', .int .i64 o', .int .i64 f', .int .i64 t, .int .i64 0, .string s'] 43 (0, 0)) := by simpa using heap_new (w.alloc (.cells #[.int .i64 p', .int .i64 o', .int .i64 f'] 41)) (.cells #[.int .i64 p', .int .i64 o', .int .i64 f', .int .i64 t, .int .i64 0, .string s'] 43)
  have hu := ((Calm.refl w).alloc (.cells #[.int .i64 p', .int .i64 o', .int .i64 f'] 41)).alloc (.cells #[.int .i64 p', .int .i64 o', .int .i64 f', .int .i64 t, .int .i64 0, .string s'] 43)
  have cW : ∀ u, Calm w u → Calls Try.prog 73 #[.slice A l.length d, .agg #[.int .i64 p', .int .i64 o', .int .i64 f', .int .i64 t, .int .i64 0, .string s']] u fun e w' => e = .returned (.int .i64 (wrErr l (fresh (p', o', f') s' t))) ∧ Calm u w' := fun u hu => checkWrite_any A d l p' o' f' t 0 s' u hn (hL.calm hu)
  by_cases he : wrErr l (fresh (p', o', f') s' t) = 0
  rotate_left
  · have e1 : putErr l (p', o', f') s' t = wrErr l (fresh (p', o', f') s' t) := by unfold putErr; rw [if_neg he]
    rw [e1, if_neg he]
    have b1 : (wrErr l (fresh (p', o', f') s' t) != 0) = true := by simpa using he
    generalize wrErr l (fresh (p', o', f') s' t) = x at b1 cW
    clear he e1 hL
    go_enter Try.func50, Try.ntmps50
    go_wp2_with (go_at_call 73; refine (cW _ hu).mono ?_; rintro e w1 ⟨rfl, hb1⟩; replace hy := (hb1.block (row3 hy).2.2.2).trans hy; replace hz := (hb1.block (row6 hz).2.2.2.2.2.2).trans hz; replace hu := hu.call hb1; clear hb1; obtain ⟨y0, y1, y2, hys⟩ := row3 hy; obtain ⟨z0, z1, z2, z3, z4, z5, hzs⟩ := row6 hz)
    go_ret2
    exact ⟨_, rfl, Sl.nil _ _ _, hu⟩
  rw [he] at cW
  have hgood := fun hp : putErr l (p', o', f') s' t = 0 => put_good he hp
  obtain ⟨hG, hx, hlt⟩ := wrErr_zero.1 he
  obtain ⟨q1, q2, q3⟩ := sizes he
  have hpe : putErr l (p', o', f') s' t = if l.any (isSame (p', o', f') t) then 0 else if 400 ≤ l.length then 8 else 0 := by unfold putErr; rw [if_pos he]
  have hlt' : latest l ≤ t := hlt
  have hn4 := hG.1
  have cV : ∀ u, Calm w u → Calls Try.prog 74 #[.slice A l.length d, .agg #[.int .i64 p', .int .i64 o', .int .i64 f'], .int .i64 t] u fun e w' => e = .returned (.tuple #[.int .i64 (if hitB l (pos l (p', o', f') t) (p', o', f') t then (pos l (p', o', f') t : Int) - 1 else 0), .bool (hitB l (pos l (p', o', f') t) (p', o', f') t)]) ∧ Calm u w' :=
    fun u hu => liveRun_any A d l p' o' f' t u hn4 (hL.calm hu) hG.2.2
  have cC : ∀ u, Calm w u → Calls Try.prog 20 #[.slice A l.length d] u fun e w' => ∃ v, e = .returned v ∧ OwnR u.heap.size w' v l ∧ Calm u w' := fun u hu => clone_any A d l u hn4 (hL.calm hu)
  rcases hit_open hG (p', o', f') hlt' with ⟨h1, h2, hi, h3, h4⟩ | ⟨h1, h2⟩
  · rw [h1, if_pos rfl, show (pos l (p', o', f') t : Int) - 1 = ((pos l (p', o', f') t - 1 : Nat) : Int) by omega] at cV
    have hpos : pos l (p', o', f') t = (pos l (p', o', f') t - 1) + 1 := by omega
    by_cases hm : l[pos l (p', o', f') t - 1].m = t
    · obtain ⟨e1, e2⟩ := put_same (s := s') hi h3 h4 hm
      have e3 : putErr l (p', o', f') s' t = 0 := by rw [hpe, e1]; rfl
      have hgd := hgood e3
      rw [e3, if_pos rfl]
      rw [e2] at hgd ⊢
      generalize pos l (p', o', f') t - 1 = j at hi hm hgd cV ⊢
      clear e1 e2 e3 h1 h2 h3 h4 hpe hgood hpos hlt' hlt hx he hG
      have hwf := hgd.wf
      obtain ⟨b, q, p, o, f, m, g, s, rfl, hb, HE, hm', c0, c1, c2, c3, c4, c5⟩ := hL.get hi
      have e4 : l[j] = ⟨p, o, f, m, g, s⟩ := (List.getElem?_eq_some_iff.1 HE.out).2
      rw [e4] at hm
      simp only at hm
      subst hm
      have hC3 : ∀ u, Calm w u → u.cell? ⟨b, q + j * 6 + 3, none⟩ = some (.int .i64 m) := fun u hu => (hu.facts.1 _ _ hb).trans c3
      have hjz : (j : Int) < (l.length : Int) := by omega
      have E4 := Lib.hid e4
      clear c0 c1 c2 c3 c4 c5 HE e4 hL
      go_enter Try.func50, Try.ntmps50
      go_wp2_with (first
        | (go_at_call 73; refine (cW _ hu).mono ?_; rintro e w1 ⟨rfl, hb1⟩; replace hy := (hb1.block (row3 hy).2.2.2).trans hy; replace hz := (hb1.block (row6 hz).2.2.2.2.2.2).trans hz; replace hu := hu.call hb1; clear hb1; obtain ⟨y0, y1, y2, hys⟩ := row3 hy; obtain ⟨z0, z1, z2, z3, z4, z5, hzs⟩ := row6 hz; clear cW)
        | (go_at_call 74; refine (cV _ hu).mono ?_; rintro e w1 ⟨rfl, hb1⟩; replace hy := (hb1.block (row3 hy).2.2.2).trans hy; replace hz := (hb1.block (row6 hz).2.2.2.2.2.2).trans hz; replace hu := hu.call hb1; clear hb1; obtain ⟨y0, y1, y2, hys⟩ := row3 hy; obtain ⟨z0, z1, z2, z3, z4, z5, hzs⟩ := row6 hz; have c3 := hC3 _ hu; clear cV hC3)
        | (go_at_call 20; refine (cC _ hu).mono ?_; rintro e w2 ⟨v, rfl, ho, hb1⟩; obtain ⟨g', cap, rfl⟩ := ho.some (by omega); have HO := Lib.hid ho; obtain ⟨⟨d0, d1, d2, d3, d4, d5⟩, hfz, hbg, hgl, _, hcn⟩ := ho.cell hi; have hfz5 := hfz (j * 6 + 5); have hu2 := hu.call hb1; have hbw := Nat.le_trans hu.size hbg; clear cC ho hfz))
      go_ret2
      exact ⟨_, rfl, (HO.out.set (x := { l[j] with s := s' }) hi (by omega) (by rw [E4.out]; rfl)).sl hwf, hu2.setCell hbw _⟩
    · obtain ⟨e1, e2, e3, e4⟩ := put_new (s := s') hG hi h3 h4 hm hlt' q2 q1
      have hpe2 : putErr l (p', o', f') s' t = if 400 ≤ l.length then 8 else 0 := by rw [hpe, e1]; rfl
      have hm2 : ¬ (l[pos l (p', o', f') t - 1].m = t) := hm
      obtain ⟨b, q, p, o, f, m, g, s, rfl, hb, HE, hm', c0, c1, c2, c3, c4, c5⟩ := hL.get hi
      have e5 : l[pos l (p', o', f') t - 1] = ⟨p, o, f, m, g, s⟩ := (List.getElem?_eq_some_iff.1 HE.out).2
      rw [e5] at hm2
      simp only at hm2
      have hC3 : ∀ u, Calm w u → u.cell? ⟨b, q + (pos l (p', o', f') t - 1) * 6 + 3, none⟩ = some (.int .i64 m) := fun u hu => (hu.facts.1 _ _ hb).trans c3
      have E5 := Lib.hid e5
      clear c0 c1 c2 c3 c4 c5 HE e5 hL
      by_cases hfull : 400 ≤ l.length
      · rw [if_pos hfull] at hpe2
        rw [hpe2, if_neg (by decide)]
        have hl4 : (l.length : Int) = 400 := by omega
        have hjz : ((pos l (p', o', f') t - 1 : Nat) : Int) < (l.length : Int) := by omega
        generalize pos l (p', o', f') t - 1 = j at *
        clear hgood hpe hpe2 e1 e2 e3 e4 h1 h2 h3 h4 hpos hlt hlt' hx he hG hm
        clear hfull hn4
        go_enter Try.func50, Try.ntmps50
        go_wp2_with (first
          | (go_at_call 73; refine (cW _ hu).mono ?_; rintro e w1 ⟨rfl, hb1⟩; replace hy := (hb1.block (row3 hy).2.2.2).trans hy; replace hz := (hb1.block (row6 hz).2.2.2.2.2.2).trans hz; replace hu := hu.call hb1; clear hb1; obtain ⟨y0, y1, y2, hys⟩ := row3 hy; obtain ⟨z0, z1, z2, z3, z4, z5, hzs⟩ := row6 hz; clear cW)
          | (go_at_call 74; refine (cV _ hu).mono ?_; rintro e w1 ⟨rfl, hb1⟩; replace hy := (hb1.block (row3 hy).2.2.2).trans hy; replace hz := (hb1.block (row6 hz).2.2.2.2.2.2).trans hz; replace hu := hu.call hb1; clear hb1; obtain ⟨y0, y1, y2, hys⟩ := row3 hy; obtain ⟨z0, z1, z2, z3, z4, z5, hzs⟩ := row6 hz; have c3 := hC3 _ hu; clear cV hC3))
        go_ret2
        exact ⟨_, rfl, Sl.nil _ _ _, hu⟩
      · rw [if_neg hfull] at hpe2
        have hgd := hgood hpe2
        rw [hpe2, if_pos rfl]
        rw [e4] at hgd ⊢
        have hl4 : ¬ ((l.length : Int) = 400) := by omega
        have hpl := pos_le l (p', o', f') t
        have HP := Lib.hid hpos
        clear hgood hpe hpe2 e1 e4 h1 h2 h3 h4 hpos hlt hlt' hx he hG hm
        generalize hpj : pos l (p', o', f') t - 1 = j at *
        have hjz : (j : Int) < (l.length : Int) := by omega
        have hq : (l.set j { l[j] with g := t }) = l.set j ⟨p, o, f, m, t, s⟩ := by rw [E5.out]
        rw [hq] at hgd e2 e3 ⊢
        clear hq hpj
        go_enter Try.func50, Try.ntmps50
        go_upto_region 15 with (first
          | (go_at_call 73; refine (cW _ hu).mono ?_; rintro e w1 ⟨rfl, hb1⟩; replace hy := (hb1.block (row3 hy).2.2.2).trans hy; replace hz := (hb1.block (row6 hz).2.2.2.2.2.2).trans hz; replace hu := hu.call hb1; clear hb1; obtain ⟨y0, y1, y2, hys⟩ := row3 hy; obtain ⟨z0, z1, z2, z3, z4, z5, hzs⟩ := row6 hz; clear cW)
          | (go_at_call 74; refine (cV _ hu).mono ?_; rintro e w1 ⟨rfl, hb1⟩; replace hy := (hb1.block (row3 hy).2.2.2).trans hy; replace hz := (hb1.block (row6 hz).2.2.2.2.2.2).trans hz; replace hu := hu.call hb1; clear hb1; obtain ⟨y0, y1, y2, hys⟩ := row3 hy; obtain ⟨z0, z1, z2, z3, z4, z5, hzs⟩ := row6 hz; have c3 := hC3 _ hu; clear cV hC3)
          | (go_at_call 20; refine (cC _ hu).mono ?_; rintro e w2 ⟨v, rfl, ho, hb1⟩; obtain ⟨g', cap, rfl⟩ := ho.some (by omega); have HO := Lib.hid ho; obtain ⟨⟨d0, d1, d2, d3, d4, d5⟩, hfz, hbg, hgl, _, hcn⟩ := ho.cell hi; have hfz4 := hfz (j * 6 + 4); have hz2 := (hb1.block (row6 hz).2.2.2.2.2.2).trans hz; have hu2 := hu.call hb1; have hbw := Nat.le_trans hu.size hbg; clear cC ho hfz))
        have HO2 := Lib.hid (HO.out.set (x := ⟨p, o, f, m, t, s⟩) hi (by omega : 4 < 6) (by rw [E5.out]; rfl : _ = l[j].cells.set 4 (.int .i64 t)))
        have hz3 := (Below.heap_setCell w2 ⟨g', j * 6 + 4, none⟩ (.int .i64 t) (w.heap.size + 1) (by show _ ≠ g'; omega)).trans hz2
        have hu3 := hu2.setCell (p := ⟨g', j * 6 + 4, none⟩) hbw (.int .i64 t)
        have hwl : w1.heap.size ≤ (w2.setCell ⟨g', j * 6 + 4, none⟩ (.int .i64 t)).heap.size := by simp; omega
        generalize w2.setCell ⟨g', j * 6 + 4, none⟩ (.int .i64 t) = w3 at HO2 hz3 hu3 hwl ⊢
        have hwf := e2.wf
        have hL1 := (HO2.out.reads hwf).2
        have cF : ∀ u, Calm w3 u → Calls Try.prog 76 #[.slice (some ⟨g', 0, none⟩) l.length cap, .agg #[.int .i64 p', .int .i64 o', .int .i64 f', .int .i64 t]] u fun e w' => e = .returned (.int .i64 (pos l (p', o', f') t)) ∧ Calm u w' := fun u hu => by
          have h := after_any (some ⟨g', 0, none⟩) cap (l.set j ⟨p, o, f, m, t, s⟩) p' o' f' t u (by rw [List.length_set]; exact hn4) (hL1.calm hu) e2.2.2
          rw [List.length_set, show pos (l.set j ⟨p, o, f, m, t, s⟩) (p', o', f') t = pos l (p', o', f') t from by rw [← E5.out] at *; exact e3] at h
          exact h
        have cI : ∀ u h, Calm w3 u → w3.drew.heap.size ≤ h → u.heap[h]? = some (.cells #[.int .i64 p', .int .i64 o', .int .i64 f', .int .i64 t, .int .i64 0, .string s'] 43 (0, 0)) → Calls Try.prog 75 #[.slice (some ⟨g', 0, none⟩) l.length cap, .int .i64 (pos l (p', o', f') t), .slice (some ⟨h, 0, none⟩) 1 1] u (OwnEnd w1.heap.size (insAt (l.set j ⟨p, o, f, m, t, s⟩) (pos l (p', o', f') t) (fresh (p', o', f') s' t)) u) := fun u h hv hgh0 hh =>
          have hgh : g' < h := Nat.lt_of_lt_of_le (HO2.out.lt g' rfl).2 hgh0
          insert_any w1.heap.size h (pos l (p', o', f') t) _ (l.set j ⟨p, o, f, m, t, s⟩) p' o' f' t 0 s' u (by rw [List.length_set]; exact hpl) (by rw [List.length_set]; exact hn4) (HO2.out.calm hv) (Nat.le_trans hwl hv.size) hh (fun e => Nat.ne_of_lt hgh (by simpa [Value.ownBlock] using e))
        have hwf2 := Lib.hid hgd.wf
        have hw1 := hu.size
        clear hgd e2 e3 HP hpl E5 HO HO2 hL1 hwf d0 d1 d2 d3 d4 d5 hfz4 hz2 hu2 hwl y0 y1 y2 hys z0 z1 z2 z3 z4 z5 hzs hy hz c3
        generalize pos l (p', o', f') t = P at *
        generalize insAt (l.set j ⟨p, o, f, m, t, s⟩) P (fresh (p', o', f') s' t) = R at *
        obtain ⟨z0, z1, z2, z3, z4, z5, hzs⟩ := row6 hz3
        have HW1 := Lib.hid hw1
        clear hw1 q1 q2 q3 hn hn4 hm2 hb hm' hfull hl4 hjz hi hb1 hbg hgl hcn hbw hz3
        refine wp_region_plan_tail 7 [.val (.slice (some ⟨g', 0, none⟩) l.length cap), .val (.slice (some ⟨g', 0, none⟩) l.length cap), .val (.agg #[.int .i64 p', .int .i64 o', .int .i64 f', .int .i64 t, .int .i64 0, .string s']), .val (.agg #[.int .i64 p', .int .i64 o', .int .i64 f', .int .i64 t]), .val (.int .i64 P), .val (.agg #[.int .i64 p', .int .i64 o', .int .i64 f', .int .i64 t, .int .i64 0, .string s']), .new #[.int .i64 p', .int .i64 o', .int .i64 f', .int .i64 t, .int .i64 0, .string s'] 43 (some 1)] (by kernel_rfl) (by kernel_rfl) (by kernel_rfl) (by kernel_rfl) ?_
        intro X
        simp only [List.take_succ_cons, List.take_zero, List.drop_succ_cons, List.drop_zero]
        iterate 6
          refine plan_val (by kernel_rfl) (fun u hu => ?_) ?_
          · obtain ⟨hc, hf, hz⟩ := hu.of_drew.facts
            go_simp
            all_goals first
              | (go_at_call 27; exact spot_any _ _ _ _ _ _ _)
              | (go_at_call 76; exact cF _ hu.of_drew)
          simp only [Act.put, List.setIfInBounds_toArray, List.set_cons_zero, List.set_cons_succ, Nat.reduceAdd]
        refine plan_lit (by kernel_rfl) (fun u => ?_) ?_
        · go_simp
        simp only [Act.put, List.setIfInBounds_toArray, List.set_cons_zero, List.set_cons_succ, Nat.reduceAdd]
        refine plan_end ?_
        intro w' hB
        have hr6 := hB.row 6 _ _ rfl
        have hk := hB.calm.of_drew
        clear hB
        have hI := cI w' (X 6) hk hr6.1 hr6.2
        clear hr6 cI cF
        go_wp2_with (go_at_call 75; refine hI.mono ?_; rintro e w9 ⟨v9, rfl, ho9, hk9⟩; have HO9 := Lib.hid ho9; have hu9 := hk9 w HW1.out (hu3.call hk); clear ho9 hk9)
        go_ret2
        exact ⟨_, rfl, HO9.out.sl hwf2.out, hu9⟩
  · rw [h1] at cV
    simp only [Bool.false_eq_true, if_false] at cV
    obtain ⟨e1, e2⟩ := put_none (s := s') (t := t) hG h2
    have hpe2 : putErr l (p', o', f') s' t = if 400 ≤ l.length then 8 else 0 := by rw [hpe, e1]; rfl
    by_cases hfull : 400 ≤ l.length
    · rw [if_pos hfull] at hpe2
      rw [hpe2, if_neg (by decide)]
      have hl4 : (l.length : Int) = 400 := by omega
      clear hgood hpe hpe2 e1 e2 h1 h2 hlt hlt' hx he hG hL hfull hn4
      go_enter Try.func50, Try.ntmps50
      go_wp2_with (first
        | (go_at_call 73; refine (cW _ hu).mono ?_; rintro e w1 ⟨rfl, hb1⟩; replace hy := (hb1.block (row3 hy).2.2.2).trans hy; replace hz := (hb1.block (row6 hz).2.2.2.2.2.2).trans hz; replace hu := hu.call hb1; clear hb1; obtain ⟨y0, y1, y2, hys⟩ := row3 hy; obtain ⟨z0, z1, z2, z3, z4, z5, hzs⟩ := row6 hz; clear cW)
        | (go_at_call 74; refine (cV _ hu).mono ?_; rintro e w1 ⟨rfl, hb1⟩; replace hy := (hb1.block (row3 hy).2.2.2).trans hy; replace hz := (hb1.block (row6 hz).2.2.2.2.2.2).trans hz; replace hu := hu.call hb1; clear hb1; obtain ⟨y0, y1, y2, hys⟩ := row3 hy; obtain ⟨z0, z1, z2, z3, z4, z5, hzs⟩ := row6 hz; clear cV))
      go_ret2
      exact ⟨_, rfl, Sl.nil _ _ _, hu⟩
    · rw [if_neg hfull] at hpe2
      have hgd := hgood hpe2
      rw [hpe2, if_pos rfl]
      rw [e2] at hgd ⊢
      have hl4 : ¬ ((l.length : Int) = 400) := by omega
      have hpl := pos_le l (p', o', f') t
      have HG := Lib.hid hG
      clear hgood hpe hpe2 e1 e2 h1 h2 hlt hlt' hx he hG hL
      go_enter Try.func50, Try.ntmps50
      go_upto_region 15 with (first
        | (go_at_call 73; refine (cW _ hu).mono ?_; rintro e w1 ⟨rfl, hb1⟩; replace hy := (hb1.block (row3 hy).2.2.2).trans hy; replace hz := (hb1.block (row6 hz).2.2.2.2.2.2).trans hz; replace hu := hu.call hb1; clear hb1; obtain ⟨y0, y1, y2, hys⟩ := row3 hy; obtain ⟨z0, z1, z2, z3, z4, z5, hzs⟩ := row6 hz; clear cW)
        | (go_at_call 74; refine (cV _ hu).mono ?_; rintro e w1 ⟨rfl, hb1⟩; replace hy := (hb1.block (row3 hy).2.2.2).trans hy; replace hz := (hb1.block (row6 hz).2.2.2.2.2.2).trans hz; replace hu := hu.call hb1; clear hb1; obtain ⟨y0, y1, y2, hys⟩ := row3 hy; obtain ⟨z0, z1, z2, z3, z4, z5, hzs⟩ := row6 hz; clear cV)
        | (go_at_call 20; refine (cC _ hu).mono ?_; rintro e w3 ⟨v, rfl, ho, hb1⟩; obtain ⟨A1, c1, rfl, _, _, hL1⟩ := ho.lies HG.out.wf; have HO2 := Lib.hid ho; have hz3 := (hb1.block (row6 hz).2.2.2.2.2.2).trans hz; have hu3 := hu.call hb1; have hwl := hb1.size; have hw1 := hu.size; clear cC ho))
      have cF : ∀ u, Calm w3 u → Calls Try.prog 76 #[.slice A1 l.length c1, .agg #[.int .i64 p', .int .i64 o', .int .i64 f', .int .i64 t]] u fun e w' => e = .returned (.int .i64 (pos l (p', o', f') t)) ∧ Calm u w' := fun u hu =>
        after_any A1 c1 l p' o' f' t u hn4 (hL1.calm hu) HG.out.2.2
      have cI : ∀ u h, Calm w3 u → w3.drew.heap.size ≤ h → u.heap[h]? = some (.cells #[.int .i64 p', .int .i64 o', .int .i64 f', .int .i64 t, .int .i64 0, .string s'] 43 (0, 0)) → Calls Try.prog 75 #[.slice A1 l.length c1, .int .i64 (pos l (p', o', f') t), .slice (some ⟨h, 0, none⟩) 1 1] u (OwnEnd w1.heap.size (insAt l (pos l (p', o', f') t) (fresh (p', o', f') s' t)) u) := fun u h hv hgh0 hh =>
        insert_any w1.heap.size h (pos l (p', o', f') t) _ l p' o' f' t 0 s' u hpl hn4 (HO2.out.calm hv) (Nat.le_trans hwl hv.size) hh (fun e => by have h9 := (HO2.out.lt h e).2; exact absurd hgh0 (Nat.not_le.2 h9))
      have hwf2 := Lib.hid hgd.wf
      clear hgd hpl HG HO2 hL1 hwl y0 y1 y2 hys z0 z1 z2 z3 z4 z5 hzs hy hz
      generalize pos l (p', o', f') t = P at *
      generalize insAt l P (fresh (p', o', f') s' t) = R at *
      obtain ⟨z0, z1, z2, z3, z4, z5, hzs⟩ := row6 hz3
      have HW1 := Lib.hid hw1
      clear hw1 q1 q2 q3 hn hn4 hfull hl4 hb1 hz3
      refine wp_region_plan_tail 7 [.val (.slice A1 l.length c1), .val (.slice A1 l.length c1), .val (.agg #[.int .i64 p', .int .i64 o', .int .i64 f', .int .i64 t, .int .i64 0, .string s']), .val (.agg #[.int .i64 p', .int .i64 o', .int .i64 f', .int .i64 t]), .val (.int .i64 P), .val (.agg #[.int .i64 p', .int .i64 o', .int .i64 f', .int .i64 t, .int .i64 0, .string s']), .new #[.int .i64 p', .int .i64 o', .int .i64 f', .int .i64 t, .int .i64 0, .string s'] 43 (some 1)] (by kernel_rfl) (by kernel_rfl) (by kernel_rfl) (by kernel_rfl) ?_
      intro X
      simp only [List.take_succ_cons, List.take_zero, List.drop_succ_cons, List.drop_zero]
      iterate 6
        refine plan_val (by kernel_rfl) (fun u hu => ?_) ?_
        · obtain ⟨hc, hf, hz⟩ := hu.of_drew.facts
          go_simp
          all_goals first
            | (go_at_call 27; exact spot_any _ _ _ _ _ _ _)
            | (go_at_call 76; exact cF _ hu.of_drew)
        simp only [Act.put, List.setIfInBounds_toArray, List.set_cons_zero, List.set_cons_succ, Nat.reduceAdd]
      refine plan_lit (by kernel_rfl) (fun u => ?_) ?_
      · go_simp
      simp only [Act.put, List.setIfInBounds_toArray, List.set_cons_zero, List.set_cons_succ, Nat.reduceAdd]
      refine plan_end ?_
      intro w' hB
      have hr6 := hB.row 6 _ _ rfl
      have hk := hB.calm.of_drew
      clear hB
      have hI := cI w' (X 6) hk hr6.1 hr6.2
      clear hr6 cI cF
      go_wp2_with (go_at_call 75; refine hI.mono ?_; rintro e w9 ⟨v9, rfl, ho9, hk9⟩; have HO9 := Lib.hid ho9; have hu9 := hk9 w HW1.out (hu3.call hk); clear ho9 hk9)
      go_ret2
      exact ⟨_, rfl, HO9.out.sl hwf2.out, hu9⟩
end Go.Proofs.Ytoplkcegflgfpaa

/- Trees whose nodes hold the same: what holds of one holds of the other. -/
namespace Go.Proofs.Ytoplkcegflgfpaa

/-- Two lists of nodes that differ in where the nodes lie at most. -/
structure SameT (l us : List Nd) : Prop where
  len : us.length = l.length
  get : ∀ (i : Nat) (n : Nd), l[i]? = some n → ∃ m, us[i]? = some m ∧ m.kd = n.kd ∧ m.E = n.E ∧ m.K = n.K ∧ m.S = n.S ∧ m.T = n.T
section
variable {l us : List Nd} (h : SameT l us)
include h
set_option maxRecDepth 100000 in
theorem SameT.symm : SameT us l := ⟨h.len.symm, fun i n hn => by
  have hlt : i < l.length := by have := (List.getElem?_eq_some_iff.1 hn).1; have := h.len; omega
  obtain ⟨m, hm, h1, h2, h3, h4, h5⟩ := h.get i _ (List.getElem?_eq_getElem hlt)
  rw [hn] at hm
  injection hm with hm
  subst hm
  exact ⟨_, List.getElem?_eq_getElem hlt, h1.symm, h2.symm, h3.symm, h4.symm, h5.symm⟩⟩
set_option maxRecDepth 100000 in
theorem SameT.none {i : Nat} (hn : l[i]? = none) : us[i]? = none := by
  rw [List.getElem?_eq_none_iff] at hn ⊢
  rw [h.len]; exact hn
set_option maxRecDepth 100000 in
theorem SameT.kids : kidsOf us = kidsOf l := by
  funext x
  unfold kidsOf
  cases hn : l[x.toNat]? with
  | none => rw [h.none hn]
  | some n => obtain ⟨m, hm, -, -, h3, -⟩ := h.get _ _ hn; rw [hm]; exact h3
set_option maxRecDepth 100000 in
theorem SameT.kind : kindOf us = kindOf l := by
  funext x
  unfold kindOf
  cases hn : l[x.toNat]? with
  | none => rw [h.none hn]
  | some n => obtain ⟨m, hm, h1, -⟩ := h.get _ _ hn; rw [hm]; exact h1
set_option maxRecDepth 100000 in
theorem SameT.tid : tidOf us = tidOf l := by
  funext x
  unfold tidOf
  cases hn : l[x.toNat]? with
  | none => rw [h.none hn]
  | some n => obtain ⟨m, hm, -, h2, -, -, h5⟩ := h.get _ _ hn; rw [hm]; simp only [h2, h5]
set_option maxRecDepth 100000 in
theorem SameT.lev (root : Int) : ∀ k, lev us root k = lev l root k
  | 0 => rfl
  | k + 1 => by rw [Go.Proofs.Ytoplkcegflgfpaa.lev, Go.Proofs.Ytoplkcegflgfpaa.lev, SameT.lev root k, h.kids]
set_option maxRecDepth 100000 in
theorem SameT.head (L : List Int) : headKind us L = headKind l L := by unfold headKind; rw [h.kind]
set_option maxRecDepth 100000 in
theorem SameT.entP {k0 : Int} : ∀ {L : List Int} {bs b1 : List Bool}, EntP l k0 L bs b1 → EntP us k0 L bs b1
  | [], _, _, he => he
  | x :: L, _, _, he => by
    obtain ⟨⟨e1, e2, e3, e4, e5⟩, e6⟩ := he
    exact ⟨⟨e1, by rw [h.len]; exact e2, e3, by rw [h.kind]; exact e4, by rw [h.kind]; exact e5⟩, SameT.entP e6⟩
set_option maxRecDepth 100000 in
theorem SameT.hist {root : Int} : ∀ {k : Nat} {bs : List Bool}, Hist l root k bs → Hist us root k bs
  | 0, bs, hb => by
    have hb : bs = _ := hb
    show bs = _
    rw [h.len]; exact hb
  | k + 1, bs, ⟨b0, g1, g2, g3⟩ => ⟨b0, SameT.hist g1, by rw [h.lev]; exact g2, by rw [h.lev, h.head]; exact h.entP g3⟩
set_option maxRecDepth 100000 in
theorem SameT.link {root : Int} (hl : LinkP l root) : LinkP us root := by
  obtain ⟨m, bs, g1, g2, g3⟩ := hl
  refine ⟨m, bs, h.hist g1, by rw [h.lev]; exact g2, fun i n hn h0 => ?_⟩
  obtain ⟨n', hn', e1, -⟩ := h.symm.get i n hn
  exact g3 i n' hn' (by rw [e1]; exact h0)
set_option maxRecDepth 100000 in
theorem SameT.fill {root : Int} (hf : FillP root l) : FillP root us := fun i n hn hr h0 => by
  obtain ⟨n', hn', e1, e2, e3, -⟩ := h.symm.get i n hn
  have := hf i n' hn' hr (by rw [e1]; exact h0)
  rw [← e2, ← e3]; exact this
set_option maxRecDepth 100000 in
theorem SameT.time (ht : TimeP l) : TimeP us := fun i n hn j x hx => by
  obtain ⟨n', hn', e1, e2, e3, e4, e5⟩ := h.symm.get i n hn
  rw [← e5, h.tid]
  exact ht i n' hn' j x (by rw [e3]; exact hx)
set_option maxRecDepth 100000 in
theorem SameT.nd {x : Int} {n : Nd} (hn : ndOf l x = some n) : ∃ m, ndOf us x = some m ∧ m.kd = n.kd ∧ m.E = n.E ∧ m.K = n.K ∧ m.S = n.S ∧ m.T = n.T := by
  obtain ⟨h1, h2, h3⟩ := nd_of_in hn
  obtain ⟨m, hm, hh⟩ := h.get _ _ h3
  exact ⟨m, nd_of h1 hm, hh⟩
set_option maxRecDepth 100000 in
theorem SameT.deep : ∀ {d : Nat} {x : Int}, Deep l d x → Deep us d x
  | 0, _, hd => hd
  | d + 1, x, ⟨n, hn, hc⟩ => by
    obtain ⟨m, hm, e1, e2, e3, e4, e5⟩ := h.nd hn
    refine ⟨m, hm, ?_⟩
    rcases hc with ⟨h1, h2⟩ | ⟨h1, h2⟩
    · exact .inl ⟨by rw [e1]; exact h1, h2⟩
    · exact .inr ⟨by rw [e1]; exact h1, fun y hy => SameT.deep (h2 y (by rw [← e3]; exact hy))⟩
set_option maxRecDepth 100000 in
theorem SameT.ord : ∀ {d : Nat} {x : Int} {lo hi : Sp}, OrdP l d x lo hi → OrdP us d x lo hi
  | 0, _, _, _, ho => ho
  | d + 1, x, lo, hi, ho => fun m hm => by
    obtain ⟨n, hn, e1, e2, e3, e4, e5⟩ := h.symm.nd hm
    obtain ⟨o1, o2, o3⟩ := ho n hn
    exact ⟨by rw [← e2]; exact o1, by rw [← e4]; exact o2, fun j y hy => by rw [← e4]; exact SameT.ord (o3 j y (by rw [e3]; exact hy))⟩
set_option maxRecDepth 100000 in
theorem SameT.recs : ∀ (d : Nat) (x : Int), recsD us d x = recsD l d x
  | 0, _ => rfl
  | d + 1, x => by
    rw [recsD, recsD]
    cases hn : ndOf l x with
    | none =>
      cases hm : ndOf us x with
      | none => rfl
      | some m => obtain ⟨n, hn', -⟩ := h.symm.nd hm; rw [hn] at hn'; cases hn'
    | some n =>
      obtain ⟨m, hm, e1, e2, e3, -⟩ := h.nd hn
      rw [hm]
      simp only [e2, e3]
      congr 1
      exact congrArg (fun f => List.flatMap f n.K) (funext (SameT.recs d))
set_option maxRecDepth 100000 in
theorem SameT.ok (hk : NdsOk l) : NdsOk us := fun m hm => by
  obtain ⟨i, hi, rfl⟩ := List.getElem_of_mem hm
  obtain ⟨n, hn, e1, e2, e3, e4, e5⟩ := h.symm.get i _ (List.getElem?_eq_getElem hi)
  rw [← e1, ← e2, ← e3, ← e4, ← e5]
  exact hk n (List.mem_of_getElem? hn)
set_option maxRecDepth 100000 in
theorem SameT.good {root : Int} (hz : treeErr l root = 0) : treeErr us root = 0 ∧ allOf us root = allOf l root := by
  obtain ⟨hl, hok, g1, g2, g3, d, hD, hO⟩ := treeErr_zero.1 hz
  refine ⟨treeErr_zero.2 ⟨by rw [h.len]; exact hl, h.ok hok, h.link g1, h.fill g2, h.time g3, d, h.deep hD, h.ord hO⟩, ?_⟩
  unfold allOf
  rw [depthOf_eq hok hD, depthOf_eq (h.ok hok) (h.deep hD), h.recs]
end
end Go.Proofs.Ytoplkcegflgfpaa

/- A slice of nodes that a call makes: append, and what it reads as. -/
namespace Go.Proofs.Ytoplkcegflgfpaa
open Go.RowKit

def cellsN (l : List Nd) : List Value := l.flatMap Nd.cells
def OwnN (base : Nat) (w : World) (v : Value) (l : List Nd) : Prop := w.ownsRow base 37 5 v l.length (cellsN l)
set_option maxRecDepth 100000 in
theorem cellsN_len (l : List Nd) : (cellsN l).length = l.length * 5 := by
  unfold cellsN
  induction l with
  | nil => rfl
  | cons e l ih => rw [List.flatMap_cons, List.length_append, ih, show e.cells.length = 5 from rfl, List.length_cons]; omega
set_option maxRecDepth 100000 in
theorem cellsN_at : ∀ (l : List Nd) (k j : Nat) (e : Nd), l[k]? = some e → j < 5 → (cellsN l)[k * 5 + j]? = e.cells[j]?
  | [], k, j, e, h, _ => by simp at h
  | x :: l, 0, j, e, h, hj => by
    simp at h; subst h
    show (x.cells ++ cellsN l)[0 * 5 + j]? = _
    rw [Nat.zero_mul, Nat.zero_add, List.getElem?_append_left (by rw [show x.cells.length = 5 from rfl]; exact hj)]
  | x :: l, k + 1, j, e, h, hj => by
    show (x.cells ++ cellsN l)[(k + 1) * 5 + j]? = _
    rw [List.getElem?_append_right (by rw [show x.cells.length = 5 from rfl]; omega), show x.cells.length = 5 from rfl]
    rw [show (k + 1) * 5 + j - 5 = k * 5 + j by omega]
    exact cellsN_at l k j e (by simpa using h) hj
set_option maxRecDepth 100000 in
theorem cellsN_snoc (l : List Nd) (e : Nd) : cellsN (l ++ [e]) = cellsN l ++ e.cells := by unfold cellsN; simp
set_option maxRecDepth 100000 in
theorem infoNode : (Try.prog.info? 37).map (fun i => (i.zero, i.size, i.bytes)) = some (some (.agg #[.int .i64 0, .slice none 0 0, .slice none 0 0, .slice none 0 0, .slice none 0 0]), 5, 104) := by kernel_rfl
set_option maxRecDepth 100000 in
theorem cellsN_one (e : Nd) : ∀ u ∈ e.cells, u.oneCell' = true := by
  intro u hu
  simp only [Nd.cells, List.mem_cons, List.not_mem_nil, or_false] at hu
  rcases hu with rfl | rfl | rfl | rfl | rfl <;> rfl
set_option maxRecDepth 100000 in
theorem OwnN.nil (base : Nat) (w : World) : OwnN base w (.slice none 0 0) [] := World.ownsRow_nil _ _ _ _
set_option maxRecDepth 100000 in
theorem OwnN.lt {base : Nat} {w : World} {v : Value} {l : List Nd} (h : OwnN base w v l) : ∀ k, v.ownBlock = some k → base ≤ k ∧ k < w.heap.size := World.ownsRow.lt h
set_option maxRecDepth 100000 in
theorem OwnN.same {base : Nat} {w w' : World} {v : Value} {l : List Nd} (h : OwnN base w v l) (hb : ∀ k, v.ownBlock = some k → w'.heap[k]? = w.heap[k]?) : OwnN base w' v l := by
  refine ⟨h.1, ?_⟩
  rcases h.2 with h1 | ⟨g, cap, cur, rfl, h2, h3, h4⟩
  · exact .inl h1
  · exact .inr ⟨g, cap, cur, rfl, h2, (hb g rfl).trans h3, h4⟩
set_option maxRecDepth 100000 in
theorem OwnN.slice {base : Nat} {w : World} {v : Value} {l : List Nd} (h : OwnN base w v l) : ∃ A c, v = .slice A l.length c := by
  rcases h.2 with ⟨rfl, h0⟩ | ⟨g, cap, cur, rfl, -⟩
  · rw [h0]; exact ⟨_, _, rfl⟩
  · exact ⟨_, _, rfl⟩
set_option maxRecDepth 100000 in
theorem OwnN.tree {base : Nat} {w : World} {A : Option Addr} {c : Nat} {l : List Nd} (h : OwnN base w (.slice A l.length c) l) (hn : ∀ n ∈ l, n.at_ w) (hl : l.length ≤ 9223372036854775807) : TrAt w A l := by
  refine ⟨hn, fun hp => ?_, hl⟩
  rcases h.2 with ⟨h1, h0⟩ | ⟨g, cap, cur, h1, _, hg, hnc, hcm, _, ht⟩
  · omega
  · injection h1 with h1
    refine ⟨g, 0, h1, (Array.getElem?_eq_some_iff.1 hg).1, fun k e he j hj => ?_⟩
    have hk : k < l.length := (List.getElem?_eq_some_iff.1 he).1
    rw [cell_of_row w g _ cur _ (0, 0) hg, ← cellsN_at l k j e he hj, ← ht, List.getElem?_take, if_pos (by omega), Nat.zero_add, Array.getElem?_toList]
set_option maxRecDepth 100000 in
/-- append(out, n), with where the row then lies. -/
theorem run_append_nd (w : World) (ty : TypeId) (base : Nat) (v : Value) (l : List Nd) (hown : OwnN base w v l) (g t : Nat) (e : Nd) (fr : Nat × Nat)
    (hg : w.heap[g]? = some (.cells e.cells.toArray t fr)) (hl : l.length ≤ 1000000) (hbase : base ≤ w.heap.size) :
    ∃ v' w', (Builtin.append_ #[22, 22] ty #[v, .slice (some ⟨g, 0, none⟩) 1 1]).run Try.prog w = .ok v' w' ∧ OwnN base w' v' (l ++ [e]) ∧ w.grownBy w' v.ownBlock ∧ (∀ k, v'.ownBlock = some k → v.ownBlock = some k ∨ w.heap.size ≤ k) := by
  obtain ⟨i0, hi, hz0, hz1, hz2⟩ := info_parts infoNode
  have hnews : ∀ j u, (Nd.cells e)[j]? = some u → w.cell? ((⟨g, 0, none⟩ : Addr).add j) = some u := fun j u hj => by
    have : (⟨g, 0, none⟩ : Addr).add j = ⟨g, j, none⟩ := by unfold Addr.add; split <;> simp_all
    rw [this, cell_of_row w g j _ t fr hg, ← hj]
    simp
  obtain ⟨v', w', hr, h1, h2, -⟩ := run_append_own (P := Try.prog) w base 22 ty 37 i0 _ 5 104 Try.underlying22 hi hz0 hz1 hz2 rfl (by decide) v _ _ hown ⟨g, 0, none⟩ 1 1 (Nd.cells e) rfl hnews (cellsN_one _) (by unfold maxLen; omega) (by omega) hbase
  refine ⟨v', w', hr, ?_, h2, ?_⟩
  · unfold OwnN
    rw [List.length_append, cellsN_snoc]
    exact h1
  · intro k hk
    rcases hown.2 with ⟨rfl, h0⟩ | ⟨g', cap, cur, rfl, hbg, hg', hnc, hcm, hcs, htake⟩
    · have hr2 := run_append_nil (P := Try.prog) w 22 ty 37 i0 _ Try.underlying22 hi hz0 ⟨g, 0, none⟩ 1 1 (Nd.cells e) (by rw [hz1]; rfl) hnews (by omega) (by omega) (by rw [hz2]; omega)
      rw [hr] at hr2
      injection hr2 with a b
      subst a
      injection hk with hk
      exact .inr (by simp at hk; omega)
    · by_cases hroom : l.length + 1 ≤ cap
      · have hr2 := run_append_room (P := Try.prog) w 22 ty 37 i0 Try.underlying22 hi g' l.length cap cur hg' ⟨g, 0, none⟩ 1 1 (Nd.cells e) (by rw [hz1]; rfl) hnews (cellsN_one _) hroom (by rw [hz1, hcs, show (Nd.cells e).length = 5 from rfl]; omega)
        rw [hr] at hr2
        injection hr2 with a b
        subst a
        injection hk with hk
        exact .inl (by rw [← hk]; rfl)
      · have holds := hown.cells (g := g') rfl
        have hr2 := run_append_grow (P := Try.prog) w 22 ty 37 i0 _ Try.underlying22 hi hz0 ⟨g', 0, none⟩ l.length cap (cellsN l) (by rw [hz1, cellsN_len]) holds ⟨g, 0, none⟩ 1 1 (Nd.cells e) (by rw [hz1]; rfl) hnews (by omega) (by omega) (growslice_fits (by omega) (by rw [hz2]; omega))
        rw [hr] at hr2
        injection hr2 with a b
        subst a
        injection hk with hk
        exact .inr (by simp at hk; omega)
set_option maxRecDepth 100000 in
theorem wpList_append_nd {ops : Array Oper} {rest : List Oper} {o : Oper} {a : Act} {w : World} {Q : Exit → Act → World → Prop} (hgd : o.guard = none) (s x : Operand)
    (hop : o.op = .call { callee := .builtin .append, args := #[s, x], argTypes := #[22, 22] })
    (base : Nat) (v : Value) (l : List Nd) (hs : a.eval s = v) (hown : OwnN base w v l) (g t : Nat) (e : Nd) (fr : Nat × Nat)
    (hx : a.eval x = .slice (some ⟨g, 0, none⟩) 1 1) (hg : w.heap[g]? = some (.cells e.cells.toArray t fr)) (hl : l.length ≤ 1000000) (hbase : base ≤ w.heap.size)
    (hK : ∀ v' w', OwnN base w' v' (l ++ [e]) → w.grownBy w' v.ownBlock → (∀ k, v'.ownBlock = some k → v.ownBlock = some k ∨ w.heap.size ≤ k) → wpList Try.prog ops Q rest (a.put o.dst v') w') : wpList Try.prog ops Q (o :: rest) a w := by
  obtain ⟨v', w', hrun, r1, r2, r3⟩ := run_append_nd w o.type base v l hown g t e fr hg hl hbase
  refine wpList_plain hgd fun K hK' => ?_
  unfold Oper.wp execOp
  simp only [hop, resolve, invoke, builtin, Sem.run_bind, Sem.run_pure, Result.andThen_ok, List.map_toArray, List.map_cons, List.map_nil, hs, hx, hrun]
  exact hK' _ _ (hK v' w' r1 r2 r3)

/-! ### A node whose rows lie apart -/
set_option maxRecDepth 100000 in
theorem Lies.same {w w' : World} {A : Option Addr} {l : List El} (h : Lies w A l) (hs : w.heap.size ≤ w'.heap.size) (hb : ∀ a, A = some a → w'.heap[a.block]? = w.heap[a.block]?) : Lies w' A l :=
  ⟨h.1, fun hp => by
    obtain ⟨b, q, hA, hlt, hk⟩ := h.2 hp
    have hcell : ∀ o : Nat, w'.cell? ⟨b, o, none⟩ = w.cell? ⟨b, o, none⟩ := fun o => World.cell?_of_block (a := ⟨b, o, none⟩) (show w'.heap[b]? = w.heap[b]? from hb ⟨b, q, none⟩ hA)
    exact ⟨b, q, hA, by omega, fun k e he => by
      obtain ⟨g0, g1, g2, g3, g4, g5⟩ := hk k e he
      exact ⟨(hcell _).trans g0, (hcell _).trans g1, (hcell _).trans g2, (hcell _).trans g3, (hcell _).trans g4, (hcell _).trans g5⟩⟩⟩
set_option maxRecDepth 100000 in
theorem LiesI.same {w w' : World} {A : Option Addr} {l : List Int} (h : LiesI w A l) (hs : w.heap.size ≤ w'.heap.size) (hb : ∀ a, A = some a → w'.heap[a.block]? = w.heap[a.block]?) : LiesI w' A l := fun hp => by
  obtain ⟨b, q, hA, hlt, hk⟩ := h hp
  have hcell : ∀ o : Nat, w'.cell? ⟨b, o, none⟩ = w.cell? ⟨b, o, none⟩ := fun o => World.cell?_of_block (a := ⟨b, o, none⟩) (show w'.heap[b]? = w.heap[b]? from hb ⟨b, q, none⟩ hA)
  exact ⟨b, q, hA, by omega, fun k e he => (hcell _).trans (hk k e he)⟩
set_option maxRecDepth 100000 in
theorem LiesS.same {w w' : World} {A : Option Addr} {l : List Sp} (h : LiesS w A l) (hs : w.heap.size ≤ w'.heap.size) (hb : ∀ a, A = some a → w'.heap[a.block]? = w.heap[a.block]?) : LiesS w' A l :=
  ⟨h.1, fun hp => by
    obtain ⟨b, q, hA, hlt, hk⟩ := h.2 hp
    have hcell : ∀ o : Nat, w'.cell? ⟨b, o, none⟩ = w.cell? ⟨b, o, none⟩ := fun o => World.cell?_of_block (a := ⟨b, o, none⟩) (show w'.heap[b]? = w.heap[b]? from hb ⟨b, q, none⟩ hA)
    exact ⟨b, q, hA, by omega, fun k e he => by
      obtain ⟨g0, g1, g2, g3⟩ := hk k e he
      exact ⟨(hcell _).trans g0, (hcell _).trans g1, (hcell _).trans g2, (hcell _).trans g3⟩⟩⟩
/-- A node in memory whose rows lie from B on, and not in block g. -/
def NdOut (B : Nat) (w : World) (g : Option Nat) (n : Nd) : Prop :=
  n.at_ w ∧ ∀ a, (n.A1 = some a ∨ n.A2 = some a ∨ n.A3 = some a ∨ n.A4 = some a) → B ≤ a.block ∧ a.block < w.heap.size ∧ some a.block ≠ g
set_option maxRecDepth 100000 in
theorem NdOut.same {B : Nat} {w w' : World} {g g' : Option Nat} {n : Nd} (h : NdOut B w g n) (hs : w.heap.size ≤ w'.heap.size) (hb : ∀ k, B ≤ k → k < w.heap.size → some k ≠ g → w'.heap[k]? = w.heap[k]?)
    (hg : ∀ k, g' = some k → g = some k ∨ w.heap.size ≤ k) : NdOut B w' g' n := by
  have hk := fun a ha => (fun x : B ≤ a.block ∧ a.block < w.heap.size ∧ some a.block ≠ g => hb a.block x.1 x.2.1 x.2.2) (h.2 a ha)
  refine ⟨⟨h.1.e.same hs fun a ha => hk a (.inl ha), h.1.k.same hs fun a ha => hk a (.inr (.inl ha)), h.1.s.same hs fun a ha => hk a (.inr (.inr (.inl ha))), h.1.t.same hs fun a ha => hk a (.inr (.inr (.inr ha))), h.1.ne, h.1.nk, h.1.ns, h.1.nt⟩, fun a ha => ?_⟩
  obtain ⟨h1, h2, h3⟩ := h.2 a ha
  refine ⟨h1, by omega, fun he => ?_⟩
  rcases hg _ he.symm with h4 | h4
  · exact h3 h4.symm
  · omega
set_option maxRecDepth 100000 in
theorem NdOwn.out {B : Nat} {w : World} {A1 A2 A3 A4 : Option Addr} {c1 c2 c3 c4 : Nat} {E : List El} {K : List Int} {S : List Sp} {T : List Int} (h : NdOwn B w A1 A2 A3 A4 c1 c2 c3 c4 E K S T) (kd : Int) {g : Option Nat} {B' : Nat} (hB : B' ≤ B) (hg : ∀ k, g = some k → k < B) :
    NdOut B' w g ⟨kd, A1, A2, A3, A4, c1, c2, c3, c4, E, K, S, T⟩ := by
  refine ⟨h.at_, fun a ha => ?_⟩
  have key : B ≤ a.block ∧ a.block < w.heap.size := by
    rcases ha with ha | ha | ha | ha
    · exact h.e.lt a.block (by simp only at ha; rw [ha]; rfl)
    · exact h.k.lt a.block (by simp only at ha; rw [ha]; rfl)
    · exact World.ownsRow.lt h.s a.block (by simp only at ha; rw [ha]; rfl)
    · exact h.t.lt a.block (by simp only at ha; rw [ha]; rfl)
  exact ⟨by omega, key.2, fun he => by have := hg _ he.symm; omega⟩
end Go.Proofs.Ytoplkcegflgfpaa

/- TopPages: the law's own walk. -/
namespace Go.Proofs.Ytoplkcegflgfpaa
open Go.RowKit

set_option maxRecDepth 100000 in
theorem putA : putErr [] (0, 0, 0) { data := #[97] } 1 = 0 ∧ putR [] (0, 0, 0) { data := #[97] } 1 = [⟨0, 0, 0, 1, 0, { data := #[97] }⟩] := ⟨by kernel_rfl, by kernel_rfl⟩
set_option maxRecDepth 100000 in
set_option maxHeartbeats 4000000 in
theorem begunTop_any (w : World) : Calls Try.prog 28 #[] w fun e w' => e = .returned (.bool true) ∧ Calm w w' := by
  have cP : ∀ u, Calls Try.prog 50 #[.slice none 0 0, .agg #[.int .i64 0, .int .i64 0, .int .i64 0], .string { data := #[97] }, .int .i64 1] u fun e w' => ∃ v, e = .returned (.tuple #[v, .int .i64 0]) ∧ Sl w' v [⟨0, 0, 0, 1, 0, { data := #[97] }⟩] ∧ Calm u w' := fun u => by
    have h := runPut_any none 0 [] 0 0 0 { data := #[97] } 1 u (by decide) ⟨fun e he => absurd he List.not_mem_nil, fun hp => absurd hp (by simp)⟩
    rw [putA.1, if_pos rfl, putA.2] at h
    exact h
  go_enter Try.func28, Try.ntmps28
  go_wp2_with (go_at_call 50; (with_reducible refine (cP _).mono ?_); rintro e w1 ⟨v, rfl, ⟨A9, c9, rfl, hl9, hL9⟩, hb1⟩; obtain ⟨b, q, p, o, f, m, g, s, hA, hb, HE, hm, c0, c1, c2, c3, c4, c5⟩ := hL9.get (k := 0) (by decide); subst hA; cases HE.out; rw [Nat.zero_mul, Nat.add_zero] at c0 c1 c2 c3 c4 c5; clear hL9 HE)
  go_ret
  exact ⟨rfl, hb1⟩
set_option maxRecDepth 100000 in
set_option maxHeartbeats 8000000 in
theorem topPages_walk (root : Int) (A : Option Addr) (c : Nat) (l : List Nd) (w : World) (h : TrAt w A l) :
    Calls Try.prog 6 #[.agg #[.int .i64 root, .slice A l.length c]] w fun e w' => e = .returned (.bool true) ∧ Calm w w' := by
  have hx := heap_new w (.cells #[.int .i64 root, .slice A l.length c] 24)
  have hu := (Calm.refl w).alloc (.cells #[.int .i64 root, .slice A l.length c] 24)
  have cC := fun u (hu : Calm w u) => treeCheck_any root A c l u (h.calm hu)
  by_cases hz : treeErr l root = 0
  rotate_left
  · have b1 : (treeErr l root != 0) = true := by rw [bne_iff_ne]; exact hz
    generalize treeErr l root = R at cC b1
    clear h hz
    go_enter Try.func6, Try.ntmps6
    go_wp2_with first
      | (go_at_call 28; (with_reducible refine (begunTop_any _).mono ?_); rintro e w1 ⟨rfl, hb1⟩; replace hx := (hb1.block (rowT hx).2.2).trans hx; replace hu := hu.call hb1; clear hb1; obtain ⟨x0, x1, hxs⟩ := rowT hx)
      | (go_at_call 11; (with_reducible refine (cC _ hu).mono ?_); rintro e w1 ⟨rfl, hb1⟩; replace hx := (hb1.block (rowT hx).2.2).trans hx; replace hu := hu.call hb1; clear hb1; obtain ⟨x0, x1, hxs⟩ := rowT hx)
    go_ret
    exact ⟨rfl, hu⟩
  have HO := Lib.hid (deep_ok hz)
  have HW : Hid (∀ e ∈ allOf l root, e.wf) := recs_wf h _ _
  have HZ := Lib.hid hz
  have HT := Lib.hid h
  have HOK : Hid (NdsOk l) := (treeErr_zero.1 hz).2.1
  have hl4 : l.length ≤ 400 := (treeErr_zero.1 hz).1
  have cA := fun u (hu : Calm w u) => treeAll_any root A c l u (h.calm hu)
  simp only [if_pos hz] at cA
  rw [hz] at cA cC
  clear h hz
  go_enter Try.func6, Try.ntmps6
  go_upto_region 3 with first
    | (go_at_call 28; (with_reducible refine (begunTop_any _).mono ?_); rintro e w1 ⟨rfl, hb1⟩; replace hx := (hb1.block (rowT hx).2.2).trans hx; replace hu := hu.call hb1; clear hb1; obtain ⟨x0, x1, hxs⟩ := rowT hx)
    | (go_at_call 11; (with_reducible refine (cC _ hu).mono ?_); rintro e wt ⟨rfl, hb1⟩; replace hx := (hb1.block (rowT hx).2.2).trans hx; replace hu := hu.call hb1; clear hb1; obtain ⟨x0, x1, hxs⟩ := rowT hx)
  have hbox := heap_new wt (.cells #[.int .i64 root, .slice none 0 0] 24)
  have hcb := (Calm.refl wt).alloc (.cells #[.int .i64 root, .slice none 0 0] 24)
  clear cC
  go_wp2_with fail
  go_loopw [28] (fun i wr => ∃ (k : Nat) (us : List Nd) (v : Value), k ≤ l.length ∧ i = .int .i64 k ∧ Hid (wr.heap[wt.heap.size]? = some (.cells #[.int .i64 root, v] 24 (0, 0))) ∧ Hid (OwnN (wt.heap.size + 1) wr v us) ∧ us.length = k ∧
      Hid (∀ (j : Nat) (n : Nd), j < k → l[j]? = some n → ∃ m, us[j]? = some m ∧ m.kd = n.kd ∧ m.E = n.E ∧ m.K = n.K ∧ m.S = n.S ∧ m.T = n.T) ∧ Hid (∀ m ∈ us, NdOut (wt.heap.size + 1) wr v.ownBlock m) ∧ Hid (Calm wt wr)) (fun i _ => l.length - (intOf i).toNat)
  case atStart => exact ⟨0, [], _, Nat.zero_le _, rfl, hbox, OwnN.nil _ _, rfl, (show ∀ _, _ from fun j n hj => absurd hj (Nat.not_lt_zero _)), (show ∀ _, _ from fun m hm => absurd hm List.not_mem_nil), hcb⟩
  case round =>
    obtain ⟨k, us, v, hk, rfl, hB, hO, hlen, hS, hN, hv⟩ := hrel
    have hv0 := hu.call hv.out
    have hx1 := (hv.out.block (rowT hx).2.2).trans hx
    obtain ⟨y0, y1, hys⟩ := rowT hx1
    have hsz := hv.out.size
    obtain ⟨A5, c5, hv5⟩ := hO.out.slice
    subst hv5
    obtain ⟨b0, b1, hbs⟩ := rowT hB.out
    by_cases hlt : k < l.length
    · obtain ⟨b, q, kd, A1, A2, A3, A4, c1, c2, c3, c4, E, K, S, T, hA, hb, HN', HA, n0, n1, n2, n3, n4⟩ := (HT.out.calm hv0).get hlt
      cases hA
      have he := HOK.out _ (List.mem_of_getElem? HN'.out)
      simp only at he
      obtain ⟨Wb, hWb⟩ : ∃ W : ByteArray, pgEnc kd E K S T = W.data.toList := ⟨⟨(pgEnc kd E K S T).toArray⟩, by simp⟩
      have cW := fun u (hu : Calm wr u) => wr_good kd A1 A2 A3 A4 c1 c2 c3 c4 E K S T u (HA.out.calm hu) he Wb hWb
      have cR := fun u => rd_good Wb (kd := kd) (E := E) (K := K) (S := S) (T := T) ⟨he, hWb⟩ u
      clear he hWb
      go_upto_region 11 with first
        | (go_at_call 29; (with_reducible refine (cW _ ((Calm.refl _).alloc _)).mono ?_); rintro e w2 ⟨rfl, hb1⟩; have hv2 := ((Calm.refl wr).alloc _).call hb1; clear hb1)
        | (go_at_call 30; (with_reducible refine (cR _).mono ?_); rintro e w3 ⟨B1, B2, B3, B4, d1, d2, d3, d4, rfl, hO3, hb3⟩)
      have hm8 := heap_new w3 (.cells #[.int .i64 kd, .slice B1 E.length d1, .slice B2 K.length d2, .slice B3 S.length d3, .slice B4 T.length d4] 37)
      have hv5 := ((hv2.call hb3).alloc (.cells #[.int .i64 kd, .slice B1 E.length d1, .slice B2 K.length d2, .slice B3 S.length d3, .slice B4 T.length d4] 37))
      have hs35 : (w3.alloc (.cells #[.int .i64 kd, .slice B1 E.length d1, .slice B2 K.length d2, .slice B3 S.length d3, .slice B4 T.length d4] 37)).heap.size = w3.heap.size + 1 := by simp
      have hc35 := (Calm.refl w3).alloc (.cells #[.int .i64 kd, .slice B1 E.length d1, .slice B2 K.length d2, .slice B3 S.length d3, .slice B4 T.length d4] 37)
      have hs2 := hv2.size
      have hs3 := hb3.size
      have howb : ∀ g, (Value.slice A5 us.length c5).ownBlock = some g → wt.heap.size + 1 ≤ g ∧ g < wr.heap.size := fun g hg => hO.out.lt g hg
      have hnew := Lib.hid (hO3.out kd (g := (Value.slice A5 us.length c5).ownBlock) (B' := wt.heap.size + 1) (by omega) (fun g hg => by have := (howb g hg).2; omega))
      generalize w3.alloc (.cells #[.int .i64 kd, .slice B1 E.length d1, .slice B2 K.length d2, .slice B3 S.length d3, .slice B4 T.length d4] 37) = w5 at hm8 hv5 hs35 hc35 ⊢
      have hB5 := (hv5.block hbs).trans hB.out
      have hO5 : OwnN (wt.heap.size + 1) w5 (.slice A5 us.length c5) us := hO.out.same fun g hg => hv5.block (howb g hg).2
      obtain ⟨e0, e1, hes⟩ := rowT hB5
      obtain ⟨m0, m1, m2, m3, m4, hms⟩ := row5 hm8
      have hnE := heap_new w5 (.cells #[.int .i64 kd, .slice B1 E.length d1, .slice B2 K.length d2, .slice B3 S.length d3, .slice B4 T.length d4] 37)
      have HO6 : Hid (OwnN (wt.heap.size + 1) (w5.alloc (.cells #[.int .i64 kd, .slice B1 E.length d1, .slice B2 K.length d2, .slice B3 S.length d3, .slice B4 T.length d4] 37)) (.slice A5 us.length c5) us) := hO5.same fun g hg => ((Calm.refl w5).alloc _).block (by have := (howb g hg).2; omega)
      have hB6 := Lib.hid ((((Calm.refl w5).alloc (.cells #[.int .i64 kd, .slice B1 E.length d1, .slice B2 K.length d2, .slice B3 S.length d3, .slice B4 T.length d4] 37)).block hes).trans hB5)
      have hlen6 : us.length ≤ 1000000 := by omega
      have HS35 := Lib.hid hs35
      have hb6 : wt.heap.size + 1 ≤ w5.heap.size := by omega
      have hb7 : wt.heap.size < w5.heap.size := by omega
      have HLEN := Lib.hid hlen
      clear hs35 hlen
      clear hO5 hO3 cW cR HA n0 n1 n2 n3 n4 x0 x1 hxs
      go_wp2_with (at_builtin; refine wpList_append_nd rfl _ _ rfl (wt.heap.size + 1) (.slice A5 us.length c5) us rfl HO6.out w5.heap.size _ ⟨kd, B1, B2, B3, B4, d1, d2, d3, d4, E, K, S, T⟩ (0, 0) rfl hnE hlen6 (Nat.le_trans hb6 (by simp)) ?_; intro v' w9 ho9 hg9 hs9; obtain ⟨A8, c8, hv8⟩ := ho9.slice; subst hv8; have hB9 := (hg9.block wt.heap.size (Nat.lt_of_lt_of_le hb7 (by simp)) (fun h => by have := (howb _ h.symm).1; omega)).trans hB6.out; have HO9 := Lib.hid ho9; have HG9 := Lib.hid hg9; have HS9 := Lib.hid hs9; clear ho9 hg9 hs9; obtain ⟨f0, f1, hfs⟩ := rowT hB9; have ff0 := frozen_of_row w9 wt.heap.size 0 _ _ hB9; have ff1 := frozen_of_row w9 wt.heap.size 1 _ _ hB9)
      have hl9 : (us ++ [(⟨kd, B1, B2, B3, B4, d1, d2, d3, d4, E, K, S, T⟩ : Nd)]).length = us.length + 1 := by simp
      rw [hl9] at HO9 HS9
      have hs56 := HG9.out.size
      rw [World.size_alloc] at hs56
      have hset := fun g (hg : g ≠ wt.heap.size) => heap_setCell_other w9 ⟨wt.heap.size, 1, none⟩ g (.slice A8 (us.length + 1) c8) hg
      have hssz : (w9.setCell ⟨wt.heap.size, 1, none⟩ (.slice A8 (us.length + 1) c8)).heap.size = w9.heap.size := by simp [World.setCell]
      have hcB := heap_setCell_same w9 wt.heap.size 1 _ _ (.slice A8 (us.length + 1) c8) hB9
      -- what lay in w5 lies on, but for the row's old block
      have h59 : ∀ g, wt.heap.size + 1 ≤ g → g < w5.heap.size → some g ≠ (Value.slice A5 us.length c5).ownBlock → (w9.setCell ⟨wt.heap.size, 1, none⟩ (.slice A8 (us.length + 1) c8)).heap[g]? = w5.heap[g]? := fun g h1 h2 h3 =>
        (hset g (by omega)).trans ((HG9.out.block g (by rw [World.size_alloc]; omega) h3).trans (((Calm.refl w5).alloc _).block h2))
      have hs9' : ∀ g, (Value.slice A8 (us.length + 1) c8).ownBlock = some g → (Value.slice A5 us.length c5).ownBlock = some g ∨ w5.heap.size ≤ g := fun g hg => (HS9.out g hg).imp id fun h => by rw [World.size_alloc] at h; omega
      have hown9 : OwnN (wt.heap.size + 1) (w9.setCell ⟨wt.heap.size, 1, none⟩ (.slice A8 (us.length + 1) c8)) (.slice A8 (us.length + 1) c8) (us ++ [⟨kd, B1, B2, B3, B4, d1, d2, d3, d4, E, K, S, T⟩]) := HO9.out.same fun g hg => hset g (by have := (HO9.out.lt g hg).1; omega)
      have hcalm : Calm wt (w9.setCell ⟨wt.heap.size, 1, none⟩ (.slice A8 (us.length + 1) c8)) := by
        have hc5 := (hv.out.call hv5).alloc (.cells #[.int .i64 kd, .slice B1 E.length d1, .slice B2 K.length d2, .slice B3 S.length d3, .slice B4 T.length d4] 37)
        exact (Below.grown hc5 HG9.out hc5.size fun g hg => by have := (howb g hg).1; omega).setCell (p := ⟨wt.heap.size, 1, none⟩) (Nat.le_refl _) _
      have hout : ∀ m ∈ us ++ [(⟨kd, B1, B2, B3, B4, d1, d2, d3, d4, E, K, S, T⟩ : Nd)], NdOut (wt.heap.size + 1) (w9.setCell ⟨wt.heap.size, 1, none⟩ (.slice A8 (us.length + 1) c8)) (Value.slice A8 (us.length + 1) c8).ownBlock m := fun m hm => by
        have h35 := HS35.out
        rcases List.mem_append.1 hm with hm | hm
        · exact (hN.out m hm).same (by omega) (fun g h1 h2 h3 => (h59 g h1 (by omega) h3).trans (hv5.block h2)) fun g hg => (hs9' g hg).imp id (by omega)
        · rw [List.mem_singleton.1 hm]
          exact hnew.out.same (by omega) (fun g h1 h2 h3 => (h59 g h1 (by omega) h3).trans (hc35.block h2)) fun g hg => (hs9' g hg).imp id (by omega)
      have hsame : ∀ (j : Nat) (n : Nd), j < k + 1 → l[j]? = some n → ∃ m, (us ++ [(⟨kd, B1, B2, B3, B4, d1, d2, d3, d4, E, K, S, T⟩ : Nd)])[j]? = some m ∧ m.kd = n.kd ∧ m.E = n.E ∧ m.K = n.K ∧ m.S = n.S ∧ m.T = n.T := fun j n hj hn => by
        have hl := HLEN.out
        rcases Nat.lt_or_ge j k with h1 | h1
        · obtain ⟨m, hm, hh⟩ := hS.out j n h1 hn
          exact ⟨m, by rw [List.getElem?_append_left (by omega)]; exact hm, hh⟩
        · have : j = k := by omega
          subst this
          rw [HN'.out] at hn
          injection hn with hn
          subst hn
          exact ⟨⟨kd, B1, B2, B3, B4, d1, d2, d3, d4, E, K, S, T⟩, by rw [List.getElem?_append_right (by omega), hl]; simp, rfl, rfl, rfl, rfl, rfl⟩
      go_roundw
      case rel => exact ⟨k + 1, us ++ [(⟨kd, B1, B2, B3, B4, d1, d2, d3, d4, E, K, S, T⟩ : Nd)], .slice A8 (us.length + 1) c8, by omega, by go_num, (show _ = _ by simpa using hcB), hown9, (by rw [hl9, HLEN.out]), hsame, hout, hcalm⟩
      case measure => simp [intOf]; omega
    have hkl : k = l.length := by omega
    have hsame : SameT l us := ⟨by omega, fun i n hn => hS.out i n (by have := (List.getElem?_eq_some_iff.1 hn).1; omega) hn⟩
    have hU := Lib.hid (OwnN.tree hO.out (fun m hm => (hN.out m hm).1) (by omega))
    have hM := HO.out.most
    have hg := hsame.good HZ.out
    have cB := fun u (hu : Calm wr u) => treeAll_any root A5 c5 us u (hU.out.calm hu)
    simp only [hg.1, if_true, hg.2] at cB
    generalize allOf l root = M at cA cB HW hM
    have hge : (l.length : Int) ≤ (k : Int) := by omega
    have hb0 := hB.out
    have hM64 : M.length ≤ 9223372036854775807 := by omega
    have hvr := Calm.refl wr
    clear hlt hkl hsame hg hlen HO hS hN b0 b1 hbs
    obtain ⟨b0, b1, hbs⟩ := rowT hb0
    go_wp2_with first
      | (go_at_call 7; (with_reducible refine (cA _ hv0).mono ?_); rintro e w3 ⟨v, rfl, ho, hb1⟩; obtain ⟨A9, c9, hv9, _, _, hl9⟩ := ho.lies HW.out; subst hv9; have HL9 := Lib.hid hl9; replace hb0 := (hb1.block (rowT hb0).2.2).trans hb0; replace hvr := hvr.call hb1; replace hv0 := hv0.call hb1; clear ho hl9 hb1; obtain ⟨b0, b1, hbs⟩ := rowT hb0)
      | (go_at_call 7; (with_reducible refine (cB _ hvr).mono ?_); rintro e w4 ⟨v, rfl, ho, hb1⟩; obtain ⟨A7, c7, hv7, _, _, hl7⟩ := ho.lies HW.out; subst hv7; have HL7 := Lib.hid hl7; have HL9' := Lib.hid (HL9.out.calm hb1); replace hv0 := hv0.call hb1; clear ho hl7 hb1)
      | (go_at_call 12; (with_reducible refine (equal_self A9 A7 c9 c7 M _ hM64 HL9'.out HL7.out).mono ?_); rintro e w5 ⟨rfl, hb1⟩; replace hv0 := hv0.call hb1; clear hb1)
    go_ret
    exact ⟨rfl, hv0⟩
end Go.Proofs.Ytoplkcegflgfpaa

