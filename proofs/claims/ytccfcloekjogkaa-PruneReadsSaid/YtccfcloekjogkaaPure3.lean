/- Plain mathematics: writing and deleting in a run. -/
import Derived.Test.YtccfcloekjogkaaPure2
namespace Go.Proofs.Ytccfcloekjogkaa

def upd (k : Int × Int × Int) (s : ByteArray) (t : Int) (e : El) : El := if e.key = k ∧ e.g = 0 then (if e.m = t then { e with s := s } else { e with g := t }) else e
def isSame (k : Int × Int × Int) (t : Int) (e : El) : Bool := decide (e.key = k ∧ e.g = 0 ∧ e.m = t)
def isOpen (k : Int × Int × Int) (e : El) : Bool := decide (e.key = k ∧ e.g = 0)
def fresh (k : Int × Int × Int) (s : ByteArray) (t : Int) : El := ⟨k.1, k.2.1, k.2.2, t, 0, s⟩
def ins (x : El) : List El → List El
  | [] => [x]
  | y :: l => if sLt x.key x.m y.key y.m then x :: y :: l else y :: ins x l
def putR (l : List El) (k : Int × Int × Int) (s : ByteArray) (t : Int) : List El := if l.any (isSame k t) then l.map (upd k s t) else ins (fresh k s t) (l.map (upd k s t))
def wrErr (l : List El) (x : El) : Int := if runErr l = 0 then (if x.err = 0 then (if x.m < latest l then 9 else 0) else x.err) else runErr l
def putErr (l : List El) (k : Int × Int × Int) (s : ByteArray) (t : Int) : Int := if wrErr l (fresh k s t) = 0 then (if l.any (isSame k t) then 0 else if 400 ≤ l.length then 8 else 0) else wrErr l (fresh k s t)
def cutStep (k : Int × Int × Int) (t : Int) (e : El) : Option El := if e.key = k ∧ e.g = 0 then (if e.m = t then none else some { e with g := t }) else some e
def cutR (l : List El) (k : Int × Int × Int) (t : Int) : List El := l.filterMap (cutStep k t)
def cutErr (l : List El) (k : Int × Int × Int) (t : Int) : Int := if wrErr l (fresh k { data := #[] } t) = 0 then (if l.any (isOpen k) then 0 else 4) else wrErr l (fresh k { data := #[] } t)
def insAt (l : List El) (i : Nat) (e : El) : List El := l.take i ++ e :: l.drop i
def delAt (l : List El) (i : Nat) : List El := l.take i ++ l.drop (i + 1)

set_option maxRecDepth 100000 in
theorem fresh_key (k : Int × Int × Int) (s : ByteArray) (t : Int) : (fresh k s t).key = k := rfl
set_option maxRecDepth 100000 in
theorem wrErr_zero {l : List El} {x : El} : wrErr l x = 0 ↔ Good l ∧ x.err = 0 ∧ latest l ≤ x.m := by
  unfold wrErr
  by_cases h1 : runErr l = 0
  · rw [if_pos h1]
    have hG := runErr_zero.1 h1
    by_cases h2 : x.err = 0
    · rw [if_pos h2]
      by_cases h3 : x.m < latest l
      · rw [if_pos h3]; constructor
        · intro h; omega
        · intro h; omega
      · rw [if_neg h3]; constructor
        · intro _; exact ⟨hG, h2, by omega⟩
        · intro _; rfl
    · rw [if_neg h2]; constructor
      · intro h; exact absurd h h2
      · intro h; exact h.2.1
  · rw [if_neg h1]; constructor
    · intro h; exact absurd h h1
    · intro h; exact absurd (runErr_zero.2 h.1) h1

set_option maxRecDepth 100000 in
theorem mem_bounds {l : List El} (h : Good l) {e : El} (he : e ∈ l) : 1 ≤ e.m ∧ e.m ≤ latest l ∧ e.g ≤ latest l ∧ (e.g = 0 ∨ e.m < e.g) := by
  have ht := err_time (h.2.1 e he)
  unfold timeOk at ht
  have h1 := latest_ge he
  have h2 := last_ge e
  omega
set_option maxRecDepth 100000 in
theorem open_at {l : List El} (h : Good l) {t : Int} (hl : latest l ≤ t) {k : Int × Int × Int} {e : El} (he : e ∈ l) : isAt k t e = isOpen k e := by
  have hb := mem_bounds h he
  unfold isAt isOpen El.live liveP
  rw [Bool.eq_iff_iff, decide_eq_true_eq, decide_eq_true_eq]
  constructor
  · rintro ⟨h1, h2⟩; exact ⟨h1, by omega⟩
  · rintro ⟨h1, h2⟩; exact ⟨h1, by omega⟩
set_option maxRecDepth 100000 in
theorem upd_not {k : Int × Int × Int} {s : ByteArray} {t : Int} {e : El} (h : isOpen k e = false) : upd k s t e = e := by
  unfold isOpen at h; rw [decide_eq_false_iff_not] at h
  unfold upd; rw [if_neg h]
set_option maxRecDepth 100000 in
theorem upd_open {k : Int × Int × Int} {s : ByteArray} {t : Int} {e : El} (h : isOpen k e = true) : upd k s t e = if e.m = t then { e with s := s } else { e with g := t } := by
  unfold isOpen at h; rw [decide_eq_true_eq] at h
  unfold upd; rw [if_pos h]
set_option maxRecDepth 100000 in
theorem upd_key (k : Int × Int × Int) (s : ByteArray) (t : Int) (e : El) : (upd k s t e).key = e.key := by
  unfold upd El.key; split <;> (try split) <;> rfl
set_option maxRecDepth 100000 in
theorem upd_m (k : Int × Int × Int) (s : ByteArray) (t : Int) (e : El) : (upd k s t e).m = e.m := by
  unfold upd; split <;> (try split) <;> rfl
set_option maxRecDepth 100000 in
/-- At most one record of a key is open. -/
theorem open_uniq {l : List El} (h : Good l) {k : Int × Int × Int} {i j : Nat} (hi : i < l.length) (hj : j < l.length) (h1 : isOpen k l[i] = true) (h2 : isOpen k l[j] = true) : i = j := by
  refine uniqAt h.2.2 (k := k) (t := latest l) hi hj ?_ ?_
  · rw [open_at h (Int.le_refl _) (List.getElem_mem hi)]; exact h1
  · rw [open_at h (Int.le_refl _) (List.getElem_mem hj)]; exact h2
set_option maxRecDepth 100000 in
/-- The open record of k, if there is one. -/
theorem hit_open {l : List El} (h : Good l) (k : Int × Int × Int) {t : Int} (hl : latest l ≤ t) :
    (hitB l (pos l k t) k t = true ∧ 0 < pos l k t ∧ ∃ (hi : pos l k t - 1 < l.length), isOpen k l[pos l k t - 1] = true ∧ (∀ j (hj : j < l.length), j ≠ pos l k t - 1 → isOpen k l[j] = false)) ∨
    (hitB l (pos l k t) k t = false ∧ ∀ e ∈ l, isOpen k e = false) := by
  rcases hitB_pos h.2.2 k t with ⟨h1, hi, h2, h3, _⟩ | ⟨h1, _, h3⟩
  · left
    rw [open_at h hl (List.getElem_mem hi)] at h2
    refine ⟨h1, h3, hi, h2, fun j hj hne => ?_⟩
    cases hp : isOpen k l[j]
    · rfl
    · exact absurd (open_uniq h hj hi hp h2) hne
  · right
    exact ⟨h1, fun e he => by rw [← open_at h hl he]; exact h3 e he⟩
set_option maxRecDepth 100000 in
theorem map_none {l : List El} {k : Int × Int × Int} {s : ByteArray} {t : Int} (h : ∀ e ∈ l, isOpen k e = false) : l.map (upd k s t) = l := by
  conv => rhs; rw [← List.map_id l]
  exact List.map_congr_left fun e he => upd_not (h e he)
set_option maxRecDepth 100000 in
theorem map_set {l : List El} {k : Int × Int × Int} {s : ByteArray} {t : Int} {i : Nat} (hi : i < l.length) (h : ∀ j (hj : j < l.length), j ≠ i → isOpen k l[j] = false) : l.map (upd k s t) = l.set i (upd k s t l[i]) := by
  refine List.ext_getElem (by simp) fun j h1 h2 => ?_
  rw [List.getElem_map, List.getElem_set]
  split
  · subst_vars; rfl
  · exact upd_not (h j (by simpa using h1) (by omega))
set_option maxRecDepth 100000 in
theorem same_none {l : List El} {k : Int × Int × Int} {t : Int} (h : ∀ e ∈ l, isOpen k e = false) : l.any (isSame k t) = false := by
  rw [List.any_eq_false]
  intro e he h2
  have := h e he
  unfold isOpen at this; unfold isSame at h2
  rw [decide_eq_false_iff_not] at this; rw [decide_eq_true_eq] at h2
  exact this ⟨h2.1, h2.2.1⟩
set_option maxRecDepth 100000 in
theorem same_at {l : List El} {k : Int × Int × Int} {t : Int} {i : Nat} (hi : i < l.length) (ho : isOpen k l[i] = true) (h : ∀ j (hj : j < l.length), j ≠ i → isOpen k l[j] = false) : l.any (isSame k t) = decide (l[i].m = t) := by
  unfold isOpen at ho; rw [decide_eq_true_eq] at ho
  rw [Bool.eq_iff_iff, List.any_eq_true, decide_eq_true_eq]
  constructor
  · rintro ⟨e, he, h2⟩
    obtain ⟨j, hj, rfl⟩ := List.getElem_of_mem he
    unfold isSame at h2; rw [decide_eq_true_eq] at h2
    by_cases hji : j = i
    · subst hji; exact h2.2.2
    · have := h j hj hji
      unfold isOpen at this; rw [decide_eq_false_iff_not] at this
      exact absurd ⟨h2.1, h2.2.1⟩ this
  · intro h2
    exact ⟨_, List.getElem_mem hi, by unfold isSame; rw [decide_eq_true_eq]; exact ⟨ho.1, ho.2, h2⟩⟩

set_option maxRecDepth 100000 in
/-- The place of x in rising records. -/
theorem ins_at {x : El} : ∀ {l : List El}, l.Pairwise (fun a b => sLt a.key a.m b.key b.m) → ins x l = insAt l (pos l x.key x.m) x
  | [], _ => rfl
  | y :: l, h => by
    rw [List.pairwise_cons] at h
    unfold ins
    by_cases hx : sLt x.key x.m y.key y.m
    · rw [if_pos hx]
      have h0 : pos (y :: l) x.key x.m = 0 := by
        unfold pos
        rw [List.countP_eq_zero]
        intro e he
        simp only [Bool.not_eq_true', decide_eq_false_iff_not, Classical.not_not]
        rcases List.mem_cons.1 he with rfl | he
        · exact hx
        · exact sLt_trans hx (h.1 e he)
      rw [h0]; rfl
    · rw [if_neg hx]
      have h1 : pos (y :: l) x.key x.m = pos l x.key x.m + 1 := by
        unfold pos
        rw [List.countP_cons_of_pos (by simp [hx])]
      rw [h1, ins_at h.2]
      rfl
set_option maxRecDepth 100000 in
theorem pos_map (l : List El) (k' : Int × Int × Int) (s : ByteArray) (t : Int) (k : Int × Int × Int) (u : Int) : pos (l.map (upd k' s t)) k u = pos l k u := by
  unfold pos
  rw [List.countP_map]
  congr 1
  funext e
  simp only [Function.comp, upd_key, upd_m]
set_option maxRecDepth 100000 in
theorem Fol.rise {l : List El} (h : l.Pairwise Fol) : l.Pairwise (fun a b => sLt a.key a.m b.key b.m) := h.imp fun h => h.1

set_option maxRecDepth 100000 in
/-- What a write makes of the records that were there is a run again. -/
theorem good_map {l : List El} (h : Good l) {k : Int × Int × Int} {s : ByteArray} {t : Int} (hl : latest l ≤ t) (ht : t ≤ 2147483647) (hs : (s.size : Int) ≤ 40) : Good (l.map (upd k s t)) := by
  refine ⟨by rw [List.length_map]; exact h.1, fun e he => ?_, ?_⟩
  · obtain ⟨x, hx, rfl⟩ := List.mem_map.1 he
    have hb := mem_bounds h hx
    have hx0 := h.2.1 x hx
    cases ho : isOpen k x
    · rw [upd_not ho]; exact hx0
    · rw [upd_open ho]
      unfold isOpen at ho; rw [decide_eq_true_eq] at ho
      unfold El.err at hx0 ⊢
      rw [elemErr_zero] at hx0
      split
      · exact elemErr_zero.2 ⟨hx0.1, hx0.2.1, hs⟩
      · refine elemErr_zero.2 ⟨hx0.1, ?_, hx0.2.2⟩
        unfold timeOk; simp only; omega
  · rw [List.pairwise_map, List.pairwise_iff_getElem]
    intro i j hi hj hij
    have hF := List.pairwise_iff_getElem.1 h.2.2 i j hi hj hij
    refine ⟨by rw [upd_key, upd_key, upd_m, upd_m]; exact hF.1, fun hk => ?_⟩
    rw [upd_key, upd_key] at hk
    have h2 := hF.2 hk
    have ho : isOpen k l[i] = false := by
      unfold isOpen; rw [decide_eq_false_iff_not]; exact fun h3 => h2.1 h3.2
    rw [upd_not ho, upd_m]
    exact h2
set_option maxRecDepth 100000 in
theorem pairwise_ins {l : List El} {i : Nat} {x : El} (h : l.Pairwise Fol) (h1 : ∀ e ∈ l.take i, Fol e x) (h2 : ∀ e ∈ l.drop i, Fol x e) : (insAt l i x).Pairwise Fol := by
  unfold insAt
  rw [List.pairwise_append, List.pairwise_cons]
  refine ⟨h.sublist (List.take_sublist _ _), ⟨h2, h.sublist (List.drop_sublist _ _)⟩, fun a ha b hb => ?_⟩
  rcases List.mem_cons.1 hb with rfl | hb
  · exact h1 a ha
  · have := List.take_append_drop i l
    rw [← this, List.pairwise_append] at h
    exact h.2.2 a ha b hb
set_option maxRecDepth 100000 in
/-- A new record among records of which none of its key is open. -/
theorem good_ins {l : List El} (h : Good l) {x : El} (hx : x.err = 0) (hl : latest l ≤ x.m) (hn : ∀ e ∈ l, e.key = x.key → e.g ≠ 0) (h4 : l.length < 400) : Good (insAt l (pos l x.key x.m) x) := by
  have hp := pos_spec h.2.2 x.key x.m
  refine ⟨?_, fun e he => ?_, pairwise_ins h.2.2 (fun e he => ?_) (fun e he => ?_)⟩
  · unfold insAt; rw [List.length_append, List.length_cons, List.length_take, List.length_drop]; omega
  · unfold insAt at he
    rcases List.mem_append.1 he with h1 | h1
    · exact h.2.1 e (List.mem_of_mem_take h1)
    · rcases List.mem_cons.1 h1 with rfl | h1
      · exact hx
      · exact h.2.1 e (List.mem_of_mem_drop h1)
  · have he2 := List.mem_of_mem_take he
    obtain ⟨i, hi, rfl⟩ := List.getElem_of_mem he
    rw [List.length_take] at hi
    have h1 := hp.1 i (by omega) (by omega)
    rw [List.getElem_take] at he2 ⊢
    have hb := mem_bounds h he2
    rcases sLt_tri l[i].key l[i].m x.key x.m with h3 | ⟨h3, h5⟩ | h3
    · exact ⟨h3, fun hk => ⟨hn _ he2 hk, by omega⟩⟩
    · have := hn _ he2 h3
      omega
    · exact absurd h3 h1
  · have he2 := List.mem_of_mem_drop he
    obtain ⟨i, hi, rfl⟩ := List.getElem_of_mem he
    rw [List.length_drop] at hi
    have h1 := hp.2 (pos l x.key x.m + i) (by omega) (by omega)
    rw [List.getElem_drop] at he2 ⊢
    have hb := mem_bounds h he2
    refine ⟨h1, fun hk => ?_⟩
    rw [← hk, sLt_same] at h1
    omega

/-! ### the three ways of a write -/
set_option maxRecDepth 100000 in
theorem sizes {l : List El} {x : El} (h : wrErr l x = 0) : (x.s.size : Int) ≤ 40 ∧ x.m ≤ 2147483647 ∧ 1 ≤ x.m := by
  have h2 := (wrErr_zero.1 h).2.1
  have ht := err_time h2
  unfold El.err at h2
  rw [elemErr_zero] at h2
  unfold timeOk at ht
  exact ⟨h2.2.2, by omega, by omega⟩
set_option maxRecDepth 100000 in
theorem put_same {l : List El} {k : Int × Int × Int} {s : ByteArray} {t : Int} {i : Nat} (hi : i < l.length) (ho : isOpen k l[i] = true) (h : ∀ j (hj : j < l.length), j ≠ i → isOpen k l[j] = false) (hm : l[i].m = t) :
    l.any (isSame k t) = true ∧ putR l k s t = l.set i { l[i] with s := s } := by
  have h1 : l.any (isSame k t) = true := by rw [same_at hi ho h]; exact decide_eq_true hm
  refine ⟨h1, ?_⟩
  unfold putR
  rw [if_pos h1, map_set hi h, upd_open ho, if_pos hm]
set_option maxRecDepth 100000 in
theorem put_new {l : List El} {k : Int × Int × Int} {s : ByteArray} {t : Int} (hG : Good l) {i : Nat} (hi : i < l.length) (ho : isOpen k l[i] = true) (h : ∀ j (hj : j < l.length), j ≠ i → isOpen k l[j] = false) (hm : l[i].m ≠ t) (hl : latest l ≤ t) (ht : t ≤ 2147483647) (hs : (s.size : Int) ≤ 40) :
    l.any (isSame k t) = false ∧ Good (l.set i { l[i] with g := t }) ∧ pos (l.set i { l[i] with g := t }) k t = pos l k t ∧ putR l k s t = insAt (l.set i { l[i] with g := t }) (pos l k t) (fresh k s t) := by
  have h1 : l.any (isSame k t) = false := by rw [same_at hi ho h]; exact decide_eq_false hm
  have h2 : l.map (upd k s t) = l.set i { l[i] with g := t } := by rw [map_set hi h, upd_open ho, if_neg hm]
  have h3 := good_map hG (k := k) (s := s) hl ht hs
  have h4 := pos_map l k s t k t
  refine ⟨h1, by rw [← h2]; exact h3, by rw [← h2]; exact h4, ?_⟩
  unfold putR
  rw [h1]
  show ins _ _ = _
  rw [ins_at (Fol.rise h3.2.2)]
  show insAt _ (pos _ k t) _ = _
  rw [h4, h2]
set_option maxRecDepth 100000 in
theorem put_none {l : List El} {k : Int × Int × Int} {s : ByteArray} {t : Int} (hG : Good l) (h : ∀ e ∈ l, isOpen k e = false) : l.any (isSame k t) = false ∧ putR l k s t = insAt l (pos l k t) (fresh k s t) := by
  refine ⟨same_none h, ?_⟩
  unfold putR
  rw [same_none h]
  show ins _ _ = _
  rw [map_none h, ins_at (Fol.rise hG.2.2)]
  rfl
set_option maxRecDepth 100000 in
theorem cut_filter {l : List El} {k : Int × Int × Int} {t : Int} (h : ∀ e ∈ l, isOpen k e = false) : cutR l k t = l := by
  unfold cutR
  induction l with
  | nil => rfl
  | cons x l ih =>
    have h1 := h x (by simp)
    unfold isOpen at h1; rw [decide_eq_false_iff_not] at h1
    rw [List.filterMap_cons]
    simp only [cutStep, if_neg h1]
    rw [ih fun e he => h e (by simp [he])]
set_option maxRecDepth 100000 in
theorem cut_at {l : List El} {k : Int × Int × Int} {t : Int} {i : Nat} (hi : i < l.length) (ho : isOpen k l[i] = true) (h : ∀ j (hj : j < l.length), j ≠ i → isOpen k l[j] = false) :
    cutR l k t = if l[i].m = t then delAt l i else l.set i { l[i] with g := t } := by
  have e : l = l.take i ++ l[i] :: l.drop (i + 1) := by rw [← List.drop_eq_getElem_cons hi, List.take_append_drop]
  have h1 : cutR (l.take i) k t = l.take i := cut_filter fun x hx => by
    obtain ⟨j, hj, rfl⟩ := List.getElem_of_mem hx
    rw [List.length_take] at hj
    rw [List.getElem_take]; exact h j (by omega) (by omega)
  have h2 : cutR (l.drop (i + 1)) k t = l.drop (i + 1) := cut_filter fun x hx => by
    obtain ⟨j, hj, rfl⟩ := List.getElem_of_mem hx
    rw [List.length_drop] at hj
    rw [List.getElem_drop]; exact h _ (by omega) (by omega)
  have h3 : cutR l k t = cutR (l.take i) k t ++ (cutR [l[i]] k t ++ cutR (l.drop (i + 1)) k t) := by
    unfold cutR
    conv => lhs; rw [e]
    rw [List.filterMap_append, ← List.singleton_append, List.filterMap_append]
  unfold isOpen at ho; rw [decide_eq_true_eq] at ho
  rw [h3, h1, h2]
  by_cases hm : l[i].m = t
  · rw [if_pos hm]
    simp [cutR, cutStep, ho, hm, delAt]
  · rw [if_neg hm, List.set_eq_take_append_cons_drop, if_pos hi]
    simp [cutR, cutStep, ho, hm]
set_option maxRecDepth 100000 in
theorem open_any {l : List El} {k : Int × Int × Int} {i : Nat} (hi : i < l.length) (ho : isOpen k l[i] = true) : l.any (isOpen k) = true := List.any_eq_true.2 ⟨_, List.getElem_mem hi, ho⟩
set_option maxRecDepth 100000 in
theorem open_no {l : List El} {k : Int × Int × Int} (h : ∀ e ∈ l, isOpen k e = false) : l.any (isOpen k) = false := by
  rw [List.any_eq_false]; intro e he; rw [h e he]; simp
set_option maxRecDepth 100000 in
theorem good_del {l : List El} (h : Good l) (i : Nat) : Good (delAt l i) := by
  have hs : (delAt l i).Sublist l := by
    unfold delAt
    conv => rhs; rw [← List.take_append_drop i l]
    refine List.Sublist.append (List.Sublist.refl _) ?_
    rw [← List.drop_drop]
    exact List.drop_sublist _ _
  exact ⟨Nat.le_trans hs.length_le h.1, fun e he => h.2.1 e (hs.mem he), h.2.2.sublist hs⟩

set_option maxRecDepth 100000 in
theorem set_key {l : List El} {i : Nat} (hi : i < l.length) {x : El} (hk : x.key = l[i].key) : ∀ e ∈ l.set i x, ∃ d ∈ l, d.key = e.key := fun e he => by
  rcases List.mem_or_eq_of_mem_set he with h | h
  · exact ⟨e, h, rfl⟩
  · exact ⟨l[i], List.getElem_mem hi, by rw [h, hk]⟩
set_option maxRecDepth 100000 in
theorem latest_set {l : List El} {i : Nat} {t : Int} (h : Good l) (hl : latest l ≤ t) (hi : i < l.length) : latest (l.set i { l[i] with g := t }) ≤ t := by
  have h0 := latest_nonneg l
  refine latest_le (by omega) fun e he => ?_
  rcases List.mem_or_eq_of_mem_set he with h1 | h1
  · exact Int.le_trans (latest_ge h1) hl
  · subst h1
    have hb := mem_bounds h (List.getElem_mem hi)
    exact last_le (by simp only; omega) (by simp only; omega)
set_option maxRecDepth 100000 in
/-- What Put makes of a run is a run. -/
theorem put_good {l : List El} {k : Int × Int × Int} {s : ByteArray} {t : Int} (hw : wrErr l (fresh k s t) = 0) (hp : putErr l k s t = 0) : Good (putR l k s t) := by
  obtain ⟨hG, hx, hl⟩ := wrErr_zero.1 hw
  obtain ⟨z1, z2, z3⟩ := sizes hw
  unfold putErr at hp
  rw [if_pos hw] at hp
  have hlt : latest l ≤ t := hl
  have z4 : 1 ≤ t := z3
  rcases hit_open hG k hlt with ⟨h1, h2, hi, h3, h4⟩ | ⟨h1, h2⟩
  · by_cases hm : l[pos l k t - 1].m = t
    · obtain ⟨e1, e2⟩ := put_same (s := s) hi h3 h4 hm
      rw [e2]
      have h5 := good_map hG (k := k) (s := s) hlt z2 z1
      rw [map_set hi h4, upd_open h3, if_pos hm] at h5
      exact h5
    · obtain ⟨e1, e2, e3, e4⟩ := put_new (s := s) hG hi h3 h4 hm hlt z2 z1
      rw [e1] at hp
      have h4' : l.length < 400 := by
        rcases Nat.lt_or_ge l.length 400 with h | h
        · exact h
        · rw [if_neg (by simp), if_pos h] at hp; omega
      have hno : ∀ e ∈ l.set (pos l k t - 1) { l[pos l k t - 1] with g := t }, e.key = (fresh k s t).key → e.g ≠ 0 := fun e he hk hg => by
        rw [fresh_key] at hk
        obtain ⟨j, hj, rfl⟩ := List.getElem_of_mem he
        rw [List.length_set] at hj
        rw [List.getElem_set] at hk hg
        split at hg
        · simp only at hg; omega
        · rename_i hne
          rw [if_neg hne] at hk
          have := h4 j hj (by omega)
          unfold isOpen at this; rw [decide_eq_false_iff_not] at this
          exact this ⟨hk, hg⟩
      have h9 : Good (insAt (l.set (pos l k t - 1) { l[pos l k t - 1] with g := t }) (pos (l.set (pos l k t - 1) { l[pos l k t - 1] with g := t }) k t) (fresh k s t)) := good_ins (x := fresh k s t) e2 hx (latest_set hG hlt hi) hno (by rw [List.length_set]; exact h4')
      rw [e3] at h9
      rw [e4]
      exact h9
  · obtain ⟨e1, e2⟩ := put_none (s := s) (t := t) hG h2
    rw [e1] at hp
    have h4' : l.length < 400 := by
      rcases Nat.lt_or_ge l.length 400 with h | h
      · exact h
      · rw [if_neg (by simp), if_pos h] at hp; omega
    rw [e2]
    exact good_ins (x := fresh k s t) hG hx hl (fun e he hk hg => by
      have := h2 e he
      unfold isOpen at this; rw [decide_eq_false_iff_not] at this
      exact this ⟨hk, hg⟩) h4'
set_option maxRecDepth 100000 in
theorem cut_good {l : List El} {k : Int × Int × Int} {t : Int} (hw : wrErr l (fresh k { data := #[] } t) = 0) : Good (cutR l k t) := by
  obtain ⟨hG, hx, hl⟩ := wrErr_zero.1 hw
  obtain ⟨z1, z2, z3⟩ := sizes hw
  have hlt : latest l ≤ t := hl
  rcases hit_open hG k hlt with ⟨h1, h2, hi, h3, h4⟩ | ⟨h1, h2⟩
  · rw [cut_at hi h3 h4]
    by_cases hm : l[pos l k t - 1].m = t
    · rw [if_pos hm]; exact good_del hG _
    · rw [if_neg hm]
      exact (put_new (s := { data := #[] }) hG hi h3 h4 hm hlt z2 z1).2.1
  · rw [cut_filter h2]; exact hG

/-! ### what the document's loops collect -/
def beyond (x : El) (y : El) : Bool := decide (sLt x.key x.m y.key y.m)
set_option maxRecDepth 100000 in
theorem ins_none {x : El} : ∀ {l : List El}, (∀ y ∈ l, beyond x y = false) → ins x l = l ++ [x]
  | [], _ => rfl
  | y :: l, h => by
    have h1 := h y (by simp)
    unfold beyond at h1; rw [decide_eq_false_iff_not] at h1
    unfold ins
    rw [if_neg h1, ins_none fun z hz => h z (by simp [hz])]
    rfl
set_option maxRecDepth 100000 in
theorem ins_some {x : El} : ∀ {a : List El} (b : List El), a.any (beyond x) = true → ins x (a ++ b) = ins x a ++ b
  | [], _, h => by simp at h
  | y :: a, b, h => by
    show ins x (y :: (a ++ b)) = _
    unfold ins
    by_cases h1 : sLt x.key x.m y.key y.m
    · rw [if_pos h1, if_pos h1]; rfl
    · rw [if_neg h1, if_neg h1]
      rw [List.any_cons] at h
      have h2 : beyond x y = false := by unfold beyond; rw [decide_eq_false_iff_not]; exact h1
      rw [h2, Bool.false_or] at h
      rw [ins_some b h]; rfl
set_option maxRecDepth 100000 in
theorem ins_first {x e : El} : ∀ {a : List El}, (∀ y ∈ a, beyond x y = false) → beyond x e = true → ins x (a ++ [e]) = a ++ [x] ++ [e]
  | [], _, h => by
    unfold beyond at h; rw [decide_eq_true_eq] at h
    show ins x [e] = _
    unfold ins
    rw [if_pos h]; rfl
  | y :: a, h0, h => by
    have h1 := h0 y (by simp)
    unfold beyond at h1; rw [decide_eq_false_iff_not] at h1
    show ins x (y :: (a ++ [e])) = _
    unfold ins
    rw [if_neg h1, ins_first (fun z hz => h0 z (by simp [hz])) h]
    rfl
set_option maxRecDepth 100000 in
theorem ins_mem {x e : El} : ∀ {l : List El}, e ∈ ins x l → e = x ∨ e ∈ l
  | [], h => by simp [ins] at h; exact .inl h
  | y :: l, h => by
    unfold ins at h
    split at h
    · rcases List.mem_cons.1 h with h | h
      · exact .inl h
      · exact .inr h
    · rcases List.mem_cons.1 h with h | h
      · exact .inr (by simp [h])
      · rcases ins_mem h with h | h
        · exact .inl h
        · exact .inr (by simp [h])
set_option maxRecDepth 100000 in
theorem any_not {x : El} {l : List El} (h : l.any (beyond x) = false) : ∀ y ∈ l, beyond x y = false := fun y hy => by
  rw [List.any_eq_false] at h
  have := h y hy
  simpa using this
set_option maxRecDepth 100000 in
theorem take_snoc3 {l : List El} {k : Nat} {e : El} (h : l[k]? = some e) : l.take (k + 1) = l.take k ++ [e] := by
  obtain ⟨hk, he⟩ := List.getElem?_eq_some_iff.1 h
  rw [List.take_succ_eq_append_getElem hk, he]

end Go.Proofs.Ytccfcloekjogkaa
