/- Plain mathematics: what a write leaves of the past and of other keys. -/
import Derived.Test.YtmianlnpaiebhaaPure3
namespace Go.Proofs.Ytmianlnpaiebhaa

theorem atR_iff {l : List El} (h : l.Pairwise Fol) {k : Int × Int × Int} {t : Int} {e : El} : atR l k t = some e ↔ e ∈ l ∧ isAt k t e = true := by
  constructor
  · intro h1
    exact ⟨List.mem_of_find?_eq_some h1, List.find?_some h1⟩
  · rintro ⟨h1, h2⟩
    obtain ⟨i, hi, rfl⟩ := List.getElem_of_mem h1
    exact find_of h hi h2
theorem atR_none {l : List El} {k : Int × Int × Int} {t : Int} : atR l k t = none ↔ ∀ e ∈ l, isAt k t e = false := by
  unfold atR
  rw [List.find?_eq_none]
  constructor
  · intro h e he; have := h e he; simpa using this
  · intro h e he; rw [h e he]; simp
theorem insAt_mem {l : List El} {i : Nat} {x e : El} : e ∈ insAt l i x ↔ e = x ∨ e ∈ l := by
  unfold insAt
  rw [List.mem_append, List.mem_cons]
  constructor
  · rintro (h | h | h)
    · exact .inr (List.mem_of_mem_take h)
    · exact .inl h
    · exact .inr (List.mem_of_mem_drop h)
  · rintro (h | h)
    · exact .inr (.inl h)
    · rw [← List.take_append_drop i l, List.mem_append] at h
      rcases h with h | h
      · exact .inl h
      · exact .inr (.inr h)
theorem put_mem {l : List El} {k : Int × Int × Int} {s : ByteArray} {t : Int} (hw : wrErr l (fresh k s t) = 0) {e : El} :
    e ∈ putR l k s t ↔ (∃ x ∈ l, e = upd k s t x) ∨ (l.any (isSame k t) = false ∧ e = fresh k s t) := by
  obtain ⟨hG, hx, hl⟩ := wrErr_zero.1 hw
  obtain ⟨z1, z2, z3⟩ := sizes hw
  have hM := good_map hG (k := k) (s := s) (t := t) hl z2 z1
  unfold putR
  by_cases h : l.any (isSame k t) = true
  · rw [if_pos h, List.mem_map]
    constructor
    · rintro ⟨x, hx, rfl⟩; exact .inl ⟨x, hx, rfl⟩
    · rintro (⟨x, hx, rfl⟩ | ⟨h1, _⟩)
      · exact ⟨x, hx, rfl⟩
      · rw [h] at h1; cases h1
  · rw [if_neg h, ins_at (Fol.rise hM.2.2), insAt_mem, List.mem_map]
    have h' : l.any (isSame k t) = false := by simpa using h
    constructor
    · rintro (h1 | ⟨x, hx, rfl⟩)
      · exact .inr ⟨h', h1⟩
      · exact .inl ⟨x, hx, rfl⟩
    · rintro (⟨x, hx, rfl⟩ | ⟨_, h1⟩)
      · exact .inr ⟨x, hx, rfl⟩
      · exact .inl h1

/-- Ahead of t the write is not seen. -/
theorem upd_past {k : Int × Int × Int} {s : ByteArray} {t u : Int} (hu : u < t) (ht : 1 ≤ t) (x : El) : isAt k u (upd k s t x) = isAt k u x ∧ (isAt k u x = true → (upd k s t x).m = x.m ∧ (upd k s t x).s = x.s) := by
  cases ho : isOpen k x
  · rw [upd_not ho]; exact ⟨rfl, fun _ => ⟨rfl, rfl⟩⟩
  · rw [upd_open ho]
    unfold isOpen at ho; rw [decide_eq_true_eq] at ho
    unfold isAt El.live liveP
    by_cases hm : x.m = t
    · rw [if_pos hm]
      constructor
      · rw [Bool.eq_iff_iff, decide_eq_true_eq, decide_eq_true_eq]
        constructor
        · rintro ⟨_, h, _⟩; simp only at h; omega
        · rintro ⟨_, h, _⟩; omega
      · intro h; rw [decide_eq_true_eq] at h; omega
    · rw [if_neg hm]
      constructor
      · rw [Bool.eq_iff_iff, decide_eq_true_eq, decide_eq_true_eq]
        have hk : ({ x with g := t } : El).key = x.key := rfl
        rw [hk]
        constructor
        · rintro ⟨h1, h2, h3⟩; exact ⟨h1, h2, .inl ho.2⟩
        · rintro ⟨h1, h2, h3⟩; exact ⟨h1, h2, .inr hu⟩
      · intro _; exact ⟨rfl, rfl⟩
theorem past_at {l : List El} {k : Int × Int × Int} {s : ByteArray} {t u : Int} (hw : wrErr l (fresh k s t) = 0) (hM : Good (putR l k s t)) (hu : u < t) :
    (atR (putR l k s t) k u).isSome = (atR l k u).isSome ∧ ((atR (putR l k s t) k u).getD zeroEl).m = ((atR l k u).getD zeroEl).m ∧ ((atR (putR l k s t) k u).getD zeroEl).s = ((atR l k u).getD zeroEl).s := by
  obtain ⟨hG, hx, hl⟩ := wrErr_zero.1 hw
  obtain ⟨z1, z2, z3⟩ := sizes hw
  have z4 : 1 ≤ t := z3
  cases h : atR l k u with
  | some x =>
    obtain ⟨h1, h2⟩ := (atR_iff hG.2.2).1 h
    obtain ⟨e1, e2⟩ := upd_past (k := k) (s := s) hu z4 x
    have h3 : atR (putR l k s t) k u = some (upd k s t x) := (atR_iff hM.2.2).2 ⟨(put_mem hw).2 (.inl ⟨x, h1, rfl⟩), by rw [e1]; exact h2⟩
    rw [h3]
    exact ⟨rfl, (e2 h2).1, (e2 h2).2⟩
  | none =>
    rw [atR_none] at h
    have h3 : atR (putR l k s t) k u = none := atR_none.2 fun e he => by
      rcases (put_mem hw).1 he with ⟨x, hx, rfl⟩ | ⟨_, rfl⟩
      · rw [(upd_past hu z4 x).1]; exact h x hx
      · unfold isAt El.live liveP fresh; rw [decide_eq_false_iff_not]; rintro ⟨_, h1, _⟩; simp only at h1; omega
    rw [h3]
    exact ⟨rfl, rfl, rfl⟩
theorem other_at {l : List El} {k q : Int × Int × Int} {s : ByteArray} {t u : Int} (hw : wrErr l (fresh k s t) = 0) (hM : Good (putR l k s t)) (hq : q ≠ k) : atR (putR l k s t) q u = atR l q u := by
  obtain ⟨hG, hx, hl⟩ := wrErr_zero.1 hw
  have hup : ∀ x : El, isAt q u x = true → upd k s t x = x := fun x h => by
    refine upd_not ?_
    unfold isAt at h; rw [decide_eq_true_eq] at h
    unfold isOpen; rw [decide_eq_false_iff_not]
    exact fun h2 => hq (h.1.symm.trans h2.1)
  cases h : atR l q u with
  | some x =>
    obtain ⟨h1, h2⟩ := (atR_iff hG.2.2).1 h
    exact (atR_iff hM.2.2).2 ⟨(put_mem hw).2 (.inl ⟨x, h1, (hup x h2).symm⟩), h2⟩
  | none =>
    rw [atR_none] at h
    refine atR_none.2 fun e he => ?_
    rcases (put_mem hw).1 he with ⟨x, hx, rfl⟩ | ⟨_, rfl⟩
    · have hx' := h x hx
      cases h9 : isAt q u (upd k s t x)
      · rfl
      · exfalso
        unfold isAt at h9 hx'
        rw [decide_eq_true_eq] at h9
        rw [decide_eq_false_iff_not] at hx'
        rw [upd_key] at h9
        have h10 : upd k s t x = x := by
          refine upd_not ?_
          unfold isOpen; rw [decide_eq_false_iff_not]
          exact fun h2 => hq (h9.1.symm.trans h2.1)
        rw [h10] at h9
        exact hx' h9
    · unfold isAt; rw [decide_eq_false_iff_not, fresh_key]; exact fun h2 => hq h2.1.symm
/-- What Put writes is there from then on. -/
theorem now_at {l : List El} {k : Int × Int × Int} {s : ByteArray} {t u : Int} (hw : wrErr l (fresh k s t) = 0) (hM : Good (putR l k s t)) (hu : t ≤ u) :
    ∃ x, atR (putR l k s t) k u = some x ∧ x.s = s ∧ x.g = 0 := by
  obtain ⟨hG, hx, hl⟩ := wrErr_zero.1 hw
  cases h : l.any (isSame k t)
  · refine ⟨fresh k s t, (atR_iff hM.2.2).2 ⟨(put_mem hw).2 (.inr ⟨h, rfl⟩), ?_⟩, rfl, rfl⟩
    unfold isAt El.live liveP; rw [decide_eq_true_eq]
    exact ⟨rfl, hu, .inl rfl⟩
  · rw [List.any_eq_true] at h
    obtain ⟨x, hx, h2⟩ := h
    unfold isSame at h2; rw [decide_eq_true_eq] at h2
    have ho : isOpen k x = true := by unfold isOpen; rw [decide_eq_true_eq]; exact ⟨h2.1, h2.2.1⟩
    have e1 : upd k s t x = { x with s := s } := by rw [upd_open ho, if_pos h2.2.2]
    refine ⟨{ x with s := s }, (atR_iff hM.2.2).2 ⟨(put_mem hw).2 (.inl ⟨x, hx, e1.symm⟩), ?_⟩, rfl, h2.2.1⟩
    unfold isAt El.live liveP; rw [decide_eq_true_eq]
    exact ⟨h2.1, by simp only; omega, .inl h2.2.1⟩
/-- What Cut deletes is gone from then on. -/
theorem gone_at {l : List El} {k : Int × Int × Int} {t u : Int} (hw : wrErr l (fresh k { data := #[] } t) = 0) (hu : t ≤ u) : atR (cutR l k t) k u = none := by
  obtain ⟨hG, hx, hl⟩ := wrErr_zero.1 hw
  have hl' : latest l ≤ t := hl
  refine atR_none.2 fun e he => ?_
  obtain ⟨x, hx, h2⟩ := List.mem_filterMap.1 he
  have hb := mem_bounds hG hx
  unfold cutStep at h2
  unfold isAt El.live liveP
  rw [decide_eq_false_iff_not]
  rintro ⟨h3, h4, h5⟩
  split at h2
  · split at h2
    · cases h2
    · injection h2 with h2
      subst h2
      simp only at h5
      obtain ⟨_, _, z3⟩ := sizes hw
      have z4 : 1 ≤ t := z3
      omega
  · injection h2 with h2
    subst h2
    rename_i h6
    have : x.g ≠ 0 := fun h7 => h6 ⟨h3, h7⟩
    omega
theorem atErr_good {l : List El} (h : Good l) (k : Int × Int × Int) (t : Int) : atErr l k t = if kErr k = 0 then (if (atR l k t).isSome then 0 else 4) else kErr k := by
  unfold atErr askErr1; rw [if_pos (runErr_zero.2 h)]
theorem atVal_good {l : List El} (h : Good l) (k : Int × Int × Int) (t : Int) : atVal l k t = if kErr k = 0 then (atR l k t).getD zeroEl else zeroEl := by
  unfold atVal askErr1; rw [if_pos (runErr_zero.2 h)]
end Go.Proofs.Ytmianlnpaiebhaa
