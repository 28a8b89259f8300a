/- Two runs with the same records are one; writes of two keys; a write of what is there; put and cut. -/
import Derived.Test.YtmianlnpaiebhaaPure5
namespace Go.Proofs.Ytmianlnpaiebhaa

theorem sorted_ext {α : Type} {r : α → α → Prop} (ir : ∀ a, ¬ r a a) (asy : ∀ a b, r a b → ¬ r b a) : ∀ {l l' : List α}, l.Pairwise r → l'.Pairwise r → (∀ e, e ∈ l ↔ e ∈ l') → l = l'
  | [], [], _, _, _ => rfl
  | [], y :: l', _, _, h => absurd ((h y).2 (by simp)) (by simp)
  | x :: l, [], _, _, h => absurd ((h x).1 (by simp)) (by simp)
  | x :: l, y :: l', hl, hl', h => by
    rw [List.pairwise_cons] at hl hl'
    have hxy : x = y := by
      rcases List.mem_cons.1 ((h x).1 (by simp)) with h1 | h1
      · exact h1
      rcases List.mem_cons.1 ((h y).2 (by simp)) with h2 | h2
      · exact h2.symm
      exact absurd (hl.1 y h2) (asy _ _ (hl'.1 x h1))
    subst hxy
    rw [sorted_ext ir asy hl.2 hl'.2 fun e => ?_]
    constructor
    · intro he
      rcases List.mem_cons.1 ((h e).1 (by simp [he])) with h1 | h1
      · subst h1; exact absurd (hl.1 e he) (ir e)
      · exact h1
    · intro he
      rcases List.mem_cons.1 ((h e).2 (by simp [he])) with h1 | h1
      · subst h1; exact absurd (hl'.1 e he) (ir e)
      · exact h1

theorem good_ext {l l' : List El} (h : Good l) (h' : Good l') (hm : ∀ e, e ∈ l ↔ e ∈ l') : l = l' :=
  sorted_ext (r := fun a b : El => sLt a.key a.m b.key b.m) (fun a => sLt_irrefl _ _) (fun a b h1 h2 => sLt_irrefl _ _ (sLt_trans h1 h2)) (Fol.rise h.2.2) (Fol.rise h'.2.2) hm

theorem updKey {k : Int × Int × Int} {s : ByteArray} {t : Int} (e : El) : (upd k s t e).key = e.key := by
  unfold upd; split
  · split <;> rfl
  · rfl
theorem upd_other {k : Int × Int × Int} {s : ByteArray} {t : Int} {e : El} (h : e.key ≠ k) : upd k s t e = e := by
  unfold upd; rw [if_neg fun h1 => h h1.1]
theorem upd_comm {a b : Int × Int × Int} {v w : ByteArray} {t : Int} (h : a ≠ b) (e : El) : upd b w t (upd a v t e) = upd a v t (upd b w t e) := by
  by_cases h1 : e.key = a
  · have h2 : e.key ≠ b := fun h3 => h (h1.symm.trans h3)
    rw [upd_other h2, upd_other (k := b) (by rw [updKey]; exact h2)]
  · rw [upd_other h1, upd_other (k := a) (by rw [updKey]; exact h1)]
theorem upd_same {a b : Int × Int × Int} {v : ByteArray} {t : Int} (h : a ≠ b) (e : El) : isSame b t (upd a v t e) = isSame b t e := by
  by_cases h1 : e.key = a
  · have h2 : e.key ≠ b := fun h3 => h (h1.symm.trans h3)
    unfold isSame
    rw [decide_eq_false fun h3 => h2 ((updKey (k := a) (s := v) (t := t) e) ▸ h3.1), decide_eq_false fun h3 => h2 h3.1]
  · rw [upd_other h1]

theorem same_put {l : List El} {a b : Int × Int × Int} {v : ByteArray} {t : Int} (hw : wrErr l (fresh a v t) = 0) (h : a ≠ b) : (putR l a v t).any (isSame b t) = l.any (isSame b t) := by
  rw [Bool.eq_iff_iff, List.any_eq_true, List.any_eq_true]
  constructor
  · rintro ⟨e, he, h1⟩
    rcases (put_mem hw).1 he with ⟨x, hx, rfl⟩ | ⟨_, rfl⟩
    · exact ⟨x, hx, by rw [upd_same h] at h1; exact h1⟩
    · unfold isSame at h1; rw [decide_eq_true_eq] at h1; exact absurd h1.1 (by rw [fresh_key]; exact h)
  · rintro ⟨x, hx, h1⟩
    exact ⟨upd a v t x, (put_mem hw).2 (.inl ⟨x, hx, rfl⟩), by rw [upd_same h]; exact h1⟩

theorem ins_length (x : El) : ∀ l : List El, (ins x l).length = l.length + 1
  | [] => rfl
  | y :: l => by unfold ins; split <;> simp [ins_length x l]
theorem put_length (l : List El) (k : Int × Int × Int) (s : ByteArray) (t : Int) : (putR l k s t).length = l.length + if l.any (isSame k t) then 0 else 1 := by
  unfold putR; split
  · simp
  · rw [ins_length]; simp

theorem wr_again {l : List El} {k a : Int × Int × Int} {s v : ByteArray} {t : Int} (hw : wrErr l (fresh k s t) = 0) (hM : Good (putR l k s t)) (ha : (fresh a v t).err = 0) : wrErr (putR l k s t) (fresh a v t) = 0 :=
  wrErr_zero.2 ⟨hM, ha, by rw [latest_put hw]; exact Int.le_refl _⟩

/-- Two keys may be written in any order. -/
theorem put_comm {l : List El} {a b : Int × Int × Int} {v w : ByteArray} {t : Int} (h : a ≠ b) (ha : wrErr l (fresh a v t) = 0) (pa : putErr l a v t = 0) (hb : wrErr l (fresh b w t) = 0) (pb : putErr l b w t = 0)
    (pp : putErr (putR l a v t) b w t = 0) : putErr (putR l b w t) a v t = 0 ∧ putR (putR l b w t) a v t = putR (putR l a v t) b w t := by
  have gA := put_good ha pa
  have gB := put_good hb pb
  have wA := wr_again (a := b) (v := w) ha gA (wrErr_zero.1 hb).2.1
  have wB := wr_again (a := a) (v := v) hb gB (wrErr_zero.1 ha).2.1
  have gP := put_good wA pp
  have sA := same_put (b := b) ha h
  have sB := same_put (b := a) hb h.symm
  have lP := put_length (putR l a v t) b w t
  have lA := put_length l a v t
  have lB := put_length l b w t
  have pq : putErr (putR l b w t) a v t = 0 := by
    unfold putErr
    rw [if_pos wB, sB]
    split
    · rfl
    · rename_i h1
      rw [if_neg]
      rw [sA] at lP
      rw [if_neg h1] at lA
      have := gP.1
      omega
  have gQ := put_good wB pq
  refine ⟨pq, good_ext gQ gP fun e => ?_⟩
  rw [put_mem wB, put_mem wA, sA, sB]
  constructor
  · rintro (⟨z, hz, rfl⟩ | ⟨h1, rfl⟩)
    · rcases (put_mem hb).1 hz with ⟨z0, h0, rfl⟩ | ⟨h1, rfl⟩
      · exact .inl ⟨upd a v t z0, (put_mem ha).2 (.inl ⟨z0, h0, rfl⟩), (upd_comm h z0).symm⟩
      · exact .inr ⟨h1, upd_other (by rw [fresh_key]; exact h.symm)⟩
    · exact .inl ⟨fresh a v t, (put_mem ha).2 (.inr ⟨h1, rfl⟩), (upd_other (by rw [fresh_key]; exact h)).symm⟩
  · rintro (⟨z, hz, rfl⟩ | ⟨h1, rfl⟩)
    · rcases (put_mem ha).1 hz with ⟨z0, h0, rfl⟩ | ⟨h1, rfl⟩
      · exact .inl ⟨upd b w t z0, (put_mem hb).2 (.inl ⟨z0, h0, rfl⟩), upd_comm h z0⟩
      · exact .inr ⟨h1, upd_other (by rw [fresh_key]; exact h)⟩
    · exact .inl ⟨fresh b w t, (put_mem hb).2 (.inr ⟨h1, rfl⟩), (upd_other (by rw [fresh_key]; exact h.symm)).symm⟩

theorem same_self {l : List El} {a : Int × Int × Int} {v : ByteArray} {t : Int} (hw : wrErr l (fresh a v t) = 0) : (putR l a v t).any (isSame a t) = true := by
  by_cases h : l.any (isSame a t) = true
  · obtain ⟨x, hx, h1⟩ := List.any_eq_true.1 h
    unfold isSame at h1; rw [decide_eq_true_eq] at h1
    refine List.any_eq_true.2 ⟨upd a v t x, (put_mem hw).2 (.inl ⟨x, hx, rfl⟩), ?_⟩
    unfold upd isSame
    rw [if_pos ⟨h1.1, h1.2.1⟩, if_pos h1.2.2, decide_eq_true_eq]
    exact h1
  · refine List.any_eq_true.2 ⟨fresh a v t, (put_mem hw).2 (.inr ⟨by simpa using h, rfl⟩), ?_⟩
    unfold isSame; rw [decide_eq_true_eq]; exact ⟨rfl, rfl, rfl⟩

/-- What is open after a write is what was written. -/
theorem open_put {l : List El} {a : Int × Int × Int} {v : ByteArray} {t : Int} (hw : wrErr l (fresh a v t) = 0) {e : El} (he : e ∈ putR l a v t) (hk : e.key = a) (hg : e.g = 0) : e.m = t ∧ e.s = v := by
  have ht : 1 ≤ t := (sizes hw).2.2
  rcases (put_mem hw).1 he with ⟨x, hx, rfl⟩ | ⟨_, rfl⟩
  · rw [updKey] at hk
    unfold upd at hg ⊢
    by_cases h1 : x.key = a ∧ x.g = 0
    · rw [if_pos h1] at hg ⊢
      by_cases h2 : x.m = t
      · rw [if_pos h2]; exact ⟨h2, rfl⟩
      · rw [if_neg h2] at hg; simp only at hg; omega
    · rw [if_neg h1] at hg; exact absurd ⟨hk, hg⟩ h1
  · exact ⟨rfl, rfl⟩

/-- To write what is there changes nothing. -/
theorem put_twice {l : List El} {a : Int × Int × Int} {v : ByteArray} {t : Int} (hw : wrErr l (fresh a v t) = 0) (hp : putErr l a v t = 0) : putErr (putR l a v t) a v t = 0 ∧ putR (putR l a v t) a v t = putR l a v t := by
  have hM := put_good hw hp
  have hs := same_self hw
  have h1 := wr_again (a := a) (v := v) hw hM (wrErr_zero.1 hw).2.1
  refine ⟨by unfold putErr; rw [if_pos h1, if_pos hs], ?_⟩
  have h2 : ∀ e ∈ putR l a v t, upd a v t e = e := fun e he => by
    unfold upd
    split
    · rename_i h3
      obtain ⟨h4, h5⟩ := open_put hw he h3.1 h3.2
      rw [if_pos h4]
      obtain ⟨ep, eo, ef, em, eg, es⟩ := e
      simp only at h5
      subst h5
      rfl
    · rfl
  generalize putR l a v t = M at hs h2
  unfold putR
  rw [if_pos hs]
  exact (List.map_congr_left h2).trans (List.map_id M)

theorem cutStep_upd {a : Int × Int × Int} {v : ByteArray} {t : Int} (ht : 1 ≤ t) (e : El) : cutStep a t (upd a v t e) = cutStep a t e := by
  unfold upd cutStep
  by_cases h1 : e.key = a ∧ e.g = 0
  · rw [if_pos h1, if_pos h1]
    by_cases h2 : e.m = t
    · rw [if_pos h2, if_pos h2, if_pos (show ({ e with s := v } : El).key = a ∧ ({ e with s := v } : El).g = 0 from h1), if_pos (show ({ e with s := v } : El).m = t from h2)]
    · rw [if_neg h2, if_neg h2, if_neg (fun h3 => by have := h3.2; simp only at this; omega)]
  · rw [if_neg h1, if_neg h1]

/-- To put and cut at one time is to cut. -/
theorem put_cut {l : List El} {a : Int × Int × Int} {v : ByteArray} {t : Int} (hw : wrErr l (fresh a v t) = 0) (hp : putErr l a v t = 0) :
    cutErr (putR l a v t) a t = 0 ∧ cutR (putR l a v t) a t = cutR l a t ∧ (cutErr l a t = 0 ∨ (cutErr l a t = 4 ∧ cutR l a t = l)) := by
  obtain ⟨h1, h2, h3, h4⟩ := wr_parts hw
  have hM := put_good hw hp
  have h5 : (fresh a { data := #[] } t).err = 0 := by
    unfold El.err; rw [elemErr_zero]
    exact ⟨h1, ⟨h3, h4, .inl rfl⟩, by show ((0 : Nat) : Int) ≤ 40; decide⟩
  have w0 : wrErr l (fresh a { data := #[] } t) = 0 := wrErr_zero.2 ⟨(wrErr_zero.1 hw).1, h5, (wrErr_zero.1 hw).2.2⟩
  have w1 := wr_again (a := a) (v := { data := #[] }) hw hM h5
  refine ⟨?_, ?_, ?_⟩
  · unfold cutErr
    rw [if_pos w1, if_pos]
    obtain ⟨x, hx, h6⟩ := List.any_eq_true.1 (same_self hw)
    refine List.any_eq_true.2 ⟨x, hx, ?_⟩
    unfold isSame at h6; rw [decide_eq_true_eq] at h6
    unfold isOpen; rw [decide_eq_true_eq]; exact ⟨h6.1, h6.2.1⟩
  · refine good_ext (cut_good w1) (cut_good w0) fun e => ?_
    unfold cutR
    rw [List.mem_filterMap, List.mem_filterMap]
    constructor
    · rintro ⟨z, hz, h6⟩
      rcases (put_mem hw).1 hz with ⟨z0, h0, rfl⟩ | ⟨_, rfl⟩
      · exact ⟨z0, h0, by rw [cutStep_upd h3] at h6; exact h6⟩
      · unfold cutStep at h6; rw [if_pos ⟨rfl, rfl⟩, if_pos (show (fresh a v t).m = t from rfl)] at h6; cases h6
    · rintro ⟨z, hz, h6⟩
      exact ⟨upd a v t z, (put_mem hw).2 (.inl ⟨z, hz, rfl⟩), by rw [cutStep_upd h3]; exact h6⟩
  · by_cases h6 : l.any (isOpen a) = true
    · left; unfold cutErr; rw [if_pos w0, if_pos h6]
    · right
      refine ⟨by unfold cutErr; rw [if_pos w0, if_neg h6], cut_filter fun e he => ?_⟩
      cases h7 : isOpen a e
      · rfl
      · exact absurd (List.any_eq_true.2 ⟨e, he, h7⟩) h6
end Go.Proofs.Ytmianlnpaiebhaa
