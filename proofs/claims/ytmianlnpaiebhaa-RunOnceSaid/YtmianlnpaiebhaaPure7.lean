/- Two ranges are one: what RunOnce asks of rangeR. -/
import Derived.Test.YtmianlnpaiebhaaPure6
namespace Go.Proofs.Ytmianlnpaiebhaa

theorem filter_two {p q r : El → Bool} (hr : ∀ e, r e = (p e || q e)) (hd : ∀ e, p e = true → q e = false) : ∀ {l : List El}, l.Pairwise (fun a b => q a = true → p b = false) → l.filter r = l.filter p ++ l.filter q
  | [], _ => rfl
  | x :: l, h => by
    rw [List.pairwise_cons] at h
    have ih := filter_two hr hd h.2
    rw [List.filter_cons, List.filter_cons, List.filter_cons, hr x]
    cases hp : p x
    · cases hq : q x
      · simpa using ih
      · have h0 : l.filter p = [] := List.filter_eq_nil_iff.2 fun e he => by rw [h.1 e he hq]; simp
        rw [h0] at ih ⊢
        simpa using ih
    · rw [hd x hp]
      simpa using ih

def pastR (mid hi : Int × Int × Int) (t : Int) (e : El) : Bool := decide (kLt mid e.key ∧ ¬ kLt hi e.key ∧ e.live t)

theorem range_cut {l : List El} (hs : l.Pairwise (fun a b => sLt a.key a.m b.key b.m)) {lo mid hi : Int × Int × Int} {t : Int} (h1 : ¬ kLt mid lo) (h2 : ¬ kLt hi mid) :
    rangeR l lo hi t = rangeR l lo mid t ++ l.filter (pastR mid hi t) := by
  unfold rangeR
  refine filter_two (fun e => ?_) (fun e h => ?_) (hs.imp fun {a b} h => ?_)
  · unfold inR pastR
    rw [Bool.eq_iff_iff, Bool.or_eq_true, decide_eq_true_eq, decide_eq_true_eq, decide_eq_true_eq]
    constructor
    · rintro ⟨a, b, c⟩
      by_cases h : kLt mid e.key
      · exact .inr ⟨h, b, c⟩
      · exact .inl ⟨a, h, c⟩
    · rintro (⟨a, b, c⟩ | ⟨a, b, c⟩)
      · refine ⟨a, fun h => ?_, c⟩
        unfold kLt at *; omega
      · refine ⟨fun h => ?_, b, c⟩
        unfold kLt at *; omega
  · unfold inR at h; rw [decide_eq_true_eq] at h
    unfold pastR; rw [decide_eq_false_iff_not]
    exact fun h3 => h.2.1 h3.1
  · intro h3
    unfold pastR at h3; rw [decide_eq_true_eq] at h3
    unfold inR; rw [decide_eq_false_iff_not]
    rintro ⟨_, h4, _⟩
    rcases h with h | ⟨h, _⟩
    · exact h4 (kLt_trans h3.1 h)
    · exact h4 (h ▸ h3.1)

/-- RunOnce's last line. -/
theorem range_two {l : List El} (hG : Good l) {lo mid hi : Int × Int × Int} {t : Int} (h1 : ¬ kLt mid lo) (h2 : ¬ kLt hi mid) :
    rangeR l lo hi t = rangeR l lo mid t ++ (rangeR l mid hi t).drop (min (rangeR l mid mid t).length (rangeR l mid hi t).length) := by
  rw [range_cut (Fol.rise hG.2.2) h1 h2, range_cut (Fol.rise hG.2.2) (kLt_irrefl mid) h2]
  congr 1
  rw [List.length_append, Nat.min_eq_left (Nat.le_add_right _ _), List.drop_left]

/-- What a range answers of a key is what At answers. -/
theorem at_range {l : List El} (hG : Good l) {lo hi : Int × Int × Int} {t : Int} {e : El} (he : e ∈ rangeR l lo hi t) : atR l e.key t = some e := by
  obtain ⟨h1, h2⟩ := List.mem_filter.1 he
  unfold inR at h2; rw [decide_eq_true_eq] at h2
  refine (atR_iff hG.2.2).2 ⟨h1, ?_⟩
  unfold isAt; rw [decide_eq_true_eq]; exact ⟨rfl, h2.2.2⟩

/-- The keys of a range rise: no two records of one key are live at one time. -/
theorem range_rise {l : List El} (hG : Good l) (lo hi : Int × Int × Int) (t : Int) : (rangeR l lo hi t).Pairwise (fun a b => kLt a.key b.key) := by
  unfold rangeR
  rw [List.pairwise_filter]
  refine hG.2.2.imp fun {a b} h ha hb => ?_
  unfold inR at ha hb; rw [decide_eq_true_eq] at ha hb
  rcases h.1 with h1 | ⟨h1, _⟩
  · exact h1
  · have h2 := h.2 h1
    have h3 := ha.2.2
    have h4 := hb.2.2
    unfold El.live liveP at h3 h4
    omega

theorem key_good {l : List El} (hG : Good l) {e : El} (he : e ∈ l) : kErr e.key = 0 := by
  have h := hG.2.1 e he
  unfold El.err at h
  rw [elemErr_zero] at h
  exact h.1

theorem at_range_err {l : List El} (hG : Good l) {lo hi : Int × Int × Int} {t : Int} {e : El} (he : e ∈ rangeR l lo hi t) : atErr l e.key t = 0 ∧ atVal l e.key t = e := by
  have hk := key_good hG (List.mem_filter.1 he).1
  rw [atErr_good hG, atVal_good hG, if_pos hk, if_pos hk, at_range hG he]
  exact ⟨rfl, rfl⟩
end Go.Proofs.Ytmianlnpaiebhaa
