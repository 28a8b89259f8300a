/- run.follows, run.Check, run.Last, annalref.Run, annalref.Latest. -/
import Derived.Test.YtimfjjnlbfcccaaMem
import Derived.Deep.LoopGhost
import Derived.Outline
import Derived.IntWalk
namespace Go.Proofs.Ytimfjjnlbfcccaa
open Go.RowKit

theorem decide_Fol (p o f m g : Int) (s : ByteArray) (p' o' f' m' g' : Int) (s' : ByteArray) :
    decide (Fol ⟨p, o, f, m, g, s⟩ ⟨p', o', f', m', g', s'⟩) = (decide (scmp p o f m p' o' f' m' = -1) && (!decide ((p, o, f) = (p', o', f')) || !decide (liveP m g m'))) := by
  rw [Bool.eq_iff_iff]
  simp only [Bool.and_eq_true, Bool.or_eq_true, decide_eq_true_eq, Bool.not_eq_true', decide_eq_false_iff_not]
  have h := scmp_sLt (a := ⟨p, o, f, m, g, s⟩) (b := ⟨p', o', f', m', g', s'⟩)
  simp only at h
  rw [h]
  unfold Fol
  simp only [El.key]
  constructor
  · rintro ⟨h1, h2⟩
    refine ⟨h1, ?_⟩
    by_cases e : (p, o, f) = (p', o', f')
    · right; have := h2 e; unfold liveP; omega
    · exact .inl e
  · rintro ⟨h1, h2⟩
    refine ⟨h1, fun e => ?_⟩
    rcases h2 with h2 | h2
    · exact absurd e h2
    · rw [e, sLt_same] at h1
      unfold liveP at h2; omega

theorem stepErr_err {l : List El} {k : Nat} {e : El} (h : l[k]? = some e) (he : e.err ≠ 0) : stepErr l k = e.err := by
  unfold stepErr; rw [h]; simp only; rw [if_pos he]
theorem runErr_at {l : List El} {k : Nat} (hl : ¬ 400 < l.length) (h : ∀ j, j < k → stepErr l j = 0) (hk : stepErr l k ≠ 0) (hlt : k < l.length) : stepErr l k = runErr l := by
  unfold runErr; rw [if_neg hl, firstErr_at h hk hlt]
theorem runErr_good {l : List El} (hl : ¬ 400 < l.length) (h : ∀ j, j < l.length → stepErr l j = 0) : 0 = runErr l := by
  unfold runErr; rw [if_neg hl, firstErr_zero.2 h]
theorem stepErr_form {l : List El} {k : Nat} {e d : El} (h : l[k]? = some e) (he : e.err = 0) (h0 : 0 < k) (hd : l[k - 1]? = some d) : stepErr l k = if Fol d e then 0 else 3 := by
  unfold stepErr; rw [h]; simp only; rw [if_neg (by simpa using he), if_neg (by omega), hd]
theorem stepErr_first {l : List El} {e : El} (h : l[0]? = some e) (he : e.err = 0) : stepErr l 0 = 0 := by
  unfold stepErr; rw [h]; simp only; rw [if_neg (by simpa using he)]; rfl

def NoErr (l : List El) (k : Nat) : Prop := ∀ j, j < k → stepErr l j = 0

end Go.Proofs.Ytimfjjnlbfcccaa
