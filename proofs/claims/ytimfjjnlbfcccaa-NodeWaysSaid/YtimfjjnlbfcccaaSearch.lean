/- sort.Search with the closure of run.after; run.after, run.live. -/
import Derived.Test.YtimfjjnlbfcccaaRun1
import Derived.Test.YtimfjjnlbfcccaaPure2
namespace Go.Proofs.Ytimfjjnlbfcccaa
open Go.RowKit

theorem decide_gt (p o f m p' o' f' m' : Int) : decide (0 < scmp p o f m p' o' f' m') = decide (sLt (p', o', f') m' (p, o, f) m) := by
  rw [Bool.eq_iff_iff, decide_eq_true_eq, decide_eq_true_eq]
  have h := scmp_sLt (a := ⟨p, o, f, m, 0, ByteArray.empty⟩) (b := ⟨p', o', f', m', 0, ByteArray.empty⟩)
  simp only [El.key] at h
  have h0 : scmp p o f m p' o' f' m' = 0 ↔ (p, o, f) = (p', o', f') ∧ m = m' := by rw [scmp_eq, kcmp_key]
  rcases scmp_or p o f m p' o' f' m' with h1 | h1 | h1
  · rw [h1]
    constructor
    · intro h2; omega
    · intro h2; exact absurd (h.1 h1) (sLt_asymm h2)
  · rw [h1]
    obtain ⟨e1, e2⟩ := h0.1 h1
    rw [e1, e2]
    constructor
    · intro h2; omega
    · intro h2; exact absurd h2 (sLt_irrefl _ _)
  · rw [h1]
    constructor
    · intro _
      rcases sLt_tri (p, o, f) m (p', o', f') m' with h2 | h2 | h2
      · rw [h.2 h2] at h1; omega
      · rw [h0.2 h2] at h1; omega
      · exact h2
    · intro _; omega

/-- The closure's boxes in memory. -/
def Boxes (B1 B2 : Nat) (A : Option Addr) (n c : Nat) (p' o' f' m' : Int) (w : World) : Prop :=
  w.heap[B1]? = some (.cells #[.slice A n c] 30 (0, 0)) ∧ w.heap[B2]? = some (.cells #[.int .i64 p', .int .i64 o', .int .i64 f', .int .i64 m'] 38 (0, 0))
theorem Boxes.calm {B1 B2 : Nat} {A : Option Addr} {n c : Nat} {p' o' f' m' : Int} {w w' : World} (h : Boxes B1 B2 A n c p' o' f' m' w) (hb : Calm w w') : Boxes B1 B2 A n c p' o' f' m' w' :=
  ⟨(hb.block (Array.getElem?_eq_some_iff.1 h.1).1).trans h.1, (hb.block (Array.getElem?_eq_some_iff.1 h.2).1).trans h.2⟩

end Go.Proofs.Ytimfjjnlbfcccaa
