/- Between times at which nothing happens nothing changes, plainly. No function of the program. -/
import Derived.Test.YtmianlnpaiebhaaPure2
namespace Go.Proofs.Ytmianlnpaiebhaa

/-- No time of the record lies between t and N. -/
def Beyond (t N : Int) (e : El) : Prop := (t < e.m → N ≤ e.m) ∧ (t < e.g → N ≤ e.g)
theorem range_same {l : List El} {lo hi : Int × Int × Int} {t t' : Int} (h : ∀ e ∈ l, e.live t ↔ e.live t') : rangeR l lo hi t = rangeR l lo hi t' := by
  unfold rangeR
  apply List.filter_congr
  intro e he
  unfold inR
  rw [decide_eq_decide]
  have := h e he
  constructor <;> rintro ⟨h1, h2, h3⟩
  · exact ⟨h1, h2, this.1 h3⟩
  · exact ⟨h1, h2, this.2 h3⟩
theorem between_live {t N : Int} {e : El} (h : Beyond t N e) (hlt : t < N - 1) : e.live t ↔ e.live (N - 1) := by
  obtain ⟨h1, h2⟩ := h
  unfold El.live liveP
  constructor
  · rintro ⟨a, b⟩
    refine ⟨by omega, ?_⟩
    rcases b with b | b
    · exact .inl b
    · right; have := h2 b; omega
  · rintro ⟨a, b⟩
    refine ⟨?_, ?_⟩
    · rcases Int.lt_or_le t e.m with h3 | h3
      · have := h1 h3; omega
      · exact h3
    · rcases b with b | b
      · exact .inl b
      · right; omega
theorem last_live {l : List El} (hG : Good l) {e : El} (he : e ∈ l) : e.live (latest l) ↔ e.live 2147483647 := by
  have h1 := latest_ge he
  have h2 := last_ge e
  have h3 := err_time (hG.2.1 e he)
  unfold timeOk at h3
  unfold El.live liveP
  constructor
  · rintro ⟨a, b⟩; omega
  · rintro ⟨a, b⟩; omega
end Go.Proofs.Ytmianlnpaiebhaa
