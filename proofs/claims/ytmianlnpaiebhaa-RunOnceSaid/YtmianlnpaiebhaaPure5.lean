/- What was written at a time is the last thing. -/
import Derived.Test.YtmianlnpaiebhaaPure4
namespace Go.Proofs.Ytmianlnpaiebhaa

theorem latest_put {l : List El} {k : Int × Int × Int} {s : ByteArray} {t : Int} (hw : wrErr l (fresh k s t) = 0) : latest (putR l k s t) = t := by
  obtain ⟨hG, hx, hl⟩ := wrErr_zero.1 hw
  have hlt : latest l ≤ t := hl
  have h1 : 1 ≤ t := (sizes hw).2.2
  have hle : latest (putR l k s t) ≤ t := latest_le (by omega) fun e he => by
    rcases (put_mem hw).1 he with ⟨x, hx, rfl⟩ | ⟨_, rfl⟩
    · have hb := mem_bounds hG hx
      unfold upd El.last lastOf
      split
      · split <;> simp only <;> split <;> omega
      · split <;> omega
    · unfold fresh El.last lastOf; simp only; split <;> omega
  have hge : t ≤ latest (putR l k s t) := by
    by_cases h : l.any (isSame k t) = true
    · rw [List.any_eq_true] at h
      obtain ⟨x, hx, h2⟩ := h
      unfold isSame at h2; rw [decide_eq_true_eq] at h2
      have h3 := latest_ge ((put_mem hw).2 (.inl ⟨x, hx, rfl⟩))
      have h4 : (upd k s t x).last = t := by
        unfold upd
        rw [if_pos ⟨h2.1, h2.2.1⟩, if_pos h2.2.2]
        unfold El.last lastOf; simp only; split <;> omega
      omega
    · have h3 := latest_ge ((put_mem hw).2 (.inr ⟨by simpa using h, rfl⟩))
      have h4 : (fresh k s t).last = t := by unfold fresh El.last lastOf; simp only; split <;> omega
      omega
  omega

theorem wr_parts {l : List El} {k : Int × Int × Int} {s : ByteArray} {t : Int} (hw : wrErr l (fresh k s t) = 0) : kErr k = 0 ∧ (s.size : Int) ≤ 40 ∧ 1 ≤ t ∧ t ≤ 2147483647 := by
  have h2 := (wrErr_zero.1 hw).2.1
  have hs := sizes hw
  unfold El.err at h2
  rw [elemErr_zero] at h2
  exact ⟨h2.1, hs.1, hs.2.2, hs.2.1⟩

theorem put_again {l : List El} {k : Int × Int × Int} {s : ByteArray} {t : Int} (hw : wrErr l (fresh k s t) = 0) (hM : Good (putR l k s t)) : putErr (putR l k s t) k s (t - 1) = 9 := by
  obtain ⟨h1, h2, h3, h4⟩ := wr_parts hw
  have h5 : wrErr (putR l k s t) (fresh k s (t - 1)) = 9 := by
    unfold wrErr
    rw [if_pos (runErr_zero.2 hM), latest_put hw]
    have hk : keyErr k.1 k.2.1 k.2.2 = 0 := h1
    by_cases h6 : 1 ≤ t - 1
    · have h7 : (fresh k s (t - 1)).err = 0 := by
        unfold El.err; rw [elemErr_zero]
        refine ⟨hk, ?_, h2⟩
        exact ⟨h6, show t - 1 ≤ 2147483647 by omega, .inl rfl⟩
      rw [if_pos h7, if_pos (show (fresh k s (t - 1)).m < t from by unfold fresh; simp only; omega)]
    · have h7 : (fresh k s (t - 1)).err = 9 := by
        unfold El.err elemErr
        rw [if_pos (show keyErr (fresh k s (t - 1)).p (fresh k s (t - 1)).o (fresh k s (t - 1)).f = 0 from hk), if_neg]
        unfold timeOk fresh; simp only; omega
      rw [if_neg (by omega), h7]
  unfold putErr
  rw [if_neg (by omega), h5]

theorem latest_cut {l : List El} {k : Int × Int × Int} {t : Int} (hw : wrErr l (fresh k { data := #[] } t) = 0) : latest (cutR l k t) ≤ t := by
  obtain ⟨hG, hx, hl⟩ := wrErr_zero.1 hw
  have hlt : latest l ≤ t := hl
  have h1 : 1 ≤ t := (sizes hw).2.2
  refine latest_le (by omega) fun e he => ?_
  obtain ⟨x, hx, h2⟩ := List.mem_filterMap.1 he
  have hb := mem_bounds hG hx
  unfold cutStep at h2
  unfold El.last lastOf
  split at h2
  · split at h2
    · cases h2
    · injection h2 with h2; subst h2; simp only; split <;> omega
  · injection h2 with h2; subst h2; split <;> omega

theorem cut_again {l : List El} {k : Int × Int × Int} {t : Int} (hw : wrErr l (fresh k { data := #[] } t) = 0) : cutErr (cutR l k t) k t = 4 := by
  have h1 := latest_cut hw
  have h2 : wrErr (cutR l k t) (fresh k { data := #[] } t) = 0 := wrErr_zero.2 ⟨cut_good hw, (wrErr_zero.1 hw).2.1, h1⟩
  have ht : 1 ≤ t := (sizes hw).2.2
  unfold cutErr
  rw [if_pos h2, if_neg]
  rw [List.any_eq_true]
  rintro ⟨e, he, h3⟩
  unfold isOpen at h3; rw [decide_eq_true_eq] at h3
  obtain ⟨x, hx, h4⟩ := List.mem_filterMap.1 he
  unfold cutStep at h4
  split at h4
  · split at h4
    · cases h4
    · injection h4 with h4; subst h4; have := h3.2; simp only at this; omega
  · rename_i hn
    injection h4 with h4; subst h4; exact hn h3
end Go.Proofs.Ytmianlnpaiebhaa
