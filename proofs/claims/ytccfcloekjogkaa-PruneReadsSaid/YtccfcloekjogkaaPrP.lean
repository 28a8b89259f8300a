/- What is kept of a run, plainly. -/
import Derived.Test.YtccfcloekjogkaaPureD
namespace Go.Proofs.Ytccfcloekjogkaa

def isKept (keep : List Int) (e : El) : Bool := decide (e.g = 0) || keep.any (fun t => decide (e.live t))
def keptR (l : List El) (keep : List Int) : List El := l.filter (isKept keep)
def timesErr (keep : List Int) : Int := if 20 < keep.length then 2 else if ∀ t ∈ keep, 0 ≤ t ∧ t ≤ 2147483647 then 0 else 9
def keepErr (l : List El) (keep : List Int) : Int := if runErr l = 0 then timesErr keep else runErr l
/-- All records but the first n of those that are not kept. -/
def withoutR : List El → List Int → Int → List El
  | [], _, _ => []
  | e :: l, keep, n => if 0 < n ∧ isKept keep e = false then withoutR l keep (n - 1) else e :: withoutR l keep n
set_option maxRecDepth 100000 in
theorem without_cons (e : El) (l : List El) (keep : List Int) (n : Int) : withoutR (e :: l) keep n = if 0 < n ∧ isKept keep e = false then withoutR l keep (n - 1) else e :: withoutR l keep n := rfl
set_option maxRecDepth 100000 in
theorem without_all (keep : List Int) : ∀ (l : List El) (n : Int), (l.length : Int) ≤ n → withoutR l keep n = keptR l keep
  | [], _, _ => rfl
  | e :: l, n, h => by
    rw [List.length_cons] at h
    unfold withoutR keptR
    rw [List.filter_cons]
    cases hk : isKept keep e
    · rw [if_pos ⟨by omega, rfl⟩, if_neg (by simp)]
      exact without_all keep l (n - 1) (by omega)
    · rw [if_neg (by simp), if_pos rfl]
      congr 1
      exact without_all keep l n (by omega)
set_option maxRecDepth 100000 in
theorem without_sub (keep : List Int) : ∀ (l : List El) (n : Int), (withoutR l keep n).Sublist l
  | [], _ => List.Sublist.refl _
  | e :: l, n => by
    unfold withoutR
    split
    · exact (without_sub keep l _).cons _
    · exact (without_sub keep l _).cons_cons _
set_option maxRecDepth 100000 in
theorem kept_of {keep : List Int} {t : Int} {e : El} (ht : t ∈ keep) (h : e.live t) : isKept keep e = true := by
  unfold isKept
  rw [Bool.or_eq_true]
  exact .inr (List.any_eq_true.2 ⟨t, ht, decide_eq_true h⟩)
set_option maxRecDepth 100000 in
theorem kept_now {keep : List Int} {e : El} (he : e.err = 0) (h : e.live 2147483647) : isKept keep e = true := by
  unfold isKept
  rw [Bool.or_eq_true]
  refine .inl (decide_eq_true ?_)
  have h1 := err_time he
  unfold timeOk at h1
  unfold El.live liveP at h
  omega
set_option maxRecDepth 100000 in
theorem kept_good {l : List El} (hG : Good l) (keep : List Int) : Good (keptR l keep) := good_sub hG List.filter_sublist
set_option maxRecDepth 100000 in
theorem kept_at {l : List El} {keep : List Int} {t : Int} (h : ∀ e ∈ l, e.live t → isKept keep e = true) (k : Int × Int × Int) : atR (keptR l keep) k t = atR l k t := by
  induction l with
  | nil => rfl
  | cons e l ih =>
    have ih := ih fun x hx => h x (List.mem_cons_of_mem _ hx)
    unfold atR keptR at ih ⊢
    rw [List.filter_cons]
    cases hk : isKept keep e
    · rw [if_neg (by simp), ih, List.find?_cons]
      have hn : isAt k t e = false := by
        cases hi : isAt k t e
        · rfl
        · have h1 : e.key = k ∧ e.live t := by simpa [isAt] using hi
          rw [h e List.mem_cons_self h1.2] at hk; cases hk
      rw [hn]
    · rw [if_pos rfl, List.find?_cons, List.find?_cons, ih]
set_option maxRecDepth 100000 in
theorem kept_range {l : List El} {keep : List Int} {t : Int} (h : ∀ e ∈ l, e.live t → isKept keep e = true) (lo hi : Int × Int × Int) : rangeR (keptR l keep) lo hi t = rangeR l lo hi t := by
  unfold rangeR keptR
  rw [List.filter_filter]
  apply List.filter_congr
  intro e he
  cases hi2 : inR lo hi t e
  · simp
  · have h1 : ¬ kLt e.key lo ∧ ¬ kLt hi e.key ∧ e.live t := by simpa [inR] using hi2
    rw [h e he h1.2.2]; rfl
set_option maxRecDepth 100000 in
theorem kept_twice (l : List El) (keep : List Int) : keptR (keptR l keep) keep = keptR l keep := by
  unfold keptR
  rw [List.filter_filter]
  congr 1
  funext e
  cases isKept keep e <;> rfl
set_option maxRecDepth 100000 in
theorem kept_more {l : List El} {keep : List Int} (t : Int) : ∀ e ∈ keptR l keep, e ∈ keptR l (keep ++ [t]) := fun e he => by
  unfold keptR at he ⊢
  rw [List.mem_filter] at he ⊢
  refine ⟨he.1, ?_⟩
  have h2 := he.2
  unfold isKept at h2 ⊢
  rw [List.any_append, ← Bool.or_assoc, h2]; rfl
set_option maxRecDepth 100000 in
theorem kept_none (e : El) (l : List El) : e ∈ keptR l [] ↔ e ∈ l ∧ e.g = 0 := by
  unfold keptR
  rw [List.mem_filter]
  unfold isKept
  simp
set_option maxRecDepth 100000 in
theorem kept_all {l : List El} (hG : Good l) {keep : List Int} (h : ∀ e ∈ l, e.m ∈ keep) : keptR l keep = l := by
  unfold keptR
  refine List.filter_eq_self.2 fun e he => kept_of (h e he) ?_
  have h1 := err_time (hG.2.1 e he)
  unfold timeOk at h1
  unfold El.live liveP
  omega
set_option maxRecDepth 100000 in
theorem kept_zero {l : List El} (hG : Good l) (keep : List Int) : runErr (keptR l keep) = 0 := runErr_zero.2 (kept_good hG keep)
set_option maxRecDepth 100000 in
/-- What is kept reads as all did. -/
theorem kept_reads {l : List El} (hG : Good l) {keep : List Int} {t : Int} (ht : t ∈ keep ∨ t = 2147483647) (k lo hi : Int × Int × Int) :
    atErr (keptR l keep) k t = atErr l k t ∧ atVal (keptR l keep) k t = atVal l k t ∧ rgErr (keptR l keep) lo hi = rgErr l lo hi ∧ rangeR (keptR l keep) lo hi t = rangeR l lo hi t := by
  have h : ∀ e ∈ l, e.live t → isKept keep e = true := fun e he hl => by
    rcases ht with ht | ht
    · exact kept_of ht hl
    · subst ht; exact kept_now (hG.2.1 e he) hl
  have h0 := runErr_zero.2 hG
  have h1 := kept_zero hG keep
  unfold atErr atVal askErr1 rgErr
  rw [h0, h1, kept_at h, kept_range h]
  exact ⟨rfl, rfl, rfl, rfl⟩
set_option maxRecDepth 100000 in
theorem kept_len (l : List El) (keep : List Int) : (keptR l keep).length ≤ l.length := List.length_filter_le _ _
end Go.Proofs.Ytccfcloekjogkaa
