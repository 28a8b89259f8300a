/- The run of 400 records: what RunFull asks of it. -/
import Derived.Test.YtjjibnkooloagaaPure6
namespace Go.Proofs.Ytjjibnkooloagaa

def rec1 (i : Nat) : El := ⟨0, 0, i, 1, 0, { data := #[] }⟩
def fullN (n : Nat) : List El := (List.range n).map rec1
theorem fullN_length (n : Nat) : (fullN n).length = n := by simp [fullN]
theorem fullN_snoc (n : Nat) : fullN (n + 1) = fullN n ++ [rec1 n] := by simp [fullN, List.range_succ]
theorem fullN_mem {n : Nat} {e : El} : e ∈ fullN n ↔ ∃ i, i < n ∧ e = rec1 i := by
  unfold fullN; rw [List.mem_map]
  constructor
  · rintro ⟨i, h, rfl⟩; exact ⟨i, List.mem_range.1 h, rfl⟩
  · rintro ⟨i, h, rfl⟩; exact ⟨i, List.mem_range.2 h, rfl⟩
theorem fullN_get {n i : Nat} (h : i < n) : (fullN n)[i]? = some (rec1 i) := by
  unfold fullN; rw [List.getElem?_map, List.getElem?_range h]; rfl
theorem rec1_err (i : Nat) (h : i < 2000) : (rec1 i).err = 0 := by
  unfold El.err; rw [elemErr_zero]
  refine ⟨?_, ⟨?_, ?_, .inl rfl⟩, ?_⟩
  · show keyErr 0 0 (i : Int) = 0
    unfold keyErr
    repeat (first | rw [if_pos (by omega)] | rw [if_neg (by omega)])
  · show (1 : Int) ≤ 1; omega
  · show (1 : Int) ≤ 2147483647; omega
  · show ((0 : Nat) : Int) ≤ 40; decide
theorem fullN_good {n : Nat} (h : n ≤ 400) : Good (fullN n) := by
  refine ⟨by rw [fullN_length]; exact h, fun e he => ?_, ?_⟩
  · obtain ⟨i, hi, rfl⟩ := fullN_mem.1 he
    exact rec1_err i (by omega)
  · unfold fullN
    rw [List.pairwise_map]
    refine List.pairwise_lt_range.imp fun {a b} h => ⟨.inl ?_, fun h2 => ?_⟩
    · show kLt (0, 0, (a : Int)) (0, 0, (b : Int))
      exact .inr ⟨rfl, .inr ⟨rfl, show (a : Int) < (b : Int) from by omega⟩⟩
    · have h3 : ((0, 0, (a : Int)) : Int × Int × Int) = (0, 0, (b : Int)) := h2
      injection h3 with _ h3; injection h3 with _ h3; omega
theorem fullN_latest (n : Nat) : latest (fullN n) ≤ 1 := latest_le (by omega) fun e he => by
  obtain ⟨i, hi, rfl⟩ := fullN_mem.1 he
  show lastOf 1 0 ≤ 1
  unfold lastOf; omega
theorem fullN_wr {n : Nat} (h : n ≤ 400) {i : Nat} (hi : i < 2000) {s : ByteArray} {t : Int} (h1 : 1 ≤ t) (h2 : t ≤ 9) (hs : (s.size : Int) ≤ 40) : wrErr (fullN n) (fresh (0, 0, (i : Int)) s t) = 0 := by
  have hk := (elemErr_zero.1 (rec1_err i hi)).1
  refine wrErr_zero.2 ⟨fullN_good h, ?_, Int.le_trans (fullN_latest n) h1⟩
  unfold El.err; rw [elemErr_zero]
  exact ⟨hk, ⟨h1, by show t ≤ 2147483647; omega, .inl rfl⟩, hs⟩

theorem full_any {n i : Nat} (hi : i < n) : (fullN n).any (isOpen (0, 0, (i : Int))) = true :=
  List.any_eq_true.2 ⟨rec1 i, fullN_mem.2 ⟨i, hi, rfl⟩, by unfold isOpen; rw [decide_eq_true_eq]; exact ⟨rfl, rfl⟩⟩
theorem full_same {n i : Nat} (hi : i < n) : (fullN n).any (isSame (0, 0, (i : Int)) 1) = true :=
  List.any_eq_true.2 ⟨rec1 i, fullN_mem.2 ⟨i, hi, rfl⟩, by unfold isSame; rw [decide_eq_true_eq]; exact ⟨rfl, rfl, rfl⟩⟩
theorem full_key {n i j : Nat} (hi : i < n) (hj : n ≤ j) : (rec1 i).key ≠ (0, 0, (j : Int)) := fun h => by
  have h3 : ((0, 0, (i : Int)) : Int × Int × Int) = (0, 0, (j : Int)) := h
  injection h3 with _ h3; injection h3 with _ h3; omega
theorem full_put_new {t : Int} (h1 : 1 ≤ t) (h2 : t ≤ 9) : putErr (fullN 400) (0, 0, 1000) { data := #[] } t = 8 := by
  have hw := fullN_wr (n := 400) (by omega) (i := 1000) (by omega) (s := { data := #[] }) h1 h2 (by show ((0 : Nat) : Int) ≤ 40; decide)
  unfold putErr
  rw [if_pos (show wrErr (fullN 400) (fresh (0, 0, 1000) { data := #[] } t) = 0 from hw), if_neg, if_pos (by rw [fullN_length]; omega)]
  rw [List.any_eq_true]
  rintro ⟨e, he, h⟩
  obtain ⟨i, hi, rfl⟩ := fullN_mem.1 he
  unfold isSame at h; rw [decide_eq_true_eq] at h
  exact full_key (j := 1000) hi (by omega) h.1
theorem full_put_at {i : Nat} (hi : i < 400) (s : ByteArray) : putErr (fullN 400) (0, 0, (i : Int)) s 1 = if (s.size : Int) ≤ 40 then 0 else 2 := by
  by_cases hs : (s.size : Int) ≤ 40
  · rw [if_pos hs]
    unfold putErr
    rw [if_pos (fullN_wr (by omega) (by omega) (by omega) (by omega) hs), if_pos (full_same hi)]
  · rw [if_neg hs]
    have hk := (elemErr_zero.1 (rec1_err i (by omega))).1
    have h1 : wrErr (fullN 400) (fresh (0, 0, (i : Int)) s 1) = 2 := by
      have h2 : (fresh (0, 0, (i : Int)) s 1).err = 2 := by
        unfold El.err elemErr
        rw [if_pos (show keyErr (fresh (0, 0, (i : Int)) s 1).p (fresh (0, 0, (i : Int)) s 1).o (fresh (0, 0, (i : Int)) s 1).f = 0 from hk), if_pos (show timeOk (fresh (0, 0, (i : Int)) s 1).m (fresh (0, 0, (i : Int)) s 1).g from ⟨show (1 : Int) ≤ 1 by omega, show (1 : Int) ≤ 2147483647 by omega, .inl rfl⟩), if_neg (show ¬ ((fresh (0, 0, (i : Int)) s 1).s.size : Int) ≤ 40 from hs)]
      unfold wrErr
      rw [if_pos (runErr_zero.2 (fullN_good (by omega))), if_neg (by omega), h2]
    unfold putErr
    rw [h1, if_neg (by omega)]
theorem full_putR {i : Nat} (hi : i < 400) (s : ByteArray) : (putR (fullN 400) (0, 0, (i : Int)) s 1).length = 400 ∧ (putR (fullN 400) (0, 0, (i : Int)) s 1)[i]? = some { rec1 i with s := s } := by
  have h := put_length (fullN 400) (0, 0, (i : Int)) s 1
  rw [full_same hi, if_pos rfl, fullN_length] at h
  refine ⟨h, ?_⟩
  unfold putR
  rw [if_pos (full_same hi), List.getElem?_map, fullN_get hi]
  show some (upd (0, 0, (i : Int)) s 1 (rec1 i)) = _
  unfold upd
  rw [if_pos ⟨rfl, rfl⟩, if_pos (show (rec1 i).m = 1 from rfl)]
theorem full_cut {i : Nat} (hi : i < 400) {t : Int} (h1 : 1 ≤ t) (h2 : t ≤ 9) : cutErr (fullN 400) (0, 0, (i : Int)) t = 0 := by
  unfold cutErr
  rw [if_pos (fullN_wr (by omega) (by omega) h1 h2 (by show ((0 : Nat) : Int) ≤ 40; decide)), if_pos (full_any hi)]
/-- What is cut at the time of its making makes room, what is cut later doesn't. -/
theorem full_cut_put {N i : Nat} (hN : N = 400) (hi : i < N) {t : Int} (h1 : 1 ≤ t) (h2 : t ≤ 9) : putErr (cutR (fullN N) (0, 0, (i : Int)) t) (0, 0, 1000) { data := #[] } t = if t = 1 then 0 else 8 := by
  have hw := fullN_wr (n := N) (by omega) (i := i) (by omega) (s := { data := #[] }) h1 h2 (by show ((0 : Nat) : Int) ≤ 40; decide)
  have hw' := fullN_wr (n := N) (by omega) (i := 1000) (by omega) (s := { data := #[] }) h1 h2 (by show ((0 : Nat) : Int) ≤ 40; decide)
  have hl := latest_cut hw
  have hG := cut_good hw
  have w1 : wrErr (cutR (fullN N) (0, 0, (i : Int)) t) (fresh (0, 0, 1000) { data := #[] } t) = 0 := wrErr_zero.2 ⟨hG, (wrErr_zero.1 hw').2.1, hl⟩
  have hn : ¬ (cutR (fullN N) (0, 0, (i : Int)) t).any (isSame (0, 0, 1000) t) = true := by
    rw [List.any_eq_true]
    rintro ⟨e, he, h⟩
    unfold isSame at h; rw [decide_eq_true_eq] at h
    obtain ⟨x, hx, h3⟩ := List.mem_filterMap.1 he
    obtain ⟨j, hj, rfl⟩ := fullN_mem.1 hx
    have h4 : e.key = (rec1 j).key := by
      unfold cutStep at h3
      split at h3
      · split at h3
        · cases h3
        · injection h3 with h3; subst h3; rfl
      · injection h3 with h3; subst h3; rfl
    exact full_key (j := 1000) hj (by omega) (h4.symm.trans h.1)
  have hi' : i < (fullN N).length := by rw [fullN_length]; exact hi
  have hgi : (fullN N)[i] = rec1 i := by
    have h := fullN_get hi; rw [List.getElem?_eq_getElem hi'] at h; injection h
  have hoi : isOpen (0, 0, (i : Int)) (fullN N)[i] = true := by rw [hgi]; unfold isOpen; rw [decide_eq_true_eq]; exact ⟨rfl, rfl⟩
  have hc := cut_at (t := t) hi' hoi fun j hj hne => by
    cases h : isOpen (0, 0, (i : Int)) (fullN N)[j]
    · rfl
    · exact absurd (open_uniq (fullN_good (by omega)) hj hi' h hoi) hne
  have hm : (fullN N)[i].m = 1 := by rw [hgi]; rfl
  have hlen : (cutR (fullN N) (0, 0, (i : Int)) t).length = if t = 1 then 399 else 400 := by
    rw [hc, hm]
    by_cases ht : t = 1
    · rw [if_pos ht.symm, if_pos ht]
      unfold delAt
      rw [List.length_append, List.length_take, List.length_drop, fullN_length]; omega
    · rw [if_neg (fun h => ht h.symm), if_neg ht, List.length_set, fullN_length]; exact hN
  unfold putErr
  rw [if_pos w1, if_neg hn, hlen]
  by_cases ht : t = 1
  · rw [if_pos ht, if_pos ht, if_neg (by omega)]
  · rw [if_neg ht, if_neg ht, if_pos (by omega)]
end Go.Proofs.Ytjjibnkooloagaa
