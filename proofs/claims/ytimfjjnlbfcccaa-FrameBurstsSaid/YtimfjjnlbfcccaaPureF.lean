/- The bytes of a frame, plainly. No function of the program. -/
import Derived.Test.YtimfjjnlbfcccaaPureC
import Derived.Test.YtimfjjnlbfcccaaPureS
namespace Go.Proofs.Ytimfjjnlbfcccaa

def frErr (k : Int) (n : Nat) : Int := if k < 1 ∨ 255 < k then 1 else if 3000 < n then 2 else 0
/-- What the checksum of a frame is taken of. -/
def frHead (k : Nat) (b : List UInt8) : List UInt8 := be 1 k ++ (be 2 b.length ++ b)
def encF (k : Nat) (b : List UInt8) : List UInt8 := frHead k b ++ be 2 (crc (frHead k b)).toNat
def unKind (l : List UInt8) : Nat := num (part l 0 1)
def unSize (l : List UInt8) : Nat := num (part l 1 2)
def unBody (l : List UInt8) : List UInt8 := part l 3 (unSize l)
def unErr (l : List UInt8) : Int :=
  if l.length < 5 then 7 else if unKind l = 0 ∨ 3000 < unSize l then 3 else if l.length < 5 + unSize l then 7
  else if (crc (l.take (3 + unSize l))).toNat ≠ num (part l (3 + unSize l) 2) then 6 else 0

theorem frHead_length (k : Nat) (b : List UInt8) : (frHead k b).length = 3 + b.length := by
  simp only [frHead, List.length_append, be_length]; omega
theorem encF_length (k : Nat) (b : List UInt8) : (encF k b).length = 5 + b.length := by
  simp only [encF, List.length_append, be_length, frHead_length]; omega
theorem frErr_zero {k : Int} {n : Nat} (h : frErr k n = 0) : 1 ≤ k ∧ k ≤ 255 ∧ n ≤ 3000 := by
  unfold frErr at h
  split at h
  · cases h
  · split at h
    · cases h
    · omega

section
variable {k : Nat} {b : List UInt8} (hk : k < 256) (hb : b.length ≤ 3000)
include hk hb
theorem un_head (r : List UInt8) : unKind (frHead k b ++ r) = k ∧ unSize (frHead k b ++ r) = b.length ∧ unBody (frHead k b ++ r) = b := by
  have E : frHead k b ++ r = be 1 k ++ (be 2 b.length ++ (b ++ r)) := by simp [frHead]
  have s1 := fun (c : List UInt8) (i j : Nat) => part_skip (b := c) (be_length 1 k) i j
  have s2 := fun (c : List UInt8) (i j : Nat) => part_skip (b := c) (be_length 2 b.length) i j
  have h2 : unSize (frHead k b ++ r) = b.length := by
    rw [unSize, E, show 1 = 1 + 0 from rfl, s1, part_here (be_length _ _), num_be _ _ (by omega)]
  refine ⟨?_, h2, ?_⟩
  · rw [unKind, E, part_here (be_length _ _), num_be _ _ (by omega)]
  · rw [unBody, h2, E, show 3 = 1 + (2 + 0) from rfl, s1, s2, part_here rfl]
theorem un_enc (h0 : 0 < k) (r : List UInt8) : unErr (encF k b ++ r) = 0 ∧ unKind (encF k b ++ r) = k ∧ unSize (encF k b ++ r) = b.length ∧ unBody (encF k b ++ r) = b := by
  have E : encF k b ++ r = frHead k b ++ (be 2 (crc (frHead k b)).toNat ++ r) := by simp [encF]
  have hl := encF_length k b
  obtain ⟨h1, h2, h3⟩ := un_head hk hb (be 2 (crc (frHead k b)).toNat ++ r)
  rw [← E] at h1 h2 h3
  refine ⟨?_, h1, h2, h3⟩
  have hc := (crc (frHead k b)).isLt
  have e1 : (encF k b ++ r).take (3 + b.length) = frHead k b := by rw [E, List.take_left' (frHead_length k b)]
  have e2 : part (encF k b ++ r) (3 + b.length) 2 = be 2 (crc (frHead k b)).toNat := by
    rw [E, show 3 + b.length = 3 + b.length + 0 from rfl, part_skip (frHead_length k b), part_here (be_length _ _)]
  unfold unErr
  rw [if_neg (by rw [List.length_append]; omega), h1, h2, if_neg (by omega), if_neg (by rw [List.length_append]; omega), e1, e2, num_be _ _ (by omega), if_neg (by simp)]
theorem un_short (h0 : 0 < k) {j : Nat} (hj : j < (encF k b).length) : unErr ((encF k b).take j) = 7 := by
  have hl := encF_length k b
  have hlt : ((encF k b).take j).length = j := by simp; omega
  unfold unErr
  by_cases h5 : j < 5
  · rw [if_pos (by omega)]
  have h3 : ((encF k b).take j) = frHead k b ++ ((encF k b).take j).drop (3 + b.length) ∨ j < 3 + b.length := by
    by_cases h : j < 3 + b.length
    · exact Or.inr h
    · left
      have := (List.take_append_drop (3 + b.length) ((encF k b).take j)).symm
      rw [List.take_take, Nat.min_eq_left (by omega)] at this
      have e1 : (encF k b).take (3 + b.length) = frHead k b := by rw [encF, List.take_left' (frHead_length k b)]
      rw [e1] at this
      exact this
  have hp : ∀ i m, i + m ≤ j → part ((encF k b).take j) i m = part (encF k b) i m := fun i m him => by
    unfold part
    rw [List.drop_take, List.take_take, Nat.min_eq_left (by omega)]
  obtain ⟨h1, h2, h4⟩ := un_enc hk hb h0 []
  rw [List.append_nil] at h1 h2 h4
  have hk1 : unKind ((encF k b).take j) = k := by rw [unKind, hp _ _ (by omega)]; exact h2
  have hk2 : unSize ((encF k b).take j) = b.length := by rw [unSize, hp _ _ (by omega)]; exact h4.1
  rw [if_neg (by omega), hk1, hk2, if_neg (by omega), if_pos (by omega)]
end

theorem unErr_or (l : List UInt8) : unErr l = 0 ∨ unErr l = 3 ∨ unErr l = 6 ∨ unErr l = 7 := by
  unfold unErr
  split
  · simp
  split
  · simp
  split
  · simp
  split <;> simp
theorem unErr_zero {l : List UInt8} (h : unErr l = 0) : 5 + unSize l ≤ l.length ∧ 0 < unKind l ∧ unKind l < 256 ∧ unSize l ≤ 3000 ∧ (crc (l.take (3 + unSize l))).toNat = num (part l (3 + unSize l) 2) := by
  unfold unErr at h
  split at h
  · cases h
  split at h
  · cases h
  split at h
  · cases h
  split at h
  · cases h
  · have := num_lt 1 (part l 0 1) (part_length (by omega))
    unfold unKind at *
    exact ⟨by omega, by omega, by omega, by omega, by simp_all⟩
theorem unBody_length {l : List UInt8} (h : 5 + unSize l ≤ l.length) : (unBody l).length = unSize l := part_length (by omega)
theorem part_join (l : List UInt8) (i j m : Nat) : part l i j ++ part l (i + j) m = part l i (j + m) := by
  unfold part
  rw [← List.drop_drop, List.take_add]
theorem part_take (l : List UInt8) (m : Nat) : part l 0 m = l.take m := by simp [part]
/-- What was decoded is encoded so again. -/
theorem enc_un {l : List UInt8} (h : unErr l = 0) : encF (unKind l) (unBody l) = l.take (5 + unSize l) := by
  obtain ⟨h1, h2, h3, h4, h5⟩ := unErr_zero h
  have hl := unBody_length h1
  have n1 : ∀ i k, i + k ≤ l.length → be k (num (part l i k)) = part l i k := fun i k hk => be_num k _ (part_length hk)
  have hH : frHead (unKind l) (unBody l) = l.take (3 + unSize l) := by
    have e1 := n1 0 1 (by omega)
    have e2 := n1 1 2 (by omega)
    unfold frHead
    rw [hl]
    unfold unKind unBody
    have j1 := part_join l 1 2 (unSize l)
    have j2 := part_join l 0 1 (2 + unSize l)
    simp only [Nat.zero_add] at j1 j2
    rw [show be 2 (unSize l) = part l 1 2 from e2, e1, j1, j2, part_take]
    congr 1; omega
  unfold encF
  have j3 := part_join l 0 (3 + unSize l) 2
  simp only [Nat.zero_add] at j3
  rw [part_take, part_take] at j3
  rw [hH, h5, n1 _ _ (by omega), j3]
  congr 1; omega

/-! ### Bursts -/
theorem flips_take (l : List UInt8) (n x t i : Nat) : (flips l (8 * n + x) t i).take n = l.take n := by
  induction i with
  | zero => rfl
  | succ i ih =>
    rw [flips]
    split
    · rw [List.take_set_of_le (by omega), ih]
    · exact ih
theorem num_two (a b : UInt8) : num [a, b] = 256 * a.toNat + b.toNat := by simp [num]
theorem part_two {l : List UInt8} {i : Nat} (h : i + 2 = l.length) : ∃ a b, part l i 2 = [a, b] ∧ l = l.take i ++ [a, b] := by
  have h2 : (part l i 2).length = 2 := part_length (by omega)
  match hp : part l i 2, h2 with
  | [a, b], _ =>
    refine ⟨a, b, rfl, ?_⟩
    have : part l i 2 = l.drop i := by unfold part; rw [List.take_of_length_le (by simp; omega)]
    rw [← hp, this, List.take_append_drop]
/-- A whole frame whose checksum is right has the checksum 0. -/
theorem crc_whole {l : List UInt8} {n : Nat} (hl : n + 2 = l.length) (h : (crc (l.take n)).toNat = num (part l n 2)) : crc l = 0#16 := by
  obtain ⟨a, b, hp, hE⟩ := part_two hl
  rw [hp, num_two] at h
  have ha := a.toNat_lt
  have hb := b.toNat_lt
  rw [hE]
  exact crc_nought _ a b (by omega) (by omega)
theorem un_flips {k : Nat} {b : List UInt8} (hk : k < 256) (hb : b.length ≤ 3000) (h0 : 0 < k) (x t : Nat) (ht : 0 < t) (h16 : t < 65536) (hx : x + 16 ≤ 8 * (2 + b.length)) : unErr (flips (encF k b) (24 + x) t 16) = 6 := by
  have hl := encF_length k b
  have hL : (flips (encF k b) (24 + x) t 16).length = 5 + b.length := by rw [flips_length, hl]
  have hT : (flips (encF k b) (24 + x) t 16).take 3 = (encF k b).take 3 := flips_take _ 3 x t 16
  have hB := crc_burst (encF k b) (24 + x) t ht h16 (by omega)
  have hp : ∀ (l : List UInt8) i m, i + m ≤ 3 → part l i m = part (l.take 3) i m := fun l i m him => by
    unfold part
    rw [List.drop_take, List.take_take, Nat.min_eq_left (by omega)]
  obtain ⟨h1, h2, h4, _⟩ := un_enc hk hb h0 []
  rw [List.append_nil] at h1 h2 h4
  obtain ⟨_, _, _, _, h5⟩ := unErr_zero h1
  generalize hF : flips (encF k b) (24 + x) t 16 = F at *
  have hk1 : unKind F = k := by rw [unKind, hp _ _ _ (by omega), hT, ← hp _ _ _ (by omega)]; exact h2
  have hk2 : unSize F = b.length := by rw [unSize, hp _ _ _ (by omega), hT, ← hp _ _ _ (by omega)]; exact h4
  rw [h4] at h5
  have hC := crc_whole (n := 3 + b.length) (by omega) h5
  unfold unErr
  rw [if_neg (by omega), hk1, hk2, if_neg (by omega), if_neg (by omega), if_pos]
  intro h6
  exact hB ((crc_whole (n := 3 + b.length) (by omega) h6).trans hC.symm)
theorem be2 (n : Nat) (h : n < 65536) : be 2 n = [UInt8.ofNat (n / 256), UInt8.ofNat (n % 256)] := by
  show [UInt8.ofNat (n / 256 % 256), UInt8.ofNat (n % 256)] = _
  rw [Nat.mod_eq_of_lt (show n / 256 < 256 by omega)]
/-- A frame's Kind is its first byte. -/
theorem encF_head (k : Nat) (b : List UInt8) : (encF k b).take 3 = be 1 k ++ be 2 b.length := by
  unfold encF frHead
  rw [← List.append_assoc, List.append_assoc, List.take_left' (by simp [be_length])]
end Go.Proofs.Ytimfjjnlbfcccaa
