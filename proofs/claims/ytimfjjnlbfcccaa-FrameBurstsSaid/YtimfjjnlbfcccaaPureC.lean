/- The bytes of a record, plainly. No function of the program. -/
import Derived.Test.YtimfjjnlbfcccaaPure
namespace Go.Proofs.Ytimfjjnlbfcccaa

/-- A number in k bytes, the highest first. -/
def be : Nat → Nat → List UInt8
  | 0, _ => []
  | k + 1, n => be k (n / 256) ++ [UInt8.ofNat (n % 256)]
def num (l : List UInt8) : Nat := l.foldl (fun n b => 256 * n + b.toNat) 0
theorem be_length (k n : Nat) : (be k n).length = k := by
  induction k generalizing n with
  | zero => rfl
  | succ k ih => rw [be, List.length_append, ih]; rfl
theorem num_snoc (l : List UInt8) (b : UInt8) : num (l ++ [b]) = 256 * num l + b.toNat := by simp [num]
theorem snoc_of {l : List UInt8} {k : Nat} (h : l.length = k + 1) : ∃ r b, l = r ++ [b] ∧ r.length = k := by
  have hne : l ≠ [] := by intro h2; subst h2; simp at h
  exact ⟨l.dropLast, l.getLast hne, (List.dropLast_concat_getLast hne).symm, by rw [List.length_dropLast, h]; rfl⟩
theorem num_lt : ∀ (k : Nat) (l : List UInt8), l.length = k → num l < 256 ^ k
  | 0, l, h => by have := List.eq_nil_of_length_eq_zero h; subst this; decide
  | k + 1, l, h => by
    obtain ⟨r, b, rfl, hr⟩ := snoc_of h
    have := num_lt k r hr
    have hb := b.toNat_lt
    rw [num_snoc, Nat.pow_succ]
    omega
theorem num_be : ∀ (k n : Nat), n < 256 ^ k → num (be k n) = n
  | 0, n, h => by simp at h; subst h; rfl
  | k + 1, n, h => by
    have hb : (UInt8.ofNat (n % 256)).toNat = n % 256 := by rw [UInt8.toNat_ofNat']; omega
    rw [be, num_snoc, num_be k (n / 256) (by rw [Nat.pow_succ] at h; omega), hb]
    omega
theorem be_num : ∀ (k : Nat) (l : List UInt8), l.length = k → be k (num l) = l
  | 0, l, h => by have := List.eq_nil_of_length_eq_zero h; subst this; rfl
  | k + 1, l, h => by
    obtain ⟨r, b, rfl, hr⟩ := snoc_of h
    have hb := b.toNat_lt
    rw [num_snoc, be, show (256 * num r + b.toNat) / 256 = num r from by omega, be_num k r hr, show (256 * num r + b.toNat) % 256 = b.toNat from by omega]
    simp

/-! ### One record -/
def enc (e : El) : List UInt8 := be 1 e.p.toNat ++ (be 4 e.o.toNat ++ (be 4 e.f.toNat ++ (be 4 e.m.toNat ++ (be 4 e.g.toNat ++ (be 1 e.s.size ++ e.s.data.toList)))))
def part (l : List UInt8) (i k : Nat) : List UInt8 := (l.drop i).take k
def lenB (l : List UInt8) : Nat := num (part l 17 1)
def decEl (l : List UInt8) : El := ⟨num (part l 0 1), num (part l 1 4), num (part l 5 4), num (part l 9 4), num (part l 13 4), ⟨(part l 18 (lenB l)).toArray⟩⟩
def decErr (l : List UInt8) : Int := if l.length < 18 ∨ l.length < 18 + lenB l then 7 else if (decEl l).err = 0 then 0 else 3
def decLen (l : List UInt8) : Nat := 18 + lenB l

theorem part_skip {a b : List UInt8} {n : Nat} (h : a.length = n) (i k : Nat) : part (a ++ b) (n + i) k = part b i k := by
  subst h; unfold part; rw [List.drop_append, List.drop_eq_nil_of_le (by omega), List.nil_append, Nat.add_sub_cancel_left]
theorem part_here {a b : List UInt8} {k : Nat} (h : a.length = k) : part (a ++ b) 0 k = a := by
  subst h; simp [part]
theorem part_length {l : List UInt8} {i k : Nat} (h : i + k ≤ l.length) : (part l i k).length = k := by simp [part]; omega
theorem bytes_len (s : ByteArray) : s.data.toList.length = s.size := by simp
theorem enc_length (e : El) : (enc e).length = 18 + e.s.size := by
  simp only [enc, List.length_append, be_length, bytes_len]; omega
theorem err_zero {e : El} (h : e.err = 0) : 0 ≤ e.p ∧ e.p ≤ 15 ∧ 0 ≤ e.o ∧ e.o ≤ 1048576 ∧ 0 ≤ e.f ∧ e.f ≤ 1073741824 ∧ 1 ≤ e.m ∧ e.m ≤ 2147483647 ∧ 0 ≤ e.g ∧ e.g ≤ 2147483647 ∧ e.s.size ≤ 40 := by
  obtain ⟨h1, h2, h3⟩ := elemErr_zero.1 h
  have hk : 0 ≤ e.p ∧ e.p ≤ 15 ∧ 0 ≤ e.o ∧ e.o ≤ 1048576 ∧ 0 ≤ e.f ∧ e.f ≤ 1073741824 := by
    unfold keyErr at h1; split at h1
    · assumption
    · cases h1
  unfold timeOk at h2
  omega

section
variable {e : El} (he : e.err = 0) (r : List UInt8)
include he
theorem parts_enc : num (part (enc e ++ r) 0 1) = e.p.toNat ∧ num (part (enc e ++ r) 1 4) = e.o.toNat ∧ num (part (enc e ++ r) 5 4) = e.f.toNat ∧ num (part (enc e ++ r) 9 4) = e.m.toNat ∧ num (part (enc e ++ r) 13 4) = e.g.toNat ∧ lenB (enc e ++ r) = e.s.size ∧ part (enc e ++ r) 18 e.s.size = e.s.data.toList := by
  obtain ⟨h1, h2, h3, h4, h5, h6, h7, h8, h9, h10, h11⟩ := err_zero he
  have E : enc e ++ r = be 1 e.p.toNat ++ (be 4 e.o.toNat ++ (be 4 e.f.toNat ++ (be 4 e.m.toNat ++ (be 4 e.g.toNat ++ (be 1 e.s.size ++ (e.s.data.toList ++ r)))))) := by simp [enc]
  have s1 := fun (b : List UInt8) (i k : Nat) => part_skip (b := b) (be_length 1 e.p.toNat) i k
  have s2 := fun (b : List UInt8) (i k : Nat) => part_skip (b := b) (be_length 4 e.o.toNat) i k
  have s3 := fun (b : List UInt8) (i k : Nat) => part_skip (b := b) (be_length 4 e.f.toNat) i k
  have s4 := fun (b : List UInt8) (i k : Nat) => part_skip (b := b) (be_length 4 e.m.toNat) i k
  have s5 := fun (b : List UInt8) (i k : Nat) => part_skip (b := b) (be_length 4 e.g.toNat) i k
  have s6 := fun (b : List UInt8) (i k : Nat) => part_skip (b := b) (be_length 1 e.s.size) i k
  refine ⟨?_, ?_, ?_, ?_, ?_, ?_, ?_⟩
  · rw [E, part_here (be_length _ _), num_be _ _ (by omega)]
  · rw [E, show 1 = 1 + 0 from rfl, s1, part_here (be_length _ _), num_be _ _ (by omega)]
  · rw [E, show 5 = 1 + (4 + 0) from rfl, s1, s2, part_here (be_length _ _), num_be _ _ (by omega)]
  · rw [E, show 9 = 1 + (4 + (4 + 0)) from rfl, s1, s2, s3, part_here (be_length _ _), num_be _ _ (by omega)]
  · rw [E, show 13 = 1 + (4 + (4 + (4 + 0))) from rfl, s1, s2, s3, s4, part_here (be_length _ _), num_be _ _ (by omega)]
  · rw [lenB, E, show 17 = 1 + (4 + (4 + (4 + (4 + 0)))) from rfl, s1, s2, s3, s4, s5, part_here (be_length _ _), num_be _ _ (by omega)]
  · rw [E, show 18 = 1 + (4 + (4 + (4 + (4 + (1 + 0))))) from rfl, s1, s2, s3, s4, s5, s6, part_here (bytes_len _)]
theorem decEl_enc : decEl (enc e ++ r) = e := by
  obtain ⟨h1, h2, h3, h4, h5, h6, h7, h8, h9, h10, h11⟩ := err_zero he
  obtain ⟨p1, p2, p3, p4, p5, p6, p7⟩ := parts_enc he r
  unfold decEl
  rw [p1, p2, p3, p4, p5, p6, p7]
  apply El.ext_iff'.2
  refine ⟨?_, ?_, ?_, ?_, ?_, ?_⟩ <;> simp only <;> omega
theorem dec_enc : decErr (enc e ++ r) = 0 ∧ decEl (enc e ++ r) = e ∧ decLen (enc e ++ r) = (enc e).length := by
  have p6 := (parts_enc he r).2.2.2.2.2.1
  have hE := decEl_enc he r
  have hl := enc_length e
  refine ⟨?_, hE, ?_⟩
  · unfold decErr
    rw [if_neg (by rw [p6, List.length_append, hl]; omega), hE, if_pos he]
  · unfold decLen; rw [p6, hl]
theorem dec_short {k : Nat} (hk : k < (enc e).length) : decErr ((enc e).take k) = 7 := by
  have hl := enc_length e
  have hlt : ((enc e).take k).length = k := by simp; omega
  unfold decErr
  rw [if_pos]
  by_cases h18 : k < 18
  · left; omega
  · right
    have p6 := (parts_enc he []).2.2.2.2.2.1
    rw [List.append_nil] at p6
    have : lenB ((enc e).take k) = lenB (enc e) := by
      unfold lenB part
      congr 1
      rw [List.drop_take, List.take_take]
      congr 1
      omega
    rw [this, p6, hlt]; omega
end
theorem decErr_or (l : List UInt8) : decErr l = 0 ∨ decErr l = 3 ∨ decErr l = 7 := by
  unfold decErr; split
  · simp
  · split <;> simp
theorem decErr_zero {l : List UInt8} (h : decErr l = 0) : 18 ≤ l.length ∧ decLen l ≤ l.length ∧ (decEl l).err = 0 := by
  unfold decErr at h
  split at h
  · cases h
  · split at h
    · unfold decLen; exact ⟨by omega, by omega, by assumption⟩
    · cases h
theorem enc_dec {l : List UInt8} (h : decErr l = 0) : enc (decEl l) = l.take (decLen l) := by
  obtain ⟨h1, h2, h3⟩ := decErr_zero h
  unfold decLen at *
  have hs : (decEl l).s.size = lenB l := by
    show (part l 18 (lenB l)).toArray.size = _
    rw [List.size_toArray, part_length (by omega)]
  have n1 : ∀ i k, i + k ≤ l.length → be k (num (part l i k)) = part l i k := fun i k hk => be_num k _ (part_length hk)
  unfold enc
  rw [hs]
  show be 1 ((num (part l 0 1) : Int)).toNat ++ (be 4 ((num (part l 1 4) : Int)).toNat ++ (be 4 ((num (part l 5 4) : Int)).toNat ++ (be 4 ((num (part l 9 4) : Int)).toNat ++ (be 4 ((num (part l 13 4) : Int)).toNat ++ (be 1 (lenB l) ++ (part l 18 (lenB l)).toArray.toList))))) = _
  simp only [Int.toNat_natCast]
  rw [n1 0 1 (by omega), n1 1 4 (by omega), n1 5 4 (by omega), n1 9 4 (by omega), n1 13 4 (by omega), show be 1 (lenB l) = part l 17 1 from n1 17 1 (by omega)]
  show part l 0 1 ++ (part l 1 4 ++ (part l 5 4 ++ (part l 9 4 ++ (part l 13 4 ++ (part l 17 1 ++ part l 18 (lenB l)))))) = _
  have j : ∀ i a b, part l i a ++ part l (i + a) b = part l i (a + b) := fun i a b => by
    unfold part; rw [List.take_add, List.drop_drop]
  rw [j 17 1 (lenB l), j 13 4, j 9 4, j 5 4, j 1 4, j 0 1]
  unfold part
  rw [List.drop_zero]
  congr 1; omega

/-! ### Many records -/
def decs : Nat → List UInt8 → Int × List El
  | 0, _ => (0, [])
  | n + 1, l => if l = [] then (0, []) else if decErr l = 0 then ((decs n (l.drop (decLen l))).1, decEl l :: (decs n (l.drop (decLen l))).2) else (decErr l, [])
theorem decs_more : ∀ (n m : Nat) (l : List UInt8), l.length ≤ n → l.length ≤ m → decs n l = decs m l
  | 0, 0, l, _, _ => rfl
  | 0, m + 1, l, h, _ => by have := List.eq_nil_of_length_eq_zero (Nat.le_zero.1 h); subst this; simp [decs]
  | n + 1, 0, l, _, h => by have := List.eq_nil_of_length_eq_zero (Nat.le_zero.1 h); subst this; simp [decs]
  | n + 1, m + 1, l, h1, h2 => by
    have hd : (l.drop (decLen l)).length ≤ n ∧ (l.drop (decLen l)).length ≤ m := by rw [List.length_drop]; unfold decLen; omega
    rw [decs, decs, decs_more n m _ hd.1 hd.2]
def allErr (l : List UInt8) : Int := (decs l.length l).1
def allEls (l : List UInt8) : List El := (decs l.length l).2
theorem decs_one {l : List UInt8} (hne : l ≠ []) (h : decErr l = 0) : decs l.length l = ((decs (l.drop (decLen l)).length (l.drop (decLen l))).1, decEl l :: (decs (l.drop (decLen l)).length (l.drop (decLen l))).2) := by
  obtain ⟨x, r, rfl⟩ := List.exists_cons_of_ne_nil hne
  rw [List.length_cons, decs, if_neg (by simp), if_pos h, decs_more r.length ((x :: r).drop (decLen (x :: r))).length _ (by rw [List.length_drop, List.length_cons]; unfold decLen; omega) (Nat.le_refl _)]
theorem all_nil : allErr [] = 0 ∧ allEls [] = [] := ⟨rfl, rfl⟩
theorem all_step {l : List UInt8} (hne : l ≠ []) (h : decErr l = 0) : allErr l = allErr (l.drop (decLen l)) ∧ allEls l = decEl l :: allEls (l.drop (decLen l)) := by
  unfold allErr allEls
  rw [decs_one hne h]
  exact ⟨rfl, rfl⟩
theorem all_bad {l : List UInt8} (hne : l ≠ []) (h : decErr l ≠ 0) : allErr l = decErr l ∧ allEls l = [] := by
  obtain ⟨x, r, rfl⟩ := List.exists_cons_of_ne_nil hne
  unfold allErr allEls
  rw [List.length_cons, decs, if_neg (by simp), if_neg h]
  exact ⟨rfl, rfl⟩
theorem all_length (n : Nat) : ∀ l : List UInt8, l.length ≤ n → 18 * (allEls l).length ≤ l.length := by
  induction n with
  | zero => intro l h; have := List.eq_nil_of_length_eq_zero (Nat.le_zero.1 h); subst this; simp [all_nil.2]
  | succ n ih =>
    intro l h
    by_cases hne : l = []
    · subst hne; simp [all_nil.2]
    by_cases hd : decErr l = 0
    · rw [(all_step hne hd).2]
      have h1 := decErr_zero hd
      have hdl : (l.drop (decLen l)).length = l.length - decLen l := List.length_drop
      have := ih (l.drop (decLen l)) (by rw [hdl]; unfold decLen; omega)
      rw [List.length_cons]
      unfold decLen at *
      omega
    · rw [(all_bad hne hd).2]; simp
theorem all_encs : ∀ l : List El, (∀ e ∈ l, e.err = 0) → allErr (l.flatMap enc) = 0 ∧ allEls (l.flatMap enc) = l
  | [], _ => all_nil
  | e :: l, h => by
    obtain ⟨d1, d2, d3⟩ := dec_enc (h e (by simp)) (l.flatMap enc)
    have hE : (e :: l).flatMap enc = enc e ++ l.flatMap enc := rfl
    have hne : enc e ++ l.flatMap enc ≠ [] := by
      intro h2; have := congrArg List.length h2; rw [List.length_append, enc_length] at this; simp at this
    have hdr : (enc e ++ l.flatMap enc).drop (decLen (enc e ++ l.flatMap enc)) = l.flatMap enc := by rw [d3, List.drop_left]
    rw [hE, (all_step hne d1).1, (all_step hne d1).2, hdr, d2]
    have := all_encs l fun x hx => h x (by simp [hx])
    exact ⟨this.1, by rw [this.2]⟩
theorem all_good (n : Nat) : ∀ l : List UInt8, l.length ≤ n → ∀ e ∈ allEls l, e.err = 0 := by
  induction n with
  | zero => intro l h; have := List.eq_nil_of_length_eq_zero (Nat.le_zero.1 h); subst this; simp [all_nil.2]
  | succ n ih =>
    intro l h
    by_cases hne : l = []
    · subst hne; simp [all_nil.2]
    by_cases hd : decErr l = 0
    · rw [(all_step hne hd).2]
      have hdl : (l.drop (decLen l)).length = l.length - decLen l := List.length_drop
      intro e he
      rcases List.mem_cons.1 he with rfl | he
      · exact (decErr_zero hd).2.2
      · exact ih (l.drop (decLen l)) (by rw [hdl]; unfold decLen; omega) e he
    · rw [(all_bad hne hd).2]; simp
end Go.Proofs.Ytimfjjnlbfcccaa
