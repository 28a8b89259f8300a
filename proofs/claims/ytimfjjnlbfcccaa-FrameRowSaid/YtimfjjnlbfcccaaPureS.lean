/- CRC-16, plainly: the register's step is linear and loses nothing; a string's bits one after another. No function of the program. -/
namespace Go.Proofs.Ytimfjjnlbfcccaa

/-- The register moved by one bit. -/
def shB (r : BitVec 16) : BitVec 16 := (r <<< 1) ^^^ (if r.msb then 0x1021#16 else 0#16)
def shN : Nat → BitVec 16 → BitVec 16
  | 0, r => r
  | n + 1, r => shN n (shB r)
/-- One byte. -/
def stp (r : BitVec 16) (c : UInt8) : BitVec 16 := shN 8 (r ^^^ (BitVec.ofNat 16 c.toNat <<< 8))
def crcF (r : BitVec 16) (l : List UInt8) : BitVec 16 := l.foldl stp r
def crc (l : List UInt8) : BitVec 16 := crcF 0#16 l

theorem xor4 (a b c d : BitVec 16) : a ^^^ b ^^^ (c ^^^ d) = a ^^^ c ^^^ (b ^^^ d) := by
  rw [BitVec.xor_assoc, BitVec.xor_assoc, ← BitVec.xor_assoc b c d, BitVec.xor_comm b c, BitVec.xor_assoc c b d]
theorem shB_xor (a b : BitVec 16) : shB (a ^^^ b) = shB a ^^^ shB b := by
  unfold shB
  rw [xor4, BitVec.shiftLeft_xor_distrib, BitVec.msb_xor]
  cases a.msb <;> cases b.msb <;> simp
theorem shB_zero : shB 0#16 = 0#16 := by decide
theorem shN_zero (n : Nat) : shN n 0#16 = 0#16 := by induction n with
  | zero => rfl
  | succ n ih => rw [shN, shB_zero, ih]
theorem shN_xor (n : Nat) (a b : BitVec 16) : shN n (a ^^^ b) = shN n a ^^^ shN n b := by induction n generalizing a b with
  | zero => rfl
  | succ n ih => rw [shN, shB_xor, ih]; rfl
theorem shN_add (m n : Nat) (a : BitVec 16) : shN (m + n) a = shN n (shN m a) := by induction m generalizing a with
  | zero => simp [shN]
  | succ m ih => rw [show m + 1 + n = (m + n) + 1 from by omega, shN, ih]; rfl
theorem shN_one (a : BitVec 16) : shN 1 a = shB a := rfl
theorem shN_comm (m n : Nat) (a : BitVec 16) : shN m (shN n a) = shN n (shN m a) := by rw [← shN_add, ← shN_add, Nat.add_comm]

theorem shB_nonzero (a : BitVec 16) (h : shB a = 0#16) : a = 0#16 := by
  have hm : a.msb = false := by
    cases hm : a.msb with
    | false => rfl
    | true =>
      have h0 : (shB a).getLsbD 0 = (0#16).getLsbD 0 := by rw [h]
      unfold shB at h0
      rw [hm] at h0
      simp at h0
  unfold shB at h
  rw [hm] at h
  simp at h
  apply BitVec.eq_of_getLsbD_eq
  intro i hi
  rcases Nat.lt_or_ge i 15 with hlt | hge
  · have := congrArg (fun x => x.getLsbD (i + 1)) h
    simp at this
    have h2 := this (by omega)
    simpa using h2
  · have : i = 15 := by omega
    subst this
    simpa [BitVec.msb_eq_getLsbD_last] using hm
theorem shN_nonzero (n : Nat) (a : BitVec 16) (h : shN n a = 0#16) : a = 0#16 := by induction n generalizing a with
  | zero => exact h
  | succ n ih => exact shB_nonzero _ (ih _ h)

theorem stp_xor (r d : BitVec 16) (c : UInt8) : stp (r ^^^ d) c = stp r c ^^^ shN 8 d := by
  unfold stp
  rw [← shN_xor, BitVec.xor_assoc, BitVec.xor_comm d, ← BitVec.xor_assoc]
theorem crcF_xor (l : List UInt8) (r d : BitVec 16) : crcF (r ^^^ d) l = crcF r l ^^^ shN (8 * l.length) d := by
  induction l generalizing r d with
  | nil => simp [crcF, shN]
  | cons c l ih =>
    show crcF (stp (r ^^^ d) c) l = crcF (stp r c) l ^^^ _
    rw [stp_xor, ih, ← shN_add]
    congr 2
    simp; omega
theorem crcF_append (r : BitVec 16) (a b : List UInt8) : crcF r (a ++ b) = crcF (crcF r a) b := by simp [crcF]
theorem crc_snoc (l : List UInt8) (c : UInt8) : crc (l ++ [c]) = stp (crc l) c := by simp [crc, crcF]

/-! ### Two strings together -/
theorem byte_xor (a b : UInt8) : BitVec.ofNat 16 (a ^^^ b).toNat <<< 8 = (BitVec.ofNat 16 a.toNat <<< 8) ^^^ (BitVec.ofNat 16 b.toNat <<< 8) := by
  rw [← BitVec.shiftLeft_xor_distrib, UInt8.toNat_xor]
  congr 1
  apply BitVec.eq_of_toNat_eq
  rw [BitVec.toNat_xor, BitVec.toNat_ofNat, BitVec.toNat_ofNat, BitVec.toNat_ofNat]
  have ha := a.toNat_lt; have hb := b.toNat_lt
  have hx : a.toNat ^^^ b.toNat < 2 ^ 8 := Nat.xor_lt_two_pow (by omega) (by omega)
  rw [Nat.mod_eq_of_lt (by omega), Nat.mod_eq_of_lt (by omega), Nat.mod_eq_of_lt (by omega)]
theorem stp_both (r d : BitVec 16) (a b : UInt8) : stp (r ^^^ d) (a ^^^ b) = stp r a ^^^ stp d b := by
  unfold stp
  rw [← shN_xor, byte_xor, xor4]
theorem crcF_both (a b : List UInt8) (h : a.length = b.length) (r d : BitVec 16) : crcF (r ^^^ d) (List.zipWith (· ^^^ ·) a b) = crcF r a ^^^ crcF d b := by
  induction a generalizing b r d with
  | nil => cases b with
    | nil => rfl
    | cons => simp at h
  | cons x a ih => cases b with
    | nil => simp at h
    | cons y b =>
      show crcF (stp (r ^^^ d) (x ^^^ y)) _ = crcF (stp r x) a ^^^ crcF (stp d y) b
      rw [stp_both, ih b (by simpa using h)]
theorem crc_both (a b : List UInt8) (h : a.length = b.length) : crc (List.zipWith (· ^^^ ·) a b) = crc a ^^^ crc b := by
  have := crcF_both a b h 0#16 0#16
  simpa [crc] using this
theorem crc_noughts (n : Nat) (l : List UInt8) : crc (List.replicate n 0 ++ l) = crc l := by
  unfold crc
  rw [crcF_append]
  congr 1
  induction n with
  | zero => rfl
  | succ n ih =>
    rw [List.replicate_succ]
    show crcF (stp 0#16 0) (List.replicate n 0) = _
    rw [show stp 0#16 0 = 0#16 from by decide]
    exact ih

/-! ### A string and its check sum -/
theorem small8 (n : Nat) (h : n < 256) : shN 8 (BitVec.ofNat 16 n) = BitVec.ofNat 16 n <<< 8 := by
  have : ∀ n : Fin 256, shN 8 (BitVec.ofNat 16 n.val) = BitVec.ofNat 16 n.val <<< 8 := by decide +kernel
  exact this ⟨n, h⟩
theorem halves (x : BitVec 16) : x = (BitVec.ofNat 16 (x.toNat / 256) <<< 8) ^^^ BitVec.ofNat 16 (x.toNat % 256) := by
  have hx := x.isLt
  apply BitVec.eq_of_toNat_eq
  rw [BitVec.toNat_xor, BitVec.toNat_shiftLeft, BitVec.toNat_ofNat, BitVec.toNat_ofNat]
  rw [Nat.mod_eq_of_lt (a := x.toNat / 256) (by omega), Nat.mod_eq_of_lt (a := x.toNat % 256) (by omega), Nat.shiftLeft_eq, Nat.mod_eq_of_lt (a := x.toNat / 256 * 2 ^ 8) (by omega)]
  apply Nat.eq_of_testBit_eq
  intro i
  rw [Nat.testBit_xor]
  have e1 : x.toNat / 256 * 2 ^ 8 = (x.toNat / 2 ^ 8) <<< 8 := by rw [Nat.shiftLeft_eq]
  have e2 : x.toNat % 256 = x.toNat % 2 ^ 8 := rfl
  rw [e1, e2, Nat.testBit_shiftLeft, Nat.testBit_mod_two_pow, Nat.testBit_div_two_pow]
  by_cases h : 8 ≤ i
  · have h' : ¬ i < 8 := by omega
    simp [h, h']
  · have h' : i < 8 := by omega
    simp [h, h']
theorem xor_part {x a b : BitVec 16} (h : x = a ^^^ b) : x ^^^ a = b := by
  rw [h, BitVec.xor_comm a b, BitVec.xor_assoc, BitVec.xor_self, BitVec.xor_zero]
theorem crc_nought (l : List UInt8) (a b : UInt8) (ha : a.toNat = (crc l).toNat / 256) (hb : b.toNat = (crc l).toNat % 256) : crc (l ++ [a, b]) = 0#16 := by
  have e : crc (l ++ [a, b]) = stp (stp (crc l) a) b := by simp [crc, crcF]
  rw [e]
  have h1 : stp (crc l) a = BitVec.ofNat 16 b.toNat <<< 8 := by
    unfold stp
    have hx := halves (crc l)
    rw [ha]
    have h2 : crc l ^^^ BitVec.ofNat 16 ((crc l).toNat / 256) <<< 8 = BitVec.ofNat 16 ((crc l).toNat % 256) := xor_part hx
    rw [h2, ← hb, small8 _ b.toNat_lt]
  rw [h1]
  unfold stp
  simp [shN_zero]

/-! ### A burst -/
theorem mask_one (q : Nat) (h : q < 8) : shN 8 (BitVec.ofNat 16 (128 >>> q) <<< 8) = shN (8 - q) 0x8000#16 := by
  have : ∀ q : Fin 8, shN 8 (BitVec.ofNat 16 (128 >>> q.val) <<< 8) = shN (8 - q.val) 0x8000#16 := by decide +kernel
  exact this ⟨q, h⟩
theorem crcF_flip (l : List UInt8) (r : BitVec 16) (j q : Nat) (hj : j < l.length) (hq : q < 8) (c m : UInt8) (hc : l[j]? = some c) (hm : m.toNat = 128 >>> q) :
    crcF r (l.set j (c ^^^ m)) = crcF r l ^^^ shN (8 * l.length - (8 * j + q)) 0x8000#16 := by
  induction l generalizing r j with
  | nil => simp at hj
  | cons x l ih =>
    cases j with
    | zero =>
      simp at hc; subst hc
      show crcF (stp r (x ^^^ m)) l = crcF (stp r x) l ^^^ _
      have h1 : stp r (x ^^^ m) = stp r x ^^^ shN (8 - q) 0x8000#16 := by
        have := stp_both r 0#16 x m
        rw [BitVec.xor_zero] at this
        rw [this]; congr 1
        unfold stp
        rw [hm, BitVec.zero_xor, mask_one q hq]
      rw [h1, crcF_xor, ← shN_add]
      congr 2; simp; omega
    | succ j =>
      show crcF (stp r x) (l.set j _) = crcF (stp r x) l ^^^ _
      rw [ih _ j (by simpa using hj) (by simpa using hc)]
      congr 2; simp; omega
theorem top_one (i : Nat) (h : i < 16) : shN i (0x8000#16 >>> i) = 0x8000#16 := by
  have : ∀ i : Fin 16, shN i.val (0x8000#16 >>> i.val) = 0x8000#16 := by decide +kernel
  exact this ⟨i, h⟩
/-- The burst, written from the top. -/
def burst (t : Nat) : Nat → BitVec 16
  | 0 => 0#16
  | i + 1 => burst t i ^^^ (if t.testBit i then 0x8000#16 >>> i else 0#16)
theorem burst_bit (t : Nat) (i k : Nat) (hk : k < 16) : (burst t i).getLsbD k = (decide (15 - k < i) && t.testBit (15 - k)) := by
  induction i with
  | zero => simp [burst]
  | succ i ih =>
    rw [burst, BitVec.getLsbD_xor, ih]
    have h8 : ∀ i k : Fin 16, (0x8000#16 >>> i.val).getLsbD k.val = decide (15 - k.val = i.val) := by decide +kernel
    by_cases h : 15 - k = i
    · have := h8 ⟨i, by omega⟩ ⟨k, hk⟩
      simp only [h, decide_true] at this
      have h1 : ¬ 15 - k < i := by omega
      have h2 : 15 - k < i + 1 := by omega
      rw [h]
      cases ht : t.testBit i <;> simp [this]
    · have hz : (if t.testBit i then 0x8000#16 >>> i else 0#16).getLsbD k = false := by
        split
        · rcases Nat.lt_or_ge i 16 with hi | hi
          · have := h8 ⟨i, hi⟩ ⟨k, hk⟩
            simp only [h, decide_false] at this
            exact this
          · rw [BitVec.getLsbD_ushiftRight]
            exact BitVec.getLsbD_of_ge _ _ (by omega)
        · simp
      rw [hz, Bool.xor_false]
      congr 1
      rw [decide_eq_decide]; omega
theorem burst_nonzero (t : Nat) (ht : 0 < t) (h16 : t < 65536) : burst t 16 ≠ 0#16 := by
  intro h
  have h0 : t = 0 := by
    apply Nat.eq_of_testBit_eq
    intro i
    rw [Nat.zero_testBit]
    rcases Nat.lt_or_ge i 16 with hi | hi
    · have := burst_bit t 16 (15 - i) (by omega)
      rw [h] at this
      simp at this
      have := this (by omega)
      rwa [show 15 - (15 - i) = i from by omega] at this
    · exact Nat.testBit_lt_two_pow (Nat.lt_of_lt_of_le h16 (Nat.pow_le_pow_right (n := 2) (i := 16) (by omega) hi))
  omega
/-- The bytes after i steps of the burst at the bit 'at'. -/
def flips (l : List UInt8) (at_ t : Nat) : Nat → List UInt8
  | 0 => l
  | i + 1 => if t.testBit i then (flips l at_ t i).set ((at_ + i) / 8) (((flips l at_ t i)[(at_ + i) / 8]?.getD 0) ^^^ UInt8.ofNat (128 >>> ((at_ + i) % 8))) else flips l at_ t i
theorem flips_length (l : List UInt8) (at_ t i : Nat) : (flips l at_ t i).length = l.length := by
  induction i with
  | zero => rfl
  | succ i ih => rw [flips]; split <;> simp [ih]
theorem crc_flips (l : List UInt8) (at_ t i : Nat) (hi : i ≤ 16) (h : at_ + 16 ≤ 8 * l.length) : crc (flips l at_ t i) = crc l ^^^ shN (8 * l.length - at_) (burst t i) := by
  induction i with
  | zero => simp [flips, burst, shN_zero]
  | succ i ih =>
    rw [flips, burst, shN_xor, ← BitVec.xor_assoc, ← ih (by omega)]
    split
    · have hl := flips_length l at_ t i
      have hj : (at_ + i) / 8 < (flips l at_ t i).length := by omega
      have hc : (flips l at_ t i)[(at_ + i) / 8]? = some ((flips l at_ t i)[(at_ + i) / 8]?.getD 0) := by
        rw [List.getElem?_eq_getElem hj]; rfl
      have hm : ∀ q : Fin 8, (UInt8.ofNat (128 >>> q.val)).toNat = 128 >>> q.val := by decide +kernel
      unfold crc
      rw [crcF_flip _ 0#16 _ ((at_ + i) % 8) hj (by omega) _ _ hc (hm ⟨_, Nat.mod_lt _ (by omega)⟩)]
      congr 1
      rw [hl, ← top_one i (by omega), ← shN_add, top_one i (by omega)]
      congr 1; omega
    · simp [shN_zero]
theorem crc_burst (l : List UInt8) (at_ t : Nat) (ht : 0 < t) (h16 : t < 65536) (h : at_ + 16 ≤ 8 * l.length) : crc (flips l at_ t 16) ≠ crc l := by
  intro he
  rw [crc_flips l at_ t 16 (by omega) h] at he
  have h2 : shN (8 * l.length - at_) (burst t 16) = 0#16 := by
    have := congrArg (fun x => crc l ^^^ x) he
    simp only [← BitVec.xor_assoc, BitVec.xor_self, BitVec.zero_xor] at this
    exact this
  exact burst_nonzero t ht h16 (shN_nonzero _ _ h2)

/-! ### By another road: the bits of the text behind which nothing stands -/
def bitN (l : List UInt8) (i : Nat) : Nat := if i < 8 * l.length then ((l[i / 8]?.getD 0).toNat >>> (7 - i % 8)) % 2 else 0
theorem bitN_lt (l : List UInt8) (i : Nat) : bitN l i < 2 := by unfold bitN; split <;> omega
def refS (l : List UInt8) : Nat → BitVec 16
  | 0 => 0#16
  | i + 1 => shB (refS l i) ^^^ BitVec.ofNat 16 (bitN l i)
theorem byte_bits (c : UInt8) : shN 23 (BitVec.ofNat 16 ((c.toNat >>> 7) % 2)) ^^^ shN 22 (BitVec.ofNat 16 ((c.toNat >>> 6) % 2)) ^^^ shN 21 (BitVec.ofNat 16 ((c.toNat >>> 5) % 2)) ^^^ shN 20 (BitVec.ofNat 16 ((c.toNat >>> 4) % 2)) ^^^
    shN 19 (BitVec.ofNat 16 ((c.toNat >>> 3) % 2)) ^^^ shN 18 (BitVec.ofNat 16 ((c.toNat >>> 2) % 2)) ^^^ shN 17 (BitVec.ofNat 16 ((c.toNat >>> 1) % 2)) ^^^ shN 16 (BitVec.ofNat 16 ((c.toNat >>> 0) % 2)) = shN 8 (BitVec.ofNat 16 c.toNat <<< 8) := by
  have : ∀ c : Fin 256, shN 23 (BitVec.ofNat 16 ((c.val >>> 7) % 2)) ^^^ shN 22 (BitVec.ofNat 16 ((c.val >>> 6) % 2)) ^^^ shN 21 (BitVec.ofNat 16 ((c.val >>> 5) % 2)) ^^^ shN 20 (BitVec.ofNat 16 ((c.val >>> 4) % 2)) ^^^
    shN 19 (BitVec.ofNat 16 ((c.val >>> 3) % 2)) ^^^ shN 18 (BitVec.ofNat 16 ((c.val >>> 2) % 2)) ^^^ shN 17 (BitVec.ofNat 16 ((c.val >>> 1) % 2)) ^^^ shN 16 (BitVec.ofNat 16 ((c.val >>> 0) % 2)) = shN 8 (BitVec.ofNat 16 c.val <<< 8) := by decide +kernel
  exact this ⟨c.toNat, c.toNat_lt⟩
theorem shB_shN (n : Nat) (a : BitVec 16) : shB (shN n a) = shN (n + 1) a := by rw [← shN_one, ← shN_add]
theorem refS_byte (l : List UInt8) (k : Nat) (hk : k < l.length) : shN 16 (refS l (8 * k + 8)) = stp (shN 16 (refS l (8 * k))) (l[k]?.getD 0) := by
  have hb : ∀ q, q < 8 → bitN l (8 * k + q) = ((l[k]?.getD 0).toNat >>> (7 - q)) % 2 := fun q hq => by
    unfold bitN
    rw [if_pos (by omega), show (8 * k + q) / 8 = k from by omega, show (8 * k + q) % 8 = q from by omega]
  have b0 := hb 0 (by omega); have b1 := hb 1 (by omega); have b2 := hb 2 (by omega); have b3 := hb 3 (by omega)
  have b4 := hb 4 (by omega); have b5 := hb 5 (by omega); have b6 := hb 6 (by omega); have b7 := hb 7 (by omega)
  rw [Nat.add_zero] at b0
  simp only [Nat.reduceSub, Nat.sub_zero, Nat.sub_self] at b0 b1 b2 b3 b4 b5 b6 b7
  have e : ∀ q, 8 * k + (q + 1) = (8 * k + q) + 1 := fun q => by omega
  rw [show 8 * k + 8 = 8 * k + 7 + 1 from rfl, refS, show 8 * k + 7 = 8 * k + 6 + 1 from rfl, refS, show 8 * k + 6 = 8 * k + 5 + 1 from rfl, refS, show 8 * k + 5 = 8 * k + 4 + 1 from rfl, refS,
    show 8 * k + 4 = 8 * k + 3 + 1 from rfl, refS, show 8 * k + 3 = 8 * k + 2 + 1 from rfl, refS, show 8 * k + 2 = 8 * k + 1 + 1 from rfl, refS, refS]
  simp only [show 8 * k + 1 + 1 = 8 * k + 2 from rfl, show 8 * k + 2 + 1 = 8 * k + 3 from rfl, show 8 * k + 3 + 1 = 8 * k + 4 from rfl, show 8 * k + 4 + 1 = 8 * k + 5 from rfl, show 8 * k + 5 + 1 = 8 * k + 6 from rfl, show 8 * k + 6 + 1 = 8 * k + 7 from rfl, b0, b1, b2, b3, b4, b5, b6, b7]
  unfold stp
  rw [shN_xor 8, ← byte_bits]
  simp only [shN_xor, ← shN_one, ← shN_add, Nat.reduceAdd]
  simp only [BitVec.xor_assoc]
theorem refS_take (l : List UInt8) (k : Nat) (hk : k ≤ l.length) : shN 16 (refS l (8 * k)) = crc (l.take k) := by
  induction k with
  | zero => simp [refS, shN_zero, crc, crcF]
  | succ k ih =>
    rw [show 8 * (k + 1) = 8 * k + 8 from by omega, refS_byte l k (by omega), ih (by omega), List.take_succ_eq_append_getElem (by omega), crc_snoc, List.getElem?_eq_getElem (by omega)]
    rfl
theorem refS_end (l : List UInt8) (j : Nat) : refS l (8 * l.length + j) = shN j (refS l (8 * l.length)) := by
  induction j with
  | zero => rfl
  | succ j ih =>
    rw [show 8 * l.length + (j + 1) = 8 * l.length + j + 1 from rfl, refS, ih, shB_shN]
    have : bitN l (8 * l.length + j) = 0 := by unfold bitN; rw [if_neg (by omega)]
    rw [this]; simp
theorem refS_crc (l : List UInt8) : refS l (8 * (l.length + 2)) = crc l := by
  rw [show 8 * (l.length + 2) = 8 * l.length + 16 from by omega, refS_end, refS_take l l.length (Nat.le_refl _), List.take_length]
theorem even_xor (m b : Nat) (hb : b < 2) : 2 * m ^^^ b = 2 * m + b := by
  apply Nat.eq_of_testBit_eq
  intro i
  cases i with
  | zero => simp [Nat.testBit_zero]
  | succ i =>
    rw [Nat.testBit_xor, Nat.testBit_succ, Nat.testBit_succ, Nat.testBit_succ, show b / 2 = 0 from by omega, show 2 * m / 2 = m from by omega, show (2 * m + b) / 2 = m from by omega]; simp
theorem ref_step (r : BitVec 16) (b : Nat) (hb : b < 2) : ((shB r ^^^ BitVec.ofNat 16 b).toNat : Nat) = if 65536 ≤ r.toNat * 2 + b then (r.toNat * 2 + b - 65536) ^^^ 4129 else r.toNat * 2 + b := by
  have hr := r.isLt
  have hx : (r <<< 1 ^^^ BitVec.ofNat 16 b).toNat = r.toNat * 2 % 65536 + b := by
    rw [BitVec.toNat_xor, BitVec.toNat_shiftLeft, BitVec.toNat_ofNat, Nat.mod_eq_of_lt (a := b) (by omega), Nat.shiftLeft_eq]
    have : r.toNat * 2 ^ 1 % 2 ^ 16 = 2 * (r.toNat % 32768) := by omega
    rw [this, even_xor _ _ hb]
  unfold shB
  cases hm : r.msb with
  | false =>
    have h2 : r.toNat < 32768 := by
      have := BitVec.msb_eq_decide r; rw [hm] at this; simpa using this.symm
    rw [if_neg (by simp), BitVec.xor_zero, hx, if_neg (by omega)]; omega
  | true =>
    have h2 : 32768 ≤ r.toNat := by
      have := BitVec.msb_eq_decide r; rw [hm] at this; simpa using this.symm
    rw [if_pos rfl, BitVec.xor_assoc, BitVec.xor_comm 0x1021#16, ← BitVec.xor_assoc, BitVec.toNat_xor, hx, if_pos (by omega)]
    have : r.toNat * 2 % 65536 + b = r.toNat * 2 + b - 65536 := by omega
    rw [this]; rfl
/-- How the program moves the register. -/
theorem shB_top (r : BitVec 16) (h : 32768 ≤ r.toNat) : (shB r).toNat = (r.toNat * 2 % 65536) ^^^ 4129 := by
  have hr := r.isLt
  have := ref_step r 0 (by omega)
  simp only [BitVec.xor_zero, Nat.add_zero] at this
  rw [this, if_pos (by omega), show r.toNat * 2 - 65536 = r.toNat * 2 % 65536 from by omega]
theorem shB_low (r : BitVec 16) (h : r.toNat < 32768) : (shB r).toNat = r.toNat * 2 := by
  have := ref_step r 0 (by omega)
  simp only [BitVec.xor_zero, Nat.add_zero] at this
  rw [this, if_neg (by omega)]
theorem stp_in (r : BitVec 16) (c : UInt8) : (r ^^^ (BitVec.ofNat 16 c.toNat <<< 8)).toNat = r.toNat ^^^ (c.toNat * 256) := by
  have hc := c.toNat_lt
  rw [BitVec.toNat_xor, BitVec.toNat_shiftLeft, BitVec.toNat_ofNat, Nat.mod_eq_of_lt (a := c.toNat) (by omega), Nat.shiftLeft_eq, Nat.mod_eq_of_lt (by omega)]
theorem crc_check : crc [49, 50, 51, 52, 53, 54, 55, 56, 57] = 0x31c3#16 := by decide +kernel
theorem crc_check0 : crc [49, 50, 51, 52, 53, 54, 55, 56, 57, 49, 195] = 0#16 := by decide +kernel
theorem crc_a : (crc [97]).toNat = 31879 := by decide +kernel
theorem crc_b : (crc [98]).toNat = 19684 := by decide +kernel
end Go.Proofs.Ytimfjjnlbfcccaa
