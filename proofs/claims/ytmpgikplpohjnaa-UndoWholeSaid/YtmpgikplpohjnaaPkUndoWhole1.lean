/- Texts of one kind in one file. -/
import Derived.Below
import Derived.Laws.BitsAll
import Derived.IntWalk
import Derived.Test.YtmpgikplpohjnaaRows
import Derived.Handy
import Derived.Deep.Quiet
import Derived.Deep.QuietTactic
import Derived.Laws.Tables
import Derived.StillTail
import Derived.WalkSpells
import Derived.WalkLawsBesides
import Derived.Lib.Hide
import Derived.Deep.RegionWith
import Derived.Deep.RegionHeld3
import Derived.Deep.DeepCutAuto
import Derived.BigQuiet
import Derived.Laws.OwnMore
import Derived.Deep.AppendLies
import Derived.Deep.Draws
import Derived.Laws.BytesArg
import Derived.Laws.MakeOwn
import Derived.Laws.IdiomStrings
import Derived.OwnWalk
import Derived.Lib.AppendStr
import Derived.Deep.Slices
import Derived.ProofKit
import Derived.OpenShut
import Derived.Lib.SmallJoins
import Derived.SizedLaws
import Derived.Deep.LoopGhost
import Derived.Outline
set_option maxRecDepth 100000
namespace Go.Proofs.Ytmpgikplpohjnaa
def be : Nat → Nat → List UInt8
 | 0, _ => []
 |k + 1, n => be k (n / 256) ++ [UInt8.ofNat (n % 256)]
def num (l : List UInt8) : Nat := l.foldl (fun n b => 256 * n + b.toNat) 0
theorem be_length (k n : Nat) : (be k n).length = k := by
 induction k generalizing n with
 |zero => rfl
 |succ k ih => rw [be, List.length_append, ih]; rfl
theorem num_snoc (l : List UInt8) (b : UInt8) : num (l ++ [b]) = 256 * num l + b.toNat := by simp [num]
theorem snoc_of {l : List UInt8} {k : Nat} (h : l.length = k + 1) : ∃ r b, l = r ++ [b] ∧ r.length = k := by
 have hne : l ≠ [] := by intro h2; subst h2; simp at h
 exact ⟨l.dropLast, l.getLast hne, (List.dropLast_concat_getLast hne).symm, by rw [List.length_dropLast, h]; rfl⟩
theorem num_lt : ∀ (k : Nat) (l : List UInt8), l.length = k → num l < 256 ^ k
 | 0, l, h => by have := List.eq_nil_of_length_eq_zero h; subst this; decide
 |k + 1, l, h => by
  obtain ⟨r, b, rfl, hr⟩ := snoc_of h
  have := num_lt k r hr
  have hb := b.toNat_lt
  rw [num_snoc, Nat.pow_succ]
  omega
theorem num_be : ∀ (k n : Nat), n < 256 ^ k → num (be k n) = n
 | 0, n, h => by simp at h; subst h; rfl
 |k + 1, n, h => by
  have hb : (UInt8.ofNat (n % 256)).toNat = n % 256 := by rw [UInt8.toNat_ofNat']; omega
  rw [be, num_snoc, num_be k (n / 256) (by rw [Nat.pow_succ] at h; omega), hb]
  omega
def part (l : List UInt8) (i k : Nat) : List UInt8 := (l.drop i).take k
theorem part_skip {a b : List UInt8} {n : Nat} (h : a.length = n) (i k : Nat) : part (a ++ b) (n + i) k = part b i k := by
 subst h; unfold part; rw [List.drop_append, List.drop_eq_nil_of_le (by omega), List.nil_append, Nat.add_sub_cancel_left]
theorem part_here {a b : List UInt8} {k : Nat} (h : a.length = k) : part (a ++ b) 0 k = a := by
 subst h; simp [part]
theorem part_length {l : List UInt8} {i k : Nat} (h : i + k ≤ l.length) : (part l i k).length = k := by simp [part]; omega
theorem bytes_len (s : ByteArray) : s.data.toList.length = s.size := by simp
def shB (r : BitVec 16) : BitVec 16 := (r <<< 1) ^^^ (if r.msb then 0x1021#16 else 0#16)
def shN : Nat → BitVec 16 → BitVec 16
 | 0, r => r
 |n + 1, r => shN n (shB r)
def stp (r : BitVec 16) (c : UInt8) : BitVec 16 := shN 8 (r ^^^ (BitVec.ofNat 16 c.toNat <<< 8))
def crcF (r : BitVec 16) (l : List UInt8) : BitVec 16 := l.foldl stp r
def crc (l : List UInt8) : BitVec 16 := crcF 0#16 l
theorem xor4 (a b c d : BitVec 16) : a ^^^ b ^^^ (c ^^^ d) = a ^^^ c ^^^ (b ^^^ d) := by
 rw [BitVec.xor_assoc, BitVec.xor_assoc, ← BitVec.xor_assoc b c d, BitVec.xor_comm b c, BitVec.xor_assoc c b d]
theorem shB_xor (a b : BitVec 16) : shB (a ^^^ b) = shB a ^^^ shB b := by
 unfold shB
 rw [xor4, BitVec.shiftLeft_xor_distrib, BitVec.msb_xor]
 cases a.msb <;> cases b.msb <;> simp
theorem shB_zero : shB 0#16 = 0#16 := by decide
theorem shN_zero (n : Nat) : shN n 0#16 = 0#16 := by induction n with
 |zero => rfl
 |succ n ih => rw [shN, shB_zero, ih]
theorem shN_xor (n : Nat) (a b : BitVec 16) : shN n (a ^^^ b) = shN n a ^^^ shN n b := by induction n generalizing a b with
 |zero => rfl
 |succ n ih => rw [shN, shB_xor, ih]; rfl
theorem shN_add (m n : Nat) (a : BitVec 16) : shN (m + n) a = shN n (shN m a) := by induction m generalizing a with
 |zero => simp [shN]
 |succ m ih => rw [show m + 1 + n = (m + n) + 1 from by omega, shN, ih]; rfl
theorem shN_one (a : BitVec 16) : shN 1 a = shB a := rfl
theorem crc_snoc (l : List UInt8) (c : UInt8) : crc (l ++ [c]) = stp (crc l) c := by simp [crc, crcF]
def burst (t : Nat) : Nat → BitVec 16
 | 0 => 0#16
 |i + 1 => burst t i ^^^ (if t.testBit i then 0x8000#16 >>> i else 0#16)
def bitN (l : List UInt8) (i : Nat) : Nat := if i < 8 * l.length then ((l[i / 8]?.getD 0).toNat >>> (7 - i % 8)) % 2 else 0
theorem bitN_lt (l : List UInt8) (i : Nat) : bitN l i < 2 := by unfold bitN; split <;> omega
def refS (l : List UInt8) : Nat → BitVec 16
 | 0 => 0#16
 |i + 1 => shB (refS l i) ^^^ BitVec.ofNat 16 (bitN l i)
theorem byte_bits (c : UInt8) : shN 23 (BitVec.ofNat 16 ((c.toNat >>> 7) % 2)) ^^^ shN 22 (BitVec.ofNat 16 ((c.toNat >>> 6) % 2)) ^^^ shN 21 (BitVec.ofNat 16 ((c.toNat >>> 5) % 2)) ^^^ shN 20 (BitVec.ofNat 16 ((c.toNat >>> 4) % 2)) ^^^
    shN 19 (BitVec.ofNat 16 ((c.toNat >>> 3) % 2)) ^^^ shN 18 (BitVec.ofNat 16 ((c.toNat >>> 2) % 2)) ^^^ shN 17 (BitVec.ofNat 16 ((c.toNat >>> 1) % 2)) ^^^ shN 16 (BitVec.ofNat 16 ((c.toNat >>> 0) % 2)) = shN 8 (BitVec.ofNat 16 c.toNat <<< 8) := by
  have : ∀ c : Fin 256, shN 23 (BitVec.ofNat 16 ((c.val >>> 7) % 2)) ^^^ shN 22 (BitVec.ofNat 16 ((c.val >>> 6) % 2)) ^^^ shN 21 (BitVec.ofNat 16 ((c.val >>> 5) % 2)) ^^^ shN 20 (BitVec.ofNat 16 ((c.val >>> 4) % 2)) ^^^
    shN 19 (BitVec.ofNat 16 ((c.val >>> 3) % 2)) ^^^ shN 18 (BitVec.ofNat 16 ((c.val >>> 2) % 2)) ^^^ shN 17 (BitVec.ofNat 16 ((c.val >>> 1) % 2)) ^^^ shN 16 (BitVec.ofNat 16 ((c.val >>> 0) % 2)) = shN 8 (BitVec.ofNat 16 c.val <<< 8) := by decide +kernel
  exact this ⟨c.toNat, c.toNat_lt⟩
theorem shB_shN (n : Nat) (a : BitVec 16) : shB (shN n a) = shN (n + 1) a := by rw [← shN_one, ← shN_add]
theorem refS_byte (l : List UInt8) (k : Nat) (hk : k < l.length) : shN 16 (refS l (8 * k + 8)) = stp (shN 16 (refS l (8 * k))) (l[k]?.getD 0) := by
 have hb : ∀ q, q < 8 → bitN l (8 * k + q) = ((l[k]?.getD 0).toNat >>> (7 - q)) % 2 := fun q hq => by
  unfold bitN
  rw [if_pos (by omega), show (8 * k + q) / 8 = k from by omega, show (8 * k + q) % 8 = q from by omega]
 have b0 := hb 0 (by omega); have b1 := hb 1 (by omega); have b2 := hb 2 (by omega); have b3 := hb 3 (by omega)
 have b4 := hb 4 (by omega); have b5 := hb 5 (by omega); have b6 := hb 6 (by omega); have b7 := hb 7 (by omega)
 rw [Nat.add_zero] at b0
 simp only [Nat.reduceSub, Nat.sub_zero, Nat.sub_self] at b0 b1 b2 b3 b4 b5 b6 b7
 have e : ∀ q, 8 * k + (q + 1) = (8 * k + q) + 1 := fun q => by omega
 rw [show 8 * k + 8 = 8 * k + 7 + 1 from rfl, refS, show 8 * k + 7 = 8 * k + 6 + 1 from rfl, refS, show 8 * k + 6 = 8 * k + 5 + 1 from rfl, refS, show 8 * k + 5 = 8 * k + 4 + 1 from rfl, refS,
  show 8 * k + 4 = 8 * k + 3 + 1 from rfl, refS, show 8 * k + 3 = 8 * k + 2 + 1 from rfl, refS, show 8 * k + 2 = 8 * k + 1 + 1 from rfl, refS, refS]
 simp only [show 8 * k + 1 + 1 = 8 * k + 2 from rfl, show 8 * k + 2 + 1 = 8 * k + 3 from rfl, show 8 * k + 3 + 1 = 8 * k + 4 from rfl, show 8 * k + 4 + 1 = 8 * k + 5 from rfl, show 8 * k + 5 + 1 = 8 * k + 6 from rfl, show 8 * k + 6 + 1 = 8 * k + 7 from rfl, b0, b1, b2, b3, b4, b5, b6, b7]
 unfold stp
 rw [shN_xor 8, ← byte_bits]
 simp only [shN_xor, ← shN_one, ← shN_add, Nat.reduceAdd]
 simp only [BitVec.xor_assoc]
theorem refS_take (l : List UInt8) (k : Nat) (hk : k ≤ l.length) : shN 16 (refS l (8 * k)) = crc (l.take k) := by
 induction k with
 |zero => simp [refS, shN_zero, crc, crcF]
 |succ k ih =>
  rw [show 8 * (k + 1) = 8 * k + 8 from by omega, refS_byte l k (by omega), ih (by omega), List.take_succ_eq_append_getElem (by omega), crc_snoc, List.getElem?_eq_getElem (by omega)]
  rfl
theorem refS_end (l : List UInt8) (j : Nat) : refS l (8 * l.length + j) = shN j (refS l (8 * l.length)) := by
 induction j with
 |zero => rfl
 |succ j ih =>
  rw [show 8 * l.length + (j + 1) = 8 * l.length + j + 1 from rfl, refS, ih, shB_shN]
  have : bitN l (8 * l.length + j) = 0 := by unfold bitN; rw [if_neg (by omega)]
  rw [this]; simp
theorem refS_crc (l : List UInt8) : refS l (8 * (l.length + 2)) = crc l := by
 rw [show 8 * (l.length + 2) = 8 * l.length + 16 from by omega, refS_end, refS_take l l.length (Nat.le_refl _), List.take_length]
theorem even_xor (m b : Nat) (hb : b < 2) : 2 * m ^^^ b = 2 * m + b := by
 apply Nat.eq_of_testBit_eq
 intro i
 cases i with
 |zero => simp [Nat.testBit_zero]
 |succ i =>
  rw [Nat.testBit_xor, Nat.testBit_succ, Nat.testBit_succ, Nat.testBit_succ, show b / 2 = 0 from by omega, show 2 * m / 2 = m from by omega, show (2 * m + b) / 2 = m from by omega]; simp
theorem ref_step (r : BitVec 16) (b : Nat) (hb : b < 2) : ((shB r ^^^ BitVec.ofNat 16 b).toNat : Nat) = if 65536 ≤ r.toNat * 2 + b then (r.toNat * 2 + b - 65536) ^^^ 4129 else r.toNat * 2 + b := by
 have hr := r.isLt
 have hx : (r <<< 1 ^^^ BitVec.ofNat 16 b).toNat = r.toNat * 2 % 65536 + b := by
  rw [BitVec.toNat_xor, BitVec.toNat_shiftLeft, BitVec.toNat_ofNat, Nat.mod_eq_of_lt (a := b) (by omega), Nat.shiftLeft_eq]
  have : r.toNat * 2 ^ 1 % 2 ^ 16 = 2 * (r.toNat % 32768) := by omega
  rw [this, even_xor _ _ hb]
 unfold shB
 cases hm : r.msb with
 |false =>
  have h2 : r.toNat < 32768 := by
   have := BitVec.msb_eq_decide r; rw [hm] at this; simpa using this.symm
  rw [if_neg (by simp), BitVec.xor_zero, hx, if_neg (by omega)]; omega
 |true =>
  have h2 : 32768 ≤ r.toNat := by
   have := BitVec.msb_eq_decide r; rw [hm] at this; simpa using this.symm
  rw [if_pos rfl, BitVec.xor_assoc, BitVec.xor_comm 0x1021#16, ← BitVec.xor_assoc, BitVec.toNat_xor, hx, if_pos (by omega)]
  have : r.toNat * 2 % 65536 + b = r.toNat * 2 + b - 65536 := by omega
  rw [this]; rfl
/-- How the program moves the register. -/
theorem shB_top (r : BitVec 16) (h : 32768 ≤ r.toNat) : (shB r).toNat = (r.toNat * 2 % 65536) ^^^ 4129 := by
 have hr := r.isLt
 have := ref_step r 0 (by omega)
 simp only [BitVec.xor_zero, Nat.add_zero] at this
 rw [this, if_pos (by omega), show r.toNat * 2 - 65536 = r.toNat * 2 % 65536 from by omega]
theorem shB_low (r : BitVec 16) (h : r.toNat < 32768) : (shB r).toNat = r.toNat * 2 := by
 have := ref_step r 0 (by omega)
 simp only [BitVec.xor_zero, Nat.add_zero] at this
 rw [this, if_neg (by omega)]
theorem stp_in (r : BitVec 16) (c : UInt8) : (r ^^^ (BitVec.ofNat 16 c.toNat <<< 8)).toNat = r.toNat ^^^ (c.toNat * 256) := by
 have hc := c.toNat_lt
 rw [BitVec.toNat_xor, BitVec.toNat_shiftLeft, BitVec.toNat_ofNat, Nat.mod_eq_of_lt (a := c.toNat) (by omega), Nat.shiftLeft_eq, Nat.mod_eq_of_lt (by omega)]
open Go.RowKit
theorem ofInt_64 (a : Nat) (ha : a < 18446744073709551616) : (BitVec.ofInt 64 (a : Int)).toNat = a := by
 rw [BitVec.ofInt_natCast, BitVec.toNat_ofNat]; exact Nat.mod_eq_of_lt (by omega)
theorem i64_and (a b : Nat) (ha : a < 9223372036854775808) (hb : b < 9223372036854775808) : bits .and .i64 (a : Int) (b : Int) = ((a &&& b : Nat) : Int) := by
 have hx : a &&& b < 2 ^ 63 := Nat.and_lt_two_pow _ (by omega)
 show IntKind.i64.wrap ((BitVec.ofInt 64 (a : Int) &&& BitVec.ofInt 64 (b : Int)).toNat : Int) = _
 rw [BitVec.toNat_and, ofInt_64 a (by omega), ofInt_64 b (by omega)]
 exact IntWalk.i64_in _ (by omega)
theorem i64_or (a b : Nat) (ha : a < 9223372036854775808) (hb : b < 9223372036854775808) : bits .or .i64 (a : Int) (b : Int) = ((a ||| b : Nat) : Int) := by
 have hx : a ||| b < 2 ^ 63 := Nat.or_lt_two_pow (by omega) (by omega)
 show IntKind.i64.wrap ((BitVec.ofInt 64 (a : Int) ||| BitVec.ofInt 64 (b : Int)).toNat : Int) = _
 rw [BitVec.toNat_or, ofInt_64 a (by omega), ofInt_64 b (by omega)]
 exact IntWalk.i64_in _ (by omega)
theorem i64_xor (a b : Nat) (ha : a < 9223372036854775808) (hb : b < 9223372036854775808) : bits .xor .i64 (a : Int) (b : Int) = ((a ^^^ b : Nat) : Int) := by
 have hx : a ^^^ b < 2 ^ 63 := Nat.xor_lt_two_pow (by omega) (by omega)
 show IntKind.i64.wrap ((BitVec.ofInt 64 (a : Int) ^^^ BitVec.ofInt 64 (b : Int)).toNat : Int) = _
 rw [BitVec.toNat_xor, ofInt_64 a (by omega), ofInt_64 b (by omega)]
 exact IntWalk.i64_in _ (by omega)
/-- One bit of a byte. -/
theorem bit_of (c : UInt8) (n : Nat) : bits .and .i64 (wrap64 ((c.toNat : Int) / 2 ^ n)) 1 = ((c.toNat >>> n % 2 : Nat) : Int) := by
 have hc := c.toNat_lt
 have e : (c.toNat : Int) / 2 ^ n = ((c.toNat >>> n : Nat) : Int) := by
  rw [Nat.shiftRight_eq_div_pow]; push_cast; rfl
 have hs : c.toNat >>> n ≤ c.toNat := by rw [Nat.shiftRight_eq_div_pow]; exact Nat.div_le_self _ _
 rw [e]
 generalize c.toNat >>> n = x at *
 rw [IntWalk.wrap64_in _ (by omega)]
 have := i64_and x 1 (by omega) (by omega)
 rw [Go.nat_mask1] at this
 exact this
/-- The reference's step. -/
theorem ref_low (r : BitVec 16) (b : Nat) (hb : b < 2) (h : wrap64 ((r.toNat : Int) * 2 + (b : Int)) < 65536) : wrap64 ((r.toNat : Int) * 2 + (b : Int)) = ((shB r ^^^ BitVec.ofNat 16 b).toNat : Int) := by
 have hr := r.isLt
 rw [IntWalk.wrap64_in _ (by omega)] at h ⊢
 rw [ref_step r b hb, if_neg (by omega)]; push_cast; rfl
theorem ref_top (r : BitVec 16) (b : Nat) (hb : b < 2) (h : 65536 ≤ wrap64 ((r.toNat : Int) * 2 + (b : Int))) : bits .xor .i64 (wrap64 (wrap64 ((r.toNat : Int) * 2 + (b : Int)) - 65536)) 4129 = ((shB r ^^^ BitVec.ofNat 16 b).toNat : Int) := by
 have hr := r.isLt
 have e := IntWalk.wrap64_in ((r.toNat : Int) * 2 + (b : Int)) (by omega)
 rw [e] at h ⊢
 rw [IntWalk.wrap64_in _ (by omega)]
 rw [ref_step r b hb, if_pos (by omega)]
 have := i64_xor (r.toNat * 2 + b - 65536) 4129 (by omega) (by omega)
 rw [← this]
 congr 1
 omega
theorem ref_low0 (r : BitVec 16) (h : wrap64 (wrap64 ((r.toNat : Int) * 2)) < 65536) : wrap64 (wrap64 ((r.toNat : Int) * 2)) = ((shB r).toNat : Int) := by
 have hr := r.isLt
 have e := IntWalk.wrap64_in ((r.toNat : Int) * 2) (by omega)
 rw [e, e] at h ⊢
 rw [shB_low r (by omega)]; push_cast; rfl
theorem ref_top0 (r : BitVec 16) (h : 65536 ≤ wrap64 (wrap64 ((r.toNat : Int) * 2))) : bits .xor .i64 (wrap64 (wrap64 (wrap64 ((r.toNat : Int) * 2)) - 65536)) 4129 = ((shB r).toNat : Int) := by
 have hr := r.isLt
 have e := IntWalk.wrap64_in ((r.toNat : Int) * 2) (by omega)
 rw [e, e] at h ⊢
 rw [IntWalk.wrap64_in _ (by omega), shB_top r (by omega)]
 have := i64_xor (r.toNat * 2 % 65536) 4129 (by omega) (by omega)
 rw [← this]
 congr 1
 omega
open Go.RowKit
def Calm (w w' : World) : Prop := Below w.heap.size w w'
theorem Calm.refl (w : World) : Calm w w := Below.refl _ _
theorem Calm.alloc {a w : World} (h : Calm a w) (o : Obj) : Calm a (w.alloc o) := Below.alloc h (Below.size h) o
theorem Calm.drew {a w : World} (h : Calm a w) : Calm a w.drew := Below.drew h
theorem Calm.of_drew {a w : World} (h : Calm a.drew w) : Calm a w := Below.trans (Calm.refl a).drew h
theorem Calm.setCell {a w : World} (h : Calm a w) {p : Addr} (hp : a.heap.size ≤ p.block) (u : Value) : Calm a (w.setCell p u) := Below.setCell h hp u
theorem Calm.setRow {a w : World} (h : Calm a w) {g : Nat} (hg : a.heap.size ≤ g) (cs : Array Value) : Calm a (w.setRow g cs) :=
 Below.trans h ⟨rfl, rfl, rfl, by simp, fun k hk => setRow_other w g k cs (by omega)⟩
theorem Calm.call {a w w1 : World} (h : Calm a w) (hb : Calm w w1) : Calm a w1 := Below.trans h (Below.mono hb (Below.size h))
theorem Calm.size {a w : World} (h : Calm a w) : a.heap.size ≤ w.heap.size := Below.size h
theorem Calm.block {a w : World} (h : Calm a w) {k : Nat} (hk : k < a.heap.size) : w.heap[k]? = a.heap[k]? := Below.block h k hk
/-- Of such a call: cells, marks, how many blocks. -/
theorem Calm.facts {W w1 : World} (hb : Calm W w1) : (∀ b o, b < W.heap.size → w1.cell? ⟨b, o, none⟩ = W.cell? ⟨b, o, none⟩) ∧ (∀ b o, b < W.heap.size → w1.frozen? ⟨b, o, none⟩ = W.frozen? ⟨b, o, none⟩) ∧ (∀ n : Nat, n < W.heap.size → n < w1.heap.size ∧ n < w1.heap.size + 1 ∧ n < w1.heap.size + 1 + 1 ∧ n < w1.heap.size + 1 + 1 + 1 ∧ n < w1.heap.size + 1 + 1 + 1 + 1) :=
 ⟨fun b o h => Below.cell hb (p := ⟨b, o, none⟩) h, fun b o h => Below.frozen hb (p := ⟨b, o, none⟩) h, fun _ h => by have := Below.size hb; omega⟩
section
variable {P : Program} {ops : Array Oper} {Q : Exit → Act → World → Prop} {md : Region.Mode}
def unlisted (listed : Array Bool) : Nat := listed.toList.countP (· == false)
theorem unlisted_set {listed : Array Bool} {i : Nat} (h : listed.getD i true = false) : unlisted (listed.setIfInBounds i true) + 1 = unlisted listed := by
 have hi : i < listed.size := by
  rcases Nat.lt_or_ge i listed.size with h' | h'
  ·exact h'
  ·simp [Array.getElem?_eq_none h'] at h
 have hv : listed[i] = false := by simpa [hi] using h
 have hm : false ∈ listed.toList := by rw [← hv]; simp
 have hpos : 0 < listed.toList.countP (· == false) := List.countP_pos_iff.2 ⟨false, hm, rfl⟩
 have hl : listed.toList[i]'(by simpa using hi) = false := by simpa using hv
 unfold unlisted
 rw [Array.toList_setIfInBounds, List.countP_set (by simpa using hi), hl]
 simp only [beq_self_eq_true, if_true, show ((true == false) = false) from rfl, Bool.false_eq_true, if_false]
 omega
theorem wpAny_inv (J : Array Bool → Act → World → Prop)
    (hstep : ∀ (listed : Array Bool) (a : Act) (w : World) (i : Nat), J listed a w → i ∈ Region.ready md ops listed → wpOp P ops Q i (fun a' w' => J (listed.setIfInBounds i true) a' w') a w)
    (hend : ∀ (listed : Array Bool) (a : Act) (w : World), J listed a w → Region.ready md ops listed = [] → Q .normal a w) :
    ∀ (fuel : Nat) (listed : Array Bool) (a : Act) (w : World), unlisted listed ≤ fuel → J listed a w → wpAny P md ops Q fuel listed a w
  | 0, listed, a, w, hf, hj => by
    have hr : Region.ready md ops listed = [] := by
      cases h : Region.ready md ops listed with
      | nil => rfl
      | cons i r =>
        have hm : i ∈ Region.ready md ops listed := by rw [h]; simp
        have := unlisted_set (mem_ready.1 hm).1
        omega
    exact ⟨hr, hend _ _ _ hj hr⟩
  | fuel + 1, listed, a, w, hf, hj => by
    refine ⟨fun h0 => hend _ _ _ hj h0, fun i hi => ?_⟩
    have := unlisted_set (mem_ready.1 hi).1
    exact wpOp_mono (fun a' w' h => wpAny_inv J hstep hend fuel _ a' w' (by omega) h) (hstep _ _ _ _ hj hi)
inductive Does where
 |val (v : Value)
 |idle
 |new (z : Array Value) (t : TypeId) (kd : Option Nat := none)
 |fill (k : Nat) (cs : Array Value)
 |look (k : Nat) (v : Value)
def newOut (b : Nat) : Option Nat → Value
 |none => .pointer (some ⟨b, 0, none⟩)
 |some n => .slice (some ⟨b, 0, none⟩) n n
def Does.out (X : Nat → Nat) (i : Nat) : Does → Value
 | .val v => v
 | .idle => undef
 | .new _ _ kd => newOut (X i) kd
 | .fill _ _ => undef
 | .look _ v => v
def noFillB (p : List Does) (k : Nat) : Bool := p.all fun d => match d with | .fill m _ => m != k | _ => true
theorem noFillB_spec {p : List Does} {k : Nat} (h : noFillB p k = true) {j : Nat} {cs : Array Value} : p[j]? ≠ some (.fill k cs) := fun hj => by
 have := List.all_eq_true.1 h _ (List.mem_of_getElem? hj)
 simp at this
def Does.fits (P : Program) (ops : Array Oper) (w0 : World) (X : Nat → Nat) (p : List Does) (o : Oper) (a : Act) : Does → Prop
  | .val v => Region.wanted o (yielded ops a.tmps) = true ∧ ∀ w, Calm w0 w → Oper.quietUpon P (Calm w) w v ((execOp a.eval o).run P w)
  | .idle => Region.wanted o (yielded ops a.tmps) = false
  | .new z t kd => Region.wanted o (yielded ops a.tmps) = true ∧ ∀ w, (execOp a.eval o).run P w = .ok (.value (newOut w.heap.size kd)) (w.alloc (.cells z t))
  | .fill k cs => Region.wanted o (yielded ops a.tmps) = true ∧ o.dst = none ∧ o.after.any (fun e => Region.binds .any e && e.on == k) = true ∧ ∃ z t kd, p[k]? = some (.new z t kd) ∧
      ∀ w, w.heap[X k]? = some (.cells z t (0, 0)) → (execOp a.eval o).run P w = .ok .skip (w.setRow (X k) cs) ∨ (execOp a.eval o).run P w = .ok (.value undef) (w.setRow (X k) cs)
  | .look k v => Region.wanted o (yielded ops a.tmps) = true ∧ o.after.any (fun e => Region.binds .any e && e.on == k) = true ∧ ∃ z t kd, p[k]? = some (.new z t kd) ∧ noFillB p k = true ∧
      ∀ w, Calm w0 w → w.heap[X k]? = some (.cells z t (0, 0)) → Oper.quietUpon P (Calm w) w v ((execOp a.eval o).run P w)
def Plan (P : Program) (ops : Array Oper) (w0 : World) (X : Nat → Nat) (p : List Does) (R : Act → Prop) : Nat → List Oper → List Does → Act → Prop
 |_, [], [], a => R a
 |i, o :: os, d :: ds, a => d.fits P ops w0 X p o a ∧ Plan P ops w0 X p R (i + 1) os ds (a.put o.dst (d.out X i))
 |_, _, _, _ => False
def planB (ops : Array Oper) : Bool :=
  Region.noSelect ops && (List.range ops.size).all fun j => match ops[j]? with
    | none => true
    | some o => o.after.all (fun e => !Region.binds .any e || decide (e.on < j)) &&
        (List.range ops.size).all fun i => match ops[i]? with
          | none => true
          | some x => match x.dst with
            | none => true
            | some d => (!(o.looksAt ops).contains d || (decide (i < j) && o.after.any (fun e => Region.binds .any e && e.on == i))) && (i == j || o.dst != some d)
def rowNow (p : List Does) (listed : Array Bool) (k : Nat) (z : Array Value) : Array Value :=
 match (List.range p.length).findSome? (fun j => if listed.getD j false then (match p[j]? with | some (.fill m cs) => if m == k then some cs else none | _ => none) else none) with
 |some cs => cs
 |none => z
def fillsB (p : List Does) : Bool :=
 (List.range p.length).all fun i => (List.range p.length).all fun j => i == j || match p[i]?, p[j]? with
  |some (.fill m _), some (.fill n _) => m != n
  |_, _ => true
/-- Two frames that hold the same wherever an operation looks: it does the same. -/
theorem same_look {o : Oper} (hs : ∀ cs b, o.op ≠ .select cs b) {a b : Act} (h : ∀ t ∈ o.looksAt ops, a.tmps[t]? = b.tmps[t]?) :
    execOp a.eval o = execOp b.eval o ∧ Region.wanted o (yielded ops a.tmps) = Region.wanted o (yielded ops b.tmps) := by
  constructor
  · refine execOp_congr o hs fun x hx => ?_
    cases x with
    | tmp t =>
      have : t ∈ o.looksAt ops := List.mem_append_left _ (List.mem_filterMap.2 ⟨.tmp t, by simpa using hx, rfl⟩)
      have h1 := h t this
      simp [Act.eval, h1]
    | _ => rfl
  · unfold Region.wanted
    cases hg : o.guard with
    | none => rfl
    | some gw =>
      obtain ⟨g, want⟩ := gw
      have : yielded ops a.tmps g = yielded ops b.tmps g := by
        unfold yielded
        cases ht : (ops[g]?).bind (·.dst) with
        | none => rfl
        | some t =>
          have h1 := h t (by simp [Oper.looksAt, hg, ht])
          simp [h1]
      simp only [this]
theorem put_get (a : Act) (d : Option Tmp) (v : Value) (t : Nat) : (a.put d v).tmps[t]? = if d = some t ∧ t < a.tmps.size then some v else a.tmps[t]? := by
 cases d with
 |none => simp [Act.put]
 |some d =>
  simp only [Act.put, Array.getElem?_setIfInBounds, Option.some.injEq]
  by_cases h : d = t
  ·subst h
   by_cases h2 : d < a.tmps.size
   ·simp [h2]
   ·simp [h2]
  ·simp [h]
theorem put_size (a : Act) (d : Option Tmp) (v : Value) : (a.put d v).tmps.size = a.tmps.size := by cases d <;> simp [Act.put]
theorem put_def (a : Act) (d : Option Tmp) (v : Value) : (a.put d v).defers = a.defers := by cases d <;> simp [Act.put]
structure Agree (ops : Array Oper) (p : List Does) (a0 : Act) (X : Nat → Nat) (S : Nat → Prop) (a : Act) : Prop where
 defers : a.defers = a0.defers
 size : a.tmps.size = a0.tmps.size
 put : ∀ i o d t, ops[i]? = some o → p[i]? = some d → S i → o.dst = some t → t < a0.tmps.size → a.tmps[t]? = some (d.out X i)
 old : ∀ t, (∀ i o, ops[i]? = some o → S i → o.dst ≠ some t) → a.tmps[t]? = a0.tmps[t]?
structure Sound (ops : Array Oper) : Prop where
 noSelect : ∀ (j : Nat) (o : Oper) cs b, ops[j]? = some o → o.op ≠ .select cs b
 before : ∀ (j : Nat) (o : Oper) (e : Edge), ops[j]? = some o → e ∈ o.after → Region.binds .any e = true → e.on < j
 looks : ∀ (j i : Nat) (o x : Oper) (d : Tmp), ops[j]? = some o → ops[i]? = some x → x.dst = some d → d ∈ o.looksAt ops → i < j ∧ ∃ e ∈ o.after, Region.binds .any e = true ∧ e.on = i
 apart : ∀ (j i : Nat) (o x : Oper) (d : Tmp), ops[j]? = some o → ops[i]? = some x → x.dst = some d → o.dst = some d → i = j
theorem planB_sound (h : planB ops = true) : Sound ops := by
 simp only [planB, Bool.and_eq_true, List.all_eq_true, List.mem_range] at h
 obtain ⟨h1, h2⟩ := h
 have lt : ∀ {j : Nat} {o : Oper}, ops[j]? = some o → j < ops.size := fun ho => (Array.getElem?_eq_some_iff.1 ho).1
 refine ⟨fun j o cs b ho => Region.noSelect_spec h1 j o cs b ho, fun j o e ho he hb => ?_, fun j i o x d ho hx hd hl => ?_, fun j i o x d ho hx hd hod => ?_⟩
 ·have := h2 j (lt ho)
  simp only [ho, Bool.and_eq_true, Array.all_eq_true_iff_forall_mem] at this
  have h3 := this.1 e he
  simpa [hb] using h3
 ·have := h2 j (lt ho)
  simp only [ho, Bool.and_eq_true, List.all_eq_true, List.mem_range] at this
  have h3 := this.2 i (lt hx)
  simp only [hx, hd, Bool.and_eq_true] at h3
  have h4 := h3.1
  rw [List.contains_iff_mem.2 hl] at h4
  simp only [Bool.not_true, Bool.false_or, Bool.and_eq_true, decide_eq_true_eq] at h4
  obtain ⟨e, he, hb⟩ := Array.any_eq_true'.1 h4.2
  simp only [Bool.and_eq_true, beq_iff_eq] at hb
  exact ⟨h4.1, e, he, hb⟩
 ·have := h2 j (lt ho)
  simp only [ho, Bool.and_eq_true, List.all_eq_true, List.mem_range] at this
  have h3 := this.2 i (lt hx)
  simp only [hx, hd, Bool.and_eq_true] at h3
  have h4 := h3.2
  simpa [hod] using h4
/-- One operation more. -/
theorem Agree.step {p : List Does} {a0 : Act} {X : Nat → Nat} {S T : Nat → Prop} {a : Act} (hs : Sound ops) (h : Agree ops p a0 X S a) {j : Nat} {o : Oper} {d : Does} (ho : ops[j]? = some o) (hd : p[j]? = some d)
    (hT : ∀ i, T i ↔ (S i ∨ i = j)) : Agree ops p a0 X T (a.put o.dst (d.out X j)) := by
  refine ⟨by rw [put_def, h.defers], by rw [put_size, h.size], fun i oi di t hoi hdi hi ht hlt => ?_, fun t ht => ?_⟩
  · rw [put_get]
    rcases (hT i).1 hi with hi | rfl
    · by_cases hc : o.dst = some t ∧ t < a.tmps.size
      · rw [if_pos hc]
        obtain rfl := hs.apart j i o oi t ho hoi ht hc.1
        rw [hd] at hdi
        cases hdi
        rfl
      · rw [if_neg hc]
        exact h.put i oi di t hoi hdi hi ht hlt
    · rw [ho] at hoi; cases hoi
      rw [hd] at hdi; cases hdi
      rw [if_pos ⟨ht, by rw [h.size]; exact hlt⟩]
  · rw [put_get, if_neg (fun hc => ht j o ho ((hT j).2 (Or.inr rfl)) hc.1)]
    exact h.old t fun i oi hoi hi => ht i oi hoi ((hT i).2 (Or.inl hi))
/-- Off the plan: what each operation does in a frame of the text's order, and the frame at the end. -/
theorem plan_get {w0 : World} {X : Nat → Nat} {p : List Does} {a0 : Act} {R : Act → Prop} (hs : Sound ops) : ∀ (os : List Oper) (ds : List Does) (i : Nat) (a : Act), os = ops.toList.drop i → ds = p.drop i →
    Agree ops p a0 X (· < i) a → Plan P ops w0 X p R i os ds a →
    (∀ j o, i ≤ j → ops[j]? = some o → ∃ d b, p[j]? = some d ∧ Agree ops p a0 X (· < j) b ∧ d.fits P ops w0 X p o b) ∧ (∃ b, Agree ops p a0 X (· < ops.size) b ∧ R b) ∧ (i ≤ ops.size → i ≤ p.length → p.length = ops.size)
  | [], [], i, a, hos, hds, ha, h => by
    have hl : ops.size ≤ i := by have := congrArg List.length hos; simp at this; omega
    refine ⟨fun j o hj hoj => ?_, ⟨a, ⟨ha.defers, ha.size, fun k o d t ho hd hk ht hlt => ha.put k o d t ho hd (by omega) ht hlt, fun t ht => ha.old t fun k o ho hk => ht k o ho ?_⟩, h⟩, fun hi hi2 => ?_⟩
    · have := (Array.getElem?_eq_some_iff.1 hoj).1; omega
    · exact (Array.getElem?_eq_some_iff.1 ho).1
    · have := congrArg List.length hds; simp at this; omega
  | [], d :: ds, i, a, _, _, _, h => absurd h (by simp [Plan])
  | o :: os, [], i, a, _, _, _, h => absurd h (by simp [Plan])
  | o :: os, d :: ds, i, a, hos, hds, ha, h => by
    have hlen : i < ops.size := by have := congrArg List.length hos; simp at this; omega
    have ho : ops[i]? = some o := by
      have := congrArg (·[0]?) hos
      simpa using this.symm
    have hd : p[i]? = some d := by
      have := congrArg (·[0]?) hds
      simpa using this.symm
    have hos' : os = ops.toList.drop (i + 1) := by rw [← List.tail_drop, ← hos]; rfl
    have hds' : ds = p.drop (i + 1) := by rw [← List.tail_drop, ← hds]; rfl
    obtain ⟨h1, h2⟩ := h
    have hplen : i < p.length := by have := congrArg List.length hds; simp at this; omega
    obtain ⟨g1, g2, g3⟩ := plan_get hs os ds (i + 1) (a.put o.dst (d.out X i)) hos' hds' (ha.step hs ho hd (fun k => by omega)) h2
    refine ⟨fun j oj hj hoj => ?_, g2, fun _ _ => g3 (by omega) (by omega)⟩
    rcases Nat.eq_or_lt_of_le hj with rfl | hj
    · rw [ho] at hoj; cases hoj
      exact ⟨d, a, hd, ha, h1⟩
    · exact g1 j oj hj hoj
theorem rowNow_same {p : List Does} {listed : Array Bool} {j k : Nat} {z : Array Value} (h : ∀ m cs, p[j]? = some (.fill m cs) → m ≠ k) : rowNow p (listed.setIfInBounds j true) k z = rowNow p listed k z := by
 unfold rowNow
 have : (fun i => if (listed.setIfInBounds j true).getD i false then (match p[i]? with | some (Does.fill m cs) => if m == k then some cs else none | _ => none) else none) = (fun i => if listed.getD i false then (match p[i]? with | some (Does.fill m cs) => if m == k then some cs else none | _ => none) else none) := by
  funext i
  by_cases hij : j = i
  ·subst hij
   have hn : (match p[j]? with | some (Does.fill m cs) => if m == k then some cs else none | _ => none) = none := by
    cases hp : p[j]? with
    |none => rfl
    |some d =>
     cases d with
     |fill m cs => simp [h m cs hp]
     |_ => rfl
   simp only [hn, ite_self]
  ·rw [getD_set_ne false hij]
 rw [this]
theorem fillsB_spec {p : List Does} (h : fillsB p = true) {i j m : Nat} {cs cs' : Array Value} (hi : p[i]? = some (.fill m cs)) (hj : p[j]? = some (.fill m cs')) : i = j := by
 simp only [fillsB, List.all_eq_true, List.mem_range] at h
 have := h i (List.getElem?_eq_some_iff.1 hi).1 j (List.getElem?_eq_some_iff.1 hj).1
 simpa [hi, hj] using this
theorem rowNow_fill {p : List Does} (h : fillsB p = true) {listed : Array Bool} {j k : Nat} {z cs : Array Value} (hj : p[j]? = some (.fill k cs)) (hl : listed.getD j false = true) : rowNow p listed k z = cs := by
 unfold rowNow
 have hjl : j < p.length := (List.getElem?_eq_some_iff.1 hj).1
 have hsome : ((List.range p.length).findSome? (fun j => if listed.getD j false then (match p[j]? with | some (Does.fill m cs) => if m == k then some cs else none | _ => none) else none)).isSome = true := by
  rw [List.findSome?_isSome_iff]
  exact ⟨j, List.mem_range.2 hjl, by simp only [hl, if_true, hj]; simp⟩
 cases hf : (List.range p.length).findSome? (fun j => if listed.getD j false then (match p[j]? with | some (Does.fill m cs) => if m == k then some cs else none | _ => none) else none) with
 |none => rw [hf] at hsome; cases hsome
 |some c =>
  obtain ⟨i, hi, he⟩ := List.exists_of_findSome?_eq_some hf
  simp only
  split at he
  ·split at he
   ·rename_i m c' hp
    split at he
    ·rename_i hm
     cases he
     have hm' : m = k := by simpa using hm
     subst hm'
     obtain rfl := fillsB_spec h hj hp
     rw [hj] at hp
     cases hp
     rfl
    ·cases he
   ·cases he
  ·cases he
theorem rowNow_none {p : List Does} {listed : Array Bool} {k : Nat} {z : Array Value} (h : ∀ j cs, p[j]? = some (.fill k cs) → listed.getD j false = false) : rowNow p listed k z = z := by
 unfold rowNow
 cases hf : (List.range p.length).findSome? (fun j => if listed.getD j false then (match p[j]? with | some (Does.fill m cs) => if m == k then some cs else none | _ => none) else none) with
 |none => rfl
 |some c =>
  obtain ⟨i, hi, he⟩ := List.exists_of_findSome?_eq_some hf
  split at he
  ·rename_i hl
   split at he
   ·rename_i m c' hp
    split at he
    ·rename_i hm
     have hm' : m = k := by simpa using hm
     subst hm'
     rw [h i c' hp] at hl
     cases hl
    ·cases he
   ·cases he
  ·cases he
structure Rows0 (p : List Does) (w0 : World) (X : Nat → Nat) (listed : Array Bool) (w : World) : Prop where
 calm : Calm w0 w
 row : ∀ i z t {kd}, p[i]? = some (.new z t kd) → listed.getD i false = true → w0.heap.size ≤ X i ∧ w.heap[X i]? = some (.cells (rowNow p listed i z) t (0, 0))
 apart : ∀ i j z t z' t' {kd kd'}, p[i]? = some (.new z t kd) → p[j]? = some (.new z' t' kd') → listed.getD i false = true → listed.getD j false = true → i ≠ j → X i ≠ X j
structure Inv (ops : Array Oper) (p : List Does) (a0 : Act) (w0 : World) (X : Nat → Nat) (listed : Array Bool) (a : Act) (w : World) : Prop where
 size : listed.size = ops.size
 act : Agree ops p a0 X (fun i => listed.getD i false = true) a
 rows : Rows0 p w0 X listed w
 down : ∀ i o e, ops[i]? = some o → listed.getD i false = true → e ∈ o.after → Region.binds .any e = true → listed.getD e.on false = true
theorem getD_set_iff {listed : Array Bool} {i j : Nat} (hi : i < listed.size) : (listed.setIfInBounds i true).getD j false = true ↔ (listed.getD j false = true ∨ j = i) := by
 by_cases h : i = j
 ·subst h; simp [hi]
 ·rw [getD_set_ne false h]
  exact ⟨Or.inl, fun h' => h'.resolve_right (fun e => h e.symm)⟩
theorem Inv.step {p : List Does} {a0 : Act} {w0 : World} {R : (Nat → Nat) → Act → Prop} {Q : Exit → Act → World → Prop} (hs : Sound ops) (hf : fillsB p = true)
    (hp : ∀ X, Plan P ops w0 X p (R X) 0 ops.toList p a0) {X : Nat → Nat} {listed : Array Bool} {a : Act} {w : World} {j : Nat} (h : Inv ops p a0 w0 X listed a w) (hj : j ∈ Region.ready .any ops listed) :
    wpOp P ops Q j (fun a' w' => ∃ X', Inv ops p a0 w0 X' (listed.setIfInBounds j true) a' w') a w := by
  obtain ⟨hun, o, ho, hall⟩ := mem_ready.1 hj
  have hjs : j < listed.size := by rw [h.size]; exact (Array.getElem?_eq_some_iff.1 ho).1
  have hnl : listed.getD j false = false := by
    rw [Array.getD_eq_getD_getElem?] at hun ⊢
    rw [Array.getElem?_eq_getElem hjs] at hun ⊢
    simpa using hun
  obtain ⟨g1, _, g3⟩ := plan_get (X := X) hs ops.toList p 0 a0 rfl rfl ⟨rfl, rfl, fun i o d t _ _ hi => absurd hi (Nat.not_lt_zero _), fun t _ => rfl⟩ (hp X)
  obtain ⟨d, b, hd, hb, hfit⟩ := g1 j o (Nat.zero_le _) ho
  have hlook : ∀ t ∈ o.looksAt ops, a.tmps[t]? = b.tmps[t]? := fun t ht => by
    by_cases hw : ∃ (i : Nat) (x : Oper), ops[i]? = some x ∧ x.dst = some t
    · obtain ⟨i, x, hx, hxt⟩ := hw
      obtain ⟨hij, e, he, hbe, rfl⟩ := hs.looks j i o x t ho hx hxt ht
      have hli := hall e he hbe
      have hpi : ∃ di, p[e.on]? = some di := by
        have := g3 (Nat.zero_le _) (Nat.zero_le _)
        have hlt : e.on < p.length := by rw [this]; exact (Array.getElem?_eq_some_iff.1 hx).1
        exact ⟨p[e.on], List.getElem?_eq_getElem hlt⟩
      obtain ⟨di, hdi⟩ := hpi
      by_cases hlt : t < a0.tmps.size
      · rw [h.act.put e.on x di t hx hdi hli hxt hlt, hb.put e.on x di t hx hdi hij hxt hlt]
      · have e1 : a.tmps[t]? = none := Array.getElem?_eq_none (by rw [h.act.size]; exact Nat.le_of_not_lt hlt)
        have e2 : b.tmps[t]? = none := Array.getElem?_eq_none (by rw [hb.size]; exact Nat.le_of_not_lt hlt)
        rw [e1, e2]
    · have hno : ∀ (i : Nat) (x : Oper), ops[i]? = some x → x.dst ≠ some t := fun i x hx hxt => hw ⟨i, x, hx, hxt⟩
      rw [h.act.old t fun i x hx _ => hno i x hx, hb.old t fun i x hx _ => hno i x hx]
  obtain ⟨hex, hwant⟩ := same_look (hs.noSelect j o · · ho) hlook
  have hdown : ∀ i o' e, ops[i]? = some o' → (listed.setIfInBounds j true).getD i false = true → e ∈ o'.after → Region.binds .any e = true → (listed.setIfInBounds j true).getD e.on false = true := fun i o' e ho' hi he hbe => by
    rcases (getD_set_iff hjs).1 hi with hi | rfl
    · exact getD_set_true (h.down i o' e ho' hi he hbe)
    · rw [ho] at ho'; cases ho'
      exact getD_set_true (hall e he hbe)
  have hact : ∀ Y : Nat → Nat, (∀ i, i ≠ j → Y i = X i) → Agree ops p a0 Y (fun i => (listed.setIfInBounds j true).getD i false = true) (a.put o.dst (d.out Y j)) := fun Y hY => by
    have ha : Agree ops p a0 Y (fun i => listed.getD i false = true) a := ⟨h.act.defers, h.act.size, fun i oi di t hoi hdi hi ht hlt => by
      have hij : i ≠ j := fun e => by subst e; rw [hnl] at hi; cases hi
      rw [h.act.put i oi di t hoi hdi hi ht hlt]
      cases di <;> simp [Does.out, hY i hij], h.act.old⟩
    exact ha.step hs ho hd fun i => getD_set_iff hjs
  have rowsSame : ∀ w', Calm w w' → (∀ z t kd, d ≠ .new z t kd) → (∀ k cs, d ≠ .fill k cs) → Rows0 p w0 X (listed.setIfInBounds j true) w' := fun w' hw' hdn hdf => by
    have hne : ∀ i z t kd, p[i]? = some (.new z t kd) → (listed.setIfInBounds j true).getD i false = true → listed.getD i false = true := fun i z t kd hi hl => by
      rcases (getD_set_iff hjs).1 hl with hl | rfl
      · exact hl
      · rw [hd] at hi; cases hi; exact absurd rfl (hdn z t kd)
    refine ⟨h.rows.calm.call hw', fun i z t kd hi hl => ?_, fun i k z t z' t' kd kd' hi hk hl hl' hik => h.rows.apart i k z t z' t' hi hk (hne i z t kd hi hl) (hne k z' t' kd' hk hl') hik⟩
    obtain ⟨r1, r2⟩ := h.rows.row i z t hi (hne i z t kd hi hl)
    refine ⟨r1, ?_⟩
    rw [rowNow_same fun m cs hm => by rw [hd] at hm; cases hm; exact absurd rfl (hdf m cs)]
    rw [hw'.block (Array.getElem?_eq_some_iff.1 r2).1, r2]
  unfold wpOp
  simp only [ho]
  cases d with
  | val v =>
    obtain ⟨f1, f2⟩ := hfit
    rw [hwant, f1, if_pos rfl]
    left
    unfold Oper.wp
    rw [hex]
    have f3 := f2 w h.rows.calm
    have fin : ∀ w', Calm w w' → ∃ X', Inv ops p a0 w0 X' (listed.setIfInBounds j true) (a.put o.dst v) w' := fun w' hw' =>
      ⟨X, by simp [h.size], hact X fun _ _ => rfl, rowsSame w' hw' (fun _ _ _ e => by cases e) (fun _ _ e => by cases e), hdown⟩
    generalize (execOp b.eval o).run P w = r at *
    cases r with
    | ok n w' =>
      cases n <;> simp only [Oper.quietUpon] at f3 <;> simp only [Oper.upon]
      case value u => obtain ⟨e1, e2⟩ := f3; rw [e1, e2]; exact fin w (Calm.refl w)
      case skip => obtain ⟨e1, e2⟩ := f3; rw [e1, ← e2]; exact fin w (Calm.refl w)
      case enter f args =>
        obtain ⟨e1, hc⟩ := f3
        rw [e1]
        exact hc.mono fun e w'' ⟨he, hw''⟩ => by subst he; exact fin w'' hw''
    | halt x w' => simp only [Oper.quietUpon] at f3
  | look k v =>
    obtain ⟨f1, f3, z, t, kd, hk, hnf, f2⟩ := hfit
    rw [hwant, f1, if_pos rfl]
    left
    obtain ⟨e, he, hbe⟩ := Array.any_eq_true'.1 f3
    simp only [Bool.and_eq_true, beq_iff_eq] at hbe
    have hlk : listed.getD k false = true := by rw [← hbe.2]; exact hall e he hbe.1
    obtain ⟨r1, r2⟩ := h.rows.row k z t hk hlk
    rw [rowNow_none fun m cs' hm => absurd hm (noFillB_spec hnf)] at r2
    unfold Oper.wp
    rw [hex]
    have f4 := f2 w h.rows.calm r2
    have fin : ∀ w', Calm w w' → ∃ X', Inv ops p a0 w0 X' (listed.setIfInBounds j true) (a.put o.dst v) w' := fun w' hw' =>
      ⟨X, by simp [h.size], hact X fun _ _ => rfl, rowsSame w' hw' (fun _ _ _ e => by cases e) (fun _ _ e => by cases e), hdown⟩
    generalize (execOp b.eval o).run P w = r at *
    cases r with
    | ok n w' =>
      cases n <;> simp only [Oper.quietUpon] at f4 <;> simp only [Oper.upon]
      case value u => obtain ⟨e1, e2⟩ := f4; rw [e1, e2]; exact fin w (Calm.refl w)
      case skip => obtain ⟨e1, e2⟩ := f4; rw [e1, ← e2]; exact fin w (Calm.refl w)
      case enter f args =>
        obtain ⟨e1, hc⟩ := f4
        rw [e1]
        exact hc.mono fun e w'' ⟨he, hw''⟩ => by subst he; exact fin w'' hw''
    | halt x w' => simp only [Oper.quietUpon] at f4
  | idle =>
    have f1 : Region.wanted o (yielded ops b.tmps) = false := hfit
    rw [hwant, f1, if_neg (by simp)]
    exact ⟨X, by simp [h.size], hact X fun _ _ => rfl, rowsSame w (Calm.refl w) (fun _ _ _ e => by cases e) (fun _ _ e => by cases e), hdown⟩
  | new z t kd =>
    obtain ⟨f1, f2⟩ := hfit
    rw [hwant, f1, if_pos rfl]
    left
    unfold Oper.wp
    rw [hex, f2 w]
    simp only [Oper.upon]
    let Y : Nat → Nat := fun i => if i = j then w.heap.size else X i
    have hYj : Y j = w.heap.size := by simp [Y]
    have hY : ∀ i, i ≠ j → Y i = X i := fun i hi => by simp [Y, hi]
    have ha := hact Y hY
    simp only [Does.out, hYj] at ha
    have hcw := h.rows.calm
    refine ⟨Y, by simp [h.size], ha, ⟨hcw.alloc _, fun i z' t' _ hi hl => ?_, fun i k z1 t1 z2 t2 _ _ hi hk hl hl' hik => ?_⟩, hdown⟩
    · rcases (getD_set_iff hjs).1 hl with hl1 | rfl
      · have hij : i ≠ j := fun e => by subst e; rw [hnl] at hl1; cases hl1
        obtain ⟨r1, r2⟩ := h.rows.row i z' t' hi hl1
        rw [hY i hij, rowNow_same fun m cs hm => by rw [hd] at hm; cases hm]
        exact ⟨r1, by rw [Below.heap_alloc _ _ _ (Array.getElem?_eq_some_iff.1 r2).1, r2]⟩
      · rw [hd] at hi; cases hi
        refine ⟨by rw [hYj]; exact hcw.size, ?_⟩
        rw [hYj, rowNow_none]
        · show (w.heap.push _)[w.heap.size]? = _
          simp
        · intro m cs hm
          cases hl2 : (listed.setIfInBounds i true).getD m false with
          | false => rfl
          | true =>
            have hlt : m < ops.size := by
              have := g3 (Nat.zero_le _) (Nat.zero_le _)
              rw [← this]; exact (List.getElem?_eq_some_iff.1 hm).1
            obtain ⟨dm, bm, hdm, _, hfm⟩ := g1 m ops[m] (Nat.zero_le _) (Array.getElem?_eq_getElem hlt)
            rw [hm] at hdm; cases hdm
            obtain ⟨_, _, haf, _⟩ := hfm
            obtain ⟨e, he, hbe⟩ := Array.any_eq_true'.1 haf
            simp only [Bool.and_eq_true, beq_iff_eq] at hbe
            have hmi : m ≠ i := fun e' => by subst e'; rw [hd] at hm; cases hm
            have hlm : listed.getD m false = true := ((getD_set_iff hjs).1 hl2).resolve_right hmi
            have := h.down m ops[m] e (Array.getElem?_eq_getElem hlt) hlm he hbe.1
            rw [hbe.2, hnl] at this
            cases this
    · have key : ∀ i z t kd, p[i]? = some (.new z t kd) → listed.getD i false = true → X i < w.heap.size := fun i z t _ hi hl => (Array.getElem?_eq_some_iff.1 (h.rows.row i z t hi hl).2).1
      rcases (getD_set_iff hjs).1 hl with hl1 | rfl
      · have hij : i ≠ j := fun e => by subst e; rw [hnl] at hl1; cases hl1
        rcases (getD_set_iff hjs).1 hl' with hl2 | rfl
        · have hkj : k ≠ j := fun e => by subst e; rw [hnl] at hl2; cases hl2
          rw [hY i hij, hY k hkj]
          exact h.rows.apart i k z1 t1 z2 t2 hi hk hl1 hl2 hik
        · rw [hY i hij, hYj]
          have := key i z1 t1 _ hi hl1
          omega
      · rcases (getD_set_iff hjs).1 hl' with hl2 | rfl
        · have hkj : k ≠ i := Ne.symm hik
          rw [hYj, hY k hkj]
          have := key k z2 t2 _ hk hl2
          omega
        · exact absurd rfl hik
  | fill k cs =>
    obtain ⟨f1, f0, f3, z, t, kd, hk, f2⟩ := hfit
    rw [hwant, f1, if_pos rfl]
    left
    obtain ⟨e, he, hbe⟩ := Array.any_eq_true'.1 f3
    simp only [Bool.and_eq_true, beq_iff_eq] at hbe
    have hlk : listed.getD k false = true := by rw [← hbe.2]; exact hall e he hbe.1
    obtain ⟨r1, r2⟩ := h.rows.row k z t hk hlk
    rw [rowNow_none fun m cs' hm => by
      cases hl2 : listed.getD m false with
      | false => rfl
      | true => rw [fillsB_spec hf hm hd] at hl2; rw [hnl] at hl2; cases hl2] at r2
    have fin : ∃ X', Inv ops p a0 w0 X' (listed.setIfInBounds j true) (a.put o.dst undef) (w.setRow (X k) cs) := by
      have hlist : ∀ i z t kd, p[i]? = some (.new z t kd) → (listed.setIfInBounds j true).getD i false = true → listed.getD i false = true := fun i z t kd hi hl => by
        rcases (getD_set_iff hjs).1 hl with hl | rfl
        · exact hl
        · rw [hd] at hi; cases hi
      refine ⟨X, by simp [h.size], hact X fun _ _ => rfl, ⟨h.rows.calm.setRow r1 cs, fun i z' t' _ hi hl => ?_, fun i k z t z' t' _ _ hi hk hl hl' hik => h.rows.apart i k z t z' t' hi hk (hlist i z t _ hi hl) (hlist k z' t' _ hk hl') hik⟩, hdown⟩
      obtain ⟨q1, q2⟩ := h.rows.row i z' t' hi (hlist i z' t' _ hi hl)
      refine ⟨q1, ?_⟩
      by_cases hik : i = k
      · subst hik
        rw [hk] at hi; cases hi
        rw [rowNow_fill hf hd (by simp [hjs]), setRow_heap w (X i) _ cs t (0, 0) r2]
      · rw [setRow_other w _ _ cs (h.rows.apart i k z' t' z t hi hk (hlist i z' t' _ hi hl) hlk hik)]
        rw [rowNow_same fun m cs' hm => by rw [hd] at hm; cases hm; exact fun e => hik e.symm]
        exact q2
    unfold Oper.wp
    rw [hex]
    rcases f2 w r2 with f2 | f2 <;> rw [f2] <;> simp only [Oper.upon] <;> exact fin
theorem all_listed (hs : Sound ops) {listed : Array Bool} (h : Region.ready .any ops listed = []) : ∀ (n i : Nat), i ≤ n → i < ops.size → listed.size = ops.size → listed.getD i false = true := by
 intro n
 induction n with
 |zero =>
  intro i hi hlt hsz
  cases hl : listed.getD i false with
  |true => rfl
  |false =>
   have : i ∈ Region.ready .any ops listed := mem_ready.2 ⟨by
    have : i < listed.size := by omega
    simpa [this] using hl, ops[i], Array.getElem?_eq_getElem hlt, fun e he hb => by
     have := hs.before i ops[i] e (Array.getElem?_eq_getElem hlt) he hb
     omega⟩
   rw [h] at this
   cases this
 |succ n ih =>
  intro i hi hlt hsz
  cases hl : listed.getD i false with
  |true => rfl
  |false =>
   have : i ∈ Region.ready .any ops listed := mem_ready.2 ⟨by
    have : i < listed.size := by omega
    simpa [this] using hl, ops[i], Array.getElem?_eq_getElem hlt, fun e he hb => by
     have := hs.before i ops[i] e (Array.getElem?_eq_getElem hlt) he hb
     exact ih e.on (by omega) (by omega) hsz⟩
   rw [h] at this
   cases this
theorem Agree.same {p : List Does} {a0 : Act} {X : Nat → Nat} {S T : Nat → Prop} {a b : Act} (hST : ∀ i, i < ops.size → (S i ∧ T i)) (hp : ops.size ≤ p.length) (ha : Agree ops p a0 X S a) (hb : Agree ops p a0 X T b) : a = b := by
 cases a with
 |mk ta da =>
 cases b with
 |mk tb db =>
 have h1 : da = db := by have := ha.defers; have := hb.defers; simp_all
 have h2 : ta = tb := by
  apply Array.ext_getElem?
  intro t
  by_cases hw : ∃ (i : Nat) (x : Oper), ops[i]? = some x ∧ x.dst = some t
  ·obtain ⟨i, x, hx, hxt⟩ := hw
   have hi : i < ops.size := (Array.getElem?_eq_some_iff.1 hx).1
   by_cases hlt : t < a0.tmps.size
   ·have e1 := ha.put i x p[i] t hx (List.getElem?_eq_getElem (by omega)) (hST i hi).1 hxt hlt
    have e2 := hb.put i x p[i] t hx (List.getElem?_eq_getElem (by omega)) (hST i hi).2 hxt hlt
    exact e1.trans e2.symm
   ·have s1 := ha.size
    have s2 := hb.size
    simp only at s1 s2
    have e1 : ta[t]? = none := Array.getElem?_eq_none (by omega)
    have e2 : tb[t]? = none := Array.getElem?_eq_none (by omega)
    rw [e1, e2]
  ·have hno : ∀ (i : Nat) (x : Oper), ops[i]? = some x → x.dst ≠ some t := fun i x hx hxt => hw ⟨i, x, hx, hxt⟩
   have e1 := ha.old t fun i x hx _ => hno i x hx
   have e2 := hb.old t fun i x hx _ => hno i x hx
   exact e1.trans e2.symm
 rw [h1, h2]
def rowEnd (p : List Does) (i : Nat) (z : Array Value) : Array Value :=
 match (List.range p.length).findSome? (fun j => match p[j]? with | some (Does.fill m cs) => if m == i then some cs else none | _ => none) with
 |some cs => cs
 |none => z
structure Behind (p : List Does) (w0 : World) (X : Nat → Nat) (w : World) : Prop where
 calm : Calm w0 w
 row : ∀ i z t {kd}, p[i]? = some (.new z t kd) → w0.heap.size ≤ X i ∧ w.heap[X i]? = some (.cells (rowEnd p i z) t (0, 0))
 apart : ∀ i j z t z' t' {kd kd'}, p[i]? = some (.new z t kd) → p[j]? = some (.new z' t' kd') → i ≠ j → X i ≠ X j
theorem rowNow_end {p : List Does} {listed : Array Bool} (h : ∀ i, i < p.length → listed.getD i false = true) (i : Nat) (z : Array Value) : rowNow p listed i z = rowEnd p i z := by
 have key : ∀ l : List Nat, (∀ j, j ∈ l → j < p.length) → l.findSome? (fun j => if listed.getD j false then (match p[j]? with | some (Does.fill m cs) => if m == i then some cs else none | _ => none) else none) = l.findSome? (fun j => match p[j]? with | some (Does.fill m cs) => if m == i then some cs else none | _ => none) := by
  intro l
  induction l with
  |nil => intro _; rfl
  |cons j l ih =>
   intro hl
   simp only [List.findSome?_cons, h j (hl j (by simp)), if_true]
   rw [ih fun k hk => hl k (by simp [hk])]
 unfold rowNow rowEnd
 rw [key _ fun j hj => List.mem_range.1 hj]
/-- A REGION THAT DRAWS ITS ORDER, BY A PLAN: one walk in the text's order serves every order. -/
theorem wp_region_plan {id : Nat} {Q : Exit → Act → World → Prop} {a0 : Act} {w0 : World} {l : List Oper} (p : List Does) (hm : P.follows .mixedOrders = true) (hB : planB l.toArray = true) (hf : fillsB p = true)
    (hp : ∀ X : Nat → Nat, Plan P l.toArray w0.drew X p (fun a => ∀ w', Behind p w0.drew X w' → Q .normal a w') 0 l p a0) : (Code.region id l.toArray true).wp P Q a0 w0 := by
  have hs := planB_sound hB
  refine wp_region_any hm (wpAny_inv (fun listed a w => ∃ X, Inv l.toArray p a0 w0.drew X listed a w) (fun listed a w j h hj => ?_) (fun listed a w h h0 => ?_) _ _ _ _ (by simp [unlisted, List.countP_replicate]) ⟨fun _ => 0, by simp, ?_, ⟨Calm.refl _, ?_, ?_⟩, ?_⟩)
  · obtain ⟨X, h⟩ := h
    exact Inv.step hs hf hp h hj
  · obtain ⟨X, h⟩ := h
    have hall := fun i (hi : i < l.toArray.size) => all_listed hs h0 i i (Nat.le_refl _) hi h.size
    obtain ⟨_, ⟨b, hb, hR⟩, g3⟩ := plan_get (X := X) hs l p 0 a0 rfl rfl ⟨rfl, rfl, fun i o d t _ _ hi => absurd hi (Nat.not_lt_zero _), fun t _ => rfl⟩ (hp X)
    have hlen := g3 (Nat.zero_le _) (Nat.zero_le _)
    obtain rfl := Agree.same (fun i hi => ⟨hall i hi, hi⟩) (by omega) h.act hb
    refine hR w ⟨h.rows.calm, fun i z t _ hi => ?_, fun i j z t z' t' _ _ hi hj hij => ?_⟩
    · have hlt : i < l.toArray.size := by rw [← hlen]; exact (List.getElem?_eq_some_iff.1 hi).1
      have := h.rows.row i z t hi (hall i hlt)
      rw [rowNow_end (fun k hk => hall k (by omega))] at this
      exact this
    · have hlt : i < l.toArray.size := by rw [← hlen]; exact (List.getElem?_eq_some_iff.1 hi).1
      have hlt' : j < l.toArray.size := by rw [← hlen]; exact (List.getElem?_eq_some_iff.1 hj).1
      exact h.rows.apart i j z t z' t' hi hj (hall i hlt) (hall j hlt') hij
  · refine ⟨rfl, rfl, fun i o d t _ _ hi => ?_, fun _ _ => rfl⟩
    simp [Array.getElem?_replicate] at hi
    split at hi <;> simp at hi
  · intro i z t _ _ hi
    simp [Array.getElem?_replicate] at hi
    split at hi <;> simp at hi
  · intro i j z t z' t' _ _ _ _ hi
    simp [Array.getElem?_replicate] at hi
    split at hi <;> simp at hi
  · intro i o e _ hi
    simp [Array.getElem?_replicate] at hi
    split at hi <;> simp at hi
section
variable {w0 : World} {X : Nat → Nat} {p : List Does} {R : Act → Prop}
theorem plan_val {i : Nat} {o : Oper} {os : List Oper} {ds : List Does} {a : Act} {v : Value} (h1 : Region.wanted o (yielded ops a.tmps) = true) (h2 : ∀ w, Calm w0 w → Oper.quietUpon P (Calm w) w v ((execOp a.eval o).run P w))
    (h3 : Plan P ops w0 X p R (i + 1) os ds (a.put o.dst v)) : Plan P ops w0 X p R i (o :: os) (.val v :: ds) a := ⟨⟨h1, h2⟩, h3⟩
/-- A slice literal of records. -/
theorem plan_lit {i : Nat} {o : Oper} {os : List Oper} {ds : List Does} {a : Act} {z : Array Value} {t : TypeId} {n : Nat} (h1 : Region.wanted o (yielded ops a.tmps) = true)
    (h2 : ∀ w, (execOp a.eval o).run P w = .ok (.value (.slice (some ⟨w.heap.size, 0, none⟩) n n)) (w.alloc (.cells z t)))
    (h3 : Plan P ops w0 X p R (i + 1) os ds (a.put o.dst (.slice (some ⟨X i, 0, none⟩) n n))) : Plan P ops w0 X p R i (o :: os) (.new z t (some n) :: ds) a := ⟨⟨h1, h2⟩, h3⟩
/-- What is read off a new block. -/
theorem plan_look {i : Nat} {o : Oper} {os : List Oper} {ds : List Does} {a : Act} {k : Nat} {v : Value} {z : Array Value} {t : TypeId} {kd : Option Nat} (h1 : Region.wanted o (yielded ops a.tmps) = true)
    (ha : o.after.any (fun e => Region.binds .any e && e.on == k) = true) (hk : p[k]? = some (.new z t kd)) (hn : noFillB p k = true)
    (h2 : ∀ w, Calm w0 w → w.heap[X k]? = some (.cells z t (0, 0)) → Oper.quietUpon P (Calm w) w v ((execOp a.eval o).run P w))
    (h3 : Plan P ops w0 X p R (i + 1) os ds (a.put o.dst v)) : Plan P ops w0 X p R i (o :: os) (.look k v :: ds) a := ⟨⟨h1, ha, z, t, kd, hk, hn, h2⟩, h3⟩
theorem plan_end {i : Nat} {a : Act} (h : R a) : Plan P ops w0 X p R i [] [] a := h
end
end
open Go.RowKit
section
variable {P : Program} {ops : Array Oper} {w0 : World} {F g : Nat} {z : Array Value} {t : TypeId}
def Does.fitsO (P : Program) (ops : Array Oper) (w0 : World) (F g : Nat) (z : Array Value) (t : TypeId) (o : Oper) (a : Act) : Does → Prop
  | .val v => Region.wanted o (yielded ops a.tmps) = true ∧ ∀ w, Below F w0 w → Oper.quietUpon P (Calm w) w v ((execOp a.eval o).run P w)
  | .idle => Region.wanted o (yielded ops a.tmps) = false
  | .fill _ cs => Region.wanted o (yielded ops a.tmps) = true ∧ o.dst = none ∧
      ∀ w, w.heap[g]? = some (.cells z t (0, 0)) → (execOp a.eval o).run P w = .ok .skip (w.setRow g cs)
  | _ => False
def PlanO (P : Program) (ops : Array Oper) (w0 : World) (F g : Nat) (z : Array Value) (t : TypeId) (R : Act → Prop) : Nat → List Oper → List Does → Act → Prop
 |_, [], [], a => R a
 |i, o :: os, d :: ds, a => d.fitsO P ops w0 F g z t o a ∧ PlanO P ops w0 F g z t R (i + 1) os ds (a.put o.dst (d.out (fun _ => 0) i))
 |_, _, _, _ => False
def oneFillB (p : List Does) (s : Nat) : Bool := (List.range p.length).all fun j => j == s || match p[j]? with | some (.fill _ _) => false | _ => true
theorem oneFillB_spec {p : List Does} {s : Nat} (h : oneFillB p s = true) {j k : Nat} {cs : Array Value} (hj : p[j]? = some (.fill k cs)) : j = s := by
 have hlt : j < p.length := (List.getElem?_eq_some_iff.1 hj).1
 have := List.all_eq_true.1 h j (List.mem_range.2 hlt)
 rw [hj] at this
 simpa using this
theorem planO_get {p : List Does} {a0 : Act} {R : Act → Prop} (hs : Sound ops) : ∀ (os : List Oper) (ds : List Does) (i : Nat) (a : Act), os = ops.toList.drop i → ds = p.drop i →
    Agree ops p a0 (fun _ => 0) (· < i) a → PlanO P ops w0 F g z t R i os ds a →
    (∀ j o, i ≤ j → ops[j]? = some o → ∃ d b, p[j]? = some d ∧ Agree ops p a0 (fun _ => 0) (· < j) b ∧ d.fitsO P ops w0 F g z t o b) ∧ (∃ b, Agree ops p a0 (fun _ => 0) (· < ops.size) b ∧ R b) ∧ (i ≤ ops.size → i ≤ p.length → p.length = ops.size)
  | [], [], i, a, hos, hds, ha, h => by
    have hl : ops.size ≤ i := by have := congrArg List.length hos; simp at this; omega
    refine ⟨fun j o hj hoj => ?_, ⟨a, ⟨ha.defers, ha.size, fun k o d t ho hd hk ht hlt => ha.put k o d t ho hd (by omega) ht hlt, fun t ht => ha.old t fun k o ho hk => ht k o ho ?_⟩, h⟩, fun hi hi2 => ?_⟩
    · have := (Array.getElem?_eq_some_iff.1 hoj).1; omega
    · exact (Array.getElem?_eq_some_iff.1 ho).1
    · have := congrArg List.length hds; simp at this; omega
  | [], d :: ds, i, a, _, _, _, h => absurd h (by simp [PlanO])
  | o :: os, [], i, a, _, _, _, h => absurd h (by simp [PlanO])
  | o :: os, d :: ds, i, a, hos, hds, ha, h => by
    have hlen : i < ops.size := by have := congrArg List.length hos; simp at this; omega
    have ho : ops[i]? = some o := by
      have := congrArg (·[0]?) hos
      simpa using this.symm
    have hd : p[i]? = some d := by
      have := congrArg (·[0]?) hds
      simpa using this.symm
    have hos' : os = ops.toList.drop (i + 1) := by rw [← List.tail_drop, ← hos]; rfl
    have hds' : ds = p.drop (i + 1) := by rw [← List.tail_drop, ← hds]; rfl
    obtain ⟨h1, h2⟩ := h
    have hplen : i < p.length := by have := congrArg List.length hds; simp at this; omega
    obtain ⟨g1, g2, g3⟩ := planO_get hs os ds (i + 1) (a.put o.dst (d.out (fun _ => 0) i)) hos' hds' (ha.step hs ho hd (fun k => by omega)) h2
    refine ⟨fun j oj hj hoj => ?_, g2, fun _ _ => g3 (by omega) (by omega)⟩
    rcases Nat.eq_or_lt_of_le hj with rfl | hj
    · rw [ho] at hoj; cases hoj
      exact ⟨d, a, hd, ha, h1⟩
    · exact g1 j oj hj hoj
structure InvO (ops : Array Oper) (p : List Does) (a0 : Act) (w0 : World) (F g s : Nat) (z cs : Array Value) (t : TypeId) (listed : Array Bool) (a : Act) (w : World) : Prop where
 size : listed.size = ops.size
 act : Agree ops p a0 (fun _ => 0) (fun i => listed.getD i false = true) a
 low : Below F w0 w
 row : w.heap[g]? = some (.cells (if listed.getD s false then cs else z) t (0, 0))
theorem InvO.step {p : List Does} {a0 : Act} {R : Act → Prop} {Q : Exit → Act → World → Prop} {s : Nat} {cs : Array Value} (hs : Sound ops) (hone : oneFillB p s = true) (hcs : p[s]? = some (.fill 0 cs)) (hF : F ≤ w0.heap.size) (hg : F ≤ g)
    (hp : PlanO P ops w0 F g z t R 0 ops.toList p a0) {listed : Array Bool} {a : Act} {w : World} {j : Nat} (h : InvO ops p a0 w0 F g s z cs t listed a w) (hj : j ∈ Region.ready .any ops listed) :
    wpOp P ops Q j (fun a' w' => InvO ops p a0 w0 F g s z cs t (listed.setIfInBounds j true) a' w') a w := by
  obtain ⟨hun, o, ho, hall⟩ := mem_ready.1 hj
  have hjs : j < listed.size := by rw [h.size]; exact (Array.getElem?_eq_some_iff.1 ho).1
  have hnl : listed.getD j false = false := by
    rw [Array.getD_eq_getD_getElem?] at hun ⊢
    rw [Array.getElem?_eq_getElem hjs] at hun ⊢
    simpa using hun
  obtain ⟨g1, _, g3⟩ := planO_get hs ops.toList p 0 a0 rfl rfl ⟨rfl, rfl, fun i o d t _ _ hi => absurd hi (Nat.not_lt_zero _), fun t _ => rfl⟩ hp
  obtain ⟨d, b, hd, hb, hfit⟩ := g1 j o (Nat.zero_le _) ho
  have hlook : ∀ t ∈ o.looksAt ops, a.tmps[t]? = b.tmps[t]? := fun t ht => by
    by_cases hw : ∃ (i : Nat) (x : Oper), ops[i]? = some x ∧ x.dst = some t
    · obtain ⟨i, x, hx, hxt⟩ := hw
      obtain ⟨hij, e, he, hbe, rfl⟩ := hs.looks j i o x t ho hx hxt ht
      have hli := hall e he hbe
      have hpi : ∃ di, p[e.on]? = some di := by
        have := g3 (Nat.zero_le _) (Nat.zero_le _)
        have hlt : e.on < p.length := by rw [this]; exact (Array.getElem?_eq_some_iff.1 hx).1
        exact ⟨p[e.on], List.getElem?_eq_getElem hlt⟩
      obtain ⟨di, hdi⟩ := hpi
      by_cases hlt : t < a0.tmps.size
      · rw [h.act.put e.on x di t hx hdi hli hxt hlt, hb.put e.on x di t hx hdi hij hxt hlt]
      · have e1 : a.tmps[t]? = none := Array.getElem?_eq_none (by rw [h.act.size]; exact Nat.le_of_not_lt hlt)
        have e2 : b.tmps[t]? = none := Array.getElem?_eq_none (by rw [hb.size]; exact Nat.le_of_not_lt hlt)
        rw [e1, e2]
    · have hno : ∀ (i : Nat) (x : Oper), ops[i]? = some x → x.dst ≠ some t := fun i x hx hxt => hw ⟨i, x, hx, hxt⟩
      rw [h.act.old t fun i x hx _ => hno i x hx, hb.old t fun i x hx _ => hno i x hx]
  obtain ⟨hex, hwant⟩ := same_look (hs.noSelect j o · · ho) hlook
  have hact : Agree ops p a0 (fun _ => 0) (fun i => (listed.setIfInBounds j true).getD i false = true) (a.put o.dst (d.out (fun _ => 0) j)) := h.act.step hs ho hd fun i => getD_set_iff hjs
  have hsz := Below.size h.low
  have hgl : g < w.heap.size := (Array.getElem?_eq_some_iff.1 h.row).1
  have fin : j ≠ s → ∀ w', Calm w w' → InvO ops p a0 w0 F g s z cs t (listed.setIfInBounds j true) (a.put o.dst (d.out (fun _ => 0) j)) w' := fun hjs2 w' hw' => by
    refine ⟨by simp [h.size], hact, Below.trans h.low (Below.mono hw' (by omega)), ?_⟩
    rw [hw'.block hgl, h.row, getD_set_ne false hjs2]
  unfold wpOp
  simp only [ho]
  have hns : (∀ k cs', d ≠ .fill k cs') → j ≠ s := fun hnf e => by subst e; rw [hd] at hcs; cases hcs; exact hnf _ _ rfl
  cases d with
  | val v =>
    obtain ⟨f1, f2⟩ := hfit
    rw [hwant, f1, if_pos rfl]
    left
    unfold Oper.wp
    rw [hex]
    have f3 := f2 w h.low
    have fin := fin (hns fun k cs' e => by cases e)
    generalize (execOp b.eval o).run P w = r at *
    cases r with
    | ok n w' =>
      cases n <;> simp only [Oper.quietUpon] at f3 <;> simp only [Oper.upon]
      case value u => obtain ⟨e1, e2⟩ := f3; rw [e1, e2]; exact fin w (Calm.refl w)
      case skip => obtain ⟨e1, e2⟩ := f3; rw [e1, ← e2]; exact fin w (Calm.refl w)
      case enter f args =>
        obtain ⟨e1, hc⟩ := f3
        rw [e1]
        exact hc.mono fun e w'' ⟨he, hw''⟩ => by subst he; exact fin w'' hw''
    | halt x w' => simp only [Oper.quietUpon] at f3
  | idle =>
    have f1 : Region.wanted o (yielded ops b.tmps) = false := hfit
    rw [hwant, f1, if_neg (by simp)]
    exact fin (hns fun k cs' e => by cases e) w (Calm.refl w)
  | fill k cs' =>
    obtain ⟨f1, f0, f2⟩ := hfit
    obtain rfl := oneFillB_spec hone hd
    rw [hd] at hcs
    cases hcs
    rw [hwant, f1, if_pos rfl]
    left
    unfold Oper.wp
    have hr := h.row
    rw [hnl] at hr
    rw [hex, f2 w hr]
    simp only [Oper.upon]
    refine ⟨by simp [h.size], hact, Below.trans h.low ⟨rfl, rfl, rfl, by simp, fun k hk => setRow_other w g k cs (by omega)⟩, ?_⟩
    rw [setRow_heap w g _ cs t (0, 0) hr, (getD_set_iff hjs).2 (Or.inr rfl), if_pos rfl]
  | new z t kd => exact absurd hfit (by simp [Does.fitsO])
  | look k v => exact absurd hfit (by simp [Does.fitsO])
theorem wp_region_plan_old {id : Nat} {Q : Exit → Act → World → Prop} {a0 : Act} {l : List Oper} (p : List Does) (F g s : Nat) (z cs : Array Value) (t : TypeId) (hm : P.follows .mixedOrders = true) (hB : planB l.toArray = true) (hone : oneFillB p s = true)
    (hcs : p[s]? = some (.fill 0 cs)) (hF : F ≤ w0.heap.size) (hg : F ≤ g) (hz : w0.heap[g]? = some (.cells z t (0, 0)))
    (hp : PlanO P l.toArray w0.drew F g z t (fun a => ∀ w', Below F w0.drew w' → w'.heap[g]? = some (.cells cs t (0, 0)) → Q .normal a w') 0 l p a0) : (Code.region id l.toArray true).wp P Q a0 w0 := by
  have hs := planB_sound hB
  refine wp_region_any hm (wpAny_inv (fun listed a w => InvO l.toArray p a0 w0.drew F g s z cs t listed a w) (fun listed a w j h hj => ?_) (fun listed a w h h0 => ?_) _ _ _ _ (by simp [unlisted, List.countP_replicate]) ⟨by simp, ?_, Below.refl _ _, ?_⟩)
  · exact InvO.step (w0 := w0.drew) hs hone hcs hF hg hp h hj
  · have hall := fun i (hi : i < l.toArray.size) => all_listed hs h0 i i (Nat.le_refl _) hi h.size
    obtain ⟨_, ⟨b, hb, hR⟩, g3⟩ := planO_get hs l p 0 a0 rfl rfl ⟨rfl, rfl, fun i o d t _ _ hi => absurd hi (Nat.not_lt_zero _), fun t _ => rfl⟩ hp
    have hlen := g3 (Nat.zero_le _) (Nat.zero_le _)
    obtain rfl := Agree.same (fun i hi => ⟨hall i hi, hi⟩) (by omega) h.act hb
    have hsl : s < l.toArray.size := by rw [← hlen]; exact (List.getElem?_eq_some_iff.1 hcs).1
    have hr := h.row
    rw [hall s hsl, if_pos rfl] at hr
    exact hR w h.low hr
  · refine ⟨rfl, rfl, fun i o d t _ _ hi => ?_, fun _ _ => rfl⟩
    simp [Array.getElem?_replicate] at hi
    split at hi <;> simp at hi
  · have hno : (Array.replicate l.toArray.size false).getD s false = false := by
      rw [Array.getD_eq_getD_getElem?, Array.getElem?_replicate]
      split <;> rfl
    rw [hno]
    exact hz
variable {R : Act → Prop}
theorem planO_val {i : Nat} {o : Oper} {os : List Oper} {ds : List Does} {a : Act} {v : Value} (h1 : Region.wanted o (yielded ops a.tmps) = true) (h2 : ∀ w, Below F w0 w → Oper.quietUpon P (Calm w) w v ((execOp a.eval o).run P w))
    (h3 : PlanO P ops w0 F g z t R (i + 1) os ds (a.put o.dst v)) : PlanO P ops w0 F g z t R i (o :: os) (.val v :: ds) a := ⟨⟨h1, h2⟩, h3⟩
theorem planO_row {i : Nat} {o : Oper} {os : List Oper} {ds : List Does} {a : Act} {cs : Array Value} {ty : TypeId} {x y : Operand} (ho : o.op = .store ty x y) (hg : o.guard = none) (hd : o.dst = none)
    (hx : a.eval x = .pointer (some ⟨g, 0, none⟩)) (hy : a.eval y = .agg cs)
    (hi : (P.info? ty).map (·.size) = some cs.size) (hz : z.size = cs.size) (h1 : cs.all (·.oneCell') = true)
    (h3 : PlanO P ops w0 F g z t R (i + 1) os ds (a.put o.dst undef)) : PlanO P ops w0 F g z t R i (o :: os) (.fill 0 cs :: ds) a := by
  refine ⟨⟨by simp [Region.wanted, hg], hd, fun w hw => ?_⟩, h3⟩
  unfold execOp
  simp only [ho, hx, hy, Instr.storeAt, Instr.sureAddr, Sem.run_bind, Sem.run_pure, Result.andThen_ok, run_storeVar_row w g t ty z cs hw hi hz h1]
theorem planO_end {i : Nat} {a : Act} (h : R a) : PlanO P ops w0 F g z t R i [] [] a := h
theorem Calm.low {a w w1 : World} (h : Calm a w) (hb : Below a.heap.size w.drew w1) : Calm a w1 := Below.trans h (Below.trans (Below.drew (Below.refl _ _)) hb)
/-- What of the lower blocks is as it was. -/
theorem low_facts {w w1 : World} (hb : Below F w.drew w1) : (∀ b o, b < F → w1.cell? ⟨b, o, none⟩ = w.cell? ⟨b, o, none⟩) ∧ (∀ b o, b < F → w1.frozen? ⟨b, o, none⟩ = w.frozen? ⟨b, o, none⟩) :=
 ⟨fun b o h => Below.cell hb (p := ⟨b, o, none⟩) h, fun b o h => Below.frozen hb (p := ⟨b, o, none⟩) h⟩
end
open Go.RowKit
section
variable {P : Program} {ops : Array Oper}
inductive Doing where
 |val (v : Value) (bef : List Nat := [])
 |idle
 |late (aft : List Nat := [])
def Doing.out (Y : Nat → Value) (i : Nat) : Doing → Value
 | .val v _ => v
 | .idle => undef
 | .late _ => Y i
def updV (Y : Nat → Value) (i : Nat) (y : Value) : Nat → Value := fun j => if j = i then y else Y j
def updB (L : Nat → Bool) (i : Nat) : Nat → Bool := fun j => if j = i then true else L j
abbrev Stages := List Bool → (Nat → Value) → World → Prop
def Doing.fits (P : Program) (ops : Array Oper) (late : List Nat) (St : Stages) (Y : Nat → Value) (i : Nat) (o : Oper) (a : Act) : Doing → Prop
  | .val v bef => Region.wanted o (yielded ops a.tmps) = true ∧ ∀ (L : Nat → Bool) (w : World), (∀ j ∈ bef, L j = false) → St (late.map L) Y w → Oper.quietUpon P (Calm w) w v ((execOp a.eval o).run P w)
  | .idle => Region.wanted o (yielded ops a.tmps) = false
  | .late aft => ∀ (L : Nat → Bool) (w : World), L i = false → (∀ j ∈ aft, L j = true) → St (late.map L) Y w →
      wpList P ops (fun x a' w' => x = .normal ∧ ∃ y, a' = a.put o.dst y ∧ St (late.map (updB L i)) (updV Y i y) w') [o] a w
def PlanS (P : Program) (ops : Array Oper) (late : List Nat) (St : Stages) (Y : Nat → Value) (R : Act → Prop) : Nat → List Oper → List Doing → Act → Prop
 |_, [], [], a => R a
 |i, o :: os, d :: ds, a => d.fits P ops late St Y i o a ∧ PlanS P ops late St Y R (i + 1) os ds (a.put o.dst (d.out Y i))
 |_, _, _, _ => False
def stagesB (ops : Array Oper) (late : List Nat) (p : List Doing) : Bool :=
  late.all (fun i => decide (i < p.length)) && (List.range p.length).all fun i => match p[i]? with
    | none => true
    | some (.val _ bef) => !late.contains i && bef.all fun j => match ops[j]? with
        | none => false
        | some x => x.after.any fun e => Region.binds .any e && e.on == i
    | some .idle => !late.contains i
    | some (.late aft) => late.contains i && aft.all fun j => match ops[i]? with
        | none => false
        | some x => x.after.any fun e => Region.binds .any e && e.on == j
structure AgreeV (ops : Array Oper) (val : Nat → Value) (a0 : Act) (S : Nat → Prop) (a : Act) : Prop where
 defers : a.defers = a0.defers
 size : a.tmps.size = a0.tmps.size
 put : ∀ i o t, ops[i]? = some o → S i → o.dst = some t → t < a0.tmps.size → a.tmps[t]? = some (val i)
 old : ∀ t, (∀ i o, ops[i]? = some o → S i → o.dst ≠ some t) → a.tmps[t]? = a0.tmps[t]?
theorem AgreeV.step {val val' : Nat → Value} {a0 : Act} {S T : Nat → Prop} {a : Act} (hs : Sound ops) (h : AgreeV ops val a0 S a) {j : Nat} {o : Oper} (ho : ops[j]? = some o)
    (hT : ∀ i, T i ↔ (S i ∨ i = j)) (hv : ∀ i, S i → i ≠ j → val' i = val i) (hj : ¬ S j) {v : Value} (hvj : ∀ t, o.dst = some t → t < a0.tmps.size → val' j = v) : AgreeV ops val' a0 T (a.put o.dst v) := by
  refine ⟨by rw [put_def, h.defers], by rw [put_size, h.size], fun i oi t hoi hi ht hlt => ?_, fun t ht => ?_⟩
  · rw [put_get]
    rcases (hT i).1 hi with hi | rfl
    · have hij : i ≠ j := fun e => by subst e; exact hj hi
      by_cases hc : o.dst = some t ∧ t < a.tmps.size
      · obtain rfl := hs.apart j i o oi t ho hoi ht hc.1
        exact absurd rfl hij
      · rw [if_neg hc, hv i hi hij]
        exact h.put i oi t hoi hi ht hlt
    · rw [ho] at hoi; cases hoi
      rw [if_pos ⟨ht, by rw [h.size]; exact hlt⟩, hvj t ht hlt]
  · rw [put_get, if_neg (fun hc => ht j o ho ((hT j).2 (Or.inr rfl)) hc.1)]
    exact h.old t fun i oi hoi hi => ht i oi hoi ((hT i).2 (Or.inl hi))
theorem AgreeV.same {val : Nat → Value} {a0 : Act} {S T : Nat → Prop} {a b : Act} (hST : ∀ i, i < ops.size → (S i ∧ T i)) (ha : AgreeV ops val a0 S a) (hb : AgreeV ops val a0 T b) : a = b := by
 obtain ⟨at_, ad⟩ := a
 obtain ⟨bt, bd⟩ := b
 have h1 : ad = bd := ha.defers.trans hb.defers.symm
 subst h1
 congr 1
 apply Array.ext_getElem?
 intro t
 by_cases hw : ∃ (i : Nat) (x : Oper), ops[i]? = some x ∧ x.dst = some t
 ·obtain ⟨i, x, hx, hxt⟩ := hw
  have hi : i < ops.size := (Array.getElem?_eq_some_iff.1 hx).1
  by_cases hlt : t < a0.tmps.size
  ·exact (ha.put i x t hx (hST i hi).1 hxt hlt).trans (hb.put i x t hx (hST i hi).2 hxt hlt).symm
  ·rw [Array.getElem?_eq_none (by have := ha.size; simp only at this; omega), Array.getElem?_eq_none (by have := hb.size; simp only at this; omega)]
 ·have hno : ∀ (i : Nat) (x : Oper), ops[i]? = some x → x.dst ≠ some t := fun i x hx hxt => hw ⟨i, x, hx, hxt⟩
  exact (ha.old t fun i x hx _ => hno i x hx).trans (hb.old t fun i x hx _ => hno i x hx).symm
def valsOf (p : List Doing) (Y : Nat → Value) (i : Nat) : Value := match p[i]? with | some d => d.out Y i | none => undef
theorem planS_get {late : List Nat} {St : Stages} {Y : Nat → Value} {p : List Doing} {a0 : Act} {R : Act → Prop} (hs : Sound ops) : ∀ (os : List Oper) (ds : List Doing) (i : Nat) (a : Act), os = ops.toList.drop i → ds = p.drop i →
    AgreeV ops (valsOf p Y) a0 (· < i) a → PlanS P ops late St Y R i os ds a →
    (∀ j o, i ≤ j → ops[j]? = some o → ∃ d b, p[j]? = some d ∧ AgreeV ops (valsOf p Y) a0 (· < j) b ∧ d.fits P ops late St Y j o b) ∧ (∃ b, AgreeV ops (valsOf p Y) a0 (· < ops.size) b ∧ R b) ∧ (i ≤ ops.size → i ≤ p.length → p.length = ops.size)
  | [], [], i, a, hos, hds, ha, h => by
    have hl : ops.size ≤ i := by have := congrArg List.length hos; simp at this; omega
    refine ⟨fun j o hj hoj => ?_, ⟨a, ⟨ha.defers, ha.size, fun k o t ho hk ht hlt => ha.put k o t ho (by omega) ht hlt, fun t ht => ha.old t fun k o ho hk => ht k o ho ?_⟩, h⟩, fun hi hi2 => ?_⟩
    · have := (Array.getElem?_eq_some_iff.1 hoj).1; omega
    · exact (Array.getElem?_eq_some_iff.1 ho).1
    · have := congrArg List.length hds; simp at this; omega
  | [], d :: ds, i, a, _, _, _, h => absurd h (by simp [PlanS])
  | o :: os, [], i, a, _, _, _, h => absurd h (by simp [PlanS])
  | o :: os, d :: ds, i, a, hos, hds, ha, h => by
    have hlen : i < ops.size := by have := congrArg List.length hos; simp at this; omega
    have ho : ops[i]? = some o := by
      have := congrArg (·[0]?) hos
      simpa using this.symm
    have hd : p[i]? = some d := by
      have := congrArg (·[0]?) hds
      simpa using this.symm
    have hos' : os = ops.toList.drop (i + 1) := by rw [← List.tail_drop, ← hos]; rfl
    have hds' : ds = p.drop (i + 1) := by rw [← List.tail_drop, ← hds]; rfl
    obtain ⟨h1, h2⟩ := h
    have hplen : i < p.length := by have := congrArg List.length hds; simp at this; omega
    have hval : valsOf p Y i = d.out Y i := by unfold valsOf; rw [hd]
    obtain ⟨g1, g2, g3⟩ := planS_get hs os ds (i + 1) (a.put o.dst (d.out Y i)) hos' hds' (ha.step hs ho (fun k => by omega) (fun _ _ _ => rfl) (by omega) (fun _ _ _ => hval)) h2
    refine ⟨fun j oj hj hoj => ?_, g2, fun _ _ => g3 (by omega) (by omega)⟩
    rcases Nat.eq_or_lt_of_le hj with rfl | hj
    · rw [ho] at hoj; cases hoj
      exact ⟨d, a, hd, ha, h1⟩
    · exact g1 j oj hj hoj
structure InvS (ops : Array Oper) (late : List Nat) (St : Stages) (p : List Doing) (a0 : Act) (Y : Nat → Value) (listed : Array Bool) (a : Act) (w : World) : Prop where
 size : listed.size = ops.size
 act : AgreeV ops (valsOf p Y) a0 (fun i => listed.getD i false = true) a
 st : St (late.map fun i => listed.getD i false) Y w
 down : ∀ i o e, ops[i]? = some o → listed.getD i false = true → e ∈ o.after → Region.binds .any e = true → listed.getD e.on false = true
theorem map_early {late : List Nat} {L M : Nat → Bool} {i : Nat} (hi : late.contains i = false) (h : ∀ j, j ≠ i → M j = L j) : late.map M = late.map L := by
 apply List.map_congr_left
 intro j hj
 refine h j fun e => ?_
 subst e
 rw [List.contains_iff_mem.2 hj] at hi
 cases hi
theorem InvS.step {late : List Nat} {St : Stages} {p : List Doing} {a0 : Act} {R : (Nat → Value) → Act → Prop} {Q : Exit → Act → World → Prop} (hs : Sound ops) (hB : stagesB ops late p = true)
    (hC : ∀ bs Y w w', St bs Y w → Calm w w' → St bs Y w') (hp : ∀ Y, PlanS P ops late St Y (R Y) 0 ops.toList p a0) {Y : Nat → Value} {listed : Array Bool} {a : Act} {w : World} {j : Nat}
    (h : InvS ops late St p a0 Y listed a w) (hj : j ∈ Region.ready .any ops listed) :
    wpOp P ops Q j (fun a' w' => ∃ Y', InvS ops late St p a0 Y' (listed.setIfInBounds j true) a' w') a w := by
  obtain ⟨hun, o, ho, hall⟩ := mem_ready.1 hj
  have hjs : j < listed.size := by rw [h.size]; exact (Array.getElem?_eq_some_iff.1 ho).1
  have hnl : listed.getD j false = false := by
    rw [Array.getD_eq_getD_getElem?] at hun ⊢
    rw [Array.getElem?_eq_getElem hjs] at hun ⊢
    simpa using hun
  obtain ⟨g1, _, g3⟩ := planS_get (Y := Y) hs ops.toList p 0 a0 rfl rfl ⟨rfl, rfl, fun i o t _ hi => absurd hi (Nat.not_lt_zero _), fun t _ => rfl⟩ (hp Y)
  obtain ⟨d, b, hd, hb, hfit⟩ := g1 j o (Nat.zero_le _) ho
  have hlook : ∀ t ∈ o.looksAt ops, a.tmps[t]? = b.tmps[t]? := fun t ht => by
    by_cases hw : ∃ (i : Nat) (x : Oper), ops[i]? = some x ∧ x.dst = some t
    · obtain ⟨i, x, hx, hxt⟩ := hw
      obtain ⟨hij, e, he, hbe, rfl⟩ := hs.looks j i o x t ho hx hxt ht
      have hli := hall e he hbe
      by_cases hlt : t < a0.tmps.size
      · rw [h.act.put e.on x t hx hli hxt hlt, hb.put e.on x t hx hij hxt hlt]
      · have e1 : a.tmps[t]? = none := Array.getElem?_eq_none (by rw [h.act.size]; exact Nat.le_of_not_lt hlt)
        have e2 : b.tmps[t]? = none := Array.getElem?_eq_none (by rw [hb.size]; exact Nat.le_of_not_lt hlt)
        rw [e1, e2]
    · have hno : ∀ (i : Nat) (x : Oper), ops[i]? = some x → x.dst ≠ some t := fun i x hx hxt => hw ⟨i, x, hx, hxt⟩
      rw [h.act.old t fun i x hx _ => hno i x hx, hb.old t fun i x hx _ => hno i x hx]
  obtain ⟨hex, hwant⟩ := same_look (hs.noSelect j o · · ho) hlook
  have hdown : ∀ i o' e, ops[i]? = some o' → (listed.setIfInBounds j true).getD i false = true → e ∈ o'.after → Region.binds .any e = true → (listed.setIfInBounds j true).getD e.on false = true := fun i o' e ho' hi he hbe => by
    rcases (getD_set_iff hjs).1 hi with hi | rfl
    · exact getD_set_true (h.down i o' e ho' hi he hbe)
    · rw [ho] at ho'; cases ho'
      exact getD_set_true (hall e he hbe)
  have hpB := List.all_eq_true.1 (Bool.and_eq_true_iff.1 hB).2 j (List.mem_range.2 (List.getElem?_eq_some_iff.1 hd).1)
  rw [hd] at hpB
  have hmapE : late.contains j = false → (late.map fun i => (listed.setIfInBounds j true).getD i false) = late.map fun i => listed.getD i false := fun hl =>
    map_early hl fun i hi => getD_set_ne false (Ne.symm hi)
  have hmapL : (late.map fun i => (listed.setIfInBounds j true).getD i false) = late.map (updB (fun i => listed.getD i false) j) := by
    apply List.map_congr_left
    intro i _
    unfold updB
    by_cases hij : i = j
    · subst hij; rw [if_pos rfl]; exact (getD_set_iff hjs).2 (Or.inr rfl)
    · rw [if_neg hij]; exact getD_set_ne false (Ne.symm hij)
  have hvalj : valsOf p Y j = d.out Y j := by unfold valsOf; rw [hd]
  have hnS : ¬ (listed.getD j false = true) := by rw [hnl]; simp
  unfold wpOp
  simp only [ho]
  cases d with
  | val v bef =>
    simp only [Bool.and_eq_true, Bool.not_eq_true'] at hpB
    obtain ⟨f1, f2⟩ := hfit
    rw [hwant, f1, if_pos rfl]
    left
    unfold Oper.wp
    rw [hex]
    have hbef : ∀ k ∈ bef, listed.getD k false = false := fun k hk => by
      have h1 := List.all_eq_true.1 hpB.2 k hk
      cases hok : ops[k]? with
      | none => rw [hok] at h1; cases h1
      | some x =>
        rw [hok] at h1
        obtain ⟨e, he, h2⟩ := Array.any_eq_true'.1 h1
        simp only [Bool.and_eq_true, beq_iff_eq] at h2
        cases hlk : listed.getD k false with
        | false => rfl
        | true =>
          have := h.down k x e hok hlk he h2.1
          rw [h2.2, hnl] at this
          cases this
    have f3 := f2 (fun i => listed.getD i false) w hbef h.st
    have fin : ∀ w', Calm w w' → ∃ Y', InvS ops late St p a0 Y' (listed.setIfInBounds j true) (a.put o.dst v) w' := fun w' hw' =>
      ⟨Y, by simp [h.size], h.act.step hs ho (fun i => getD_set_iff hjs) (fun _ _ _ => rfl) hnS (fun _ _ _ => hvalj), by rw [hmapE hpB.1]; exact hC _ _ _ _ h.st hw', hdown⟩
    generalize (execOp b.eval o).run P w = r at *
    cases r with
    | ok n w' =>
      cases n <;> simp only [Oper.quietUpon] at f3 <;> simp only [Oper.upon]
      case value u => obtain ⟨e1, e2⟩ := f3; rw [e1, e2]; exact fin w (Calm.refl w)
      case skip => obtain ⟨e1, e2⟩ := f3; rw [e1, ← e2]; exact fin w (Calm.refl w)
      case enter f args =>
        obtain ⟨e1, hc⟩ := f3
        rw [e1]
        exact hc.mono fun e w'' ⟨he, hw''⟩ => by subst he; exact fin w'' hw''
    | halt x w' => simp only [Oper.quietUpon] at f3
  | idle =>
    simp only [Bool.not_eq_true'] at hpB
    have f1 : Region.wanted o (yielded ops b.tmps) = false := hfit
    rw [hwant, f1, if_neg (by simp)]
    exact ⟨Y, by simp [h.size], h.act.step hs ho (fun i => getD_set_iff hjs) (fun _ _ _ => rfl) hnS (fun _ _ _ => hvalj), by rw [hmapE hpB]; exact h.st, hdown⟩
  | late aft =>
    simp only [Bool.and_eq_true] at hpB
    have haft : ∀ k ∈ aft, listed.getD k false = true := fun k hk => by
      have h1 := List.all_eq_true.1 hpB.2 k hk
      rw [ho] at h1
      obtain ⟨e, he, h2⟩ := Array.any_eq_true'.1 h1
      simp only [Bool.and_eq_true, beq_iff_eq] at h2
      rw [← h2.2]
      exact hall e he h2.1
    have f2 := hfit (fun i => listed.getD i false) w hnl haft h.st
    rw [← hmapL] at f2
    have fin : ∀ (v : Value) (w' : World), (∃ y, b.put o.dst v = b.put o.dst y ∧ St (late.map fun i => (listed.setIfInBounds j true).getD i false) (updV Y j y) w') →
        ∃ Y', InvS ops late St p a0 Y' (listed.setIfInBounds j true) (a.put o.dst v) w' := fun v w' ⟨y, hy, hst⟩ => by
      refine ⟨updV Y j y, by simp [h.size], h.act.step hs ho (fun i => getD_set_iff hjs) (fun i _ hij => ?_) hnS (fun t ht hlt => ?_), hst, hdown⟩
      · unfold valsOf
        cases hpi : p[i]? with
        | none => rfl
        | some di => cases di <;> simp [Doing.out, updV, hij]
      · have h1 := congrArg (fun c : Act => c.tmps[t]?) hy
        simp only [put_get] at h1
        have hlb : t < b.tmps.size := by rw [hb.size]; exact hlt
        rw [if_pos ⟨ht, hlb⟩, if_pos ⟨ht, hlb⟩] at h1
        unfold valsOf
        rw [hd]
        simp only [Doing.out, updV, if_pos]
        exact (Option.some.inj h1).symm
    simp only [wpList] at f2
    rw [hwant]
    cases hw : Region.wanted o (yielded ops b.tmps) with
    | false =>
      rw [hw] at f2
      rw [if_neg (by simp)] at f2 ⊢
      obtain ⟨_, y, hy, hst⟩ := f2
      exact fin undef w ⟨y, hy, hst⟩
    | true =>
      rw [hw] at f2
      rw [if_pos rfl] at f2 ⊢
      left
      rcases f2 with f2 | ⟨_, x, w2, hx, _⟩
      rotate_left
      · cases hx
      unfold Oper.wp at f2 ⊢
      rw [hex]
      generalize (execOp b.eval o).run P w = r at *
      cases r with
      | ok n w' =>
        cases n <;> simp only [Oper.upon] at f2 ⊢
        case value v => exact fin v w' f2.2
        case skip => exact fin undef w' f2.2
        case defer dd =>
          obtain ⟨_, y, hy, _⟩ := f2
          have h1 := congrArg Act.defers hy
          rw [put_def, put_def] at h1
          simp at h1
        case enter f args =>
          refine f2.mono fun e w'' he => ?_
          cases e with
          | returned v => exact fin v w'' he.2
          | panicked c => cases he.1
          | outgrown => obtain ⟨x, w2, hx, _⟩ := he; cases hx
        case row row args => exact f2.mono fun v w'' he => fin v w'' he.2
      | halt x w' =>
        cases x <;> simp only [Oper.upon] at f2
        case panic v => cases f2.1
/-- A REGION THAT DRAWS ITS ORDER AND WRITES, by stages. -/
theorem wp_region_stages {id : Nat} {Q : Exit → Act → World → Prop} {a0 : Act} {w0 : World} {l : List Oper} (p : List Doing) (late : List Nat) (St : Stages) (hm : P.follows .mixedOrders = true) (hB : planB l.toArray = true) (hS : stagesB l.toArray late p = true)
    (hC : ∀ bs Y w w', St bs Y w → Calm w w' → St bs Y w') (h0 : ∀ Y, St (late.map fun _ => false) Y w0.drew)
    (hp : ∀ Y, PlanS P l.toArray late St Y (fun a => ∀ w', St (late.map fun _ => true) Y w' → Q .normal a w') 0 l p a0) : (Code.region id l.toArray true).wp P Q a0 w0 := by
  have hs := planB_sound hB
  refine wp_region_any hm (wpAny_inv (fun listed a w => ∃ Y, InvS l.toArray late St p a0 Y listed a w) (fun listed a w j h hj => ?_) (fun listed a w h h0 => ?_) _ _ _ _ (by simp [unlisted, List.countP_replicate]) ⟨fun _ => undef, by simp, ?_, ?_, ?_⟩)
  · obtain ⟨Y, h⟩ := h
    exact InvS.step hs hS hC hp h hj
  · obtain ⟨Y, h⟩ := h
    have hall := fun i (hi : i < l.toArray.size) => all_listed hs h0 i i (Nat.le_refl _) hi h.size
    obtain ⟨_, ⟨b, hb, hR⟩, g3⟩ := planS_get (Y := Y) hs l p 0 a0 rfl rfl ⟨rfl, rfl, fun i o t _ hi => absurd hi (Nat.not_lt_zero _), fun t _ => rfl⟩ (hp Y)
    have hlen := g3 (Nat.zero_le _) (Nat.zero_le _)
    obtain rfl := AgreeV.same (fun i hi => ⟨hall i hi, hi⟩) h.act hb
    refine hR w ?_
    have hst := h.st
    have e : (late.map fun i => listed.getD i false) = late.map fun _ => true := by
      apply List.map_congr_left
      intro i hi
      have hil : i < p.length := of_decide_eq_true (List.all_eq_true.1 (Bool.and_eq_true_iff.1 hS).1 i hi)
      exact hall i (by omega)
    rw [e] at hst
    exact hst
  · refine ⟨rfl, rfl, fun i o t _ hi => ?_, fun _ _ => rfl⟩
    simp [Array.getElem?_replicate] at hi
    split at hi <;> simp at hi
  · have e : (late.map fun i => (Array.replicate l.toArray.size false).getD i false) = late.map fun _ => false := by
      apply List.map_congr_left
      intro i _
      exact getD_replicate_false _ _
    rw [e]
    exact h0 _
  · intro i o e _ hi
    simp [Array.getElem?_replicate] at hi
    split at hi <;> simp at hi
end
open Go.RowKit
section
variable {P : Program} {ops : Array Oper}
theorem planS_val {late : List Nat} {St : Stages} {Y : Nat → Value} {R : Act → Prop} {i : Nat} {o : Oper} {os : List Oper} {ds : List Doing} {a : Act} {v : Value} {bef : List Nat} (h1 : Region.wanted o (yielded ops a.tmps) = true)
    (h2 : ∀ (L : Nat → Bool) (w : World), (∀ j ∈ bef, L j = false) → St (late.map L) Y w → Oper.quietUpon P (Calm w) w v ((execOp a.eval o).run P w))
    (h3 : PlanS P ops late St Y R (i + 1) os ds (a.put o.dst v)) : PlanS P ops late St Y R i (o :: os) (.val v bef :: ds) a := ⟨⟨h1, h2⟩, h3⟩
theorem planS_late {late : List Nat} {St : Stages} {Y : Nat → Value} {R : Act → Prop} {i : Nat} {o : Oper} {os : List Oper} {ds : List Doing} {a : Act} {aft : List Nat}
    (h2 : ∀ (L : Nat → Bool) (w : World), L i = false → (∀ j ∈ aft, L j = true) → St (late.map L) Y w → wpList P ops (fun x a' w' => x = .normal ∧ ∃ y, a' = a.put o.dst y ∧ St (late.map (updB L i)) (updV Y i y) w') [o] a w)
    (h3 : PlanS P ops late St Y R (i + 1) os ds (a.put o.dst (Y i))) : PlanS P ops late St Y R i (o :: os) (.late aft :: ds) a := ⟨h2, h3⟩
theorem planS_end {late : List Nat} {St : Stages} {Y : Nat → Value} {R : Act → Prop} {i : Nat} {a : Act} (h : R a) : PlanS P ops late St Y R i [] [] a := h
variable {i j k : Nat} {A0 : World → Prop} {A1 A2 A3 : Value → World → Prop} {Y : Nat → Value} {L : Nat → Bool} {w : World}
end
open Go.RowKit
section
variable {P : Program} {ops : Array Oper}
def ChainS (n : Nat) (A : Nat → (Nat → Value) → World → Prop) : Stages := fun bs Y w => ∃ m, m ≤ n ∧ bs = List.replicate m true ++ List.replicate (n - m) false ∧ A m Y w
variable {late : List Nat} {A : Nat → (Nat → Value) → World → Prop} {Y : Nat → Value} {L : Nat → Bool} {w : World}
theorem chain_at {m n j : Nat} (hj : j < n) (hm : m ≤ n) : (List.replicate m true ++ List.replicate (n - m) false)[j]? = some (decide (j < m)) := by
 rw [List.getElem?_append, List.length_replicate]
 split
 ·rw [List.getElem?_replicate, if_pos (by assumption), decide_eq_true (by assumption)]
 ·rw [List.getElem?_replicate, if_pos (by omega), decide_eq_false (by assumption)]
theorem ChainS.upto {m : Nat} {i : Nat} (h : ChainS late.length A (late.map L) Y w) (hi : late[m]? = some i) (hl : L i = false) : ∃ k, k ≤ m ∧ A k Y w := by
 obtain ⟨k, hk, hb, hA⟩ := h
 refine ⟨k, ?_, hA⟩
 have hml : m < late.length := (List.getElem?_eq_some_iff.1 hi).1
 have h1 := congrArg (·[m]?) hb
 simp only [List.getElem?_map, hi, Option.map_some, chain_at hml hk, hl, Option.some.injEq] at h1
 have := of_decide_eq_false h1.symm
 omega
theorem ChainS.any (h : ChainS late.length A (late.map L) Y w) : ∃ k, k ≤ late.length ∧ A k Y w := by
 obtain ⟨k, hk, _, hA⟩ := h
 exact ⟨k, hk, hA⟩
theorem ChainS.step {m : Nat} {i : Nat} (h : ChainS late.length A (late.map L) Y w) (hi : late[m]? = some i) (hl : L i = false) (hp : ∀ j, 0 < m → late[m - 1]? = some j → L j = true) (hd : late.Nodup) :
    A m Y w ∧ ∀ y w', A (m + 1) (updV Y i y) w' → ChainS late.length A (late.map (updB L i)) (updV Y i y) w' := by
  obtain ⟨k, hk, hb, hA⟩ := h
  have hml : m < late.length := (List.getElem?_eq_some_iff.1 hi).1
  have key : ∀ j, j < late.length → L (late[j]!) = decide (j < k) := fun j hj => by
    have h1 := congrArg (·[j]?) hb
    simp only [List.getElem?_map, List.getElem?_eq_getElem hj, Option.map_some, chain_at hj hk, Option.some.injEq] at h1
    rw [← h1]; congr 1; simp [hj]
  have hmk : k = m := by
    have h1 := key m hml
    rw [show late[m]! = i from by simp [hi], hl] at h1
    have h2 := of_decide_eq_false h1.symm
    rcases Nat.eq_zero_or_pos m with h0 | h0
    · omega
    · have hm1 : m - 1 < late.length := by omega
      have h3 := key (m - 1) hm1
      rw [hp _ h0 (by rw [List.getElem?_eq_getElem hm1]; simp [hm1])] at h3
      have := of_decide_eq_true h3.symm
      omega
  subst hmk
  refine ⟨hA, fun y w' h' => ⟨k + 1, hml, ?_, h'⟩⟩
  apply List.ext_getElem?
  intro j
  by_cases hj : j < late.length
  · rw [chain_at hj hml, List.getElem?_map, List.getElem?_eq_getElem hj]
    simp only [Option.map_some, Option.some.injEq, updB]
    have h1 := key j hj
    rw [show late[j]! = late[j] from by simp [hj]] at h1
    by_cases he : late[j] = i
    · have : j = k := by
        have h2 := (List.getElem?_eq_some_iff.1 hi).2
        have h3 := he.trans h2.symm
        have h4 := List.pairwise_iff_getElem.1 hd
        rcases Nat.lt_trichotomy j k with h5 | h5 | h5
        · exact absurd h3 (h4 j k hj hml h5)
        · exact h5
        · exact absurd h3.symm (h4 k j hml hj h5)
      subst this
      rw [if_pos he]; simp
    · rw [if_neg he, h1]
      have : j ≠ k := fun e => he (by subst e; exact (List.getElem?_eq_some_iff.1 hi).2)
      by_cases hjk : j < k
      · rw [decide_eq_true hjk, decide_eq_true (by omega)]
      · rw [decide_eq_false hjk, decide_eq_false (by omega)]
  · rw [List.getElem?_eq_none (by simpa using hj), List.getElem?_eq_none (by simp; omega)]
theorem ChainS.done (h : ChainS late.length A (late.map fun _ => true) Y w) : A late.length Y w := by
 obtain ⟨k, hk, hb, hA⟩ := h
 rcases Nat.lt_or_ge k late.length with hlt | hge
 ·have h1 := congrArg (·[k]?) hb
  simp only [List.getElem?_map, List.getElem?_eq_getElem hlt, Option.map_some, chain_at hlt hk, Option.some.injEq] at h1
  simp at h1
 ·rw [show late.length = k from by omega]; exact hA
theorem ChainS.start (h : A 0 Y w) : ChainS late.length A (late.map fun _ => false) Y w := ⟨0, Nat.zero_le _, by rw [List.replicate_zero, List.nil_append]; exact List.eq_replicate_iff.2 ⟨by simp, by simp⟩, h⟩
theorem ChainS.stay {n : Nat} (hc : ∀ m Y w w', A m Y w → Calm w w' → A m Y w') : ∀ bs Y w w', ChainS n A bs Y w → Calm w w' → ChainS n A bs Y w' :=
 fun _ _ _ _ ⟨m, h1, h2, h3⟩ hb => ⟨m, h1, h2, hc _ _ _ _ h3 hb⟩
end
open Go.RowKit
theorem ret_int {a b : Int} (h : a = b) : Ending.returned (.int .i64 a) = .returned (.int .i64 b) := by rw [h]
theorem ret_bool {a b : Bool} (h : a = b) : Ending.returned (.bool a) = .returned (.bool b) := by rw [h]
open Go.RowKit
set_option maxHeartbeats 400000 in
theorem between_any (x n : Int) (w : World) : Calls Try.prog 50 #[.int .i64 x, .int .i64 n] w fun e w' => e = .returned (.bool (decide (0 ≤ x ∧ x ≤ n))) ∧ w = w' := by
 go_enter Try.func50, Try.ntmps50
 go_wp2
 all_goals
  go_ret
  exact ⟨ret_bool (Bool.eq_iff_iff.2 (by simp; omega)), rfl⟩
open Go.RowKit
theorem heap_new (w : World) (o : Obj) : (w.alloc o).heap[w.heap.size]? = some o := by show (w.heap.push o)[w.heap.size]? = _; simp
theorem heap_past {w : World} {g : Nat} {c : Obj} (o : Obj) (h : w.heap[g]? = some c) : (w.alloc o).heap[g]? = some c := by
 rw [Below.heap_alloc _ _ _ (Array.getElem?_eq_some_iff.1 h).1, h]
open Go.RowKit
def bv (l : List UInt8) : List Value := l.map fun b => Value.int .u8 (b.toNat : Int)
theorem bv_append (a b : List UInt8) : bv (a ++ b) = bv a ++ bv b := by simp [bv]
variable {w : World} {g : Nat} {l : List UInt8} {rest : List Value} {fr : Nat × Nat}
theorem heap_alloc_row (w : World) (cs : Array Value) (t : TypeId) : (w.alloc (.cells cs t)).heap[w.heap.size]? = some (.cells cs t (0, 0)) := heap_new _ _
set_option maxHeartbeats 2000000 in
theorem within_any (k : Int) (n : Nat) (h0 : 0 < n) (hn : n < 9223372036854775808) : ∃ x : Nat, x < n ∧ ∀ w, Calls Try.prog 23 #[.int .i64 k, .int .i64 (n : Int)] w fun e w' => e = .returned (.int .i64 (x : Int)) ∧ w = w' := by
 have hk : 0 ≤ IntKind.u64.wrap k := by
  show 0 ≤ k % 18446744073709551616
  omega
 refine ⟨(IntKind.u64.wrap k % n).toNat, by have := Int.emod_lt_of_pos (IntKind.u64.wrap k) (b := n) (by omega); omega, fun w => ?_⟩
 go_enter Try.func23, Try.ntmps23
 go_wp2_with fail
 go_returns
 refine ⟨ret_int ?_, rfl⟩
 have h1 := Int.emod_lt_of_pos (IntKind.u64.wrap k) (b := n) (by omega)
 have h2 := Int.emod_nonneg (IntKind.u64.wrap k) (b := n) (by omega)
 generalize IntKind.u64.wrap k % (n : Int) = x at *
 rw [IntWalk.wrap64_in _ (by omega)]; omega
open Go.RowKit
theorem Calm.grownBy {w w' : World} (h : Calm w w') (row : Option Nat) : w.grownBy w' row := ⟨Below.os h, Below.tape h, Below.output h, Below.size h, fun _ hk _ => h.block hk⟩
open Go.RowKit
def OwnB (base : Nat) (w : World) (v : Value) (l : List UInt8) : Prop := w.ownsRow base 5 1 v l.length (bv l)
theorem OwnB.lt {base : Nat} {w : World} {v : Value} {l : List UInt8} (h : OwnB base w v l) : ∀ k, v.ownBlock = some k → base ≤ k ∧ k < w.heap.size := World.ownsRow.lt h
theorem OwnB.calm {base : Nat} {w w' : World} {v : Value} {l : List UInt8} (h : OwnB base w v l) (hb : Calm w w') : OwnB base w' v l := World.ownsRow.kept h (hb.grownBy none) (by
 rcases v.ownBlock with _ | k
 ·exact .inl rfl
 ·exact .inr (by simp))
theorem Calm.grownB {a w w' : World} {base : Nat} {v : Value} {l : List UInt8} (h : Calm a w) (hb : a.heap.size ≤ base) (ho : OwnB base w v l) (hg : w.grownBy w' v.ownBlock) : Calm a w' :=
 Below.grown h hg h.size fun k hk => Nat.le_trans hb (ho.lt k hk).1
theorem infoByte : (Try.prog.info? 5).map (fun i => (i.zero, i.size, i.bytes)) = some (some (.int .u8 0), 1, 1) := by kernel_rfl
/-- make([]byte, 0, k). -/
theorem makeRoom (w : World) (C : Int) (k : Nat) (hC : C = (k : Int)) (hk : k ≤ 281474976710656) : (Instr.makeSlice 127 (.int .i64 0) (.int .i64 C)).run Try.prog w =
    .ok (.slice (some ⟨w.heap.size, 0, none⟩) 0 k) (w.alloc (.cells (bv (List.replicate k 0)).toArray 5)) := by
  obtain ⟨i, hi, hz, h1, h2⟩ := info_parts infoByte
  subst hC
  rw [run_make w 127 5 i _ Try.underlying127 hi hz .i64 .i64 0 k (by omega) (by omega) (by rw [h2]; omega) (by omega), h1]
  have e : madeCells (Value.int .u8 0).cells (((k : Int)).toNat * 1) = (bv (List.replicate k 0)).toArray := by
    simp only [madeCells, bv, Value.cells, Int.toNat_natCast, Nat.mul_one]
    apply Array.ext
    · simp
    · intro i h1 h2
      simp [Nat.mod_one]
  rw [e]; rfl
theorem OwnB.made (base : Nat) (w : World) (k : Nat) (hb : base ≤ w.heap.size) (hk : k ≤ 281474976710656) : OwnB base (w.alloc (.cells (bv (List.replicate k 0)).toArray 5)) (.slice (some ⟨w.heap.size, 0, none⟩) 0 k) [] :=
 ⟨rfl, .inr ⟨w.heap.size, k, _, rfl, hb, heap_alloc_row _ _ _, Nat.zero_le _, by simp only [maxLen]; omega, by simp [bv], rfl⟩⟩
theorem wpList_append_bs {ops : Array Oper} {rest : List Oper} {o : Oper} {a : Act} {w : World} {Q : Exit → Act → World → Prop} (hgd : o.guard = none) (s x : Operand)
    (ho : o.op = .call { callee := .builtin .append, args := #[s, x], argTypes := #[127, 127] })
    (base : Nat) (v : Value) (l : List UInt8) (hs : a.eval s = v) (hown : OwnB base w v l) (g t : Nat) (xs : List Int) (fr : Nat × Nat)
    (hx : a.eval x = .slice (some ⟨g, 0, none⟩) xs.length xs.length) (hg : w.heap[g]? = some (.cells (xs.map (Value.int .u8)).toArray t fr)) (hxs : ∀ x ∈ xs, 0 ≤ x ∧ x < 256) (hl : l.length + xs.length ≤ 1000000000) (hbase : base ≤ w.heap.size)
    (h : ∀ v' w', OwnB base w' v' (l ++ xs.map fun n => UInt8.ofNat n.toNat) → (∀ w0 : World, w0.heap.size ≤ base → Calm w0 w → Calm w0 w') → wpList Try.prog ops Q rest (a.put o.dst v') w') : wpList Try.prog ops Q (o :: rest) a w := by
  obtain ⟨i0, hi, hz0, hz1, hz2⟩ := info_parts infoByte
  refine wpList_append_own w hgd s x _ ho base 5 i0 _ 1 1 Try.underlying127 hi hz0 hz1 hz2 rfl (by decide) v _ _ hs hown ⟨g, 0, none⟩ xs.length xs.length (xs.map (Value.int .u8)) hx (by simp) (fun j u hj => ?_) (fun u hu => ?_) (by unfold maxLen; omega) (by omega) hbase fun v' w' h1 h2 _ => ?_
  · have : (⟨g, 0, none⟩ : Addr).add j = ⟨g, j, none⟩ := by unfold Addr.add; split <;> simp_all
    rw [this, cell_of_row w g j _ t fr hg, ← hj]
    simp
  · obtain ⟨n, _, rfl⟩ := List.mem_map.1 hu; rfl
  · refine h v' w' ?_ fun w0 h0 hc => hc.grownB h0 hown h2
    unfold OwnB
    have e : bv (l ++ xs.map fun n => UInt8.ofNat n.toNat) = bv l ++ xs.map (Value.int .u8) := by
      rw [bv_append]
      congr 1
      simp only [bv, List.map_map]
      apply List.map_congr_left
      intro n hn
      have := hxs n hn
      simp only [Function.comp, UInt8.toNat_ofNat']
      congr 1
      omega
    rw [e, List.length_append, List.length_map]
    exact h1
/-- append(b, x). -/
theorem wpList_append_b1 {ops : Array Oper} {rest : List Oper} {o : Oper} {a : Act} {w : World} {Q : Exit → Act → World → Prop} (hgd : o.guard = none) (s x : Operand)
    (ho : o.op = .call { callee := .builtin .append, args := #[s, x], argTypes := #[127, 127] })
    (base : Nat) (v : Value) (l : List UInt8) (hs : a.eval s = v) (hown : OwnB base w v l) (g t : Nat) (n : Int) (fr : Nat × Nat)
    (hx : a.eval x = .slice (some ⟨g, 0, none⟩) 1 1) (hg : w.heap[g]? = some (.cells #[.int .u8 n] t fr)) (hn : 0 ≤ n ∧ n < 256) (hl : l.length ≤ 1000000) (hbase : base ≤ w.heap.size)
    (h : ∀ v' w', OwnB base w' v' (l ++ [UInt8.ofNat n.toNat]) → (∀ w0 : World, w0.heap.size ≤ base → Calm w0 w → Calm w0 w') → wpList Try.prog ops Q rest (a.put o.dst v') w') : wpList Try.prog ops Q (o :: rest) a w :=
  wpList_append_bs hgd s x ho base v l hs hown g t [n] fr hx hg (by simpa using hn) (by simp; omega) hbase h
/-- append(b, s...). -/
theorem wpList_append_st {ops : Array Oper} {rest : List Oper} {o : Oper} {a : Act} {w : World} {Q : Exit → Act → World → Prop} (hgd : o.guard = none) (sl x : Operand)
    (ho : o.op = .call { callee := .builtin .append, args := #[sl, x], argTypes := #[127, 9] })
    (base : Nat) (v : Value) (l : List UInt8) (hs : a.eval sl = v) (hown : OwnB base w v l) (s : ByteArray) (hx : a.eval x = .string s) (hl : l.length + s.size ≤ 1000000000) (hbase : base ≤ w.heap.size)
    (h : ∀ v' w', OwnB base w' v' (l ++ s.data.toList) → (∀ w0 : World, w0.heap.size ≤ base → Calm w0 w → Calm w0 w') → wpList Try.prog ops Q rest (a.put o.dst v') w') : wpList Try.prog ops Q (o :: rest) a w := by
  obtain ⟨i0, hi, hz0, hz1, hz2⟩ := info_parts infoByte
  refine Lib.wpList_append_own_string w hgd sl x _ _ ho base 5 i0 Try.underlying127 Try.underlying9 hi hz0 hz1 hz2 v _ _ hs hown s hx (by unfold maxLen; omega) (by omega) hbase fun v' w' h1 h2 _ => ?_
  refine h v' w' ?_ fun w0 h0 hc => hc.grownB h0 hown h2
  unfold OwnB
  rw [bv_append, List.length_append, Array.length_toList]
  exact h1
/-- string(b). -/
theorem OwnB.str {base : Nat} {w : World} {v : Value} {l : List UInt8} (h : OwnB base w v l) (hl : 0 < l.length) : (convert 127 9 v).run Try.prog w = .ok (.string ⟨l.toArray⟩) w := by
 rcases h.2 with ⟨rfl, h0⟩ | ⟨g, cap, cur, rfl, _, hg, hnc, hcm, _, ht⟩
 ·omega
 ·refine run_convert_bytes_back w _ _ 5 ⟨g, 0, none⟩ cap l Try.underlying127 Try.underlying5 Try.underlying9 fun j hj => ?_
  have : (⟨g, 0, none⟩ : Addr).add j = ⟨g, j, none⟩ := by unfold Addr.add; split <;> simp_all
  rw [this, cell_of_row w g _ cur _ (0, 0) hg]
  have h2 := congrArg (·[j]?) ht
  simp only [Nat.mul_one] at h2
  rw [List.getElem?_take_of_lt hj, Array.getElem?_toList] at h2
  rw [h2]
  simp [bv, hj]
open Go.ChangeShapes Go.WideShapes Go.ChangeAt Go.RowKit
theorem own : ownKnob Try.prog.godebug = none := by kernel_rfl
theorem laidOut : laidOutB Try.prog = true := by kernel_rfl
section
variable {H : Type} {enc : TypeId × Value → H} {P : Program}
theorem trodAll_stays (hl : laidOutB P = true) {W W' : World} (hb : Calm W W') : ∀ (ts : List TypeId) (vs : List Value) (ds : List (DataW H)) (ps : List MemPlace), ts.all (fun t => P.readableRec t && decide (t < P.types.size)) = true →
    DataW.TrodAll enc P W 0 (fun _ => true) true ts vs ds ps → (∀ x ∈ ps, x.block < W.heap.size) → DataW.TrodAll enc P W' 0 (fun b => decide (b < W.heap.size)) true ts vs ds ps
  | [], [], [], ps, _, h, _ => h
  | t :: ts, v :: vs, d :: ds, ps, ht, h, hlt => by
    obtain ⟨p, q, h1, h2, rfl⟩ := h
    simp only [List.all_cons, Bool.and_eq_true, decide_eq_true_eq] at ht
    exact ⟨p, q, Below.trod hl ht.1.1 ht.1.2 h1 hb fun x hx => hlt x (List.mem_append_left _ hx), trodAll_stays hl hb ts vs ds q (by simpa using ht.2) h2 fun x hx => hlt x (List.mem_append_right _ hx), rfl⟩
  | [], _ :: _, _, _, _, h, _ => absurd h (by simp [DataW.TrodAll])
  | [], [], _ :: _, _, _, h, _ => absurd h (by simp [DataW.TrodAll])
  | _ :: _, [], _, _, _, h, _ => absurd h (by simp [DataW.TrodAll])
  | _ :: _, _ :: _, [], _, _, h, _ => absurd h (by simp [DataW.TrodAll])
/-- The row's post, of a law: it answers true, and nothing that was there has turned. -/
theorem law_post (hl : laidOutB P = true) {f : Func} {s : ChangeSpec} {apart fresh handsOn : Bool} {W W' : World} {args : Array Value} {ds gs : List (DataW H)} {before : List MemPlace}
    (hW : DataW.Whole enc P f.params.toList s.vars apart W args.toList ds gs before) (hb : Calm W W') (hbool : ∃ t, f.resultTypes = #[t] ∧ P.underlying t = some .bool)
    (hts : f.params.toList.all (fun t => P.readableRec t && decide (t < P.types.size)) = true) (hvars : s.vars = []) (hspec : (s.fn H (ds ++ gs)).results = [.lit (.bool true)] ∧ (s.fn H (ds ++ gs)).args = ds ∧ (s.fn H (ds ++ gs)).vars = []) :
    s.post enc P f apart fresh handsOn false W args (.bool true) W' := by
  obtain ⟨t, ht, hu⟩ := hbool
  obtain ⟨h1, h2, h3⟩ := hspec
  have hlt := hW.lt
  obtain ⟨p, q, hA, hV, rfl, hz, hn⟩ := id hW
  rw [hvars] at hV
  obtain ⟨rfl, rfl⟩ := trodVars_none hV
  refine ⟨ds, [], p ++ [], [], p, [], hW, ?_, ?_, ?_, World.keptBut_mono (fun _ h => h) (Below.frame hb _), fun h => by cases h⟩
  · rw [h1, ht]
    exact trodAll_mk1 (shut_bool hu true)
  · rw [h2]
    exact trodAll_stays hl hb _ _ _ _ hts hA fun x hx => hlt x (by simpa using hx)
  · rw [h3, hvars]
    exact rfl
end
section
variable {H : Type} {enc : TypeId × Value → H} {w : World} {base : Nat} {spare : Nat → Bool} {held : Bool}
theorem cellsInt : Try.prog.cellsOf 3 = 1 := by kernel_rfl
theorem cellsStr : Try.prog.cellsOf 9 = 1 := by kernel_rfl
variable {r : Reach} {b0 : Nat} {v : Value} {d : DataW H} {ps : List MemPlace}
end
open Go.ChangeShapes Go.WideShapes Go.ChangeAt Go.RowKit
section
variable {H : Type} {enc : TypeId × Value → H} {w : World} {base : Nat} {spare : Nat → Bool} {held : Bool}
theorem list_of {α : Type} (R : Nat → α → Prop) : ∀ n, (∀ i, i < n → ∃ e, R i e) → ∃ l : List α, l.length = n ∧ ∀ k e, l[k]? = some e → R k e
 | 0, _ => ⟨[], rfl, by simp⟩
 |n + 1, h => by
  obtain ⟨l, hl, hk⟩ := list_of R n fun i hi => h i (by omega)
  obtain ⟨e, he⟩ := h n (by omega)
  refine ⟨l ++ [e], by simp [hl], fun k x hx => ?_⟩
  rcases Nat.lt_or_ge k n with hlt | hge
  ·rw [List.getElem?_append_left (by omega)] at hx; exact hk k x hx
  ·rw [List.getElem?_append_right (by omega)] at hx
   have : k = n := by
    have := (List.getElem?_eq_some_iff.1 hx).1
    simp at this; omega
   subst this
   rw [hl] at hx; simp at hx; subst hx; exact he
theorem add_add (b q i j : Nat) : ((⟨b, q, none⟩ : Addr).add i).add j = ⟨b, q + i + j, none⟩ := by
 unfold Addr.add
 split <;> split <;> simp_all
/-- A slice of rows of N cells each. -/
theorem rows_open {t e : TypeId} {fuel : Nat} {cs : List Value} {x : DataW H × List MemPlace} {α : Type} (cv : α → List Value) (wf : α → Prop) (N : Nat) (ht : Try.prog.underlying t = some (.slice e)) (hN : Try.prog.cellsOf e = N) (h0 : 0 < N)
    (hel : ∀ fuel cs x, DataW.trod enc Try.prog w base spare held fuel e cs = some x → ∃ y, cs = cv y ∧ wf y) (h : DataW.trod enc Try.prog w base spare held fuel t cs = some x) :
    ∃ (A : Option Addr) (c : Nat) (l : List α), cs = [.slice A l.length c] ∧ l.length ≤ 9223372036854775807 ∧ l.length ≤ c ∧ (∀ y ∈ l, wf y) ∧
      (0 < l.length → ∃ b q, A = some ⟨b, q, none⟩ ∧ b < w.heap.size ∧ ∀ (k : Nat) (y : α), l[k]? = some y → ∀ j, j < N → w.cell? ⟨b, q + k * N + j, none⟩ = (cv y)[j]?) ∧
      (x.1 = .nil ∧ l.length = 0 ∨ ∃ els sp : List (DataW H), x.1 = .slice els sp ∧ l.length ≤ els.length) := by
  rcases Go.Deep.open_slice ht h with ⟨hcs, hx⟩ | ⟨a, len, cap, m, n, D, Pl, hcs, _, hl, hm, hmm, hx, hi⟩
  · exact ⟨none, 0, [], hcs, by simp, by simp, by simp, fun h => absurd h (by simp), Or.inl ⟨by rw [hx], rfl⟩⟩
  · have hlm : len ≤ m := by rw [hmm]; split <;> omega
    have hsp : 0 < len → a.spot = none := fun hpos => by
      obtain ⟨cs0, hc0, ht0⟩ := hi 0 (by omega)
      rw [hN] at hc0
      obtain ⟨_, hlc, hat⟩ := World.cells?_some hc0
      have k0 := hat 0 h0
      obtain ⟨v0, hv0⟩ : ∃ v, cs0[0]? = some v := ⟨_, List.getElem?_eq_getElem (by omega)⟩
      rw [hv0, Nat.zero_mul] at k0
      exact World.cell?_spot (by simpa [Addr.add] using k0)
    have each : ∀ i, i < len → ∃ y : α, wf y ∧ a.block < w.heap.size ∧ ∀ j, j < N → w.cell? ⟨a.block, a.off + i * N + j, none⟩ = (cv y)[j]? := fun i hil => by
      obtain ⟨cs', hc, ht'⟩ := hi i (by omega)
      obtain ⟨y, rfl, hwf⟩ := hel _ _ _ ht'
      rw [hN] at hc
      obtain ⟨_, hlc, hat⟩ := World.cells?_some hc
      have hs := hsp (by omega)
      obtain ⟨b, q, sp⟩ := a
      simp only at hs
      subst hs
      simp only [add_add] at hat
      refine ⟨y, hwf, ?_, fun j hj => hat j hj⟩
      have k0 := hat 0 h0
      obtain ⟨v0, hv0⟩ : ∃ v, (cv y)[0]? = some v := ⟨_, List.getElem?_eq_getElem (by omega)⟩
      rw [hv0] at k0
      have hbl := World.block_lt_of_cell? _ _ k0
      exact hbl
    obtain ⟨l, rfl, hk⟩ := list_of (fun i y => wf y ∧ a.block < w.heap.size ∧ ∀ j, j < N → w.cell? ⟨a.block, a.off + i * N + j, none⟩ = (cv y)[j]?) len each
    refine ⟨some a, cap, l, hcs, by simp only [maxLen] at hm; omega, hl, fun y hy => ?_, fun hpos => ?_, Or.inr ⟨_, _, by rw [hx], by simp⟩⟩
    · obtain ⟨k, hkl, rfl⟩ := List.getElem_of_mem hy
      exact (hk k _ (List.getElem?_eq_getElem hkl)).1
    · have hs := hsp hpos
      obtain ⟨b, q, sp⟩ := a
      simp only at hs
      subst hs
      exact ⟨b, q, rfl, (hk 0 _ (List.getElem?_eq_getElem hpos)).2.1, fun k y hy => (hk k y hy).2.2⟩
variable {r : Reach} {b0 : Nat} {v : Value} {d : DataW H} {ps : List MemPlace}
end
open Go.RowKit
theorem num_take (s : ByteArray) (k : Nat) (h : k < s.size) : num (s.data.toList.take (k + 1)) = 256 * num (s.data.toList.take k) + s[k].toNat := by
 rw [List.take_succ_eq_append_getElem (by simpa using h), num_snoc]; rfl
theorem num_take_lt (s : ByteArray) (k : Nat) (h : k < s.size) (h4 : s.size ≤ 4) : num (s.data.toList.take k) < 16777216 := by
 have h1 := num_lt _ (s.data.toList.take k) rfl
 have h2 : (s.data.toList.take k).length ≤ 3 := by rw [List.length_take]; omega
 have h3 : 256 ^ (s.data.toList.take k).length ≤ 256 ^ 3 := Nat.pow_le_pow_right (by omega) h2
 omega
theorem or_byte (n : Nat) (c : UInt8) (h : n < 16777216) : bits .or .i64 ((n : Int) * 256) (wrap64 (c.toNat : Int)) = ((256 * n + c.toNat : Nat) : Int) := by
 have hc := c.toNat_lt
 rw [IntWalk.wrap64_in _ (by omega)]
 have h1 := i64_or (n * 256) c.toNat (by omega) (by omega)
 rw [Go.nat_join 8 (n * 256) c.toNat (by omega) (by omega)] at h1
 rw [show 256 * n + c.toNat = n * 256 + c.toNat from by omega, ← h1]
 congr 1
set_option maxHeartbeats 2000000 in
theorem number_any (s : ByteArray) (w : World) (hs : s.size ≤ 4) : Calls Try.prog 91 #[.string s] w fun e w' => e = .returned (.int .i64 (num s.data.toList : Int)) ∧ w = w' := by
 go_enter Try.func91, Try.ntmps91
 go_wp2
 go_loop [3, 7] (fun r i => ∃ k : Nat, k ≤ s.size ∧ i = .int .i64 k ∧ r = .int .i64 (num (s.data.toList.take k) : Int)) (fun _ i => s.size - (intOf i).toNat)
 case atStart => exact ⟨0, Nat.zero_le _, rfl, rfl⟩
 case round =>
  obtain ⟨k, hk, rfl, rfl⟩ := hrel
  by_cases hlt : k < s.size
  ·have hn := num_take_lt s k hlt hs
   have HT := Lib.hid (num_take s k hlt)
   generalize num (s.data.toList.take k) = n at hn HT ⊢
   have HO := Lib.hid (or_byte n s[k] hn)
   have hn' : (n : Int) < 16777216 := by omega
   clear hn
   go_wp2
   go_round
   case rel => exact ⟨k + 1, by omega, by go_num, by rw [HT.out, HO.out]⟩
   case measure => simp [intOf]; omega
  ·go_wp2
   go_ret
   exact ⟨ret_int (by rw [List.take_of_length_le (by simp; omega)]), rfl⟩
set_option maxHeartbeats 2000000 in
theorem refBig_any (s : ByteArray) (w : World) (hs : s.size ≤ 4) : Calls Try.prog 60 #[.string s] w fun e w' => e = .returned (.int .i64 (num s.data.toList : Int)) ∧ w = w' := by
 go_enter Try.func60, Try.ntmps60
 go_wp2
 go_loop [3, 7] (fun r i => ∃ k : Nat, k ≤ s.size ∧ i = .int .i64 k ∧ r = .int .i64 (num (s.data.toList.take k) : Int)) (fun _ i => s.size - (intOf i).toNat)
 case atStart => exact ⟨0, Nat.zero_le _, rfl, rfl⟩
 case round =>
  obtain ⟨k, hk, rfl, rfl⟩ := hrel
  by_cases hlt : k < s.size
  ·have hn := num_take_lt s k hlt hs
   have HT := Lib.hid (num_take s k hlt)
   have hc := s[k].toNat_lt
   have hc' : (s[k].toNat : Int) < 256 := by omega
   generalize num (s.data.toList.take k) = n at hn HT ⊢
   have hn' : (n : Int) < 16777216 := by omega
   clear hn hc
   go_wp2
   go_round
   case rel => exact ⟨k + 1, by omega, by go_num, by rw [HT.out]; go_num⟩
   case measure => simp [intOf]; omega
  ·go_wp2
   go_ret
   exact ⟨ret_int (by rw [List.take_of_length_le (by simp; omega)]), rfl⟩
theorem convOne (u : World) (g : Nat) (x : Int) (h : u.cell? ⟨g, 0, none⟩ = some (.int .u8 x)) : (convert 127 9 (.slice (some ⟨g, 0, none⟩) 1 1)).run Try.prog u = .ok (.string (strOfNums [x])) u := by
 refine run_convert_bytes_arg _ _ 5 Try.underlying127 Try.underlying5 _ _ 1 1 [x] rfl ?_ _ Try.underlying9
 intro i hi
 match i, hi with
 | 0, _ => exact h
set_option maxHeartbeats 4000000 in
theorem big_any : ∀ (k n : Nat) (w : World), k ≤ 4 → n < 4294967296 → Calls Try.prog 52 #[.int .i64 (n : Int), .int .i64 (k : Int)] w fun e w' => e = .returned (.string ⟨(be k n).toArray⟩) ∧ Calm w w'
 | 0, n, w, _, _ => by
  go_enter Try.func52, Try.ntmps52
  go_wp2
  go_ret
  exact ⟨rfl, Calm.refl _⟩
 |k + 1, n, w, hk, hn => by
  have ih := fun u => big_any k (n / 256) u (by omega) (by omega)
  obtain ⟨q, hq⟩ : ∃ q, q = n / 256 := ⟨_, rfl⟩
  obtain ⟨m, hm⟩ : ∃ m, m = n % 256 := ⟨_, rfl⟩
  obtain ⟨k1, hk1⟩ : ∃ k1, k1 = k + 1 := ⟨_, rfl⟩
  have E : Hid ((⟨(be k q).toArray⟩ : ByteArray) ++ strOfNums [(m : Int)] = ⟨(be (k + 1) n).toArray⟩) := by
   show _ = _
   rw [be, ← hq, ← hm]
   apply ByteArray.ext
   rw [ByteArray.data_append]
   apply Array.toList_inj.1
   simp [strOfNums]
  have hB : (⟨(be k q).toArray⟩ : ByteArray).size = k := by show (be k q).toArray.size = k; rw [List.size_toArray, be_length]
  have hS : (strOfNums [(m : Int)]).size = 1 := strOfNums_size _
  have hcv := fun u g => convOne u g (m : Int)
  rw [← hq] at ih
  generalize (⟨(be k q).toArray⟩ : ByteArray) = B at ih E hB
  generalize strOfNums [(m : Int)] = S at hcv E hS
  have e1 : IntKind.i64.wrap ((n : Int).tdiv 256) = (q : Int) := by rw [Int.tdiv_eq_ediv_of_nonneg (by omega), IntWalk.i64_in _ (by omega)]; omega
  have e2 : IntKind.i64.wrap ((n : Int).tmod 256) = (m : Int) := by rw [Int.tmod_eq_emod_of_nonneg (by omega), IntWalk.i64_in _ (by omega)]; omega
  have e1' : IntKind.i64.wrap ((n : Int) / 256) = (q : Int) := by rw [IntWalk.i64_in _ (by omega)]; omega
  have e2' : (n : Int).tmod 256 = (m : Int) := by rw [Int.tmod_eq_emod_of_nonneg (by omega)]; omega
  have e4 : IntKind.u8.wrap (m : Int) = (m : Int) := IntWalk.u8_in _ (by omega)
  have e3 : IntKind.i64.wrap ((k1 : Int) - 1) = (k : Int) := by rw [IntWalk.i64_in _ (by omega)]; omega
  have hm8 : (m : Int) < 256 := by omega
  have b0 : ((k1 : Int) == 0) = false := by rw [beq_eq_false_iff_ne]; omega
  have hk9 : k ≤ 3 := by omega
  rw [show ((k + 1 : Nat) : Int) = (k1 : Int) from by omega]
  clear hq hm hk1 hk hn
  go_enter Try.func52, Try.ntmps52
  go_wp2_with fail
  refine wp_region_plan [.val (.int .i64 (n)), .val (.int .i64 (q)), .val (.int .i64 (k1)), .val (.int .i64 (k)), .val (.string B), .val (.int .i64 (n)), .val (.int .i64 (m)), .val (.int .u8 (m : Int)), .new #[.int .u8 (m : Int)] 5 (some 1), .look 8 (.string S), .val (.string (B ++ S)), .val (.string (B ++ S))] (by kernel_rfl) (by kernel_rfl) (by kernel_rfl) ?_
  intro X
  iterate 8
   refine plan_val (by kernel_rfl) (fun u hu => ?_) ?_
   ·obtain ⟨hc, hf, hz⟩ := hu.of_drew.facts
    go_simp
    all_goals first
     |((go_at_call 52; exact ih _))
     |(exact e1')
     |(exact e2')
     |(exact e4)
     |((rw [hcv _ _ c0]; go_simp))
     |((rw [if_neg (by omega)]; go_simp))
   simp only [Act.put, List.setIfInBounds_toArray, List.set_cons_zero, List.set_cons_succ, Nat.reduceAdd]
  refine plan_lit (by kernel_rfl) (fun u => ?_) ?_
  ·go_simp
  simp only [Act.put, List.setIfInBounds_toArray, List.set_cons_zero, List.set_cons_succ, Nat.reduceAdd]
  refine plan_look (by kernel_rfl) (by kernel_rfl) rfl (by kernel_rfl) (fun u hu hr => ?_) ?_
  ·obtain ⟨hc, hf, hz⟩ := hu.of_drew.facts
   have c0 := cell_of_row _ _ 0 _ _ _ hr
   go_simp
   all_goals first
    |((go_at_call 52; exact ih _))
    |(exact e1')
    |(exact e2')
    |(exact e4)
    |((rw [hcv _ _ c0]; go_simp))
    |((rw [if_neg (by omega)]; go_simp))
  simp only [Act.put, List.setIfInBounds_toArray, List.set_cons_zero, List.set_cons_succ, Nat.reduceAdd]
  iterate 2
   refine plan_val (by kernel_rfl) (fun u hu => ?_) ?_
   ·obtain ⟨hc, hf, hz⟩ := hu.of_drew.facts
    go_simp
    all_goals first
     |((go_at_call 52; exact ih _))
     |(exact e1')
     |(exact e2')
     |(exact e4)
     |((rw [hcv _ _ c0]; go_simp))
     |((rw [if_neg (by omega)]; go_simp))
   simp only [Act.put, List.setIfInBounds_toArray, List.set_cons_zero, List.set_cons_succ, Nat.reduceAdd]
  refine plan_end ?_
  intro w' hB
  have hk := hB.calm.of_drew
  clear hB
  go_wp2
  go_ret
  exact ⟨congrArg (fun x => Ending.returned (.string x)) E.out, hk⟩
open Go.RowKit
theorem part_extract (s : ByteArray) (i j : Nat) : (s.extract i j).data.toList = part s.data.toList i (j - i) := by
 simp [ByteArray.data_extract, part, List.extract_eq_take_drop]
theorem part_bytes (s : ByteArray) (i j : Nat) : s.extract i j = ⟨(part s.data.toList i (j - i)).toArray⟩ := by
 apply ByteArray.ext
 apply Array.toList_inj.1
 rw [part_extract]
theorem head_at (s : ByteArray) (h : 0 < s.size) : num (part s.data.toList 0 1) = s[0].toNat := by
 unfold part
 have hl : s.data.toList.length = s.size := by simp
 rw [List.drop_eq_getElem_cons (by omega)]
 simp [num]; rfl
theorem calls_calm {f : FuncId} {args : Array Value} {u : World} {v : Value} (h : Calls Try.prog f args u fun e w' => e = .returned v ∧ u = w') : Calls Try.prog f args u fun e w' => e = .returned v ∧ Calm u w' :=
 h.mono fun _ _ ⟨a, b⟩ => ⟨a, b ▸ Calm.refl _⟩
def frErr (k : Int) (n : Nat) : Int := if k < 1 ∨ 255 < k then 1 else if 3000 < n then 2 else 0
def frHead (k : Nat) (b : List UInt8) : List UInt8 := be 1 k ++ (be 2 b.length ++ b)
def encF (k : Nat) (b : List UInt8) : List UInt8 := frHead k b ++ be 2 (crc (frHead k b)).toNat
def unKind (l : List UInt8) : Nat := num (part l 0 1)
def unSize (l : List UInt8) : Nat := num (part l 1 2)
def unBody (l : List UInt8) : List UInt8 := part l 3 (unSize l)
def unErr (l : List UInt8) : Int :=
 if l.length < 5 then 7 else if unKind l = 0 ∨ 3000 < unSize l then 3 else if l.length < 5 + unSize l then 7
 else if (crc (l.take (3 + unSize l))).toNat ≠ num (part l (3 + unSize l) 2) then 6 else 0
theorem frHead_length (k : Nat) (b : List UInt8) : (frHead k b).length = 3 + b.length := by
 simp only [frHead, List.length_append, be_length]; omega
theorem encF_length (k : Nat) (b : List UInt8) : (encF k b).length = 5 + b.length := by
 simp only [encF, List.length_append, be_length, frHead_length]; omega
section
variable {k : Nat} {b : List UInt8} (hk : k < 256) (hb : b.length ≤ 3000)
include hk hb
theorem un_head (r : List UInt8) : unKind (frHead k b ++ r) = k ∧ unSize (frHead k b ++ r) = b.length ∧ unBody (frHead k b ++ r) = b := by
 have E : frHead k b ++ r = be 1 k ++ (be 2 b.length ++ (b ++ r)) := by simp [frHead]
 have s1 := fun (c : List UInt8) (i j : Nat) => part_skip (b := c) (be_length 1 k) i j
 have s2 := fun (c : List UInt8) (i j : Nat) => part_skip (b := c) (be_length 2 b.length) i j
 have h2 : unSize (frHead k b ++ r) = b.length := by
  rw [unSize, E, show 1 = 1 + 0 from rfl, s1, part_here (be_length _ _), num_be _ _ (by omega)]
 refine ⟨?_, h2, ?_⟩
 ·rw [unKind, E, part_here (be_length _ _), num_be _ _ (by omega)]
 ·rw [unBody, h2, E, show 3 = 1 + (2 + 0) from rfl, s1, s2, part_here rfl]
theorem un_enc (h0 : 0 < k) (r : List UInt8) : unErr (encF k b ++ r) = 0 ∧ unKind (encF k b ++ r) = k ∧ unSize (encF k b ++ r) = b.length ∧ unBody (encF k b ++ r) = b := by
 have E : encF k b ++ r = frHead k b ++ (be 2 (crc (frHead k b)).toNat ++ r) := by simp [encF]
 have hl := encF_length k b
 obtain ⟨h1, h2, h3⟩ := un_head hk hb (be 2 (crc (frHead k b)).toNat ++ r)
 rw [← E] at h1 h2 h3
 refine ⟨?_, h1, h2, h3⟩
 have hc := (crc (frHead k b)).isLt
 have e1 : (encF k b ++ r).take (3 + b.length) = frHead k b := by rw [E, List.take_left' (frHead_length k b)]
 have e2 : part (encF k b ++ r) (3 + b.length) 2 = be 2 (crc (frHead k b)).toNat := by
  rw [E, show 3 + b.length = 3 + b.length + 0 from rfl, part_skip (frHead_length k b), part_here (be_length _ _)]
 unfold unErr
 rw [if_neg (by rw [List.length_append]; omega), h1, h2, if_neg (by omega), if_neg (by rw [List.length_append]; omega), e1, e2, num_be _ _ (by omega), if_neg (by simp)]
end
theorem be2 (n : Nat) (h : n < 65536) : be 2 n = [UInt8.ofNat (n / 256), UInt8.ofNat (n % 256)] := by
 show [UInt8.ofNat (n / 256 % 256), UInt8.ofNat (n % 256)] = _
 rw [Nat.mod_eq_of_lt (show n / 256 < 256 by omega)]
open Go.RowKit
theorem be4 (n : Nat) (h : n < 4294967296) : be 4 n = [UInt8.ofNat (n / 16777216), UInt8.ofNat (n / 65536 % 256), UInt8.ofNat (n / 256 % 256), UInt8.ofNat (n % 256)] := by
 show [UInt8.ofNat (n / 256 / 256 / 256 % 256), UInt8.ofNat (n / 256 / 256 % 256), UInt8.ofNat (n / 256 % 256), UInt8.ofNat (n % 256)] = _
 rw [show n / 256 / 256 / 256 % 256 = n / 16777216 from by omega, show n / 256 / 256 % 256 = n / 65536 % 256 from by omega]
theorem be1 (n : Nat) (h : n < 256) : be 1 n = [UInt8.ofNat n] := by
 show [UInt8.ofNat (n % 256)] = _
 rw [Nat.mod_eq_of_lt h]
theorem OwnB.base {base : Nat} {w : World} {v : Value} {l : List UInt8} (h : OwnB base w v l) (hl : 0 < l.length) : base ≤ w.heap.size := by
 rcases h.2 with ⟨_, h0⟩ | ⟨g, cap, cur, rfl, hb, hg, _⟩
 ·omega
 ·have := (Array.getElem?_eq_some_iff.1 hg).1; omega
theorem OwnB.nil (base : Nat) (w : World) : OwnB base w (.slice none 0 0) [] := World.ownsRow_nil _ _ _ _
def PairEnd (base : Nat) (l : List UInt8) (w : World) (e : Ending) (w' : World) : Prop := ∃ v', e = .returned v' ∧ OwnB base w' v' l ∧ ∀ w0 : World, w0.heap.size ≤ base → Calm w0 w → Calm w0 w'
set_option maxHeartbeats 4000000 in
theorem appendNum2_any (base : Nat) (v : Value) (l : List UInt8) (n : Nat) (w : World) (hn : n < 65536) (ho : OwnB base w v l) (hl : l.length ≤ 100000) (hb : base ≤ w.heap.size) :
    Calls Try.prog 87 #[v, .int .i64 (n : Int), .int .i64 2] w (PairEnd base (l ++ be 2 n) w) := by
  have HO := Lib.hid ho
  have C0 : Hid (∀ w0 : World, w0.heap.size ≤ base → Calm w0 w → Calm w0 w) := show ∀ _, _ from fun _ _ h => h
  clear ho
  go_enter Try.func87, Try.ntmps87
  go_wp2_with fail
  refine wp_loop_rounds 3 ?_
  rw [rounds_succ]
  go_wp2_with (at_builtin; refine wpList_append_b1 rfl _ _ rfl base _ _ rfl (HO.out.calm ((Calm.refl _).alloc _)) _ _ _ _ rfl (heap_new _ _) ?_ (by first | omega | (simp; omega)) (by first | omega | (simp; omega)) ?_; (· omega); intro v1 w1 ho1 hc1; replace C0 : Hid (∀ w0 : World, w0.heap.size ≤ base → Calm w0 w → Calm w0 w1) := (show ∀ _, _ from fun w0 h0 hc => hc1 w0 h0 ((C0.out w0 h0 hc).alloc _)); replace hb := ho1.base (by simp); replace HO := Lib.hid ho1; clear ho1 hc1)
  rw [rounds_succ]
  go_wp2_with (at_builtin; refine wpList_append_b1 rfl _ _ rfl base _ _ rfl (HO.out.calm ((Calm.refl _).alloc _)) _ _ _ _ rfl (heap_new _ _) ?_ (by first | omega | (simp; omega)) (by first | omega | (simp; omega)) ?_; (· omega); intro v1 w1 ho1 hc1; replace C0 : Hid (∀ w0 : World, w0.heap.size ≤ base → Calm w0 w → Calm w0 w1) := (show ∀ _, _ from fun w0 h0 hc => hc1 w0 h0 ((C0.out w0 h0 hc).alloc _)); replace hb := ho1.base (by simp); replace HO := Lib.hid ho1; clear ho1 hc1)
  rw [rounds_succ]
  go_wp2_with fail
  go_ret
  refine ⟨_, rfl, ?_, C0.out⟩
  have h9 := HO.out
  simp only [List.append_assoc, List.cons_append, List.nil_append] at h9
  have e : be 2 n = [UInt8.ofNat ((n : Int) / 256).toNat, UInt8.ofNat ((n : Int) % 256).toNat] := by
    rw [be2 n (by omega)]
    congr 1
  rw [e]
  exact h9
set_option maxHeartbeats 4000000 in
theorem appendNum4_any (base : Nat) (v : Value) (l : List UInt8) (n : Nat) (w : World) (hn : n < 4294967296) (ho : OwnB base w v l) (hl : l.length ≤ 100000) (hb : base ≤ w.heap.size) :
    Calls Try.prog 87 #[v, .int .i64 (n : Int), .int .i64 4] w (PairEnd base (l ++ be 4 n) w) := by
  have HO := Lib.hid ho
  have C0 : Hid (∀ w0 : World, w0.heap.size ≤ base → Calm w0 w → Calm w0 w) := show ∀ _, _ from fun _ _ h => h
  clear ho
  go_enter Try.func87, Try.ntmps87
  go_wp2_with fail
  refine wp_loop_rounds 5 ?_
  rw [rounds_succ]
  go_wp2_with (at_builtin; refine wpList_append_b1 rfl _ _ rfl base _ _ rfl (HO.out.calm ((Calm.refl _).alloc _)) _ _ _ _ rfl (heap_new _ _) ?_ (by first | omega | (simp; omega)) (by first | omega | (simp; omega)) ?_; (· omega); intro v1 w1 ho1 hc1; replace C0 : Hid (∀ w0 : World, w0.heap.size ≤ base → Calm w0 w → Calm w0 w1) := (show ∀ _, _ from fun w0 h0 hc => hc1 w0 h0 ((C0.out w0 h0 hc).alloc _)); replace hb := ho1.base (by simp); replace HO := Lib.hid ho1; clear ho1 hc1)
  rw [rounds_succ]
  go_wp2_with (at_builtin; refine wpList_append_b1 rfl _ _ rfl base _ _ rfl (HO.out.calm ((Calm.refl _).alloc _)) _ _ _ _ rfl (heap_new _ _) ?_ (by first | omega | (simp; omega)) (by first | omega | (simp; omega)) ?_; (· omega); intro v1 w1 ho1 hc1; replace C0 : Hid (∀ w0 : World, w0.heap.size ≤ base → Calm w0 w → Calm w0 w1) := (show ∀ _, _ from fun w0 h0 hc => hc1 w0 h0 ((C0.out w0 h0 hc).alloc _)); replace hb := ho1.base (by simp); replace HO := Lib.hid ho1; clear ho1 hc1)
  rw [rounds_succ]
  go_wp2_with (at_builtin; refine wpList_append_b1 rfl _ _ rfl base _ _ rfl (HO.out.calm ((Calm.refl _).alloc _)) _ _ _ _ rfl (heap_new _ _) ?_ (by first | omega | (simp; omega)) (by first | omega | (simp; omega)) ?_; (· omega); intro v1 w1 ho1 hc1; replace C0 : Hid (∀ w0 : World, w0.heap.size ≤ base → Calm w0 w → Calm w0 w1) := (show ∀ _, _ from fun w0 h0 hc => hc1 w0 h0 ((C0.out w0 h0 hc).alloc _)); replace hb := ho1.base (by simp); replace HO := Lib.hid ho1; clear ho1 hc1)
  rw [rounds_succ]
  go_wp2_with (at_builtin; refine wpList_append_b1 rfl _ _ rfl base _ _ rfl (HO.out.calm ((Calm.refl _).alloc _)) _ _ _ _ rfl (heap_new _ _) ?_ (by first | omega | (simp; omega)) (by first | omega | (simp; omega)) ?_; (· omega); intro v1 w1 ho1 hc1; replace C0 : Hid (∀ w0 : World, w0.heap.size ≤ base → Calm w0 w → Calm w0 w1) := (show ∀ _, _ from fun w0 h0 hc => hc1 w0 h0 ((C0.out w0 h0 hc).alloc _)); replace hb := ho1.base (by simp); replace HO := Lib.hid ho1; clear ho1 hc1)
  rw [rounds_succ]
  go_wp2_with fail
  go_ret
  refine ⟨_, rfl, ?_, C0.out⟩
  have h9 := HO.out
  simp only [List.append_assoc, List.cons_append, List.nil_append] at h9
  have e : be 4 n = [UInt8.ofNat ((n : Int) / 16777216).toNat, UInt8.ofNat ((n : Int) / 65536 % 256).toNat, UInt8.ofNat ((n : Int) / 256 % 256).toNat, UInt8.ofNat ((n : Int) % 256).toNat] := by
    rw [be4 n (by omega)]
    congr 1
  rw [e]
  exact h9
open Go.RowKit
theorem str_ne {s s' : ByteArray} (h : ¬ s = s') : (s.toList == s'.toList) = false := by
 cases e : s.toList == s'.toList
 ·rfl
 ·exfalso
  have h2 := eq_of_beq e
  rw [ByteArray.toList_eq, ByteArray.toList_eq] at h2
  exact h (ByteArray.ext (Array.toList_inj.1 h2))
open Go.RowKit
theorem ret_u16 {a b : Int} (h : a = b) : Ending.returned (.int .u16 a) = .returned (.int .u16 b) := by rw [h]
set_option maxHeartbeats 1000000 in
theorem shift_any (r : BitVec 16) (w : World) : Calls Try.prog 109 #[.int .u16 (r.toNat : Int)] w fun e w' => e = .returned (.int .u16 ((shB r).toNat : Int)) ∧ w = w' := by
 have hr := r.isLt
 by_cases h : 32768 ≤ r.toNat
 ·have H := Lib.hid (shB_top r h)
  generalize (shB r).toNat = z at H ⊢
  generalize r.toNat = n at *
  have b1 : ((n : Int) / 32768 == 1) = true := by rw [beq_iff_eq]; omega
  go_enter Try.func109, Try.ntmps109
  go_wp2
  go_ret
  refine ⟨ret_u16 ?_, rfl⟩
  rw [H.out, IntKind.wrap_u16, ← Go.u16_xor_nat _ _ (Nat.mod_lt _ (by decide)) (by decide)]
  congr 1
 ·have H := Lib.hid (shB_low r (by omega))
  generalize (shB r).toNat = z at H ⊢
  generalize r.toNat = n at *
  have b1 : ((n : Int) / 32768 == 1) = false := by rw [beq_eq_false_iff_ne]; omega
  go_enter Try.func109, Try.ntmps109
  go_wp2
  go_ret
  refine ⟨ret_u16 ?_, rfl⟩
  rw [H.out]
  omega
theorem shN_succ (n : Nat) (a : BitVec 16) : shN (n + 1) a = shB (shN n a) := (shB_shN n a).symm
theorem take_snoc (s : ByteArray) (k : Nat) (h : k < s.size) : s.data.toList.take (k + 1) = s.data.toList.take k ++ [s[k]] := by
 rw [List.take_succ_eq_append_getElem (by simpa using h)]; rfl
theorem byte_in (r : BitVec 16) (c : UInt8) : bits .xor .u16 (r.toNat : Int) ((c.toNat : Int) * 256) = ((r ^^^ (BitVec.ofNat 16 c.toNat <<< 8)).toNat : Int) := by
 have hc := c.toNat_lt
 have hr := r.isLt
 rw [stp_in, ← Go.u16_xor_nat _ _ hr (by omega)]
 congr 1
set_option maxHeartbeats 1000000 in
theorem sumOf_any (s : ByteArray) (w : World) (hs : s.size ≤ maxLen) : Calls Try.prog 88 #[.string s] w fun e w' => e = .returned (.int .i64 ((crc s.data.toList).toNat : Int)) ∧ w = w' := by
 unfold maxLen at hs
 go_enter Try.func88, Try.ntmps88
 go_wp2
 go_loop [3, 7] (fun r i => ∃ k : Nat, k ≤ s.size ∧ i = .int .i64 k ∧ r = .int .u16 ((crc (s.data.toList.take k)).toNat)) (fun _ i => s.size - (intOf i).toNat)
 case atStart => exact ⟨0, Nat.zero_le _, rfl, rfl⟩
 case round =>
  obtain ⟨k, hk, rfl, rfl⟩ := hrel
  have hr := (crc (s.data.toList.take k)).isLt
  by_cases hlt : k < s.size
  ·have hts := Lib.hid (take_snoc s k hlt)
   have hc := s[k].toNat_lt
   go_wp2
   go_loop [3, 17] (fun r i => ∃ j : Nat, j ≤ 8 ∧ i = .int .i64 j ∧ r = .int .u16 ((shN j (crc (s.data.toList.take k) ^^^ (BitVec.ofNat 16 s[k].toNat <<< 8))).toNat)) (fun _ i => 8 - (intOf i).toNat)
   case atStart => exact ⟨0, Nat.zero_le _, rfl, by rw [byte_in]; rfl⟩
   case round =>
    obtain ⟨j, hj, rfl, rfl⟩ := hrel
    have hr2 := (shN j (crc (s.data.toList.take k) ^^^ (BitVec.ofNat 16 s[k].toNat <<< 8))).isLt
    have hsu := Lib.hid (shN_succ j (crc (s.data.toList.take k) ^^^ (BitVec.ofNat 16 s[k].toNat <<< 8)))
    by_cases hj8 : j < 8
    ·go_wp2_with (go_at_call 109; refine (shift_any _ _).mono ?_; rintro e w1 ⟨rfl, rfl⟩)
     go_round
     case rel => exact ⟨j + 1, by omega, by go_num, by rw [hsu.out]⟩
     case measure => simp [intOf]; omega
    ·obtain rfl : 8 = j := by omega
     go_wp2
     go_round
     case rel => exact ⟨k + 1, by omega, by go_num, by rw [hts.out, crc_snoc]; rfl⟩
     case measure => simp [intOf]; omega
  ·go_wp2
   go_ret
   exact ⟨ret_int (by rw [List.take_of_length_le (by simp; omega)]), rfl⟩
open Go.RowKit
theorem bitN_in (s : ByteArray) (k : Nat) (h : k < 8 * s.size) : (s[k / 8]'(by omega)).toNat >>> (7 - k % 8) % 2 = bitN s.data.toList k := by
 unfold bitN
 have hl : s.data.toList.length = s.size := by simp
 rw [if_pos (by omega), List.getElem?_eq_getElem (by omega)]
 rfl
theorem bitN_out (s : ByteArray) (k : Nat) (h : ¬ k < 8 * s.size) : bitN s.data.toList k = 0 := by
 unfold bitN
 have hl : s.data.toList.length = s.size := by simp
 rw [if_neg (by omega)]
set_option maxHeartbeats 1000000 in
theorem refSum_any (s : ByteArray) (w : World) (hs : s.size ≤ 140737488351232) : Calls Try.prog 89 #[.string s] w fun e w' => e = .returned (.int .i64 ((crc s.data.toList).toNat : Int)) ∧ w = w' := by
 go_enter Try.func89, Try.ntmps89
 go_wp2
 go_loop [3, 10] (fun r i => ∃ k : Nat, k ≤ 8 * (s.size + 2) ∧ i = .int .i64 k ∧ r = .int .i64 ((refS s.data.toList k).toNat)) (fun _ i => 8 * (s.size + 2) - (intOf i).toNat)
 case atStart => exact ⟨0, Nat.zero_le _, rfl, rfl⟩
 case round =>
  obtain ⟨k, hk, rfl, rfl⟩ := hrel
  have hr := (refS s.data.toList k).isLt
  have hb := bitN_lt s.data.toList k
  by_cases hlt : k < 8 * (s.size + 2)
  ·by_cases hin : k < 8 * s.size
   ·have hkd : k / 8 < s.size := by omega
    have B : Hid (_ = _) := Lib.hid ((bit_of s[k / 8] (7 - k % 8)).trans (congrArg Int.ofNat (bitN_in s k hin)))
    go_wp2
    all_goals
     rename_i htest
     rw [B.out] at htest
     go_round
     case rel => exact ⟨k + 1, by omega, by go_num, by rw [B.out]; first | (congr 1; exact ref_low _ _ hb htest) | (congr 1; exact ref_top _ _ hb htest)⟩
     case measure => simp [intOf]; omega
   ·have hrs : refS s.data.toList (k + 1) = shB (refS s.data.toList k) := by rw [refS, bitN_out s k hin]; simp
    have B := Lib.hid hrs
    have hin' : 8 * s.size ≤ k := by omega
    clear hin hr hrs hb
    have E := Lib.hid (rfl : (refS s.data.toList k).toNat = (refS s.data.toList k).toNat)
    revert E
    generalize hn : (refS s.data.toList k).toNat = n
    intro E
    rw [← hn] at E
    have E' : Hid ((refS s.data.toList k).toNat = n) := Lib.hid hn
    clear hn E
    go_wp2
    all_goals
     rename_i htest
     rw [← E'.out] at htest ⊢
     go_round
     case rel => exact ⟨k + 1, by omega, by go_num, by rw [B.out]; first | (congr 1; exact ref_low0 _ htest) | (congr 1; exact ref_top0 _ htest)⟩
     case measure => simp [intOf]; omega
  ·obtain rfl : k = 8 * (s.size + 2) := by omega
   go_wp2
   go_ret
   have hl : s.data.toList.length = s.size := by simp
   exact ⟨ret_int (by rw [← hl, refS_crc]), rfl⟩
open Go.ChangeShapes Go.WideShapes Go.ChangeAt Go.RowKit
theorem sumOf_at (s : ByteArray) (n : Int) (w : World) (hs : s.size ≤ maxLen) (h : ((crc s.data.toList).toNat : Int) = n) : Calls Try.prog 88 #[.string s] w fun e w' => e = .returned (.int .i64 n) ∧ w = w' :=
 h ▸ sumOf_any s w hs
open Go.ChangeShapes Go.WideShapes Go.ChangeAt Go.RowKit
theorem extract_take (s : ByteArray) (k : Nat) : (s.extract 0 k).data.toList = s.data.toList.take k := by
 simp [ByteArray.data_extract]
open Go.RowKit
def frS (k : Int) (s : ByteArray) : ByteArray := if frErr k s.size = 0 then ⟨(encF k.toNat s.data.toList).toArray⟩ else { data := #[] }
def FPutEnd (k : Int) (s : ByteArray) (w : World) (e : Ending) (w' : World) : Prop := e = .returned (.tuple #[.string (frS k s), .int .i64 (frErr k s.size)]) ∧ Calm w w'
theorem row2 {w : World} {g t : Nat} {a b : Value} {fr : Nat × Nat} (h : w.heap[g]? = some (.cells #[a, b] t fr)) : w.cell? ⟨g, 0, none⟩ = some a ∧ w.cell? ⟨g, 1, none⟩ = some b ∧ g < w.heap.size :=
 ⟨cell_of_row _ _ 0 _ _ _ h, cell_of_row _ _ 1 _ _ _ h, (Array.getElem?_eq_some_iff.1 h).1⟩
theorem heap_new3 (w : World) (o o' o'' : Obj) : (((w.alloc o).alloc o').alloc o'').heap[w.heap.size + 1 + 1]? = some o'' := by simpa using heap_new ((w.alloc o).alloc o') o''
theorem bytes_size (l : List UInt8) : (⟨l.toArray⟩ : ByteArray).size = l.length := by show l.toArray.size = _; simp
theorem bytes_list (l : List UInt8) : (⟨l.toArray⟩ : ByteArray).data.toList = l := by simp
set_option maxHeartbeats 8000000 in
theorem framePut_any (k : Int) (s : ByteArray) (w : World) : Calls Try.prog 48 #[.agg #[.int .i64 k, .string s]] w (FPutEnd k s w) := by
 have hx := heap_new w (.cells #[.int .i64 k, .string s] 87)
 have hu := (Calm.refl w).alloc (.cells #[.int .i64 k, .string s] 87)
 by_cases h1 : k < 1 ∨ 255 < k
 ·have e1 : frErr k s.size = 1 := if_pos h1
  have e2 : FPutEnd k s w = fun e w' => e = .returned (.tuple #[.string { data := #[] }, .int .i64 1]) ∧ Calm w w' := by
   funext e w'; simp [FPutEnd, frS, e1]
  rw [e2]
  clear e1 e2
  rcases h1 with h1 | h1
  ·obtain ⟨x0, x1, hxs⟩ := row2 hx
   go_enter Try.func48, Try.ntmps48
   go_wp2
   go_ret2
   exact ⟨rfl, hu⟩
  ·obtain ⟨x0, x1, hxs⟩ := row2 hx
   have h1' : (1 : Int) ≤ k := by omega
   go_enter Try.func48, Try.ntmps48
   go_wp2
   go_ret2
   exact ⟨rfl, hu⟩
 have h1' : (1 : Int) ≤ k := by omega
 have h2' : k ≤ (255 : Int) := by omega
 by_cases h3 : 3000 < s.size
 ·have e1 : frErr k s.size = 2 := by unfold frErr; rw [if_neg h1, if_pos h3]
  have e2 : FPutEnd k s w = fun e w' => e = .returned (.tuple #[.string { data := #[] }, .int .i64 2]) ∧ Calm w w' := by
   funext e w'; simp [FPutEnd, frS, e1]
  rw [e2]
  clear e1 e2 h1
  have h3' : (3000 : Int) < s.size := by omega
  obtain ⟨x0, x1, hxs⟩ := row2 hx
  go_enter Try.func48, Try.ntmps48
  go_wp2
  go_ret2
  exact ⟨rfl, hu⟩
 have h3' : (s.size : Int) ≤ 3000 := by omega
 have h3n : s.size ≤ 3000 := by omega
 have e1 : frErr k s.size = 0 := by unfold frErr; rw [if_neg h1, if_neg h3]
 have hW : Hid (frS k s = ⟨(encF k.toNat s.data.toList).toArray⟩) := by show _ = _; unfold frS; exact if_pos e1
 have G : FPutEnd k s w = fun e w' => e = .returned (.tuple #[.string (frS k s), .int .i64 0]) ∧ Calm w w' := by
  funext e w'; simp [FPutEnd, e1]
 rw [G]
 generalize frS k s = W at hW ⊢
 clear G e1 h1 h3
 obtain ⟨K, rfl⟩ : ∃ n : Nat, k = (n : Int) := ⟨k.toNat, by omega⟩
 have i8 : IntKind.u8.wrap (K : Int) = (K : Int) := IntWalk.u8_in _ (by omega)
 have hmk := fun u => makeRoom u ((3 : Int) + (s.size : Int) + 2) (5 + s.size) (by omega) (by omega)
 have hsl : s.data.toList.length = s.size := by simp
 have hx0 := hx
 obtain ⟨x0, x1, hxs⟩ := row2 hx
 have cS := fun u => sumOf_any ⟨(frHead K s.data.toList).toArray⟩ u (by rw [bytes_size, frHead_length]; simp only [maxLen]; omega)
 rw [bytes_list] at cS
 have hC := (crc (frHead K s.data.toList)).isLt
 have hE : Hid (W = ⟨(frHead K s.data.toList ++ be 2 (crc (frHead K s.data.toList)).toNat).toArray⟩) := by show _ = _; rw [hW.out]; rfl
 have hH : Hid ([] ++ [UInt8.ofNat (K : Int).toNat] ++ be 2 s.size ++ s.data.toList = frHead K s.data.toList) := by show _ = _; rw [frHead, be1 K (by omega), hsl]; simp
 have hHl := frHead_length K s.data.toList
 generalize (crc (frHead K s.data.toList)).toNat = C at cS hC hE
 generalize frHead K s.data.toList = H at cS hE hH hHl
 clear hW
 have hv := (Calm.refl (w.alloc (.cells #[.int .i64 (K : Int), .string s] 87))).alloc (.cells (bv (List.replicate (5 + s.size) 0)).toArray 5)
 have ho0 := (OwnB.made (w.heap.size + 1) (w.alloc (.cells #[.int .i64 (K : Int), .string s] 87)) (5 + s.size) (by simp) (by omega))
 simp only [World.size_alloc] at ho0
 have ho := Lib.hid ho0
 clear ho0
 go_enter Try.func48, Try.ntmps48
 go_wp2_with (first
  |(at_builtin; refine wpList_append_st rfl _ _ rfl (w.heap.size + 1) _ _ rfl ho.out _ rfl ?_ ?_ ?_; (· simp [be_length]; omega); (· omega); intro v' w9 ho9 hc9; replace hv := hc9 (w.alloc (.cells #[.int .i64 (K : Int), .string s] 87)) (by simp) hv; replace hx := (hv.block (by simp)).trans hx0; have hvs := hv.size; simp only [World.size_alloc] at hvs; rw [hH.out] at ho9; replace ho := Lib.hid ho9; clear ho9 hc9; have hcv := ho.out.str (by rw [hHl]; omega); obtain ⟨x0, x1, hxs⟩ := row2 hx)
  |(go_at_call 87; refine (appendNum2_any (w.heap.size + 1) _ _ _ _ ?_ ho.out ?_ ?_).mono ?_; (· omega); (· first | (rw [hHl]; omega) | simp); (· omega); rintro e w9 ⟨v', rfl, ho9, hc9⟩; replace hv := hc9 (w.alloc (.cells #[.int .i64 (K : Int), .string s] 87)) (by simp) hv; replace hx := (hv.block (by simp)).trans hx0; have hvs := hv.size; simp only [World.size_alloc] at hvs; replace ho := Lib.hid ho9; clear ho9 hc9; have hcv := ho.out.str (by rw [List.length_append, be_length]; omega); obtain ⟨x0, x1, hxs⟩ := row2 hx)
  |(at_builtin; go_must (refine wpList_append_b1 rfl _ _ rfl (w.heap.size + 1) _ _ rfl (ho.out.calm ((Calm.refl _).alloc _)) _ _ _ _ rfl (heap_new3 _ _ _ _) ?_ ?_ ?_ ?_); (· omega); (· simp only [List.length_nil]; omega); (· simp only [World.size_alloc]; omega); intro v' w9 ho9 hc9; replace hv := hc9 (w.alloc (.cells #[.int .i64 (K : Int), .string s] 87)) (by simp) (hv.alloc _); replace hx := (hv.block (by simp)).trans hx0; have hvs := hv.size; simp only [World.size_alloc] at hvs; replace ho := Lib.hid ho9; clear ho9 hc9; obtain ⟨x0, x1, hxs⟩ := row2 hx)
  |(go_at_call 88; refine (cS _).mono ?_; rintro e w1 ⟨rfl, rfl⟩))
 have hu9 := ((Calm.refl w).alloc (.cells #[.int .i64 (K : Int), .string s] 87)).call hv
 go_ret2
 exact ⟨by rw [hE.out]; rfl, hu9⟩
open Go.RowKit
theorem big_at (k n : Nat) (z : Int) (hz : (k : Int) = z) (B : ByteArray) (hB : (⟨(be k n).toArray⟩ : ByteArray) = B) (hk : k ≤ 4) (hn : n < 4294967296) (w : World) : Calls Try.prog 52 #[.int .i64 (n : Int), .int .i64 z] w fun e w' => e = .returned (.string B) ∧ Calm w w' :=
 hz ▸ hB ▸ big_any k n w hk hn
set_option maxHeartbeats 8000000 in
theorem refFrame_any (k : Int) (s : ByteArray) (w : World) : Calls Try.prog 51 #[.agg #[.int .i64 k, .string s]] w (FPutEnd k s w) := by
 have hx := heap_new w (.cells #[.int .i64 k, .string s] 87)
 have hu := (Calm.refl w).alloc (.cells #[.int .i64 k, .string s] 87)
 by_cases h1 : k < 1 ∨ 255 < k
 ·have e1 : frErr k s.size = 1 := if_pos h1
  have e2 : FPutEnd k s w = fun e w' => e = .returned (.tuple #[.string { data := #[] }, .int .i64 1]) ∧ Calm w w' := by
   funext e w'; simp [FPutEnd, frS, e1]
  rw [e2]
  clear e1 e2
  rcases h1 with h1 | h1
  ·obtain ⟨x0, x1, hxs⟩ := row2 hx
   go_enter Try.func51, Try.ntmps51
   go_wp2
   go_ret2
   exact ⟨rfl, hu⟩
  ·obtain ⟨x0, x1, hxs⟩ := row2 hx
   have h1' : (1 : Int) ≤ k := by omega
   go_enter Try.func51, Try.ntmps51
   go_wp2
   go_ret2
   exact ⟨rfl, hu⟩
 have h1' : (1 : Int) ≤ k := by omega
 have h2' : k ≤ (255 : Int) := by omega
 by_cases h3 : 3000 < s.size
 ·have e1 : frErr k s.size = 2 := by unfold frErr; rw [if_neg h1, if_pos h3]
  have e2 : FPutEnd k s w = fun e w' => e = .returned (.tuple #[.string { data := #[] }, .int .i64 2]) ∧ Calm w w' := by
   funext e w'; simp [FPutEnd, frS, e1]
  rw [e2]
  clear e1 e2 h1
  have h3' : (3000 : Int) < s.size := by omega
  obtain ⟨x0, x1, hxs⟩ := row2 hx
  go_enter Try.func51, Try.ntmps51
  go_wp2
  go_ret2
  exact ⟨rfl, hu⟩
 have h3' : (s.size : Int) ≤ 3000 := by omega
 have e1 : frErr k s.size = 0 := by unfold frErr; rw [if_neg h1, if_neg h3]
 have hW : Hid (frS k s = ⟨(encF k.toNat s.data.toList).toArray⟩) := by show _ = _; unfold frS; exact if_pos e1
 have G : FPutEnd k s w = fun e w' => e = .returned (.tuple #[.string (frS k s), .int .i64 0]) ∧ Calm w w' := by
  funext e w'; simp [FPutEnd, e1]
 rw [G]
 generalize frS k s = W at hW ⊢
 clear G e1 h1
 obtain ⟨K, rfl⟩ : ∃ n : Nat, k = (n : Int) := ⟨k.toNat, by omega⟩
 have hsl : s.data.toList.length = s.size := by simp
 obtain ⟨x0, x1, hxs⟩ := row2 hx
 obtain ⟨H, hH⟩ : ∃ H, (⟨(frHead K s.data.toList).toArray⟩ : ByteArray) = H := ⟨_, rfl⟩
 obtain ⟨C, hC⟩ : ∃ C, (crc (frHead K s.data.toList)).toNat = C := ⟨_, rfl⟩
 have hC6 : C < 65536 := by rw [← hC]; exact (crc (frHead K s.data.toList)).isLt
 have hHl : H.size = 3 + s.size := by rw [← hH, bytes_size, frHead_length, hsl]
 have hHd : H.data.toList = frHead K s.data.toList := by rw [← hH]
 have cS := fun u => calls_calm (refSum_any H u (by omega))
 rw [hHd, hC] at cS
 obtain ⟨B1, hB1⟩ : ∃ B, (⟨(be 1 K).toArray⟩ : ByteArray) = B := ⟨_, rfl⟩
 obtain ⟨B2, hB2⟩ : ∃ B, (⟨(be 2 s.size).toArray⟩ : ByteArray) = B := ⟨_, rfl⟩
 obtain ⟨B3, hB3⟩ : ∃ B, (⟨(be 2 C).toArray⟩ : ByteArray) = B := ⟨_, rfl⟩
 have c1 := fun u => big_at 1 K 1 rfl B1 hB1 (by omega) (by omega) u
 have c2 := fun u => big_at 2 s.size 2 rfl B2 hB2 (by omega) (by omega) u
 have c3 := fun u => big_at 2 C 2 rfl B3 hB3 (by omega) (by omega) u
 have z1 : B1.size = 1 := by rw [← hB1, bytes_size, be_length]
 have z2 : B2.size = 2 := by rw [← hB2, bytes_size, be_length]
 have z3 : B3.size = 2 := by rw [← hB3, bytes_size, be_length]
 have hj : B1 ++ B2 ++ s = H := by
  rw [← hB1, ← hB2, ← hH]
  apply ByteArray.ext
  rw [ByteArray.data_append, ByteArray.data_append]
  apply Array.toList_inj.1
  simp [frHead]
 have hE : Hid (H ++ B3 = W) := by
  show _ = _
  rw [hW.out, ← hH, ← hB3]
  apply ByteArray.ext
  rw [ByteArray.data_append]
  apply Array.toList_inj.1
  simp [encF, hC]
 clear hW hB1 hB2 hB3 hH hC hHd
 go_enter Try.func51, Try.ntmps51
 go_wp2_with fail
 refine wp_region_plan [.val (.pointer (some ⟨w.heap.size, 0, none⟩)), .val (.int .i64 (K)), .val (.string B1), .val (.pointer (some ⟨w.heap.size, 1, none⟩)), .val (.string s), .val (.int .i64 ((s.size : Int))), .val (.string B2), .val (.string (B1 ++ B2)), .val (.pointer (some ⟨w.heap.size, 1, none⟩)), .val (.string s), .val (.string H), .val (.string H)] (by kernel_rfl) (by kernel_rfl) (by kernel_rfl) ?_
 intro X
 iterate 12
  refine plan_val (by kernel_rfl) (fun u hu => ?_) ?_
  ·obtain ⟨hc, hf, hz⟩ := hu.of_drew.facts
   go_simp
   all_goals first
    |((go_at_call 52; first | (with_reducible exact c1 _) | (with_reducible exact c2 _)))
    |((rw [if_neg (by omega)]; go_simp))
  simp only [Act.put, List.setIfInBounds_toArray, List.set_cons_zero, List.set_cons_succ, Nat.reduceAdd]
 refine plan_end ?_
 intro w' hB
 have hk := hB.calm.of_drew
 clear hB
 replace hu := hu.call hk
 have hsm : ¬ 140737488355328 ≤ H.size + B3.size := by omega
 go_wp2_with (first
  |(go_at_call 89; refine (cS _).mono ?_; rintro e w1 ⟨rfl, hb1⟩; replace hu := hu.call hb1; clear hb1)
  |(go_at_call 52; refine (c3 _).mono ?_; rintro e w1 ⟨rfl, hb1⟩; replace hu := hu.call hb1; clear hb1))
 go_ret2
 exact ⟨by rw [← hE.out]; rfl, hu⟩
open Go.RowKit
def gK (l : List UInt8) : Int := if unErr l = 0 then (unKind l : Int) else 0
def gB (l : List UInt8) : ByteArray := if unErr l = 0 then ⟨(unBody l).toArray⟩ else { data := #[] }
def gN (l : List UInt8) : Int := if unErr l = 0 then ((5 + unSize l : Nat) : Int) else 0
def FGetEnd (l : List UInt8) (w : World) (e : Ending) (w' : World) : Prop := e = .returned (.tuple #[.agg #[.int .i64 (gK l), .string (gB l)], .int .i64 (gN l), .int .i64 (unErr l)]) ∧ Calm w w'
theorem FGetEnd.bad {l : List UInt8} {n : Int} (h : unErr l = n) (hn : n ≠ 0) (w : World) : FGetEnd l w = fun e w' => e = .returned (.tuple #[.agg #[.int .i64 0, .string { data := #[] }], .int .i64 0, .int .i64 n]) ∧ Calm w w' := by
 funext e w'
 unfold FGetEnd gK gB gN
 rw [h, if_neg hn, if_neg hn, if_neg hn]
theorem FGetEnd.good {l : List UInt8} (h : unErr l = 0) (w : World) : FGetEnd l w = fun e w' => e = .returned (.tuple #[.agg #[.int .i64 (unKind l), .string ⟨(unBody l).toArray⟩], .int .i64 ((5 + unSize l : Nat) : Int), .int .i64 0]) ∧ Calm w w' := by
 funext e w'
 unfold FGetEnd gK gB gN
 rw [h, if_pos rfl, if_pos rfl, if_pos rfl]
/-- Three results: a frame that lies in memory, and two temporaries. -/
theorem results_fr {fn : Func} {p q r : Tmp} (h : fn.results = #[.cell p 87, .tmp q, .tmp r]) (tmps : Array Value) (w : World) (g : Nat) (t : TypeId) (cs : Array Value) (v u : Value) (fr : Nat × Nat)
    (hp : tmps.getD p undef = .pointer (some ⟨g, 0, none⟩)) (hq : tmps.getD q undef = v) (hr : tmps.getD r undef = u) (hg : w.heap[g]? = some (.cells cs t fr)) (hsz : cs.size = 2) :
    (results fn tmps).run Try.prog w = .ok (.tuple #[.agg cs, v, u]) w := by
  have hp' : tmps[p]?.getD undef = .pointer (some ⟨g, 0, none⟩) := by simpa using hp
  have hq' : tmps[q]?.getD undef = v := by simpa using hq
  have hr' : tmps[r]?.getD undef = u := by simpa using hr
  have hi : (Try.prog.info? 87).map (·.size) = some cs.size := by rw [hsz]; kernel_rfl
  simp [results, h, hp', hq', hr', asAddr, run_loadVar_row w g t 87 cs fr _ hg Try.underlying87 rfl hi]
theorem end_fr {P : Program} {fn : Func} {p q r : Tmp} {Q : Ending → World → Prop} (hP : P = Try.prog) (h : fn.results = #[.cell p 87, .tmp q, .tmp r]) (a : Act) (w : World) (g : Nat) (t : TypeId) (cs : Array Value) (v u : Value) (fr : Nat × Nat) (hd : a.defers = [])
    (hp : a.tmps.getD p undef = .pointer (some ⟨g, 0, none⟩)) (hq : a.tmps.getD q undef = v) (hr : a.tmps.getD r undef = u) (hg : w.heap[g]? = some (.cells cs t fr)) (hsz : cs.size = 2) (hQ : Q (.returned (.tuple #[.agg cs, v, u])) w) : bodyPost P fn Q .ret a w := by
  subst hP
  exact bodyPost_ret (v := .tuple #[.agg cs, v, u]) (results_fr h a.tmps w g t cs v u fr hp hq hr hg hsz) hd hQ
theorem set2 {w : World} {g t : Nat} {a0 a1 : Value} (h : w.heap[g]? = some (.cells #[a0, a1] t (0, 0))) (b0 b1 : Value) :
    ((w.setCell ⟨g, 0, none⟩ b0).setCell ⟨g, 1, none⟩ b1).heap[g]? = some (.cells #[b0, b1] t (0, 0)) := by
  have h1 := heap_setCell_same w g 0 _ t b0 h
  exact heap_setCell_same _ g 1 _ t b1 h1
theorem Calm.two {a w : World} (h : Calm a w) {g : Nat} (hg : a.heap.size ≤ g) (b0 b1 : Value) : Calm a ((w.setCell ⟨g, 0, none⟩ b0).setCell ⟨g, 1, none⟩ b1) :=
 (h.setCell (p := ⟨g, 0, none⟩) hg b0).setCell (p := ⟨g, 1, none⟩) hg b1
theorem free2 {w : World} {g t : Nat} {cs : Array Value} (h : w.heap[g]? = some (.cells cs t (0, 0))) : w.frozen? ⟨g, 0, none⟩ = false ∧ w.frozen? ⟨g, 1, none⟩ = false :=
 ⟨frozen_of_row _ _ _ _ _ h, frozen_of_row _ _ _ _ _ h⟩
theorem pair_ext (s : ByteArray) (i j n : Nat) (hj : j = i + 2) (hn : num (part s.data.toList i 2) = n) (w : World) : Calls Try.prog 91 #[.string (s.extract i j)] w fun e w' => e = .returned (.int .i64 (n : Int)) ∧ Calm w w' := by
 subst hj
 have := calls_calm (number_any (s.extract i (i + 2)) w (by rw [ByteArray.size_extract]; omega))
 rw [part_extract, Nat.add_sub_cancel_left, hn] at this
 exact this
set_option maxHeartbeats 4000000 in
theorem frameGet_any (s : ByteArray) (w : World) : Calls Try.prog 90 #[.string s] w (FGetEnd s.data.toList w) := by
 have hl := bytes_len s
 by_cases h5 : s.size < 5
 ·have e1 : unErr s.data.toList = 7 := by unfold unErr; rw [if_pos (by omega)]
  rw [FGetEnd.bad e1 (by decide)]
  have h5' : (s.size : Int) < 5 := by omega
  clear e1 hl h5
  go_enter Try.func90, Try.ntmps90
  go_wp2
  exact end_fr rfl rfl _ _ w.heap.size _ _ _ _ (0, 0) rfl rfl rfl rfl (heap_new _ _) rfl ⟨rfl, (Calm.refl _).alloc _⟩
 have h5' : (5 : Int) ≤ s.size := by omega
 have i0 : 0 < s.size := by omega
 have i3 : (3 : Int) ≤ s.size := by omega
 obtain ⟨K, hK⟩ : ∃ K, unKind s.data.toList = K := ⟨_, rfl⟩
 obtain ⟨N, hN⟩ : ∃ N, unSize s.data.toList = N := ⟨_, rfl⟩
 have hk0 : s[0].toNat = K := by rw [← hK, unKind, head_at s i0]
 have hK8 : K < 256 := by rw [← hk0]; exact s[0].toNat_lt
 have hN16 : N < 65536 := by rw [← hN]; exact num_lt 2 _ (part_length (by omega))
 have cP := fun u => pair_ext s 1 3 N rfl hN u
 have iK : IntKind.i64.wrap (K : Int) = (K : Int) := IntWalk.i64_in _ (by omega)
 by_cases hB : K = 0 ∨ 3000 < N
 ·have e1 : unErr s.data.toList = 3 := by unfold unErr; rw [if_neg (by omega), hK, hN, if_pos hB]
  rw [FGetEnd.bad e1 (by decide)]
  clear e1 hl h5 hK hN
  rcases hB with hB | hB
  ·have b0 : ((K : Int) == 0) = true := by rw [beq_iff_eq]; omega
   clear hB
   go_enter Try.func90, Try.ntmps90
   go_wp2_with fail
   have hz := heap_new w (.cells #[.int .i64 0, .string { data := #[] }] 87)
   have hu := (Calm.refl w).alloc (.cells #[.int .i64 0, .string { data := #[] }] 87)
   generalize w.alloc (.cells #[.int .i64 0, .string { data := #[] }] 87) = wz at hz hu ⊢
   refine wp_region_plan [.val (.string s), .val (.int .u8 (K : Int)), .val (.int .i64 (K)), .val (.string s), .val (.string (s.extract 1 3)), .val (.int .i64 (N)), .val (.int .i64 (K)), .val (.int .i64 (N))] (by kernel_rfl) (by kernel_rfl) (by kernel_rfl) ?_
   intro X
   iterate 8
    refine plan_val (by kernel_rfl) (fun u hu => ?_) ?_
    ·obtain ⟨hc, hf, hz⟩ := hu.of_drew.facts
     go_simp
     all_goals first
      |((go_at_call 91; exact cP _))
      |(exact iK)
    simp only [Act.put, List.setIfInBounds_toArray, List.set_cons_zero, List.set_cons_succ, Nat.reduceAdd]
   refine plan_end ?_
   intro w' hB
   have hk := hB.calm.of_drew
   clear hB
   replace hz := (hk.block (row2 hz).2.2).trans hz
   replace hu := hu.call hk
   clear hk cP iK hk0
   obtain ⟨z0, z1, hzs⟩ := row2 hz
   obtain ⟨f0, f1⟩ := free2 hz
   go_wp2
   have hr := set2 hz (.int .i64 0) (.string { data := #[] })
   have hu2 := hu.two (g := w.heap.size) (Nat.le_refl _) (.int .i64 0) (.string { data := #[] })
   exact end_fr rfl rfl _ _ _ _ _ _ _ _ rfl rfl rfl rfl hr rfl ⟨rfl, hu2⟩
  ·have h3 : (3000 : Int) < (N : Int) := by omega
   clear hB
   go_enter Try.func90, Try.ntmps90
   go_wp2_with fail
   have hz := heap_new w (.cells #[.int .i64 0, .string { data := #[] }] 87)
   have hu := (Calm.refl w).alloc (.cells #[.int .i64 0, .string { data := #[] }] 87)
   generalize w.alloc (.cells #[.int .i64 0, .string { data := #[] }] 87) = wz at hz hu ⊢
   refine wp_region_plan [.val (.string s), .val (.int .u8 (K : Int)), .val (.int .i64 (K)), .val (.string s), .val (.string (s.extract 1 3)), .val (.int .i64 (N)), .val (.int .i64 (K)), .val (.int .i64 (N))] (by kernel_rfl) (by kernel_rfl) (by kernel_rfl) ?_
   intro X
   iterate 8
    refine plan_val (by kernel_rfl) (fun u hu => ?_) ?_
    ·obtain ⟨hc, hf, hz⟩ := hu.of_drew.facts
     go_simp
     all_goals first
      |((go_at_call 91; exact cP _))
      |(exact iK)
    simp only [Act.put, List.setIfInBounds_toArray, List.set_cons_zero, List.set_cons_succ, Nat.reduceAdd]
   refine plan_end ?_
   intro w' hB
   have hk := hB.calm.of_drew
   clear hB
   replace hz := (hk.block (row2 hz).2.2).trans hz
   replace hu := hu.call hk
   clear hk cP iK hk0
   obtain ⟨z0, z1, hzs⟩ := row2 hz
   obtain ⟨f0, f1⟩ := free2 hz
   go_wp2
   all_goals
    have hr := set2 hz (.int .i64 0) (.string { data := #[] })
    have hu2 := hu.two (g := w.heap.size) (Nat.le_refl _) (.int .i64 0) (.string { data := #[] })
    exact end_fr rfl rfl _ _ _ _ _ _ _ _ rfl rfl rfl rfl hr rfl ⟨rfl, hu2⟩
 have b0 : ((K : Int) == 0) = false := by rw [beq_eq_false_iff_ne]; omega
 have hK1 : (1 : Int) ≤ (K : Int) := by omega
 have hN1 : (N : Int) ≤ 3000 := by omega
 obtain ⟨E, hE⟩ : ∃ E, E = 3 + N := ⟨_, rfl⟩
 obtain ⟨L, hL⟩ : ∃ L, L = 5 + N := ⟨_, rfl⟩
 have eE : (3 : Int) + (N : Int) = (E : Int) := by omega
 have eL : (E : Int) + 2 = (L : Int) := by omega
 have iL2 : IntKind.i64.wrap (L : Int) = (L : Int) := IntWalk.i64_in _ (by omega)
 have iL : IntKind.i64.wrap ((E : Int) + 2) = (L : Int) := by rw [IntWalk.i64_in _ (by omega)]; omega
 by_cases hn : s.size < 5 + N
 ·have e1 : unErr s.data.toList = 7 := by unfold unErr; rw [if_neg (by omega), hK, hN, if_neg hB, if_pos (by omega)]
  rw [FGetEnd.bad e1 (by decide)]
  have hn' : (s.size : Int) < (L : Int) := by omega
  clear e1 hl h5 hK hN hB hn hE hL
  go_enter Try.func90, Try.ntmps90
  go_wp2_with fail
  have hz := heap_new w (.cells #[.int .i64 0, .string { data := #[] }] 87)
  have hu := (Calm.refl w).alloc (.cells #[.int .i64 0, .string { data := #[] }] 87)
  generalize w.alloc (.cells #[.int .i64 0, .string { data := #[] }] 87) = wz at hz hu ⊢
  refine wp_region_plan [.val (.string s), .val (.int .u8 (K : Int)), .val (.int .i64 (K)), .val (.string s), .val (.string (s.extract 1 3)), .val (.int .i64 (N)), .val (.int .i64 (K)), .val (.int .i64 (N))] (by kernel_rfl) (by kernel_rfl) (by kernel_rfl) ?_
  intro X
  iterate 8
   refine plan_val (by kernel_rfl) (fun u hu => ?_) ?_
   ·obtain ⟨hc, hf, hz⟩ := hu.of_drew.facts
    go_simp
    all_goals first
     |((go_at_call 91; exact cP _))
     |(exact iK)
   simp only [Act.put, List.setIfInBounds_toArray, List.set_cons_zero, List.set_cons_succ, Nat.reduceAdd]
  refine plan_end ?_
  intro w' hB
  have hk := hB.calm.of_drew
  clear hB
  replace hz := (hk.block (row2 hz).2.2).trans hz
  replace hu := hu.call hk
  clear hk cP iK hk0
  obtain ⟨z0, z1, hzs⟩ := row2 hz
  obtain ⟨f0, f1⟩ := free2 hz
  go_wp2
  have hr := set2 hz (.int .i64 0) (.string { data := #[] })
  have hu2 := hu.two (g := w.heap.size) (Nat.le_refl _) (.int .i64 0) (.string { data := #[] })
  exact end_fr rfl rfl _ _ _ _ _ _ _ _ rfl rfl rfl rfl hr rfl ⟨rfl, hu2⟩
 have hn' : (L : Int) ≤ (s.size : Int) := by omega
 have hE1 : (E : Int) ≤ (s.size : Int) := by omega
 have hE3 : (3 : Int) ≤ (E : Int) := by omega
 have hEL : (E : Int) ≤ (L : Int) := by omega
 obtain ⟨C, hC⟩ : ∃ C, (crc (s.data.toList.take E)).toNat = C := ⟨_, rfl⟩
 obtain ⟨M, hM⟩ : ∃ M, num (part s.data.toList E 2) = M := ⟨_, rfl⟩
 have cS := fun u => sumOf_at (s.extract 0 E) (C : Int) u (by rw [ByteArray.size_extract]; unfold maxLen; omega) (by rw [extract_take, hC])
 have cQ := fun u => pair_ext s E L M (by omega) hM u
 by_cases hCM : C = M
 rotate_left
 ·have e1 : unErr s.data.toList = 6 := by unfold unErr; rw [if_neg (by omega), hK, hN, if_neg hB, if_neg (by omega), ← hE, hC, hM, if_pos hCM]
  rw [FGetEnd.bad e1 (by decide)]
  have b1 : ((C : Int) != (M : Int)) = true := by rw [bne_iff_ne]; omega
  clear e1 hl h5 hK hN hB hn hE hL hC hM hCM
  go_enter Try.func90, Try.ntmps90
  go_wp2_with fail
  have hz := heap_new w (.cells #[.int .i64 0, .string { data := #[] }] 87)
  have hu := (Calm.refl w).alloc (.cells #[.int .i64 0, .string { data := #[] }] 87)
  generalize w.alloc (.cells #[.int .i64 0, .string { data := #[] }] 87) = wz at hz hu ⊢
  refine wp_region_plan [.val (.string s), .val (.int .u8 (K : Int)), .val (.int .i64 (K)), .val (.string s), .val (.string (s.extract 1 3)), .val (.int .i64 (N)), .val (.int .i64 (K)), .val (.int .i64 (N))] (by kernel_rfl) (by kernel_rfl) (by kernel_rfl) ?_
  intro X
  iterate 8
   refine plan_val (by kernel_rfl) (fun u hu => ?_) ?_
   ·obtain ⟨hc, hf, hz⟩ := hu.of_drew.facts
    go_simp
    all_goals first
     |((go_at_call 91; exact cP _))
     |(exact iK)
   simp only [Act.put, List.setIfInBounds_toArray, List.set_cons_zero, List.set_cons_succ, Nat.reduceAdd]
  refine plan_end ?_
  intro w' hB
  have hk := hB.calm.of_drew
  clear hB
  replace hz := (hk.block (row2 hz).2.2).trans hz
  replace hu := hu.call hk
  clear hk cP iK hk0
  obtain ⟨z0, z1, hzs⟩ := row2 hz
  obtain ⟨f0, f1⟩ := free2 hz
  go_wp2_with fail
  refine wp_region_plan [.val (.string s), .val (.int .i64 (E)), .val (.string (s.extract 0 E)), .val (.int .i64 (C)), .val (.string s), .val (.int .i64 (E)), .val (.int .i64 (E)), .val (.int .i64 (L)), .val (.string (s.extract E L)), .val (.int .i64 (M)), .val (.bool true)] (by kernel_rfl) (by kernel_rfl) (by kernel_rfl) ?_
  intro X
  iterate 11
   refine plan_val (by kernel_rfl) (fun u hu => ?_) ?_
   ·obtain ⟨hc, hf, hz⟩ := hu.of_drew.facts
    go_simp
    all_goals first
     |((go_at_call 88; exact calls_calm (cS _)))
     |((go_at_call 91; exact cQ _))
     |(exact eL)
     |(exact iL)
     |(exact iL2)
   simp only [Act.put, List.setIfInBounds_toArray, List.set_cons_zero, List.set_cons_succ, Nat.reduceAdd]
  refine plan_end ?_
  intro w' hB
  have hk := hB.calm.of_drew
  clear hB
  replace hz := (hk.block (row2 hz).2.2).trans hz
  replace hu := hu.call hk
  clear hk cS cQ
  obtain ⟨z0, z1, hzs⟩ := row2 hz
  obtain ⟨f0, f1⟩ := free2 hz
  go_wp2
  have hr := set2 hz (.int .i64 0) (.string { data := #[] })
  have hu2 := hu.two (g := w.heap.size) (Nat.le_refl _) (.int .i64 0) (.string { data := #[] })
  exact end_fr rfl rfl _ _ _ _ _ _ _ _ rfl rfl rfl rfl hr rfl ⟨rfl, hu2⟩
 have e1 : unErr s.data.toList = 0 := by unfold unErr; rw [if_neg (by omega), hK, hN, if_neg hB, if_neg (by omega), ← hE, hC, hM, if_neg (by simpa using hCM)]
 obtain ⟨B, hBy⟩ : ∃ B, s.extract 3 E = B := ⟨_, rfl⟩
 have hBy2 : (⟨(unBody s.data.toList).toArray⟩ : ByteArray) = B := by rw [← hBy, part_bytes, unBody, hN, hE, Nat.add_sub_cancel_left]
 rw [FGetEnd.good e1, hBy2, hK, hN, ← hL]
 subst hCM
 have b2 : ((C : Int) != (C : Int)) = false := by simp
 clear e1 hl h5 hK hN hB hn hE hL hC hM hBy2
 go_enter Try.func90, Try.ntmps90
 go_wp2_with fail
 have hz := heap_new w (.cells #[.int .i64 0, .string { data := #[] }] 87)
 have hu := (Calm.refl w).alloc (.cells #[.int .i64 0, .string { data := #[] }] 87)
 generalize w.alloc (.cells #[.int .i64 0, .string { data := #[] }] 87) = wz at hz hu ⊢
 refine wp_region_plan [.val (.string s), .val (.int .u8 (K : Int)), .val (.int .i64 (K)), .val (.string s), .val (.string (s.extract 1 3)), .val (.int .i64 (N)), .val (.int .i64 (K)), .val (.int .i64 (N))] (by kernel_rfl) (by kernel_rfl) (by kernel_rfl) ?_
 intro X
 iterate 8
  refine plan_val (by kernel_rfl) (fun u hu => ?_) ?_
  ·obtain ⟨hc, hf, hz⟩ := hu.of_drew.facts
   go_simp
   all_goals first
    |((go_at_call 91; exact cP _))
    |(exact iK)
  simp only [Act.put, List.setIfInBounds_toArray, List.set_cons_zero, List.set_cons_succ, Nat.reduceAdd]
 refine plan_end ?_
 intro w' hB
 have hk := hB.calm.of_drew
 clear hB
 replace hz := (hk.block (row2 hz).2.2).trans hz
 replace hu := hu.call hk
 clear hk cP iK hk0
 obtain ⟨z0, z1, hzs⟩ := row2 hz
 obtain ⟨f0, f1⟩ := free2 hz
 go_wp2_with fail
 refine wp_region_plan [.val (.string s), .val (.int .i64 (E)), .val (.string (s.extract 0 E)), .val (.int .i64 (C)), .val (.string s), .val (.int .i64 (E)), .val (.int .i64 (E)), .val (.int .i64 (L)), .val (.string (s.extract E L)), .val (.int .i64 (C)), .val (.bool false)] (by kernel_rfl) (by kernel_rfl) (by kernel_rfl) ?_
 intro X
 iterate 11
  refine plan_val (by kernel_rfl) (fun u hu => ?_) ?_
  ·obtain ⟨hc, hf, hz⟩ := hu.of_drew.facts
   go_simp
   all_goals first
    |((go_at_call 88; exact calls_calm (cS _)))
    |((go_at_call 91; exact cQ _))
    |(exact eL)
    |(exact iL)
    |(exact iL2)
  simp only [Act.put, List.setIfInBounds_toArray, List.set_cons_zero, List.set_cons_succ, Nat.reduceAdd]
 refine plan_end ?_
 intro w' hB
 have hk := hB.calm.of_drew
 clear hB
 replace hz := (hk.block (row2 hz).2.2).trans hz
 replace hu := hu.call hk
 clear hk cS cQ
 obtain ⟨z0, z1, hzs⟩ := row2 hz
 obtain ⟨f0, f1⟩ := free2 hz
 go_wp2
 have hr := set2 hz (.int .i64 (K : Int)) (.string B)
 have hu2 := hu.two (g := w.heap.size) (Nat.le_refl _) (.int .i64 (K : Int)) (.string B)
 exact end_fr rfl rfl _ _ _ _ _ _ _ _ rfl rfl rfl rfl hr rfl ⟨rfl, hu2⟩
end Go.Proofs.Ytmpgikplpohjnaa
