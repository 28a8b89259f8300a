/- The first thirteen bytes of a record are ordered like its spot, plainly. -/
import Derived.Test.YtmianlnpaiebhaaPureC
import Derived.Lib.Bytealg
namespace Go.Proofs.Ytmianlnpaiebhaa

theorem cmpB_append : ∀ (a b : List UInt8) (x y : List UInt8), a.length = b.length → Lib.compareBytes (a ++ x) (b ++ y) = if Lib.compareBytes a b = 0 then Lib.compareBytes x y else Lib.compareBytes a b
  | [], [], x, y, _ => by simp [Lib.compareBytes]
  | c :: a, d :: b, x, y, h => by
    have ih := cmpB_append a b x y (by simpa using h)
    simp only [List.cons_append, Lib.compareBytes]
    by_cases h1 : c < d
    · simp [h1]
    · by_cases h2 : d < c
      · simp [h1, h2]
      · simp only [h1, h2, if_false, ih]
  | [], _ :: _, _, _, h => by simp at h
  | _ :: _, [], _, _, h => by simp at h
theorem cmpB_one (m n : Nat) (hm : m < 256) (hn : n < 256) : Lib.compareBytes [UInt8.ofNat m] [UInt8.ofNat n] = icmp m n := by
  have e1 : (UInt8.ofNat m).toNat = m := by rw [UInt8.toNat_ofNat']; omega
  have e2 : (UInt8.ofNat n).toNat = n := by rw [UInt8.toNat_ofNat']; omega
  have l1 : UInt8.ofNat m < UInt8.ofNat n ↔ m < n := by rw [UInt8.lt_iff_toNat_lt, e1, e2]
  have l2 : UInt8.ofNat n < UInt8.ofNat m ↔ n < m := by rw [UInt8.lt_iff_toNat_lt, e1, e2]
  simp only [Lib.compareBytes, l1, l2, icmp]
  repeat' split
  all_goals first | rfl | omega
theorem icmp_parts (m n : Nat) : icmp m n = if icmp ((m / 256 : Nat) : Int) ((n / 256 : Nat) : Int) = 0 then icmp ((m % 256 : Nat) : Int) ((n % 256 : Nat) : Int) else icmp ((m / 256 : Nat) : Int) ((n / 256 : Nat) : Int) := by
  unfold icmp
  repeat' split
  all_goals first | rfl | omega
theorem cmpB_be : ∀ (k m n : Nat), m < 256 ^ k → n < 256 ^ k → Lib.compareBytes (be k m) (be k n) = icmp m n
  | 0, m, n, hm, hn => by
    have : m = n := by simp at hm hn; omega
    subst this
    simp [be, Lib.compareBytes, icmp]
  | k + 1, m, n, hm, hn => by
    rw [Nat.pow_succ] at hm hn
    rw [be, be, cmpB_append _ _ _ _ (by rw [be_length, be_length]), cmpB_be k (m / 256) (n / 256) (by omega) (by omega), cmpB_one _ _ (by omega) (by omega), icmp_parts m n]
theorem enc_take (e : El) : (enc e).take 13 = be 1 e.p.toNat ++ (be 4 e.o.toNat ++ (be 4 e.f.toNat ++ be 4 e.m.toNat)) := by
  have h : enc e = (be 1 e.p.toNat ++ (be 4 e.o.toNat ++ (be 4 e.f.toNat ++ be 4 e.m.toNat))) ++ (be 4 e.g.toNat ++ (be 1 e.s.size ++ e.s.data.toList)) := by simp [enc]
  have hl : (be 1 e.p.toNat ++ (be 4 e.o.toNat ++ (be 4 e.f.toNat ++ be 4 e.m.toNat))).length = 13 := by simp [be_length]
  rw [h, ← hl, List.take_left]
theorem icmp_nat (a b : Int) (ha : 0 ≤ a) (hb : 0 ≤ b) : icmp (a.toNat : Int) (b.toNat : Int) = icmp a b := by rw [Int.toNat_of_nonneg ha, Int.toNat_of_nonneg hb]
theorem enc_orders {a b : El} (ha : a.err = 0) (hb : b.err = 0) : Lib.compareBytes ((enc a).take 13) ((enc b).take 13) = scmp a.p a.o a.f a.m b.p b.o b.f b.m := by
  obtain ⟨h1, h2, h3, h4, h5, h6, h7, h8, h9, h10, h11⟩ := err_zero ha
  obtain ⟨k1, k2, k3, k4, k5, k6, k7, k8, k9, k10, k11⟩ := err_zero hb
  rw [enc_take, enc_take, cmpB_append _ _ _ _ (by rw [be_length, be_length]), cmpB_append _ _ _ _ (by rw [be_length, be_length]), cmpB_append _ _ _ _ (by rw [be_length, be_length]),
    cmpB_be 1 _ _ (by omega) (by omega), cmpB_be 4 _ _ (by omega) (by omega), cmpB_be 4 _ _ (by omega) (by omega), cmpB_be 4 _ _ (by omega) (by omega),
    icmp_nat _ _ (by omega) (by omega), icmp_nat _ _ (by omega) (by omega), icmp_nat _ _ (by omega) (by omega), icmp_nat _ _ (by omega) (by omega)]
  unfold scmp kcmp
  by_cases e1 : icmp a.p b.p = 0
  · simp only [e1, if_true]
    by_cases e2 : icmp a.o b.o = 0
    · simp only [e2, if_true]
    · simp only [e2, if_false]
  · simp only [e1, if_false]
end Go.Proofs.Ytmianlnpaiebhaa
