/- Texts of one kind in one file. -/
import Derived.Test.YtibnghapilfgbaaShelf
import Derived.Sort.OwnSortedInts
import Derived.Lib.Hide
import Derived.Test.YtibnghapilfgbaaPkSnapKeeps1
set_option maxRecDepth 100000
namespace Go.Proofs.Ytibnghapilfgbaa
open Go.RowKit
theorem nLt_neg (a b : ByteArray) : nLt a b ↔ bc a b < 0 := by
 unfold nLt
 rcases bc_or a b with h | h | h <;> rw [h] <;> decide
theorem snPos1_any (nm : ByteArray) (td : Int) (x : ByteArray) (w : World) : Calls Try.prog 45 #[.agg #[.string nm, .int .i64 td], .string x] w fun e w' => e = .returned (.int .i64 (bc nm x)) ∧ Calm w w' := by
 have cC := fun u => Try.strings_Compare nm x u
 have hE : Lib.compareBytes nm.data.toList x.data.toList = bc nm x := rfl
 rw [hE] at cC
 clear hE
 generalize bc nm x = C at cC ⊢
 have hu := (Calm.refl w).alloc (.cells #[.string nm, .int .i64 td] 35)
 go_enter Try.func45, Try.ntmps45
 go_wp2_with (go_at_call 32; refine (cC _).mono ?_; rintro e w1 ⟨rfl, rfl⟩)
 go_ret
 exact ⟨rfl, hu⟩
def posN (l : List Sn) (x : ByteArray) : Nat := l.countP fun s => decide (nLt s.nm x)
def hitN (l : List Sn) (x : ByteArray) : Bool := match l[posN l x]? with | some s => bc s.nm x == 0 | none => false
theorem posN_part {l : List Sn} {x : ByteArray} {c : Nat} (hc : c ≤ l.length) (h1 : ∀ i (h : i < l.length), i < c → nLt l[i].nm x) (h2 : ∀ i (h : i < l.length), c ≤ i → ¬ nLt l[i].nm x) : posN l x = c := by
 unfold posN
 rw [← List.take_append_drop c l, List.countP_append]
 have a : (l.take c).countP (fun s => decide (nLt s.nm x)) = c := by
  rw [List.countP_eq_length.2 fun e he => by
   obtain ⟨i, hi, rfl⟩ := List.getElem_of_mem he
   rw [List.length_take] at hi
   rw [List.getElem_take]
   exact decide_eq_true (h1 i (by omega) (by omega)), List.length_take]
  omega
 have b : (l.drop c).countP (fun s => decide (nLt s.nm x)) = 0 := by
  rw [List.countP_eq_zero.2 fun e he => by
   obtain ⟨i, hi, rfl⟩ := List.getElem_of_mem he
   rw [List.length_drop] at hi
   rw [List.getElem_drop]
   simpa using h2 (c + i) (by omega) (by omega)]
 omega
set_option maxHeartbeats 8000000 in
theorem snSearch_any (A : Option Addr) (c : Nat) (l : List Sn) (x : ByteArray) (w : World) (hn : l.length ≤ 400) (hL : LiesN w A l) (hS : NS l) :
    Calls Try.prog 44 #[.slice A l.length c, .string x, .func (.func 45) #[] #[]] w fun e w' => e = .returned (.tuple #[.int .i64 (posN l x : Nat), .bool (hitN l x)]) ∧ Calm w w' := by
  have M : Hid (∀ i j (hi : i < l.length) (hj : j < l.length), i ≤ j → nLt l[j].nm x → nLt l[i].nm x) := show ∀ _ _ _ _, _ from fun i j hi hj hij h => by
    rcases Nat.lt_or_eq_of_le hij with h1 | h1
    · exact nLt_trans (List.pairwise_iff_getElem.1 hS i j hi hj h1) h
    · subst h1; exact h
  have HL := Lib.hid hL
  clear hL hS
  go_enter Try.func44, Try.ntmps44
  go_wp2_with fail
  go_loopg [9, 10] l.length (fun kx s9 s10 wr => ∃ lo hi : Nat, s9 = .int .i64 lo ∧ s10 = .int .i64 hi ∧ lo ≤ hi ∧ hi ≤ l.length ∧ hi - lo ≤ kx ∧ Calm w wr ∧
    Hid ((∀ t (h : t < l.length), t < lo → nLt l[t].nm x) ∧ (∀ t (h : t < l.length), hi ≤ t → ¬ nLt l[t].nm x)))
  case atStart => exact ⟨0, l.length, rfl, rfl, Nat.zero_le _, Nat.le_refl _, by omega, Calm.refl _, show _ ∧ _ from ⟨fun t h ht => absurd ht (Nat.not_lt_zero _), fun t h1 h2 => by omega⟩⟩
  case round =>
    obtain ⟨lo, hi, rfl, rfl, hlh, hin, hg, hv, I⟩ := hrel
    have HLr := Lib.hid (HL.out.calm hv)
    by_cases hlt : lo < hi
    · obtain ⟨mid, hmd⟩ : ∃ mid, (lo + hi) / 2 = mid := ⟨_, rfl⟩
      have hmid : mid < l.length := by omega
      have hmi : ((lo : Int) + (hi : Int)) / 2 = (mid : Int) := by omega
      obtain ⟨b, q, nm, td, hAb, hb, HE, e0, e1⟩ := sn_get HLr.out hmid
      subst hAb
      obtain ⟨C, hC⟩ : ∃ C, bc nm x = C := ⟨_, rfl⟩
      have hCs : Hid (nLt (l[mid]).nm x ↔ C < 0) := show _ ↔ _ by
        rw [(List.getElem?_eq_some_iff.1 HE.out).2, ← hC]; exact nLt_neg _ _
      have cC := fun u => snPos1_any nm td x u
      rw [hC] at cC
      have HMD := Lib.hid hmd
      clear hC hmd
      by_cases hC0 : C < 0
      · have I2 : Hid ((∀ t (h : t < l.length), t < mid + 1 → nLt l[t].nm x) ∧ (∀ t (h : t < l.length), hi ≤ t → ¬ nLt l[t].nm x)) := show _ ∧ _ from
          ⟨fun t h ht => M.out t mid h hmid (by omega) (hCs.out.2 hC0), I.out.2⟩
        go_wp2_with (go_at_call 45; (with_reducible refine (cC _).mono ?_); rintro e w9 ⟨rfl, hk⟩)
        go_roundg (hi - (mid + 1))
        case measure => have := HMD.out; omega
        case rel => exact ⟨mid + 1, hi, by first | rfl | go_num | (congr 1; omega), rfl, by have := HMD.out; omega, hin, Nat.le_refl _, hv.call hk, I2⟩
      · have I2 : Hid ((∀ t (h : t < l.length), t < lo → nLt l[t].nm x) ∧ (∀ t (h : t < l.length), mid ≤ t → ¬ nLt l[t].nm x)) := show _ ∧ _ from
          ⟨I.out.1, fun t h ht h2 => hC0 (hCs.out.1 (M.out mid t hmid h ht h2))⟩
        go_wp2_with (go_at_call 45; (with_reducible refine (cC _).mono ?_); rintro e w9 ⟨rfl, hk⟩)
        go_roundg (mid - lo)
        case measure => have := HMD.out; omega
        case rel => exact ⟨lo, mid, rfl, by first | rfl | go_num | (congr 1; omega), by have := HMD.out; omega, by omega, Nat.le_refl _, hv.call hk, I2⟩
    · obtain rfl : hi = lo := by omega
      have K1 : Hid (posN l x = hi) := posN_part hin (fun i h hi' => I.out.1 i h hi') (fun i h hi' => I.out.2 i h hi')
      by_cases hle : hi < l.length
      · have hli : (hi : Int) < (l.length : Int) := by omega
        obtain ⟨b, q, nm, td, hAb, hb, HE, e0, e1⟩ := sn_get HLr.out hle
        subst hAb
        have cC := fun u => snPos1_any nm td x u
        have hB : Hid (hitN l x = (bc nm x == 0)) := show _ = _ by unfold hitN; rw [K1.out, HE.out]
        generalize bc nm x = C at cC hB
        obtain ⟨r, hr⟩ : ∃ r, (C == 0) = r := ⟨_, rfl⟩
        have HB : Hid (hitN l x = r) := show _ = _ from hB.out.trans hr
        go_wp2_with (go_at_call 45; (with_reducible refine (cC _).mono ?_); rintro e w9 ⟨rfl, hk⟩)
        go_ret2
        exact ⟨by rw [K1.out, HB.out]; rfl, hv.call hk⟩
      · have hli : ¬ (hi : Int) < (l.length : Int) := by omega
        go_wp2_with fail
        go_ret2
        have HB : hitN l x = false := by unfold hitN; rw [K1.out, List.getElem?_eq_none (by omega)]
        exact ⟨by rw [K1.out, HB]; rfl, hv⟩
set_option maxHeartbeats 2000000 in
theorem snPosition_any (A : Option Addr) (c : Nat) (l : List Sn) (x : ByteArray) (w : World) (hn : l.length ≤ 400) (hL : LiesN w A l) (hS : NS l) :
    Calls Try.prog 24 #[.slice A l.length c, .string x] w fun e w' => e = .returned (.tuple #[.int .i64 (posN l x : Nat), .bool (hitN l x)]) ∧ Calm w w' := by
  have cB := snSearch_any A c l x w hn hL hS
  clear hL hS hn
  generalize posN l x = P at cB ⊢
  generalize hitN l x = H at cB ⊢
  go_enter Try.func24, Try.ntmps24
  go_wp2_with (go_at_call 44; (with_reducible refine cB.mono ?_); rintro e w1 ⟨rfl, hb⟩)
  go_ret2
  exact ⟨rfl, hb⟩
def fiErr (l : List Sn) (x : ByteArray) : Int := if snErr l = 0 then (if hitN l x = true then 0 else 4) else snErr l
def fiPos (l : List Sn) (x : ByteArray) : Nat := if fiErr l x = 0 then posN l x else 0
def fiT (l : List Sn) (x : ByteArray) : Int := if fiErr l x = 0 then (match l[posN l x]? with | some s => s.td | none => 0) else 0
theorem hit_at {l : List Sn} {x : ByteArray} (h : hitN l x = true) : ∃ s, l[posN l x]? = some s ∧ s.nm = x := by
 unfold hitN at h
 cases hp : l[posN l x]? with
 |none => rw [hp] at h; cases h
 |some s => rw [hp] at h; exact ⟨s, rfl, bc_eq.1 (by simpa using h)⟩
set_option maxHeartbeats 4000000 in
theorem snfind_any (A : Option Addr) (c : Nat) (l : List Sn) (x : ByteArray) (w : World) (hn : l.length ≤ 9223372036854775807) (hS : Szs l) (hL : LiesN w A l) :
    Calls Try.prog 27 #[.slice A l.length c, .string x] w fun e w' => e = .returned (.tuple #[.int .i64 (fiPos l x : Nat), .int .i64 (fiErr l x)]) ∧ Calm w w' := by
  have cC := fun u (hu : Calm w u) => snCheck_any A c l u hn hS (hL.calm hu)
  have hu := Calm.refl w
  unfold fiPos fiErr
  by_cases h1 : snErr l = 0
  rotate_left
  · rw [if_neg h1, if_neg h1]
    have b1 : (snErr l != 0) = true := by simpa using h1
    generalize snErr l = E at *
    clear h1 hL
    go_enter Try.func27, Try.ntmps27
    go_wp2_with (go_at_call 11; (with_reducible refine (cC _ hu).mono ?_); rintro e w1 ⟨rfl, hb⟩; replace hu := hu.call hb; clear hb)
    go_ret2
    exact ⟨rfl, hu⟩
  have hG := snErr_zero.1 h1
  have cP := fun u (hu : Calm w u) => snPosition_any A c l x u (by have := hG.1; omega) (hL.calm hu) hG.2.2
  rw [if_pos h1]
  rw [h1] at cC
  by_cases h2 : hitN l x = true
  · rw [if_pos h2, if_pos rfl]
    rw [h2] at cP
    generalize posN l x = P at cP ⊢
    clear h1 h2 hL hG
    go_enter Try.func27, Try.ntmps27
    go_wp2_with (first
      | (go_at_call 11; (with_reducible refine (cC _ hu).mono ?_); rintro e w1 ⟨rfl, hb⟩; replace hu := hu.call hb; clear hb cC)
      | (go_at_call 24; (with_reducible refine (cP _ hu).mono ?_); rintro e w2 ⟨rfl, hb⟩; replace hu := hu.call hb; clear hb cP))
    go_ret2
    exact ⟨rfl, hu⟩
  · rw [if_neg h2, if_neg (by decide)]
    rw [show hitN l x = false from by simpa using h2] at cP
    generalize posN l x = P at cP
    clear h1 h2 hL hG
    go_enter Try.func27, Try.ntmps27
    go_wp2_with (first
      | (go_at_call 11; (with_reducible refine (cC _ hu).mono ?_); rintro e w1 ⟨rfl, hb⟩; replace hu := hu.call hb; clear hb cC)
      | (go_at_call 24; (with_reducible refine (cP _ hu).mono ?_); rintro e w2 ⟨rfl, hb⟩; replace hu := hu.call hb; clear hb cP))
    go_ret2
    exact ⟨rfl, hu⟩
set_option maxHeartbeats 4000000 in
theorem snFind_any (A : Option Addr) (c : Nat) (l : List Sn) (x : ByteArray) (w : World) (hn : l.length ≤ 9223372036854775807) (hS : Szs l) (hL : LiesN w A l) :
    Calls Try.prog 8 #[.slice A l.length c, .string x] w fun e w' => e = .returned (.tuple #[.int .i64 (fiT l x), .int .i64 (fiErr l x)]) ∧ Calm w w' := by
  have cF := snfind_any A c l x w hn hS hL
  unfold fiT
  by_cases h1 : fiErr l x = 0
  rotate_left
  · rw [if_neg h1]
    have b1 : (fiErr l x != 0) = true := by simpa using h1
    generalize fiErr l x = E at *
    generalize fiPos l x = P at cF
    clear h1 hL
    go_enter Try.func8, Try.ntmps8
    go_wp2_with (go_at_call 27; (with_reducible refine cF.mono ?_); rintro e w1 ⟨rfl, hb⟩)
    go_ret2
    exact ⟨rfl, hb⟩
  have hh : hitN l x = true := by
    unfold fiErr at h1
    split at h1
    · split at h1
      · assumption
      · cases h1
    · contradiction
  obtain ⟨s, hs, -⟩ := hit_at hh
  have hp : fiPos l x = posN l x := by unfold fiPos; rw [if_pos h1]
  rw [if_pos h1, hs, h1]
  rw [h1, hp] at cF
  have hlt : posN l x < l.length := (List.getElem?_eq_some_iff.1 hs).1
  generalize posN l x = P at *
  obtain ⟨b, q, nm, td, rfl, hb, HE, c0, c1⟩ := sn_get hL hlt
  obtain rfl : s = ⟨nm, td⟩ := by have := hs.symm.trans HE.out; injection this
  simp only
  clear h1 hh hs hp HE hL
  go_enter Try.func8, Try.ntmps8
  go_wp2_with (go_at_call 27; (with_reducible refine cF.mono ?_); rintro e w1 ⟨rfl, hb1⟩; have hvc := hb1.facts.1; replace c0 := (hvc _ _ hb).trans c0; replace c1 := (hvc _ _ hb).trans c1; have hb2 : b < w1.heap.size := Nat.lt_of_lt_of_le hb hb1.size; clear hvc)
  go_ret2
  exact ⟨rfl, hb1⟩
open Go.RowKit
theorem grownBy_put {w : World} {g n : Nat} (d : Array Int) : w.grownBy (Sort.putRow (Value.int .i64) (Sort.ahead w n) g 0 d) (some g) := by
 have h := grownBy_sortedI (w := w) (g := g) (n := n) (os := #[]) d
 rwa [Sort.grow_empty] at h
def sortI (N : List Int) : List Int := N.mergeSort fun x y => decide (x ≤ y)
theorem sortI_perm (N : List Int) : (sortI N).Perm N := List.mergeSort_perm _ _
theorem sortI_len (N : List Int) : (sortI N).length = N.length := (sortI_perm N).length_eq
theorem sort_any (B : Nat) (v : Value) (N : List Int) (w : World) (h : OwnI B w v N) (h0 : 0 < N.length) (hN : N.length ≤ 1000000) :
    Calls Try.prog 29 #[v] w fun e w' => e = .returned (.tuple #[]) ∧ OwnI B w' v (sortI N) ∧ w.grownBy w' v.ownBlock := by
  rcases h.2 with ⟨rfl, hz⟩ | ⟨g, cap, cur, rfl, hg, hb, hnc, hcm, hsz, ht⟩
  · omega
  have hg2 : g < w.heap.size := (Array.getElem?_eq_some_iff.1 hb).1
  rw [Nat.mul_one] at ht
  refine (Try.slices_Sort_int g 0 cap N w (holds_of_blockI hb ht) hg2 (by omega)).mono ?_
  rintro e w' ⟨rfl, n, os, rfl⟩
  refine ⟨rfl, ?_, grownBy_sortedI _⟩
  unfold OwnI
  rw [sortI_len]
  exact ownsRow_sortedI (ss := N) (ts := sortI N) (sortI_len N) hg hb hnc hcm (by simpa using hsz)
open Go.ChangeShapes Go.WideShapes Go.ChangeAt Go.RowKit
/-- slices.Compact of a row that the call owns: what it answers reads as Lib.compact. -/
theorem compact_own (B : Nat) (v : Value) (N : List Int) (w : World) (h : OwnI B w v N) (hN : N.length ≤ 1000000) :
    Calls Try.prog 30 #[v] w fun e w' => ∃ A c, e = .returned (.slice A (Lib.compact N).length c) ∧ LiesI w' A (Lib.compact N) ∧ w.grownBy w' v.ownBlock := by
  by_cases h0 : N.length = 0
  · have hv : ∃ A c, v = .slice A 0 c := by
      rcases h.2 with ⟨rfl, _⟩ | ⟨g, cap, cur, rfl, _⟩
      · exact ⟨none, 0, rfl⟩
      · exact ⟨some ⟨g, 0, none⟩, cap, by rw [h0]⟩
    obtain ⟨A, c, rfl⟩ := hv
    obtain rfl := List.eq_nil_of_length_eq_zero h0
    refine (Try.slices_Compact_int_empty A c w).mono ?_
    rintro e w' ⟨rfl, rfl⟩
    exact ⟨A, c, rfl, fun h => absurd h (by decide), (Calm.refl _).grownBy _⟩
  rcases h.2 with ⟨rfl, hz⟩ | ⟨g, cap, cur, rfl, hg, hb, hnc, hcm, hsz, ht⟩
  · omega
  rw [Nat.mul_one] at ht
  refine (Try.slices_Compact_int g 0 cap N w (holds_of_blockI hb ht) (by omega) hnc).mono ?_
  rintro e w' ⟨rfl, q, rfl⟩
  have hK := Lib.compact_length_le N
  have hlen : (Lib.compact N ++ List.replicate (N.length - (Lib.compact N).length) 0).length = N.length := by
    rw [List.length_append, List.length_replicate]; omega
  have ho := ownsRow_sortedI (n := q) (os := #[]) (ss := N) (ts := Lib.compact N ++ List.replicate (N.length - (Lib.compact N).length) 0) hlen hg hb hnc hcm (by simpa using hsz)
  rw [Sort.grow_empty] at ho
  refine ⟨_, _, rfl, fun hpos => ?_, grownBy_put _⟩
  have ho2 : OwnI B (Sort.putRow (Value.int .i64) (Sort.ahead w q) g 0 (Lib.compact N ++ List.replicate (N.length - (Lib.compact N).length) 0).toArray) (.slice (some ⟨g, 0, none⟩) N.length cap) (Lib.compact N ++ List.replicate (N.length - (Lib.compact N).length) 0) := by
    unfold OwnI
    rw [hlen]
    exact ho
  obtain ⟨A, c, hv, hL⟩ := ho2.lies
  injection hv with hv1 hv2 hv3
  subst hv1
  obtain ⟨b, o, hA, hlt, hc⟩ := hL (by rw [hlen]; omega)
  refine ⟨b, o, hA, hlt, fun k x hx => hc k x ?_⟩
  rw [List.getElem?_append_left (List.getElem?_eq_some_iff.1 hx).1]
  exact hx
theorem sort_own (B : Nat) (v : Value) (N : List Int) (w : World) (h : OwnI B w v N) (hN : N.length ≤ 1000000) :
    Calls Try.prog 29 #[v] w fun e w' => e = .returned (.tuple #[]) ∧ OwnI B w' v (sortI N) ∧ w.grownBy w' v.ownBlock := by
  by_cases h0 : N.length = 0
  · have hv : ∃ A c, v = .slice A 0 c := by
      rcases h.2 with ⟨rfl, _⟩ | ⟨g, cap, cur, rfl, _⟩
      · exact ⟨none, 0, rfl⟩
      · exact ⟨some ⟨g, 0, none⟩, cap, by rw [h0]⟩
    obtain ⟨A, c, rfl⟩ := hv
    obtain rfl := List.eq_nil_of_length_eq_zero h0
    refine (Try.slices_Sort_int_none A c w).mono ?_
    rintro e w' ⟨rfl, rfl⟩
    exact ⟨rfl, by rw [show sortI [] = [] from List.eq_nil_of_length_eq_zero (sortI_len [])]; exact h, (Calm.refl _).grownBy _⟩
  · exact sort_any B v N w h (by omega) hN
def tmL (l : List Sn) : List Int := Lib.compact (sortI (l.map Sn.td))
theorem compact_has {N : List Int} : ∀ i (h : i < N.length), N[i] ∈ Lib.compact N := by
 intro i
 induction i with
 |zero =>
  intro h
  unfold Lib.compact Lib.compactUpTo
  refine List.mem_map.2 ⟨0, List.mem_filter.2 ⟨List.mem_range.2 h, by simp [Lib.keeps]⟩, by simp [h]⟩
 |succ i ih =>
  intro h
  by_cases he : N[i + 1] = N[i]
  ·rw [he]; exact ih (by omega)
  ·unfold Lib.compact Lib.compactUpTo
   refine List.mem_map.2 ⟨i + 1, List.mem_filter.2 ⟨List.mem_range.2 h, ?_⟩, by simp [h]⟩
   unfold Lib.keeps
   rw [decide_eq_true_eq]
   right
   simp only [Nat.add_sub_cancel]
   rw [getElem!_pos N.toArray (i + 1) (by simpa using h), getElem!_pos N.toArray i (by simp; omega)]
   simpa using he
theorem compact_mem {N : List Int} {x : Int} : x ∈ Lib.compact N ↔ x ∈ N := by
 constructor
 ·intro h
  unfold Lib.compact Lib.compactUpTo at h
  obtain ⟨i, hi, rfl⟩ := List.mem_map.1 h
  have := List.mem_range.1 (List.mem_filter.1 hi).1
  rw [getElem!_pos N.toArray i (by simpa using this)]
  simp
 ·intro h
  obtain ⟨i, hi, rfl⟩ := List.getElem_of_mem h
  exact compact_has i hi
theorem tmL_mem {l : List Sn} {t : Int} : t ∈ tmL l ↔ ∃ s ∈ l, s.td = t := by
 unfold tmL
 rw [compact_mem, (sortI_perm _).mem_iff, List.mem_map]
theorem tmL_len (l : List Sn) : (tmL l).length ≤ l.length := by
 unfold tmL
 have := Lib.compact_length_le (sortI (l.map Sn.td))
 rw [sortI_len, List.length_map] at this
 exact this
def TmEnd (T : List Int) (n : Int) (w : World) (e : Ending) (w' : World) : Prop := ∃ A c, e = .returned (.tuple #[.slice A T.length c, .int .i64 n]) ∧ LiesI w' A T ∧ Calm w w'
theorem td_take {l : List Sn} {k : Nat} {s : Sn} (h : l[k]? = some s) : (l.take (k + 1)).map Sn.td = (l.take k).map Sn.td ++ [s.td] := by
 obtain ⟨hk, rfl⟩ := List.getElem?_eq_some_iff.1 h
 rw [List.take_succ_eq_append_getElem hk, List.map_append]; rfl
set_option maxHeartbeats 8000000 in
theorem snTimes_any (A : Option Addr) (c : Nat) (l : List Sn) (w : World) (hn : l.length ≤ 9223372036854775807) (hS : Szs l) (hL : LiesN w A l) :
    Calls Try.prog 9 #[.slice A l.length c] w (TmEnd (if snErr l = 0 then tmL l else []) (snErr l) w) := by
  have cC := fun u (hu : Calm w u) => snCheck_any A c l u hn hS (hL.calm hu)
  have hu := Calm.refl w
  by_cases h1 : snErr l = 0
  rotate_left
  · rw [if_neg h1]
    have b1 : (snErr l != 0) = true := by simpa using h1
    generalize snErr l = E at *
    clear h1 hL
    go_enter Try.func9, Try.ntmps9
    go_wp2_with (go_at_call 11; (with_reducible refine (cC _ hu).mono ?_); rintro e w1 ⟨rfl, hb⟩; replace hu := hu.call hb; clear hb)
    go_ret2
    exact ⟨none, 0, rfl, fun h => absurd h (by simp), hu⟩
  have hG := snErr_zero.1 h1
  have H20 := Lib.hid hG.1
  rw [if_pos h1]
  rw [h1] at cC ⊢
  clear h1 hG
  go_enter Try.func9, Try.ntmps9
  go_upto_region 4 with (go_at_call 11; (with_reducible refine (cC _ hu).mono ?_); rintro e w1 ⟨rfl, hb⟩; replace hu := hu.call hb; clear hb cC)
  go_wp2_with fail
  go_loopw [5, 15] (fun v i wr => ∃ k : Nat, k ≤ l.length ∧ i = .int .i64 k ∧ Calm w1 wr ∧ Hid (OwnI w1.heap.size wr v ((l.take k).map Sn.td))) (fun _ i _ => l.length - (intOf i).toNat)
  case atStart => exact ⟨0, Nat.zero_le _, rfl, Calm.refl _, show OwnI _ _ _ _ from OwnI.nil _ _⟩
  case round =>
    obtain ⟨k, hk, rfl, hv, HT⟩ := hrel
    by_cases hlt : k < l.length
    rotate_left
    · have HT2 := HT.out
      rw [List.take_of_length_le (by omega)] at HT2
      have HT3 := Lib.hid HT2
      have hlm : ((l.map Sn.td).length ≤ 1000000) := by rw [List.length_map]; have := H20.out; omega
      have hlm2 : ((sortI (l.map Sn.td)).length ≤ 1000000) := by rw [sortI_len]; exact hlm
      have hml : (tmL l).length ≤ 9223372036854775807 := by have := tmL_len l; omega
      have hsz := hu.size
      clear HT2 HT
      go_wp2_with (first
        | (go_at_call 29; refine (sort_own w1.heap.size _ _ _ HT3.out hlm).mono ?_; rintro e w5 ⟨rfl, ho5, hg5⟩; have hv5 := Calm.grownI hv (Nat.le_refl _) HT3.out hg5; have HO5 := Lib.hid ho5; clear ho5 hg5)
        | (go_at_call 30; refine (compact_own w1.heap.size _ _ _ HO5.out hlm2).mono ?_; rintro e w6 ⟨A6, c6, rfl, hl6, hg6⟩; have hv6 := Calm.grownI hv5 (Nat.le_refl _) HO5.out hg6; have HL6 := Lib.hid hl6; clear hl6 hg6))
      go_ret2
      exact ⟨A6, c6, rfl, HL6.out, hu.call hv6⟩
    obtain ⟨b, q, nm, td, rfl, hb, HE, c0, c1⟩ := sn_get (hL.calm (hu.call hv)) hlt
    have hF := td_take HE.out
    have hl1 : ((l.take k).map Sn.td).length ≤ 1000000 := by rw [List.length_map, List.length_take]; have := H20.out; omega
    generalize (l.take k).map Sn.td = M at HT hF hl1
    have hF := Lib.hid hF
    have hl1 := Lib.hid hl1
    have hv2 := (hv.alloc (.cells #[.string nm, .int .i64 td] 35 (0, 0))).alloc (.cells #[.int .i64 td] 3 (0, 0))
    have HT2 := Lib.hid ((HT.out.calm ((Calm.refl wr).alloc (.cells #[.string nm, .int .i64 td] 35 (0, 0)))).calm ((Calm.refl _).alloc (.cells #[.int .i64 td] 3 (0, 0))))
    have hr : ((wr.alloc (.cells #[.string nm, .int .i64 td] 35 (0, 0))).alloc (.cells #[.int .i64 td] 3 (0, 0))).heap[wr.heap.size + 1]? = some (.cells #[.int .i64 td] 3 (0, 0)) := by simpa using heap_new (wr.alloc (.cells #[.string nm, .int .i64 td] 35 (0, 0))) (.cells #[.int .i64 td] 3 (0, 0))
    have hr := Lib.hid hr
    clear HE HT
    go_wp2_with (at_builtin; refine wpList_append_i rfl _ _ rfl w1.heap.size _ _ rfl HT2.out _ _ td _ rfl hr.out hl1.out hv2.size ?_; intro v' w9 ho9 hk9; have HT9 := Lib.hid ho9; have hv9 := hk9 w1 (Nat.le_refl _) hv2; clear ho9 hk9)
    go_roundw
    case rel => exact ⟨k + 1, by omega, by go_num, hv9, show OwnI _ _ _ _ from by rw [hF.out]; exact HT9.out⟩
    case measure => simp [intOf]; omega
open Go.ChangeShapes Go.WideShapes Go.ChangeAt Go.RowKit
section
variable {H : Type} {enc : TypeId × Value → H} {w : World} {base : Nat} {spare : Nat → Bool} {held : Bool}
theorem cellsSnap : Try.prog.cellsOf 35 = 2 := by kernel_rfl
theorem snap_cells {fuel : Nat} {cs : List Value} {x : DataW H × List MemPlace} (h : DataW.trod enc Try.prog w base spare held fuel 35 cs = some x) : ∃ s : Sn, cs = snV s ∧ s.nm.size ≤ maxLen := by
 obtain ⟨y0, y1, n, hd, hl, h0, h1⟩ := trod_struct2 Try.underlying35 h
 obtain ⟨s, e0, _, q0⟩ := DataW.trod_string Try.underlying9 h0
 obtain ⟨i, e1, _, _⟩ := DataW.trod_int Try.underlying3 h1
 simp only [cellsInt, cellsStr, cellsSnap] at e0 e1 hl
 match cs, hl with
 | [c0, c1], _ =>
  simp at e0 e1
  exact ⟨⟨s, i⟩, by rw [e0, e1]; rfl, q0⟩
variable {r : Reach} {b0 : Nat} {v : Value} {d : DataW H} {ps : List MemPlace}
theorem open_snaps (hv : Value.okWide Try.prog w r b0 22 v) (h : DataW.Trod enc Try.prog w base spare held 22 v d ps) :
    ∃ (A : Option Addr) (c : Nat) (l : List Sn), v = .slice A l.length c ∧ l.length ≤ 9223372036854775807 ∧ Szs l ∧ LiesN w A l := by
  obtain ⟨A0, len, cap, rfl⟩ := okWide_slice Try.underlying22 hv
  obtain ⟨fuel, hf⟩ := h
  obtain ⟨A, c, l, e1, le1, -, wf1, at1, -⟩ := rows_open (α := Sn) snV (fun s => s.nm.size ≤ maxLen) 2 Try.underlying22 cellsSnap (by omega) (fun fuel cs x hx => snap_cells hx) hf
  have e2 : Value.slice A0 len cap = .slice A l.length c := by simpa [Value.cells] using e1
  rw [e2]
  exact ⟨A, c, l, rfl, le1, wf1, at1⟩
end
theorem sns_two {w : World} {g t : Nat} {a b : ByteArray} {i j : Int} (h : w.heap[g]? = some (.cells #[.string a, .int .i64 i, .string b, .int .i64 j] t (0, 0))) : LiesN w (some ⟨g, 0, none⟩) [⟨a, i⟩, ⟨b, j⟩] := fun _ => by
 refine ⟨g, 0, rfl, (Array.getElem?_eq_some_iff.1 h).1, fun k y hy q hq => ?_⟩
 rw [cell_of_row w g _ _ t _ h]
 match k, hy with
 | 0, hy => simp at hy; subst hy; match q, hq with
  | 0, _ => rfl
  | 1, _ => rfl
 | 1, hy => simp at hy; subst hy; match q, hq with
  | 0, _ => rfl
  | 1, _ => rfl
 |k + 2, hy => simp at hy
theorem ints_one {w : World} {g t : Nat} {i : Int} (h : w.heap[g]? = some (.cells #[.int .i64 i] t (0, 0))) : LiesI w (some ⟨g, 0, none⟩) [i] := fun _ => by
 refine ⟨g, 0, rfl, (Array.getElem?_eq_some_iff.1 h).1, fun k y hy => ?_⟩
 rw [cell_of_row w g _ _ t _ h]
 match k, hy with
 | 0, hy => simp at hy; subst hy; rfl
 |k + 1, hy => simp at hy
def snA : Sn := ⟨{ data := #[97] }, 5⟩
def snB : Sn := ⟨{ data := #[98] }, 5⟩
theorem two_err : snErr [snA, snB] = 0 := by kernel_rfl
theorem two_tm : tmL [snA, snB] = [5] := by
 unfold tmL
 have h : sortI [5, 5] = [5, 5] := by
  have h1 := sortI_perm [5, 5]
  have h2 : sortI [5, 5] = List.replicate 2 5 := List.eq_replicate_iff.2 ⟨h1.length_eq, fun b hb => by have := h1.mem_iff.1 hb; simpa using this⟩
  rw [h2]; rfl
 show Lib.compact (sortI [5, 5]) = [5]
 rw [h]
 decide +kernel
theorem two_szs : Szs [snA, snB] := by
 intro s hs
 simp at hs
 rcases hs with rfl | rfl <;> decide
theorem goodSub {l l' : List El} (h : Good l) (hs : l'.Sublist l) : Good l' :=
 ⟨Nat.le_trans hs.length_le h.1, fun e he => h.2.1 e (hs.subset he), h.2.2.sublist hs⟩
def isKept (keep : List Int) (e : El) : Bool := decide (e.g = 0) || keep.any (fun t => decide (e.live t))
def keptR (l : List El) (keep : List Int) : List El := l.filter (isKept keep)
def timesErr (keep : List Int) : Int := if 20 < keep.length then 2 else if ∀ t ∈ keep, 0 ≤ t ∧ t ≤ 2147483647 then 0 else 9
def keepErr (l : List El) (keep : List Int) : Int := if runErr l = 0 then timesErr keep else runErr l
def withoutR : List El → List Int → Int → List El
 | [], _, _ => []
 |e :: l, keep, n => if 0 < n ∧ isKept keep e = false then withoutR l keep (n - 1) else e :: withoutR l keep n
theorem without_cons (e : El) (l : List El) (keep : List Int) (n : Int) : withoutR (e :: l) keep n = if 0 < n ∧ isKept keep e = false then withoutR l keep (n - 1) else e :: withoutR l keep n := rfl
theorem without_all (keep : List Int) : ∀ (l : List El) (n : Int), (l.length : Int) ≤ n → withoutR l keep n = keptR l keep
 | [], _, _ => rfl
 |e :: l, n, h => by
  rw [List.length_cons] at h
  unfold withoutR keptR
  rw [List.filter_cons]
  cases hk : isKept keep e
  ·rw [if_pos ⟨by omega, rfl⟩, if_neg (by simp)]
   exact without_all keep l (n - 1) (by omega)
  ·rw [if_neg (by simp), if_pos rfl]
   congr 1
   exact without_all keep l n (by omega)
theorem kept_of {keep : List Int} {t : Int} {e : El} (ht : t ∈ keep) (h : e.live t) : isKept keep e = true := by
 unfold isKept
 rw [Bool.or_eq_true]
 exact .inr (List.any_eq_true.2 ⟨t, ht, decide_eq_true h⟩)
theorem kept_now {keep : List Int} {e : El} (he : e.err = 0) (h : e.live 2147483647) : isKept keep e = true := by
 unfold isKept
 rw [Bool.or_eq_true]
 refine .inl (decide_eq_true ?_)
 have h1 := err_time he
 unfold timeOk at h1
 unfold El.live liveP at h
 omega
theorem kept_good {l : List El} (hG : Good l) (keep : List Int) : Good (keptR l keep) := goodSub hG List.filter_sublist
theorem kept_at {l : List El} {keep : List Int} {t : Int} (h : ∀ e ∈ l, e.live t → isKept keep e = true) (k : Int × Int × Int) : atR (keptR l keep) k t = atR l k t := by
 induction l with
 |nil => rfl
 |cons e l ih =>
  have ih := ih fun x hx => h x (List.mem_cons_of_mem _ hx)
  unfold atR keptR at ih ⊢
  rw [List.filter_cons]
  cases hk : isKept keep e
  ·rw [if_neg (by simp), ih, List.find?_cons]
   have hn : isAt k t e = false := by
    cases hi : isAt k t e
    ·rfl
    ·have h1 : e.key = k ∧ e.live t := by simpa [isAt] using hi
     rw [h e List.mem_cons_self h1.2] at hk; cases hk
   rw [hn]
  ·rw [if_pos rfl, List.find?_cons, List.find?_cons, ih]
theorem kept_range {l : List El} {keep : List Int} {t : Int} (h : ∀ e ∈ l, e.live t → isKept keep e = true) (lo hi : Int × Int × Int) : rangeR (keptR l keep) lo hi t = rangeR l lo hi t := by
 unfold rangeR keptR
 rw [List.filter_filter]
 apply List.filter_congr
 intro e he
 cases hi2 : inR lo hi t e
 ·simp
 ·have h1 : ¬ kLt e.key lo ∧ ¬ kLt hi e.key ∧ e.live t := by simpa [inR] using hi2
  rw [h e he h1.2.2]; rfl
theorem kept_zero {l : List El} (hG : Good l) (keep : List Int) : runErr (keptR l keep) = 0 := runErr_zero.2 (kept_good hG keep)
/-- What is kept reads as all did. -/
theorem kept_reads {l : List El} (hG : Good l) {keep : List Int} {t : Int} (ht : t ∈ keep ∨ t = 2147483647) (k lo hi : Int × Int × Int) :
    atErr (keptR l keep) k t = atErr l k t ∧ atVal (keptR l keep) k t = atVal l k t ∧ rgErr (keptR l keep) lo hi = rgErr l lo hi ∧ rangeR (keptR l keep) lo hi t = rangeR l lo hi t := by
  have h : ∀ e ∈ l, e.live t → isKept keep e = true := fun e he hl => by
    rcases ht with ht | ht
    · exact kept_of ht hl
    · subst ht; exact kept_now (hG.2.1 e he) hl
  have h0 := runErr_zero.2 hG
  have h1 := kept_zero hG keep
  unfold atErr atVal askErr1 rgErr
  rw [h0, h1, kept_at h, kept_range h]
  exact ⟨rfl, rfl, rfl, rfl⟩
theorem kept_len (l : List El) (keep : List Int) : (keptR l keep).length ≤ l.length := List.length_filter_le _ _
open Go.RowKit
def FIX {α : Type} (q : α → Bool) (l : List α) (r : Int) : Prop := (r = -1 ∧ ∀ e ∈ l, q e = false) ∨ (∃ (i : Nat) (h : i < l.length), r = i ∧ q l[i] = true ∧ ∀ j (hj : j < l.length), j < i → q l[j] = false)
theorem FIX_ex {α : Type} (q : α → Bool) (l : List α) : ∃ r, FIX q l r := by
 have E : ∀ n, n ≤ l.length → (∃ (i : Nat) (h : i < l.length), q l[i] = true ∧ ∀ j (hj : j < l.length), j < i → q l[j] = false) ∨ ∀ j (hj : j < l.length), j < n → q l[j] = false := fun n => by
  induction n with
  |zero => intro _; right; intro j hj h0; omega
  |succ n ih =>
   intro hn
   rcases ih (by omega) with h | h
   ·exact .inl h
   ·cases hp : q l[n]
    ·right; intro j hj h1
     rcases Nat.lt_or_ge j n with h2 | h2
     ·exact h j hj h2
     ·rw [show l[j] = l[n] from by congr 1; omega]; exact hp
    ·exact .inl ⟨n, by omega, hp, h⟩
 rcases E l.length (Nat.le_refl _) with ⟨i, h, h1, h2⟩ | h
 ·exact ⟨i, .inr ⟨i, h, rfl, h1, h2⟩⟩
 ·exact ⟨-1, .inl ⟨rfl, fun e he => by obtain ⟨j, hj, rfl⟩ := List.getElem_of_mem he; exact h j hj hj⟩⟩
theorem FIX.any {α : Type} {q : α → Bool} {l : List α} {r : Int} (h : FIX q l r) : (0 ≤ r ∧ l.any q = true) ∨ (r = -1 ∧ l.any q = false) := by
 rcases h with ⟨h1, h2⟩ | ⟨i, h1, h2, h3, -⟩
 ·exact .inr ⟨h1, List.any_eq_false.2 fun e he => by simp [h2 e he]⟩
 ·exact .inl ⟨by omega, List.any_eq_true.2 ⟨_, List.getElem_mem h1, h3⟩⟩
open Go.RowKit
def SlEnd (l : List El) (n : Int) (w : World) (e : Ending) (w' : World) : Prop := ∃ v, e = .returned (.tuple #[v, .int .i64 n]) ∧ Sl w' v l ∧ Calm w w'
theorem OwnR.sl {base : Nat} {w : World} {v : Value} {l : List El} (h : OwnR base w v l) (hw : ∀ e ∈ l, e.wf) : Sl w v l := by
 obtain ⟨A, c, hv, h1, h2, h3⟩ := h.lies hw
 exact ⟨A, c, hv, by omega, h3⟩
theorem inR_iff (p o f m g : Int) (s : ByteArray) (p' o' f' p2 o2 f2 t : Int) : inR (p', o', f') (p2, o2, f2) t ⟨p, o, f, m, g, s⟩ = true ↔ kcmp p' o' f' p o f ≤ 0 ∧ kcmp p o f p2 o2 f2 ≤ 0 ∧ liveP m g t := by
 unfold inR
 rw [decide_eq_true_eq]
 have h1 : kLt (p, o, f) (p', o', f') ↔ kcmp p' o' f' p o f = 1 := kcmp_kGt.symm
 have h2 : kLt (p2, o2, f2) (p, o, f) ↔ kcmp p o f p2 o2 f2 = 1 := kcmp_kGt.symm
 simp only [El.key, El.live]
 rw [h1, h2]
 rcases kcmp_or p' o' f' p o f with h | h | h <;> rcases kcmp_or p o f p2 o2 f2 with h' | h' | h' <;> simp [h, h']
set_option maxHeartbeats 8000000 in
theorem runRange_any (A : Option Addr) (d : Nat) (l : List El) (p' o' f' p2 o2 f2 t : Int) (w : World) (hn : l.length ≤ 9223372036854775807) (hL : Lies w A l) :
    Calls Try.prog 20 #[.slice A l.length d, .agg #[.int .i64 p', .int .i64 o', .int .i64 f'], .agg #[.int .i64 p2, .int .i64 o2, .int .i64 f2], .int .i64 t] w (SlEnd (if rgErr l (p', o', f') (p2, o2, f2) = 0 then rangeR l (p', o', f') (p2, o2, f2) t else []) (rgErr l (p', o', f') (p2, o2, f2)) w) := by
  have cC : ∀ u, Calm w u → Calls Try.prog 40 #[.slice A l.length d] u fun e w' => e = .returned (.int .i64 (runErr l)) ∧ Calm u w' := fun u hu => runCheck_any A d l u hn (hL.calm hu)
  have cK := keyCheck_any p' o' f'
  have cK2 := keyCheck_any p2 o2 f2
  have hx : ((w.alloc (.cells #[.int .i64 p', .int .i64 o', .int .i64 f'] 45)).alloc (.cells #[.int .i64 p2, .int .i64 o2, .int .i64 f2] 45)).heap[w.heap.size]? = some (.cells #[.int .i64 p', .int .i64 o', .int .i64 f'] 45 (0, 0)) := heap_past _ (heap_new _ _)
  have hy : ((w.alloc (.cells #[.int .i64 p', .int .i64 o', .int .i64 f'] 45)).alloc (.cells #[.int .i64 p2, .int .i64 o2, .int .i64 f2] 45)).heap[w.heap.size + 1]? = some (.cells #[.int .i64 p2, .int .i64 o2, .int .i64 f2] 45 (0, 0)) := by simpa using heap_new (w.alloc (.cells #[.int .i64 p', .int .i64 o', .int .i64 f'] 45)) (.cells #[.int .i64 p2, .int .i64 o2, .int .i64 f2] 45)
  have hu := ((Calm.refl w).alloc (.cells #[.int .i64 p', .int .i64 o', .int .i64 f'] 45)).alloc (.cells #[.int .i64 p2, .int .i64 o2, .int .i64 f2] 45)
  by_cases he : runErr l = 0
  rotate_left
  · have e1 : rgErr l (p', o', f') (p2, o2, f2) = runErr l := by simp [rgErr, he]
    rw [e1, if_neg he]
    have b1 : (runErr l != 0) = true := by simpa using he
    clear he e1 hL cK cK2
    go_enter Try.func20, Try.ntmps20
    go_wp2_with (go_at_call 40; refine (cC _ hu).mono ?_; rintro e w1 ⟨rfl, hb1⟩; replace hx := (hb1.block (row3 hx).2.2.2).trans hx; replace hy := (hb1.block (row3 hy).2.2.2).trans hy; replace hu := hu.call hb1; clear hb1; obtain ⟨x0, x1, x2, hxs⟩ := row3 hx; obtain ⟨y0, y1, y2, hys⟩ := row3 hy)
    go_ret2
    exact ⟨_, rfl, Sl.nil _ _ _, hu⟩
  have hG := runErr_zero.1 he
  rw [he] at cC
  by_cases hk : keyErr p' o' f' = 0
  rotate_left
  · have e1 : rgErr l (p', o', f') (p2, o2, f2) = keyErr p' o' f' := by simp [rgErr, he, kErr, hk]
    rw [e1, if_neg hk]
    have b1 : (keyErr p' o' f' != 0) = true := by simpa using hk
    clear he hk e1 hL hG cK2
    go_enter Try.func20, Try.ntmps20
    go_wp2_with (first
      | (go_at_call 40; refine (cC _ hu).mono ?_; rintro e w1 ⟨rfl, hb1⟩; replace hx := (hb1.block (row3 hx).2.2.2).trans hx; replace hy := (hb1.block (row3 hy).2.2.2).trans hy; replace hu := hu.call hb1; clear hb1; obtain ⟨x0, x1, x2, hxs⟩ := row3 hx; obtain ⟨y0, y1, y2, hys⟩ := row3 hy)
      | (go_at_call 41; refine (cK _).mono ?_; rintro e w1 ⟨rfl, hb1⟩; replace hx := (hb1.block (row3 hx).2.2.2).trans hx; replace hy := (hb1.block (row3 hy).2.2.2).trans hy; replace hu := hu.call hb1; clear hb1; obtain ⟨x0, x1, x2, hxs⟩ := row3 hx; obtain ⟨y0, y1, y2, hys⟩ := row3 hy))
    go_ret2
    exact ⟨_, rfl, Sl.nil _ _ _, hu⟩
  by_cases hk2 : keyErr p2 o2 f2 = 0
  rotate_left
  · have e1 : rgErr l (p', o', f') (p2, o2, f2) = keyErr p2 o2 f2 := by simp [rgErr, he, kErr, hk]
    rw [e1, if_neg hk2]
    rw [hk] at cK
    have b1 : (keyErr p2 o2 f2 != 0) = true := by simpa using hk2
    clear he hk hk2 e1 hL hG
    go_enter Try.func20, Try.ntmps20
    go_wp2_with (first
      | (go_at_call 40; refine (cC _ hu).mono ?_; rintro e w1 ⟨rfl, hb1⟩; replace hx := (hb1.block (row3 hx).2.2.2).trans hx; replace hy := (hb1.block (row3 hy).2.2.2).trans hy; replace hu := hu.call hb1; clear hb1; obtain ⟨x0, x1, x2, hxs⟩ := row3 hx; obtain ⟨y0, y1, y2, hys⟩ := row3 hy)
      | (go_at_call 41; refine (cK _).mono ?_; rintro e w1 ⟨rfl, hb1⟩; replace hx := (hb1.block (row3 hx).2.2.2).trans hx; replace hy := (hb1.block (row3 hy).2.2.2).trans hy; replace hu := hu.call hb1; clear hb1; obtain ⟨x0, x1, x2, hxs⟩ := row3 hx; obtain ⟨y0, y1, y2, hys⟩ := row3 hy; clear cK)
      | (go_at_call 41; refine (cK2 _).mono ?_; rintro e w1 ⟨rfl, hb1⟩; replace hx := (hb1.block (row3 hx).2.2.2).trans hx; replace hy := (hb1.block (row3 hy).2.2.2).trans hy; replace hu := hu.call hb1; clear hb1; obtain ⟨x0, x1, x2, hxs⟩ := row3 hx; obtain ⟨y0, y1, y2, hys⟩ := row3 hy))
    go_ret2
    exact ⟨_, rfl, Sl.nil _ _ _, hu⟩
  have e1 : rgErr l (p', o', f') (p2, o2, f2) = 0 := by simp [rgErr, he, kErr, hk, hk2]
  rw [e1, if_pos rfl]
  rw [hk] at cK
  rw [hk2] at cK2
  have hn4 : l.length ≤ 400 := hG.1
  clear he hk hk2 e1 hG
  go_enter Try.func20, Try.ntmps20
  go_wp2_with (first
    | (go_at_call 40; refine (cC _ hu).mono ?_; rintro e w1 ⟨rfl, hb1⟩; replace hx := (hb1.block (row3 hx).2.2.2).trans hx; replace hy := (hb1.block (row3 hy).2.2.2).trans hy; replace hu := hu.call hb1; clear hb1; obtain ⟨x0, x1, x2, hxs⟩ := row3 hx; obtain ⟨y0, y1, y2, hys⟩ := row3 hy; clear cC)
    | (go_at_call 41; refine (cK _).mono ?_; rintro e w1 ⟨rfl, hb1⟩; replace hx := (hb1.block (row3 hx).2.2.2).trans hx; replace hy := (hb1.block (row3 hy).2.2.2).trans hy; replace hu := hu.call hb1; clear hb1; obtain ⟨x0, x1, x2, hxs⟩ := row3 hx; obtain ⟨y0, y1, y2, hys⟩ := row3 hy; clear cK)
    | (go_at_call 41; refine (cK2 _).mono ?_; rintro e w1 ⟨rfl, hb1⟩; replace hx := (hb1.block (row3 hx).2.2.2).trans hx; replace hy := (hb1.block (row3 hy).2.2.2).trans hy; replace hu := hu.call hb1; clear hb1; obtain ⟨x0, x1, x2, hxs⟩ := row3 hx; obtain ⟨y0, y1, y2, hys⟩ := row3 hy; clear cK2))
  have hRL : ∀ k, (rangeR (l.take k) (p', o', f') (p2, o2, f2) t).length ≤ 400 := fun k => by
    have h1 := rangeR_le (l.take k) (p', o', f') (p2, o2, f2) t
    have h2 : (l.take k).length ≤ l.length := List.length_take_le' _ _
    omega
  replace hL := hL.calm hu
  clear x0 x1 x2 y0 y1 y2 hxs hys
  obtain ⟨w3, hw3⟩ : ∃ w3 : World, w3 = w1 := ⟨_, rfl⟩
  subst hw3
  go_loopw [13, 33] (fun v i wr => ∃ k : Nat, k ≤ l.length ∧ i = .int .i64 k ∧ Calm w3 wr ∧ Hid (OwnR w3.heap.size wr v (rangeR (l.take k) (p', o', f') (p2, o2, f2) t))) (fun _ i _ => l.length - (intOf i).toNat)
  case atStart => exact ⟨0, Nat.zero_le _, rfl, Calm.refl _, show OwnR _ _ _ _ from OwnR.nil _ _⟩
  case round =>
    obtain ⟨k, hk, rfl, hur, ho⟩ := hrel
    by_cases hlt : k < l.length
    rotate_left
    · have K : Hid (rangeR (l.take k) (p', o', f') (p2, o2, f2) t = rangeR l (p', o', f') (p2, o2, f2) t) := by show _ = _; rw [List.take_of_length_le (by omega)]
      rw [K.out] at ho
      have hS := ho.out.sl fun e he => hL.1 e (List.mem_filter.1 he).1
      replace hur := hu.call hur
      clear K ho
      go_wp2_with fail
      go_ret2
      exact ⟨_, rfl, hS, hur⟩
    replace hx := (hur.block (row3 hx).2.2.2).trans hx
    replace hy := (hur.block (row3 hy).2.2.2).trans hy
    obtain ⟨b, q, p, o, f, m, g, s, rfl, hb, HE, hm, c0, c1, c2, c3, c4, c5⟩ := (hL.calm hur).get hlt
    have hT := rangeR_take HE.out (p', o', f') (p2, o2, f2) t
    have hI := inR_iff p o f m g s p' o' f' p2 o2 f2 t
    have hz : (wr.alloc (.cells #[.int .i64 p, .int .i64 o, .int .i64 f, .int .i64 m, .int .i64 g, .string s] 52)).heap[wr.heap.size]? = some (.cells #[.int .i64 p, .int .i64 o, .int .i64 f, .int .i64 m, .int .i64 g, .string s] 52 (0, 0)) := heap_new _ _
    replace hx := heap_past (.cells #[.int .i64 p, .int .i64 o, .int .i64 f, .int .i64 m, .int .i64 g, .string s] 52) hx
    replace hy := heap_past (.cells #[.int .i64 p, .int .i64 o, .int .i64 f, .int .i64 m, .int .i64 g, .string s] 52) hy
    replace ho := Lib.hid (ho.out.calm ((Calm.refl wr).alloc (.cells #[.int .i64 p, .int .i64 o, .int .i64 f, .int .i64 m, .int .i64 g, .string s] 52)))
    replace hur := hur.alloc (.cells #[.int .i64 p, .int .i64 o, .int .i64 f, .int .i64 m, .int .i64 g, .string s] 52)
    have hRk := hRL k
    obtain ⟨x0, x1, x2, hxs⟩ := row3 hx
    obtain ⟨y0, y1, y2, hys⟩ := row3 hy
    obtain ⟨z0, z1, z2, z3, z4, z5, hzs⟩ := row6 hz
    clear HE hRL hL
    have cA := cmp_any p' o' f' p o f
    have cB := cmp_any p o f p2 o2 f2
    have cL := live_any p o f m g t s
    generalize kcmp p' o' f' p o f = k1 at cA hI
    generalize kcmp p o f p2 o2 f2 = k2 at cB hI
    by_cases hin : inR (p', o', f') (p2, o2, f2) t ⟨p, o, f, m, g, s⟩ = true
    · rw [if_pos hin] at hT
      obtain ⟨h1, h2, h3⟩ := hI.1 hin
      rw [decide_eq_true h3] at cL
      have HT := Lib.hid hT
      clear hI hin h3 hT
      go_wp2_with (first
        | (go_at_call 42; refine (cA _).mono ?_; rintro e w1 ⟨rfl, hb1⟩; replace hx := (hb1.block (row3 hx).2.2.2).trans hx; replace hy := (hb1.block (row3 hy).2.2.2).trans hy; replace hz := (hb1.block (row6 hz).2.2.2.2.2.2).trans hz; replace ho := Lib.hid (ho.out.calm hb1); replace hur := hur.call hb1; clear hb1; obtain ⟨x0, x1, x2, hxs⟩ := row3 hx; obtain ⟨y0, y1, y2, hys⟩ := row3 hy; obtain ⟨z0, z1, z2, z3, z4, z5, hzs⟩ := row6 hz; clear cA)
        | (go_at_call 42; refine (cB _).mono ?_; rintro e w1 ⟨rfl, hb1⟩; replace hx := (hb1.block (row3 hx).2.2.2).trans hx; replace hy := (hb1.block (row3 hy).2.2.2).trans hy; replace hz := (hb1.block (row6 hz).2.2.2.2.2.2).trans hz; replace ho := Lib.hid (ho.out.calm hb1); replace hur := hur.call hb1; clear hb1; obtain ⟨x0, x1, x2, hxs⟩ := row3 hx; obtain ⟨y0, y1, y2, hys⟩ := row3 hy; obtain ⟨z0, z1, z2, z3, z4, z5, hzs⟩ := row6 hz; clear cB)
        | (go_at_call 43; refine (cL _).mono ?_; rintro e w1 ⟨rfl, hb1⟩; replace hx := (hb1.block (row3 hx).2.2.2).trans hx; replace hy := (hb1.block (row3 hy).2.2.2).trans hy; replace hz := (hb1.block (row6 hz).2.2.2.2.2.2).trans hz; replace ho := Lib.hid (ho.out.calm hb1); replace hur := hur.call hb1; clear hb1; obtain ⟨x0, x1, x2, hxs⟩ := row3 hx; obtain ⟨y0, y1, y2, hys⟩ := row3 hy; obtain ⟨z0, z1, z2, z3, z4, z5, hzs⟩ := row6 hz)
        | (at_builtin; refine wpList_append_el rfl _ _ rfl _ _ _ rfl (ho.out.calm ((Calm.refl _).alloc _)) _ _ p o f m g s _ rfl (heap_new _ _) (by omega) (by simp; exact Nat.le_succ_of_le hur.size) ?_; intro v' w9 ho9 hc9; have hur9 := hc9 _ (Nat.le_refl _) (hur.alloc _); rw [← HT.out] at ho9))
      have HO := Lib.hid ho9
      clear ho9 HT hc9
      go_roundw
      case rel => exact ⟨k + 1, by omega, by go_num, hur9, HO⟩
      case measure => simp [intOf]; omega
    · rw [if_neg hin, List.append_nil] at hT
      rw [← hT] at ho
      clear hT
      have hc : ¬ k1 ≤ 0 ∨ (k1 ≤ 0 ∧ ¬ k2 ≤ 0) ∨ (k1 ≤ 0 ∧ k2 ≤ 0 ∧ ¬ liveP m g t) := by
        by_cases a1 : k1 ≤ 0
        · by_cases a2 : k2 ≤ 0
          · exact .inr (.inr ⟨a1, a2, fun a3 => hin (hI.2 ⟨a1, a2, a3⟩)⟩)
          · exact .inr (.inl ⟨a1, a2⟩)
        · exact .inl a1
      clear hI hin
      rcases hc with h1 | ⟨h1, h2⟩ | ⟨h1, h2, h3⟩
      all_goals
        try rw [decide_eq_false h3] at cL
        try clear h3
        go_wp2_with (first
          | (go_at_call 42; refine (cA _).mono ?_; rintro e w1 ⟨rfl, hb1⟩; replace hx := (hb1.block (row3 hx).2.2.2).trans hx; replace hy := (hb1.block (row3 hy).2.2.2).trans hy; replace hz := (hb1.block (row6 hz).2.2.2.2.2.2).trans hz; replace ho := Lib.hid (ho.out.calm hb1); replace hur := hur.call hb1; clear hb1; obtain ⟨x0, x1, x2, hxs⟩ := row3 hx; obtain ⟨y0, y1, y2, hys⟩ := row3 hy; obtain ⟨z0, z1, z2, z3, z4, z5, hzs⟩ := row6 hz; clear cA)
          | (go_at_call 42; refine (cB _).mono ?_; rintro e w1 ⟨rfl, hb1⟩; replace hx := (hb1.block (row3 hx).2.2.2).trans hx; replace hy := (hb1.block (row3 hy).2.2.2).trans hy; replace hz := (hb1.block (row6 hz).2.2.2.2.2.2).trans hz; replace ho := Lib.hid (ho.out.calm hb1); replace hur := hur.call hb1; clear hb1; obtain ⟨x0, x1, x2, hxs⟩ := row3 hx; obtain ⟨y0, y1, y2, hys⟩ := row3 hy; obtain ⟨z0, z1, z2, z3, z4, z5, hzs⟩ := row6 hz; clear cB)
          | (go_at_call 43; refine (cL _).mono ?_; rintro e w1 ⟨rfl, hb1⟩; replace hx := (hb1.block (row3 hx).2.2.2).trans hx; replace hy := (hb1.block (row3 hy).2.2.2).trans hy; replace hz := (hb1.block (row6 hz).2.2.2.2.2.2).trans hz; replace ho := Lib.hid (ho.out.calm hb1); replace hur := hur.call hb1; clear hb1; obtain ⟨x0, x1, x2, hxs⟩ := row3 hx; obtain ⟨y0, y1, y2, hys⟩ := row3 hy; obtain ⟨z0, z1, z2, z3, z4, z5, hzs⟩ := row6 hz))
        go_roundw
        case rel => exact ⟨k + 1, by omega, by go_num, hur, ho⟩
        case measure => simp [intOf]; omega
open Go.RowKit
def EBx (B1 : Nat) (p o f m g : Int) (s : ByteArray) (w : World) : Prop := w.heap[B1]? = some (.cells #[.int .i64 p, .int .i64 o, .int .i64 f, .int .i64 m, .int .i64 g, .string s] 52 (0, 0))
theorem EBx.calm {B1 : Nat} {p o f m g : Int} {s : ByteArray} {w w' : World} (h : EBx B1 p o f m g s w) (hb : Calm w w') : EBx B1 p o f m g s w' := (hb.block (Array.getElem?_eq_some_iff.1 h).1).trans h
set_option maxHeartbeats 4000000 in
theorem ret1_any (B1 : Nat) (p o f m g t : Int) (s : ByteArray) (w : World) (hB : EBx B1 p o f m g s w) :
    Calls Try.prog 73 #[.int .i64 t, .pointer (some ⟨B1, 0, none⟩)] w fun e w' => e = .returned (.bool (decide (liveP m g t))) ∧ Calm w w' := by
  have hb := hB
  obtain ⟨x0, x1, x2, x3, x4, x5, hxs⟩ := row6 hb
  go_enter Try.func73, Try.ntmps73
  go_wp2_with (go_at_call 43; refine (live_any _ _ _ _ _ _ _ _).mono ?_; rintro e w1 ⟨rfl, hb1⟩)
  go_ret
  exact ⟨rfl, by repeat (first | (with_reducible exact Calm.refl _) | (with_reducible refine Calm.alloc ?_ _) | (with_reducible refine Calm.drew ?_) | (with_reducible refine Calm.drewN ?_ _) | (refine Calm.call ?_ (by with_reducible assumption)))⟩
set_option maxHeartbeats 4000000 in
theorem idxT_any (B1 : Nat) (A : Option Addr) (c : Nat) (l : List Int) (p o f m g r : Int) (s : ByteArray) (w : World) (hn : l.length ≤ 9223372036854775807) (hL : LiesI w A l) (hB : EBx B1 p o f m g s w) (hF : FIX (fun t => decide (liveP m g t)) l r) :
    Calls Try.prog 84 #[.slice A l.length c, .func (.func 73) #[] #[.pointer (some ⟨B1, 0, none⟩)]] w fun e w' => e = .returned (.int .i64 r) ∧ Calm w w' := by
  have HF := Lib.hid hF
  have C : ∀ (u : World) (t : Int), Calm w u → Calls Try.prog 73 (#[.int .i64 t] ++ #[.pointer (some ⟨B1, 0, none⟩)]) u fun e w' => e = .returned (.bool (decide (liveP m g t))) ∧ Calm u w' := fun u t hu => ret1_any B1 p o f m g t s u (hB.calm hu)
  clear hF hB
  go_enter Try.func84, Try.ntmps84
  go_wp2_with fail
  go_loopw [8] (fun i wr => ∃ k : Nat, k ≤ l.length ∧ i = .int .i64 k ∧ Calm w wr ∧ Hid (∀ j (hj : j < l.length), j < k → decide (liveP m g l[j]) = false)) (fun i _ => l.length - (intOf i).toNat)
  case atStart => exact ⟨0, Nat.zero_le _, rfl, Calm.refl _, show ∀ _, _ from fun j hj h => absurd h (Nat.not_lt_zero _)⟩
  case round =>
    obtain ⟨k, hk, rfl, hu, hN⟩ := hrel
    by_cases hlt : k < l.length
    rotate_left
    · have K : Hid (r = -1) := by
        rcases HF.out with h | ⟨i, hi, _, h2, _⟩
        · exact h.1
        · have h2 : decide (liveP m g l[i]) = true := h2
          rw [hN.out i hi (by omega)] at h2; cases h2
      clear C
      go_wp2_with fail
      go_ret
      exact ⟨by rw [K.out]; rfl, hu⟩
    obtain ⟨b, q, t, rfl, hb, HE, c0⟩ := (hL.calm hu).get hlt
    have HE2 := (List.getElem?_eq_some_iff.1 HE.out).2
    have hc := C wr t hu
    cases hp : decide (liveP m g t)
    · rw [hp] at hc
      have hN2 : Hid (∀ j (hj : j < l.length), j < k + 1 → decide (liveP m g l[j]) = false) := show ∀ _, _ from fun j hj h => by
        rcases Nat.lt_or_ge j k with h2 | h2
        · exact hN.out j hj h2
        · rw [show l[j] = l[k] from by congr 1; omega, HE2]; exact hp
      clear hp C HE2
      go_wp2_with (go_at_call 73; refine hc.mono ?_; rintro e w1 ⟨rfl, hb1⟩)
      go_roundw
      case rel => exact ⟨k + 1, by omega, by go_num, hu.call hb1, hN2⟩
      case measure => simp [intOf]; omega
    · rw [hp] at hc
      have K : Hid (r = k) := by
        rcases HF.out with h | ⟨i, hi, hr, h2, h3⟩
        · have : decide (liveP m g l[k]) = false := h.2 _ (List.getElem_mem hlt)
          rw [HE2, hp] at this; cases this
        · rw [hr]
          rcases Nat.lt_trichotomy i k with h4 | h4 | h4
          · have h2 : decide (liveP m g l[i]) = true := h2
            rw [hN.out i hi h4] at h2; cases h2
          · show _ = _; rw [h4]
          · have : decide (liveP m g l[k]) = false := h3 k hlt h4
            rw [HE2, hp] at this; cases this
      clear hp C HE2
      go_wp2_with (go_at_call 73; refine hc.mono ?_; rintro e w1 ⟨rfl, hb1⟩)
      go_ret
      exact ⟨by rw [K.out]; rfl, hu.call hb1⟩
set_option maxHeartbeats 4000000 in
theorem hasT_any (B1 : Nat) (A : Option Addr) (c : Nat) (l : List Int) (p o f m g : Int) (s : ByteArray) (w : World) (hn : l.length ≤ 9223372036854775807) (hL : LiesI w A l) (hB : EBx B1 p o f m g s w) :
    Calls Try.prog 72 #[.slice A l.length c, .func (.func 73) #[] #[.pointer (some ⟨B1, 0, none⟩)]] w fun e w' => e = .returned (.bool (l.any fun t => decide (liveP m g t))) ∧ Calm w w' := by
  obtain ⟨r, hr⟩ := FIX_ex (fun t => decide (liveP m g t)) l
  have cI := idxT_any B1 A c l p o f m g r s w hn hL hB hr
  have hany := hr.any
  generalize (l.any fun t => decide (liveP m g t)) = R at hany ⊢
  clear hr hL hB
  rcases hany with ⟨h1, rfl⟩ | ⟨rfl, rfl⟩
  · go_enter Try.func72, Try.ntmps72
    go_wp2_with (go_at_call 84; refine cI.mono ?_; rintro e w1 ⟨rfl, hb1⟩)
    go_ret
    exact ⟨ret_bool (by simp), hb1⟩
  · go_enter Try.func72, Try.ntmps72
    go_wp2_with (go_at_call 84; refine cI.mono ?_; rintro e w1 ⟨rfl, hb1⟩)
    go_ret
    exact ⟨rfl, hb1⟩
set_option maxHeartbeats 4000000 in
theorem retained_any (A : Option Addr) (c : Nat) (l : List Int) (p o f m g : Int) (s : ByteArray) (w : World) (hn : l.length ≤ 9223372036854775807) (hL : LiesI w A l) :
    Calls Try.prog 53 #[.agg #[.int .i64 p, .int .i64 o, .int .i64 f, .int .i64 m, .int .i64 g, .string s], .slice A l.length c] w fun e w' => e = .returned (.bool (isKept l ⟨p, o, f, m, g, s⟩)) ∧ Calm w w' := by
  have hx := heap_new w (.cells #[.int .i64 p, .int .i64 o, .int .i64 f, .int .i64 m, .int .i64 g, .string s] 52)
  have hu := (Calm.refl w).alloc (.cells #[.int .i64 p, .int .i64 o, .int .i64 f, .int .i64 m, .int .i64 g, .string s] 52)
  have hL2 := Lib.hid (hL.calm hu)
  have hR : isKept l ⟨p, o, f, m, g, s⟩ = (decide (g = 0) || l.any fun t => decide (liveP m g t)) := rfl
  obtain ⟨R, hRR⟩ : ∃ R, (l.any fun t => decide (liveP m g t)) = R := ⟨_, rfl⟩
  rw [hRR] at hR
  have HRR := Lib.hid hRR
  clear hRR
  generalize isKept l ⟨p, o, f, m, g, s⟩ = q at hR ⊢
  clear hL
  by_cases h0 : g = 0
  · have hq : q = true := by rw [hR, decide_eq_true h0]; rfl
    subst hq
    subst h0
    clear hR
    obtain ⟨x0, x1, x2, x3, x4, x5, hxs⟩ := row6 hx
    go_enter Try.func53, Try.ntmps53
    go_wp2_with fail
    go_ret
    exact ⟨rfl, hu⟩
  · have hq : q = R := by rw [hR, decide_eq_false h0]; rfl
    subst hq
    clear hR
    have cG : ∀ u, Calm (w.alloc (.cells #[.int .i64 p, .int .i64 o, .int .i64 f, .int .i64 m, .int .i64 g, .string s] 52)) u → Calls Try.prog 72 #[.slice A l.length c, .func (.func 73) #[] #[.pointer (some ⟨w.heap.size, 0, none⟩)]] u fun e w' => e = .returned (.bool q) ∧ Calm u w' := fun u hv => by
      have := hasT_any w.heap.size A c l p o f m g s u hn (hL2.out.calm hv) (EBx.calm hx hv)
      rw [HRR.out] at this
      exact this
    obtain ⟨x0, x1, x2, x3, x4, x5, hxs⟩ := row6 hx
    clear hx
    have e1 : decide (g = 0) = false := decide_eq_false h0
    go_enter Try.func53, Try.ntmps53
    go_wp2_with (go_at_call 72; refine (cG _ (by repeat (first | (with_reducible exact Calm.refl _) | (with_reducible refine Calm.alloc ?_ _) | (with_reducible refine Calm.drew ?_) | (with_reducible refine Calm.drewN ?_ _) | (refine Calm.call ?_ (by with_reducible assumption))))).mono ?_; rintro e w1 ⟨rfl, hb1⟩)
    go_ret
    exact ⟨ret_bool (by simp [h0]), hu.call hb1⟩
open Go.RowKit
set_option maxHeartbeats 8000000 in
theorem without_any (A A2 : Option Addr) (d d2 : Nat) (l : List El) (keep : List Int) (n : Int) (w : World) (hn : n ≤ 9223372036854775807) (hl : l.length ≤ 3200) (hL : Lies w A l) (hk2 : keep.length ≤ 9223372036854775807) (hK : LiesI w A2 keep) :
    Calls Try.prog 39 #[.slice A l.length d, .slice A2 keep.length d2, .int .i64 n] w fun e w' => ∃ v, e = .returned v ∧ OwnR w.heap.size w' v (withoutR l keep n) ∧ Calm w w' := by
  have HL := Lib.hid hL
  have HK := Lib.hid hK
  clear hL hK
  go_enter Try.func39, Try.ntmps39
  go_wp2_with fail
  go_loopw [2, 7, 12] (fun nv v i wr => ∃ (k : Nat) (n' : Int) (pre : List El), k ≤ l.length ∧ nv = .int .i64 n' ∧ i = .int .i64 k ∧ n' ≤ 9223372036854775807 ∧ pre.length ≤ k ∧ Calm w wr ∧ Hid (OwnR w.heap.size wr v pre) ∧ Hid (pre ++ withoutR (l.drop k) keep n' = withoutR l keep n)) (fun _ _ i _ => l.length - (intOf i).toNat)
  case atStart => exact ⟨0, n, [], Nat.zero_le _, rfl, rfl, hn, Nat.le_refl _, Calm.refl _, show OwnR _ _ _ _ from OwnR.nil _ _, show _ = _ from rfl⟩
  case round =>
    obtain ⟨k, n', pre, hk, rfl, rfl, hn', hpl, hur, ho, hW⟩ := hrel
    by_cases hlt : k < l.length
    rotate_left
    · have K : Hid (pre = withoutR l keep n) := show _ = _ by
        have := hW.out
        rw [List.drop_eq_nil_of_le (by omega)] at this
        simpa [withoutR] using this
      rw [K.out] at ho
      clear K hW
      go_wp2_with fail
      go_ret
      exact ⟨_, rfl, ho.out, hur⟩
    obtain ⟨b, q, p, o, f, m, g, s, rfl, hb, HE, hm, c0, c1, c2, c3, c4, c5⟩ := (HL.out.calm hur).get hlt
    have hW2 := hW.out
    rw [List.drop_eq_getElem_cons hlt, (List.getElem?_eq_some_iff.1 HE.out).2] at hW2
    rw [without_cons] at hW2
    have hz : (wr.alloc (.cells #[.int .i64 p, .int .i64 o, .int .i64 f, .int .i64 m, .int .i64 g, .string s] 52)).heap[wr.heap.size]? = some (.cells #[.int .i64 p, .int .i64 o, .int .i64 f, .int .i64 m, .int .i64 g, .string s] 52 (0, 0)) := heap_new _ _
    replace ho := Lib.hid (ho.out.calm ((Calm.refl wr).alloc (.cells #[.int .i64 p, .int .i64 o, .int .i64 f, .int .i64 m, .int .i64 g, .string s] 52)))
    replace hur := hur.alloc (.cells #[.int .i64 p, .int .i64 o, .int .i64 f, .int .i64 m, .int .i64 g, .string s] 52)
    obtain ⟨z0, z1, z2, z3, z4, z5, hzs⟩ := row6 hz
    have cR := fun u (hu : Calm w u) => retained_any A2 d2 keep p o f m g s u hk2 (HK.out.calm hu)
    clear hW
    by_cases h0 : 0 < n'
    rotate_left
    · rw [if_neg (fun h => h0 h.1)] at hW2
      have HW := Lib.hid hW2
      clear hW2 cR
      clear z0 z1 z2 z3 z4 z5 hzs
      go_upto_region 5 with fail
      generalize wr.alloc (.cells #[.int .i64 p, .int .i64 o, .int .i64 f, .int .i64 m, .int .i64 g, .string s] 52) = wc at hur ho hz ⊢
      obtain ⟨z0, z1, z2, z3, z4, z5, hzs⟩ := row6 hz
      go_wp2_with (at_builtin; refine wpList_append_el rfl _ _ rfl _ _ _ rfl (ho.out.calm ((Calm.refl _).alloc _)) _ _ p o f m g s _ rfl (heap_new _ _) (by omega) (by have := hur.size; simp at this ⊢; omega) ?_; intro v' w9 ho9 hc9; have hur9 := hc9 _ (Nat.le_refl _) (hur.alloc _))
      have HO := Lib.hid ho9
      clear ho9 hc9
      go_roundw
      case rel => exact ⟨k + 1, n', pre ++ [⟨p, o, f, m, g, s⟩], by omega, rfl, by go_num, hn', by simp; omega, hur9, HO, show _ = _ by rw [← HW.out]; simp⟩
      case measure => simp [intOf]; omega
    · cases hkp : isKept keep ⟨p, o, f, m, g, s⟩
      · rw [if_pos ⟨h0, hkp⟩] at hW2
        have HW := Lib.hid hW2
        rw [hkp] at cR
        clear hW2 hkp
        go_wp2_with (go_at_call 53; refine (cR _ hur).mono ?_; rintro e w1 ⟨rfl, hb1⟩; replace ho := Lib.hid (ho.out.calm hb1); replace hur := hur.call hb1; clear hb1)
        go_roundw
        case rel => exact ⟨k + 1, n' - 1, pre, by omega, by go_num, by go_num, by omega, by omega, hur, ho, show _ = _ from HW.out⟩
        case measure => simp [intOf]; omega
      · rw [if_neg (fun h => by rw [hkp] at h; cases h.2)] at hW2
        have HW := Lib.hid hW2
        rw [hkp] at cR
        clear hW2 hkp
        go_wp2_with (first
          | (go_at_call 53; refine (cR _ hur).mono ?_; rintro e w1 ⟨rfl, hb1⟩; replace hz := (hb1.block (row6 hz).2.2.2.2.2.2).trans hz; replace ho := Lib.hid (ho.out.calm hb1); replace hur := hur.call hb1; clear hb1; obtain ⟨z0, z1, z2, z3, z4, z5, hzs⟩ := row6 hz)
          | (at_builtin; refine wpList_append_el rfl _ _ rfl _ _ _ rfl (ho.out.calm ((Calm.refl _).alloc _)) _ _ p o f m g s _ rfl (heap_new _ _) (by omega) (by have := hur.size; simp at this ⊢; omega) ?_; intro v' w9 ho9 hc9; have hur9 := hc9 _ (Nat.le_refl _) (hur.alloc _)))
        have HO := Lib.hid ho9
        clear ho9 hc9
        go_roundw
        case rel => exact ⟨k + 1, n', pre ++ [⟨p, o, f, m, g, s⟩], by omega, rfl, by go_num, hn', by simp; omega, hur9, HO, show _ = _ by rw [← HW.out]; simp⟩
        case measure => simp [intOf]; omega
open Go.RowKit
theorem OwnR.weaker {B B' : Nat} {w : World} {v : Value} {l : List El} (h : OwnR B w v l) (hb : B' ≤ B) : OwnR B' w v l := ⟨h.1, h.2.imp id fun ⟨g, cap, cur, h1, h2, h3⟩ => ⟨g, cap, cur, h1, Nat.le_trans hb h2, h3⟩⟩
def KpEnd (L : List El) (n : Int) (w : World) (e : Ending) (w' : World) : Prop := ∃ v, e = .returned (.tuple #[v, .int .i64 n]) ∧ OwnR w.heap.size w' v L ∧ Calm w w'
set_option maxHeartbeats 8000000 in
theorem pruneCheck_any (A A2 : Option Addr) (d d2 : Nat) (l : List El) (keep : List Int) (w : World) (hn : l.length ≤ 9223372036854775807) (hL : Lies w A l) (hk2 : keep.length ≤ 9223372036854775807) (hK : LiesI w A2 keep) :
    Calls Try.prog 38 #[.slice A l.length d, .slice A2 keep.length d2] w fun e w' => e = .returned (.int .i64 (keepErr l keep)) ∧ Calm w w' := by
  have cR := runCheck_any A d l w hn hL
  have HK := Lib.hid hK
  clear hL hK
  have hE : keepErr l keep = if runErr l = 0 then timesErr keep else runErr l := rfl
  generalize keepErr l keep = E at hE ⊢
  generalize runErr l = r at cR hE
  by_cases hr : r = 0
  rotate_left
  · rw [if_neg hr] at hE
    have b1 : (E != 0) = true := by rw [hE]; simpa using hr
    subst hE
    clear hr
    go_enter Try.func38, Try.ntmps38
    go_wp2_with (go_at_call 40; refine cR.mono ?_; rintro e w1 ⟨rfl, hb1⟩)
    go_ret
    exact ⟨rfl, hb1⟩
  rw [if_pos hr] at hE
  subst hr
  by_cases hbig : 20 < keep.length
  · have : E = 2 := by rw [hE]; unfold timesErr; rw [if_pos hbig]
    subst this
    clear hE
    go_enter Try.func38, Try.ntmps38
    go_wp2_with (go_at_call 40; refine cR.mono ?_; rintro e w1 ⟨rfl, hb1⟩)
    go_ret
    exact ⟨rfl, hb1⟩
  unfold timesErr at hE
  rw [if_neg hbig] at hE
  have HE := Lib.hid hE
  clear hE
  go_enter Try.func38, Try.ntmps38
  go_wp2_with (go_at_call 40; refine cR.mono ?_; rintro e w1 ⟨rfl, hb1⟩)
  go_loopw [18] (fun i wr => ∃ k : Nat, k ≤ keep.length ∧ i = .int .i64 k ∧ Calm w wr ∧ Hid (∀ j (hj : j < keep.length), j < k → 0 ≤ keep[j] ∧ keep[j] ≤ 2147483647)) (fun i _ => keep.length - (intOf i).toNat)
  case atStart => exact ⟨0, Nat.zero_le _, rfl, hb1, show ∀ _, _ from fun j hj h => absurd h (Nat.not_lt_zero _)⟩
  case round =>
    obtain ⟨k, hk, rfl, hu, hN⟩ := hrel
    by_cases hlt : k < keep.length
    rotate_left
    · have K : Hid (E = 0) := show _ = _ by
        rw [HE.out, if_pos]
        intro t ht
        obtain ⟨j, hj, rfl⟩ := List.getElem_of_mem ht
        exact hN.out j hj (by omega)
      go_wp2_with fail
      go_ret
      exact ⟨by rw [K.out]; rfl, hu⟩
    obtain ⟨b, q, t, rfl, hb, HT, c0⟩ := (HK.out.calm hu).get hlt
    have hTT := (List.getElem?_eq_some_iff.1 HT.out).2
    by_cases ht : 0 ≤ t ∧ t ≤ 2147483647
    rotate_left
    · have K : Hid (E = 9) := show _ = _ by
        rw [HE.out, if_neg]
        exact fun h => ht (h t (by rw [← hTT]; exact List.getElem_mem hlt))
      clear hTT
      have hc : t < 0 ∨ (¬ t < 0 ∧ 2147483647 < t) := by omega
      clear ht
      rcases hc with h1 | ⟨h1, h2⟩
      all_goals
        go_wp2_with fail
        go_ret
        exact ⟨by rw [K.out]; rfl, hu⟩
    · obtain ⟨t1, t2⟩ := ht
      have hN2 : Hid (∀ j (hj : j < keep.length), j < k + 1 → 0 ≤ keep[j] ∧ keep[j] ≤ 2147483647) := show ∀ _, _ from fun j hj h => by
        rcases Nat.lt_or_ge j k with h2 | h2
        · exact hN.out j hj h2
        · rw [show keep[j] = keep[k] from by congr 1; omega, hTT]; exact ⟨t1, t2⟩
      clear hTT
      have t1' : ¬ t < 0 := by omega
      have t2' : ¬ 2147483647 < t := by omega
      go_wp2_with fail
      go_roundw
      case rel => exact ⟨k + 1, by omega, by go_num, hu, hN2⟩
      case measure => simp [intOf]; omega
set_option maxHeartbeats 8000000 in
theorem kept_any (A A2 : Option Addr) (d d2 : Nat) (l : List El) (keep : List Int) (w : World) (hn : l.length ≤ 9223372036854775807) (hL : Lies w A l) (hk2 : keep.length ≤ 9223372036854775807) (hK : LiesI w A2 keep) :
    Calls Try.prog 19 #[.slice A l.length d, .slice A2 keep.length d2] w (KpEnd (if keepErr l keep = 0 then keptR l keep else []) (keepErr l keep) w) := by
  have cC := pruneCheck_any A A2 d d2 l keep w hn hL hk2 hK
  have cW : Good l → ∀ u, Calm w u → Calls Try.prog 39 #[.slice A l.length d, .slice A2 keep.length d2, .int .i64 l.length] u fun e w' => ∃ v, e = .returned v ∧ OwnR u.heap.size w' v (keptR l keep) ∧ Calm u w' := fun hG u hu => by
    have := without_any A A2 d d2 l keep l.length u (by omega) (by have := hG.1; omega) (hL.calm hu) hk2 (hK.calm hu)
    rw [without_all keep l _ (by omega)] at this
    exact this
  have hz : keepErr l keep = 0 → Good l := fun h => by
    unfold keepErr at h
    split at h
    · rename_i h0; exact runErr_zero.1 h0
    · rename_i h0; exact absurd h h0
  clear hL hK
  generalize keepErr l keep = E at cC hz ⊢
  generalize keptR l keep = R at cW ⊢
  by_cases hE : E = 0
  · rw [if_pos hE]
    have cW := cW (hz hE)
    subst hE
    clear hz
    go_enter Try.func19, Try.ntmps19
    go_wp2_with (first
      | (go_at_call 38; refine cC.mono ?_; rintro e w1 ⟨rfl, hb1⟩)
      | (go_at_call 39; refine (cW _ hb1).mono ?_; rintro e w2 ⟨v, rfl, ho, hb2⟩; have HO := Lib.hid ho; clear ho))
    go_ret2
    exact ⟨_, rfl, OwnR.weaker HO.out hb1.size, hb1.call hb2⟩
  · rw [if_neg hE]
    have b1 : (E != 0) = true := by simpa using hE
    clear hz cW hE
    go_enter Try.func19, Try.ntmps19
    go_wp2_with (go_at_call 38; refine cC.mono ?_; rintro e w1 ⟨rfl, hb1⟩)
    go_ret2
    exact ⟨_, rfl, OwnR.nil _ _, hb1⟩
open Go.RowKit
set_option maxHeartbeats 8000000 in
theorem equalI_any (A A' : Option Addr) (c c' : Nat) (l l' : List Int) (w : World) (hn : l.length ≤ 9223372036854775807) (hL : LiesI w A l) (hL' : LiesI w A' l') :
    Calls Try.prog 18 #[.slice A l.length c, .slice A' l'.length c'] w fun e w' => e = .returned (.bool (decide (l = l'))) ∧ Calm w w' := by
  by_cases hll : l.length = l'.length
  rotate_left
  · have hd : decide (l = l') = false := decide_eq_false fun h => hll (by rw [h])
    have hz : ¬ (l.length : Int) = (l'.length : Int) := by omega
    rw [hd]
    clear hd hll hL hL'
    go_enter Try.func18, Try.ntmps18
    go_wp2_with fail
    go_ret
    exact ⟨rfl, Calm.refl _⟩
  generalize hr : decide (l = l') = r
  have HR : Hid (decide (l = l') = r) := hr
  clear hr
  obtain ⟨n, hn1⟩ : ∃ n, n = l.length := ⟨_, rfl⟩
  have hn2 : n = l'.length := hn1.trans hll
  rw [← hn1, ← hn2]
  rw [← hn1] at hn
  have HN1 : Hid (n = l.length) := hn1
  have HN2 : Hid (n = l'.length) := hn2
  clear hn1 hn2 hll
  go_enter Try.func18, Try.ntmps18
  go_wp2_with fail
  go_loopw [13] (fun i wr => ∃ k : Nat, k ≤ n ∧ i = .int .i64 k ∧ Calm w wr ∧ Hid (∀ j, j < k → l[j]? = l'[j]?)) (fun i _ => n - (intOf i).toNat)
  case atStart => exact ⟨0, Nat.zero_le _, rfl, Calm.refl _, show ∀ _, _ from fun j h => absurd h (Nat.not_lt_zero _)⟩
  case round =>
    obtain ⟨k, hk, rfl, hu, hN⟩ := hrel
    by_cases hlt : k < n
    rotate_left
    · have K : Hid (r = true) := by
        rw [← HR.out]
        refine decide_eq_true (List.ext_getElem? fun j => ?_)
        rcases Nat.lt_or_ge j k with h | h
        · exact hN.out j h
        · rw [List.getElem?_eq_none (by rw [← HN1.out]; omega), List.getElem?_eq_none (by rw [← HN2.out]; omega)]
      clear HR
      go_wp2_with fail
      go_ret
      exact ⟨by rw [K.out]; rfl, hu⟩
    obtain ⟨b, q, x, rfl, hb, HE, c0⟩ := (hL.calm hu).get (by rw [← HN1.out]; exact hlt)
    obtain ⟨b', q', x', rfl, hb', HE', d0⟩ := (hL'.calm hu).get (by rw [← HN2.out]; exact hlt)
    have hiz : (k : Int) < (n : Int) := by omega
    have hDF : (x : Int) ≠ x' → l ≠ l' := fun h h2 => by
      have h3 := HE.out; rw [h2, HE'.out] at h3; injection h3 with h3; exact h h3.symm
    have hN1 : (x : Int) = x' → Hid (∀ j, j < k + 1 → l[j]? = l'[j]?) := fun h => show ∀ _, _ from fun j hj => by
      rcases Nat.lt_or_ge j k with h2 | h2
      · exact hN.out j h2
      · rw [show j = k by omega, HE.out, HE'.out, h]
    have HR2 := HR.out
    clear hL hL' HE HE'
    have hcs : (¬ x = x') ∨ (x = x') := by
      by_cases e0 : x = x' <;> simp [*]
    rcases hcs with h0 | h0
    · skip
      go_wp2_with fail
      refine wp_region_plan [.val (.slice (some ⟨b, q, none⟩) n c), .val (.int .i64 ((k : Int))), .val (.pointer (some ⟨b, q + k, none⟩)), .val (.int .i64 x), .val (.slice (some ⟨b', q', none⟩) n c'), .val (.int .i64 ((k : Int))), .val (.pointer (some ⟨b', q' + k, none⟩)), .val (.int .i64 x'), .val (.bool true)] (by kernel_rfl) (by kernel_rfl) (by kernel_rfl) ?_
      intro X
      iterate 9
        refine plan_val (by kernel_rfl) (fun u hu => ?_) ?_
        · obtain ⟨hc, hf, hz⟩ := hu.of_drew.facts
          go_simp
        simp only [Act.put, List.setIfInBounds_toArray, List.set_cons_zero, List.set_cons_succ, Nat.reduceAdd]
      refine plan_end ?_
      intro w' hB
      have hk := hB.calm.of_drew
      clear hB
      go_wp2_with fail
      go_ret
      exact ⟨ret_bool ((decide_eq_false (hDF (by simp [*]))).symm.trans HR2), hu.call hk⟩
    · skip
      subst h0
      have hN2 := hN1 rfl
      clear hN1 hDF
      go_wp2_with fail
      refine wp_region_plan [.val (.slice (some ⟨b, q, none⟩) n c), .val (.int .i64 ((k : Int))), .val (.pointer (some ⟨b, q + k, none⟩)), .val (.int .i64 x), .val (.slice (some ⟨b', q', none⟩) n c'), .val (.int .i64 ((k : Int))), .val (.pointer (some ⟨b', q' + k, none⟩)), .val (.int .i64 x), .val (.bool false)] (by kernel_rfl) (by kernel_rfl) (by kernel_rfl) ?_
      intro X
      iterate 9
        refine plan_val (by kernel_rfl) (fun u hu => ?_) ?_
        · obtain ⟨hc, hf, hz⟩ := hu.of_drew.facts
          go_simp
        simp only [Act.put, List.setIfInBounds_toArray, List.set_cons_zero, List.set_cons_succ, Nat.reduceAdd]
      refine plan_end ?_
      intro w' hB
      have hk := hB.calm.of_drew
      clear hB
      go_wp2_with fail
      go_roundw
      case rel => exact ⟨k + 1, by omega, by go_num, hu.call hk, hN2⟩
      case measure => simp [intOf]; omega
open Go.ChangeShapes Go.WideShapes Go.ChangeAt Go.RowKit
theorem fiT_in {l : List Sn} {x : ByteArray} (h : fiErr l x = 0) (hz : snErr l = 0) : fiT l x ∈ tmL l := by
 have hh : hitN l x = true := by
  unfold fiErr at h
  rw [if_pos hz] at h
  by_cases h2 : hitN l x = true
  ·exact h2
  ·rw [if_neg h2] at h; cases h
 obtain ⟨s, hs, -⟩ := hit_at hh
 unfold fiT
 rw [if_pos h, hs]
 exact tmL_mem.2 ⟨s, List.mem_of_getElem? hs, rfl⟩
theorem sl_at {u : World} {A : Option Addr} {n c : Nat} {M : List El} (h : Sl u (.slice A n c) M) : Lies u A M := by
 obtain ⟨A', c', h1, _, h3⟩ := h
 cases h1
 exact h3
theorem kept_wf {l : List El} {T : List Int} (h : ∀ e ∈ l, e.wf) : ∀ e ∈ (if keepErr l T = 0 then keptR l T else []), e.wf := by
 intro e he
 split at he
 ·exact h e (List.mem_filter.1 he).1
 ·simp at he
set_option maxHeartbeats 16000000 in
theorem snapKeeps_walk (A : Option Addr) (d : Nat) (l : List El) (B : Option Addr) (cb : Nat) (s : List Sn) (x : ByteArray) (p o f p2 o2 f2 : Int) (w : World) (hn : l.length ≤ 9223372036854775807) (hm : s.length ≤ 9223372036854775807) (hS : Szs s) (hL : Lies w A l) (hB : LiesN w B s) :
    Calls Try.prog 5 #[.slice A l.length d, .slice B s.length cb, .string x, .agg #[.int .i64 p, .int .i64 o, .int .i64 f], .agg #[.int .i64 p2, .int .i64 o2, .int .i64 f2]] w fun e w' => e = .returned (.bool true) ∧ Calm w w' := by
  have h0 : ((w.alloc (.cells #[.int .i64 p, .int .i64 o, .int .i64 f] 45 (0, 0))).alloc (.cells #[.int .i64 p2, .int .i64 o2, .int .i64 f2] 45 (0, 0))).heap[w.heap.size]? = some (.cells #[.int .i64 p, .int .i64 o, .int .i64 f] 45 (0, 0)) := heap_past _ (heap_new _ _)
  have h1 : ((w.alloc (.cells #[.int .i64 p, .int .i64 o, .int .i64 f] 45 (0, 0))).alloc (.cells #[.int .i64 p2, .int .i64 o2, .int .i64 f2] 45 (0, 0))).heap[w.heap.size + 1]? = some (.cells #[.int .i64 p2, .int .i64 o2, .int .i64 f2] 45 (0, 0)) := by simpa using heap_new (w.alloc (.cells #[.int .i64 p, .int .i64 o, .int .i64 f] 45 (0, 0))) (.cells #[.int .i64 p2, .int .i64 o2, .int .i64 f2] 45 (0, 0))
  have hw := ((Calm.refl w).alloc (.cells #[.int .i64 p, .int .i64 o, .int .i64 f] 45 (0, 0))).alloc (.cells #[.int .i64 p2, .int .i64 o2, .int .i64 f2] 45 (0, 0))
  have HL := Lib.hid hL
  have HB := Lib.hid hB
  have HWF := Lib.hid hL.1
  have cT0 : ∀ A c u, LiesN u A [snA, snB] → Calls Try.prog 9 #[.slice A 2 c] u (TmEnd [5] 0 u) := fun A c u h => by
    have := snTimes_any A c [snA, snB] u (by simp) two_szs h
    rw [two_err, if_pos rfl, two_tm] at this
    exact this
  have cQ0 : ∀ A c A' c' u, LiesI u A [5] → LiesI u A' [5] → Calls Try.prog 18 #[.slice A 1 c, .slice A' 1 c'] u fun e w' => e = .returned (.bool true) ∧ Calm u w' := fun A c A' c' u h h' => by
    have := equalI_any A A' c c' [5] [5] u (by simp) h h'
    rw [decide_eq_true rfl] at this
    exact this
  have cT := fun u (hu : Calm w u) => snTimes_any B cb s u hm hS (HB.out.calm hu)
  have cF := fun u (hu : Calm w u) => snFind_any B cb s x u hm hS (HB.out.calm hu)
  clear hL hB
  by_cases hE : snErr s = 0
  rotate_left
  · simp only [if_neg hE] at cT
    have cK := fun A' c' u (hu : Calm w u) (h : LiesI u A' []) => kept_any A A' d c' l [] u hn (HL.out.calm hu) (by simp) h
    unfold KpEnd at cK
    simp only [List.length_nil] at cK
    have b1 : (snErr s != 0) = true := by simpa using hE
    have hk := Lib.hid (kept_wf (T := []) HWF.out)
    generalize (if keepErr l [] = 0 then keptR l [] else []) = M at cK hk
    generalize keepErr l [] = F at cK
    generalize snErr s = E at cT b1
    generalize fiT s x = t at cF
    generalize fiErr s x = G at cF
    clear hE HL HB HWF hS
    go_enter Try.func5, Try.ntmps5
    go_upto_region 1 with fail
    generalize (w.alloc (.cells #[.int .i64 p, .int .i64 o, .int .i64 f] 45 (0, 0))).alloc (.cells #[.int .i64 p2, .int .i64 o2, .int .i64 f2] 45 (0, 0)) = w0 at h0 h1 hw ⊢
    have hu := Calm.refl w0
    have h0 := Lib.hid h0
    have h1 := Lib.hid h1
    go_wp2_with (first
      | (go_at_call 9; (with_reducible refine (cT _ (hw.call hu)).mono ?_); rintro e w4 ⟨A4, c4, rfl, hl4, hb⟩; have H4 := Lib.hid hl4; replace hu := hu.call hb; clear hl4 hb cT)
      | (go_at_call 9; (refine (cT0 _ _ _ (sns_two (heap_new _ _))).mono ?_); rintro e w2 ⟨A2, c2, rfl, hl2, hb⟩; have H2 := Lib.hid hl2; replace hu := (hu.alloc (.cells #[.string { data := #[97] }, .int .i64 5, .string { data := #[98] }, .int .i64 5] 35 (0, 0))).call hb; clear hl2 hb cT0)
      | (go_at_call 18; (refine (cQ0 _ _ _ _ _ (LiesI.calm H2.out ((Calm.refl _).alloc (.cells #[.int .i64 5] 3 (0, 0)))) (ints_one (heap_new _ _))).mono ?_); rintro e w3 ⟨rfl, hb⟩; replace hu := (hu.alloc (.cells #[.int .i64 5] 3 (0, 0))).call hb; clear hb H2 cQ0)
      | (go_at_call 19; (with_reducible refine (cK _ _ _ (hw.call hu) H4.out).mono ?_); rintro e w5 ⟨v5, rfl, ho5, hb⟩; have H5 := Lib.hid (OwnR.sl ho5 hk.out); obtain ⟨A5, c5, rfl, -, -⟩ := H5.out; replace hu := hu.call hb; clear ho5 hb cK H4)
      | (go_at_call 8; (with_reducible refine (cF _ (hw.call hu)).mono ?_); rintro e w6 ⟨rfl, hb⟩; replace H5 := Lib.hid (Sl.calm H5.out hb); replace hu := hu.call hb; obtain ⟨x0, x1, x2, hxs⟩ := row3 ((hu.block (row3 h0.out).2.2.2).trans h0.out); obtain ⟨y0, y1, y2, hys⟩ := row3 ((hu.block (row3 h1.out).2.2.2).trans h1.out); clear hb cF))
    go_ret
    exact ⟨rfl, hw.call hu⟩
  simp only [hE, if_pos] at cT
  have hTl : (tmL s).length ≤ 9223372036854775807 := by have := tmL_len s; omega
  have cK := fun A' c' u (hu : Calm w u) (h : LiesI u A' (tmL s)) => kept_any A A' d c' l (tmL s) u hn (HL.out.calm hu) hTl h
  unfold KpEnd at cK
  have hk := Lib.hid (kept_wf (T := tmL s) HWF.out)
  have hfi := fun h => fiT_in (l := s) (x := x) h hE
  by_cases hF : keepErr l (tmL s) = 0
  rotate_left
  · have b1 : (keepErr l (tmL s) != 0) = true := by simpa using hF
    generalize (if keepErr l (tmL s) = 0 then keptR l (tmL s) else []) = M at cK hk
    generalize keepErr l (tmL s) = F at cK b1
    generalize tmL s = T at cT cK
    generalize fiT s x = t at cF
    generalize fiErr s x = G at cF
    clear hfi hF hE HL HB HWF hS hTl
    go_enter Try.func5, Try.ntmps5
    go_upto_region 1 with fail
    generalize (w.alloc (.cells #[.int .i64 p, .int .i64 o, .int .i64 f] 45 (0, 0))).alloc (.cells #[.int .i64 p2, .int .i64 o2, .int .i64 f2] 45 (0, 0)) = w0 at h0 h1 hw ⊢
    have hu := Calm.refl w0
    have h0 := Lib.hid h0
    have h1 := Lib.hid h1
    go_wp2_with (first
      | (go_at_call 9; (with_reducible refine (cT _ (hw.call hu)).mono ?_); rintro e w4 ⟨A4, c4, rfl, hl4, hb⟩; have H4 := Lib.hid hl4; replace hu := hu.call hb; clear hl4 hb cT)
      | (go_at_call 9; (refine (cT0 _ _ _ (sns_two (heap_new _ _))).mono ?_); rintro e w2 ⟨A2, c2, rfl, hl2, hb⟩; have H2 := Lib.hid hl2; replace hu := (hu.alloc (.cells #[.string { data := #[97] }, .int .i64 5, .string { data := #[98] }, .int .i64 5] 35 (0, 0))).call hb; clear hl2 hb cT0)
      | (go_at_call 18; (refine (cQ0 _ _ _ _ _ (LiesI.calm H2.out ((Calm.refl _).alloc (.cells #[.int .i64 5] 3 (0, 0)))) (ints_one (heap_new _ _))).mono ?_); rintro e w3 ⟨rfl, hb⟩; replace hu := (hu.alloc (.cells #[.int .i64 5] 3 (0, 0))).call hb; clear hb H2 cQ0)
      | (go_at_call 19; (with_reducible refine (cK _ _ _ (hw.call hu) H4.out).mono ?_); rintro e w5 ⟨v5, rfl, ho5, hb⟩; have H5 := Lib.hid (OwnR.sl ho5 hk.out); obtain ⟨A5, c5, rfl, -, -⟩ := H5.out; replace hu := hu.call hb; clear ho5 hb cK H4)
      | (go_at_call 8; (with_reducible refine (cF _ (hw.call hu)).mono ?_); rintro e w6 ⟨rfl, hb⟩; replace H5 := Lib.hid (Sl.calm H5.out hb); replace hu := hu.call hb; obtain ⟨x0, x1, x2, hxs⟩ := row3 ((hu.block (row3 h0.out).2.2.2).trans h0.out); obtain ⟨y0, y1, y2, hys⟩ := row3 ((hu.block (row3 h1.out).2.2.2).trans h1.out); clear hb cF))
    go_ret
    exact ⟨rfl, hw.call hu⟩
  have hG : Good l := by
    unfold keepErr at hF
    by_cases h : runErr l = 0
    · exact runErr_zero.1 h
    · rw [if_neg h] at hF; exact absurd hF h
  simp only [hF, if_pos] at cK hk
  have cR2 := fun A' c' u (h : Lies u A' (keptR l (tmL s))) => runRange_any A' c' (keptR l (tmL s)) p o f p2 o2 f2 (fiT s x) u (by have := kept_len l (tmL s); omega) h
  by_cases hI : fiErr s x = 0
  rotate_left
  · have b1 : (fiErr s x != 0) = true := by simpa using hI
    generalize fiErr s x = G at cF b1
    generalize fiT s x = t at cF
    generalize keptR l (tmL s) = M at cK hk
    generalize tmL s = T at cT cK
    clear hfi hF hE HL HB HWF hS hTl hI hG cR2
    go_enter Try.func5, Try.ntmps5
    go_upto_region 1 with fail
    generalize (w.alloc (.cells #[.int .i64 p, .int .i64 o, .int .i64 f] 45 (0, 0))).alloc (.cells #[.int .i64 p2, .int .i64 o2, .int .i64 f2] 45 (0, 0)) = w0 at h0 h1 hw ⊢
    have hu := Calm.refl w0
    have h0 := Lib.hid h0
    have h1 := Lib.hid h1
    go_wp2_with (first
      | (go_at_call 9; (with_reducible refine (cT _ (hw.call hu)).mono ?_); rintro e w4 ⟨A4, c4, rfl, hl4, hb⟩; have H4 := Lib.hid hl4; replace hu := hu.call hb; clear hl4 hb cT)
      | (go_at_call 9; (refine (cT0 _ _ _ (sns_two (heap_new _ _))).mono ?_); rintro e w2 ⟨A2, c2, rfl, hl2, hb⟩; have H2 := Lib.hid hl2; replace hu := (hu.alloc (.cells #[.string { data := #[97] }, .int .i64 5, .string { data := #[98] }, .int .i64 5] 35 (0, 0))).call hb; clear hl2 hb cT0)
      | (go_at_call 18; (refine (cQ0 _ _ _ _ _ (LiesI.calm H2.out ((Calm.refl _).alloc (.cells #[.int .i64 5] 3 (0, 0)))) (ints_one (heap_new _ _))).mono ?_); rintro e w3 ⟨rfl, hb⟩; replace hu := (hu.alloc (.cells #[.int .i64 5] 3 (0, 0))).call hb; clear hb H2 cQ0)
      | (go_at_call 19; (with_reducible refine (cK _ _ _ (hw.call hu) H4.out).mono ?_); rintro e w5 ⟨v5, rfl, ho5, hb⟩; have H5 := Lib.hid (OwnR.sl ho5 hk.out); obtain ⟨A5, c5, rfl, -, -⟩ := H5.out; replace hu := hu.call hb; clear ho5 hb cK H4)
      | (go_at_call 8; (with_reducible refine (cF _ (hw.call hu)).mono ?_); rintro e w6 ⟨rfl, hb⟩; replace H5 := Lib.hid (Sl.calm H5.out hb); replace hu := hu.call hb; obtain ⟨x0, x1, x2, hxs⟩ := row3 ((hu.block (row3 h0.out).2.2.2).trans h0.out); obtain ⟨y0, y1, y2, hys⟩ := row3 ((hu.block (row3 h1.out).2.2.2).trans h1.out); clear hb cF))
    go_ret
    exact ⟨rfl, hw.call hu⟩
  obtain ⟨-, -, q3, q4⟩ := kept_reads hG (.inl (hfi hI)) (0, 0, 0) (p, o, f) (p2, o2, f2)
  have cR1 := fun u (hu : Calm w u) => runRange_any A d l p o f p2 o2 f2 (fiT s x) u hn (HL.out.calm hu)
  unfold SlEnd at cR1 cR2
  rw [q3, q4] at cR2
  rw [hI] at cF
  have hNl : (if rgErr l (p, o, f) (p2, o2, f2) = 0 then rangeR l (p, o, f) (p2, o2, f2) (fiT s x) else []).length ≤ 9223372036854775807 := by
    split
    · have := rangeR_le l (p, o, f) (p2, o2, f2) (fiT s x); omega
    · simp
  generalize (if rgErr l (p, o, f) (p2, o2, f2) = 0 then rangeR l (p, o, f) (p2, o2, f2) (fiT s x) else []) = N at cR1 cR2 hNl
  generalize rgErr l (p, o, f) (p2, o2, f2) = Q at cR1 cR2
  generalize fiT s x = t at cF cR1 cR2
  generalize keptR l (tmL s) = M at cK hk cR2
  generalize tmL s = T at cT cK
  have cE := fun A c A' c' u (h : Lies u A N) (h' : Lies u A' N) => equal_self A A' c c' N u hNl h h'
  have b4 : (Q == Q) = true := by simp
  clear hfi hF hE HL HB HWF hS hTl hI hG q3 q4
  go_enter Try.func5, Try.ntmps5
  go_upto_region 1 with fail
  generalize (w.alloc (.cells #[.int .i64 p, .int .i64 o, .int .i64 f] 45 (0, 0))).alloc (.cells #[.int .i64 p2, .int .i64 o2, .int .i64 f2] 45 (0, 0)) = w0 at h0 h1 hw ⊢
  have hu := Calm.refl w0
  have h0 := Lib.hid h0
  have h1 := Lib.hid h1
  go_wp2_with (first
    | (go_at_call 9; (with_reducible refine (cT _ (hw.call hu)).mono ?_); rintro e w4 ⟨A4, c4, rfl, hl4, hb⟩; have H4 := Lib.hid hl4; replace hu := hu.call hb; clear hl4 hb cT)
    | (go_at_call 9; (refine (cT0 _ _ _ (sns_two (heap_new _ _))).mono ?_); rintro e w2 ⟨A2, c2, rfl, hl2, hb⟩; have H2 := Lib.hid hl2; replace hu := (hu.alloc (.cells #[.string { data := #[97] }, .int .i64 5, .string { data := #[98] }, .int .i64 5] 35 (0, 0))).call hb; clear hl2 hb cT0)
    | (go_at_call 18; (refine (cQ0 _ _ _ _ _ (LiesI.calm H2.out ((Calm.refl _).alloc (.cells #[.int .i64 5] 3 (0, 0)))) (ints_one (heap_new _ _))).mono ?_); rintro e w3 ⟨rfl, hb⟩; replace hu := (hu.alloc (.cells #[.int .i64 5] 3 (0, 0))).call hb; clear hb H2 cQ0)
    | (go_at_call 19; (with_reducible refine (cK _ _ _ (hw.call hu) H4.out).mono ?_); rintro e w5 ⟨v5, rfl, ho5, hb⟩; have H5 := Lib.hid (OwnR.sl ho5 hk.out); obtain ⟨A5, c5, rfl, -, -⟩ := H5.out; replace hu := hu.call hb; clear ho5 hb cK H4)
    | (go_at_call 8; (with_reducible refine (cF _ (hw.call hu)).mono ?_); rintro e w6 ⟨rfl, hb⟩; replace H5 := Lib.hid (Sl.calm H5.out hb); replace hu := hu.call hb; obtain ⟨x0, x1, x2, hxs⟩ := row3 ((hu.block (row3 h0.out).2.2.2).trans h0.out); obtain ⟨y0, y1, y2, hys⟩ := row3 ((hu.block (row3 h1.out).2.2.2).trans h1.out); clear hb cF)
    | (go_at_call 20; (with_reducible refine (cR1 _ (hw.call hu)).mono ?_); rintro e w7 ⟨v7, rfl, hs7, hb⟩; obtain ⟨A7, c7, rfl, k7, hl7⟩ := hs7; have H7 := Lib.hid hl7; replace H5 := Lib.hid (Sl.calm H5.out hb); replace hu := hu.call hb; obtain ⟨x0, x1, x2, hxs⟩ := row3 ((hu.block (row3 h0.out).2.2.2).trans h0.out); obtain ⟨y0, y1, y2, hys⟩ := row3 ((hu.block (row3 h1.out).2.2.2).trans h1.out); clear hb cR1 hl7)
    | (go_at_call 20; (with_reducible refine (cR2 _ _ _ (sl_at H5.out)).mono ?_); rintro e w8 ⟨v8, rfl, hs8, hb⟩; obtain ⟨A8, c8, rfl, -, hl8⟩ := hs8; have H8 := Lib.hid hl8; replace H7 := Lib.hid (H7.out.calm hb); replace hu := hu.call hb; clear hb cR2 hl8)
    | (go_at_call 21; (with_reducible refine (cE _ _ _ _ _ H7.out H8.out).mono ?_); rintro e w9 ⟨rfl, hb⟩; replace hu := hu.call hb; clear hb cE))
  go_ret
  exact ⟨rfl, hw.call hu⟩
end Go.Proofs.Ytibnghapilfgbaa
