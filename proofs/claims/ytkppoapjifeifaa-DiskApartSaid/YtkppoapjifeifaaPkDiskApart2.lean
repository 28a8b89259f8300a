/- Texts of one kind in one file. -/
import Derived.Test.YtkppoapjifeifaaPkDiskApart1
set_option maxRecDepth 100000
namespace Go.Proofs.Ytkppoapjifeifaa
open Go.RowKit
theorem put_ab (g : Nat) (u : World) (h : u.heap[g]? = some (.cells #[.string { data := #[97] }, .string { data := #[98] }] 9 (0, 0))) : Calls Try.prog 14 #[.agg #[.slice (some ⟨g, 0, none⟩) 2 2, .slice none 0 0], .int .i64 1, .string { data := #[99] }] u fun e w' => ∃ P cp Q cq, e = .returned (.tuple #[.agg #[.slice P 2 cp, .slice Q 1 cq], .int .i64 0]) ∧ HasD w' P Q [{ data := #[97] }, { data := #[98] }] [⟨1, { data := #[99] }⟩] ∧ Calm u w' :=
 ((lies_two2 h).put_ok 2 0 (i := 1) (s := { data := #[99] }) (by decide +kernel)).mono fun e w' ⟨P, cp, Q, cq, h1, h2, h3⟩ => ⟨P, cp, Q, cq, h1, h2.has, h3⟩
theorem read_ab (P Q : Option Addr) (cp cq : Nat) (u : World) (h : HasD u P Q [{ data := #[97] }, { data := #[98] }] [⟨1, { data := #[99] }⟩]) : Calls Try.prog 13 #[.agg #[.slice P 2 cp, .slice Q 1 cq], .int .i64 0] u fun e w' => e = .returned (.tuple #[.string { data := #[97] }, .int .i64 0]) ∧ Calm u w' :=
 h.rd cp cq (by decide +kernel) (k := 0) rfl
theorem two_otherD {w : World} {g k : Nat} (h : k ≠ g) (a b : Value) : ((w.setCell ⟨g, 0, none⟩ a).setCell ⟨g, 1, none⟩ b).heap[k]? = w.heap[k]? :=
 (heap_setCell_other _ ⟨g, 1, none⟩ k b h).trans (heap_setCell_other _ ⟨g, 0, none⟩ k a h)
theorem pt_swap {l : List ByteArray} {m : List Wr} {x y : Wr} (h : ptE l m x = 0) (h2 : ptE l (m ++ [x]) y = 0) : ptE l m y = 0 ∧ ptE l (m ++ [y]) x = 0 ∧ dkErr l (m ++ [x] ++ [y]) = 0 ∧ dkErr l (m ++ [y] ++ [x]) = 0 ∧ dkErr l m = 0 := by
 have hz : ∀ {m : List Wr} {x : Wr}, ptE l m x = 0 → dkErr l m = 0 ∧ wrE l.length x = 0 ∧ m.length ≠ 400 := fun {m x} h => by
  by_cases hz : dkErr l m = 0
  ·by_cases hw : wrE l.length x = 0
   ·by_cases h4 : m.length = 400
    ·unfold ptE at h; rw [if_pos hz, if_pos hw, if_pos h4] at h; cases h
    ·exact ⟨hz, hw, h4⟩
   ·unfold ptE at h; rw [if_pos hz, if_neg hw] at h; exact absurd h hw
  ·unfold ptE at h; rw [if_neg hz] at h; exact absurd h hz
 obtain ⟨a1, a2, a3⟩ := hz h
 obtain ⟨b1, b2, b3⟩ := hz h2
 rw [List.length_append, List.length_singleton] at b3
 obtain ⟨c1, c2, c3, c4⟩ := dkErr_zero.1 a1
 have one : ∀ {m : List Wr} {y : Wr}, dkErr l m = 0 → wrE l.length y = 0 → m.length < 400 → dkErr l (m ++ [y]) = 0 := fun {m y} hd hy hl => by
  obtain ⟨d1, d2, d3, d4⟩ := dkErr_zero.1 hd
  refine dkErr_zero.2 ⟨d1, by rw [List.length_append, List.length_singleton]; omega, d3, fun z hz => ?_⟩
  rcases List.mem_append.1 hz with hz | hz
  ·exact d4 z hz
  ·rw [List.mem_singleton.1 hz]; exact hy
 have e1 : dkErr l (m ++ [y]) = 0 := one a1 b2 (by omega)
 refine ⟨by unfold ptE; rw [if_pos a1, if_pos b2, if_neg a3], ?_, one b1 b2 (by rw [List.length_append, List.length_singleton]; omega), one e1 a2 (by rw [List.length_append, List.length_singleton]; omega), a1⟩
 unfold ptE
 rw [if_pos e1, if_pos a2, List.length_append, List.length_singleton, if_neg b3]
set_option maxHeartbeats 16000000 in
theorem da_bad (P Q : Option Addr) (cp cq : Nat) (l : List ByteArray) (m : List Wr) (i j : Int) (s t : ByteArray) (w : World) (hh : HasD w P Q l m) (hn : l.length ≤ 9223372036854775807) (hm : m.length ≤ 9223372036854775807) (E : Int) (h0 : E ≠ 0) (hE : ptE l m ⟨i, s⟩ = E) :
    Calls Try.prog 7 #[.agg #[.slice P l.length cp, .slice Q m.length cq], .int .i64 i, .int .i64 j, .string s, .string t] w fun e w' => e = .returned (.bool true) ∧ Calm w w' := by
  have hx := heap_new w (.cells #[.slice P l.length cp, .slice Q m.length cq] 25)
  have hu := (Calm.refl w).alloc (.cells #[.slice P l.length cp, .slice Q m.length cq] 25)
  have cP := fun u (hu : Calm w u) => (hh.calm hu).put_bad cp cq hn hm (hE : ptE l m ⟨i, s⟩ = E) h0
  have b1 : (E != 0) = true := by rw [bne_iff_ne]; exact h0
  clear hh hn hm hE h0
  go_enter Try.func7, Try.ntmps7
  go_upto_region 1 with fail
  generalize w.alloc (.cells #[.slice P l.length cp, .slice Q m.length cq] 25) = w0 at hx hu ⊢
  obtain ⟨hx_0, hx_1, hx_s⟩ := rowD hx
  go_upto_region 5 with (first
      | (go_at_call 14; (with_reducible refine (put_ab _ _ (heap_new _ _)).mono ?_); rintro e w1 ⟨P1, cp1, Q1, cq1, rfl, hd1, hk⟩; clear hx_0 hx_1 hx_s; replace hx := (hk.block (rowD (heap_past _ hx)).2.2).trans (heap_past _ hx); replace hu := (hu.alloc _).call hk; obtain ⟨hx_0, hx_1, hx_s⟩ := rowD hx; clear hk; have HD1 := Lib.hid (hd1.calm ((Calm.refl _).alloc (.cells #[.slice P1 2 cp1, .slice Q1 1 cq1] 25))); clear hd1; have hXi := hx_s; clear hx_0 hx_1 hx_s; replace hx := heap_past (.cells #[.slice P1 2 cp1, .slice Q1 1 cq1] 25) hx; replace hu := hu.alloc (.cells #[.slice P1 2 cp1, .slice Q1 1 cq1] 25); have hX := heap_new w1 (.cells #[.slice P1 2 cp1, .slice Q1 1 cq1] 25); obtain ⟨hx_0, hx_1, hx_s⟩ := rowD hx; obtain ⟨hX_0, hX_1, hX_s⟩ := rowD hX)
      | (go_at_call 13; (with_reducible refine (read_ab _ _ _ _ _ HD1.out).mono ?_); rintro e w2 ⟨rfl, hk⟩; clear HD1; clear hx_0 hx_1 hx_s; clear hX_0 hX_1 hX_s; replace hx := (hk.block (rowD hx).2.2).trans hx; replace hX := (hk.block (rowD hX).2.2).trans hX; replace hu := hu.call hk; clear hk; obtain ⟨hx_0, hx_1, hx_s⟩ := rowD hx; obtain ⟨hX_0, hX_1, hX_s⟩ := rowD hX))
  generalize w1.heap.size = gX at hX hX_0 hX_1 hX_s hXi ⊢
  go_wp2_with (first
      | (go_at_call 14; (with_reducible refine (cP _ hu).mono ?_); rintro e w3 ⟨rfl, hk⟩; clear hx_0 hx_1 hx_s; clear hX_0 hX_1 hX_s; replace hx := (hk.block (rowD hx).2.2).trans hx; replace hX := (hk.block (rowD hX).2.2).trans hX; replace hu := hu.call hk; clear hk; obtain ⟨hx_0, hx_1, hx_s⟩ := rowD hx; obtain ⟨hX_0, hX_1, hX_s⟩ := rowD hX; clear hx_0 hx_1 hx_s; clear hX_0 hX_1 hX_s; replace hx := heap_past (.cells #[.slice none 0 0, .slice none 0 0] 25) hx; replace hX := heap_past (.cells #[.slice none 0 0, .slice none 0 0] 25) hX; replace hu := hu.alloc (.cells #[.slice none 0 0, .slice none 0 0] 25); have hA := heap_new w3 (.cells #[.slice none 0 0, .slice none 0 0] 25); obtain ⟨hx_0, hx_1, hx_s⟩ := rowD hx; obtain ⟨hX_0, hX_1, hX_s⟩ := rowD hX; obtain ⟨hA_0, hA_1, hA_s⟩ := rowD hA)
      | (go_at_call 19; (with_reducible refine (sameDisk_zero _).mono ?_); rintro e w9 ⟨rfl, hk⟩; replace hu := hu.call hk; clear hk))
  go_ret
  exact ⟨rfl, hu⟩
theorem pt_zero {l : List ByteArray} {m : List Wr} {x : Wr} (h : ptE l m x = 0) : dkErr l m = 0 := by
 by_cases hz : dkErr l m = 0
 ·exact hz
 ·unfold ptE at h; rw [if_neg hz] at h; exact absurd h hz
set_option maxHeartbeats 16000000 in
theorem da_second (P Q : Option Addr) (cp cq : Nat) (l : List ByteArray) (m : List Wr) (i j : Int) (s t : ByteArray) (w : World) (hh : HasD w P Q l m) (hn : l.length ≤ 9223372036854775807) (hm : m.length ≤ 9223372036854775807) (E : Int) (h0 : E ≠ 0) (hE : ptE l m ⟨i, s⟩ = 0) (hF : ptE l (m ++ [⟨i, s⟩]) ⟨j, t⟩ = E) :
    Calls Try.prog 7 #[.agg #[.slice P l.length cp, .slice Q m.length cq], .int .i64 i, .int .i64 j, .string s, .string t] w fun e w' => e = .returned (.bool true) ∧ Calm w w' := by
  have hx := heap_new w (.cells #[.slice P l.length cp, .slice Q m.length cq] 25)
  have hu := (Calm.refl w).alloc (.cells #[.slice P l.length cp, .slice Q m.length cq] 25)
  have cP := fun u (hu : Calm w u) => (hh.calm hu).put_ok cp cq (hE : ptE l m ⟨i, s⟩ = 0)
  have cC := fun u (hu : Calm w u) => (hh.calm hu).put_any cp cq hn hm j t
  have hm1 : (m ++ [(⟨i, s⟩ : Wr)]).length ≤ 9223372036854775807 := by
    have := dkErr_zero.1 (pt_zero hE)
    rw [List.length_append, List.length_singleton]; omega
  have cB := fun P3 Q3 cp3 cq3 B u (hd : DkO B u P3 Q3 cp3 cq3 l (m ++ [⟨i, s⟩])) => hd.has.put_bad cp3 cq3 hn hm1 (hF : ptE l (m ++ [⟨i, s⟩]) ⟨j, t⟩ = E) h0
  have b1 : (E != 0) = true := by rw [bne_iff_ne]; exact h0
  clear hh hn hm hE hF h0 hm1
  generalize m ++ [(⟨i, s⟩ : Wr)] = M1 at cP cB
  go_enter Try.func7, Try.ntmps7
  go_upto_region 1 with fail
  generalize w.alloc (.cells #[.slice P l.length cp, .slice Q m.length cq] 25) = w0 at hx hu ⊢
  obtain ⟨hx_0, hx_1, hx_s⟩ := rowD hx
  go_upto_region 5 with (first
      | (go_at_call 14; (with_reducible refine (put_ab _ _ (heap_new _ _)).mono ?_); rintro e w1 ⟨P1, cp1, Q1, cq1, rfl, hd1, hk⟩; clear hx_0 hx_1 hx_s; replace hx := (hk.block (rowD (heap_past _ hx)).2.2).trans (heap_past _ hx); replace hu := (hu.alloc _).call hk; obtain ⟨hx_0, hx_1, hx_s⟩ := rowD hx; clear hk; have HD1 := Lib.hid (hd1.calm ((Calm.refl _).alloc (.cells #[.slice P1 2 cp1, .slice Q1 1 cq1] 25))); clear hd1; have hXi := hx_s; clear hx_0 hx_1 hx_s; replace hx := heap_past (.cells #[.slice P1 2 cp1, .slice Q1 1 cq1] 25) hx; replace hu := hu.alloc (.cells #[.slice P1 2 cp1, .slice Q1 1 cq1] 25); have hX := heap_new w1 (.cells #[.slice P1 2 cp1, .slice Q1 1 cq1] 25); obtain ⟨hx_0, hx_1, hx_s⟩ := rowD hx; obtain ⟨hX_0, hX_1, hX_s⟩ := rowD hX)
      | (go_at_call 13; (with_reducible refine (read_ab _ _ _ _ _ HD1.out).mono ?_); rintro e w2 ⟨rfl, hk⟩; clear HD1; clear hx_0 hx_1 hx_s; clear hX_0 hX_1 hX_s; replace hx := (hk.block (rowD hx).2.2).trans hx; replace hX := (hk.block (rowD hX).2.2).trans hX; replace hu := hu.call hk; clear hk; obtain ⟨hx_0, hx_1, hx_s⟩ := rowD hx; obtain ⟨hX_0, hX_1, hX_s⟩ := rowD hX))
  generalize w1.heap.size = gX at hX hX_0 hX_1 hX_s hXi ⊢
  go_wp2_with (first
      | (go_at_call 14; (with_reducible refine (cP _ hu).mono ?_); rintro e w3 ⟨P3, cp3, Q3, cq3, rfl, hd3, hk⟩; have HD3 := Lib.hid (hd3.calm ((Calm.refl _).alloc (.cells #[.slice P3 l.length cp3, .slice Q3 M1.length cq3] 25))); clear hd3 cP; clear hx_0 hx_1 hx_s; clear hX_0 hX_1 hX_s; replace hx := (hk.block (rowD hx).2.2).trans hx; replace hX := (hk.block (rowD hX).2.2).trans hX; replace hu := hu.call hk; clear hk; obtain ⟨hx_0, hx_1, hx_s⟩ := rowD hx; obtain ⟨hX_0, hX_1, hX_s⟩ := rowD hX; clear hx_0 hx_1 hx_s; clear hX_0 hX_1 hX_s; replace hx := heap_past (.cells #[.slice P3 l.length cp3, .slice Q3 M1.length cq3] 25) hx; replace hX := heap_past (.cells #[.slice P3 l.length cp3, .slice Q3 M1.length cq3] 25) hX; replace hu := hu.alloc (.cells #[.slice P3 l.length cp3, .slice Q3 M1.length cq3] 25); have hA := heap_new w3 (.cells #[.slice P3 l.length cp3, .slice Q3 M1.length cq3] 25); obtain ⟨hx_0, hx_1, hx_s⟩ := rowD hx; obtain ⟨hX_0, hX_1, hX_s⟩ := rowD hX; obtain ⟨hA_0, hA_1, hA_s⟩ := rowD hA)
      | (go_at_call 14; (with_reducible refine (cB _ _ _ _ _ _ HD3.out).mono ?_); rintro e w4 ⟨rfl, hk⟩; clear HD3 cB; clear hx_0 hx_1 hx_s; clear hX_0 hX_1 hX_s; clear hA_0 hA_1 hA_s; replace hx := (hk.block (rowD hx).2.2).trans hx; replace hX := (hk.block (rowD hX).2.2).trans hX; replace hA := (hk.block (rowD hA).2.2).trans hA; replace hu := hu.call hk; clear hk; obtain ⟨hx_0, hx_1, hx_s⟩ := rowD hx; obtain ⟨hX_0, hX_1, hX_s⟩ := rowD hX; obtain ⟨hA_0, hA_1, hA_s⟩ := rowD hA; clear hx_0 hx_1 hx_s; clear hX_0 hX_1 hX_s; clear hA_0 hA_1 hA_s; replace hx := heap_past (.cells #[.slice none 0 0, .slice none 0 0] 25) hx; replace hX := heap_past (.cells #[.slice none 0 0, .slice none 0 0] 25) hX; replace hA := heap_past (.cells #[.slice none 0 0, .slice none 0 0] 25) hA; replace hu := hu.alloc (.cells #[.slice none 0 0, .slice none 0 0] 25); have hB := heap_new w4 (.cells #[.slice none 0 0, .slice none 0 0] 25); obtain ⟨hx_0, hx_1, hx_s⟩ := rowD hx; obtain ⟨hX_0, hX_1, hX_s⟩ := rowD hX; obtain ⟨hA_0, hA_1, hA_s⟩ := rowD hA; obtain ⟨hB_0, hB_1, hB_s⟩ := rowD hB)
      | (go_at_call 14; (with_reducible refine (cC _ hu).mono ?_); rintro e w5 ⟨P5, n5, cp5, Q5, k5, cq5, F5, rfl, hk⟩; clear cC; clear hx_0 hx_1 hx_s; clear hX_0 hX_1 hX_s; clear hA_0 hA_1 hA_s; clear hB_0 hB_1 hB_s; replace hx := (hk.block (rowD hx).2.2).trans hx; replace hX := (hk.block (rowD hX).2.2).trans hX; replace hA := (hk.block (rowD hA).2.2).trans hA; replace hB := (hk.block (rowD hB).2.2).trans hB; replace hu := hu.call hk; clear hk; obtain ⟨hx_0, hx_1, hx_s⟩ := rowD hx; obtain ⟨hX_0, hX_1, hX_s⟩ := rowD hX; obtain ⟨hA_0, hA_1, hA_s⟩ := rowD hA; obtain ⟨hB_0, hB_1, hB_s⟩ := rowD hB; clear hx_0 hx_1 hx_s; clear hX_0 hX_1 hX_s; clear hA_0 hA_1 hA_s; clear hB_0 hB_1 hB_s; replace hx := heap_past (.cells #[.slice P5 n5 cp5, .slice Q5 k5 cq5] 25) hx; replace hX := heap_past (.cells #[.slice P5 n5 cp5, .slice Q5 k5 cq5] 25) hX; replace hA := heap_past (.cells #[.slice P5 n5 cp5, .slice Q5 k5 cq5] 25) hA; replace hB := heap_past (.cells #[.slice P5 n5 cp5, .slice Q5 k5 cq5] 25) hB; replace hu := hu.alloc (.cells #[.slice P5 n5 cp5, .slice Q5 k5 cq5] 25); have hC := heap_new w5 (.cells #[.slice P5 n5 cp5, .slice Q5 k5 cq5] 25); obtain ⟨hx_0, hx_1, hx_s⟩ := rowD hx; obtain ⟨hX_0, hX_1, hX_s⟩ := rowD hX; obtain ⟨hA_0, hA_1, hA_s⟩ := rowD hA; obtain ⟨hB_0, hB_1, hB_s⟩ := rowD hB; obtain ⟨hC_0, hC_1, hC_s⟩ := rowD hC))
  go_ret
  exact ⟨rfl, hu⟩
set_option maxHeartbeats 16000000 in
theorem da_same (P Q : Option Addr) (cp cq : Nat) (l : List ByteArray) (m : List Wr) (i j : Int) (s t : ByteArray) (w : World) (hh : HasD w P Q l m) (hE : ptE l m ⟨i, s⟩ = 0) (hF : ptE l (m ++ [⟨i, s⟩]) ⟨j, t⟩ = 0) (hij : i = j) :
    Calls Try.prog 7 #[.agg #[.slice P l.length cp, .slice Q m.length cq], .int .i64 i, .int .i64 j, .string s, .string t] w fun e w' => e = .returned (.bool true) ∧ Calm w w' := by
  have hx := heap_new w (.cells #[.slice P l.length cp, .slice Q m.length cq] 25)
  have hu := (Calm.refl w).alloc (.cells #[.slice P l.length cp, .slice Q m.length cq] 25)
  obtain ⟨q1, q2, q3, q4, q5⟩ := pt_swap hE hF
  have cP := fun u (hu : Calm w u) => (hh.calm hu).put_ok cp cq (hE : ptE l m ⟨i, s⟩ = 0)
  have cC := fun u (hu : Calm w u) => (hh.calm hu).put_ok cp cq q1
  have cB := fun P3 Q3 cp3 cq3 B u (hd : DkO B u P3 Q3 cp3 cq3 l (m ++ [⟨i, s⟩])) => hd.has.put_ok cp3 cq3 (hF : ptE l (m ++ [⟨i, s⟩]) ⟨j, t⟩ = 0)
  clear hh hE hF q1 q2 q3 q4 q5
  subst hij
  generalize m ++ [(⟨i, s⟩ : Wr)] ++ [⟨i, t⟩] = M2 at cB
  generalize m ++ [(⟨i, s⟩ : Wr)] = M1 at cP cB
  generalize m ++ [(⟨i, t⟩ : Wr)] = M3 at cC
  go_enter Try.func7, Try.ntmps7
  go_upto_region 1 with fail
  generalize w.alloc (.cells #[.slice P l.length cp, .slice Q m.length cq] 25) = w0 at hx hu ⊢
  obtain ⟨hx_0, hx_1, hx_s⟩ := rowD hx
  go_upto_region 5 with (first
      | (go_at_call 14; (with_reducible refine (put_ab _ _ (heap_new _ _)).mono ?_); rintro e w1 ⟨P1, cp1, Q1, cq1, rfl, hd1, hk⟩; clear hx_0 hx_1 hx_s; replace hx := (hk.block (rowD (heap_past _ hx)).2.2).trans (heap_past _ hx); replace hu := (hu.alloc _).call hk; obtain ⟨hx_0, hx_1, hx_s⟩ := rowD hx; clear hk; have HD1 := Lib.hid (hd1.calm ((Calm.refl _).alloc (.cells #[.slice P1 2 cp1, .slice Q1 1 cq1] 25))); clear hd1; have hXi := hx_s; clear hx_0 hx_1 hx_s; replace hx := heap_past (.cells #[.slice P1 2 cp1, .slice Q1 1 cq1] 25) hx; replace hu := hu.alloc (.cells #[.slice P1 2 cp1, .slice Q1 1 cq1] 25); have hX := heap_new w1 (.cells #[.slice P1 2 cp1, .slice Q1 1 cq1] 25); obtain ⟨hx_0, hx_1, hx_s⟩ := rowD hx; obtain ⟨hX_0, hX_1, hX_s⟩ := rowD hX)
      | (go_at_call 13; (with_reducible refine (read_ab _ _ _ _ _ HD1.out).mono ?_); rintro e w2 ⟨rfl, hk⟩; clear HD1; clear hx_0 hx_1 hx_s; clear hX_0 hX_1 hX_s; replace hx := (hk.block (rowD hx).2.2).trans hx; replace hX := (hk.block (rowD hX).2.2).trans hX; replace hu := hu.call hk; clear hk; obtain ⟨hx_0, hx_1, hx_s⟩ := rowD hx; obtain ⟨hX_0, hX_1, hX_s⟩ := rowD hX))
  generalize w1.heap.size = gX at hX hX_0 hX_1 hX_s hXi ⊢
  go_wp2_with (first
      | (go_at_call 14; (with_reducible refine (cP _ hu).mono ?_); rintro e w3 ⟨P3, cp3, Q3, cq3, rfl, hd3, hk⟩; have HD3 := Lib.hid (hd3.calm ((Calm.refl _).alloc (.cells #[.slice P3 l.length cp3, .slice Q3 M1.length cq3] 25))); clear hd3 cP; clear hx_0 hx_1 hx_s; clear hX_0 hX_1 hX_s; replace hx := (hk.block (rowD hx).2.2).trans hx; replace hX := (hk.block (rowD hX).2.2).trans hX; replace hu := hu.call hk; clear hk; obtain ⟨hx_0, hx_1, hx_s⟩ := rowD hx; obtain ⟨hX_0, hX_1, hX_s⟩ := rowD hX; clear hx_0 hx_1 hx_s; clear hX_0 hX_1 hX_s; replace hx := heap_past (.cells #[.slice P3 l.length cp3, .slice Q3 M1.length cq3] 25) hx; replace hX := heap_past (.cells #[.slice P3 l.length cp3, .slice Q3 M1.length cq3] 25) hX; replace hu := hu.alloc (.cells #[.slice P3 l.length cp3, .slice Q3 M1.length cq3] 25); have hA := heap_new w3 (.cells #[.slice P3 l.length cp3, .slice Q3 M1.length cq3] 25); obtain ⟨hx_0, hx_1, hx_s⟩ := rowD hx; obtain ⟨hX_0, hX_1, hX_s⟩ := rowD hX; obtain ⟨hA_0, hA_1, hA_s⟩ := rowD hA)
      | (go_at_call 14; (with_reducible refine (cB _ _ _ _ _ _ HD3.out).mono ?_); rintro e w4 ⟨P4, cp4, Q4, cq4, rfl, hd4, hk⟩; clear HD3 cB; have hX4 := Lib.hid hX_s; have HD4 := Lib.hid (hd4.calm ((Calm.refl _).alloc (.cells #[.slice P4 l.length cp4, .slice Q4 M2.length cq4] 25))); clear hd4; clear hx_0 hx_1 hx_s; clear hX_0 hX_1 hX_s; clear hA_0 hA_1 hA_s; replace hx := (hk.block (rowD hx).2.2).trans hx; replace hX := (hk.block (rowD hX).2.2).trans hX; replace hA := (hk.block (rowD hA).2.2).trans hA; replace hu := hu.call hk; clear hk; obtain ⟨hx_0, hx_1, hx_s⟩ := rowD hx; obtain ⟨hX_0, hX_1, hX_s⟩ := rowD hX; obtain ⟨hA_0, hA_1, hA_s⟩ := rowD hA; have hX5 := Lib.hid hX_s; clear hx_0 hx_1 hx_s; clear hX_0 hX_1 hX_s; clear hA_0 hA_1 hA_s; replace hx := heap_past (.cells #[.slice P4 l.length cp4, .slice Q4 M2.length cq4] 25) hx; replace hX := heap_past (.cells #[.slice P4 l.length cp4, .slice Q4 M2.length cq4] 25) hX; replace hA := heap_past (.cells #[.slice P4 l.length cp4, .slice Q4 M2.length cq4] 25) hA; replace hu := hu.alloc (.cells #[.slice P4 l.length cp4, .slice Q4 M2.length cq4] 25); have hB := heap_new w4 (.cells #[.slice P4 l.length cp4, .slice Q4 M2.length cq4] 25); obtain ⟨hx_0, hx_1, hx_s⟩ := rowD hx; obtain ⟨hX_0, hX_1, hX_s⟩ := rowD hX; obtain ⟨hA_0, hA_1, hA_s⟩ := rowD hA; obtain ⟨hB_0, hB_1, hB_s⟩ := rowD hB)
      | (go_at_call 14; (with_reducible refine (cC _ hu).mono ?_); rintro e w5 ⟨P5, cp5, Q5, cq5, rfl, hd5, hk⟩; clear cC; have HD5 := Lib.hid (hd5.calm ((Calm.refl _).alloc (.cells #[.slice P5 l.length cp5, .slice Q5 M3.length cq5] 25))); clear hd5; clear hx_0 hx_1 hx_s; clear hX_0 hX_1 hX_s; clear hA_0 hA_1 hA_s; clear hB_0 hB_1 hB_s; replace hx := (hk.block (rowD hx).2.2).trans hx; replace hX := (hk.block (rowD hX).2.2).trans hX; replace hA := (hk.block (rowD hA).2.2).trans hA; replace hB := (hk.block (rowD hB).2.2).trans hB; replace HD4 := Lib.hid (HD4.out.calm hk); replace hu := hu.call hk; clear hk; obtain ⟨hx_0, hx_1, hx_s⟩ := rowD hx; obtain ⟨hX_0, hX_1, hX_s⟩ := rowD hX; obtain ⟨hA_0, hA_1, hA_s⟩ := rowD hA; obtain ⟨hB_0, hB_1, hB_s⟩ := rowD hB; clear hx_0 hx_1 hx_s; clear hX_0 hX_1 hX_s; clear hA_0 hA_1 hA_s; clear hB_0 hB_1 hB_s; replace hx := heap_past (.cells #[.slice P5 l.length cp5, .slice Q5 M3.length cq5] 25) hx; replace hX := heap_past (.cells #[.slice P5 l.length cp5, .slice Q5 M3.length cq5] 25) hX; replace hA := heap_past (.cells #[.slice P5 l.length cp5, .slice Q5 M3.length cq5] 25) hA; replace hB := heap_past (.cells #[.slice P5 l.length cp5, .slice Q5 M3.length cq5] 25) hB; replace HD4 := Lib.hid (HD4.out.calm ((Calm.refl _).alloc (.cells #[.slice P5 l.length cp5, .slice Q5 M3.length cq5] 25))); replace hu := hu.alloc (.cells #[.slice P5 l.length cp5, .slice Q5 M3.length cq5] 25); have hC := heap_new w5 (.cells #[.slice P5 l.length cp5, .slice Q5 M3.length cq5] 25); obtain ⟨hx_0, hx_1, hx_s⟩ := rowD hx; obtain ⟨hX_0, hX_1, hX_s⟩ := rowD hX; obtain ⟨hA_0, hA_1, hA_s⟩ := rowD hA; obtain ⟨hB_0, hB_1, hB_s⟩ := rowD hB; obtain ⟨hC_0, hC_1, hC_s⟩ := rowD hC))
  go_ret
  exact ⟨rfl, hu⟩
set_option maxHeartbeats 16000000 in
theorem da_apart (P Q : Option Addr) (cp cq : Nat) (l : List ByteArray) (m : List Wr) (i j : Int) (s t : ByteArray) (w : World) (hh : HasD w P Q l m) (hn : l.length ≤ 9223372036854775807) (hE : ptE l m ⟨i, s⟩ = 0) (hF : ptE l (m ++ [⟨i, s⟩]) ⟨j, t⟩ = 0) (hij : ¬ i = j) :
    Calls Try.prog 7 #[.agg #[.slice P l.length cp, .slice Q m.length cq], .int .i64 i, .int .i64 j, .string s, .string t] w fun e w' => e = .returned (.bool true) ∧ Calm w w' := by
  have hx := heap_new w (.cells #[.slice P l.length cp, .slice Q m.length cq] 25)
  have hu := (Calm.refl w).alloc (.cells #[.slice P l.length cp, .slice Q m.length cq] 25)
  obtain ⟨q1, q2, q3, q4, q5⟩ := pt_swap hE hF
  have cP := fun u (hu : Calm w u) => (hh.calm hu).put_ok cp cq (hE : ptE l m ⟨i, s⟩ = 0)
  have cC := fun u (hu : Calm w u) => (hh.calm hu).put_ok cp cq q1
  have cB := fun P3 Q3 cp3 cq3 B u (hd : DkO B u P3 Q3 cp3 cq3 l (m ++ [⟨i, s⟩])) => hd.has.put_ok cp3 cq3 (hF : ptE l (m ++ [⟨i, s⟩]) ⟨j, t⟩ = 0)
  have cX := fun P3 Q3 cp3 cq3 B u (hd : DkO B u P3 Q3 cp3 cq3 l (m ++ [⟨j, t⟩])) => hd.has.put_ok cp3 cq3 q2
  have cU := fun P3 Q3 cp3 cq3 B u (hd : DkO B u P3 Q3 cp3 cq3 l (m ++ [⟨i, s⟩] ++ [⟨j, t⟩])) (k : Nat) x (hk : l[k]? = some x) => hd.has.rd cp3 cq3 q3 hk
  have cV := fun P3 Q3 cp3 cq3 B u (hd : DkO B u P3 Q3 cp3 cq3 l (m ++ [⟨j, t⟩] ++ [⟨i, s⟩])) (k : Nat) x (hk : l[k]? = some x) => hd.has.rd cp3 cq3 q4 hk
  have cW := fun u (hu : Calm w u) (k : Nat) x (hk : l[k]? = some x) => (hh.calm hu).rd cp cq q5 hk
  have RU := Lib.hid (fun (k : Nat) x => (show rdL k (m ++ [⟨i, s⟩] ++ [⟨j, t⟩]) x = if j = k then t else if i = k then s else rdL k m x by rw [rdL_snoc, rdL_snoc]))
  have RV := Lib.hid (fun (k : Nat) x => (show rdL k (m ++ [⟨j, t⟩] ++ [⟨i, s⟩]) x = if i = k then s else if j = k then t else rdL k m x by rw [rdL_snoc, rdL_snoc]))
  have hb0 : ¬ i = j := hij
  clear hh hE hF q1 q2 q3 q4 q5
  generalize m ++ [(⟨i, s⟩ : Wr)] ++ [⟨j, t⟩] = M2 at cB cU RU
  generalize m ++ [(⟨j, t⟩ : Wr)] ++ [⟨i, s⟩] = M4 at cX cV RV
  generalize m ++ [(⟨i, s⟩ : Wr)] = M1 at cP cB
  generalize m ++ [(⟨j, t⟩ : Wr)] = M3 at cC cX
  go_enter Try.func7, Try.ntmps7
  go_upto_region 1 with fail
  generalize w.alloc (.cells #[.slice P l.length cp, .slice Q m.length cq] 25) = w0 at hx hu ⊢
  obtain ⟨hx_0, hx_1, hx_s⟩ := rowD hx
  go_upto_region 5 with (first
      | (go_at_call 14; (with_reducible refine (put_ab _ _ (heap_new _ _)).mono ?_); rintro e w1 ⟨P1, cp1, Q1, cq1, rfl, hd1, hk⟩; clear hx_0 hx_1 hx_s; replace hx := (hk.block (rowD (heap_past _ hx)).2.2).trans (heap_past _ hx); replace hu := (hu.alloc _).call hk; obtain ⟨hx_0, hx_1, hx_s⟩ := rowD hx; clear hk; have HD1 := Lib.hid (hd1.calm ((Calm.refl _).alloc (.cells #[.slice P1 2 cp1, .slice Q1 1 cq1] 25))); clear hd1; have hXi := hx_s; clear hx_0 hx_1 hx_s; replace hx := heap_past (.cells #[.slice P1 2 cp1, .slice Q1 1 cq1] 25) hx; replace hu := hu.alloc (.cells #[.slice P1 2 cp1, .slice Q1 1 cq1] 25); have hX := heap_new w1 (.cells #[.slice P1 2 cp1, .slice Q1 1 cq1] 25); obtain ⟨hx_0, hx_1, hx_s⟩ := rowD hx; obtain ⟨hX_0, hX_1, hX_s⟩ := rowD hX)
      | (go_at_call 13; (with_reducible refine (read_ab _ _ _ _ _ HD1.out).mono ?_); rintro e w2 ⟨rfl, hk⟩; clear HD1; clear hx_0 hx_1 hx_s; clear hX_0 hX_1 hX_s; replace hx := (hk.block (rowD hx).2.2).trans hx; replace hX := (hk.block (rowD hX).2.2).trans hX; replace hu := hu.call hk; clear hk; obtain ⟨hx_0, hx_1, hx_s⟩ := rowD hx; obtain ⟨hX_0, hX_1, hX_s⟩ := rowD hX))
  generalize w1.heap.size = gX at hX hX_0 hX_1 hX_s hXi ⊢
  go_upto_region 13 with (first
      | (go_at_call 14; (with_reducible refine (cP _ hu).mono ?_); rintro e w3 ⟨P3, cp3, Q3, cq3, rfl, hd3, hk⟩; have HD3 := Lib.hid (hd3.calm ((Calm.refl _).alloc (.cells #[.slice P3 l.length cp3, .slice Q3 M1.length cq3] 25))); clear hd3 cP; clear hx_0 hx_1 hx_s; clear hX_0 hX_1 hX_s; replace hx := (hk.block (rowD hx).2.2).trans hx; replace hX := (hk.block (rowD hX).2.2).trans hX; replace hu := hu.call hk; clear hk; obtain ⟨hx_0, hx_1, hx_s⟩ := rowD hx; obtain ⟨hX_0, hX_1, hX_s⟩ := rowD hX; clear hx_0 hx_1 hx_s; clear hX_0 hX_1 hX_s; replace hx := heap_past (.cells #[.slice P3 l.length cp3, .slice Q3 M1.length cq3] 25) hx; replace hX := heap_past (.cells #[.slice P3 l.length cp3, .slice Q3 M1.length cq3] 25) hX; replace hu := hu.alloc (.cells #[.slice P3 l.length cp3, .slice Q3 M1.length cq3] 25); have hA := heap_new w3 (.cells #[.slice P3 l.length cp3, .slice Q3 M1.length cq3] 25); obtain ⟨hx_0, hx_1, hx_s⟩ := rowD hx; obtain ⟨hX_0, hX_1, hX_s⟩ := rowD hX; obtain ⟨hA_0, hA_1, hA_s⟩ := rowD hA)
      | (go_at_call 14; (with_reducible refine (cB _ _ _ _ _ _ HD3.out).mono ?_); rintro e w4 ⟨P4, cp4, Q4, cq4, rfl, hd4, hk⟩; clear HD3 cB; have hX4 := Lib.hid hX_s; have HD4 := Lib.hid (hd4.calm ((Calm.refl _).alloc (.cells #[.slice P4 l.length cp4, .slice Q4 M2.length cq4] 25))); clear hd4; clear hx_0 hx_1 hx_s; clear hX_0 hX_1 hX_s; clear hA_0 hA_1 hA_s; replace hx := (hk.block (rowD hx).2.2).trans hx; replace hX := (hk.block (rowD hX).2.2).trans hX; replace hA := (hk.block (rowD hA).2.2).trans hA; replace hu := hu.call hk; clear hk; obtain ⟨hx_0, hx_1, hx_s⟩ := rowD hx; obtain ⟨hX_0, hX_1, hX_s⟩ := rowD hX; obtain ⟨hA_0, hA_1, hA_s⟩ := rowD hA; have hX5 := Lib.hid hX_s; clear hx_0 hx_1 hx_s; clear hX_0 hX_1 hX_s; clear hA_0 hA_1 hA_s; replace hx := heap_past (.cells #[.slice P4 l.length cp4, .slice Q4 M2.length cq4] 25) hx; replace hX := heap_past (.cells #[.slice P4 l.length cp4, .slice Q4 M2.length cq4] 25) hX; replace hA := heap_past (.cells #[.slice P4 l.length cp4, .slice Q4 M2.length cq4] 25) hA; replace hu := hu.alloc (.cells #[.slice P4 l.length cp4, .slice Q4 M2.length cq4] 25); have hB := heap_new w4 (.cells #[.slice P4 l.length cp4, .slice Q4 M2.length cq4] 25); obtain ⟨hx_0, hx_1, hx_s⟩ := rowD hx; obtain ⟨hX_0, hX_1, hX_s⟩ := rowD hX; obtain ⟨hA_0, hA_1, hA_s⟩ := rowD hA; obtain ⟨hB_0, hB_1, hB_s⟩ := rowD hB)
      | (go_at_call 14; (with_reducible refine (cC _ hu).mono ?_); rintro e w5 ⟨P5, cp5, Q5, cq5, rfl, hd5, hk⟩; clear cC; have HD5 := Lib.hid (hd5.calm ((Calm.refl _).alloc (.cells #[.slice P5 l.length cp5, .slice Q5 M3.length cq5] 25))); clear hd5; clear hx_0 hx_1 hx_s; clear hX_0 hX_1 hX_s; clear hA_0 hA_1 hA_s; clear hB_0 hB_1 hB_s; replace hx := (hk.block (rowD hx).2.2).trans hx; replace hX := (hk.block (rowD hX).2.2).trans hX; replace hA := (hk.block (rowD hA).2.2).trans hA; replace hB := (hk.block (rowD hB).2.2).trans hB; replace HD4 := Lib.hid (HD4.out.calm hk); replace hu := hu.call hk; clear hk; obtain ⟨hx_0, hx_1, hx_s⟩ := rowD hx; obtain ⟨hX_0, hX_1, hX_s⟩ := rowD hX; obtain ⟨hA_0, hA_1, hA_s⟩ := rowD hA; obtain ⟨hB_0, hB_1, hB_s⟩ := rowD hB; clear hx_0 hx_1 hx_s; clear hX_0 hX_1 hX_s; clear hA_0 hA_1 hA_s; clear hB_0 hB_1 hB_s; replace hx := heap_past (.cells #[.slice P5 l.length cp5, .slice Q5 M3.length cq5] 25) hx; replace hX := heap_past (.cells #[.slice P5 l.length cp5, .slice Q5 M3.length cq5] 25) hX; replace hA := heap_past (.cells #[.slice P5 l.length cp5, .slice Q5 M3.length cq5] 25) hA; replace hB := heap_past (.cells #[.slice P5 l.length cp5, .slice Q5 M3.length cq5] 25) hB; replace HD4 := Lib.hid (HD4.out.calm ((Calm.refl _).alloc (.cells #[.slice P5 l.length cp5, .slice Q5 M3.length cq5] 25))); replace hu := hu.alloc (.cells #[.slice P5 l.length cp5, .slice Q5 M3.length cq5] 25); have hC := heap_new w5 (.cells #[.slice P5 l.length cp5, .slice Q5 M3.length cq5] 25); obtain ⟨hx_0, hx_1, hx_s⟩ := rowD hx; obtain ⟨hX_0, hX_1, hX_s⟩ := rowD hX; obtain ⟨hA_0, hA_1, hA_s⟩ := rowD hA; obtain ⟨hB_0, hB_1, hB_s⟩ := rowD hB; obtain ⟨hC_0, hC_1, hC_s⟩ := rowD hC)
      | (go_at_call 14; (with_reducible refine (cX _ _ _ _ _ _ HD5.out).mono ?_); rintro e w6 ⟨P6, cp6, Q6, cq6, rfl, hd6, hk⟩; clear HD5 cX; have HD6 := Lib.hid hd6; clear hd6; have hX6 := hX_s; clear hx_0 hx_1 hx_s; clear hX_0 hX_1 hX_s; clear hA_0 hA_1 hA_s; clear hB_0 hB_1 hB_s; clear hC_0 hC_1 hC_s; replace hx := (hk.block (rowD hx).2.2).trans hx; replace hX := (hk.block (rowD hX).2.2).trans hX; replace hA := (hk.block (rowD hA).2.2).trans hA; replace hB := (hk.block (rowD hB).2.2).trans hB; replace hC := (hk.block (rowD hC).2.2).trans hC; replace HD4 := Lib.hid (HD4.out.calm hk); replace hu := hu.call hk; clear hk; obtain ⟨hx_0, hx_1, hx_s⟩ := rowD hx; obtain ⟨hX_0, hX_1, hX_s⟩ := rowD hX; obtain ⟨hA_0, hA_1, hA_s⟩ := rowD hA; obtain ⟨hB_0, hB_1, hB_s⟩ := rowD hB; obtain ⟨hC_0, hC_1, hC_s⟩ := rowD hC; obtain ⟨fX0, fX1⟩ := freeD2 hX))
  clear fX0 fX1
  have HD7 := Lib.hid (HD6.out.two (g := gX) hX6 (.slice P6 l.length cp6) (.slice Q6 M4.length cq6))
  replace HD4 := Lib.hid (HD4.out.two (g := gX) hX4.out (.slice P6 l.length cp6) (.slice Q6 M4.length cq6))
  clear HD6
  clear hx_0 hx_1 hx_s; clear hX_0 hX_1 hX_s; clear hA_0 hA_1 hA_s; clear hB_0 hB_1 hB_s; clear hC_0 hC_1 hC_s
  replace hx := (two_otherD (w := w6) (g := gX) (by omega) (.slice P6 l.length cp6) (.slice Q6 M4.length cq6)).trans hx
  replace hX := setD2 hX (.slice P6 l.length cp6) (.slice Q6 M4.length cq6)
  replace hB := (two_otherD (w := w6) (g := gX) (by have := hX5.out; omega) (.slice P6 l.length cp6) (.slice Q6 M4.length cq6)).trans hB
  clear hA hC
  replace hu := hu.twoD (g := gX) (by omega) (.slice P6 l.length cp6) (.slice Q6 M4.length cq6)
  generalize (w6.setCell ⟨gX, 0, none⟩ (.slice P6 l.length cp6)).setCell ⟨gX, 1, none⟩ (.slice Q6 M4.length cq6) = w7 at hx hX hB hu HD4 HD7 ⊢
  obtain ⟨hx_0, hx_1, hx_s⟩ := rowD hx; obtain ⟨hX_0, hX_1, hX_s⟩ := rowD hX; obtain ⟨hB_0, hB_1, hB_s⟩ := rowD hB
  have HX := Lib.hid hx
  have HXX := Lib.hid hX
  have HBB := Lib.hid hB
  go_wp2_with fail
  go_loopw [97, 20, 21, 22, 23, 24, 25, 26] (fun n _ _ _ _ _ _ _ wr => ∃ k : Nat, k ≤ l.length ∧ n = .int .i64 k ∧ Calm w wr ∧ Calm w7 wr) (fun n _ _ _ _ _ _ _ _ => l.length - (intOf n).toNat)
  case atStart => exact ⟨0, Nat.zero_le _, rfl, hu, Calm.refl _⟩
  case round =>
    obtain ⟨k, hkl, rfl, hv, hv7⟩ := hrel
    by_cases hlt : k < l.length
    rotate_left
    · go_wp2_with fail
      go_ret
      exact ⟨rfl, hv⟩
    have hkx := List.getElem?_eq_getElem hlt
    generalize l[k] = x at hkx
    have hx := (hv7.block (rowD HX.out).2.2).trans HX.out
    have hX := (hv7.block (rowD HXX.out).2.2).trans HXX.out
    have hB := (hv7.block (rowD HBB.out).2.2).trans HBB.out
    obtain ⟨hx_0, hx_1, hx_s⟩ := rowD hx; obtain ⟨hX_0, hX_1, hX_s⟩ := rowD hX; obtain ⟨hB_0, hB_1, hB_s⟩ := rowD hB
    have cU1 := fun u (hu : Calm w7 u) => cU _ _ _ _ _ u (HD4.out.calm hu) k x hkx
    have cV1 := fun u (hu : Calm w7 u) => cV _ _ _ _ _ u (HD7.out.calm hu) k x hkx
    have cW1 := fun u (hu : Calm w u) => cW u hu k x hkx
    have RU1 := RU.out k x
    have RV1 := RV.out k x
    clear cU cV cW hkx hX4
    by_cases hik : i = (k : Int)
    · have hjk : ¬ j = (k : Int) := fun e => hb0 (hik.trans e.symm)
      rw [if_neg hjk, if_pos hik] at RU1
      rw [if_pos hik] at RV1
      rw [RU1] at cU1
      rw [RV1] at cV1
      have d1 : ¬ (k : Int) = j := fun e => hjk e.symm
      clear RU1 RV1 RU RV hjk hb0 hij
      subst hik
      generalize rdL (k : Int) m x = U at cW1
      go_wp2_with (first
          | (go_at_call 13; (with_reducible refine (cU1 _ hv7).mono ?_); rintro e w8 ⟨rfl, hk⟩; clear hx_0 hx_1 hx_s; clear hX_0 hX_1 hX_s; clear hB_0 hB_1 hB_s; replace hx := (hk.block (rowD hx).2.2).trans hx; replace hX := (hk.block (rowD hX).2.2).trans hX; replace hB := (hk.block (rowD hB).2.2).trans hB; replace hv := hv.call hk; replace hv7 := hv7.call hk; clear hk; obtain ⟨hx_0, hx_1, hx_s⟩ := rowD hx; obtain ⟨hX_0, hX_1, hX_s⟩ := rowD hX; obtain ⟨hB_0, hB_1, hB_s⟩ := rowD hB; clear cU1)
          | (go_at_call 13; (with_reducible refine (cV1 _ hv7).mono ?_); rintro e w9 ⟨rfl, hk⟩; clear hx_0 hx_1 hx_s; clear hX_0 hX_1 hX_s; clear hB_0 hB_1 hB_s; replace hx := (hk.block (rowD hx).2.2).trans hx; replace hX := (hk.block (rowD hX).2.2).trans hX; replace hB := (hk.block (rowD hB).2.2).trans hB; replace hv := hv.call hk; replace hv7 := hv7.call hk; clear hk; obtain ⟨hx_0, hx_1, hx_s⟩ := rowD hx; obtain ⟨hX_0, hX_1, hX_s⟩ := rowD hX; obtain ⟨hB_0, hB_1, hB_s⟩ := rowD hB; clear cV1)
          | (go_at_call 13; (with_reducible refine (cW1 _ hv).mono ?_); rintro e w10 ⟨rfl, hk⟩; clear hx_0 hx_1 hx_s; clear hX_0 hX_1 hX_s; clear hB_0 hB_1 hB_s; replace hx := (hk.block (rowD hx).2.2).trans hx; replace hX := (hk.block (rowD hX).2.2).trans hX; replace hB := (hk.block (rowD hB).2.2).trans hB; replace hv := hv.call hk; replace hv7 := hv7.call hk; clear hk; obtain ⟨hx_0, hx_1, hx_s⟩ := rowD hx; obtain ⟨hX_0, hX_1, hX_s⟩ := rowD hX; obtain ⟨hB_0, hB_1, hB_s⟩ := rowD hB; clear cW1))
      go_roundw
      case rel => exact ⟨k + 1, by omega, by go_num, hv, hv7⟩
      case measure => simp [intOf]; omega
    by_cases hjk : j = (k : Int)
    · rw [if_pos hjk] at RU1
      rw [if_neg hik, if_pos hjk] at RV1
      rw [RU1] at cU1
      rw [RV1] at cV1
      have d1 : ¬ (k : Int) = i := fun e => hik e.symm
      clear RU1 RV1 RU RV hik hb0 hij
      subst hjk
      generalize rdL (k : Int) m x = U at cW1
      go_wp2_with (first
          | (go_at_call 13; (with_reducible refine (cU1 _ hv7).mono ?_); rintro e w8 ⟨rfl, hk⟩; clear hx_0 hx_1 hx_s; clear hX_0 hX_1 hX_s; clear hB_0 hB_1 hB_s; replace hx := (hk.block (rowD hx).2.2).trans hx; replace hX := (hk.block (rowD hX).2.2).trans hX; replace hB := (hk.block (rowD hB).2.2).trans hB; replace hv := hv.call hk; replace hv7 := hv7.call hk; clear hk; obtain ⟨hx_0, hx_1, hx_s⟩ := rowD hx; obtain ⟨hX_0, hX_1, hX_s⟩ := rowD hX; obtain ⟨hB_0, hB_1, hB_s⟩ := rowD hB; clear cU1)
          | (go_at_call 13; (with_reducible refine (cV1 _ hv7).mono ?_); rintro e w9 ⟨rfl, hk⟩; clear hx_0 hx_1 hx_s; clear hX_0 hX_1 hX_s; clear hB_0 hB_1 hB_s; replace hx := (hk.block (rowD hx).2.2).trans hx; replace hX := (hk.block (rowD hX).2.2).trans hX; replace hB := (hk.block (rowD hB).2.2).trans hB; replace hv := hv.call hk; replace hv7 := hv7.call hk; clear hk; obtain ⟨hx_0, hx_1, hx_s⟩ := rowD hx; obtain ⟨hX_0, hX_1, hX_s⟩ := rowD hX; obtain ⟨hB_0, hB_1, hB_s⟩ := rowD hB; clear cV1)
          | (go_at_call 13; (with_reducible refine (cW1 _ hv).mono ?_); rintro e w10 ⟨rfl, hk⟩; clear hx_0 hx_1 hx_s; clear hX_0 hX_1 hX_s; clear hB_0 hB_1 hB_s; replace hx := (hk.block (rowD hx).2.2).trans hx; replace hX := (hk.block (rowD hX).2.2).trans hX; replace hB := (hk.block (rowD hB).2.2).trans hB; replace hv := hv.call hk; replace hv7 := hv7.call hk; clear hk; obtain ⟨hx_0, hx_1, hx_s⟩ := rowD hx; obtain ⟨hX_0, hX_1, hX_s⟩ := rowD hX; obtain ⟨hB_0, hB_1, hB_s⟩ := rowD hB; clear cW1))
      go_roundw
      case rel => exact ⟨k + 1, by omega, by go_num, hv, hv7⟩
      case measure => simp [intOf]; omega
    · rw [if_neg hjk, if_neg hik] at RU1
      rw [if_neg hik, if_neg hjk] at RV1
      rw [RU1] at cU1
      rw [RV1] at cV1
      have d1 : ¬ (k : Int) = i := fun e => hik e.symm
      have d2 : ¬ (k : Int) = j := fun e => hjk e.symm
      clear RU1 RV1 RU RV hik hb0 hij hjk
      generalize rdL (k : Int) m x = U at cU1 cV1 cW1
      go_wp2_with (first
          | (go_at_call 13; (with_reducible refine (cU1 _ hv7).mono ?_); rintro e w8 ⟨rfl, hk⟩; clear hx_0 hx_1 hx_s; clear hX_0 hX_1 hX_s; clear hB_0 hB_1 hB_s; replace hx := (hk.block (rowD hx).2.2).trans hx; replace hX := (hk.block (rowD hX).2.2).trans hX; replace hB := (hk.block (rowD hB).2.2).trans hB; replace hv := hv.call hk; replace hv7 := hv7.call hk; clear hk; obtain ⟨hx_0, hx_1, hx_s⟩ := rowD hx; obtain ⟨hX_0, hX_1, hX_s⟩ := rowD hX; obtain ⟨hB_0, hB_1, hB_s⟩ := rowD hB; clear cU1)
          | (go_at_call 13; (with_reducible refine (cV1 _ hv7).mono ?_); rintro e w9 ⟨rfl, hk⟩; clear hx_0 hx_1 hx_s; clear hX_0 hX_1 hX_s; clear hB_0 hB_1 hB_s; replace hx := (hk.block (rowD hx).2.2).trans hx; replace hX := (hk.block (rowD hX).2.2).trans hX; replace hB := (hk.block (rowD hB).2.2).trans hB; replace hv := hv.call hk; replace hv7 := hv7.call hk; clear hk; obtain ⟨hx_0, hx_1, hx_s⟩ := rowD hx; obtain ⟨hX_0, hX_1, hX_s⟩ := rowD hX; obtain ⟨hB_0, hB_1, hB_s⟩ := rowD hB; clear cV1)
          | (go_at_call 13; (with_reducible refine (cW1 _ hv).mono ?_); rintro e w10 ⟨rfl, hk⟩; clear hx_0 hx_1 hx_s; clear hX_0 hX_1 hX_s; clear hB_0 hB_1 hB_s; replace hx := (hk.block (rowD hx).2.2).trans hx; replace hX := (hk.block (rowD hX).2.2).trans hX; replace hB := (hk.block (rowD hB).2.2).trans hB; replace hv := hv.call hk; replace hv7 := hv7.call hk; clear hk; obtain ⟨hx_0, hx_1, hx_s⟩ := rowD hx; obtain ⟨hX_0, hX_1, hX_s⟩ := rowD hX; obtain ⟨hB_0, hB_1, hB_s⟩ := rowD hB; clear cW1))
      go_roundw
      case rel => exact ⟨k + 1, by omega, by go_num, hv, hv7⟩
      case measure => simp [intOf]; omega
theorem diskApart_walk (P Q : Option Addr) (cp cq : Nat) (l : List ByteArray) (m : List Wr) (i j : Int) (s t : ByteArray) (w : World) (hh : HasD w P Q l m) (hn : l.length ≤ 9223372036854775807) (hm : m.length ≤ 9223372036854775807) :
    Calls Try.prog 7 #[.agg #[.slice P l.length cp, .slice Q m.length cq], .int .i64 i, .int .i64 j, .string s, .string t] w fun e w' => e = .returned (.bool true) ∧ Calm w w' := by
  by_cases hE : ptE l m ⟨i, s⟩ = 0
  rotate_left
  · exact da_bad P Q cp cq l m i j s t w hh hn hm _ hE rfl
  by_cases hF : ptE l (m ++ [⟨i, s⟩]) ⟨j, t⟩ = 0
  rotate_left
  · exact da_second P Q cp cq l m i j s t w hh hn hm _ hF hE rfl
  by_cases hij : i = j
  · exact da_same P Q cp cq l m i j s t w hh hE hF hij
  · exact da_apart P Q cp cq l m i j s t w hh hn hE hF hij
end Go.Proofs.Ytkppoapjifeifaa
