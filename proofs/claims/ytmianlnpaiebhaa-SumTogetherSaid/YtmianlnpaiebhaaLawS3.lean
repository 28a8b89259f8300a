/- SumTogether: the law's own walk. -/
import Derived.Test.YtmianlnpaiebhaaLawS2
import Derived.Test.YtmianlnpaiebhaaBytes
namespace Go.Proofs.Ytmianlnpaiebhaa
open Go.ChangeShapes Go.WideShapes Go.ChangeAt Go.RowKit

/-- The bytes of the two strings after j rounds. -/
def xorNow (a b : List UInt8) (k j : Nat) : List UInt8 := List.zipWith (· ^^^ ·) (a.take j) (b.take j) ++ List.replicate (k - j) 0
theorem xorNow_length {a b : List UInt8} {k j : Nat} (ha : k ≤ a.length) (hb : k ≤ b.length) (hj : j ≤ k) : (xorNow a b k j).length = k := by
  simp [xorNow]; omega
theorem xorNow_succ {a b : List UInt8} {k j : Nat} (ha : k ≤ a.length) (hb : k ≤ b.length) (hj : j < k) : (xorNow a b k j).set j (a[j] ^^^ b[j]) = xorNow a b k (j + 1) := by
  have hl : (List.zipWith (· ^^^ ·) (a.take j) (b.take j)).length = j := by simp; omega
  unfold xorNow
  rw [List.set_append_right _ _ (by omega), hl, Nat.sub_self, show k - j = (k - (j + 1)) + 1 from by omega, List.replicate_succ, List.set_cons_zero,
    List.take_succ_eq_append_getElem (by omega), List.take_succ_eq_append_getElem (by omega), List.zipWith_append (by simp; omega)]
  simp
theorem xorNow_end {a b : List UInt8} {k : Nat} : xorNow a b k k = List.zipWith (· ^^^ ·) (a.take k) (b.take k) := by simp [xorNow]

theorem sumOf_calm (s : ByteArray) (n : Int) (hs : s.size ≤ maxLen) (h : ((crc s.data.toList).toNat : Int) = n) (w : World) : Calls Try.prog 23 #[.string s] w fun e w' => e = .returned (.int .i64 n) ∧ Calm w w' :=
  (sumOf_at s n w hs h).mono fun _ _ ⟨h1, h2⟩ => ⟨h1, h2 ▸ Calm.refl _⟩
theorem i64_xor16 (x y : BitVec 16) : bits .xor .i64 (x.toNat : Int) (y.toNat : Int) = ((x ^^^ y).toNat : Int) := by
  have h1 := x.isLt; have h2 := y.isLt
  rw [i64_xor _ _ (by omega) (by omega), BitVec.toNat_xor]
theorem extract_take (s : ByteArray) (k : Nat) : (s.extract 0 k).data.toList = s.data.toList.take k := by
  simp [ByteArray.data_extract]
/-- The five sums of the law's last line. -/
theorem sums5 (a b : ByteArray) (k x : Nat) (ha : a.size ≤ 140737488351232) (hka : k ≤ a.size) (hkb : k ≤ b.size) (hx : x < 40) : ∃ cx ca cb cz : Int, bits .xor .i64 ca cb = cx ∧
    (∀ w, Calls Try.prog 23 #[.string ⟨(xorNow a.data.toList b.data.toList k k).toArray⟩] w fun e w' => e = .returned (.int .i64 cx) ∧ Calm w w') ∧
    (∀ w, Calls Try.prog 23 #[.string (a.extract 0 k)] w fun e w' => e = .returned (.int .i64 ca) ∧ Calm w w') ∧
    (∀ w, Calls Try.prog 23 #[.string (b.extract 0 k)] w fun e w' => e = .returned (.int .i64 cb) ∧ Calm w w') ∧
    (∀ w, Calls Try.prog 23 #[.string (⟨(List.replicate x 0).toArray⟩ ++ a)] w fun e w' => e = .returned (.int .i64 cz) ∧ Calm w w') ∧
    (∀ w, Calls Try.prog 23 #[.string a] w fun e w' => e = .returned (.int .i64 cz) ∧ Calm w w') := by
  have hla : a.data.toList.length = a.size := by simp
  have hlb : b.data.toList.length = b.size := by simp
  have hea : (a.extract 0 k).size = k := by rw [ByteArray.size_extract]; omega
  have heb : (b.extract 0 k).size = k := by rw [ByteArray.size_extract]; omega
  refine ⟨_, _, _, _, i64_xor16 (crc (a.data.toList.take k)) (crc (b.data.toList.take k)), sumOf_calm _ _ ?_ ?_, sumOf_calm _ _ ?_ ?_, sumOf_calm _ _ ?_ ?_, sumOf_calm _ _ ?_ ?_, sumOf_calm _ _ ?_ rfl⟩
  · show (xorNow a.data.toList b.data.toList k k).toArray.size ≤ _
    rw [List.size_toArray, xorNow_length (by omega) (by omega) (Nat.le_refl _)]; simp only [maxLen]; omega
  · rw [← crc_both _ _ (by simp; omega)]
    show ((crc (xorNow a.data.toList b.data.toList k k)).toNat : Int) = _
    rw [xorNow_end]
  · rw [hea]; simp only [maxLen]; omega
  · rw [extract_take]
  · rw [heb]; simp only [maxLen]; omega
  · rw [extract_take]
  · rw [ByteArray.size_append]
    show (List.replicate x (0 : UInt8)).toArray.size + _ ≤ _
    simp only [maxLen, List.size_toArray, List.length_replicate]; omega
  · rw [ByteArray.data_append, Array.toList_append]
    show ((crc (List.replicate x 0 ++ _)).toNat : Int) = _
    rw [crc_noughts]
  · simp only [maxLen]; omega

set_option maxRecDepth 100000 in
set_option maxHeartbeats 4000000 in
theorem sumTogether_walk (a b : ByteArray) (n : Int) (w : World) (ha : a.size ≤ 140737488351232) (hb : b.size ≤ 140737488351232) : Calls Try.prog 9 #[.string a, .string b, .int .i64 n] w fun e w' => e = .returned (.bool true) ∧ Calm w w' := by
  obtain ⟨x, hx, hW⟩ := within_any n 40 (by omega) (by omega)
  have m2 := fun w => makeBytes w x (by omega)
  rcases (show a.size ≤ b.size ∨ b.size < a.size from by omega) with hab | hab
  · generalize hk : a.size = k at hab ha
    have m1 := fun w => makeBytes w k (by omega)
    have m3 := fun u : World => BAt.strAt (w := u.alloc (.cells (bv (List.replicate x 0)).toArray 5)) (g := u.heap.size) (l := List.replicate x 0) (rest := []) (fr := (0, 0)) ⟨by rw [heap_alloc_row]; simp, Or.inl rfl⟩ (n := x) (by simp) x
    obtain ⟨cx, ca, cb, cz, hxor, cX, cA, cB, cZ, cN⟩ := sums5 a b k x (by omega) (by omega) hab hx
    generalize hZ : (⟨(List.replicate x (0 : UInt8)).toArray⟩ : ByteArray) = Z at m3 cZ
    have hZs : Z.size ≤ 40 := by rw [← hZ]; show (List.replicate x (0 : UInt8)).toArray.size ≤ 40; simp; omega
    clear hZ
    go_enter Try.func9, Try.ntmps9
    go_wp2_with (first
      | (go_at_call 23; (with_reducible refine (sumOf_check _).mono ?_); rintro e w1 ⟨rfl, rfl⟩))
    go_loopw [9, 22] (fun _ i wr => ∃ j : Nat, j ≤ k ∧ i = .int .i64 j ∧ BAt wr w.heap.size (xorNow a.data.toList b.data.toList k j) [] (0, 0) ∧ Calm w wr) (fun _ i _ => k - (intOf i).toNat)
    case atStart => exact ⟨0, Nat.zero_le _, rfl, ⟨by rw [heap_alloc_row]; simp [xorNow], Or.inl rfl⟩, (Calm.refl _).alloc _⟩
    case round =>
      obtain ⟨j, hj, rfl, hBy, hC⟩ := hrel
      have hL : (xorNow a.data.toList b.data.toList k j).length = k := xorNow_length (by simp; omega) (by simp; omega) hj
      by_cases hlt : j < k
      · have ha8 : j < a.size := by omega
        have hb8 : j < b.size := by omega
        have hX := xor_u8 a[j] b[j]
        go_wp2_with fail
        refine wp_region_plan_tail 10 [.val (.slice (some ⟨w.heap.size, 0, none⟩) k k), .val (.int .i64 (j)), .val (.string a), .val (.int .i64 (j)), .val (.int .u8 (a[j].toNat : Int)), .val (.string b), .val (.int .i64 (j)), .val (.int .u8 (b[j].toNat : Int)), .val (.int .u8 ((a[j] ^^^ b[j]).toNat : Int)), .val (.pointer (some ⟨w.heap.size, j, none⟩))] (by kernel_rfl) (by kernel_rfl) (by kernel_rfl) (by kernel_rfl) ?_
        intro X
        simp only [List.take_succ_cons, List.take_zero, List.drop_succ_cons, List.drop_zero]
        iterate 10
          refine plan_val (by kernel_rfl) (fun u hu => ?_) ?_
          · obtain ⟨hc, hf, hz⟩ := hu.of_drew.facts
            go_simp
            all_goals first
              | (skip)
          simp only [Act.put, List.setIfInBounds_toArray, List.set_cons_zero, List.set_cons_succ, Nat.reduceAdd]
        refine plan_end ?_
        intro w' hB
        have hk := hB.calm.of_drew
        clear hB
        have hB2 := hBy.calm hk
        have f1 := hB2.free (j := j) (by omega)
        obtain ⟨v, f2⟩ : ∃ v, w'.cell? ⟨w.heap.size, j, none⟩ = some v := ⟨_, hB2.cell (j := j) (by omega)⟩
        have hB3 := hB2.set (j := j) (by omega) (a[j] ^^^ b[j])
        have hsu : Hid (_ = _) := Lib.hid (xorNow_succ (a := a.data.toList) (b := b.data.toList) (k := k) (j := j) (by simp; omega) (by simp; omega) hlt)
        have hC2 := (hC.call hk).setCell (p := ⟨w.heap.size, j, none⟩) (Nat.le_refl _) (.int .u8 ((a[j] ^^^ b[j]).toNat : Int))
        clear hk hBy hB2 hX
        go_wp2
        go_roundw
        case rel => exact ⟨j + 1, by omega, by go_num, by rw [← hsu.out]; exact hB3, hC2⟩
        case measure => simp [intOf]; omega
      · obtain rfl : k = j := by omega
        clear m1
        go_wp2_with (go_at_call 32; refine (hW _).mono ?_; rintro e w1 ⟨rfl, rfl⟩)
        have hB4 : BAt (wr.alloc (.cells (bv (List.replicate x 0)).toArray 5)) w.heap.size (xorNow a.data.toList b.data.toList k k) [] (0, 0) := ⟨heap_past _ hBy.1, hBy.2⟩
        have hC4 := hC.alloc (.cells (bv (List.replicate x 0)).toArray 5)
        generalize wr.alloc (.cells (bv (List.replicate x 0)).toArray 5) = wz at hB4 hC4 ⊢
        refine wp_region_plan [.val (.slice (some ⟨w.heap.size, 0, none⟩) k k), .val (.string ⟨(xorNow a.data.toList b.data.toList k k).toArray⟩), .val (.int .i64 (cx)), .val (.string a), .val (.int .i64 (k)), .val (.string (a.extract 0 k)), .val (.int .i64 (ca)), .val (.string b), .val (.int .i64 (k)), .val (.string (b.extract 0 k)), .val (.int .i64 (cb)), .val (.int .i64 (cx)), .val (.bool true), .val (.bool true), .val (.string Z), .val (.string a), .val (.string (Z ++ a)), .val (.int .i64 (cz)), .val (.string a), .val (.int .i64 (cz)), .val (.bool true), .val (.bool true), .val (.bool true)] (by kernel_rfl) (by kernel_rfl) (by kernel_rfl) ?_
        intro X
        iterate 23
          refine plan_val (by kernel_rfl) (fun u hu => ?_) ?_
          · obtain ⟨hc, hf, hz⟩ := hu.of_drew.facts
            go_simp
            all_goals first
              | ((go_at_call 23; first | (with_reducible exact cX _) | (with_reducible exact cA _) | (with_reducible exact cB _) | (with_reducible exact cZ _) | (with_reducible exact cN _)))
              | ((rw [if_neg (by omega)]; go_simp))
              | ((rw [(hB4.calm hu.of_drew).strAt hL]; go_simp))
          simp only [Act.put, List.setIfInBounds_toArray, List.set_cons_zero, List.set_cons_succ, Nat.reduceAdd]
        refine plan_end ?_
        intro w' hB
        have hk := hB.calm.of_drew
        clear hB
        go_wp2
        go_ret
        exact ⟨rfl, hC4.call hk⟩
  · generalize hk : b.size = k at hab hb
    have hka : k ≤ a.size := by omega
    have m1 := fun w => makeBytes w k (by omega)
    have m3 := fun u : World => BAt.strAt (w := u.alloc (.cells (bv (List.replicate x 0)).toArray 5)) (g := u.heap.size) (l := List.replicate x 0) (rest := []) (fr := (0, 0)) ⟨by rw [heap_alloc_row]; simp, Or.inl rfl⟩ (n := x) (by simp) x
    obtain ⟨cx, ca, cb, cz, hxor, cX, cA, cB, cZ, cN⟩ := sums5 a b k x (by omega) (by omega) (by omega) hx
    generalize hZ : (⟨(List.replicate x (0 : UInt8)).toArray⟩ : ByteArray) = Z at m3 cZ
    have hZs : Z.size ≤ 40 := by rw [← hZ]; show (List.replicate x (0 : UInt8)).toArray.size ≤ 40; simp; omega
    clear hZ
    go_enter Try.func9, Try.ntmps9
    go_wp2_with (first
      | (go_at_call 23; (with_reducible refine (sumOf_check _).mono ?_); rintro e w1 ⟨rfl, rfl⟩))
    go_loopw [9, 22] (fun _ i wr => ∃ j : Nat, j ≤ k ∧ i = .int .i64 j ∧ BAt wr w.heap.size (xorNow a.data.toList b.data.toList k j) [] (0, 0) ∧ Calm w wr) (fun _ i _ => k - (intOf i).toNat)
    case atStart => exact ⟨0, Nat.zero_le _, rfl, ⟨by rw [heap_alloc_row]; simp [xorNow], Or.inl rfl⟩, (Calm.refl _).alloc _⟩
    case round =>
      obtain ⟨j, hj, rfl, hBy, hC⟩ := hrel
      have hL : (xorNow a.data.toList b.data.toList k j).length = k := xorNow_length (by simp; omega) (by simp; omega) hj
      by_cases hlt : j < k
      · have ha8 : j < a.size := by omega
        have hb8 : j < b.size := by omega
        have hX := xor_u8 a[j] b[j]
        go_wp2_with fail
        refine wp_region_plan_tail 10 [.val (.slice (some ⟨w.heap.size, 0, none⟩) k k), .val (.int .i64 (j)), .val (.string a), .val (.int .i64 (j)), .val (.int .u8 (a[j].toNat : Int)), .val (.string b), .val (.int .i64 (j)), .val (.int .u8 (b[j].toNat : Int)), .val (.int .u8 ((a[j] ^^^ b[j]).toNat : Int)), .val (.pointer (some ⟨w.heap.size, j, none⟩))] (by kernel_rfl) (by kernel_rfl) (by kernel_rfl) (by kernel_rfl) ?_
        intro X
        simp only [List.take_succ_cons, List.take_zero, List.drop_succ_cons, List.drop_zero]
        iterate 10
          refine plan_val (by kernel_rfl) (fun u hu => ?_) ?_
          · obtain ⟨hc, hf, hz⟩ := hu.of_drew.facts
            go_simp
            all_goals first
              | (skip)
          simp only [Act.put, List.setIfInBounds_toArray, List.set_cons_zero, List.set_cons_succ, Nat.reduceAdd]
        refine plan_end ?_
        intro w' hB
        have hk := hB.calm.of_drew
        clear hB
        have hB2 := hBy.calm hk
        have f1 := hB2.free (j := j) (by omega)
        obtain ⟨v, f2⟩ : ∃ v, w'.cell? ⟨w.heap.size, j, none⟩ = some v := ⟨_, hB2.cell (j := j) (by omega)⟩
        have hB3 := hB2.set (j := j) (by omega) (a[j] ^^^ b[j])
        have hsu : Hid (_ = _) := Lib.hid (xorNow_succ (a := a.data.toList) (b := b.data.toList) (k := k) (j := j) (by simp; omega) (by simp; omega) hlt)
        have hC2 := (hC.call hk).setCell (p := ⟨w.heap.size, j, none⟩) (Nat.le_refl _) (.int .u8 ((a[j] ^^^ b[j]).toNat : Int))
        clear hk hBy hB2 hX
        go_wp2
        go_roundw
        case rel => exact ⟨j + 1, by omega, by go_num, by rw [← hsu.out]; exact hB3, hC2⟩
        case measure => simp [intOf]; omega
      · obtain rfl : k = j := by omega
        clear m1
        go_wp2_with (go_at_call 32; refine (hW _).mono ?_; rintro e w1 ⟨rfl, rfl⟩)
        have hB4 : BAt (wr.alloc (.cells (bv (List.replicate x 0)).toArray 5)) w.heap.size (xorNow a.data.toList b.data.toList k k) [] (0, 0) := ⟨heap_past _ hBy.1, hBy.2⟩
        have hC4 := hC.alloc (.cells (bv (List.replicate x 0)).toArray 5)
        generalize wr.alloc (.cells (bv (List.replicate x 0)).toArray 5) = wz at hB4 hC4 ⊢
        refine wp_region_plan [.val (.slice (some ⟨w.heap.size, 0, none⟩) k k), .val (.string ⟨(xorNow a.data.toList b.data.toList k k).toArray⟩), .val (.int .i64 (cx)), .val (.string a), .val (.int .i64 (k)), .val (.string (a.extract 0 k)), .val (.int .i64 (ca)), .val (.string b), .val (.int .i64 (k)), .val (.string (b.extract 0 k)), .val (.int .i64 (cb)), .val (.int .i64 (cx)), .val (.bool true), .val (.bool true), .val (.string Z), .val (.string a), .val (.string (Z ++ a)), .val (.int .i64 (cz)), .val (.string a), .val (.int .i64 (cz)), .val (.bool true), .val (.bool true), .val (.bool true)] (by kernel_rfl) (by kernel_rfl) (by kernel_rfl) ?_
        intro X
        iterate 23
          refine plan_val (by kernel_rfl) (fun u hu => ?_) ?_
          · obtain ⟨hc, hf, hz⟩ := hu.of_drew.facts
            go_simp
            all_goals first
              | ((go_at_call 23; first | (with_reducible exact cX _) | (with_reducible exact cA _) | (with_reducible exact cB _) | (with_reducible exact cZ _) | (with_reducible exact cN _)))
              | ((rw [if_neg (by omega)]; go_simp))
              | ((rw [(hB4.calm hu.of_drew).strAt hL]; go_simp))
          simp only [Act.put, List.setIfInBounds_toArray, List.set_cons_zero, List.set_cons_succ, Nat.reduceAdd]
        refine plan_end ?_
        intro w' hB
        have hk := hB.calm.of_drew
        clear hB
        go_wp2
        go_ret
        exact ⟨rfl, hC4.call hk⟩

end Go.Proofs.Ytmianlnpaiebhaa
