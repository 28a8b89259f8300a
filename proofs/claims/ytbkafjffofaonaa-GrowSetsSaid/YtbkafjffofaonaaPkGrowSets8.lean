/- Texts of one kind in one file. -/
import Derived.Laws.AppendOwnNone
import Derived.Test.YtbkafjffofaonaaPkGrowSets7
set_option maxRecDepth 100000
namespace Go.Proofs.Ytbkafjffofaonaa
open Go.RowKit
def pcV (b q c L n i:Nat):Value:=.slice (some ⟨b,q+i * L / n * 6,none⟩) ((i+1) * L / n - i * L / n) (c - i * L / n)
def prow (b q c L n k:Nat):List Value:=(List.range k).map (pcV b q c L n)++List.replicate (n - k) (.slice none 0 0)
theorem prow_set {b q c L n k:Nat} (hk:k<n):(prow b q c L n k).set k (pcV b q c L n k)=prow b q c L n (k+1):=by
 unfold prow
 rw [List.set_append_right _ _ (by simp),List.length_map,List.length_range,Nat.sub_self,show n - k=(n - (k+1))+1 by omega,List.replicate_succ,List.set_cons_zero,List.range_succ,List.map_append,List.append_assoc]
 rfl
theorem prow_get {b q c L n i:Nat} (hi:i<n):(prow b q c L n n)[i]?=some (pcV b q c L n i):=by
 unfold prow
 rw [Nat.sub_self,List.replicate_zero,List.append_nil,List.getElem?_map,List.getElem?_range hi];rfl
theorem makeSlE (w : World) (k : Nat) (hk : k ≤ 1000) : (Instr.makeSlice 111 (.int .i64 (k : Int)) (.int .i64 (k : Int))).run Try.prog w =
    .ok (.slice (some ⟨w.heap.size, 0, none⟩) k k) (w.alloc (.cells (List.replicate k (.slice none 0 0)).toArray 28)) := by
  obtain ⟨i, hi, hz, h1, h2⟩ : ∃ i, Try.prog.info? 28 = some i ∧ i.zero = some (.slice none 0 0) ∧ i.size = 1 ∧ i.bytes = 24 := by
    have h : (Try.prog.info? 28).map (fun i => (i.zero, i.size, i.bytes)) = some (some (.slice none 0 0), 1, 24) := by kernel_rfl
    match hi : Try.prog.info? 28, h with
    | some i, h =>
      simp only [Option.map_some, Option.some.injEq, Prod.mk.injEq] at h
      exact ⟨i, rfl, h.1, h.2.1, h.2.2⟩
  rw [run_make w 111 28 i _ Try.underlying111 hi hz .i64 .i64 k k (by omega) (by omega) (by rw [h2]; omega) (by omega), h1]
  have e : madeCells (Value.slice none 0 0).cells (((k : Int)).toNat * 1) = (List.replicate k (Value.slice none 0 0)).toArray := by
    simp only [madeCells, Value.cells, Int.toNat_natCast, Nat.mul_one]
    apply Array.ext
    · simp
    · intro i h1 h2
      simp [Nat.mod_one]
  rw [e]; rfl
set_option maxHeartbeats 8000000 in
theorem partsE_any (b q c L : Nat) (w : World) (hL : L ≤ 400) (hp : 0 < L) (hc : L ≤ c) :
    Calls Try.prog 88 #[.slice (some ⟨b, q, none⟩) L c] w fun e w' => ∃ bP, e = .returned (.slice (some ⟨bP, 0, none⟩) (partsN L) (partsN L)) ∧ w.heap.size ≤ bP ∧ w'.heap[bP]? = some (.cells (prow b q c L (partsN L) (partsN L)).toArray 28 (0, 0)) ∧ Calm w w' := by
  obtain ⟨n, hn⟩ : ∃ n, n = partsN L := ⟨_, rfl⟩
  rw [← hn]
  have hn1 : 0 < n := by rw [hn]; unfold partsN; omega
  have hn2 : n ≤ 50 := by rw [hn]; unfold partsN; omega
  obtain ⟨L8, hL8⟩ : ∃ L8 : Nat, L8 = L + 8 := ⟨_, rfl⟩
  obtain ⟨L7, hL7⟩ : ∃ L7 : Nat, L7 = L + 7 := ⟨_, rfl⟩
  have g1 : IntKind.i64.wrap ((L : Int) + 8) = (L8 : Int) := by rw [IntWalk.i64_in _ (by omega)]; omega
  have g2 : IntKind.i64.wrap ((L8 : Int) - 1) = (L7 : Int) := by rw [IntWalk.i64_in _ (by omega)]; omega
  have g3' : (L7 : Int) / 8 = (n : Int) := by rw [hn]; unfold partsN; omega
  have g3t : (L7 : Int).tdiv 8 = (n : Int) := by rw [Int.tdiv_eq_ediv_of_nonneg (by omega)]; exact g3'
  have g3 : IntKind.i64.wrap ((L7 : Int).tdiv 8) = (n : Int) := by rw [g3t]; exact IntWalk.i64_in _ (by omega)
  have g4 : IntKind.i64.wrap ((L7 : Int) / 8) = (n : Int) := by rw [g3']; exact IntWalk.i64_in _ (by omega)
  have HN := Lib.hid hn
  have hmk := makeSlE w n (by omega)
  clear hL8 hL7 hn g3' g3t
  go_enter Try.func88, Try.ntmps88
  go_wp2_with fail
  have hb0 := heap_new w (.cells (List.replicate n (.slice none 0 0)).toArray 28)
  go_loopw [15] (fun i wr => ∃ k : Nat, k ≤ n ∧ i = .int .i64 k ∧ Calm w wr ∧ Hid (wr.heap[w.heap.size]? = some (.cells (prow b q c L n k).toArray 28 (0, 0)))) (fun i _ => n - (intOf i).toNat)
  case atStart => exact ⟨0, Nat.zero_le _, rfl, (Calm.refl _).alloc _, show _ = _ by unfold prow; simpa using hb0⟩
  clear hb0 hmk g1 g2 g3 g4
  case round =>
    obtain ⟨k, hk, rfl, hu, hR⟩ := hrel
    by_cases hlt : k < n
    rotate_left
    · obtain rfl : k = n := by omega
      go_wp2_with fail
      go_ret
      exact ⟨_, rfl, Nat.le_refl _, hR.out, hu⟩
    obtain ⟨s1, s2, -, -, -, -⟩ := cut_size HN.out hlt
    obtain ⟨K1, hK1⟩ : ∃ K1, K1 = k + 1 := ⟨_, rfl⟩
    obtain ⟨KL, hKL⟩ : ∃ KL, KL = k * L := ⟨_, rfl⟩
    obtain ⟨KM, hKM⟩ : ∃ KM, KM = K1 * L := ⟨_, rfl⟩
    obtain ⟨a, ha⟩ : ∃ a, a = KL / n := ⟨_, rfl⟩
    obtain ⟨a2, ha2⟩ : ∃ a2, a2 = KM / n := ⟨_, rfl⟩
    have hlt2 : (K1 - 1) * L / n < (K1 * L) / n + 1 := by rw [hK1, Nat.add_sub_cancel]; omega
    have h4 : 0 < L := hp
    have hpc : Hid (pcV b q c L n k = .slice (some ⟨b, q + a * 6, none⟩) (a2 - a) (c - a)) := show _ = _ by unfold pcV; rw [ha, ha2, hKL, hKM, hK1]
    have haa : a ≤ a2 := by rw [ha, ha2, hKL, hKM, hK1]; exact s1
    have hal : a2 ≤ L := by rw [ha2, hKM, hK1]; exact s2
    have hb3 : a < L := by
      rw [ha, hKL]
      exact Nat.div_lt_of_lt_mul (by rw [Nat.mul_comm n L, Nat.mul_comm k L]; exact Nat.mul_lt_mul_of_pos_left hlt h4)
    have m1 : KL ≤ 50 * 400 := by rw [hKL]; exact Nat.mul_le_mul (by omega) hL
    have m2 : KM ≤ 51 * 400 := by rw [hKM, hK1]; exact Nat.mul_le_mul (by omega) hL
    have t1 : ((k : Int) * (L : Int)) = (KL : Int) := by rw [hKL]; simp
    have t2 : ((K1 : Int) * (L : Int)) = (KM : Int) := by rw [hKM]; simp
    have t3 : ((KL : Int).tdiv (n : Int)) = (a : Int) := by rw [ha, Int.tdiv_eq_ediv_of_nonneg (by omega)]; simp
    have t4 : ((KM : Int).tdiv (n : Int)) = (a2 : Int) := by rw [ha2, Int.tdiv_eq_ediv_of_nonneg (by omega)]; simp
    have t5 : ((KL : Int) / (n : Int)) = (a : Int) := by rw [ha]; simp
    have t6 : ((KM : Int) / (n : Int)) = (a2 : Int) := by rw [ha2]; simp
    have e1 : IntKind.i64.wrap ((k : Int) * (L : Int)) = (KL : Int) := by rw [t1]; exact IntWalk.i64_in _ (by omega)
    have e2 : IntKind.i64.wrap ((K1 : Int) * (L : Int)) = (KM : Int) := by rw [t2]; exact IntWalk.i64_in _ (by omega)
    have e3 : IntKind.i64.wrap ((KL : Int).tdiv (n : Int)) = (a : Int) := by rw [t3]; exact IntWalk.i64_in _ (by omega)
    have e4 : IntKind.i64.wrap ((KM : Int).tdiv (n : Int)) = (a2 : Int) := by rw [t4]; exact IntWalk.i64_in _ (by omega)
    have e5 : IntKind.i64.wrap ((KL : Int) / (n : Int)) = (a : Int) := by rw [t5]; exact IntWalk.i64_in _ (by omega)
    have e6 : IntKind.i64.wrap ((KM : Int) / (n : Int)) = (a2 : Int) := by rw [t6]; exact IntWalk.i64_in _ (by omega)
    have e7 : IntKind.i64.wrap ((k : Int) + 1) = (K1 : Int) := by rw [hK1, IntWalk.i64_in _ (by omega)]; omega
    have i0 : ¬ n = 0 := by omega
    have i1 : (a : Int) ≤ (a2 : Int) := by omega
    have i2 : (a2 : Int) ≤ (c : Int) := by omega
    have i3 : ¬ c = a := by omega
    have i5 : (0 : Int) ≤ (a : Int) := by omega
    have i6 : (k : Int) < (n : Int) := by omega
    have hsz := (Array.getElem?_eq_some_iff.1 hR.out).1
    have HS := Lib.hid (prow_set (b := b) (q := q) (c := c) (L := L) hlt)
    have hrk : (prow b q c L n k)[k]? = some (.slice none 0 0) := by
      unfold prow
      rw [List.getElem?_append_right (by simp), List.length_map, List.length_range, Nat.sub_self, List.getElem?_replicate, if_pos (by omega)]
    have hck := cell_of_row _ _ k _ _ _ hR.out
    rw [List.getElem?_toArray, hrk] at hck
    have HK1 := Lib.hid hK1
    clear hK1 hKL hKM ha ha2 hlt2 s1 s2 t1 t2 t3 t4 t5 t6 m1 m2 hrk
    go_upto_region 6 with fail
    refine wp_region_plan_tail 18 [.val (.slice (some ⟨w.heap.size, 0, none⟩) n n), .val (.int .i64 ((k : Int))), .val (.slice (some ⟨b, q, none⟩) L c), .val (.int .i64 ((k : Int))), .val (.slice (some ⟨b, q, none⟩) L c), .val (.int .i64 ((L : Int))), .val (.int .i64 ((KL : Int))), .val (.int .i64 ((n : Int))), .val (.int .i64 ((a : Int))), .val (.int .i64 ((k : Int))), .val (.int .i64 ((K1 : Int))), .val (.slice (some ⟨b, q, none⟩) L c), .val (.int .i64 ((L : Int))), .val (.int .i64 ((KM : Int))), .val (.int .i64 ((n : Int))), .val (.int .i64 ((a2 : Int))), .val (.slice (some ⟨b, q + a * 6, none⟩) (a2 - a) (c - a)), .val (.pointer (some ⟨w.heap.size, k, none⟩))] (by kernel_rfl) (by kernel_rfl) (by kernel_rfl) (by kernel_rfl) ?_
    intro X
    simp only [List.take_succ_cons, List.take_zero, List.drop_succ_cons, List.drop_zero]
    iterate 18
      refine plan_val (by kernel_rfl) (fun u hu => ?_) ?_
      · obtain ⟨hc, hf, hz⟩ := hu.of_drew.facts
        go_simp
        all_goals first
          | (exact e1)
          | (exact e2)
          | (exact e3)
          | (exact e4)
          | (exact e5)
          | (exact e6)
          | (exact e7)
      simp only [Act.put, List.setIfInBounds_toArray, List.set_cons_zero, List.set_cons_succ, Nat.reduceAdd]
    refine plan_end ?_
    intro w' hB
    have hk := hB.calm.of_drew
    clear hB
    have hR2 := (hk.block hsz).trans hR.out
    have hck2 := (hk.facts.1 w.heap.size k hsz).trans hck
    have hfr := frozen_of_row _ _ k _ _ hR2
    have hset := heap_setCell_same w' w.heap.size k _ _ (pcV b q c L n k) hR2
    rw [List.setIfInBounds_toArray, HS.out, hpc.out] at hset
    have HSET := Lib.hid hset
    have hu2 := (hu.call hk).setCell (p := ⟨w.heap.size, k, none⟩) (Nat.le_refl _) (.slice (some ⟨b, q + a * 6, none⟩) (a2 - a) (c - a))
    have hz2 := hk.size
    clear hR hck hR2 hset HS e1 e2 e3 e4 e5 e6 e7
    go_wp2_with fail
    exact ⟨⟨k + 1, by omega, by go_num, hu2, HSET⟩, by simp [intOf]; omega⟩
theorem makeSlB (w : World) (k : Nat) (hk : k ≤ 1000) : (Instr.makeSlice 173 (.int .i64 (k : Int)) (.int .i64 (k : Int))).run Try.prog w =
    .ok (.slice (some ⟨w.heap.size, 0, none⟩) k k) (w.alloc (.cells (List.replicate k (.slice none 0 0)).toArray 137)) := by
  obtain ⟨i, hi, hz, h1, h2⟩ : ∃ i, Try.prog.info? 137 = some i ∧ i.zero = some (.slice none 0 0) ∧ i.size = 1 ∧ i.bytes = 24 := by
    have h : (Try.prog.info? 137).map (fun i => (i.zero, i.size, i.bytes)) = some (some (.slice none 0 0), 1, 24) := by kernel_rfl
    match hi : Try.prog.info? 137, h with
    | some i, h =>
      simp only [Option.map_some, Option.some.injEq, Prod.mk.injEq] at h
      exact ⟨i, rfl, h.1, h.2.1, h.2.2⟩
  rw [run_make w 173 137 i _ Try.underlying173 hi hz .i64 .i64 k k (by omega) (by omega) (by rw [h2]; omega) (by omega), h1]
  have e : madeCells (Value.slice none 0 0).cells (((k : Int)).toNat * 1) = (List.replicate k (Value.slice none 0 0)).toArray := by
    simp only [madeCells, Value.cells, Int.toNat_natCast, Nat.mul_one]
    apply Array.ext
    · simp
    · intro i h1 h2
      simp [Nat.mod_one]
  rw [e]; rfl
set_option maxHeartbeats 8000000 in
theorem partsB_any (b q c L : Nat) (w : World) (hL : L ≤ 400) (hp : 0 < L) (hc : L ≤ c) :
    Calls Try.prog 120 #[.slice (some ⟨b, q, none⟩) L c] w fun e w' => ∃ bP, e = .returned (.slice (some ⟨bP, 0, none⟩) (partsN L) (partsN L)) ∧ w.heap.size ≤ bP ∧ w'.heap[bP]? = some (.cells (prow b q c L (partsN L) (partsN L)).toArray 137 (0, 0)) ∧ Calm w w' := by
  obtain ⟨n, hn⟩ : ∃ n, n = partsN L := ⟨_, rfl⟩
  rw [← hn]
  have hn1 : 0 < n := by rw [hn]; unfold partsN; omega
  have hn2 : n ≤ 50 := by rw [hn]; unfold partsN; omega
  obtain ⟨L8, hL8⟩ : ∃ L8 : Nat, L8 = L + 8 := ⟨_, rfl⟩
  obtain ⟨L7, hL7⟩ : ∃ L7 : Nat, L7 = L + 7 := ⟨_, rfl⟩
  have g1 : IntKind.i64.wrap ((L : Int) + 8) = (L8 : Int) := by rw [IntWalk.i64_in _ (by omega)]; omega
  have g2 : IntKind.i64.wrap ((L8 : Int) - 1) = (L7 : Int) := by rw [IntWalk.i64_in _ (by omega)]; omega
  have g3' : (L7 : Int) / 8 = (n : Int) := by rw [hn]; unfold partsN; omega
  have g3t : (L7 : Int).tdiv 8 = (n : Int) := by rw [Int.tdiv_eq_ediv_of_nonneg (by omega)]; exact g3'
  have g3 : IntKind.i64.wrap ((L7 : Int).tdiv 8) = (n : Int) := by rw [g3t]; exact IntWalk.i64_in _ (by omega)
  have g4 : IntKind.i64.wrap ((L7 : Int) / 8) = (n : Int) := by rw [g3']; exact IntWalk.i64_in _ (by omega)
  have HN := Lib.hid hn
  have hmk := makeSlB w n (by omega)
  clear hL8 hL7 hn g3' g3t
  go_enter Try.func120, Try.ntmps120
  go_wp2_with fail
  have hb0 := heap_new w (.cells (List.replicate n (.slice none 0 0)).toArray 137)
  go_loopw [15] (fun i wr => ∃ k : Nat, k ≤ n ∧ i = .int .i64 k ∧ Calm w wr ∧ Hid (wr.heap[w.heap.size]? = some (.cells (prow b q c L n k).toArray 137 (0, 0)))) (fun i _ => n - (intOf i).toNat)
  case atStart => exact ⟨0, Nat.zero_le _, rfl, (Calm.refl _).alloc _, show _ = _ by unfold prow; simpa using hb0⟩
  clear hb0 hmk g1 g2 g3 g4
  case round =>
    obtain ⟨k, hk, rfl, hu, hR⟩ := hrel
    by_cases hlt : k < n
    rotate_left
    · obtain rfl : k = n := by omega
      go_wp2_with fail
      go_ret
      exact ⟨_, rfl, Nat.le_refl _, hR.out, hu⟩
    obtain ⟨s1, s2, -, -, -, -⟩ := cut_size HN.out hlt
    obtain ⟨K1, hK1⟩ : ∃ K1, K1 = k + 1 := ⟨_, rfl⟩
    obtain ⟨KL, hKL⟩ : ∃ KL, KL = k * L := ⟨_, rfl⟩
    obtain ⟨KM, hKM⟩ : ∃ KM, KM = K1 * L := ⟨_, rfl⟩
    obtain ⟨a, ha⟩ : ∃ a, a = KL / n := ⟨_, rfl⟩
    obtain ⟨a2, ha2⟩ : ∃ a2, a2 = KM / n := ⟨_, rfl⟩
    have hlt2 : (K1 - 1) * L / n < (K1 * L) / n + 1 := by rw [hK1, Nat.add_sub_cancel]; omega
    have h4 : 0 < L := hp
    have hpc : Hid (pcV b q c L n k = .slice (some ⟨b, q + a * 6, none⟩) (a2 - a) (c - a)) := show _ = _ by unfold pcV; rw [ha, ha2, hKL, hKM, hK1]
    have haa : a ≤ a2 := by rw [ha, ha2, hKL, hKM, hK1]; exact s1
    have hal : a2 ≤ L := by rw [ha2, hKM, hK1]; exact s2
    have hb3 : a < L := by
      rw [ha, hKL]
      exact Nat.div_lt_of_lt_mul (by rw [Nat.mul_comm n L, Nat.mul_comm k L]; exact Nat.mul_lt_mul_of_pos_left hlt h4)
    have m1 : KL ≤ 50 * 400 := by rw [hKL]; exact Nat.mul_le_mul (by omega) hL
    have m2 : KM ≤ 51 * 400 := by rw [hKM, hK1]; exact Nat.mul_le_mul (by omega) hL
    have t1 : ((k : Int) * (L : Int)) = (KL : Int) := by rw [hKL]; simp
    have t2 : ((K1 : Int) * (L : Int)) = (KM : Int) := by rw [hKM]; simp
    have t3 : ((KL : Int).tdiv (n : Int)) = (a : Int) := by rw [ha, Int.tdiv_eq_ediv_of_nonneg (by omega)]; simp
    have t4 : ((KM : Int).tdiv (n : Int)) = (a2 : Int) := by rw [ha2, Int.tdiv_eq_ediv_of_nonneg (by omega)]; simp
    have t5 : ((KL : Int) / (n : Int)) = (a : Int) := by rw [ha]; simp
    have t6 : ((KM : Int) / (n : Int)) = (a2 : Int) := by rw [ha2]; simp
    have e1 : IntKind.i64.wrap ((k : Int) * (L : Int)) = (KL : Int) := by rw [t1]; exact IntWalk.i64_in _ (by omega)
    have e2 : IntKind.i64.wrap ((K1 : Int) * (L : Int)) = (KM : Int) := by rw [t2]; exact IntWalk.i64_in _ (by omega)
    have e3 : IntKind.i64.wrap ((KL : Int).tdiv (n : Int)) = (a : Int) := by rw [t3]; exact IntWalk.i64_in _ (by omega)
    have e4 : IntKind.i64.wrap ((KM : Int).tdiv (n : Int)) = (a2 : Int) := by rw [t4]; exact IntWalk.i64_in _ (by omega)
    have e5 : IntKind.i64.wrap ((KL : Int) / (n : Int)) = (a : Int) := by rw [t5]; exact IntWalk.i64_in _ (by omega)
    have e6 : IntKind.i64.wrap ((KM : Int) / (n : Int)) = (a2 : Int) := by rw [t6]; exact IntWalk.i64_in _ (by omega)
    have e7 : IntKind.i64.wrap ((k : Int) + 1) = (K1 : Int) := by rw [hK1, IntWalk.i64_in _ (by omega)]; omega
    have i0 : ¬ n = 0 := by omega
    have i1 : (a : Int) ≤ (a2 : Int) := by omega
    have i2 : (a2 : Int) ≤ (c : Int) := by omega
    have i3 : ¬ c = a := by omega
    have i5 : (0 : Int) ≤ (a : Int) := by omega
    have i6 : (k : Int) < (n : Int) := by omega
    have hsz := (Array.getElem?_eq_some_iff.1 hR.out).1
    have HS := Lib.hid (prow_set (b := b) (q := q) (c := c) (L := L) hlt)
    have hrk : (prow b q c L n k)[k]? = some (.slice none 0 0) := by
      unfold prow
      rw [List.getElem?_append_right (by simp), List.length_map, List.length_range, Nat.sub_self, List.getElem?_replicate, if_pos (by omega)]
    have hck := cell_of_row _ _ k _ _ _ hR.out
    rw [List.getElem?_toArray, hrk] at hck
    have HK1 := Lib.hid hK1
    clear hK1 hKL hKM ha ha2 hlt2 s1 s2 t1 t2 t3 t4 t5 t6 m1 m2 hrk
    go_upto_region 6 with fail
    refine wp_region_plan_tail 18 [.val (.slice (some ⟨w.heap.size, 0, none⟩) n n), .val (.int .i64 ((k : Int))), .val (.slice (some ⟨b, q, none⟩) L c), .val (.int .i64 ((k : Int))), .val (.slice (some ⟨b, q, none⟩) L c), .val (.int .i64 ((L : Int))), .val (.int .i64 ((KL : Int))), .val (.int .i64 ((n : Int))), .val (.int .i64 ((a : Int))), .val (.int .i64 ((k : Int))), .val (.int .i64 ((K1 : Int))), .val (.slice (some ⟨b, q, none⟩) L c), .val (.int .i64 ((L : Int))), .val (.int .i64 ((KM : Int))), .val (.int .i64 ((n : Int))), .val (.int .i64 ((a2 : Int))), .val (.slice (some ⟨b, q + a * 6, none⟩) (a2 - a) (c - a)), .val (.pointer (some ⟨w.heap.size, k, none⟩))] (by kernel_rfl) (by kernel_rfl) (by kernel_rfl) (by kernel_rfl) ?_
    intro X
    simp only [List.take_succ_cons, List.take_zero, List.drop_succ_cons, List.drop_zero]
    iterate 18
      refine plan_val (by kernel_rfl) (fun u hu => ?_) ?_
      · obtain ⟨hc, hf, hz⟩ := hu.of_drew.facts
        go_simp
        all_goals first
          | (exact e1)
          | (exact e2)
          | (exact e3)
          | (exact e4)
          | (exact e5)
          | (exact e6)
          | (exact e7)
      simp only [Act.put, List.setIfInBounds_toArray, List.set_cons_zero, List.set_cons_succ, Nat.reduceAdd]
    refine plan_end ?_
    intro w' hB
    have hk := hB.calm.of_drew
    clear hB
    have hR2 := (hk.block hsz).trans hR.out
    have hck2 := (hk.facts.1 w.heap.size k hsz).trans hck
    have hfr := frozen_of_row _ _ k _ _ hR2
    have hset := heap_setCell_same w' w.heap.size k _ _ (pcV b q c L n k) hR2
    rw [List.setIfInBounds_toArray, HS.out, hpc.out] at hset
    have HSET := Lib.hid hset
    have hu2 := (hu.call hk).setCell (p := ⟨w.heap.size, k, none⟩) (Nat.le_refl _) (.slice (some ⟨b, q + a * 6, none⟩) (a2 - a) (c - a))
    have hz2 := hk.size
    clear hR hck hR2 hset HS e1 e2 e3 e4 e5 e6 e7
    go_wp2_with fail
    exact ⟨⟨k + 1, by omega, by go_num, hu2, HSET⟩, by simp [intOf]; omega⟩
open Go.RowKit
structure LvI {α:Type} (g:Nat) (root:Int) (v:Value) (us:List Nd) (wP:World) (bP:Nat) (mk:List α→Nd) (fs:List α→Sp) (ps:List (List α)) (j:Nat) (lv v':Value) (ns:List Nd) (w:World):Prop where
 own:OwnBr wP.heap.size w lv (mkBr mk fs us.length (ps.take j))
 nb:ns.map Nd.bare=(ps.take j).map mk
 st:BSt w g root v' (us++ns)
 stp:Stp g v us v' (us++ns) wP w
 dis:∀ k,lv.ownBlock=some k→¬ TBk g v' (us++ns) k∧k≠bP
theorem LvI.next {α : Type} {g : Nat} {root : Int} {v : Value} {us : List Nd} {wP : World} {bP : Nat} {mk : List α → Nd} {fs : List α → Sp} {ps : List (List α)} {j : Nat} {lv v' v'' : Value} {ns : List Nd} {wr w1 : World} (h : LvI g root v us wP bP mk fs ps j lv v' ns wr) (hbP : bP < wP.heap.size) {p : List α} (hp : ps[j]? = some p) {n : Nd} (hbn : n.bare = mk p)
    (h1 : BSt w1 g root v'' (us ++ ns ++ [n])) (h2 : Stp g v' (us ++ ns) v'' (us ++ ns ++ [n]) wr w1) :
    OwnBr wP.heap.size w1 lv (mkBr mk fs us.length (ps.take j)) ∧ ∀ (u w9 : World) (lv' : Value), Calm w1 u → OwnBr wP.heap.size w9 lv' (mkBr mk fs us.length (ps.take j) ++ [⟨((us ++ ns).length : Int), fs p, ndT (mk p)⟩]) → u.grownBy w9 lv.ownBlock → (lv'.ownBlock = lv.ownBlock ∨ lv'.ownBlock = some u.heap.size) →
      LvI g root v us wP bP mk fs ps (j + 1) lv' v'' (ns ++ [n]) w9 := by
  have hj := (List.getElem?_eq_some_iff.1 hp).1
  have hkeep := fun k hk => h2.keep (rows_lt h.own k hk).2 (h.dis k hk).1
  have hlen : ns.length = j := by
    have := congrArg List.length h.nb
    rw [List.length_map, List.length_map, List.length_take] at this
    omega
  have htk : ps.take (j + 1) = ps.take j ++ [p] := by rw [List.take_succ_eq_append_getElem hj, (List.getElem?_eq_some_iff.1 hp).2]
  refine ⟨rows_same h.own fun k hk => (hkeep k hk).1, fun u w9 lv' hc r1 r2 r3 => ?_⟩
  have h3 := h.stp.trans h2
  have hs1 := h3.md.size
  refine ⟨?_, ?_, ?_, ?_, fun k hk => ?_⟩
  · rw [htk, mkBr_snoc, List.length_take, Nat.min_eq_left (by omega)]
    rw [List.length_append, hlen] at r1
    exact r1
  · rw [htk, List.map_append, List.map_append, h.nb, List.map_singleton, List.map_singleton, hbn]
  · rw [← List.append_assoc]
    refine (h1.calm hc).same fun k hk => r2.block k ((h1.calm hc).range k hk).2 fun e => ?_
    exact (hkeep k e.symm).2 hk
  · rw [← List.append_assoc]
    refine ⟨(h3.md.call hc).trans (G := fun k => lv.ownBlock = some k) ⟨r2.os, r2.tape, r2.output, r2.size, fun k hk hn => r2.block k hk fun e => hn e.symm⟩ fun k hk => .inr (rows_lt h.own k hk).1, h3.fr⟩
  · rw [← List.append_assoc]
    rcases r3 with r3 | r3
    · rw [r3] at hk
      exact ⟨(hkeep k hk).2, (h.dis k hk).2⟩
    · rw [r3] at hk
      injection hk with hk
      have := hc.size
      exact ⟨fun h4 => by have := (h1.range k h4).2; omega, by omega⟩
theorem LvI.start {α:Type} {g:Nat} {root:Int} {v:Value} {us:List Nd} {wP:World} {bP:Nat} {mk:List α→Nd} {fs:List α→Sp} {ps:List (List α)} (h:BSt wP g root v us):LvI g root v us wP bP mk fs ps 0 (.slice none 0 0) v [] wP:=by
 refine ⟨OwnBr.nil _ _,rfl,by rw [List.append_nil];exact h,by rw [List.append_nil];exact Stp.refl _ _ _ _,fun k hk=>by simp [Value.ownBlock] at hk⟩
theorem LiesBr.part {w:World} {b q:Nat} {l:List Br} (h:LiesBr w (some ⟨b,q,none⟩) l) (lo n:Nat) (hn:lo+n≤l.length) (h0:0<n):LiesBr w (some ⟨b,q+lo * 6,none⟩) ((l.drop lo).take n):=fun _=>by
 obtain ⟨b',q',e,h1,h2⟩:=h (by omega)
 cases e
 refine ⟨b,q+lo * 6,rfl,h1,fun k x hx=>?_⟩
 have hk:=(List.getElem?_eq_some_iff.1 hx).1
 rw [List.length_take] at hk
 rw [List.getElem?_take_of_lt (by omega),List.getElem?_drop] at hx
 have:=h2 (lo+k) x hx
 rwa [show q+lo * 6+k * 6=q+(lo+k) * 6 by omega]
def AbEnd {α:Type} (g:Nat) (root:Int) (v:Value) (us:List Nd) (mk:List α→Nd) (fs:List α→Sp) (ps:List (List α)) (w:World) (e:Ending) (w':World):Prop :=
 ∃ A' c' v' ns,e=.returned (.slice A' (mkBr mk fs us.length ps).length c')∧(mkBr mk fs us.length ps).length≤c'∧c'≤9223372036854775807∧ns.map Nd.bare=ps.map mk∧LiesBr w' A' (mkBr mk fs us.length ps)∧BSt w' g root v' (us++ns)∧Stp g v us v' (us++ns) w w'∧∀ a,A'=some a→¬ TBk g v' (us++ns) a.block
theorem own_cap {w:World} {base:Nat} {e:TypeId} {size n:Nat} {A:Option Addr} {m c:Nat} {xs:List Value} (h:w.ownsRow base e size (.slice A m c) n xs):c≤9223372036854775807:=by
 rcases h.2 with ⟨h1,-⟩ | ⟨g,cap,cur,h1,-,-,h3,h4,-⟩
 ·cases h1;omega
 ·injection h1 with _ _ h5
  simp only [maxLen] at h4
  omega
theorem LvI.done {α:Type} {g:Nat} {root:Int} {v:Value} {us:List Nd} {w wP:World} {bP:Nat} {mk:List α→Nd} {fs:List α→Sp} {ps:List (List α)} {lv v':Value} {ns:List Nd} {w':World} (hc:Calm w wP) (h:LvI g root v us wP bP mk fs ps ps.length lv v' ns w'):AbEnd g root v us mk fs ps w (.returned lv) w':=by
 have h1:=h.own
 rw [List.take_length] at h1
 obtain ⟨A',c',e,hcap,hL⟩:=h1.lies
 subst e
 refine ⟨A',c',v',ns,rfl,hcap,own_cap h1,by rw [h.nb,List.take_length],hL,h.st,(Stp.calm _ _ _ hc).trans h.stp,fun a ha=>?_⟩
 rcases h1.2 with ⟨h2,h3⟩ | ⟨g',cap,cur,h2,-⟩
 ·injection h2 with h2
  rw [ha] at h2;cases h2
 ·injection h2 with h2
  rw [ha] at h2
  injection h2 with h2
  rw [h2]
  exact (h.dis g' (by rw [ha,h2];rfl)).1
open Go.RowKit
theorem part_eq {α:Type} {l:List α} {i:Nat} (hi:i<partsN l.length):∃ a a2,a=i * l.length / partsN l.length∧a2=(i+1) * l.length / partsN l.length∧a≤a2∧a2≤l.length∧a<a2∧a2 - a≤8∧partAt l (partsN l.length) i=(l.drop a).take (a2 - a)∧(partAt l (partsN l.length) i).length=a2 - a:=by
 obtain ⟨h1,h2,h3,h4,h5,h6⟩:=cut_size rfl hi
 have h7:=part_len hi
 refine ⟨_,_,rfl,rfl,h1,h2,?_,h3,rfl,h7⟩
 rcases Nat.lt_or_ge 1 (partsN l.length) with h | h
 ·have:=h4 h;omega
 ·obtain ⟨e1,e2⟩:=h5 (by omega)
  have:0<l.length:=by
   rcases Nat.eq_zero_or_pos l.length with h0 | h0
   ·rw [h0] at h6;simp [partsN] at h6
   ·exact h0
  omega
set_option maxHeartbeats 16000000 in
theorem above_any (g : Nat) (root : Int) (A0 : Option Addr) (c0 : Nat) (us : List Nd) (w : World) (h : BSt w g root (.slice A0 us.length c0) us) (bl q c : Nat) (LL : List Br) (hL : LiesBr w (some ⟨bl, q, none⟩) LL) (h1 : 1 < LL.length) (hR : LL.length ≤ 50) (hc : LL.length ≤ c) (hl : us.length ≤ 400)
    (hb : ¬ TBk g (.slice A0 us.length c0) us bl) (hwf : ∀ b ∈ LL, -9223372036854775808 ≤ b.s.m) (hok : ∀ p ∈ partsL LL, ndErr 2 [] (p.map Br.x) (p.tail.map Br.s) (p.map Br.t) = 0) :
    Calls Try.prog 90 #[.pointer (some ⟨g, 0, none⟩), .slice (some ⟨bl, q, none⟩) LL.length c] w (AbEnd g root (.slice A0 us.length c0) us innerB fsI (partsL LL) w) := by
  obtain ⟨b', q', e1, hbl, -⟩ := hL (by omega)
  cases e1
  have cP := partsB_any bl q c LL.length w (by omega) (by omega) hc
  have hn1 : partsN LL.length ≤ 7 := by unfold partsN; omega
  have HH := Lib.hid h
  have HL := Lib.hid hL
  have HB := Lib.hid hb
  have HWF := Lib.hid hwf
  have HOK := Lib.hid hok
  obtain ⟨n, hn⟩ : ∃ n, partsN LL.length = n := ⟨_, rfl⟩
  have hlen : (partsL LL).length = n := by rw [parts_len, hn]
  have HLEN := Lib.hid hlen
  have HN := Lib.hid hn
  rw [hn] at cP hn1
  clear h hL hb hwf hok hlen hn
  go_enter Try.func90, Try.ntmps90
  go_wp2_with (go_at_call 120; (with_reducible refine cP.mono ?_); rintro e wP ⟨bP, rfl, hbP, hPr, hbc⟩)
  have hbPl := (Array.getElem?_eq_some_iff.1 hPr).1
  have HBC := Lib.hid hbc
  have HPR := Lib.hid hPr
  have hsP := hbc.size
  have hI0 : Hid (LvI g root (.slice A0 us.length c0) us wP bP innerB fsI (partsL LL) 0 (.slice none 0 0) (.slice A0 us.length c0) [] wP) := LvI.start (HH.out.calm hbc)
  clear hbc hPr cP
  go_loopw [5, 11] (fun lv i wr => ∃ (k : Nat) (v' : Value) (ns : List Nd), k ≤ n ∧ i = .int .i64 k ∧ Hid (LvI g root (.slice A0 us.length c0) us wP bP innerB fsI (partsL LL) k lv v' ns wr)) (fun _ i _ => n - (intOf i).toNat)
  case atStart => exact ⟨0, _, _, Nat.zero_le _, rfl, hI0⟩
  clear hI0
  case round =>
    obtain ⟨k, v', ns, hk, rfl, HI⟩ := hrel
    by_cases hlt : k < n
    rotate_left
    · obtain rfl : k = n := by omega
      have hD := HI.out
      rw [← HLEN.out] at hD
      have HD := Lib.hid (LvI.done HBC.out hD)
      clear hD HI HPR
      go_wp2_with fail
      go_ret
      exact HD.out
    obtain ⟨a, a2, ha, ha2, haa, hal, ha3, ha8, hpe, hpl⟩ := part_eq (l := LL) (i := k) (by rw [HN.out]; exact hlt)
    have hpg := parts_get (l := LL) (i := k) (by rw [HN.out]; exact hlt)
    rw [HN.out] at ha ha2 hpe hpl hpg
    generalize partAt LL n k = P at hpe hpl hpg
    have hbPn : ¬ TBk g (.slice A0 us.length c0) us bP := fun hk => by have := (HH.out.range _ hk).2; omega
    have hkP := (HI.out.stp.keep hbPl hbPn).1
    have hcp := cell_of_row _ _ k _ _ _ (hkP.trans HPR.out)
    rw [List.getElem?_toArray, prow_get hlt] at hcp
    unfold pcV at hcp
    rw [← ha, ← ha2] at hcp
    have hP0 : 0 < P.length := by omega
    obtain ⟨x0, ⟨p, o, f, m⟩, t0, hE0⟩ : ∃ (x : Int) (s : Sp) (t : Int), P[0]? = some ⟨x, s, t⟩ := ⟨_, _, _, List.getElem?_eq_getElem hP0⟩
    have hfs : fsI P = ⟨p, o, f, m⟩ := by
      cases P with
      | nil => simp at hP0
      | cons b r => simp at hE0; rw [hE0]; rfl
    have hkb := HI.out.stp.keep (Nat.lt_of_lt_of_le hbl hsP) HB.out
    have hLr : LiesBr wr (some ⟨bl, q, none⟩) LL := (HL.out.calm HBC.out).same HI.out.stp.md.size hkb.1
    have hLp : LiesBr wr (some ⟨bl, q + a * 6, none⟩) P := by rw [hpe]; exact hLr.part a (a2 - a) (by omega) (by omega)
    have hnl : ns.length = k := by
      have := congrArg List.length HI.out.nb
      rw [List.length_map, List.length_map, List.length_take] at this
      have := HLEN.out
      omega
    obtain ⟨A1, c1, hv1⟩ := HI.out.st.slice
    subst hv1
    have cI : Calls Try.prog 121 #[.pointer (some ⟨g, 0, none⟩), .slice (some ⟨bl, q + a * 6, none⟩) P.length (c - a)] wr fun e w' => ∃ v'' nn, nn.bare = innerB P ∧ e = .returned (.agg #[.int .i64 ((us ++ ns).length : Int), .int .i64 p, .int .i64 o, .int .i64 f, .int .i64 m, .int .i64 (ndT (innerB P))]) ∧ BSt w' g root v'' (us ++ ns ++ [nn]) ∧ Stp g (.slice A1 (us ++ ns).length c1) (us ++ ns) v'' (us ++ ns ++ [nn]) wr w' :=
      inner_any g root A1 c1 (us ++ ns) wr HI.out.st (by rw [List.length_append]; omega) bl (q + a * 6) (c - a) x0 t0 p o f m P hE0 hLp (by omega) hkb.2 (fun b hb => HWF.out b (by rw [hpe] at hb; exact List.drop_subset _ _ (List.take_subset _ _ hb))) (HOK.out P (List.mem_of_getElem? hpg))
    rw [hpl] at cI
    have HNX := Lib.hid (fun (nn : Nd) (v'' : Value) (w1 : World) (hbn : nn.bare = innerB P) (h1 : BSt w1 g root v'' (us ++ ns ++ [nn])) h2 => HI.out.next hbPl hpg hbn h1 h2)
    rw [hfs] at HNX
    have hsr := HI.out.stp.md.size
    have hml : (mkBr innerB fsI us.length ((partsL LL).take k)).length ≤ 100 := by rw [mkBr_len, List.length_take]; omega
    generalize mkBr innerB fsI us.length ((partsL LL).take k) = BB at HNX hml
    generalize ndT (innerB P) = X at cI HNX
    generalize innerB P = XP at cI HNX
    generalize (((us ++ ns).length : Nat) : Int) = XL at cI HNX
    have hkn : (k : Int) < (n : Int) := by omega
    clear HI hpe hpl hpg hP0 hE0 hfs hkb hLr hLp hkP hbPn ha ha2 hnl
    go_wp2_with (first
      | (go_at_call 121; (with_reducible refine cI.mono ?_); rintro e w1 ⟨v'', nn, hbn, rfl, hst1, hstp1⟩; have hs1 := hstp1.md.size; have hnx := HNX.out nn v'' w1 hbn hst1 hstp1; have HO1 := Lib.hid hnx.1; have HNX2 := Lib.hid hnx.2; clear hnx hbn hst1 hstp1 cI)
      | (at_builtin; refine wpList_append_br rfl _ _ rfl wP.heap.size _ BB rfl (rows_calm HO1.out ((Calm.refl _).alloc _)) _ _ ⟨XL, ⟨p, o, f, m⟩, X⟩ _ rfl (heap_new _ _) (by omega) (by simp; omega) ?_; intro lv' w9 r1 r2 r3; have HF := Lib.hid (HNX2.out _ w9 lv' ((Calm.refl _).alloc _) r1 r2 r3); clear r1 r2 r3))
    go_roundw
    case rel => exact ⟨k + 1, _, _, by omega, by go_num, HF⟩
    case measure => simp [intOf]; omega
def bErr (l:List El):Int:=if 400<l.length then 2 else elsErr l
theorem bErr_zero {l:List El}:bErr l=0↔l.length≤400∧(∀ e∈l,e.err=0)∧l.Pairwise Rise:=by
 unfold bErr
 by_cases h:400<l.length
 ·rw [if_pos h]
  exact ⟨fun h=>absurd h (by decide),fun h2=>absurd h2.1 (by omega)⟩
 ·rw [if_neg h,elsErr_zero]
  exact ⟨fun h2=>⟨by omega,h2⟩,fun h2=>h2.2⟩
theorem mkBr_mem {α:Type} {mk:List α→Nd} {fs:List α→Sp}:∀ {c:Nat} {ps:List (List α)} {i:Nat} {p:List α},ps[i]?=some p→(⟨((c+i:Nat):Int),fs p,ndT (mk p)⟩:Br)∈mkBr mk fs c ps
 |_,[],_,_,h=>by simp at h
 |c,q::ps,0,p,h=>by
  simp at h
  subst h
  rw [mkBr]
  exact List.mem_cons_self
 |c,q::ps,i+1,p,h=>by
  rw [mkBr]
  refine List.mem_cons_of_mem _ ?_
  have:=mkBr_mem (mk:=mk) (fs:=fs) (c:=c+1) (i:=i) (p:=p) (ps:=ps) (by simpa using h)
  rwa [show c+1+i=c+(i+1) by omega] at this
theorem leaf_ok {l:List El} (hl:l≠[]) (he:∀ e∈l,e.err=0) (hp:l.Pairwise Rise):∀ p∈partsL l,ndErr 1 p [] [] []=0:=fun p hpm=>by
 obtain ⟨i,hi⟩:=List.getElem?_of_mem hpm
 obtain ⟨n,hw,hn⟩:=((lev_leaves hl he hp).ok _ (mkBr_mem hi)).wide
 have h1:=hw.nd
 rw [nd_of (by omega) (show ((partsL l).map leafB)[((0+i:Nat):Int).toNat]?=some (leafB p) by rw [Int.toNat_natCast,Nat.zero_add,List.getElem?_map,hi];rfl)] at h1
 injection h1 with h1
 subst h1
 exact hn
theorem inner_ok {M:List Nd} {d:Nat} {bs:List Br} {l:List El} (h:Lev M d bs l) (h1:1<bs.length) (hM:M.length≤400) (hp:l.Pairwise Rise):∀ p∈partsL bs,ndErr 2 [] (p.map Br.x) (p.tail.map Br.s) (p.map Br.t)=0:=fun p hpm=>by
 obtain ⟨i,hi⟩:=List.getElem?_of_mem hpm
 obtain ⟨n,hw,hn⟩:=((lev_up h h1 hM hp).ok _ (mkBr_mem hi)).wide
 have h2:=hw.nd
 rw [nd_new (show ((partsL bs).map innerB)[i]?=some (innerB p) by rw [List.getElem?_map,hi];rfl)] at h2
 injection h2 with h2
 subst h2
 exact hn
theorem lev_spots {M:List Nd} {d:Nat} {bs:List Br} {l:List El} (h:Lev M d bs l):∀ b∈bs,-9223372036854775808≤b.s.m:=fun b hb=>by
 obtain ⟨n,hw,-⟩:=(h.ok b hb).wide
 obtain ⟨e,R,h1,h2⟩:=(h.ok b hb).fst
 have h3:=err_time (hw.errs e (by rw [h1];exact List.mem_cons_self))
 unfold timeOk at h3
 rw [← h2]
 show _≤e.m
 omega
theorem partsN_pos {L:Nat} (h:0<L):0<partsN L:=by unfold partsN;omega
theorem partsN_lt {L:Nat} (h:1<L):partsN L<L:=by unfold partsN;omega
structure LevN (M:List Nd) (d:Nat) (bs:List Br) (l:List El):Prop where
 lev:Lev M d bs l
 pos:0<bs.length
 cnt:M.length+upN bs.length=lvls l.length
 dep:d+upD bs.length=upD (partsN l.length)
theorem levN_leaves {l:List El} (hl:l≠[]) (he:∀ e∈l,e.err=0) (hp:l.Pairwise Rise):LevN ((partsL l).map leafB) 0 (mkBr leafB fsL 0 (partsL l)) l:=by
 have h0:0<l.length:=List.length_pos_iff.2 hl
 refine ⟨lev_leaves hl he hp,by rw [mkBr_len,parts_len];exact partsN_pos h0,?_,by rw [mkBr_len,parts_len,Nat.zero_add]⟩
 rw [List.length_map,mkBr_len,parts_len,lvls_up _ h0]
theorem levN_up {M:List Nd} {d:Nat} {bs:List Br} {l:List El} (h:LevN M d bs l) (h1:1<bs.length) (hM:M.length≤400) (hp:l.Pairwise Rise):LevN (M++(partsL bs).map innerB) (d+1) (mkBr innerB fsI M.length (partsL bs)) l:=by
 have hc:=h.cnt
 have hd:=h.dep
 rw [upN_more h1] at hc
 rw [upD_more h1] at hd
 refine ⟨lev_up h.lev h1 hM hp,by rw [mkBr_len,parts_len];exact partsN_pos (by omega),?_,?_⟩
 ·rw [List.length_append,List.length_map,mkBr_len,parts_len];omega
 ·rw [mkBr_len,parts_len];omega
theorem lvls_le {L:Nat} (h:L≤400):lvls L≤100:=by
 rcases Nat.eq_zero_or_pos L with h0 | h0
 ·rw [h0,lvls_nil];omega
 ·rw [lvls_up L h0]
  have:=upN_le (partsN L)
  have:partsN L≤50:=by unfold partsN;omega
  omega
theorem LevN.len {M:List Nd} {d:Nat} {bs:List Br} {l:List El} (h:LevN M d bs l) (hl:l.length≤400):M.length≤100:=by
 have:=lvls_le hl
 have:=h.cnt
 omega
open Go.RowKit
set_option maxHeartbeats 4000000 in
theorem bcheck_any (A : Option Addr) (c : Nat) (l : List El) (w : World) (hn : l.length ≤ 9223372036854775807) (hL : Lies w A l) :
    Calls Try.prog 87 #[.slice A l.length c] w fun e w' => e = .returned (.int .i64 (bErr l)) ∧ Calm w w' := by
  by_cases hbig : 400 < l.length
  · have K : Hid (2 = bErr l) := by show _ = _; unfold bErr; rw [if_pos hbig]
    go_enter Try.func87, Try.ntmps87
    go_wp2_with fail
    go_ret
    exact ⟨ret_int K.out, Calm.refl _⟩
  rw [show bErr l = elsErr l from if_neg hbig]
  go_enter Try.func87, Try.ntmps87
  go_wp2_with fail
  go_loopw [11] (fun i wr => ∃ k : Nat, k ≤ l.length ∧ i = .int .i64 k ∧ Calm w wr ∧ NoStep l k) (fun i _ => l.length - (intOf i).toNat)
  case atStart => exact ⟨0, Nat.zero_le _, rfl, Calm.refl _, NoStep.zero l⟩
  case round =>
    obtain ⟨k, hk, rfl, hu, hN⟩ := hrel
    by_cases hlt : k < l.length
    rotate_left
    · have K : Hid (0 = elsErr l) := hN.good (by omega)
      go_wp2_with fail
      go_ret
      exact ⟨ret_int K.out, hu⟩
    obtain ⟨b, q, p, o, f, m, g, s, rfl, hb, HE, hm, c0, c1, c2, c3, c4, c5⟩ := (hL.calm hu).get hlt
    by_cases he : elemErr p o f m g s.size = 0
    rotate_left
    · have b1 : (elemErr p o f m g s.size != 0) = true := by simpa using he
      have K : Hid (elemErr p o f m g s.size = elsErr l) := by
        have h1 := sStep_err HE.out (show El.err ⟨p, o, f, m, g, s⟩ ≠ 0 from he)
        rw [← hN.bad (by rw [h1]; exact he) hlt, h1]; rfl
      clear he
      go_wp2_with (go_at_call 26; refine (elemCheck_any _ _ _ _ _ _ _).mono ?_; rintro e w1 ⟨rfl, hb1⟩)
      go_ret
      exact ⟨ret_int K.out, by repeat (first | (with_reducible exact Calm.refl _) | (with_reducible refine Calm.alloc ?_ _) | (with_reducible refine Calm.drew ?_) | (with_reducible refine Calm.drewN ?_ _) | (refine Calm.call ?_ (by with_reducible assumption)))⟩
    have b1 : (elemErr p o f m g s.size != 0) = false := by simpa using he
    have HE0 : Hid (elemErr p o f m g s.size = 0) := he
    clear he
    by_cases hk0 : k = 0
    · subst hk0
      have hN1 : NoStep l 1 := hN.succ (sStep_first HE.out HE0.out)
      simp only [Nat.zero_mul, Nat.add_zero] at c0 c1 c2 c3 c4 c5
      go_wp2_with (go_at_call 26; refine (elemCheck_any _ _ _ _ _ _ _).mono ?_; rintro e w1 ⟨rfl, hb1⟩)
      refine wp_region_plan [.val (.int .i64 (0)), .val (.bool false), .val (.bool false), .idle, .idle, .idle, .idle, .idle, .idle, .idle, .idle, .idle, .idle, .val (.bool false)] (by kernel_rfl) (by kernel_rfl) (by kernel_rfl) ?_
      intro X
      iterate 3
        refine plan_val (by kernel_rfl) (fun u hu => ?_) ?_
        · obtain ⟨hc, hf, hz⟩ := hu.of_drew.facts
          go_simp
        simp only [Act.put, List.setIfInBounds_toArray, List.set_cons_zero, List.set_cons_succ, Nat.reduceAdd]
      iterate 10
        refine plan_idle (by kernel_rfl) ?_
        simp only [Act.put, List.setIfInBounds_toArray, List.set_cons_zero, List.set_cons_succ, Nat.reduceAdd]
      iterate 1
        refine plan_val (by kernel_rfl) (fun u hu => ?_) ?_
        · obtain ⟨hc, hf, hz⟩ := hu.of_drew.facts
          go_simp
        simp only [Act.put, List.setIfInBounds_toArray, List.set_cons_zero, List.set_cons_succ, Nat.reduceAdd]
      refine plan_end ?_
      intro w' hB
      have hk := hB.calm.of_drew
      clear hB
      go_wp2_with fail
      exact ⟨⟨1, by omega, rfl, ((hu.alloc _).call hb1).call hk, hN1⟩, by simp [intOf]; omega⟩
    obtain ⟨p', o', f', m', g', s', HE', hm', d0, d1, d2, d3, d4, d5⟩ := (hL.calm hu).get2 (k := k - 1) (by omega)
    have hS := sStep_form HE.out HE0.out (by omega) HE'.out
    have hk1 : 1 ≤ k := by omega
    have hge := ge_rise p' o' f' m' g' s' p o f m g s
    have cS := fun u => cmpSpot_any p' o' f' m' p o f m u
    generalize scmp p' o' f' m' p o f m = C at hge cS
    by_cases hF : Rise ⟨p', o', f', m', g', s'⟩ ⟨p, o, f, m, g, s⟩
    · rw [if_pos hF] at hS
      rw [decide_eq_true hF] at hge
      have hC : ¬ 0 ≤ C := by simpa using hge
      have hN1 : NoStep l (k + 1) := hN.succ hS
      clear hS hF hk0 hge
      go_wp2_with (go_at_call 26; refine (elemCheck_any _ _ _ _ _ _ _).mono ?_; rintro e w1 ⟨rfl, hb1⟩)
      have hx := (hb1.block (k := wr.heap.size) (by simp)).trans (heap_new wr _)
      obtain ⟨x0, x1, x2, x3, x4, x5, hxs⟩ := row6 hx
      have hv := ((Calm.refl wr).alloc _).call hb1
      have hv1 := hu.call hv
      have hb2 : b < w1.heap.size := Nat.lt_of_lt_of_le hb hv.size
      have hvc := hv.facts.1
      replace d0 := (hvc _ _ hb).trans d0; replace d1 := (hvc _ _ hb).trans d1; replace d2 := (hvc _ _ hb).trans d2; replace d3 := (hvc _ _ hb).trans d3; replace d4 := (hvc _ _ hb).trans d4; replace d5 := (hvc _ _ hb).trans d5
      clear hvc hv hb1 hx c0 c1 c2 c3 c4 c5 b1 hL
      have z0 : 0 < k := hk1
      have z1 : IntKind.i64.wrap ((k : Int) - 1) = (k : Int) - 1 := IntWalk.i64_in _ (by omega)
      have z2 : ((k : Int) - 1).toNat = k - 1 := by omega
      have z3 : 0 ≤ (k : Int) - 1 := by omega
      have z4 : (k : Int) - 1 < l.length := by omega
      have z5 : 1 ≤ (k : Int) := by omega
      refine wp_region_plan [.val (.int .i64 (k)), .val (.bool true), .val (.bool true), .val (.slice (some ⟨b, q, none⟩) l.length c), .val (.int .i64 (k)), .val (.int .i64 ((k : Int) - 1)), .val (.pointer (some ⟨b, q + (k - 1) * 6, none⟩)), .val (.agg #[.int .i64 p', .int .i64 o', .int .i64 f', .int .i64 m', .int .i64 g', .string s']), .val (.agg #[.int .i64 p', .int .i64 o', .int .i64 f', .int .i64 m']), .val (.agg #[.int .i64 p, .int .i64 o, .int .i64 f, .int .i64 m, .int .i64 g, .string s]), .val (.agg #[.int .i64 p, .int .i64 o, .int .i64 f, .int .i64 m]), .val (.int .i64 (C)), .val (.bool false), .val (.bool false)] (by kernel_rfl) (by kernel_rfl) (by kernel_rfl) ?_
      intro X
      iterate 14
        refine plan_val (by kernel_rfl) (fun u hu => ?_) ?_
        · obtain ⟨hc, hf, hz⟩ := hu.of_drew.facts
          go_simp
          all_goals first
            | ((go_at_call 28; exact spot_any _ _ _ _ _ _ _))
            | ((go_at_call 102; exact cS _))
        simp only [Act.put, List.setIfInBounds_toArray, List.set_cons_zero, List.set_cons_succ, Nat.reduceAdd]
      refine plan_end ?_
      intro w' hB
      have hk := hB.calm.of_drew
      clear hB
      clear z0 z1 z2 z3 z4 z5
      go_wp2_with fail
      go_roundw
      case rel => exact ⟨k + 1, by omega, by go_num, hv1.call hk, hN1⟩
      case measure => simp [intOf]; omega
    · rw [if_neg hF] at hS
      rw [decide_eq_false hF] at hge
      have hC : 0 ≤ C := by simpa using hge
      have K : Hid (3 = elsErr l) := hS.symm.trans (hN.bad (by rw [hS]; decide) hlt)
      clear hS hF hk0 hge
      go_wp2_with (go_at_call 26; refine (elemCheck_any _ _ _ _ _ _ _).mono ?_; rintro e w1 ⟨rfl, hb1⟩)
      have hx := (hb1.block (k := wr.heap.size) (by simp)).trans (heap_new wr _)
      obtain ⟨x0, x1, x2, x3, x4, x5, hxs⟩ := row6 hx
      have hv := ((Calm.refl wr).alloc _).call hb1
      have hv1 := hu.call hv
      have hb2 : b < w1.heap.size := Nat.lt_of_lt_of_le hb hv.size
      have hvc := hv.facts.1
      replace d0 := (hvc _ _ hb).trans d0; replace d1 := (hvc _ _ hb).trans d1; replace d2 := (hvc _ _ hb).trans d2; replace d3 := (hvc _ _ hb).trans d3; replace d4 := (hvc _ _ hb).trans d4; replace d5 := (hvc _ _ hb).trans d5
      clear hvc hv hb1 hx c0 c1 c2 c3 c4 c5 b1 hL
      have z0 : 0 < k := hk1
      have z1 : IntKind.i64.wrap ((k : Int) - 1) = (k : Int) - 1 := IntWalk.i64_in _ (by omega)
      have z2 : ((k : Int) - 1).toNat = k - 1 := by omega
      have z3 : 0 ≤ (k : Int) - 1 := by omega
      have z4 : (k : Int) - 1 < l.length := by omega
      have z5 : 1 ≤ (k : Int) := by omega
      refine wp_region_plan [.val (.int .i64 (k)), .val (.bool true), .val (.bool true), .val (.slice (some ⟨b, q, none⟩) l.length c), .val (.int .i64 (k)), .val (.int .i64 ((k : Int) - 1)), .val (.pointer (some ⟨b, q + (k - 1) * 6, none⟩)), .val (.agg #[.int .i64 p', .int .i64 o', .int .i64 f', .int .i64 m', .int .i64 g', .string s']), .val (.agg #[.int .i64 p', .int .i64 o', .int .i64 f', .int .i64 m']), .val (.agg #[.int .i64 p, .int .i64 o, .int .i64 f, .int .i64 m, .int .i64 g, .string s]), .val (.agg #[.int .i64 p, .int .i64 o, .int .i64 f, .int .i64 m]), .val (.int .i64 (C)), .val (.bool true), .val (.bool true)] (by kernel_rfl) (by kernel_rfl) (by kernel_rfl) ?_
      intro X
      iterate 14
        refine plan_val (by kernel_rfl) (fun u hu => ?_) ?_
        · obtain ⟨hc, hf, hz⟩ := hu.of_drew.facts
          go_simp
          all_goals first
            | ((go_at_call 28; exact spot_any _ _ _ _ _ _ _))
            | ((go_at_call 102; exact cS _))
        simp only [Act.put, List.setIfInBounds_toArray, List.set_cons_zero, List.set_cons_succ, Nat.reduceAdd]
      refine plan_end ?_
      intro w' hB
      have hk := hB.calm.of_drew
      clear hB
      clear z0 z1 z2 z3 z4 z5
      go_wp2_with fail
      go_ret
      exact ⟨ret_int K.out, hv1.call hk⟩
open Go.RowKit
theorem results_ofE {fn : Func} {p q : Tmp} (h : fn.results = #[.cell p 24, .tmp q]) (tmps : Array Value) (w : World) (g : Nat) (t : TypeId) (cs : Array Value) (v : Value) (fr : Nat × Nat)
    (hp : tmps.getD p undef = .pointer (some ⟨g, 0, none⟩)) (hq : tmps.getD q undef = v) (hg : w.heap[g]? = some (.cells cs t fr)) (hsz : cs.size = 2) :
    (results fn tmps).run Try.prog w = .ok (.tuple #[.agg cs, v]) w := by
  have hp' : tmps[p]?.getD undef = .pointer (some ⟨g, 0, none⟩) := by simpa using hp
  have hq' : tmps[q]?.getD undef = v := by simpa using hq
  have hi : (Try.prog.info? 24).map (·.size) = some cs.size := by rw [hsz]; kernel_rfl
  simp [results, h, hp', hq', asAddr, run_loadVar_row w g t 24 cs fr _ hg Try.underlying24 rfl hi]
theorem end_ofE {P : Program} {fn : Func} {p q : Tmp} {Q : Ending → World → Prop} (hP : P = Try.prog) (h : fn.results = #[.cell p 24, .tmp q]) (a : Act) (w : World) (g : Nat) (t : TypeId) (cs : Array Value) (v : Value) (fr : Nat × Nat) (hd : a.defers = [])
    (hp : a.tmps.getD p undef = .pointer (some ⟨g, 0, none⟩)) (hq : a.tmps.getD q undef = v) (hg : w.heap[g]? = some (.cells cs t fr)) (hsz : cs.size = 2) (hQ : Q (.returned (.tuple #[.agg cs, v])) w) : bodyPost P fn Q .ret a w := by
  subst hP
  exact bodyPost_ret (v := .tuple #[.agg cs, v]) (results_ofE h a.tmps w g t cs v fr hp hq hg hsz) hd hQ
theorem setOf2 {w : World} {g t : Nat} {a0 a1 : Value} (h : w.heap[g]? = some (.cells #[a0, a1] t (0, 0))) (b0 b1 : Value) :
    ((w.setCell ⟨g, 0, none⟩ b0).setCell ⟨g, 1, none⟩ b1).heap[g]? = some (.cells #[b0, b1] t (0, 0)) :=
  heap_setCell_same _ g 1 _ t b1 (heap_setCell_same w g 0 _ t b0 h)
theorem Calm.twoOf {a w:World} (h:Calm a w) {g:Nat} (hg:a.heap.size≤g) (b0 b1:Value):Calm a ((w.setCell ⟨g,0,none⟩ b0).setCell ⟨g,1,none⟩ b1) :=
 (h.setCell (p:=⟨g,0,none⟩) hg b0).setCell (p:=⟨g,1,none⟩) hg b1
def OfEnd (l:List El) (w:World) (e:Ending) (w':World):Prop :=
 bErr l≠0∧e=.returned (.tuple #[.agg #[.int .i64 0,.slice none 0 0],.int .i64 (bErr l)])∧Calm w w' ∨
 bErr l=0∧∃ root A c us,e=.returned (.tuple #[.agg #[.int .i64 root,.slice A us.length c],.int .i64 0])∧TOwn w.heap.size w' (.slice A us.length c) us∧treeErr us root=0∧allOf us root=l∧depthOf us root=upD (partsN l.length)+1∧us.length=lvls l.length∧Calm w w'
theorem sameT_bare (us:List Nd):SameT (us.map Nd.bare) us:=⟨by simp,fun i n hn=>by
 rw [List.getElem?_map] at hn
 cases h:us[i]? with
 |none=>rw [h] at hn;cases hn
 |some m =>
  rw [h] at hn
  injection hn with hn
  subst hn
  exact ⟨m,rfl,rfl,rfl,rfl,rfl,rfl⟩⟩
theorem same_depth {l us:List Nd} {root:Int} (h:SameT l us) (hz:treeErr l root=0):depthOf us root=depthOf l root:=by
 obtain ⟨-,hok,-,-,-,D,hD,-⟩:=treeErr_zero.1 hz
 rw [depthOf_eq hok hD,depthOf_eq (h.ok hok) (h.deep hD)]
/-- The tree with one branch left is right. -/
theorem LevN.root {us:List Nd} {d:Nat} {b:Br} {l:List El} (h:LevN (us.map Nd.bare) d [b] l) (hl:l.length≤400):treeErr us b.x=0∧allOf us b.x=l∧depthOf us b.x=upD (partsN l.length)+1∧us.length=lvls l.length:=by
 have hM:=h.len hl
 obtain ⟨h1,h2,h3⟩:=lev_root h.lev (by omega)
 have hs:=sameT_bare us
 obtain ⟨g1,g2⟩:=hs.good h1
 have hc:=h.cnt
 have hd:=h.dep
 rw [List.length_singleton,upN_one (Nat.le_refl 1),List.length_map] at hc
 rw [List.length_singleton,upD_one (Nat.le_refl 1)] at hd
 exact ⟨g1,g2.trans h2,by rw [same_depth hs h1,h3];omega,by omega⟩
theorem Lies.part {w:World} {b q:Nat} {l:List El} (h:Lies w (some ⟨b,q,none⟩) l) (lo n:Nat) (hn:lo+n≤l.length) (h0:0<n):Lies w (some ⟨b,q+lo * 6,none⟩) ((l.drop lo).take n):=⟨fun e he=>h.1 e (List.drop_subset _ _ (List.take_subset _ _ he)),fun _=>by
 obtain ⟨b',q',e,h1,h2⟩:=h.2 (by omega)
 cases e
 refine ⟨b,q+lo * 6,rfl,h1,fun k x hx=>?_⟩
 have hk:=(List.getElem?_eq_some_iff.1 hx).1
 rw [List.length_take] at hk
 rw [List.getElem?_take_of_lt (by omega),List.getElem?_drop] at hx
 have:=h2 (lo+k) x hx
 rwa [show q+lo * 6+k * 6=q+(lo+k) * 6 by omega]⟩
/-- A new row of one node. -/
theorem own_leaf {w:World} {base g:Nat} (h:w.heap[g]?=some (.cells #[.int .i64 1,.slice none 0 0,.slice none 0 0,.slice none 0 0,.slice none 0 0] 32 (0,0))) (hb:base≤g):TOwn base w (.slice (some ⟨g,0,none⟩) 1 1) [ndLeaf]:=by
 refine ⟨⟨rfl,.inr ⟨g,1,_,rfl,hb,h,Nat.le_refl _,by unfold maxLen;omega,rfl,rfl⟩⟩,fun i n hi=>?_,fun i i' j j' n n' k hi hi' hj hj'=>?_,fun i j n k hi hj=>?_⟩
 ·match i,hi with
  | 0,hi =>
   simp at hi
   subst hi
   exact ⟨OwnR.nil _ _,OwnI.nil _ _,OwnS.nil _ _,OwnI.nil _ _,by simp [ndLeaf],by simp [ndLeaf],by simp [ndLeaf],by simp [ndLeaf],by simp [ndLeaf],by simp [ndLeaf]⟩
  |i+1,hi=>simp at hi
 all_goals
  have h0:n=ndLeaf:=by
   have:=List.mem_of_getElem? hi
   simpa using this
  subst h0
  match j,hj with
  | 0,h=>simp [Nd.blk,ndLeaf,Value.ownBlock] at h
  | 1,h=>simp [Nd.blk,ndLeaf,Value.ownBlock] at h
  | 2,h=>simp [Nd.blk,ndLeaf,Value.ownBlock] at h
  | 3,h=>simp [Nd.blk,ndLeaf,Value.ownBlock] at h
  |j+4,h=>simp [Nd.blk] at h
theorem buLeaf_recs:allOf [ndLeaf] 0=[]:=by
 unfold allOf
 rw [leaf_tree.2]
 rfl
open Go.RowKit
def lenV:Value→Nat
 | .slice _ n _=>n
 |_=>0
structure LvS (l:List El) (g:Nat) (w2:World) (lv:Value) (A':Option Addr) (c':Nat) (BS:List Br) (v':Value) (us:List Nd) (d:Nat) (w:World):Prop where
 eq:lv=.slice A' BS.length c'
 cap:BS.length≤c'∧c'≤9223372036854775807
 few:BS.length≤50
 lev:LevN (us.map Nd.bare) d BS l
 lies:LiesBr w A' BS
 st:BSt w g 0 v' us
 stp:Stp g (.slice none 0 0) [] v' us w2 w
 dis:∀ a,A'=some a→¬ TBk g v' us a.block
theorem LvS.first {l:List El} {g:Nat} {w2:World} {lv:Value} {w:World} (hl:l≠[]) (h4:l.length≤400) (he:∀ e∈l,e.err=0) (hp:l.Pairwise Rise) (h:AbEnd g 0 (.slice none 0 0) [] leafB fsL (partsL l) w2 (.returned lv) w):∃ A' c' BS v' us d,LvS l g w2 lv A' c' BS v' us d w:=by
 obtain ⟨A',c',v',ns,h1,h2,h3,hh4,h5,h6,h7,h8⟩:=h
 injection h1 with h1
 refine ⟨A',c',mkBr leafB fsL 0 (partsL l),v',ns,0,h1,⟨h2,h3⟩,by rw [mkBr_len,parts_len];unfold partsN;omega,?_,h5,h6,h7,h8⟩
 rw [hh4]
 exact levN_leaves hl he hp
theorem LvS.next {l : List El} {g : Nat} {w2 : World} {lv lv' : Value} {A' : Option Addr} {c' : Nat} {BS : List Br} {v' : Value} {us : List Nd} {d : Nat} {w w' : World} (hS : LvS l g w2 lv A' c' BS v' us d w) (hl : l.length ≤ 400) (hp : l.Pairwise Rise) (h1 : 1 < BS.length) (h : AbEnd g 0 v' us innerB fsI (partsL BS) w (.returned lv') w') :
    ∃ A2 c2 B2 v2 u2 d2, LvS l g w2 lv' A2 c2 B2 v2 u2 d2 w' ∧ B2.length < BS.length := by
  obtain ⟨A2, c2, v2, ns, e1, e2, e3, e4, e5, e6, e7, e8⟩ := h
  injection e1 with e1
  have hM := hS.lev.len hl
  have hN := levN_up hS.lev h1 (by omega) hp
  rw [List.length_map, ← e4, ← List.map_append] at hN
  exact ⟨A2, c2, _, v2, us ++ ns, d + 1, ⟨e1, ⟨e2, e3⟩, by rw [mkBr_len, parts_len]; have := partsN_lt h1; have := hS.few; omega, hN, e5, e6, hS.stp.trans e7, e8⟩, by rw [mkBr_len, parts_len]; exact partsN_lt h1⟩
set_option maxHeartbeats 16000000 in
theorem of_bad (A:Option Addr) (c:Nat) (l:List El) (w:World) (hn:l.length≤9223372036854775807) (hL:Lies w A l) (hE:bErr l≠0):Calls Try.prog 52 #[.slice A l.length c] w (OfEnd l w):=by
 have hz:=heap_new w (.cells #[.int .i64 0,.slice none 0 0] 24)
 have hu:=(Calm.refl w).alloc (.cells #[.int .i64 0,.slice none 0 0] 24)
 have cC:=bcheck_any A c l _ hn (hL.calm hu)
 have HE:Hid (∀ w',Calm w w'→OfEnd l w (.returned (.tuple #[.agg #[.int .i64 0,.slice none 0 0],.int .i64 (bErr l)])) w'):=show ∀ _,_→_ from fun w' hc=>.inl ⟨hE,rfl,hc⟩
 have b1:(bErr l != 0)=true:=by simpa using hE
 generalize hOE:OfEnd l w=OE at HE ⊢
 clear hOE
 generalize bErr l=E at HE cC b1 hE
 clear hL hE
 go_enter Try.func52,Try.ntmps52
 go_upto_region 3 with (go_at_call 87;refine cC.mono ?_;rintro e w1 ⟨rfl,hb1⟩)
 replace hz:=(hb1.block (rowT hz).2.2).trans hz
 replace hu:=hu.call hb1
 obtain ⟨z0,z1,hzs⟩:=rowT hz
 obtain ⟨f0,f1,f2,f3,f4,f5⟩:=free6 hz
 go_wp2_with fail
 exact end_ofE (p:=2) (q:=3) rfl rfl _ _ w.heap.size _ #[.int .i64 0,.slice none 0 0] (.int .i64 E) (0,0) rfl rfl rfl (setOf2 hz _ _) rfl (HE.out _ (hu.twoOf (Nat.le_refl _) _ _))
set_option maxHeartbeats 16000000 in
theorem of_nil (A:Option Addr) (c:Nat) (w:World):Calls Try.prog 52 #[.slice A 0 c] w (OfEnd [] w):=by
 have hz:=heap_new w (.cells #[.int .i64 0,.slice none 0 0] 24)
 have hu:=(Calm.refl w).alloc (.cells #[.int .i64 0,.slice none 0 0] 24)
 have cC:=bcheck_any A c [] (w.alloc (.cells #[.int .i64 0,.slice none 0 0] 24)) (by simp) ⟨by simp,fun h=>absurd h (by simp)⟩
 rw [show bErr []=0 from rfl,List.length_nil] at cC
 go_enter Try.func52,Try.ntmps52
 go_upto_region 5 with (go_at_call 87;refine cC.mono ?_;rintro e w1 ⟨rfl,hb1⟩)
 replace hz:=(hb1.block (rowT hz).2.2).trans hz
 replace hu:=hu.call hb1
 have HE:Hid (∀ w' gN,Calm w w'→w.heap.size≤gN→w'.heap[gN]?=some (.cells #[.int .i64 1,.slice none 0 0,.slice none 0 0,.slice none 0 0,.slice none 0 0] 32 (0,0))→OfEnd [] w (.returned (.tuple #[.agg #[.int .i64 0,.slice (some ⟨gN,0,none⟩) 1 1],.int .i64 0])) w'):=show ∀ _ _,_→_→_→_ from fun w' gN hc hg h =>
  .inr ⟨rfl,0,some ⟨gN,0,none⟩,1,[ndLeaf],rfl,own_leaf h hg,leaf_tree.1,buLeaf_recs,by rw [leaf_tree.2];rw [upD_one (by decide)],by rw [List.length_nil,lvls_nil];rfl,hc⟩
 go_upto_region 6 with (go_at_call 31;refine (treeNew_any _).mono ?_;rintro e w2 ⟨gN,rfl,hgN,hN,hb2⟩;have hz2:=(hb2.block (rowT hz).2.2).trans hz;obtain ⟨z0,z1,hzs⟩:=rowT hz2;obtain ⟨f0,f1,f2,f3,f4,f5⟩:=free6 hz2)
 have hzl:=(rowT hz).2.2
 have hne:gN≠w.heap.size:=by omega
 have ho:∀ (u:World) (j:Nat) (x:Value),(u.setCell ⟨w.heap.size,j,none⟩ x).heap[gN]?=u.heap[gN]?:=fun u j x=>heap_setCell_other u ⟨w.heap.size,j,none⟩ gN x (fun e=>hne (by simpa using e))
 exact end_ofE (p:=2) (q:=3) rfl rfl _ _ w.heap.size _ #[.int .i64 0,.slice (some ⟨gN,0,none⟩) 1 1] (.int .i64 0) (0,0) rfl rfl rfl (setOf2 hz2 _ _) rfl (HE.out _ gN ((hu.call hb2).twoOf (Nat.le_refl _) _ _) (by omega) (by rw [ho,ho];exact hN))
set_option maxHeartbeats 16000000 in
theorem of_good (b q c:Nat) (l:List El) (w:World) (hn:l.length≤9223372036854775807) (hL:Lies w (some ⟨b,q,none⟩) l) (h0:0<l.length) (hc:l.length≤c) (hbl:b<w.heap.size) (hE:bErr l=0):Calls Try.prog 52 #[.slice (some ⟨b,q,none⟩) l.length c] w (OfEnd l w):=by
 obtain ⟨h400,herr,hrise⟩:=bErr_zero.1 hE
 have hne:l≠[]:=List.length_pos_iff.1 h0
 have hleaf:=leaf_ok hne herr hrise
 have hz:=heap_new w (.cells #[.int .i64 0,.slice none 0 0] 24)
 have hu:=(Calm.refl w).alloc (.cells #[.int .i64 0,.slice none 0 0] 24)
 have cC:=bcheck_any (some ⟨b,q,none⟩) c l _ hn (hL.calm hu)
 rw [hE] at cC
 have HL:=Lib.hid hL
 have HERR:=Lib.hid herr
 have HRISE:=Lib.hid hrise
 have HLEAF:=Lib.hid hleaf
 have HNE:Hid (l≠[]):=hne
 have HFIN:Hid (∀ root A c' us w',TOwn w.heap.size w' (.slice A us.length c') us→treeErr us root=0∧allOf us root=l∧depthOf us root=upD (partsN l.length)+1∧us.length=lvls l.length→Calm w w'→OfEnd l w (.returned (.tuple #[.agg #[.int .i64 root,.slice A us.length c'],.int .i64 0])) w'):=show ∀ _ _ _ _ _,_→_→_→_ from fun root A c' us w' h1 h2 h3 =>
  .inr ⟨hE,root,A,c',us,rfl,h1,h2.1,h2.2.1,h2.2.2.1,h2.2.2.2,h3⟩
 have hli:¬ (l.length:Int)=0:=by omega
 have hli2:¬ l.length=0:=by omega
 generalize hOE:OfEnd l w=OE at HFIN ⊢
 clear hL herr hrise hleaf hne hE hOE
 go_enter Try.func52,Try.ntmps52
 generalize hQ0:bodyPost Try.prog Try.f52 _=Q0
 have HRET:Hid (∀ (a:Act) w' (cs:Array Value) (t:TypeId),a.defers=[]→a.tmps.getD 2 undef=.pointer (some ⟨w.heap.size,0,none⟩)→a.tmps.getD 3 undef=.int .i64 0→w'.heap[w.heap.size]?=some (.cells cs t (0,0))→cs.size=2→OE (.returned (.tuple #[.agg cs,.int .i64 0])) w'→Q0 .ret a w'):=show ∀ _ _ _ _,_→_→_→_→_→_→_ from fun a w' cs t h0 h1 h2 h3 h4 h5=>by
  rw [← hQ0]
  exact end_ofE (p:=2) (q:=3) rfl rfl a w' w.heap.size t cs (.int .i64 0) (0,0) h0 h1 h2 h3 h4 h5
 clear hQ0
 go_upto_region 6 with (go_at_call 87;refine cC.mono ?_;rintro e w1 ⟨rfl,hb1⟩)
 replace hz:=(hb1.block (rowT hz).2.2).trans hz
 replace hu:=hu.call hb1
 have hg:=heap_new w1 (.cells #[.int .i64 0,.slice none 0 0] 24)
 have hz1:=heap_past (.cells #[.int .i64 0,.slice none 0 0] 24) hz
 have hu1:=hu.alloc (.cells #[.int .i64 0,.slice none 0 0] 24)
 have hgs:=(rowT hz).2.2
 have hs1:=hu.size
 clear hz cC hb1 hu
 go_upto_region 8 with fail
 generalize w1.alloc (.cells #[.int .i64 0,.slice none 0 0] 24)=w2 at hg hz1 hu1 ⊢
 generalize w1.heap.size=g at hg hgs hs1 ⊢
 have hst0:BSt w2 g 0 (.slice none 0 0) []:=⟨hg,TOwn.nil _ _⟩
 have HST:=Lib.hid hst0
 have HZ:=Lib.hid hz1
 have HU:=Lib.hid hu1
 have hg2:=(rowT hg).2.2
 have hb2:b<w2.heap.size:=Nat.lt_of_lt_of_le hbl hu1.size
 have cP:=partsE_any b q c l.length w2 h400 h0 hc
 obtain ⟨n,hn2⟩:∃ n,partsN l.length=n:=⟨_,rfl⟩
 have hn1:n≤50:=by rw [← hn2];unfold partsN;omega
 have hlen:(partsL l).length=n:=by rw [parts_len,hn2]
 have HLEN:=Lib.hid hlen
 have HN:=Lib.hid hn2
 rw [hn2] at cP
 have hbT:¬ TBk g (.slice none 0 0) [] b:=fun hk=>by
  rcases hk with hk | hk | ⟨i,m,j,hi,-⟩
  ·omega
  ·simp [Value.ownBlock] at hk
  ·simp at hi
 have HBT:=Lib.hid hbT
 clear hg hz1 hu1 hst0 hlen hn2 hbT
 go_wp2_with (go_at_call 88;(with_reducible refine cP.mono ?_);rintro e wP ⟨bP,rfl,hbP,hPr,hbc⟩)
 have hbPl:=(Array.getElem?_eq_some_iff.1 hPr).1
 have HBC:=Lib.hid hbc
 have HPR:=Lib.hid hPr
 have hsP:=hbc.size
 have hI0:Hid (LvI g 0 (.slice none 0 0) [] wP bP leafB fsL (partsL l) 0 (.slice none 0 0) (.slice none 0 0) [] wP):=LvI.start (HST.out.calm hbc)
 clear hbc hPr cP
 go_loopw [6,22] (fun lv i wr=>∃ (k:Nat) (v':Value) (ns:List Nd),k≤n∧i=.int .i64 k∧Hid (LvI g 0 (.slice none 0 0) [] wP bP leafB fsL (partsL l) k lv v' ns wr)) (fun _ i _=>n - (intOf i).toNat)
 case atStart=>exact ⟨0,_,_,Nat.zero_le _,rfl,hI0⟩
 clear hI0
 case round =>
  obtain ⟨k,v',ns,hk,rfl,HI⟩:=hrel
  by_cases hlt:k<n
  ·obtain ⟨a,a2,ha,ha2,haa,hal,ha3,ha8,hpe,hpl⟩:=part_eq (l:=l) (i:=k) (by rw [HN.out];exact hlt)
   have hpg:=parts_get (l:=l) (i:=k) (by rw [HN.out];exact hlt)
   rw [HN.out] at ha ha2 hpe hpl hpg
   generalize partAt l n k=P at hpe hpl hpg
   have hbPn:¬ TBk g (.slice none 0 0) [] bP:=fun hk=>by have:=(HST.out.range _ hk).2;omega
   have hkP:=(HI.out.stp.keep hbPl hbPn).1
   have hcp:=cell_of_row _ _ k _ _ _ (hkP.trans HPR.out)
   rw [List.getElem?_toArray,prow_get hlt] at hcp
   unfold pcV at hcp
   rw [← ha,← ha2] at hcp
   have hP0:0<P.length:=by omega
   obtain ⟨p,o,f,m,gn,s,hE0⟩:∃ (p o f m gn:Int) (s:ByteArray),P[0]?=some ⟨p,o,f,m,gn,s⟩:=⟨_,_,_,_,_,_,List.getElem?_eq_getElem hP0⟩
   have hfs:fsL P=⟨p,o,f,m⟩:=by
    cases P with
    |nil=>simp at hP0
    |cons b r=>simp at hE0;rw [hE0];rfl
   have hkb:=HI.out.stp.keep (Nat.lt_of_lt_of_le hb2 hsP) HBT.out
   have hLr:Lies wr (some ⟨b,q,none⟩) l:=Lies.same ((HL.out.calm HU.out).calm HBC.out) HI.out.stp.md.size (fun a ha=>by cases ha;exact hkb.1)
   have hLp:Lies wr (some ⟨b,q+a * 6,none⟩) P:=by rw [hpe];exact hLr.part a (a2 - a) (by omega) (by omega)
   have hnl:ns.length=k:=by
    have:=congrArg List.length HI.out.nb
    rw [List.length_map,List.length_map,List.length_take] at this
    have:=HLEN.out
    omega
   obtain ⟨A1,c1,hv1⟩:=HI.out.st.slice
   subst hv1
   have cI:Calls Try.prog 89 #[.pointer (some ⟨g,0,none⟩),.slice (some ⟨b,q+a * 6,none⟩) P.length (c - a)] wr fun e w'=>∃ v'' nn,nn.bare=leafB P∧e=.returned (.agg #[.int .i64 (([]++ns:List Nd).length:Int),.int .i64 p,.int .i64 o,.int .i64 f,.int .i64 m,.int .i64 (ndT (leafB P))])∧BSt w' g 0 v'' ([]++ns++[nn])∧Stp g (.slice A1 ([]++ns).length c1) ([]++ns) v'' ([]++ns++[nn]) wr w' :=
    buLeaf_any g 0 A1 c1 ([]++ns) wr HI.out.st (by rw [List.nil_append];omega) b (q+a * 6) (c - a) p o f m gn s P hE0 hLp (by omega) hkb.2 (HLEAF.out P (List.mem_of_getElem? hpg))
   rw [hpl] at cI
   have HNX:=Lib.hid (fun (nn:Nd) (v'':Value) (w1:World) (hbn:nn.bare=leafB P) (h1:BSt w1 g 0 v'' ([]++ns++[nn])) h2=>HI.out.next hbPl hpg hbn h1 h2)
   rw [hfs] at HNX
   have hsr:=HI.out.stp.md.size
   have hml:(mkBr leafB fsL ([]:List Nd).length ((partsL l).take k)).length≤100:=by rw [mkBr_len,List.length_take];omega
   generalize mkBr leafB fsL ([]:List Nd).length ((partsL l).take k)=BB at HNX hml
   generalize ndT (leafB P)=X at cI HNX
   generalize leafB P=XP at cI HNX
   generalize ((([]++ns:List Nd).length:Nat):Int)=XL at cI HNX
   have hkn:(k:Int)<(n:Int):=by omega
   clear HI hpe hpl hpg hP0 hE0 hfs hkb hLr hLp hkP hbPn ha ha2 hnl
   go_wp2_with (first
    |(go_at_call 89;(with_reducible refine cI.mono ?_);rintro e w1 ⟨v'',nn,hbn,rfl,hst1,hstp1⟩;have hs1:=hstp1.md.size;have hnx:=HNX.out nn v'' w1 hbn hst1 hstp1;have HO1:=Lib.hid hnx.1;have HNX2:=Lib.hid hnx.2;clear hnx hbn hst1 hstp1 cI)
    |(at_builtin;refine wpList_append_br rfl _ _ rfl wP.heap.size _ BB rfl (rows_calm HO1.out ((Calm.refl _).alloc _)) _ _ ⟨XL,⟨p,o,f,m⟩,X⟩ _ rfl (heap_new _ _) (by omega) (by simp;omega) ?_;intro lv' w9 r1 r2 r3;have HF:=Lib.hid (HNX2.out _ w9 lv' ((Calm.refl _).alloc _) r1 r2 r3);clear r1 r2 r3))
   go_roundw
   case rel=>exact ⟨k+1,_,_,by omega,by go_num,HF⟩
   case measure=>simp [intOf];omega
  ·obtain rfl:k=n:=by omega
   have hD:=HI.out
   rw [← HLEN.out] at hD
   have hS:=LvS.first HNE.out h400 HERR.out HRISE.out (LvI.done HBC.out hD)
   clear hD HI HPR HLEAF
   go_wp2_with fail
   go_loopw [6] (fun lv wr=>∃ A' c' BS v' us d,Hid (LvS l g w2 lv A' c' BS v' us d wr)) (fun lv _=>lenV lv)
   case atStart=>exact hS
   clear hS
   case round =>
    obtain ⟨A',c',BS,v',us,d,hS⟩:=hrel
    have he:=hS.out.eq
    subst he
    have hpos:=hS.out.lev.pos
    obtain ⟨bl,ql,hA',hbl',hAt⟩:=hS.out.lies hpos
    subst hA'
    obtain ⟨A0,c0,hv⟩:=hS.out.st.slice
    subst hv
    have hM:=hS.out.lev.len h400
    rw [List.length_map] at hM
    by_cases h1:1<BS.length
    ·have cA:=above_any g 0 A0 c0 us wr hS.out.st bl ql c' BS hS.out.lies h1 hS.out.few hS.out.cap.1 (by omega) (hS.out.dis _ rfl) (lev_spots hS.out.lev.lev) (inner_ok hS.out.lev.lev h1 (by rw [List.length_map];omega) HRISE.out)
     have h1i:1<(BS.length:Int):=by omega
     clear hAt
     go_wp2_with (go_at_call 90;(with_reducible refine cA.mono ?_);rintro e w3 h3;obtain ⟨A2,c2,v2,ns2,he,-⟩:=id h3;subst he;have hS2:=Lib.hid (hS.out.next h400 HRISE.out h1 h3);clear h3 cA)
     go_roundw
     case rel=>obtain ⟨A3,c3,B3,v3,u3,d3,h3,-⟩:=hS2.out;exact ⟨A3,c3,B3,v3,u3,d3,h3⟩
     case measure =>
      obtain ⟨A3,c3,B3,v3,u3,d3,h3,h4⟩:=hS2.out
      have h5:=congrArg lenV h3.eq
      simp only [lenV] at h5 ⊢
      omega
    ·obtain ⟨b0,hb0⟩:∃ b0,BS=[b0]:=List.length_eq_one_iff.1 (by omega)
     subst hb0
     have hroot:=hS.out.lev.root h400
     have hx0:=(hAt 0 b0 rfl).1
     simp only [Nat.zero_mul,Nat.add_zero] at hx0
     have hst:=hS.out.st
     have hzn:¬ TBk g (.slice none 0 0) [] w.heap.size:=fun hk=>by
      rcases hk with hk | hk | ⟨i,m,j,hi,-⟩
      ·omega
      ·simp [Value.ownBlock] at hk
      ·simp at hi
     have hzk:=hS.out.stp.keep (by omega:w.heap.size<w2.heap.size) hzn
     have hzr:=hzk.1.trans HZ.out
     have hcal:Calm w wr:=hS.out.stp.md.calm HU.out fun k hk=>by have:=(HST.out.range k hk).1;omega
     have hbx:=hst.box
     have HT:=Lib.hid hst.t
     have HR:=Lib.hid hroot
     have HC:=Lib.hid hcal
     have hli1:¬ 1<((1:Nat):Int):=by omega
     have hgw:g≠w.heap.size:=by omega
     obtain ⟨i0,i1,his⟩:=rowT hbx
     obtain ⟨f0,f1,f2,f3,f4,f5⟩:=free6 hbx
     clear hS hAt hst hzk hcal hroot hzn
     go_upto_region 16 with fail
     have hbx2:=heap_setCell_same wr g 0 _ _ (.int .i64 b0.x) hbx
     have hzr2:=(heap_setCell_other wr ⟨g,0,none⟩ w.heap.size (.int .i64 b0.x) (fun e=>hgw (by simpa using e.symm))).trans hzr
     have HC2:=Lib.hid (HC.out.setCell (p:=⟨g,0,none⟩) (by show w.heap.size≤g;omega) (.int .i64 b0.x))
     have HT2:=Lib.hid (HT.out.set (g:=g) (by omega) 0 (.int .i64 b0.x))
     generalize World.setCell wr ⟨g,0,none⟩ (.int .i64 b0.x)=w4 at hbx2 hzr2 HC2 HT2 ⊢
     clear i0 i1 his f0 f1 f2 f3 f4 f5 hbx hzr hx0
     obtain ⟨i0,i1,his⟩:=rowT hbx2
     obtain ⟨z0,z1,hzs⟩:=rowT hzr2
     obtain ⟨f0,f1,f2,f3,f4,f5⟩:=free6 hzr2
     have HT3:=Lib.hid ((HT2.out.set (g:=w.heap.size) (by omega) 0 (.int .i64 b0.x)).set (g:=w.heap.size) (by omega) 1 (.slice A0 us.length c0))
     go_wp2_with fail
     exact HRET.out _ _ _ _ rfl rfl rfl (setOf2 hzr2 _ _) rfl (HFIN.out b0.x A0 c0 us _ (HT3.out.mono (by omega)) HR.out (HC2.out.twoOf (Nat.le_refl _) _ _))
theorem buildOf_any (A:Option Addr) (c:Nat) (l:List El) (w:World) (hn:l.length≤9223372036854775807) (hL:Lies w A l) (hc:l.length≤c):Calls Try.prog 52 #[.slice A l.length c] w (OfEnd l w):=by
 by_cases hE:bErr l=0
 ·rcases Nat.eq_zero_or_pos l.length with h0 | h0
  ·have hl:=List.eq_nil_of_length_eq_zero h0
   subst hl
   exact of_nil A c w
  ·obtain ⟨b,q,rfl,hb,-⟩:=hL.2 h0
   exact of_good b q c l w hn hL h0 hc hb hE
 ·exact of_bad A c l w hn hL hE
open Go.RowKit
set_option maxHeartbeats 2000000 in
theorem atk_any (n:Int) (s:ByteArray) (w:World):Calls Try.prog 25 #[.int .i64 n,.string s] w fun e w'=>e=.returned (.agg #[.int .i64 0,.int .i64 0,.int .i64 n,.int .i64 1,.int .i64 0,.string s])∧Calm w w':=by
 go_enter Try.func25,Try.ntmps25
 go_wp2_with fail
 go_returns
 exact ⟨rfl,by repeat (first | (with_reducible exact Calm.refl _) | (with_reducible refine Calm.alloc ?_ _) | (with_reducible refine Calm.drew ?_) | (with_reducible refine Calm.drewN ?_ _) | (refine Calm.call ?_ (by with_reducible assumption)))⟩
def OfOk (l:List El) (w:World) (e:Ending) (w':World):Prop :=
 ∃ root A c us,e=.returned (.agg #[.int .i64 root,.slice A us.length c])∧TOwn w.heap.size w' (.slice A us.length c) us∧treeErr us root=0∧allOf us root=l∧depthOf us root=upD (partsN l.length)+1∧us.length=lvls l.length∧Calm w w'
set_option maxHeartbeats 8000000 in
theorem keepOf_any (A:Option Addr) (c:Nat) (l:List El) (w:World) (hn:l.length≤9223372036854775807) (hL:Lies w A l) (hc:l.length≤c) (hE:bErr l=0):Calls Try.prog 17 #[.slice A l.length c] w (OfOk l w):=by
 have hz:=heap_new w (.cells #[.int .i64 0,.slice none 0 0] 24)
 have hu:=(Calm.refl w).alloc (.cells #[.int .i64 0,.slice none 0 0] 24)
 have hsz:=World.size_alloc w (.cells #[.int .i64 0,.slice none 0 0] 24)
 have cO:Calls Try.prog 52 #[.slice A l.length c] (w.alloc (.cells #[.int .i64 0,.slice none 0 0] 24)) fun e w'=>∃ root A c us,e=.returned (.tuple #[.agg #[.int .i64 root,.slice A us.length c],.int .i64 0])∧Hid (TOwn (w.heap.size+1) w' (.slice A us.length c) us)∧Hid (treeErr us root=0∧allOf us root=l∧depthOf us root=upD (partsN l.length)+1∧us.length=lvls l.length)∧Calm (w.alloc (.cells #[.int .i64 0,.slice none 0 0] 24)) w':=by
  refine (buildOf_any A c l _ hn (hL.calm hu) hc).mono fun e w' h=>?_
  rcases h with ⟨h1,-⟩ | ⟨-,root,A',c',us,h1,h2,h3,h4,h5,h6,h7⟩
  ·exact absurd hE h1
  ·rw [hsz] at h2
   exact ⟨root,A',c',us,h1,h2,⟨h3,h4,h5,h6⟩,h7⟩
 have HFIN:Hid (∀ root A c us w',TOwn w.heap.size w' (.slice A us.length c) us→treeErr us root=0∧allOf us root=l∧depthOf us root=upD (partsN l.length)+1∧us.length=lvls l.length→Calm w w'→OfOk l w (.returned (.agg #[.int .i64 root,.slice A us.length c])) w'):=show ∀ _ _ _ _ _,_→_→_→_ from fun root A c us w' h1 h2 h3 =>
  ⟨root,A,c,us,rfl,h1,h2.1,h2.2.1,h2.2.2.1,h2.2.2.2,h3⟩
 generalize hOE:OfOk l w=OE at HFIN ⊢
 clear hOE hL hE
 go_enter Try.func17,Try.ntmps17
 generalize hQ0:bodyPost Try.prog Try.f17 _=Q0
 have HRET:Hid (∀ (a:Act) w' (cs:Array Value) (t:TypeId),a.defers=[]→a.tmps.getD 2 undef=.pointer (some ⟨w.heap.size,0,none⟩)→w'.heap[w.heap.size]?=some (.cells cs t (0,0))→cs.size=2→OE (.returned (.agg cs)) w'→Q0 .ret a w'):=show ∀ _ _ _ _,_→_→_→_→_→_ from fun a w' cs t h0 h1 h2 h3 h4=>by
  rw [← hQ0]
  exact end_tr (p:=2) rfl rfl a w' w.heap.size t cs (0,0) h0 h1 h2 h3 h4
 clear hQ0
 go_upto_region 1 with fail
 generalize w.alloc (.cells #[.int .i64 0,.slice none 0 0] 24)=w1 at hz hu hsz cO ⊢
 go_upto_region 2 with (go_at_call 52;refine cO.mono ?_;rintro e w2 ⟨root,A',c',us,rfl,HT,HR,hb1⟩)
 replace hz:=(hb1.block (rowT hz).2.2).trans hz
 replace hu:=hu.call hb1
 have hb:=heap_new w2 (.cells #[.int .i64 root,.slice A' us.length c'] 24)
 have hc3:=(Calm.refl w2).alloc (.cells #[.int .i64 root,.slice A' us.length c'] 24)
 replace hz:=heap_past (.cells #[.int .i64 root,.slice A' us.length c'] 24) hz
 have HT2:=Lib.hid (HT.out.calm hc3)
 replace hu:=hu.call hc3
 generalize w2.alloc (.cells #[.int .i64 root,.slice A' us.length c'] 24)=w3 at hz hu hb HT2 ⊢
 obtain ⟨z0,z1,hzs⟩:=rowT hz
 obtain ⟨y0,y1,hys⟩:=rowT hb
 obtain ⟨f0,f1,f2,f3,f4,f5⟩:=free6 hz
 have HT3:=Lib.hid ((HT2.out.set (g:=w.heap.size) (by omega) 0 (.int .i64 root)).set (g:=w.heap.size) (by omega) 1 (.slice A' us.length c'))
 clear hb1 cO HT HT2 hc3
 go_wp2_with fail
 exact HRET.out _ _ _ _ rfl rfl (setOf2 hz _ _) rfl (HFIN.out root A' c' us _ (HT3.out.mono (by omega)) HR.out (hu.twoOf (Nat.le_refl _) _ _))
def eA:El:=⟨0,0,1,1,0,{ data:=#[97] }⟩
theorem bErr_A:bErr [eA]=0:=by decide +kernel
theorem lies_A {w:World} {g:Nat} (h:w.heap[g]?=some (.cells #[.int .i64 0,.int .i64 0,.int .i64 1,.int .i64 1,.int .i64 0,.string { data:=#[97] }] 43 (0,0))):Lies w (some ⟨g,0,none⟩) [eA]:=by
 have c:=fun j=>cell_of_row _ g j _ _ _ h
 refine ⟨fun e he=>?_,fun _=>⟨g,0,rfl,(Array.getElem?_eq_some_iff.1 h).1,fun k e he=>?_⟩⟩
 ·rw [List.mem_singleton.1 he];unfold El.wf eA;simp only;omega
 ·match k,he with
  | 0,he=>simp at he;subst he;exact ⟨c 0,c 1,c 2,c 3,c 4,c 5⟩
  |k+1,he=>simp at he
theorem of_A (u:World) (gB:Nat) (h:u.heap[gB]?=some (.cells #[.int .i64 0,.int .i64 0,.int .i64 1,.int .i64 1,.int .i64 0,.string { data:=#[97] }] 43 (0,0))):Calls Try.prog 17 #[.slice (some ⟨gB,0,none⟩) 1 1] u (OfOk [eA] u) :=
 keepOf_any (some ⟨gB,0,none⟩) 1 [eA] u (by simp) (lies_A h) (by simp) bErr_A
open Go.RowKit
theorem own_len {w:World} {base:Nat} {e:TypeId} {size n m:Nat} {A:Option Addr} {c:Nat} {xs:List Value} (h:w.ownsRow base e size (.slice A m c) n xs):m≤c:=by
 rcases h.2 with ⟨h1,-⟩ | ⟨g,cap,cur,h1,-,-,h3,-⟩
 ·cases h1;omega
 ·injection h1 with _ h4 h5;omega
theorem TOwn.ndcaps {B:Nat} {w:World} {v:Value} {l:List Nd} (h:TOwn B w v l):∀ n∈l,NdCaps n:=fun n hn=>by
 obtain ⟨i,hi⟩:=List.getElem?_of_mem hn
 have g:=h.nd i n hi
 exact ⟨own_len g.e,own_len g.k,own_len g.s,own_len g.t⟩
theorem allOf_rises {l:List Nd} {root:Int} (h:treeErr l root=0):(allOf l root).Pairwise Rise:=(deep_ok h).rise
open Go.RowKit
theorem rise_spot {L:List El} (hp:L.Pairwise Rise) {i j:Nat} {a b:El} (hi:L[i]?=some a) (hj:L[j]?=some b) (h:a.sp=b.sp):i=j:=by
 obtain ⟨hil,hie⟩:=List.getElem?_eq_some_iff.1 hi
 obtain ⟨hjl,hje⟩:=List.getElem?_eq_some_iff.1 hj
 have hpw:=List.pairwise_iff_getElem.1 hp
 rcases Nat.lt_trichotomy i j with h1 | h1 | h1
 ·have h2:sL L[i].sp L[j].sp:=hpw i j hil hjl h1
  rw [hie,hje,h] at h2
  exact (sL_irrefl h2).elim
 ·exact h1
 ·have h2:sL L[j].sp L[i].sp:=hpw j i hjl hil h1
  rw [hie,hje,h] at h2
  exact (sL_irrefl h2).elim
structure TreeOk (B:Nat) (w:World) (root:Int) (A:Option Addr) (c:Nat) (l:List Nd) (L:List El):Prop where
 own:TOwn B w (.slice A l.length c) l
 err:treeErr l root=0
 all:allOf l root=L
theorem setEnd_ok {l : List Nd} {root : Int} {x : El} {w w' : World} {e : Ending} (h : SetEnd l root x w e w') (hE : setErr l root x = 0) (hz : treeErr l root = 0) {j : Nat} {b : El} (hj : (allOf l root)[j]? = some b) (hb : b.sp = x.sp) :
    ∃ root' A' c' us', e = .returned (.tuple #[.agg #[.int .i64 root', .slice A' us'.length c'], .int .i64 0]) ∧ TreeOk w.heap.size w' root' A' c' us' ((allOf l root).set j x) ∧ Calm w w' := by
  rcases h with ⟨h0, -⟩ | ⟨-, root', v, us', A0, E, B0, i, a, rfl, h1, h2, h3, h4, h5, h6, h7⟩
  · exact absurd hE h0
  · obtain ⟨A', c', rfl⟩ := h1.row.slice
    have hi := (List.getElem?_eq_some_iff.1 h4).1
    refine ⟨root', A', c', us', rfl, ⟨h1, h2, ?_⟩, h7⟩
    rw [h6, set_mid x hi, ← h3]
    have hij : A0.length + i = j := rise_spot (allOf_rise hz) (i := A0.length + i) (a := a) (by
      rw [h3, List.append_assoc, List.getElem?_append_right (by omega), Nat.add_sub_cancel_left, List.getElem?_append_left hi]; exact h4) hj (by rw [h5, hb])
    rw [hij]
theorem grow_none {l:List Nd} {root:Int} {x:El} (hz:treeErr l root=0) (hx:x.err=0):growErr l root x=0:=by
 unfold growErr
 rw [if_neg (by rw [hz];decide)];exact hx
theorem is_there {l:List Nd} {root:Int} {x:El} (hz:treeErr l root=0) (hx:x.err=0) (h:∃ a∈allOf l root,a.sp=x.sp):growIs l root x=true:=by
 unfold growIs
 refine decide_eq_true ⟨grow_none hz hx,?_⟩
 unfold spotErr
 rw [if_neg (by rw [hz];decide),if_pos]
 unfold spotAt
 rw [List.find?_isSome]
 obtain ⟨a,ha,hs⟩:=h
 exact ⟨a,ha,by simpa using hs⟩
theorem not_there {l:List Nd} {root:Int} {x:El} (hz:treeErr l root=0) (h:∀ a∈allOf l root,a.sp≠x.sp):growIs l root x=false:=by
 unfold growIs
 refine decide_eq_false fun h1=>?_
 have h2:=h1.2
 unfold spotErr at h2
 rw [if_neg (by rw [hz];decide)] at h2
 split at h2
 ·rename_i h3
  obtain ⟨a,ha,hs⟩:=spot_in h3
  exact h a ha hs
 ·omega
theorem set_zero {l:List Nd} {root:Int} {x:El} (hz:treeErr l root=0) (hx:x.err=0) (h:∃ a∈allOf l root,a.sp=x.sp):setErr l root x=0:=by
 unfold setErr
 rw [if_neg (by rw [grow_none hz hx];decide),if_pos (is_there hz hx h)]
theorem TreeOk.two {B:Nat} {w:World} {root:Int} {A:Option Addr} {c:Nat} {l:List Nd} {L:List El} (h:TreeOk B w root A c l L) {g:Nat} (hg:g<B) (b0 b1:Value):TreeOk B ((w.setCell ⟨g,0,none⟩ b0).setCell ⟨g,1,none⟩ b1) root A c l L:=⟨(h.own.set hg _ _).set hg _ _,h.err,h.all⟩
theorem TreeOk.calm {B:Nat} {w w':World} {root:Int} {A:Option Addr} {c:Nat} {l:List Nd} {L:List El} (h:TreeOk B w root A c l L) (hb:Calm w w'):TreeOk B w' root A c l L:=⟨h.own.calm hb,h.err,h.all⟩
open Go.RowKit
set_option maxHeartbeats 16000000 in
theorem growSet_any (root : Int) (A : Option Addr) (cA : Nat) (l : List Nd) (w : World) (h : TrAt w A l) (hcap : ∀ n ∈ l, NdCaps n) (p o f m gg : Int) (s : ByteArray) :
    Calls Try.prog 24 #[.agg #[.int .i64 root, .slice A l.length cA], .agg #[.int .i64 p, .int .i64 o, .int .i64 f, .int .i64 m, .int .i64 gg, .string s]] w (SetEnd l root ⟨p, o, f, m, gg, s⟩ w) := by
  have hx := heap_past (.cells #[.int .i64 0, .slice none 0 0] 24) (heap_past (.cells #[.int .i64 p, .int .i64 o, .int .i64 f, .int .i64 m, .int .i64 gg, .string s] 43) (heap_new w (.cells #[.int .i64 root, .slice A l.length cA] 24)))
  have hy := heap_past (.cells #[.int .i64 0, .slice none 0 0] 24) (heap_new (w.alloc (.cells #[.int .i64 root, .slice A l.length cA] 24)) (.cells #[.int .i64 p, .int .i64 o, .int .i64 f, .int .i64 m, .int .i64 gg, .string s] 43))
  have hr := heap_new ((w.alloc (.cells #[.int .i64 root, .slice A l.length cA] 24)).alloc (.cells #[.int .i64 p, .int .i64 o, .int .i64 f, .int .i64 m, .int .i64 gg, .string s] 43)) (.cells #[.int .i64 0, .slice none 0 0] 24)
  rw [World.size_alloc] at hy hr
  rw [World.size_alloc] at hr
  have hu := (((Calm.refl w).alloc (.cells #[.int .i64 root, .slice A l.length cA] 24)).alloc (.cells #[.int .i64 p, .int .i64 o, .int .i64 f, .int .i64 m, .int .i64 gg, .string s] 43)).alloc (.cells #[.int .i64 0, .slice none 0 0] 24)
  have cG := fun u (hu : Calm w u) => growLook_any root A cA l u (h.calm hu) hcap p o f m gg s
  obtain ⟨x0, x1, hxs⟩ := rowT hx
  obtain ⟨y0, y1, y2, y3, y4, y5, hys⟩ := row6 hy
  by_cases h1 : growErr l root ⟨p, o, f, m, gg, s⟩ = 0
  rotate_left
  · have e0 : setErr l root ⟨p, o, f, m, gg, s⟩ = growErr l root ⟨p, o, f, m, gg, s⟩ := by unfold setErr; rw [if_pos h1]
    have b1 : (growErr l root ⟨p, o, f, m, gg, s⟩ != 0) = true := by rw [bne_iff_ne]; exact h1
    have HE : Hid (∀ w', Calm w w' → SetEnd l root ⟨p, o, f, m, gg, s⟩ w (.returned (.tuple #[.agg #[.int .i64 0, .slice none 0 0], .int .i64 (growErr l root ⟨p, o, f, m, gg, s⟩)])) w') := show ∀ _, _ from fun w' hw => .inl ⟨by rw [e0]; exact h1, by rw [e0], hw⟩
    clear h1 e0 h hcap
    generalize growErr l root ⟨p, o, f, m, gg, s⟩ = R at cG b1 HE
    generalize growIs l root ⟨p, o, f, m, gg, s⟩ = I at cG
    go_enter Try.func24, Try.ntmps24
    go_wp2_with (go_at_call 55; (with_reducible refine (cG _ hu).mono ?_); rintro e w1 ⟨rfl, hb1⟩; have hr1 := (hb1.block (rowT hr).2.2).trans hr; have hx1 := (hb1.block (rowT hx).2.2).trans hx; have hu1 := hu.call hb1; obtain ⟨r0, r1, hrs⟩ := rowT hr1; obtain ⟨f0, f1⟩ := freeT2 hr1; clear hb1 x0 x1 hxs; obtain ⟨x0, x1, hxs⟩ := rowT hx1)
    have hr9 := setT2 hr1 (.int .i64 0) (.slice none 0 0)
    have hu9 := hu1.twoT (g := w.heap.size + 1 + 1) (by omega) (.int .i64 0) (.slice none 0 0)
    exact end_trE (p := 4) (q := 5) rfl rfl _ _ _ _ _ _ _ rfl rfl rfl hr9 rfl (HE.out _ hu9)
  have e0 : setErr l root ⟨p, o, f, m, gg, s⟩ = if growIs l root ⟨p, o, f, m, gg, s⟩ = true then 0 else 4 := by unfold setErr; rw [if_neg (by simpa using h1)]
  have hz : treeErr l root = 0 := by
    by_cases hz : treeErr l root = 0
    · exact hz
    · unfold growErr at h1; rw [if_pos hz] at h1; exact absurd h1 hz
  rw [h1] at cG
  by_cases h2 : growIs l root ⟨p, o, f, m, gg, s⟩ = false
  · rw [if_neg (by rw [h2]; decide)] at e0
    have HE : Hid (∀ w', Calm w w' → SetEnd l root ⟨p, o, f, m, gg, s⟩ w (.returned (.tuple #[.agg #[.int .i64 0, .slice none 0 0], .int .i64 4])) w') := show ∀ _, _ from fun w' hw => .inl ⟨by rw [e0]; decide, by rw [e0], hw⟩
    rw [h2] at cG
    clear h1 e0 h hcap hz h2
    go_enter Try.func24, Try.ntmps24
    go_wp2_with (go_at_call 55; (with_reducible refine (cG _ hu).mono ?_); rintro e w1 ⟨rfl, hb1⟩; have hr1 := (hb1.block (rowT hr).2.2).trans hr; have hx1 := (hb1.block (rowT hx).2.2).trans hx; have hu1 := hu.call hb1; obtain ⟨r0, r1, hrs⟩ := rowT hr1; obtain ⟨f0, f1⟩ := freeT2 hr1; clear hb1 x0 x1 hxs; obtain ⟨x0, x1, hxs⟩ := rowT hx1)
    have hr9 := setT2 hr1 (.int .i64 0) (.slice none 0 0)
    have hu9 := hu1.twoT (g := w.heap.size + 1 + 1) (by omega) (.int .i64 0) (.slice none 0 0)
    exact end_trE (p := 4) (q := 5) rfl rfl _ _ _ _ _ _ _ rfl rfl rfl hr9 rfl (HE.out _ hu9)
  have h2' : growIs l root ⟨p, o, f, m, gg, s⟩ = true := by simpa using h2
  rw [if_pos h2'] at e0
  rw [h2'] at cG
  have hG := treeErr_zero.1 hz
  obtain ⟨hl4, hok, -, -, -, D, hD, -⟩ := id hG
  have hDe := depthOf_eq hok hD
  have hEl : (⟨p, o, f, m, gg, s⟩ : El).err = 0 := by
    unfold growErr at h1; rw [if_neg (by simpa using hz)] at h1; exact h1
  have hso : ∃ a ∈ allOf l root, a.sp = ⟨p, o, f, m⟩ := spot_in (by
    unfold growIs at h2'
    rw [h1] at h2'
    have h5 := (of_decide_eq_true h2').2
    unfold spotErr at h5
    rw [if_neg (by simpa using hz)] at h5
    cases h7 : (spotAt (allOf l root) ⟨p, o, f, m⟩).isSome with
    | true => rfl
    | false => rw [show (⟨p, o, f, m, gg, s⟩ : El).sp = ⟨p, o, f, m⟩ from rfl, h7] at h5; exact absurd h5 (by decide))
  have hD4 : D ≤ 400 := by
    obtain ⟨d, n, g1, -⟩ := good_wide hz
    have := good_low hz g1
    omega
  have cTo := fun u (hu : Calm w u) => to_any root A cA l u (h.calm hu) hok hl4 D hD4 hD p o f m
  obtain ⟨W, hW⟩ : ∃ W, W = wayOf l ⟨p, o, f, m⟩ D root := ⟨_, rfl⟩
  rw [← hW] at cTo
  have HE : Hid (∀ w' root' v us' A0 E B0 i a, TOwn w.heap.size w' v us' → treeErr us' root' = 0 → allOf l root = A0 ++ E ++ B0 → E[i]? = some a → a.sp = ⟨p, o, f, m⟩ → allOf us' root' = A0 ++ E.set i ⟨p, o, f, m, gg, s⟩ ++ B0 → Calm w w' → SetEnd l root ⟨p, o, f, m, gg, s⟩ w (.returned (.tuple #[.agg #[.int .i64 root', v], .int .i64 0])) w') := show ∀ _, _ from fun w' root' v us' A0 E B0 i a a1 a2 a3 a4 a5 a6 a7 => .inr ⟨e0, root', v, us', A0, E, B0, i, a, rfl, a1, a2, a3, a4, a5, a6, a7⟩
  have HF : Hid (treeErr l root = 0 ∧ (⟨p, o, f, m, gg, s⟩ : El).err = 0 ∧ (∃ a ∈ allOf l root, a.sp = ⟨p, o, f, m⟩) ∧ NdsOk l ∧ Deep l D root ∧ W = wayOf l ⟨p, o, f, m⟩ D root) := show _ ∧ _ from ⟨hz, hEl, hso, hok, hD, hW⟩
  clear h1 e0 h hcap hz h2 h2' hG hl4 hok hD hDe hEl hso hD4 hW
  go_enter Try.func24, Try.ntmps24
  generalize hQ0 : bodyPost Try.prog Try.f24 (SetEnd l root ⟨p, o, f, m, gg, s⟩ w) = Q0
  have HRET : Hid (∀ a w', bodyPost Try.prog Try.f24 (SetEnd l root ⟨p, o, f, m, gg, s⟩ w) .ret a w' → Q0 .ret a w') := show ∀ a w', _ → _ from fun a w' h => hQ0 ▸ h
  clear hQ0
  go_upto_region 6 with first
      | (go_at_call 55; (with_reducible refine (cG _ hu).mono ?_); rintro e w1 ⟨rfl, hb1⟩; have hr1 := (hb1.block (rowT hr).2.2).trans hr; have hx1 := (hb1.block (rowT hx).2.2).trans hx; have hy1 := (hb1.block (row6 hy).2.2.2.2.2.2).trans hy; have hu1 := hu.call hb1; obtain ⟨r0, r1, hrs⟩ := rowT hr1; obtain ⟨f0, f1⟩ := freeT2 hr1; clear hb1 x0 x1 hxs y0 y1 y2 y3 y4 y5 hys; obtain ⟨x0, x1, hxs⟩ := rowT hx1)
  have HU2 := Lib.hid hu1
  have hxl := (rowT hx1).2.2
  have hyl := (row6 hy1).2.2.2.2.2.2
  clear cG hx hy hr hu f0 f1 r0 r1 hrs x0 x1 hxs
  refine wp_region_stages [.val (.agg #[.int .i64 root, .slice A l.length cA]), .val (.agg #[.int .i64 p, .int .i64 o, .int .i64 f, .int .i64 m, .int .i64 gg, .string s]), .val (.agg #[.int .i64 p, .int .i64 o, .int .i64 f, .int .i64 m]), .late, .late, .late [3, 4]] [3, 4, 5]
    (StG w1 w1.heap.size l root W) (by kernel_rfl) (by kernel_rfl) (by kernel_rfl) StG.stay (fun Y => .inl ⟨_, _, .slice none 0 0, .slice none 0 0, [], rfl, PreG.start (Nat.le_refl _) (Calm.refl _).drew⟩) (fun Y => ?_)
  refine planS_val (by kernel_rfl) (fun L u hb hS => ?_) ?_
  · obtain ⟨x0, x1, hxs⟩ := rowT ((hS.calm.block hxl).trans hx1)
    clear hS hb
    go_simp
  simp only [Act.put, List.setIfInBounds_toArray, List.set_cons_zero, List.set_cons_succ, Nat.reduceAdd]
  refine planS_val (by kernel_rfl) (fun L u hb hS => ?_) ?_
  · obtain ⟨y0, y1, y2, y3, y4, y5, hys⟩ := row6 ((hS.calm.block hyl).trans hy1)
    clear hS hb
    go_simp
  simp only [Act.put, List.setIfInBounds_toArray, List.set_cons_zero, List.set_cons_succ, Nat.reduceAdd]
  refine planS_val (by kernel_rfl) (fun L u hb hS => ?_) ?_
  · clear hS hb
    go_simp
    all_goals first | (go_at_call 28; exact spot_any _ _ _ _ _ _ _) | done
  simp only [Act.put, List.setIfInBounds_toArray, List.set_cons_zero, List.set_cons_succ, Nat.reduceAdd]
  refine planS_late (fun L u hi hb hS => ?_) ?_
  · obtain ⟨h10, v, vW, us, hP⟩ := hS.pre (by simp [hi])
    rw [hi] at hP
    have HP := Lib.hid hP
    have H10 := Lib.hid h10
    clear hS hP h10
    go_wp2_with (go_at_call 56; (with_reducible refine (cTo _ (HU2.out.call HP.out.calm)).mono ?_); rintro e w9 ⟨v9, vW9, us9, rfl, hs9, ho9, hn9, hd9, hb9⟩)
    exact .inl ⟨true, L 4, v9, vW9, us9, by simp [updB, H10.out], HP.out.do3 hs9 ho9 hn9 hd9 hb9⟩
  simp only [Act.put, List.setIfInBounds_toArray, List.set_cons_zero, List.set_cons_succ, Nat.reduceAdd]
  refine planS_late (fun L u hi hb hS => ?_) ?_
  · obtain ⟨h10, v, vW, us, hP⟩ := hS.pre (by simp [hi])
    rw [hi] at hP
    have HP := Lib.hid hP
    have H10 := Lib.hid h10
    clear hS hP h10
    go_wp2_with fail
    exact .inl ⟨L 3, true, v, vW, us, by simp [updB, H10.out], HP.out.do4⟩
  simp only [Act.put, List.setIfInBounds_toArray, List.set_cons_zero, List.set_cons_succ, Nat.reduceAdd]
  refine planS_late (fun L u hi hb hS => ?_) ?_
  · obtain ⟨h10, v, vW, us, hP⟩ := hS.pre (by simp [hi])
    rw [hb 3 (by simp), hb 4 (by simp)] at hP
    obtain ⟨e3, hSa, -, -, -⟩ := hP.t rfl
    obtain ⟨g, e4, hBg, hg⟩ := hP.g rfl
    obtain ⟨aW, bW, eW⟩ := rows_slice (hP.t rfl).2.2.2.1
    obtain ⟨av, bv, ev⟩ := (hP.t rfl).2.2.1.row.slice
    have hQ := hP.do5 e4 hBg hg hBg
    have H := Lib.hid (show [3, 4, 5].map (updB L 5) = [true, true, true] by simp [updB, hb 3 (by simp), hb 4 (by simp)])
    have HQ : Hid (∀ y, StG w1 w1.heap.size l root W ([3, 4, 5].map (updB L 5)) (updV Y 5 y) (World.three u g (.int .i64 root) v vW)) := show ∀ _, _ from fun y => .inr ⟨H.out, hQ.1, g, v, vW, us, e4, hSa, hQ.2⟩
    unfold insZ at hg
    obtain ⟨z0, z1, z2, hzs⟩ := row3 hg
    obtain ⟨f0, f1, f2, f3, f4⟩ := free5 hg
    rw [ev, eW] at HQ e3
    rw [e3, e4]
    clear hS hP h10 hb hQ e3 e4 ev eW hg hSa
    go_wp2_with fail
    exact ⟨undef, HQ.out undef⟩
  simp only [Act.put, Nat.reduceAdd]
  refine planS_end ?_
  intro w4 hS
  obtain ⟨hu4, g, v, vW, us, e4, hSa, hI⟩ : Calm w1 w4 ∧ ∃ g v vW us, Y 4 = .pointer (some ⟨g, 0, none⟩) ∧ SameT l us ∧ InsOk w1.heap.size w4 g root v vW us W := by
    rcases hS with ⟨_, _, _, _, _, h1, -⟩ | ⟨-, h2⟩
    · simp at h1
    · exact h2
  rw [e4]
  generalize Y 3 = y3'
  clear hS e4 Y
  obtain ⟨hz, hEl, ⟨a, hal, has⟩, hok, hD, hW⟩ := HF.out
  obtain ⟨hzu, hau⟩ := hSa.good hz
  obtain ⟨RT, y, d, ws, c, rfl, g1, g2, g3, g4, g5, g6, g7, g8, g9, g10, g11⟩ := change_at hzu ⟨p, o, f, m⟩
  have hDd : D = d + 1 := by rw [← g1, depthOf_eq (hSa.ok hok) (hSa.deep hD)]
  have hWe : W = (RT : Int) :: ws := by rw [hW, ← hSa.way, hDd, g2]
  obtain ⟨aW, cW, eW⟩ := rows_slice hI.n
  have hus : 0 < us.length := by
    have := (List.getElem?_eq_some_iff.1 (nd_at.1 g5.nd)).1
    omega
  obtain ⟨gN, cN, eN⟩ : ∃ gN cN, v = .slice (some ⟨gN, 0, none⟩) us.length cN := by
    rcases hI.t.row.2 with ⟨-, h0⟩ | ⟨g', cap', cur, h0, -⟩
    · omega
    · exact ⟨g', cap', h0⟩
  subst eN eW hWe
  obtain ⟨I, haI⟩ : ∃ I, c.E[I]? = some a := mem_at (by
    have := g3.only a (by rw [← g10, hau]; exact hal) has
    rw [leaf_recs g5] at this
    exact this)
  have cI := fun u (hu : Calm w4 u) => replace_tree w1.heap.size g gN cN cW aW RT y I us ws u (hI.calm hu) p o f m gg s c (d + 1) a g3 (by omega) g5 g6 g7 g8 g9 hEl haI has
  have hy4 := (hu4.block hyl).trans hy1
  obtain ⟨y0, y1, y2, y3, y4, y5, hys⟩ := row6 hy4
  have HI := Lib.hid hI
  have HU4 := Lib.hid hu4
  have HR2 := Lib.hid hr1
  have HA : Hid (recsD us (d + 1) (RT : Int) = allOf l (RT : Int)) := show _ = _ from by rw [← g10, hau]
  have HAI := Lib.hid haI
  have HAS := Lib.hid has
  clear hI hu4 hSa hz hEl hal haI has hok hD hW hzu hau g1 g2 g3 g4 g5 g6 g7 g8 g9 g10 g11 hDd hus hy4 hx1 hy1 hr1 hxl hyl cTo HF
  go_upto_region 8 with (go_at_call 57; (with_reducible refine (cI _ (Calm.refl _)).mono ?_); rintro e w5 ⟨A0, B0, hrec, gN', cN', us', root', A', c', W', rfl, hdone, hz5, ha5⟩; have HREC := Lib.hid hrec; have HD := Lib.hid hdone; have HZ := Lib.hid hz5; have HA5 := Lib.hid ha5; clear hrec hdone hz5 ha5 cI y0 y1 y2 y3 y4 y5 hys)
  have hc5 : Calm w1 w5 := HD.out.mod.calm HU4.out fun k hk => (HI.out.foot k hk).1
  have hr5 := (hc5.block (rowT HR2.out).2.2).trans HR2.out
  obtain ⟨r0, r1, hrs⟩ := rowT hr5
  obtain ⟨f0, f1⟩ := freeT2 hr5
  obtain ⟨z0, z1, z2, hzs⟩ := row3 HD.out.ok.box
  have HC5 := Lib.hid (HU2.out.call hc5)
  have HR5 := Lib.hid hr5
  clear hc5 hr5
  go_wp2_with fail
  refine HRET.out _ _ ?_
  have hr9 := setT2 HR5.out (.int .i64 root') (.slice (some ⟨gN', 0, none⟩) us'.length cN')
  have hu9 := HC5.out.twoT (g := w.heap.size + 1 + 1) (by omega) (.int .i64 root') (.slice (some ⟨gN', 0, none⟩) us'.length cN')
  have hlt : w.heap.size + 1 + 1 < w1.heap.size := (rowT HR2.out).2.2
  exact end_trE (p := 4) (q := 5) rfl rfl _ _ _ _ _ _ _ rfl rfl rfl hr9 rfl (HE.out _ root' _ us' A0 c.E B0 I a (((HD.out.ok.t.set hlt _ _).set hlt _ _).mono (by omega)) HZ.out (by rw [← HA.out]; exact HREC.out) HAI.out HAS.out HA5.out hu9)
open Go.RowKit
structure HasL (w:World) (root:Int) (A:Option Addr) (l:List Nd) (L:List El):Prop where
 at_:TrAt w A l
 caps:∀ n∈l,NdCaps n
 err:treeErr l root=0
 all:allOf l root=L
section
variable {w w':World} {root:Int} {A:Option Addr} {l:List Nd} {L:List El}
theorem HasL.calm (h:HasL w root A l L) (hb:Calm w w'):HasL w' root A l L:=⟨h.at_.calm hb,h.caps,h.err,h.all⟩
theorem HasL.rise (h:HasL w root A l L):L.Pairwise Rise:=h.all ▸ allOf_rises h.err
theorem HasL.wf (h:HasL w root A l L):∀ e∈L,e.wf:=by
 rw [← h.all]
 unfold allOf
 exact recs_wf h.at_ _ _
theorem HasL.errs (h:HasL w root A l L):∀ e∈L,e.err=0:=by
 obtain ⟨d',n',hd,hw,hn,hg,hall⟩:=good_wide h.err
 exact fun e he=>hw.errs e (hall ▸ h.all ▸ he)
theorem HasL.len (h:HasL w root A l L):L.length≤3200:=by
 obtain ⟨-,-,d,-,-,-,hl⟩:=tree_good h.err
 rw [h.all] at hl
 exact hl
theorem TreeOk.has {B c:Nat} (h:TreeOk B w root A c l L):HasL w root A l L:=⟨h.own.at_ (by have:=(tree_good h.err).1;omega),h.own.ndcaps,h.err,h.all⟩
end
noncomputable def setR (L:List El) (x:El):Int:=if x.err≠0 then x.err else if (spotAt L x.sp).isSome then 0 else 4
theorem growErr_of {l:List Nd} {root:Int} {x:El} (hz:treeErr l root=0):growErr l root x=x.err:=by
 unfold growErr
 rw [if_neg (by simpa using hz)];rfl
theorem growIs_of {l:List Nd} {root:Int} {x:El} (hz:treeErr l root=0) (hx:x.err=0):growIs l root x=(spotAt (allOf l root) x.sp).isSome:=by
 cases hq:(spotAt (allOf l root) x.sp).isSome with
 |true=>exact is_there hz hx (spot_in hq)
 |false=>exact not_there hz (spot_out hq)
theorem setErr_of {l:List Nd} {root:Int} {x:El} (hz:treeErr l root=0):setErr l root x=setR (allOf l root) x:=by
 unfold setErr setR
 rw [growErr_of hz]
 split
 ·rfl
 ·rename_i hx
  rw [growIs_of hz (by simpa using hx)]
def NoTree (E:Int) (w:World) (e:Ending) (w':World):Prop:=e=.returned (.tuple #[.agg #[.int .i64 0,.slice none 0 0],.int .i64 E])∧Calm w w'
def ATree (L:List El) (w:World) (e:Ending) (w':World):Prop:=∃ root' A' c' us',e=.returned (.tuple #[.agg #[.int .i64 root',.slice A' us'.length c'],.int .i64 0])∧TreeOk w.heap.size w' root' A' c' us' L∧Calm w w'
section
variable {w:World} {root:Int} {A:Option Addr} {l:List Nd} {L:List El}
theorem HasL.set_bad (h:HasL w root A l L) (c:Nat) {p o f m g:Int} {s:ByteArray} {E:Int} (hE:setR L ⟨p,o,f,m,g,s⟩=E) (h0:E≠0):Calls Try.prog 24 #[.agg #[.int .i64 root,.slice A l.length c],.agg #[.int .i64 p,.int .i64 o,.int .i64 f,.int .i64 m,.int .i64 g,.string s]] w (NoTree E w) :=
 (growSet_any root A c l w h.at_ h.caps p o f m g s).mono fun e w' he=>by
  have h1:setErr l root ⟨p,o,f,m,g,s⟩=E:=by rw [setErr_of h.err,h.all,hE]
  rcases he with ⟨-,h2,h3⟩ | ⟨h2,-⟩
  ·rw [h1] at h2;exact ⟨h2,h3⟩
  ·rw [h1] at h2;exact absurd h2 h0
theorem HasL.set_ok (h:HasL w root A l L) (c:Nat) {p o f m g:Int} {s:ByteArray} (hx:El.err ⟨p,o,f,m,g,s⟩=0) {j:Nat} {b:El} (hj:L[j]?=some b) (hb:b.sp=⟨p,o,f,m⟩):Calls Try.prog 24 #[.agg #[.int .i64 root,.slice A l.length c],.agg #[.int .i64 p,.int .i64 o,.int .i64 f,.int .i64 m,.int .i64 g,.string s]] w (ATree (L.set j ⟨p,o,f,m,g,s⟩) w) :=
 (growSet_any root A c l w h.at_ h.caps p o f m g s).mono fun e w' he=>by
  have h0:setErr l root ⟨p,o,f,m,g,s⟩=0:=set_zero h.err hx ⟨b,by rw [h.all];exact mem_of_at hj,hb⟩
  obtain ⟨r',A',c',us',h1,h2,h3⟩:=setEnd_ok he h0 h.err (j:=j) (b:=b) (by rw [h.all];exact hj) hb
  rw [h.all] at h2
  exact ⟨r',A',c',us',h1,h2,h3⟩
/-- All records of a right tree. -/
theorem HasL.allC (h:HasL w root A l L) (c:Nat):Calls Try.prog 14 #[.agg #[.int .i64 root,.slice A l.length c]] w fun e w'=>∃ A' c',e=.returned (.tuple #[.slice A' L.length c',.int .i64 0])∧L.length≤c'∧c'≤9223372036854775807∧Lies w' A' L∧Calm w w' :=
 (treeAll_any root A c l w h.at_).mono fun e w' ⟨v,h1,h2,h3⟩=>by
  rw [if_pos h.err,h.all] at h2
  rw [h.err] at h1
  obtain ⟨A',c',rfl,g1,g2,g3⟩:=h2.lies h.wf
  exact ⟨A',c',h1,g1,g2,g3,h3⟩
theorem all_wrong (h:TrAt w A l) {E:Int} (hE:treeErr l root=E) (h0:E≠0) (c:Nat):Calls Try.prog 14 #[.agg #[.int .i64 root,.slice A l.length c]] w fun e w'=>∃ A' c',e=.returned (.tuple #[.slice A' 0 c',.int .i64 E])∧Calm w w' :=
 (treeAll_any root A c l w h).mono fun e w' ⟨v,h1,h2,h3⟩=>by
  rw [if_neg (by rw [hE];exact h0)] at h2
  rw [hE] at h1
  obtain ⟨A',c',rfl,-,-,-⟩:=h2.lies (by simp)
  exact ⟨A',c',h1,h3⟩
end
/-- A tree that annalkeep.of has made. -/
theorem OfOk.tree {l:List El} {w w':World} {e:Ending} (h:OfOk l w e w'):∃ root' A' c' us',e=.returned (.agg #[.int .i64 root',.slice A' us'.length c'])∧TreeOk w.heap.size w' root' A' c' us' l∧Calm w w':=by
 obtain ⟨r,A,c,us,h1,h2,h3,h4,-,-,h5⟩:=h
 exact ⟨r,A,c,us,h1,⟨h2,h3,h4⟩,h5⟩
open Go.RowKit
theorem two_other {w:World} {g k:Nat} (h:k≠g) (a b:Value):((w.setCell ⟨g,0,none⟩ a).setCell ⟨g,1,none⟩ b).heap[k]?=w.heap[k]? :=
 (heap_setCell_other _ ⟨g,1,none⟩ k b h).trans (heap_setCell_other _ ⟨g,0,none⟩ k a h)
theorem lies_but {w w':World} {b q g:Nat} {L:List El} (h:Lies w (some ⟨b,q,none⟩) L) (hb:b<w.heap.size) (hne:b≠g) (hs:w.heap.size≤w'.heap.size) (ho:∀ k,k<w.heap.size→k≠g→w'.heap[k]?=w.heap[k]?):Lies w' (some ⟨b,q,none⟩) L :=
 ⟨h.1,fun hl=>by
  obtain ⟨b',q',hA,hb',hk⟩:=h.2 hl
  obtain ⟨rfl,rfl⟩:b=b'∧q=q':=by simpa using hA
  refine ⟨b,q,rfl,by omega,fun k e he=>?_⟩
  obtain ⟨h0,h1,h2,h3,h4,h5⟩:=hk k e he
  have hc:∀ j,w'.cell? ⟨b,j,none⟩=w.cell? ⟨b,j,none⟩:=fun j=>World.cell?_of_block (ho b hb hne)
  exact ⟨(hc _).trans h0,(hc _).trans h1,(hc _).trans h2,(hc _).trans h3,(hc _).trans h4,(hc _).trans h5⟩⟩
open Go.RowKit
structure GsS (w1:World) (gX:Nat) (a b c d e s a' b' c' d':Value) (f:Nat→Bool) (u:World):Prop where
 row:u.heap[gX]?=some (.cells #[if f 5 then a' else a,if f 5 then b' else b,if f 5 then c' else c,if f 7 then d' else d,e,s] 43 (0,0))
 k:∀ w0:World,w0.heap.size≤gX→Calm w0 w1→Calm w0 u
 others:∀ k,k<w1.heap.size→k≠gX→u.heap[k]?=w1.heap[k]?
 size:w1.heap.size≤u.heap.size
section
variable {w1:World} {gX:Nat} {a b c d e s a' b' c' d':Value} {f:Nat→Bool} {u:World}
theorem GsS.stay {u':World} (h:GsS w1 gX a b c d e s a' b' c' d' f u) (hb:Calm u u'):GsS w1 gX a b c d e s a' b' c' d' f u' where
 row:=(hb.block (Array.getElem?_eq_some_iff.1 h.row).1).trans h.row
 k w0 h0 h1:=(h.k w0 h0 h1).call hb
 others k hk hx:=(hb.block (Nat.lt_of_lt_of_le hk h.size)).trans (h.others k hk hx)
 size:=Nat.le_trans h.size hb.size
theorem GsS.do5 (h:GsS w1 gX a b c d e s a' b' c' d' f u):GsS w1 gX a b c d e s a' b' c' d' (updB f 5) (((u.setCell ⟨gX,0,none⟩ a').setCell ⟨gX,1,none⟩ b').setCell ⟨gX,2,none⟩ c') where
 row:=by
  have h1:=heap_setCell_same _ gX 2 _ _ c' (heap_setCell_same _ gX 1 _ _ b' (heap_setCell_same _ gX 0 _ _ a' h.row))
  simpa [updB] using h1
 k w0 h0 h1:=(((h.k w0 h0 h1).setCell (p:=⟨gX,0,none⟩) h0 a').setCell (p:=⟨gX,1,none⟩) h0 b').setCell (p:=⟨gX,2,none⟩) h0 c'
 others k hk hx:=by
  rw [heap_setCell_other _ ⟨gX,2,none⟩ k c' (fun e=>hx (by simpa using e)),heap_setCell_other _ ⟨gX,1,none⟩ k b' (fun e=>hx (by simpa using e)),heap_setCell_other _ ⟨gX,0,none⟩ k a' (fun e=>hx (by simpa using e))]
  exact h.others k hk hx
 size:=by have:=h.size;simpa [World.setCell] using this
theorem GsS.do7 (h:GsS w1 gX a b c d e s a' b' c' d' f u):GsS w1 gX a b c d e s a' b' c' d' (updB f 7) (u.setCell ⟨gX,3,none⟩ d') where
 row:=by
  have h1:=heap_setCell_same _ gX 3 _ _ d' h.row
  simpa [updB] using h1
 k w0 h0 h1:=(h.k w0 h0 h1).setCell (p:=⟨gX,3,none⟩) h0 d'
 others k hk hx:=by
  rw [heap_setCell_other _ ⟨gX,3,none⟩ k d' (fun e=>hx (by simpa using e))]
  exact h.others k hk hx
 size:=by have:=h.size;simpa [World.setCell] using this
end
def GsT (w1:World) (gX:Nat) (a b c d e s a' b' c' d':Value):Stages:=fun bs _ u=>∃ f,bs=[5,7].map f∧GsS w1 gX a b c d e s a' b' c' d' f u
section
variable {w1:World} {gX:Nat} {a b c d e s a' b' c' d':Value} {u:World}
theorem GsT.stay:∀ bs Y u u',GsT w1 gX a b c d e s a' b' c' d' bs Y u→Calm u u'→GsT w1 gX a b c d e s a' b' c' d' bs Y u':=fun _ _ _ _ ⟨f,h1,h2⟩ hb=>⟨f,h1,h2.stay hb⟩
theorem GsT.start (Y:Nat→Value) (hz:w1.heap[gX]?=some (.cells #[a,b,c,d,e,s] 43 (0,0))) (h:Calm w1 u):GsT w1 gX a b c d e s a' b' c' d' ([5,7].map fun _=>false) Y u :=
 ⟨fun _=>false,rfl,(h.block (Array.getElem?_eq_some_iff.1 hz).1).trans hz,fun w0 _ k=>k.call h,fun k hk _=>h.block hk,h.size⟩
theorem GsT.get {F:Nat→Bool} {Y:Nat→Value} (h:GsT w1 gX a b c d e s a' b' c' d' ([5,7].map F) Y u):GsS w1 gX a b c d e s a' b' c' d' F u:=by
 obtain ⟨f,hf,h⟩:=h
 simp only [List.map_cons,List.map_nil,List.cons.injEq,and_true] at hf
 obtain ⟨e5,e7⟩:=hf
 exact ⟨by rw [e5,e7];exact h.row,h.k,h.others,h.size⟩
end
open Go.RowKit
theorem HasL.allF2 {w:World} {root:Int} {A:Option Addr} {l:List Nd} {L:List El} (h:HasL w root A l L) (c:Nat):Calls Try.prog 14 #[.agg #[.int .i64 root,.slice A l.length c]] w fun e w'=>∃ A' c',e=.returned (.tuple #[.slice A' L.length c',.int .i64 0])∧L.length≤c'∧Lies w' A' L∧(∀ b q,A'=some ⟨b,q,none⟩→w.heap.size≤b)∧Calm w w' :=
 (treeAll_any root A c l w h.at_).mono fun e w' ⟨v,h1,h2,h3⟩=>by
  rw [if_pos h.err,h.all] at h2
  rw [h.err] at h1
  have h4:=h2.lt
  obtain ⟨A',c',rfl,g1,g2,g3⟩:=h2.lies h.wf
  exact ⟨A',c',h1,g1,g3,fun b q hA=>(h4 b (by rw [hA];rfl)).1,h3⟩
open Go.RowKit
theorem lies_two {w:World} {A:Option Addr} {L:List El} {g:Nat} (h:Lies w A L) (hA:∀ b q,A=some ⟨b,q,none⟩→b≠g) (x y:Value):Lies ((w.setCell ⟨g,0,none⟩ x).setCell ⟨g,1,none⟩ y) A L:=by
 rcases Nat.eq_zero_or_pos L.length with h0 | h0
 ·exact ⟨h.1,fun hp=>absurd hp (by omega)⟩
 ·obtain ⟨b,q,rfl,hb,-⟩:=h.2 h0
  exact lies_but h hb (hA b q rfl) (by simp) fun k _ hk2=>two_other hk2 _ _
end Go.Proofs.Ytbkafjffofaonaa
