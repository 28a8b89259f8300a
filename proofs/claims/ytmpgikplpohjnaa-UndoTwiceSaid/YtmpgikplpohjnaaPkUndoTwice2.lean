/- Texts of one kind in one file. -/
import Derived.Test.YtmpgikplpohjnaaPkUndoTwice1
set_option maxRecDepth 100000
namespace Go.Proofs.Ytmpgikplpohjnaa
open Go.RowKit
def sqOk (T : ByteArray) : Prop := bdOk T.data.toList 8 1 ∧ num ((gB T.data.toList).data.toList.take 4) ≤ 2147483647
def Sq3 (n : Int) (t : ByteArray) (E : Int) (w : World) (e : Ending) (w' : World) : Prop := e = .returned (.tuple #[.int .i64 n, .string t, .int .i64 E]) ∧ Calm w w'
section
variable (P Q : Option Addr) (cp cq : Nat) (l : List ByteArray) (m : List Wr) (w : World) (hh : HasD w P Q l m) (hn : l.length ≤ 9223372036854775807) (hm : m.length ≤ 9223372036854775807)
include hh hn hm
theorem uSeq_form (h0 : dkErr l m = 0) (hl : ¬ l.length = 201) : Calls Try.prog 14 #[.agg #[.slice P l.length cp, .slice Q m.length cq]] w (Sq3 0 { data := #[] } 3 w) := by
 have hu := (Calm.refl w).alloc (.cells #[.slice P l.length cp, .slice Q m.length cq] 25)
 have hx := heap_new w (.cells #[.slice P l.length cp, .slice Q m.length cq] 25)
 have cC := fun u (hu : Calm w u) => diskCheck_any P Q cp cq l m u (hh.calm hu).p (hh.calm hu).q hn hm
 rw [h0] at cC
 have b1 : ((l.length : Int) != 201) = true := by rw [bne_iff_ne]; omega
 obtain ⟨x0, x1, hxs⟩ := rowD hx
 clear h0 hh hn hm hl
 go_enter Try.func14, Try.ntmps14
 go_wp2_with (go_at_call 53; (with_reducible refine (cC _ hu).mono ?_); rintro e w1 ⟨rfl, hk⟩; replace hx := (hk.block hxs).trans hx; replace hu := hu.call hk; clear hk x0 x1 hxs; obtain ⟨x0, x1, hxs⟩ := rowD hx)
 go_ret3
 exact ⟨rfl, hu⟩
theorem uSeq_no (h0 : dkErr l m = 0) (hl : l.length = 201) {T x : ByteArray} (hx0 : l[0]? = some x) (hT : T = rdL 0 m x) (h : ¬ sqOk T) : Calls Try.prog 14 #[.agg #[.slice P l.length cp, .slice Q m.length cq]] w (Sq3 0 { data := #[] } 11 w) := by
 have hu := (Calm.refl w).alloc (.cells #[.slice P l.length cp, .slice Q m.length cq] 25)
 have hx := heap_new w (.cells #[.slice P l.length cp, .slice Q m.length cq] 25)
 have cC := fun u (hu : Calm w u) => diskCheck_any P Q cp cq l m u (hh.calm hu).p (hh.calm hu).q hn hm
 rw [h0] at cC
 have b0 : ((l.length : Int) != 201) = false := by rw [bne_eq_false_iff_eq]; omega
 have b2 : 0 < (l.length : Int) := by omega
 have cR : ∀ u, Calm w u → Calls Try.prog 54 #[.agg #[.slice P l.length cp, .slice Q m.length cq], .int .i64 0] u fun e w' => e = .returned (.tuple #[.string T, .int .i64 0]) ∧ Calm u w' := fun u hu => by
  rw [hT]
  exact (hh.calm hu).rd cp cq h0 (k := 0) hx0
 by_cases hb : bdOk T.data.toList 8 1
 rotate_left
 ·have cB := fun u => body_no T 8 1 (by omega) u hb
  clear h0 hh hn hm hl hT hx0 h hb
  obtain ⟨x0, x1, hxs⟩ := rowD hx
  go_enter Try.func14, Try.ntmps14
  go_wp2_with (first
  |(go_at_call 53; (with_reducible refine (cC _ hu).mono ?_); rintro e w1 ⟨rfl, hk⟩; replace hx := (hk.block hxs).trans hx; replace hu := hu.call hk; clear hk x0 x1 hxs; obtain ⟨x0, x1, hxs⟩ := rowD hx)
  |(go_at_call 54; (with_reducible refine (cR _ hu).mono ?_); rintro e w2 ⟨rfl, hk⟩; replace hx := (hk.block hxs).trans hx; replace hu := hu.call hk; clear hk x0 x1 hxs; obtain ⟨x0, x1, hxs⟩ := rowD hx)
  |(go_at_call 55; refine (cB _).mono ?_; rintro e w3 ⟨rfl, hk⟩; replace hx := (hk.block hxs).trans hx; replace hu := hu.call hk; clear hk x0 x1 hxs; obtain ⟨x0, x1, hxs⟩ := rowD hx))
  go_ret3
  exact ⟨rfl, hu⟩
 have hN : ¬ num ((gB T.data.toList).data.toList.take 4) ≤ 2147483647 := fun hN => h ⟨hb, hN⟩
 have cB := fun u => body_ok T 8 1 (by omega) u hb
 have h4 : 4 ≤ (gB T.data.toList).size := by have := hb.2.2; omega
 have cD := fun u => decode_any _ u h4
 generalize gB T.data.toList = B at cB cD h4 hN
 generalize num (B.data.toList.take 4) = N at cD hN
 have hN' : (2147483647 : Int) < (N : Int) := by omega
 clear h0 hh hn hm hl hT hx0 h hb hN h4
 obtain ⟨x0, x1, hxs⟩ := rowD hx
 go_enter Try.func14, Try.ntmps14
 go_wp2_with (first
  |(go_at_call 53; (with_reducible refine (cC _ hu).mono ?_); rintro e w1 ⟨rfl, hk⟩; replace hx := (hk.block hxs).trans hx; replace hu := hu.call hk; clear hk x0 x1 hxs; obtain ⟨x0, x1, hxs⟩ := rowD hx)
  |(go_at_call 54; (with_reducible refine (cR _ hu).mono ?_); rintro e w2 ⟨rfl, hk⟩; replace hx := (hk.block hxs).trans hx; replace hu := hu.call hk; clear hk x0 x1 hxs; obtain ⟨x0, x1, hxs⟩ := rowD hx)
  |(go_at_call 55; refine (cB _).mono ?_; rintro e w3 ⟨rfl, hk⟩; replace hx := (hk.block hxs).trans hx; replace hu := hu.call hk; clear hk x0 x1 hxs; obtain ⟨x0, x1, hxs⟩ := rowD hx)
  |(go_at_call 56; (with_reducible refine (cD _).mono ?_); rintro e w4 ⟨rfl, hk⟩; replace hx := (hk.block hxs).trans hx; replace hu := hu.call hk; clear hk x0 x1 hxs; obtain ⟨x0, x1, hxs⟩ := rowD hx))
 go_ret3
 exact ⟨rfl, hu⟩
theorem uSeq_ok (h0 : dkErr l m = 0) (hl : l.length = 201) {T x : ByteArray} (hx0 : l[0]? = some x) (hT : T = rdL 0 m x) (h : sqOk T) : Calls Try.prog 14 #[.agg #[.slice P l.length cp, .slice Q m.length cq]] w (Sq3 (num ((gB T.data.toList).data.toList.take 4) : Int) ((gB T.data.toList).extract 4 (gB T.data.toList).size) 0 w) := by
 have hu := (Calm.refl w).alloc (.cells #[.slice P l.length cp, .slice Q m.length cq] 25)
 have hx := heap_new w (.cells #[.slice P l.length cp, .slice Q m.length cq] 25)
 have cC := fun u (hu : Calm w u) => diskCheck_any P Q cp cq l m u (hh.calm hu).p (hh.calm hu).q hn hm
 rw [h0] at cC
 have b0 : ((l.length : Int) != 201) = false := by rw [bne_eq_false_iff_eq]; omega
 have b2 : 0 < (l.length : Int) := by omega
 have cR : ∀ u, Calm w u → Calls Try.prog 54 #[.agg #[.slice P l.length cp, .slice Q m.length cq], .int .i64 0] u fun e w' => e = .returned (.tuple #[.string T, .int .i64 0]) ∧ Calm u w' := fun u hu => by
  rw [hT]
  exact (hh.calm hu).rd cp cq h0 (k := 0) hx0
 have cB := fun u => body_ok T 8 1 (by omega) u h.1
 have h4 : 4 ≤ (gB T.data.toList).size := by have := h.1.2.2; omega
 have hN := h.2
 have cD := fun u => decode_any _ u h4
 generalize gB T.data.toList = B at cB cD h4 hN ⊢
 generalize num (B.data.toList.take 4) = N at cD hN ⊢
 have hN' : (N : Int) ≤ 2147483647 := by omega
 have h4' : (4 : Int) ≤ (B.size : Int) := by omega
 clear h0 hh hn hm hl hT hx0 h hN h4
 obtain ⟨x0, x1, hxs⟩ := rowD hx
 go_enter Try.func14, Try.ntmps14
 go_upto_region 12 with (first
  |(go_at_call 53; (with_reducible refine (cC _ hu).mono ?_); rintro e w1 ⟨rfl, hk⟩; replace hx := (hk.block hxs).trans hx; replace hu := hu.call hk; clear hk x0 x1 hxs; obtain ⟨x0, x1, hxs⟩ := rowD hx)
  |(go_at_call 54; (with_reducible refine (cR _ hu).mono ?_); rintro e w2 ⟨rfl, hk⟩; replace hx := (hk.block hxs).trans hx; replace hu := hu.call hk; clear hk x0 x1 hxs; obtain ⟨x0, x1, hxs⟩ := rowD hx)
  |(go_at_call 55; refine (cB _).mono ?_; rintro e w3 ⟨rfl, hk⟩; replace hx := (hk.block hxs).trans hx; replace hu := hu.call hk; clear hk x0 x1 hxs; obtain ⟨x0, x1, hxs⟩ := rowD hx)
  |(go_at_call 56; (with_reducible refine (cD _).mono ?_); rintro e w4 ⟨rfl, hk⟩; replace hx := (hk.block hxs).trans hx; replace hu := hu.call hk; clear hk x0 x1 hxs; obtain ⟨x0, x1, hxs⟩ := rowD hx))
 refine wp_region_plan [.val (.string B), .val (.int .i64 (N)), .val (.string B), .val (.string (B.extract 4 B.size)), .val (.int .i64 (N)), .val (.string (B.extract 4 B.size)), .val (.int .i64 (0))] (by kernel_rfl) (by kernel_rfl) (by kernel_rfl) ?_
 intro X
 iterate 7
  refine plan_val (by kernel_rfl) (fun u hu => ?_) ?_
  ·obtain ⟨hc, hf, hz⟩ := hu.of_drew.facts
   go_simp
   all_goals first
    |((go_at_call 56; exact cD _))
  simp only [Act.put, List.setIfInBounds_toArray, List.set_cons_zero, List.set_cons_succ, Nat.reduceAdd]
 refine plan_end ?_
 intro w' hB
 have hk := hB.calm.of_drew
 clear hB
 go_wp2_with fail
 go_ret3
 exact ⟨rfl, hu.call hk⟩
end
open Go.RowKit
def rvOk (T : ByteArray) (q : Nat) : Prop := bdOk T.data.toList 9 2 ∧ q < num ((gB T.data.toList).data.toList.take 4)
def rvP (T : ByteArray) : Nat := num (part (gB T.data.toList).data.toList 4 4)
def rvIs (T : ByteArray) (q : Nat) : Prop := num ((gB T.data.toList).data.toList.take 4) = q + 1 ∧ 1 ≤ rvP T ∧ rvP T ≤ 100
def rvT (T : ByteArray) : ByteArray := (gB T.data.toList).extract 8 (gB T.data.toList).size
open Classical in
noncomputable def rvL (q i : Nat) (T : ByteArray) (L : List ByteArray) : List ByteArray := if rvOk T q then (if rvIs T q then (L.set i { data := #[] }).set (rvP T) (rvT T) else L.set i { data := #[] }) else L
theorem rvL_no {q i : Nat} {T : ByteArray} {L : List ByteArray} (h : ¬ rvOk T q) : rvL q i T L = L := by unfold rvL; rw [if_neg h]
theorem rvL_one {q i : Nat} {T : ByteArray} {L : List ByteArray} (h : rvOk T q) (h2 : ¬ rvIs T q) : rvL q i T L = L.set i { data := #[] } := by unfold rvL; rw [if_pos h, if_neg h2]
theorem rvL_two {q i : Nat} {T : ByteArray} {L : List ByteArray} (h : rvOk T q) (h2 : rvIs T q) : rvL q i T L = (L.set i { data := #[] }).set (rvP T) (rvT T) := by unfold rvL; rw [if_pos h, if_pos h2]
theorem rvL_len (q i : Nat) (T : ByteArray) (L : List ByteArray) : (rvL q i T L).length = L.length := by
 by_cases h : rvOk T q
 ·by_cases h2 : rvIs T q
  ·rw [rvL_two h h2, List.length_set, List.length_set]
  ·rw [rvL_one h h2, List.length_set]
 ·rw [rvL_no h]
def RvEnd (B g n c : Nat) (L : List ByteArray) (w : World) (e : Ending) (w' : World) : Prop := e = .returned (.tuple #[]) ∧ OwnP B w' (.slice (some ⟨g, 0, none⟩) n c) L ∧ (∀ w0 : World, w0.heap.size ≤ g → Calm w0 w → Calm w0 w') ∧ (∀ k, k < w.heap.size → k ≠ g → w'.heap[k]? = w.heap[k]?)
theorem isData_any (n : Int) (w : World) : Calls Try.prog 95 #[.int .i64 n] w fun e w' => e = .returned (.bool (decide (1 ≤ n) && decide (n ≤ 100))) ∧ Calm w w' := by
 by_cases h0 : 1 ≤ n
 ·rw [decide_eq_true h0]
  by_cases h1 : n ≤ 100
  ·rw [decide_eq_true h1]
   go_enter Try.func95, Try.ntmps95
   go_wp2_with fail
   go_ret
   exact ⟨rfl, Calm.refl _⟩
  ·rw [decide_eq_false h1]
   go_enter Try.func95, Try.ntmps95
   go_wp2_with fail
   go_ret
   exact ⟨rfl, Calm.refl _⟩
 ·rw [decide_eq_false h0]
  go_enter Try.func95, Try.ntmps95
  go_wp2_with fail
  go_ret
  exact ⟨rfl, Calm.refl _⟩
theorem rv_cell {B g n c : Nat} {w : World} {L : List ByteArray} (h : OwnP B w (.slice (some ⟨g, 0, none⟩) n c) L) {i : Nat} {T : ByteArray} (hi : L[i]? = some T) : w.cell? ⟨g, i, none⟩ = some (.string T) := by
 obtain ⟨hlt, rfl⟩ := List.getElem?_eq_some_iff.1 hi
 have := (OwnG.cell stC_len h hlt).1 0 (by omega)
 rw [Nat.mul_one, Nat.add_zero] at this
 exact this
theorem rv_set {B g n c : Nat} {w : World} {L : List ByteArray} (h : OwnP B w (.slice (some ⟨g, 0, none⟩) n c) L) {i : Nat} (hi : i < L.length) (T : ByteArray) : OwnP B (w.setCell ⟨g, i, none⟩ (.string T)) (.slice (some ⟨g, 0, none⟩) n c) (L.set i T) := by
 have := OwnG.set stC_len (i := i) (j := 0) (u := .string T) (x := T) h hi (by omega) rfl
 rw [Nat.mul_one, Nat.add_zero] at this
 exact this
set_option maxHeartbeats 4000000 in
theorem revert_any {B g n c : Nat} {L : List ByteArray} {i q : Nat} {T : ByteArray} {w : World} (ho : OwnP B w (.slice (some ⟨g, 0, none⟩) n c) L) (hl : L.length = n) (hi : L[i]? = some T) (hn : 101 ≤ n) (hq : q ≤ 2147483647) : Calls Try.prog 61 #[.slice (some ⟨g, 0, none⟩) n c, .int .i64 (i : Int), .int .i64 (q : Int)] w (RvEnd B g n c (rvL q i T L) w) := by
 have hil : i < n := by rw [← hl]; exact (List.getElem?_eq_some_iff.1 hi).1
 have hil' : (i : Int) < (n : Int) := by omega
 have hq' : (q : Int) ≤ 2147483647 := by omega
 have hgs := (OwnG.lt ho g rfl).2
 have HO := Lib.hid ho
 have c0 := rv_cell ho hi
 by_cases hb : bdOk T.data.toList 9 2
 rotate_left
 ·have cB := fun u => body_no T 9 2 (by omega) u hb
  rw [rvL_no (fun h => hb h.1)]
  have HE : Hid (∀ w', Calm w w' → RvEnd B g n c L w (.returned (.tuple #[])) w') := show ∀ _, _ from fun w' hk => ⟨rfl, HO.out.calm hk, fun _ _ h => h.call hk, fun k hk1 _ => hk.block hk1⟩
  generalize RvEnd B g n c L w = PE at HE ⊢
  clear ho hb hi hl hq hn hil
  go_enter Try.func61, Try.ntmps61
  go_wp2_with (go_at_call 55; refine (cB _).mono ?_; rintro e w1 ⟨rfl, hk⟩)
  go_end0
  exact HE.out _ hk
 have cB := fun u => body_ok T 9 2 (by omega) u hb
 have h8 : 8 ≤ (gB T.data.toList).size := by have := hb.2.2; omega
 have cD := fun u => decode_any (gB T.data.toList) u (by omega)
 by_cases hgt : q < num ((gB T.data.toList).data.toList.take 4)
 rotate_left
 ·rw [rvL_no (fun h => hgt h.2)]
  have HE : Hid (∀ w', Calm w w' → RvEnd B g n c L w (.returned (.tuple #[])) w') := show ∀ _, _ from fun w' hk => ⟨rfl, HO.out.calm hk, fun _ _ h => h.call hk, fun k hk1 _ => hk.block hk1⟩
  generalize RvEnd B g n c L w = PE at HE ⊢
  generalize gB T.data.toList = D at cB cD hgt
  generalize num (D.data.toList.take 4) = H at cD hgt
  have hgt' : (H : Int) ≤ (q : Int) := by omega
  clear ho hb hi hl hq hn hil hgt h8
  go_enter Try.func61, Try.ntmps61
  go_wp2_with (first
   |(go_at_call 55; refine (cB _).mono ?_; rintro e w1 ⟨rfl, hk⟩)
   |(go_at_call 56; refine (cD _).mono ?_; rintro e w2 ⟨rfl, hk2⟩; replace hk := hk.call hk2; clear hk2))
  go_end0
  exact HE.out _ hk
 have hO := show rvOk T q from ⟨hb, hgt⟩
 have cE := fun u => decode_any ((gB T.data.toList).extract 4 (gB T.data.toList).size) u (by rw [ByteArray.size_extract]; omega)
 have hP : num (((gB T.data.toList).extract 4 (gB T.data.toList).size).data.toList.take 4) = rvP T := by
  rw [part_extract]
  unfold rvP part
  rw [List.take_take, Nat.min_eq_left (by omega)]
 rw [hP] at cE
 have HL : Hid (rvIs T q → rvL q i T L = (L.set i { data := #[] }).set (rvP T) ((gB T.data.toList).extract 8 (gB T.data.toList).size)) := show _ → _ from fun h => rvL_two hO h
 have HM : Hid (¬ rvIs T q → rvL q i T L = L.set i { data := #[] }) := show _ → _ from fun h => rvL_one hO h
 have HI : Hid (rvIs T q ↔ num ((gB T.data.toList).data.toList.take 4) = q + 1 ∧ 1 ≤ rvP T ∧ rvP T ≤ 100) := show _ ↔ _ from Iff.rfl
 have HE : Hid (∀ w', OwnP B w' (.slice (some ⟨g, 0, none⟩) n c) (rvL q i T L) → (∀ w0 : World, w0.heap.size ≤ g → Calm w0 w → Calm w0 w') → (∀ k, k < w.heap.size → k ≠ g → w'.heap[k]? = w.heap[k]?) → RvEnd B g n c (rvL q i T L) w (.returned (.tuple #[])) w') := show ∀ _, _ from fun w' h1 h2 h3 => ⟨rfl, h1, h2, h3⟩
 generalize RvEnd B g n c (rvL q i T L) w = PE at HE ⊢
 generalize rvL q i T L = LL at HL HM HE
 clear hO hP hb ho
 generalize rvIs T q = IS at HL HM HI
 generalize rvP T = p at cE HL HI
 generalize gB T.data.toList = D at cB cD cE HL HI hgt h8
 generalize num (D.data.toList.take 4) = H at cD HI hgt
 have hgt' : (q : Int) < (H : Int) := by omega
 have h8' : (8 : Int) ≤ (D.size : Int) := by omega
 clear hgt h8
 go_enter Try.func61, Try.ntmps61
 go_upto_region 2 with (first
   |(go_at_call 55; refine (cB _).mono ?_; rintro e w1 ⟨rfl, hk⟩)
   |(go_at_call 56; refine (cD _).mono ?_; rintro e w2 ⟨rfl, hk2⟩; replace hk := hk.call hk2; clear hk2))
 have HO2 := Lib.hid (HO.out.calm hk)
 have c2 := rv_cell HO2.out hi
 have f2 := OwnG.frozen HO2.out i
 clear c0
 go_upto_region 3 with fail
 have HO3 := Lib.hid (rv_set HO2.out (i := i) (by omega) { data := #[] })
 have HC : Hid (∀ w0 : World, w0.heap.size ≤ g → Calm w0 w → Calm w0 (w2.setCell ⟨g, i, none⟩ (.string { data := #[] }))) := show ∀ _, _ from fun w0 h0 h => (h.call hk).setCell (p := ⟨g, i, none⟩) h0 _
 have HK : Hid (∀ k, k < w.heap.size → k ≠ g → (w2.setCell ⟨g, i, none⟩ (.string { data := #[] })).heap[k]? = w.heap[k]?) := show ∀ _, _ from fun k h1 h2 => (heap_setCell_other _ ⟨g, i, none⟩ k _ h2).trans (hk.block h1)
 have HG : Hid (w.heap.size ≤ (w2.setCell ⟨g, i, none⟩ (.string { data := #[] })).heap.size) := show _ ≤ _ from by have := hk.size; simpa using this
 clear c2 f2 hk HO2
 generalize w2.setCell ⟨g, i, none⟩ (.string { data := #[] }) = w3 at HO3 HC HK HG ⊢
 have hll : (L.set i { data := #[] }).length = n := by rw [List.length_set, hl]
 clear hi hl
 generalize L.set i { data := #[] } = L3 at HO3 HL HM hll
 by_cases h1 : H = q + 1
 rotate_left
 ·have e1 : ((H : Int) == (q : Int) + 1) = false := by rw [beq_eq_false_iff_ne]; omega
  have HL2 := Lib.hid (HM.out fun h => h1 (HI.out.1 h).1)
  clear h1 HL HM HI hll
  go_wp2_with (go_at_call 56; first | (with_reducible refine (cD _).mono ?_; rintro e w4 ⟨rfl, hk⟩; replace hk3 := hk3.call hk; clear hk) | (with_reducible refine (cE _).mono ?_; rintro e w5 ⟨rfl, hk3⟩))
  go_end0
  refine HE.out _ ?_ (fun w0 h0 h => (HC.out w0 h0 h).call hk3) (fun k h1 h2 => (hk3.block (Nat.lt_of_lt_of_le h1 HG.out)).trans (HK.out k h1 h2))
  rw [HL2.out]; exact HO3.out.calm hk3
 by_cases h2 : 1 ≤ p ∧ p ≤ 100
 rotate_left
 ·have e1 : ((H : Int) == (q : Int) + 1) = true := by rw [beq_iff_eq]; omega
  have HL2 := Lib.hid (HM.out fun h => h2 (HI.out.1 h).2)
  have cI := fun u => isData_any (p : Int) u
  rw [show (decide (1 ≤ (p : Int)) && decide ((p : Int) ≤ 100)) = false by rw [Bool.and_eq_false_iff, decide_eq_false_iff_not, decide_eq_false_iff_not]; omega] at cI
  clear h1 h2 HL HM HI hll
  go_wp2_with (first
   |(go_at_call 56; first | (with_reducible refine (cD _).mono ?_; rintro e w4 ⟨rfl, hk⟩; replace hk3 := hk3.call hk; clear hk) | (with_reducible refine (cE _).mono ?_; rintro e w5 ⟨rfl, hk3⟩))
   |(go_at_call 95; refine (cI _).mono ?_; rintro e w6 ⟨rfl, hk⟩; replace hk3 := hk3.call hk; clear hk))
  go_end0
  refine HE.out _ ?_ (fun w0 h0 h => (HC.out w0 h0 h).call hk3) (fun k h1 h2 => (hk3.block (Nat.lt_of_lt_of_le h1 HG.out)).trans (HK.out k h1 h2))
  rw [HL2.out]; exact HO3.out.calm hk3
 ·have e1 : ((H : Int) == (q : Int) + 1) = true := by rw [beq_iff_eq]; omega
  have HL2 := Lib.hid (HL.out (HI.out.2 ⟨h1, h2⟩))
  have cI := fun u => isData_any (p : Int) u
  rw [show (decide (1 ≤ (p : Int)) && decide ((p : Int) ≤ 100)) = true by rw [Bool.and_eq_true, decide_eq_true_iff, decide_eq_true_iff]; omega] at cI
  have hp' : (p : Int) < (n : Int) := by omega
  have hp : p < L3.length := by omega
  clear h1 h2 HL HM HI
  go_upto_region 5 with (first
   |(go_at_call 56; first | (with_reducible refine (cD _).mono ?_; rintro e w4 ⟨rfl, hk⟩; replace hk3 := hk3.call hk; clear hk) | (with_reducible refine (cE _).mono ?_; rintro e w5 ⟨rfl, hk3⟩))
   |(go_at_call 95; refine (cI _).mono ?_; rintro e w6 ⟨rfl, hk⟩; replace hk3 := hk3.call hk; clear hk))
  have HO6 := Lib.hid (HO3.out.calm hk3)
  have c6 := rv_cell HO6.out (List.getElem?_eq_getElem hp)
  have f6 := OwnG.frozen HO6.out p
  go_wp2_with fail
  go_end0
  refine HE.out _ ?_ (fun w0 h0 h => ((HC.out w0 h0 h).call hk3).setCell (p := ⟨g, p, none⟩) h0 _) (fun k h1 h2 => (heap_setCell_other _ ⟨g, p, none⟩ k _ h2).trans ((hk3.block (Nat.lt_of_lt_of_le h1 HG.out)).trans (HK.out k h1 h2)))
  rw [HL2.out]; exact rv_set HO6.out hp _
open Go.RowKit
noncomputable def rvAll (q : Nat) (L : List ByteArray) : Nat → List ByteArray
 | 0 => L
 |k + 1 => rvL q (101 + k) ((rvAll q L k).getD (101 + k) { data := #[] }) (rvAll q L k)
theorem rvAll_len (q : Nat) (L : List ByteArray) : ∀ k, (rvAll q L k).length = L.length
 | 0 => rfl
 |k + 1 => by rw [rvAll, rvL_len, rvAll_len q L k]
theorem rvAll_next (q : Nat) (L : List ByteArray) {j : Nat} (hj : 101 ≤ j) : rvAll q L (j + 1 - 101) = rvL q j ((rvAll q L (j - 101)).getD j { data := #[] }) (rvAll q L (j - 101)) := by
 rw [show j + 1 - 101 = (j - 101) + 1 by omega, rvAll, show 101 + (j - 101) = j by omega]
def RecEnd (n : Nat) (L : List ByteArray) (w : World) (e : Ending) (w' : World) : Prop := ∃ A c, e = .returned (.tuple #[.agg #[.slice A n c, .slice none 0 0], .int .i64 0]) ∧ LiesP w' A L ∧ Calm w w'
set_option maxHeartbeats 8000000 in
theorem undoRecover_ok (P Q : Option Addr) (cp cq : Nat) (l : List ByteArray) (m : List Wr) (w : World) (hh : HasD w P Q l m) (h0 : dkErr l m = 0) (hl : l.length = 201) (q : Nat) (hq : q ≤ 2147483647) (t : ByteArray)
    (hS : ∀ u A c, LiesP u A (curP l m) → Calls Try.prog 14 #[.agg #[.slice A l.length c, .slice none 0 0]] u (Sq3 (q : Int) t 0 u)) :
    Calls Try.prog 16 #[.agg #[.slice P l.length cp, .slice Q m.length cq]] w (RecEnd l.length (rvAll q (curP l m) 100) w) := by
  have hx := heap_past (.cells #[.slice none 0 0, .slice none 0 0] 25) (heap_new w (.cells #[.slice P l.length cp, .slice Q m.length cq] 25))
  have hr := heap_new (w.alloc (.cells #[.slice P l.length cp, .slice Q m.length cq] 25)) (.cells #[.slice none 0 0, .slice none 0 0] 25)
  rw [World.size_alloc] at hr
  have hu := ((Calm.refl w).alloc (.cells #[.slice P l.length cp, .slice Q m.length cq] 25)).alloc (.cells #[.slice none 0 0, .slice none 0 0] 25)
  have cS := fun u (hu : Calm w u) => (hh.calm hu).sync cp cq h0
  have hLl : (curP l m).length = l.length := doneL_len _ _ _ _
  generalize curP l m = LS at hS cS hLl ⊢
  have HE : Hid (∀ w' A c, LiesP w' A (rvAll q LS 100) → Calm w w' → RecEnd l.length (rvAll q LS 100) w (.returned (.tuple #[.agg #[.slice A l.length c, .slice none 0 0], .int .i64 0])) w') := show ∀ _, _ from fun w' A c h1 h2 => ⟨A, c, rfl, h1, h2⟩
  generalize RecEnd l.length (rvAll q LS 100) w = PE at HE ⊢
  obtain ⟨n, hn⟩ : ∃ n, n = l.length := ⟨_, rfl⟩
  rw [← hn] at hx hr hu cS hS HE hLl ⊢
  have hn1 : n = 201 := by omega
  clear hh h0 hl hn
  obtain ⟨x0, x1, hxs⟩ := rowD hx
  obtain ⟨r0, r1, hrs⟩ := rowD hr
  have HN := Lib.hid hn1
  clear hn1
  go_enter Try.func16, Try.ntmps16
  generalize hQ0 : bodyPost Try.prog Try.f16 PE = Q0
  have HRET : Hid (∀ a w', bodyPost Try.prog Try.f16 PE .ret a w' → Q0 .ret a w') := show ∀ _ _, _ from fun a w' h => by rw [← hQ0]; exact h
  clear hQ0
  go_upto_region 2 with (go_at_call 21; (with_reducible refine (cS _ hu).mono ?_); rintro e w3 ⟨P6, cp6, rfl, ho6, hk⟩; replace hr := (hk.block hrs).trans hr; replace hu := hu.call hk; clear hk x0 x1 hxs hx)
  rw [World.size_alloc, World.size_alloc] at ho6
  obtain ⟨g, cap, hA⟩ := OwnG.some_ ho6 (by have := HN.out; omega)
  obtain rfl : P6 = some ⟨g, 0, none⟩ := by injection hA
  clear hA cap r0 r1 hrs
  have hg1 := (OwnG.lt ho6 g rfl).1
  have hg2 := (OwnG.lt ho6 g rfl).2
  replace hr := heap_past (.cells #[.slice (some ⟨g, 0, none⟩) n cp6, .slice none 0 0] 25) hr
  have h4 := heap_new w3 (.cells #[.slice (some ⟨g, 0, none⟩) n cp6, .slice none 0 0] 25)
  replace hu := hu.alloc (.cells #[.slice (some ⟨g, 0, none⟩) n cp6, .slice none 0 0] 25)
  have HO := Lib.hid (OwnP.calm ho6 ((Calm.refl _).alloc (.cells #[.slice (some ⟨g, 0, none⟩) n cp6, .slice none 0 0] 25)))
  have hg3 : w3.heap.size ≠ g := by omega
  generalize w3.heap.size = g4 at h4 hg2 hg3 ⊢
  generalize w3.alloc (.cells #[.slice (some ⟨g, 0, none⟩) n cp6, .slice none 0 0] 25) = w4 at hr h4 hu HO ⊢
  clear ho6 cS
  obtain ⟨y0, y1, hys⟩ := rowD h4
  have hrs := (rowD hr).2.2
  go_upto_region 7 with (go_at_call 14; (with_reducible refine (hS _ _ _ (OwnP.at_ HO.out).2).mono ?_); rintro e w5 ⟨rfl, hk⟩; replace hr := (hk.block hrs).trans hr; replace h4 := (hk.block hys).trans h4; replace hu := hu.call hk; replace HO := Lib.hid (HO.out.calm hk); clear hk y0 y1 hys hrs hS; obtain ⟨y0, y1, hys⟩ := rowD h4)
  clear y0 y1 hys
  go_wp2_with fail
  go_loopw [8] (fun i wr => ∃ j : Nat, 101 ≤ j ∧ j ≤ 201 ∧ i = .int .i64 j ∧ Calm w wr ∧ Hid (OwnP (w.heap.size + 1 + 1) wr (.slice (some ⟨g, 0, none⟩) n cp6) (rvAll q LS (j - 101))) ∧ wr.heap[w.heap.size + 1]? = some (.cells #[.slice none 0 0, .slice none 0 0] 25 (0, 0)) ∧ wr.heap[g4]? = some (.cells #[.slice (some ⟨g, 0, none⟩) n cp6, .slice none 0 0] 25 (0, 0))) (fun i _ => 201 - (intOf i).toNat)
  case atStart => exact ⟨101, by omega, by omega, rfl, hu, HO, hr, h4⟩
  case round =>
    obtain ⟨j, hj1, hj2, rfl, hv, HOk, hr, h4⟩ := hrel
    obtain ⟨y0, y1, hys⟩ := rowD h4
    by_cases hlt : j < 201
    · have hjl : j < (rvAll q LS (j - 101)).length := by rw [rvAll_len, hLl, HN.out]; exact hlt
      have HT := Lib.hid (rvAll_next q LS hj1)
      have hll : (rvAll q LS (j - 101)).length = n := by rw [rvAll_len, hLl]
      have hg : (rvAll q LS (j - 101))[j]? = some ((rvAll q LS (j - 101)).getD j { data := #[] }) := by rw [List.getD_eq_getElem?_getD, List.getElem?_eq_getElem hjl]; rfl
      have cR := revert_any HOk.out hll hg (by rw [HN.out]; omega) hq
      rw [← HT.out] at cR
      have hj3 : (j : Int) ≤ 200 := by omega
      have hrs := (rowD hr).2.2
      clear hjl hll hg HT
      go_wp2_with (go_at_call 61; (with_reducible refine cR.mono ?_); rintro e w6 ⟨rfl, ho, hcw, hot⟩; have HO9 := Lib.hid ho; have HC9 := Lib.hid hcw; have HT9 := Lib.hid hot; clear ho hcw hot)
      go_roundw
      case rel => exact ⟨j + 1, by omega, by omega, by go_num, HC9.out w (by omega) hv, HO9, (HT9.out _ hrs (by omega)).trans hr, (HT9.out _ hys hg3).trans h4⟩
      case measure => simp [intOf]; omega
    · obtain rfl : j = 201 := by omega
      obtain ⟨r0, r1, hrs⟩ := rowD hr
      obtain ⟨f0, f1⟩ := freeD2 hr
      have HO8 := HOk
      clear HOk
      go_wp2_with fail
      have hr9 := setD2 hr (.slice (some ⟨g, 0, none⟩) n cp6) (.slice none 0 0)
      have hu9 := hv.twoD (g := w.heap.size + 1) (by omega) (.slice (some ⟨g, 0, none⟩) n cp6) (.slice none 0 0)
      have ho9 := rowsG_set (rowsG_set HO8.out (Nat.lt_succ_self _) 0 (.slice (some ⟨g, 0, none⟩) n cp6)) (Nat.lt_succ_self _) 1 (.slice none 0 0)
      exact HRET.out _ _ (end_dkE (p := 2) (q := 3) rfl rfl _ _ _ _ _ _ _ rfl rfl rfl hr9 rfl (HE.out _ _ cp6 (OwnP.at_ ho9).2 hu9))
open Go.RowKit
set_option maxHeartbeats 8000000 in
theorem undoRecover_seq (P Q : Option Addr) (cp cq : Nat) (l : List ByteArray) (m : List Wr) (w : World) (hh : HasD w P Q l m) (h0 : dkErr l m = 0) {E : Int} (hE0 : E ≠ 0) (t : ByteArray) (hS : ∀ u A c, LiesP u A (curP l m) → Calls Try.prog 14 #[.agg #[.slice A l.length c, .slice none 0 0]] u (Sq3 0 t E u)) : Calls Try.prog 16 #[.agg #[.slice P l.length cp, .slice Q m.length cq]] w (NoDisk E w) := by
 have hx := heap_past (.cells #[.slice none 0 0, .slice none 0 0] 25) (heap_new w (.cells #[.slice P l.length cp, .slice Q m.length cq] 25))
 have hr := heap_new (w.alloc (.cells #[.slice P l.length cp, .slice Q m.length cq] 25)) (.cells #[.slice none 0 0, .slice none 0 0] 25)
 rw [World.size_alloc] at hr
 have hu := ((Calm.refl w).alloc (.cells #[.slice P l.length cp, .slice Q m.length cq] 25)).alloc (.cells #[.slice none 0 0, .slice none 0 0] 25)
 have cS := fun u (hu : Calm w u) => (hh.calm hu).sync cp cq h0
 generalize curP l m = LS at hS cS
 have HE : Hid (∀ w', Calm w w' → NoDisk E w (.returned (.tuple #[.agg #[.slice none 0 0, .slice none 0 0], .int .i64 E])) w') := show ∀ _, _ from fun w' h => ⟨rfl, h⟩
 generalize NoDisk E w = PE at HE ⊢
 have b1 : (E != 0) = true := by rw [bne_iff_ne]; exact hE0
 clear hh h0 hE0
 obtain ⟨x0, x1, hxs⟩ := rowD hx; obtain ⟨r0, r1, hrs⟩ := rowD hr; obtain ⟨f0, f1⟩ := freeD2 hr
 go_enter Try.func16, Try.ntmps16
 generalize hQ0 : bodyPost Try.prog Try.f16 PE = Q0
 have HRET : Hid (∀ a w', bodyPost Try.prog Try.f16 PE .ret a w' → Q0 .ret a w') := show ∀ _ _, _ from fun a w' h => by rw [← hQ0]; exact h
 clear hQ0
 go_wp2_with (first
  |(go_at_call 21; (with_reducible refine (cS _ hu).mono ?_); rintro e w3 ⟨P6, cp6, rfl, ho6, hk⟩; clear x0 x1 hxs r0 r1 hrs f0 f1; replace hx := (hk.block (rowD hx).2.2).trans hx; replace hr := (hk.block (rowD hr).2.2).trans hr; replace hu := hu.call hk; clear hk; have HP := Lib.hid ((OwnP.at_ ho6).2.calm ((Calm.refl _).alloc (.cells #[.slice P6 l.length cp6, .slice none 0 0] 25))); clear ho6; replace hx := heap_past (.cells #[.slice P6 l.length cp6, .slice none 0 0] 25) hx; replace hr := heap_past (.cells #[.slice P6 l.length cp6, .slice none 0 0] 25) hr; replace hu := hu.alloc (.cells #[.slice P6 l.length cp6, .slice none 0 0] 25); have hy := heap_new w3 (.cells #[.slice P6 l.length cp6, .slice none 0 0] 25); obtain ⟨x0, x1, hxs⟩ := rowD hx; obtain ⟨r0, r1, hrs⟩ := rowD hr; obtain ⟨f0, f1⟩ := freeD2 hr; obtain ⟨y0, y1, hys⟩ := rowD hy)
  |(go_at_call 14; (with_reducible refine (hS _ _ _ HP.out).mono ?_); rintro e w5 ⟨rfl, hk⟩; clear y0 y1 hys hy HP; clear x0 x1 hxs r0 r1 hrs f0 f1; replace hx := (hk.block (rowD hx).2.2).trans hx; replace hr := (hk.block (rowD hr).2.2).trans hr; replace hu := hu.call hk; clear hk; obtain ⟨x0, x1, hxs⟩ := rowD hx; obtain ⟨r0, r1, hrs⟩ := rowD hr; obtain ⟨f0, f1⟩ := freeD2 hr))
 have hr9 := setD2 hr (.slice none 0 0) (.slice none 0 0)
 have hu9 := hu.twoD (g := w.heap.size + 1) (by omega) (.slice none 0 0) (.slice none 0 0)
 exact HRET.out _ _ (end_dkE (p := 2) (q := 3) rfl rfl _ _ _ _ _ _ _ rfl rfl rfl hr9 rfl (HE.out _ hu9))
open Go.RowKit
theorem rv_empty (q : Nat) : ¬ rvOk { data := #[] } q := fun h => absurd h.1.1 (by decide)
theorem rvL_at {q i : Nat} {T : ByteArray} {L : List ByteArray} {j : Nat} (hj : j ≠ i) (hp : 100 < j ∨ j = 0) : (rvL q i T L)[j]? = L[j]? := by
 by_cases h : rvOk T q
 ·by_cases h2 : rvIs T q
  ·rw [rvL_two h h2, List.getElem?_set_ne (by have := h2.2; omega), List.getElem?_set_ne (by omega)]
  ·rw [rvL_one h h2, List.getElem?_set_ne (by omega)]
 ·rw [rvL_no h]
theorem rvL_here {q i : Nat} {L : List ByteArray} (hi : 100 < i) (hl : i < L.length) : ¬ rvOk ((rvL q i (L.getD i { data := #[] }) L).getD i { data := #[] }) q := by
 by_cases h : rvOk (L.getD i { data := #[] }) q
 ·have : (rvL q i (L.getD i { data := #[] }) L).getD i { data := #[] } = { data := #[] } := by
   by_cases h2 : rvIs (L.getD i { data := #[] }) q
   ·rw [rvL_two h h2, List.getD_eq_getElem?_getD, List.getElem?_set_ne (by have := h2.2; omega), List.getElem?_set_self hl]; rfl
   ·rw [rvL_one h h2, List.getD_eq_getElem?_getD, List.getElem?_set_self hl]; rfl
  rw [this]; exact rv_empty q
 ·rw [rvL_no h]; exact h
theorem rvAll_done (q : Nat) (L : List ByteArray) : ∀ k, 101 + k ≤ L.length → ∀ j, 101 ≤ j → j < 101 + k → ¬ rvOk ((rvAll q L k).getD j { data := #[] }) q
 | 0, _, j, h1, h2 => absurd h2 (by omega)
 |k + 1, hk, j, h1, h2 => by
  rw [rvAll]
  by_cases e : j = 101 + k
  ·subst e
   exact rvL_here (by omega) (by rw [rvAll_len]; omega)
  ·rw [List.getD_eq_getElem?_getD, rvL_at e (by omega), ← List.getD_eq_getElem?_getD]
   exact rvAll_done q L k (by omega) j h1 (by omega)
theorem rvAll_still {q : Nat} {L : List ByteArray} : ∀ {k}, (∀ j, 101 ≤ j → j < 101 + k → ¬ rvOk (L.getD j { data := #[] }) q) → rvAll q L k = L
 | 0, _ => rfl
 |k + 1, h => by
  rw [rvAll, rvAll_still (k := k) fun j h1 h2 => h j h1 (by omega)]
  exact rvL_no (h _ (by omega) (by omega))
theorem rvAll_twice (q : Nat) {L : List ByteArray} (hl : L.length = 201) : rvAll q (rvAll q L 100) 100 = rvAll q L 100 :=
 rvAll_still fun j h1 h2 => rvAll_done q L 100 (by omega) j h1 h2
theorem rvAll_head (q : Nat) (L : List ByteArray) : ∀ k, (rvAll q L k)[0]? = L[0]?
 | 0 => rfl
 |k + 1 => by rw [rvAll, rvL_at (by omega) (Or.inr rfl), rvAll_head q L k]
theorem gB_size (l : List UInt8) : (gB l).size ≤ 3000 := by
 unfold gB
 by_cases h : unErr l = 0
 ·rw [if_pos h, bytes_size]
  have h3 : ¬ 3000 < unSize l := fun h3 => by
   unfold unErr at h
   by_cases h5 : l.length < 5
   ·rw [if_pos h5] at h; cases h
   ·rw [if_neg h5, if_pos (Or.inr h3)] at h; cases h
  unfold unBody part
  rw [List.length_take]; omega
 ·rw [if_neg h]; decide
theorem rvL_small {q i : Nat} {T : ByteArray} {L : List ByteArray} (h : ∀ s ∈ L, s.size ≤ 3500) : ∀ s ∈ rvL q i T L, s.size ≤ 3500 := by
 have he : ({ data := #[] } : ByteArray).size ≤ 3500 := by decide
 have h1 : ∀ s ∈ L.set i { data := #[] }, s.size ≤ 3500 := fun s hs => by
  rcases List.mem_or_eq_of_mem_set hs with hs | rfl
  ·exact h s hs
  ·exact he
 by_cases h2 : rvOk T q
 ·by_cases h3 : rvIs T q
  ·rw [rvL_two h2 h3]
   intro s hs
   rcases List.mem_or_eq_of_mem_set hs with hs | rfl
   ·exact h1 s hs
   ·unfold rvT
    have := gB_size T.data.toList
    rw [ByteArray.size_extract]; omega
  ·rw [rvL_one h2 h3]; exact h1
 ·rw [rvL_no h2]; exact h
theorem rvAll_small {q : Nat} {L : List ByteArray} (h : ∀ s ∈ L, s.size ≤ 3500) : ∀ k, ∀ s ∈ rvAll q L k, s.size ≤ 3500
 | 0 => h
 |k + 1 => by rw [rvAll]; exact rvL_small (rvAll_small h k)
/-- What Recover does to a disk without writes; and once more to what it answers. -/
theorem recSafe {L : List ByteArray} {n : Nat} (hn : L.length = n) (hz : dkErr L [] = 0) : (∃ E : Int, E ≠ 0 ∧ ∀ u A c, LiesP u A L → Calls Try.prog 16 #[.agg #[.slice A n c, .slice none 0 0]] u (NoDisk E u)) ∨
    (∃ L2, L2.length = n ∧ n = 201 ∧ (∀ u A c, LiesP u A L → Calls Try.prog 16 #[.agg #[.slice A n c, .slice none 0 0]] u (RecEnd n L2 u)) ∧ (∀ u A c, LiesP u A L2 → Calls Try.prog 16 #[.agg #[.slice A n c, .slice none 0 0]] u (RecEnd n L2 u))) := by
  subst hn
  have hn := (dk_len hz).1
  have h00 : ([] : List Wr).length ≤ 9223372036854775807 := by simp
  by_cases hl : L.length = 201
  rotate_left
  · exact .inl ⟨3, by decide, fun u A c h => undoRecover_seq A none c 0 L [] u ⟨h, LiesG.nil_⟩ hz (by decide) { data := #[] } fun v A2 c2 h2 => uSeq_form A2 none c2 0 L [] v ⟨h2, LiesG.nil_⟩ hn h00 hz hl⟩
  obtain ⟨T, hT⟩ : ∃ T, L[0]? = some T := ⟨L[0]'(by omega), List.getElem?_eq_getElem (by omega)⟩
  by_cases h : sqOk T
  rotate_left
  · exact .inl ⟨11, by decide, fun u A c hA => undoRecover_seq A none c 0 L [] u ⟨hA, LiesG.nil_⟩ hz (by decide) { data := #[] } fun v A2 c2 h2 => uSeq_no A2 none c2 0 L [] v ⟨h2, LiesG.nil_⟩ hn h00 hz hl hT rfl h⟩
  refine .inr ⟨rvAll (num ((gB T.data.toList).data.toList.take 4)) L 100, rvAll_len _ _ _, hl, fun u A c hA => undoRecover_ok A none c 0 L [] u ⟨hA, LiesG.nil_⟩ hz hl _ h.2 _ fun v A2 c2 h2 => uSeq_ok A2 none c2 0 L [] v ⟨h2, LiesG.nil_⟩ hn h00 hz hl hT rfl h, fun u A c hA => ?_⟩
  have hl2 : (rvAll (num ((gB T.data.toList).data.toList.take 4)) L 100).length = L.length := rvAll_len _ _ _
  have ht := rvAll_twice (num ((gB T.data.toList).data.toList.take 4)) hl
  have hT2 : (rvAll (num ((gB T.data.toList).data.toList.take 4)) L 100)[0]? = some T := by rw [rvAll_head]; exact hT
  have hz2 : dkErr (rvAll (num ((gB T.data.toList).data.toList.take 4)) L 100) [] = 0 := dkErr_zero.2 ⟨by omega, by simp, rvAll_small (dkErr_zero.1 hz).2.2.1 100, by simp⟩
  generalize rvAll (num ((gB T.data.toList).data.toList.take 4)) L 100 = L2 at hl2 ht hT2 hz2 hA ⊢
  have := undoRecover_ok A none c 0 L2 [] u ⟨hA, LiesG.nil_⟩ hz2 (by omega) _ h.2 _ fun v A2 c2 h2 => uSeq_ok A2 none c2 0 L2 [] v ⟨h2, LiesG.nil_⟩ (by omega) h00 hz2 (by omega) hT2 rfl h
  rw [show curP L2 [] = L2 from rfl, ht, hl2] at this
  exact this
open Go.RowKit
/-- make([]string, k). -/
theorem makeStrs (w : World) (k : Nat) (hk : k ≤ 1000000) : (Instr.makeSlice 22 (.int .i64 (k : Int)) (.int .i64 (k : Int))).run Try.prog w =
    .ok (.slice (some ⟨w.heap.size, 0, none⟩) k k) (w.alloc (.cells (cvs stC (List.replicate k ByteArray.empty)).toArray 9)) := by
  obtain ⟨i, hi, hz, h1, h2⟩ : ∃ i, Try.prog.info? 9 = some i ∧ i.zero = some (.string ByteArray.empty) ∧ i.size = 1 ∧ i.bytes = 16 := by
    have h : (Try.prog.info? 9).map (fun i => (i.zero, i.size, i.bytes)) = some (some (.string ByteArray.empty), 1, 16) := by kernel_rfl
    match hi : Try.prog.info? 9, h with
    | some i, h =>
      simp only [Option.map_some, Option.some.injEq, Prod.mk.injEq] at h
      exact ⟨i, rfl, h.1, h.2.1, h.2.2⟩
  rw [run_make w 22 9 i _ Try.underlying22 hi hz .i64 .i64 k k (by omega) (by omega) (by rw [h2]; omega) (by omega), h1]
  have e : madeCells (Value.string ByteArray.empty).cells (((k : Int)).toNat * 1) = (cvs stC (List.replicate k ByteArray.empty)).toArray := by
    have h0 : cvs stC (List.replicate k ByteArray.empty) = List.replicate k (Value.string ByteArray.empty) := by
      unfold cvs
      induction k with
      | zero => rfl
      | succ k ih => rw [List.replicate_succ, List.flatMap_cons, List.replicate_succ, ih (by omega)]; rfl
    rw [h0]
    simp only [madeCells, Value.cells, Int.toNat_natCast, Nat.mul_one]
    apply Array.ext
    · simp
    · intro i h1 h2
      simp [Nat.mod_one]
  rw [e]; rfl
theorem own_strs (w : World) (k : Nat) (hk : k ≤ 1000000) : OwnG 9 stC 1 w.heap.size (w.alloc (.cells (cvs stC (List.replicate k ByteArray.empty)).toArray 9)) (.slice (some ⟨w.heap.size, 0, none⟩) k k) (List.replicate k ByteArray.empty) := by
 have hl : (cvs stC (List.replicate k ByteArray.empty)).length = k := by rw [cvs_len stC_len, List.length_replicate, Nat.mul_one]
 refine ⟨cvs_len stC_len _, .inr ⟨w.heap.size, k, _, by rw [List.length_replicate], Nat.le_refl _, heap_new _ _, by rw [List.length_replicate]; exact Nat.le_refl _, by unfold maxLen; omega, by simp [hl], ?_⟩⟩
 simp only [List.length_replicate, Nat.mul_one]
 rw [List.take_of_length_le (by simp [hl])]
theorem ut_same {u : World} {P P' : Option Addr} {n cp cp' : Nat} {L : List ByteArray} (hP : LiesP u P L) (hP' : LiesP u P' L) (hn : L.length = n) (hl : n ≤ 9223372036854775807) : Calls Try.prog 18 #[.agg #[.slice P n cp, .slice none 0 0], .agg #[.slice P' n cp', .slice none 0 0]] u fun e w' => e = .returned (.bool true) ∧ Calm u w' := by
 subst hn
 exact sameDisk_self P none P' none cp 0 cp' 0 L [] u hP LiesG.nil_ hP' LiesG.nil_ hl (by simp)
/-- A disk of 201 empty pages has no head. -/
theorem ut_none {L : List ByteArray} (hL : L = List.replicate 201 ByteArray.empty) (u : World) (A : Option Addr) (c : Nat) (h : LiesP u A L) : Calls Try.prog 16 #[.agg #[.slice A 201 c, .slice none 0 0]] u (NoDisk 11 u) := by
 have hl : L.length = 201 := by rw [hL, List.length_replicate]
 have hz : dkErr L [] = 0 := dkErr_zero.2 ⟨by omega, by simp, fun s hs => by rw [hL] at hs; rw [(List.mem_replicate.1 hs).2]; decide, by simp⟩
 have hT : L[0]? = some ByteArray.empty := by rw [hL, List.getElem?_replicate, if_pos (by omega)]
 have := undoRecover_seq A none c 0 L [] u ⟨h, LiesG.nil_⟩ hz (E := 11) (by decide) { data := #[] } fun v A2 c2 h2 => uSeq_no A2 none c2 0 L [] v ⟨h2, LiesG.nil_⟩ (by omega) (by simp) hz hl hT rfl (fun h => absurd h.1.1 (by decide))
 rw [hl] at this
 exact this
set_option maxHeartbeats 8000000 in
theorem ut_bad (P Q : Option Addr) (cp cq : Nat) (l : List ByteArray) (m : List Wr) (A : Option Addr) (c : Nat) (K : List Bool) (w : World) (hh : HasD w P Q l m) (hn : l.length ≤ 9223372036854775807) (hm : m.length ≤ 9223372036854775807) (hK : LiesO w A K) (h0 : dkErr l m ≠ 0) :
    Calls Try.prog 5 #[.agg #[.slice P l.length cp, .slice Q m.length cq], .slice A K.length c] w fun e w' => e = .returned (.bool true) ∧ Calm w w' := by
  have cK := fun u (hu : Calm w u) => (hh.calm hu).crash_bad cp cq hn hm rfl h0 A c K (hK.calm hu)
  have b1 : (dkErr l m != 0) = true := by rw [bne_iff_ne]; exact h0
  clear hh hn hm hK h0
  generalize dkErr l m = E at cK b1
  have xx := heap_new w (.cells #[.slice P l.length cp, .slice Q m.length cq] 25)
  have hu := (Calm.refl w).alloc (.cells #[.slice P l.length cp, .slice Q m.length cq] 25)
  have m1 := fun u => makeStrs u 201 (by omega)
  have hob := fun u => own_strs u 201 (by omega)
  obtain ⟨L0, hL0⟩ : ∃ L0, L0 = List.replicate 201 ByteArray.empty := ⟨_, rfl⟩
  rw [← hL0] at m1 hob
  have cX := fun u A c h => ut_none hL0 u A c h
  clear hL0
  obtain ⟨Z, hZ⟩ : ∃ Z, Z = (cvs stC L0).toArray := ⟨_, rfl⟩
  rw [← hZ] at m1 hob
  clear hZ
  have m2 : ∀ u : World, (Instr.makeSlice 22 (.int .i64 201) (.int .i64 201)).run Try.prog u = .ok (.slice (some ⟨u.heap.size, 0, none⟩) 201 201) (u.alloc (.cells Z 9)) := m1
  clear m1
  go_enter Try.func5, Try.ntmps5
  go_upto_region 1 with fail
  generalize w.alloc (.cells #[.slice P l.length cp, .slice Q m.length cq] 25) = w0 at xx hu ⊢
  obtain ⟨xx_0, xx_1, xx_s⟩ := rowD xx
  go_upto_region 2 with fail
  have ho := hob w0
  clear xx_0 xx_1 xx_s
  replace xx := heap_past (.cells Z 9) xx
  replace hu := hu.alloc (.cells Z 9)
  clear hob m2
  have hs1 : (w0.alloc (.cells Z 9)).heap.size = w0.heap.size + 1 := by rw [World.size_alloc]
  generalize w0.heap.size = gZ at ho hs1 ⊢
  generalize w0.alloc (.cells Z 9) = w1 at ho xx hu hs1 ⊢
  have HX := Lib.hid ((OwnP.at_ ho).2.calm ((Calm.refl _).alloc (.cells #[.slice (some ⟨gZ, 0, none⟩) 201 201, .slice none 0 0] 25)))
  clear ho
  replace xx := heap_past (.cells #[.slice (some ⟨gZ, 0, none⟩) 201 201, .slice none 0 0] 25) xx
  replace hu := hu.alloc (.cells #[.slice (some ⟨gZ, 0, none⟩) 201 201, .slice none 0 0] 25)
  have xn := heap_new w1 (.cells #[.slice (some ⟨gZ, 0, none⟩) 201 201, .slice none 0 0] 25)
  rw [hs1] at xn
  clear hs1
  generalize gZ + 1 = gn at xn ⊢
  generalize w1.alloc (.cells #[.slice (some ⟨gZ, 0, none⟩) 201 201, .slice none 0 0] 25) = w2 at xx xn hu HX ⊢
  obtain ⟨xx_0, xx_1, xx_s⟩ := rowD xx; obtain ⟨xn_0, xn_1, xn_s⟩ := rowD xn
  go_wp2_with (first
      | (go_at_call 16; (with_reducible refine (cX _ _ _ HX.out).mono ?_); rintro e w3 ⟨rfl, hk⟩; clear HX cX; clear xx_0 xx_1 xx_s; clear xn_0 xn_1 xn_s; replace xx := (hk.block (rowD xx).2.2).trans xx; replace xn := (hk.block (rowD xn).2.2).trans xn; replace hu := hu.call hk; clear hk; obtain ⟨xx_0, xx_1, xx_s⟩ := rowD xx; obtain ⟨xn_0, xn_1, xn_s⟩ := rowD xn; clear xx_0 xx_1 xx_s; clear xn_0 xn_1 xn_s; replace xx := heap_past (.cells #[.slice none 0 0, .slice none 0 0] 25) xx; replace xn := heap_past (.cells #[.slice none 0 0, .slice none 0 0] 25) xn; replace hu := hu.alloc (.cells #[.slice none 0 0, .slice none 0 0] 25); have xa := heap_new w3 (.cells #[.slice none 0 0, .slice none 0 0] 25); obtain ⟨xx_0, xx_1, xx_s⟩ := rowD xx; obtain ⟨xn_0, xn_1, xn_s⟩ := rowD xn; obtain ⟨xa_0, xa_1, xa_s⟩ := rowD xa)
      | (go_at_call 19; (with_reducible refine (cK _ hu).mono ?_); rintro e w4 ⟨rfl, hk⟩; clear xx_0 xx_1 xx_s; clear xn_0 xn_1 xn_s; clear xa_0 xa_1 xa_s; replace xx := (hk.block (rowD xx).2.2).trans xx; replace xn := (hk.block (rowD xn).2.2).trans xn; replace xa := (hk.block (rowD xa).2.2).trans xa; replace hu := hu.call hk; clear hk; obtain ⟨xx_0, xx_1, xx_s⟩ := rowD xx; obtain ⟨xn_0, xn_1, xn_s⟩ := rowD xn; obtain ⟨xa_0, xa_1, xa_s⟩ := rowD xa; clear xx_0 xx_1 xx_s; clear xn_0 xn_1 xn_s; clear xa_0 xa_1 xa_s; replace xx := heap_past (.cells #[.slice none 0 0, .slice none 0 0] 25) xx; replace xn := heap_past (.cells #[.slice none 0 0, .slice none 0 0] 25) xn; replace xa := heap_past (.cells #[.slice none 0 0, .slice none 0 0] 25) xa; replace hu := hu.alloc (.cells #[.slice none 0 0, .slice none 0 0] 25); have xb := heap_new w4 (.cells #[.slice none 0 0, .slice none 0 0] 25); obtain ⟨xx_0, xx_1, xx_s⟩ := rowD xx; obtain ⟨xn_0, xn_1, xn_s⟩ := rowD xn; obtain ⟨xa_0, xa_1, xa_s⟩ := rowD xa; obtain ⟨xb_0, xb_1, xb_s⟩ := rowD xb))
  go_ret
  exact ⟨rfl, hu⟩
set_option maxHeartbeats 8000000 in
theorem undoTwice_walk (P Q : Option Addr) (cp cq : Nat) (l : List ByteArray) (m : List Wr) (A : Option Addr) (c : Nat) (K : List Bool) (w : World) (hh : HasD w P Q l m) (hn : l.length ≤ 9223372036854775807) (hm : m.length ≤ 9223372036854775807) (hK : LiesO w A K) :
    Calls Try.prog 5 #[.agg #[.slice P l.length cp, .slice Q m.length cq], .slice A K.length c] w fun e w' => e = .returned (.bool true) ∧ Calm w w' := by
  by_cases h0 : dkErr l m = 0
  rotate_left
  · exact ut_bad P Q cp cq l m A c K w hh hn hm hK h0
  have cK := fun u (hu : Calm w u) => (hh.calm hu).crash cp cq h0 A c K (hK.calm hu)
  have hLl : (doneL (selK K) 0 m l).length = l.length := doneL_len _ _ _ _
  have hz : dkErr (doneL (selK K) 0 m l) [] = 0 := done_err (selK K) h0
  generalize doneL (selK K) 0 m l = LC at cK hLl hz
  rcases recSafe hLl hz with ⟨E, hE0, cE⟩ | ⟨L2, hL2, -, cE, cF⟩
  · have b1 : (E != 0) = true := by rw [bne_iff_ne]; exact hE0
    unfold NoDisk at cE
    clear hh h0 hn hm hK hE0 hLl hz
    have xx := heap_new w (.cells #[.slice P l.length cp, .slice Q m.length cq] 25)
    have hu := (Calm.refl w).alloc (.cells #[.slice P l.length cp, .slice Q m.length cq] 25)
    have m1 := fun u => makeStrs u 201 (by omega)
    have hob := fun u => own_strs u 201 (by omega)
    obtain ⟨L0, hL0⟩ : ∃ L0, L0 = List.replicate 201 ByteArray.empty := ⟨_, rfl⟩
    rw [← hL0] at m1 hob
    have cX := fun u A c h => ut_none hL0 u A c h
    clear hL0
    obtain ⟨Z, hZ⟩ : ∃ Z, Z = (cvs stC L0).toArray := ⟨_, rfl⟩
    rw [← hZ] at m1 hob
    clear hZ
    have m2 : ∀ u : World, (Instr.makeSlice 22 (.int .i64 201) (.int .i64 201)).run Try.prog u = .ok (.slice (some ⟨u.heap.size, 0, none⟩) 201 201) (u.alloc (.cells Z 9)) := m1
    clear m1
    go_enter Try.func5, Try.ntmps5
    go_upto_region 1 with fail
    generalize w.alloc (.cells #[.slice P l.length cp, .slice Q m.length cq] 25) = w0 at xx hu ⊢
    obtain ⟨xx_0, xx_1, xx_s⟩ := rowD xx
    go_upto_region 2 with fail
    have ho := hob w0
    clear xx_0 xx_1 xx_s
    replace xx := heap_past (.cells Z 9) xx
    replace hu := hu.alloc (.cells Z 9)
    clear hob m2
    have hs1 : (w0.alloc (.cells Z 9)).heap.size = w0.heap.size + 1 := by rw [World.size_alloc]
    generalize w0.heap.size = gZ at ho hs1 ⊢
    generalize w0.alloc (.cells Z 9) = w1 at ho xx hu hs1 ⊢
    have HX := Lib.hid ((OwnP.at_ ho).2.calm ((Calm.refl _).alloc (.cells #[.slice (some ⟨gZ, 0, none⟩) 201 201, .slice none 0 0] 25)))
    clear ho
    replace xx := heap_past (.cells #[.slice (some ⟨gZ, 0, none⟩) 201 201, .slice none 0 0] 25) xx
    replace hu := hu.alloc (.cells #[.slice (some ⟨gZ, 0, none⟩) 201 201, .slice none 0 0] 25)
    have xn := heap_new w1 (.cells #[.slice (some ⟨gZ, 0, none⟩) 201 201, .slice none 0 0] 25)
    rw [hs1] at xn
    clear hs1
    generalize gZ + 1 = gn at xn ⊢
    generalize w1.alloc (.cells #[.slice (some ⟨gZ, 0, none⟩) 201 201, .slice none 0 0] 25) = w2 at xx xn hu HX ⊢
    obtain ⟨xx_0, xx_1, xx_s⟩ := rowD xx; obtain ⟨xn_0, xn_1, xn_s⟩ := rowD xn
    go_wp2_with (first
        | (go_at_call 16; (with_reducible refine (cX _ _ _ HX.out).mono ?_); rintro e w3 ⟨rfl, hk⟩; clear HX cX; clear xx_0 xx_1 xx_s; clear xn_0 xn_1 xn_s; replace xx := (hk.block (rowD xx).2.2).trans xx; replace xn := (hk.block (rowD xn).2.2).trans xn; replace hu := hu.call hk; clear hk; obtain ⟨xx_0, xx_1, xx_s⟩ := rowD xx; obtain ⟨xn_0, xn_1, xn_s⟩ := rowD xn; clear xx_0 xx_1 xx_s; clear xn_0 xn_1 xn_s; replace xx := heap_past (.cells #[.slice none 0 0, .slice none 0 0] 25) xx; replace xn := heap_past (.cells #[.slice none 0 0, .slice none 0 0] 25) xn; replace hu := hu.alloc (.cells #[.slice none 0 0, .slice none 0 0] 25); have xa := heap_new w3 (.cells #[.slice none 0 0, .slice none 0 0] 25); obtain ⟨xx_0, xx_1, xx_s⟩ := rowD xx; obtain ⟨xn_0, xn_1, xn_s⟩ := rowD xn; obtain ⟨xa_0, xa_1, xa_s⟩ := rowD xa)
        | (go_at_call 19; (with_reducible refine (cK _ hu).mono ?_); rintro e w4 ⟨P7, cp7, rfl, ho7, hk⟩; have HP7 := Lib.hid ((OwnP.at_ ho7).2.calm ((Calm.refl _).alloc (.cells #[.slice P7 l.length cp7, .slice none 0 0] 25))); clear ho7 cK; clear xx_0 xx_1 xx_s; clear xn_0 xn_1 xn_s; clear xa_0 xa_1 xa_s; replace xx := (hk.block (rowD xx).2.2).trans xx; replace xn := (hk.block (rowD xn).2.2).trans xn; replace xa := (hk.block (rowD xa).2.2).trans xa; replace hu := hu.call hk; clear hk; obtain ⟨xx_0, xx_1, xx_s⟩ := rowD xx; obtain ⟨xn_0, xn_1, xn_s⟩ := rowD xn; obtain ⟨xa_0, xa_1, xa_s⟩ := rowD xa; clear xx_0 xx_1 xx_s; clear xn_0 xn_1 xn_s; clear xa_0 xa_1 xa_s; replace xx := heap_past (.cells #[.slice P7 l.length cp7, .slice none 0 0] 25) xx; replace xn := heap_past (.cells #[.slice P7 l.length cp7, .slice none 0 0] 25) xn; replace xa := heap_past (.cells #[.slice P7 l.length cp7, .slice none 0 0] 25) xa; replace hu := hu.alloc (.cells #[.slice P7 l.length cp7, .slice none 0 0] 25); have xb := heap_new w4 (.cells #[.slice P7 l.length cp7, .slice none 0 0] 25); obtain ⟨xx_0, xx_1, xx_s⟩ := rowD xx; obtain ⟨xn_0, xn_1, xn_s⟩ := rowD xn; obtain ⟨xa_0, xa_1, xa_s⟩ := rowD xa; obtain ⟨xb_0, xb_1, xb_s⟩ := rowD xb)
        | (go_at_call 16; (with_reducible refine (cE _ _ _ HP7.out).mono ?_); rintro e w5 ⟨rfl, hk⟩; clear xx_0 xx_1 xx_s; clear xn_0 xn_1 xn_s; clear xa_0 xa_1 xa_s; clear xb_0 xb_1 xb_s; replace xx := (hk.block (rowD xx).2.2).trans xx; replace xn := (hk.block (rowD xn).2.2).trans xn; replace xa := (hk.block (rowD xa).2.2).trans xa; replace xb := (hk.block (rowD xb).2.2).trans xb; replace HP7 := Lib.hid (HP7.out.calm hk); replace hu := hu.call hk; clear hk; obtain ⟨xx_0, xx_1, xx_s⟩ := rowD xx; obtain ⟨xn_0, xn_1, xn_s⟩ := rowD xn; obtain ⟨xa_0, xa_1, xa_s⟩ := rowD xa; obtain ⟨xb_0, xb_1, xb_s⟩ := rowD xb; clear xx_0 xx_1 xx_s; clear xn_0 xn_1 xn_s; clear xa_0 xa_1 xa_s; clear xb_0 xb_1 xb_s; replace xx := heap_past (.cells #[.slice none 0 0, .slice none 0 0] 25) xx; replace xn := heap_past (.cells #[.slice none 0 0, .slice none 0 0] 25) xn; replace xa := heap_past (.cells #[.slice none 0 0, .slice none 0 0] 25) xa; replace xb := heap_past (.cells #[.slice none 0 0, .slice none 0 0] 25) xb; replace HP7 := Lib.hid (HP7.out.calm ((Calm.refl _).alloc (.cells #[.slice none 0 0, .slice none 0 0] 25))); replace hu := hu.alloc (.cells #[.slice none 0 0, .slice none 0 0] 25); have xc := heap_new w5 (.cells #[.slice none 0 0, .slice none 0 0] 25); obtain ⟨xx_0, xx_1, xx_s⟩ := rowD xx; obtain ⟨xn_0, xn_1, xn_s⟩ := rowD xn; obtain ⟨xa_0, xa_1, xa_s⟩ := rowD xa; obtain ⟨xb_0, xb_1, xb_s⟩ := rowD xb; obtain ⟨xc_0, xc_1, xc_s⟩ := rowD xc)
        | (go_at_call 18; (with_reducible refine (sameDisk_zero _).mono ?_); rintro e w6 ⟨rfl, hk⟩; clear xx_0 xx_1 xx_s; clear xn_0 xn_1 xn_s; clear xa_0 xa_1 xa_s; clear xb_0 xb_1 xb_s; clear xc_0 xc_1 xc_s; replace xx := (hk.block (rowD xx).2.2).trans xx; replace xn := (hk.block (rowD xn).2.2).trans xn; replace xa := (hk.block (rowD xa).2.2).trans xa; replace xb := (hk.block (rowD xb).2.2).trans xb; replace xc := (hk.block (rowD xc).2.2).trans xc; replace HP7 := Lib.hid (HP7.out.calm hk); replace hu := hu.call hk; clear hk; obtain ⟨xx_0, xx_1, xx_s⟩ := rowD xx; obtain ⟨xn_0, xn_1, xn_s⟩ := rowD xn; obtain ⟨xa_0, xa_1, xa_s⟩ := rowD xa; obtain ⟨xb_0, xb_1, xb_s⟩ := rowD xb; obtain ⟨xc_0, xc_1, xc_s⟩ := rowD xc))
    go_ret
    exact ⟨rfl, hu⟩
  · have cS := fun u A1 A2 c1 c2 (h1 : LiesP u A1 L2) (h2 : LiesP u A2 L2) => ut_same (cp := c1) (cp' := c2) h1 h2 hL2 hn
    unfold RecEnd at cE cF
    clear hh h0 hn hm hK hLl hz hL2
    have xx := heap_new w (.cells #[.slice P l.length cp, .slice Q m.length cq] 25)
    have hu := (Calm.refl w).alloc (.cells #[.slice P l.length cp, .slice Q m.length cq] 25)
    have m1 := fun u => makeStrs u 201 (by omega)
    have hob := fun u => own_strs u 201 (by omega)
    obtain ⟨L0, hL0⟩ : ∃ L0, L0 = List.replicate 201 ByteArray.empty := ⟨_, rfl⟩
    rw [← hL0] at m1 hob
    have cX := fun u A c h => ut_none hL0 u A c h
    clear hL0
    obtain ⟨Z, hZ⟩ : ∃ Z, Z = (cvs stC L0).toArray := ⟨_, rfl⟩
    rw [← hZ] at m1 hob
    clear hZ
    have m2 : ∀ u : World, (Instr.makeSlice 22 (.int .i64 201) (.int .i64 201)).run Try.prog u = .ok (.slice (some ⟨u.heap.size, 0, none⟩) 201 201) (u.alloc (.cells Z 9)) := m1
    clear m1
    go_enter Try.func5, Try.ntmps5
    go_upto_region 1 with fail
    generalize w.alloc (.cells #[.slice P l.length cp, .slice Q m.length cq] 25) = w0 at xx hu ⊢
    obtain ⟨xx_0, xx_1, xx_s⟩ := rowD xx
    go_upto_region 2 with fail
    have ho := hob w0
    clear xx_0 xx_1 xx_s
    replace xx := heap_past (.cells Z 9) xx
    replace hu := hu.alloc (.cells Z 9)
    clear hob m2
    have hs1 : (w0.alloc (.cells Z 9)).heap.size = w0.heap.size + 1 := by rw [World.size_alloc]
    generalize w0.heap.size = gZ at ho hs1 ⊢
    generalize w0.alloc (.cells Z 9) = w1 at ho xx hu hs1 ⊢
    have HX := Lib.hid ((OwnP.at_ ho).2.calm ((Calm.refl _).alloc (.cells #[.slice (some ⟨gZ, 0, none⟩) 201 201, .slice none 0 0] 25)))
    clear ho
    replace xx := heap_past (.cells #[.slice (some ⟨gZ, 0, none⟩) 201 201, .slice none 0 0] 25) xx
    replace hu := hu.alloc (.cells #[.slice (some ⟨gZ, 0, none⟩) 201 201, .slice none 0 0] 25)
    have xn := heap_new w1 (.cells #[.slice (some ⟨gZ, 0, none⟩) 201 201, .slice none 0 0] 25)
    rw [hs1] at xn
    clear hs1
    generalize gZ + 1 = gn at xn ⊢
    generalize w1.alloc (.cells #[.slice (some ⟨gZ, 0, none⟩) 201 201, .slice none 0 0] 25) = w2 at xx xn hu HX ⊢
    obtain ⟨xx_0, xx_1, xx_s⟩ := rowD xx; obtain ⟨xn_0, xn_1, xn_s⟩ := rowD xn
    go_wp2_with (first
        | (go_at_call 16; (with_reducible refine (cX _ _ _ HX.out).mono ?_); rintro e w3 ⟨rfl, hk⟩; clear HX cX; clear xx_0 xx_1 xx_s; clear xn_0 xn_1 xn_s; replace xx := (hk.block (rowD xx).2.2).trans xx; replace xn := (hk.block (rowD xn).2.2).trans xn; replace hu := hu.call hk; clear hk; obtain ⟨xx_0, xx_1, xx_s⟩ := rowD xx; obtain ⟨xn_0, xn_1, xn_s⟩ := rowD xn; clear xx_0 xx_1 xx_s; clear xn_0 xn_1 xn_s; replace xx := heap_past (.cells #[.slice none 0 0, .slice none 0 0] 25) xx; replace xn := heap_past (.cells #[.slice none 0 0, .slice none 0 0] 25) xn; replace hu := hu.alloc (.cells #[.slice none 0 0, .slice none 0 0] 25); have xa := heap_new w3 (.cells #[.slice none 0 0, .slice none 0 0] 25); obtain ⟨xx_0, xx_1, xx_s⟩ := rowD xx; obtain ⟨xn_0, xn_1, xn_s⟩ := rowD xn; obtain ⟨xa_0, xa_1, xa_s⟩ := rowD xa)
        | (go_at_call 19; (with_reducible refine (cK _ hu).mono ?_); rintro e w4 ⟨P7, cp7, rfl, ho7, hk⟩; have HP7 := Lib.hid ((OwnP.at_ ho7).2.calm ((Calm.refl _).alloc (.cells #[.slice P7 l.length cp7, .slice none 0 0] 25))); clear ho7 cK; clear xx_0 xx_1 xx_s; clear xn_0 xn_1 xn_s; clear xa_0 xa_1 xa_s; replace xx := (hk.block (rowD xx).2.2).trans xx; replace xn := (hk.block (rowD xn).2.2).trans xn; replace xa := (hk.block (rowD xa).2.2).trans xa; replace hu := hu.call hk; clear hk; obtain ⟨xx_0, xx_1, xx_s⟩ := rowD xx; obtain ⟨xn_0, xn_1, xn_s⟩ := rowD xn; obtain ⟨xa_0, xa_1, xa_s⟩ := rowD xa; clear xx_0 xx_1 xx_s; clear xn_0 xn_1 xn_s; clear xa_0 xa_1 xa_s; replace xx := heap_past (.cells #[.slice P7 l.length cp7, .slice none 0 0] 25) xx; replace xn := heap_past (.cells #[.slice P7 l.length cp7, .slice none 0 0] 25) xn; replace xa := heap_past (.cells #[.slice P7 l.length cp7, .slice none 0 0] 25) xa; replace hu := hu.alloc (.cells #[.slice P7 l.length cp7, .slice none 0 0] 25); have xb := heap_new w4 (.cells #[.slice P7 l.length cp7, .slice none 0 0] 25); obtain ⟨xx_0, xx_1, xx_s⟩ := rowD xx; obtain ⟨xn_0, xn_1, xn_s⟩ := rowD xn; obtain ⟨xa_0, xa_1, xa_s⟩ := rowD xa; obtain ⟨xb_0, xb_1, xb_s⟩ := rowD xb)
        | (go_at_call 16; (with_reducible refine (cE _ _ _ HP7.out).mono ?_); rintro e w5 ⟨P8, cp8, rfl, ho8, hk⟩; clear cE; have HP8 := Lib.hid (ho8.calm ((Calm.refl _).alloc (.cells #[.slice P8 l.length cp8, .slice none 0 0] 25))); clear ho8; clear xx_0 xx_1 xx_s; clear xn_0 xn_1 xn_s; clear xa_0 xa_1 xa_s; clear xb_0 xb_1 xb_s; replace xx := (hk.block (rowD xx).2.2).trans xx; replace xn := (hk.block (rowD xn).2.2).trans xn; replace xa := (hk.block (rowD xa).2.2).trans xa; replace xb := (hk.block (rowD xb).2.2).trans xb; replace HP7 := Lib.hid (HP7.out.calm hk); replace hu := hu.call hk; clear hk; obtain ⟨xx_0, xx_1, xx_s⟩ := rowD xx; obtain ⟨xn_0, xn_1, xn_s⟩ := rowD xn; obtain ⟨xa_0, xa_1, xa_s⟩ := rowD xa; obtain ⟨xb_0, xb_1, xb_s⟩ := rowD xb; clear xx_0 xx_1 xx_s; clear xn_0 xn_1 xn_s; clear xa_0 xa_1 xa_s; clear xb_0 xb_1 xb_s; replace xx := heap_past (.cells #[.slice P8 l.length cp8, .slice none 0 0] 25) xx; replace xn := heap_past (.cells #[.slice P8 l.length cp8, .slice none 0 0] 25) xn; replace xa := heap_past (.cells #[.slice P8 l.length cp8, .slice none 0 0] 25) xa; replace xb := heap_past (.cells #[.slice P8 l.length cp8, .slice none 0 0] 25) xb; replace HP7 := Lib.hid (HP7.out.calm ((Calm.refl _).alloc (.cells #[.slice P8 l.length cp8, .slice none 0 0] 25))); replace hu := hu.alloc (.cells #[.slice P8 l.length cp8, .slice none 0 0] 25); have xc := heap_new w5 (.cells #[.slice P8 l.length cp8, .slice none 0 0] 25); obtain ⟨xx_0, xx_1, xx_s⟩ := rowD xx; obtain ⟨xn_0, xn_1, xn_s⟩ := rowD xn; obtain ⟨xa_0, xa_1, xa_s⟩ := rowD xa; obtain ⟨xb_0, xb_1, xb_s⟩ := rowD xb; obtain ⟨xc_0, xc_1, xc_s⟩ := rowD xc)
        | (go_at_call 16; (with_reducible refine (cF _ _ _ HP8.out).mono ?_); rintro e w6 ⟨P9, cp9, rfl, ho9, hk⟩; have HP9 := Lib.hid (ho9.calm ((Calm.refl _).alloc (.cells #[.slice P9 l.length cp9, .slice none 0 0] 25))); clear ho9; clear xx_0 xx_1 xx_s; clear xn_0 xn_1 xn_s; clear xa_0 xa_1 xa_s; clear xb_0 xb_1 xb_s; clear xc_0 xc_1 xc_s; replace xx := (hk.block (rowD xx).2.2).trans xx; replace xn := (hk.block (rowD xn).2.2).trans xn; replace xa := (hk.block (rowD xa).2.2).trans xa; replace xb := (hk.block (rowD xb).2.2).trans xb; replace xc := (hk.block (rowD xc).2.2).trans xc; replace HP7 := Lib.hid (HP7.out.calm hk); replace HP8 := Lib.hid (HP8.out.calm hk); replace hu := hu.call hk; clear hk; obtain ⟨xx_0, xx_1, xx_s⟩ := rowD xx; obtain ⟨xn_0, xn_1, xn_s⟩ := rowD xn; obtain ⟨xa_0, xa_1, xa_s⟩ := rowD xa; obtain ⟨xb_0, xb_1, xb_s⟩ := rowD xb; obtain ⟨xc_0, xc_1, xc_s⟩ := rowD xc; clear xx_0 xx_1 xx_s; clear xn_0 xn_1 xn_s; clear xa_0 xa_1 xa_s; clear xb_0 xb_1 xb_s; clear xc_0 xc_1 xc_s; replace xx := heap_past (.cells #[.slice P9 l.length cp9, .slice none 0 0] 25) xx; replace xn := heap_past (.cells #[.slice P9 l.length cp9, .slice none 0 0] 25) xn; replace xa := heap_past (.cells #[.slice P9 l.length cp9, .slice none 0 0] 25) xa; replace xb := heap_past (.cells #[.slice P9 l.length cp9, .slice none 0 0] 25) xb; replace xc := heap_past (.cells #[.slice P9 l.length cp9, .slice none 0 0] 25) xc; replace HP7 := Lib.hid (HP7.out.calm ((Calm.refl _).alloc (.cells #[.slice P9 l.length cp9, .slice none 0 0] 25))); replace HP8 := Lib.hid (HP8.out.calm ((Calm.refl _).alloc (.cells #[.slice P9 l.length cp9, .slice none 0 0] 25))); replace hu := hu.alloc (.cells #[.slice P9 l.length cp9, .slice none 0 0] 25); have xd := heap_new w6 (.cells #[.slice P9 l.length cp9, .slice none 0 0] 25); obtain ⟨xx_0, xx_1, xx_s⟩ := rowD xx; obtain ⟨xn_0, xn_1, xn_s⟩ := rowD xn; obtain ⟨xa_0, xa_1, xa_s⟩ := rowD xa; obtain ⟨xb_0, xb_1, xb_s⟩ := rowD xb; obtain ⟨xc_0, xc_1, xc_s⟩ := rowD xc; obtain ⟨xd_0, xd_1, xd_s⟩ := rowD xd)
        | (go_at_call 18; (with_reducible refine (cS _ _ _ _ _ HP8.out HP9.out).mono ?_); rintro e w7 ⟨rfl, hk⟩; clear xx_0 xx_1 xx_s; clear xn_0 xn_1 xn_s; clear xa_0 xa_1 xa_s; clear xb_0 xb_1 xb_s; clear xc_0 xc_1 xc_s; clear xd_0 xd_1 xd_s; replace xx := (hk.block (rowD xx).2.2).trans xx; replace xn := (hk.block (rowD xn).2.2).trans xn; replace xa := (hk.block (rowD xa).2.2).trans xa; replace xb := (hk.block (rowD xb).2.2).trans xb; replace xc := (hk.block (rowD xc).2.2).trans xc; replace xd := (hk.block (rowD xd).2.2).trans xd; replace HP7 := Lib.hid (HP7.out.calm hk); replace HP8 := Lib.hid (HP8.out.calm hk); replace HP9 := Lib.hid (HP9.out.calm hk); replace hu := hu.call hk; clear hk; obtain ⟨xx_0, xx_1, xx_s⟩ := rowD xx; obtain ⟨xn_0, xn_1, xn_s⟩ := rowD xn; obtain ⟨xa_0, xa_1, xa_s⟩ := rowD xa; obtain ⟨xb_0, xb_1, xb_s⟩ := rowD xb; obtain ⟨xc_0, xc_1, xc_s⟩ := rowD xc; obtain ⟨xd_0, xd_1, xd_s⟩ := rowD xd))
    go_ret
    exact ⟨rfl, hu⟩
end Go.Proofs.Ytmpgikplpohjnaa
