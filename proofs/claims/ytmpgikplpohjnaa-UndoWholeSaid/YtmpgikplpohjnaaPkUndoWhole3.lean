/- Texts of one kind in one file. -/
import Derived.Test.YtmpgikplpohjnaaPkUndoWhole2
set_option maxRecDepth 100000
namespace Go.Proofs.Ytmpgikplpohjnaa
open Go.RowKit
def sqOk (T : ByteArray) : Prop := bdOk T.data.toList 8 1 ∧ num ((gB T.data.toList).data.toList.take 4) ≤ 2147483647
def Sq3 (n : Int) (t : ByteArray) (E : Int) (w : World) (e : Ending) (w' : World) : Prop := e = .returned (.tuple #[.int .i64 n, .string t, .int .i64 E]) ∧ Calm w w'
theorem un_field (a d : Option Addr) (n c k e : Nat) (w : World) : (Instr.field 25 (.agg #[.slice a n c, .slice d k e]) 0).run Try.prog w = .ok (.slice a n c) w := by
 kernel_rfl
theorem un_cell {u : World} {P : Option Addr} {L : List ByteArray} {k : Nat} {T : ByteArray} (h : LiesP u P L) (hk : L[k]? = some T) : ∃ b q, P = some ⟨b, q, none⟩ ∧ b < u.heap.size ∧ u.cell? ⟨b, q + k, none⟩ = some (.string T) := by
 obtain ⟨b, q, t, h1, h2, h3, h4⟩ := h.get (List.getElem?_eq_some_iff.1 hk).1
 have : t = T := Option.some.inj (h3.out.symm.trans hk)
 subst this
 exact ⟨b, q, h1, h2, h4⟩
theorem un_cell0 {u : World} {P : Option Addr} {L : List ByteArray} {T : ByteArray} (h : LiesP u P L) (hk : L[0]? = some T) : ∃ b q, P = some ⟨b, q, none⟩ ∧ b < u.heap.size ∧ u.cell? ⟨b, q, none⟩ = some (.string T) := by
 obtain ⟨b, q, h1, h2, h3⟩ := un_cell h hk
 exact ⟨b, q, h1, h2, h3⟩
section
variable (P Q : Option Addr) (cp cq : Nat) (l : List ByteArray) (m : List Wr) (w : World) (hh : HasD w P Q l m) (hn : l.length ≤ 9223372036854775807) (hm : m.length ≤ 9223372036854775807)
include hh hn hm
theorem uSeq_bad {E : Int} (hE : dkErr l m = E) (h0 : E ≠ 0) : Calls Try.prog 14 #[.agg #[.slice P l.length cp, .slice Q m.length cq]] w (Sq3 0 { data := #[] } E w) := by
 have hu := (Calm.refl w).alloc (.cells #[.slice P l.length cp, .slice Q m.length cq] 25)
 have hx := heap_new w (.cells #[.slice P l.length cp, .slice Q m.length cq] 25)
 have cC := fun u (hu : Calm w u) => diskCheck_any P Q cp cq l m u (hh.calm hu).p (hh.calm hu).q hn hm
 rw [hE] at cC
 have b1 : (E != 0) = true := by rw [bne_iff_ne]; exact h0
 obtain ⟨x0, x1, hxs⟩ := rowD hx
 clear hE h0 hh hn hm
 go_enter Try.func14, Try.ntmps14
 go_wp2_with (go_at_call 53; (with_reducible refine (cC _ hu).mono ?_); rintro e w1 ⟨rfl, hk⟩; replace hu := hu.call hk; clear hk)
 go_ret3
 exact ⟨rfl, hu⟩
theorem rSeq_bad {E : Int} (hE : dkErr l m = E) (h0 : E ≠ 0) : Calls Try.prog 15 #[.agg #[.slice P l.length cp, .slice Q m.length cq]] w (Sq3 0 { data := #[] } E w) := by
 have hu := (Calm.refl w).alloc (.cells #[.slice P l.length cp, .slice Q m.length cq] 25)
 have hx := heap_new w (.cells #[.slice P l.length cp, .slice Q m.length cq] 25)
 have cC := fun u (hu : Calm w u) => refDisk_any P Q cp cq l m u (hh.calm hu).p (hh.calm hu).q hn hm
 rw [hE] at cC
 have b1 : (E != 0) = true := by rw [bne_iff_ne]; exact h0
 obtain ⟨x0, x1, hxs⟩ := rowD hx
 clear hE h0 hh hn hm
 go_enter Try.func15, Try.ntmps15
 go_wp2_with (go_at_call 57; (with_reducible refine (cC _ hu).mono ?_); rintro e w1 ⟨rfl, hk⟩; replace hu := hu.call hk; clear hk)
 go_ret3
 exact ⟨rfl, hu⟩
theorem uSeq_form (h0 : dkErr l m = 0) (hl : ¬ l.length = 201) : Calls Try.prog 14 #[.agg #[.slice P l.length cp, .slice Q m.length cq]] w (Sq3 0 { data := #[] } 3 w) := by
 have hu := (Calm.refl w).alloc (.cells #[.slice P l.length cp, .slice Q m.length cq] 25)
 have hx := heap_new w (.cells #[.slice P l.length cp, .slice Q m.length cq] 25)
 have cC := fun u (hu : Calm w u) => diskCheck_any P Q cp cq l m u (hh.calm hu).p (hh.calm hu).q hn hm
 rw [h0] at cC
 have b1 : ((l.length : Int) != 201) = true := by rw [bne_iff_ne]; omega
 obtain ⟨x0, x1, hxs⟩ := rowD hx
 clear h0 hh hn hm hl
 go_enter Try.func14, Try.ntmps14
 go_wp2_with (go_at_call 53; (with_reducible refine (cC _ hu).mono ?_); rintro e w1 ⟨rfl, hk⟩; replace hx := (hk.block hxs).trans hx; replace hu := hu.call hk; clear hk x0 x1 hxs; obtain ⟨x0, x1, hxs⟩ := rowD hx)
 go_ret3
 exact ⟨rfl, hu⟩
theorem rSeq_form (h0 : dkErr l m = 0) (hl : ¬ l.length = 201) : Calls Try.prog 15 #[.agg #[.slice P l.length cp, .slice Q m.length cq]] w (Sq3 0 { data := #[] } 3 w) := by
 have hu := (Calm.refl w).alloc (.cells #[.slice P l.length cp, .slice Q m.length cq] 25)
 have hx := heap_new w (.cells #[.slice P l.length cp, .slice Q m.length cq] 25)
 have cC := fun u (hu : Calm w u) => refDisk_any P Q cp cq l m u (hh.calm hu).p (hh.calm hu).q hn hm
 rw [h0] at cC
 have b1 : ((l.length : Int) != 201) = true := by rw [bne_iff_ne]; omega
 obtain ⟨x0, x1, hxs⟩ := rowD hx
 clear h0 hh hn hm hl
 go_enter Try.func15, Try.ntmps15
 go_wp2_with (go_at_call 57; (with_reducible refine (cC _ hu).mono ?_); rintro e w1 ⟨rfl, hk⟩; replace hx := (hk.block hxs).trans hx; replace hu := hu.call hk; clear hk x0 x1 hxs; obtain ⟨x0, x1, hxs⟩ := rowD hx)
 go_ret3
 exact ⟨rfl, hu⟩
theorem uSeq_no (h0 : dkErr l m = 0) (hl : l.length = 201) {T x : ByteArray} (hx0 : l[0]? = some x) (hT : T = rdL 0 m x) (h : ¬ sqOk T) : Calls Try.prog 14 #[.agg #[.slice P l.length cp, .slice Q m.length cq]] w (Sq3 0 { data := #[] } 11 w) := by
 have hu := (Calm.refl w).alloc (.cells #[.slice P l.length cp, .slice Q m.length cq] 25)
 have hx := heap_new w (.cells #[.slice P l.length cp, .slice Q m.length cq] 25)
 have cC := fun u (hu : Calm w u) => diskCheck_any P Q cp cq l m u (hh.calm hu).p (hh.calm hu).q hn hm
 rw [h0] at cC
 have b0 : ((l.length : Int) != 201) = false := by rw [bne_eq_false_iff_eq]; omega
 have b2 : 0 < (l.length : Int) := by omega
 have cR : ∀ u, Calm w u → Calls Try.prog 54 #[.agg #[.slice P l.length cp, .slice Q m.length cq], .int .i64 0] u fun e w' => e = .returned (.tuple #[.string T, .int .i64 0]) ∧ Calm u w' := fun u hu => by
  rw [hT]
  exact (hh.calm hu).rd cp cq h0 (k := 0) hx0
 by_cases hb : bdOk T.data.toList 8 1
 rotate_left
 ·have cB := fun u => body_no T 8 1 (by omega) u hb
  clear h0 hh hn hm hl hT hx0 h hb
  obtain ⟨x0, x1, hxs⟩ := rowD hx
  go_enter Try.func14, Try.ntmps14
  go_wp2_with (first
  |(go_at_call 53; (with_reducible refine (cC _ hu).mono ?_); rintro e w1 ⟨rfl, hk⟩; replace hx := (hk.block hxs).trans hx; replace hu := hu.call hk; clear hk x0 x1 hxs; obtain ⟨x0, x1, hxs⟩ := rowD hx)
  |(go_at_call 54; (with_reducible refine (cR _ hu).mono ?_); rintro e w2 ⟨rfl, hk⟩; replace hx := (hk.block hxs).trans hx; replace hu := hu.call hk; clear hk x0 x1 hxs; obtain ⟨x0, x1, hxs⟩ := rowD hx)
  |(go_at_call 55; refine (cB _).mono ?_; rintro e w3 ⟨rfl, hk⟩; replace hx := (hk.block hxs).trans hx; replace hu := hu.call hk; clear hk x0 x1 hxs; obtain ⟨x0, x1, hxs⟩ := rowD hx))
  go_ret3
  exact ⟨rfl, hu⟩
 have hN : ¬ num ((gB T.data.toList).data.toList.take 4) ≤ 2147483647 := fun hN => h ⟨hb, hN⟩
 have cB := fun u => body_ok T 8 1 (by omega) u hb
 have h4 : 4 ≤ (gB T.data.toList).size := by have := hb.2.2; omega
 have cD := fun u => decode_any _ u h4
 generalize gB T.data.toList = B at cB cD h4 hN
 generalize num (B.data.toList.take 4) = N at cD hN
 have hN' : (2147483647 : Int) < (N : Int) := by omega
 clear h0 hh hn hm hl hT hx0 h hb hN h4
 obtain ⟨x0, x1, hxs⟩ := rowD hx
 go_enter Try.func14, Try.ntmps14
 go_wp2_with (first
  |(go_at_call 53; (with_reducible refine (cC _ hu).mono ?_); rintro e w1 ⟨rfl, hk⟩; replace hx := (hk.block hxs).trans hx; replace hu := hu.call hk; clear hk x0 x1 hxs; obtain ⟨x0, x1, hxs⟩ := rowD hx)
  |(go_at_call 54; (with_reducible refine (cR _ hu).mono ?_); rintro e w2 ⟨rfl, hk⟩; replace hx := (hk.block hxs).trans hx; replace hu := hu.call hk; clear hk x0 x1 hxs; obtain ⟨x0, x1, hxs⟩ := rowD hx)
  |(go_at_call 55; refine (cB _).mono ?_; rintro e w3 ⟨rfl, hk⟩; replace hx := (hk.block hxs).trans hx; replace hu := hu.call hk; clear hk x0 x1 hxs; obtain ⟨x0, x1, hxs⟩ := rowD hx)
  |(go_at_call 56; (with_reducible refine (cD _).mono ?_); rintro e w4 ⟨rfl, hk⟩; replace hx := (hk.block hxs).trans hx; replace hu := hu.call hk; clear hk x0 x1 hxs; obtain ⟨x0, x1, hxs⟩ := rowD hx))
 go_ret3
 exact ⟨rfl, hu⟩
theorem uSeq_ok (h0 : dkErr l m = 0) (hl : l.length = 201) {T x : ByteArray} (hx0 : l[0]? = some x) (hT : T = rdL 0 m x) (h : sqOk T) : Calls Try.prog 14 #[.agg #[.slice P l.length cp, .slice Q m.length cq]] w (Sq3 (num ((gB T.data.toList).data.toList.take 4) : Int) ((gB T.data.toList).extract 4 (gB T.data.toList).size) 0 w) := by
 have hu := (Calm.refl w).alloc (.cells #[.slice P l.length cp, .slice Q m.length cq] 25)
 have hx := heap_new w (.cells #[.slice P l.length cp, .slice Q m.length cq] 25)
 have cC := fun u (hu : Calm w u) => diskCheck_any P Q cp cq l m u (hh.calm hu).p (hh.calm hu).q hn hm
 rw [h0] at cC
 have b0 : ((l.length : Int) != 201) = false := by rw [bne_eq_false_iff_eq]; omega
 have b2 : 0 < (l.length : Int) := by omega
 have cR : ∀ u, Calm w u → Calls Try.prog 54 #[.agg #[.slice P l.length cp, .slice Q m.length cq], .int .i64 0] u fun e w' => e = .returned (.tuple #[.string T, .int .i64 0]) ∧ Calm u w' := fun u hu => by
  rw [hT]
  exact (hh.calm hu).rd cp cq h0 (k := 0) hx0
 have cB := fun u => body_ok T 8 1 (by omega) u h.1
 have h4 : 4 ≤ (gB T.data.toList).size := by have := h.1.2.2; omega
 have hN := h.2
 have cD := fun u => decode_any _ u h4
 generalize gB T.data.toList = B at cB cD h4 hN ⊢
 generalize num (B.data.toList.take 4) = N at cD hN ⊢
 have hN' : (N : Int) ≤ 2147483647 := by omega
 have h4' : (4 : Int) ≤ (B.size : Int) := by omega
 clear h0 hh hn hm hl hT hx0 h hN h4
 obtain ⟨x0, x1, hxs⟩ := rowD hx
 go_enter Try.func14, Try.ntmps14
 go_upto_region 12 with (first
  |(go_at_call 53; (with_reducible refine (cC _ hu).mono ?_); rintro e w1 ⟨rfl, hk⟩; replace hx := (hk.block hxs).trans hx; replace hu := hu.call hk; clear hk x0 x1 hxs; obtain ⟨x0, x1, hxs⟩ := rowD hx)
  |(go_at_call 54; (with_reducible refine (cR _ hu).mono ?_); rintro e w2 ⟨rfl, hk⟩; replace hx := (hk.block hxs).trans hx; replace hu := hu.call hk; clear hk x0 x1 hxs; obtain ⟨x0, x1, hxs⟩ := rowD hx)
  |(go_at_call 55; refine (cB _).mono ?_; rintro e w3 ⟨rfl, hk⟩; replace hx := (hk.block hxs).trans hx; replace hu := hu.call hk; clear hk x0 x1 hxs; obtain ⟨x0, x1, hxs⟩ := rowD hx)
  |(go_at_call 56; (with_reducible refine (cD _).mono ?_); rintro e w4 ⟨rfl, hk⟩; replace hx := (hk.block hxs).trans hx; replace hu := hu.call hk; clear hk x0 x1 hxs; obtain ⟨x0, x1, hxs⟩ := rowD hx))
 refine wp_region_plan [.val (.string B), .val (.int .i64 (N)), .val (.string B), .val (.string (B.extract 4 B.size)), .val (.int .i64 (N)), .val (.string (B.extract 4 B.size)), .val (.int .i64 (0))] (by kernel_rfl) (by kernel_rfl) (by kernel_rfl) ?_
 intro X
 iterate 7
  refine plan_val (by kernel_rfl) (fun u hu => ?_) ?_
  ·obtain ⟨hc, hf, hz⟩ := hu.of_drew.facts
   go_simp
   all_goals first
    |((go_at_call 56; exact cD _))
  simp only [Act.put, List.setIfInBounds_toArray, List.set_cons_zero, List.set_cons_succ, Nat.reduceAdd]
 refine plan_end ?_
 intro w' hB
 have hk := hB.calm.of_drew
 clear hB
 go_wp2_with fail
 go_ret3
 exact ⟨rfl, hu.call hk⟩
theorem rSeq_no (h0 : dkErr l m = 0) (hl : l.length = 201) {T x : ByteArray} (hx0 : l[0]? = some x) (hT : T = rdL 0 m x) (h : ¬ sqOk T) : Calls Try.prog 15 #[.agg #[.slice P l.length cp, .slice Q m.length cq]] w (Sq3 0 { data := #[] } 11 w) := by
 have hu := (Calm.refl w).alloc (.cells #[.slice P l.length cp, .slice Q m.length cq] 25)
 have hx := heap_new w (.cells #[.slice P l.length cp, .slice Q m.length cq] 25)
 have cC := fun u (hu : Calm w u) => refDisk_any P Q cp cq l m u (hh.calm hu).p (hh.calm hu).q hn hm
 rw [h0] at cC
 have b0 : ((l.length : Int) != 201) = false := by rw [bne_eq_false_iff_eq]; omega
 have b2 : 0 < (l.length : Int) := by omega
 have hT0 : (doneL (fun _ => true) 0 m l)[0]? = some T := by
  rw [hT]
  exact done_read rfl (dkErr_zero.1 h0).2.2.2 0 _ hx0
 have cS := fun u (hu : Calm w u) => synced_any P Q cp cq l m u (hh.calm hu).p (hh.calm hu).q h0
 unfold DoneEnd at cS
 generalize doneL (fun _ => true) 0 m l = LS at cS hT0
 have qf := un_field
 have cU := fun u => unframe_any T u
 unfold FGetEnd at cU
 generalize hgN : gN T.data.toList = G at cU
 by_cases h1 : unErr T.data.toList = 0
 rotate_left
 ·have b1 : (unErr T.data.toList != 0) = true := by rw [bne_iff_ne]; exact h1
  generalize gB T.data.toList = B at cU
  generalize gK T.data.toList = K at cU
  clear h h1
  generalize unErr T.data.toList = E at cU b1
  clear h0 hh hn hm hl hT hx0 hgN
  obtain ⟨x0, x1, hxs⟩ := rowD hx
  go_enter Try.func15, Try.ntmps15
  go_wp2_with (first
  |(go_at_call 57; (with_reducible refine (cC _ hu).mono ?_); rintro e w1 ⟨rfl, hk⟩; replace hx := (hk.block hxs).trans hx; replace hu := hu.call hk; clear hk x0 x1 hxs; obtain ⟨x0, x1, hxs⟩ := rowD hx)
  |(go_at_call 59; (with_reducible refine (cS _ hu).mono ?_); rintro e w2 ⟨P8, c8, rfl, ho8, hk⟩; obtain ⟨b8, q8, rfl, hb8, hc8⟩ := un_cell0 (OwnP.at_ ho8).2 hT0; clear ho8; replace hx := (hk.block hxs).trans hx; replace hu := hu.call hk; clear hk x0 x1 hxs; obtain ⟨x0, x1, hxs⟩ := rowD hx)
  |(go_at_call 58; (with_reducible refine (cU _).mono ?_); rintro e w3 ⟨rfl, hk⟩; clear hc8 hb8; replace hx := (hk.block hxs).trans hx; replace hu := hu.call hk; clear hk x0 x1 hxs; obtain ⟨x0, x1, hxs⟩ := rowD hx; replace hu := hu.alloc (.cells #[.int .i64 K, .string B] 87); have hy := heap_new w3 (.cells #[.int .i64 K, .string B] 87); obtain ⟨y0, y1, hys⟩ := row2 hy))
  go_ret3
  exact ⟨rfl, hu⟩
 rw [h1] at cU
 by_cases h2 : gK T.data.toList = 8
 rotate_left
 ·have b1 : (gK T.data.toList != 8) = true := by rw [bne_iff_ne]; exact h2
  generalize gB T.data.toList = B at cU
  clear h h2
  generalize gK T.data.toList = K at cU b1
  clear h0 hh hn hm hl hT hx0 hgN h1
  obtain ⟨x0, x1, hxs⟩ := rowD hx
  go_enter Try.func15, Try.ntmps15
  go_wp2_with (first
  |(go_at_call 57; (with_reducible refine (cC _ hu).mono ?_); rintro e w1 ⟨rfl, hk⟩; replace hx := (hk.block hxs).trans hx; replace hu := hu.call hk; clear hk x0 x1 hxs; obtain ⟨x0, x1, hxs⟩ := rowD hx)
  |(go_at_call 59; (with_reducible refine (cS _ hu).mono ?_); rintro e w2 ⟨P8, c8, rfl, ho8, hk⟩; obtain ⟨b8, q8, rfl, hb8, hc8⟩ := un_cell0 (OwnP.at_ ho8).2 hT0; clear ho8; replace hx := (hk.block hxs).trans hx; replace hu := hu.call hk; clear hk x0 x1 hxs; obtain ⟨x0, x1, hxs⟩ := rowD hx)
  |(go_at_call 58; (with_reducible refine (cU _).mono ?_); rintro e w3 ⟨rfl, hk⟩; clear hc8 hb8; replace hx := (hk.block hxs).trans hx; replace hu := hu.call hk; clear hk x0 x1 hxs; obtain ⟨x0, x1, hxs⟩ := rowD hx; replace hu := hu.alloc (.cells #[.int .i64 K, .string B] 87); have hy := heap_new w3 (.cells #[.int .i64 K, .string B] 87); obtain ⟨y0, y1, hys⟩ := row2 hy))
  go_ret3
  exact ⟨rfl, hu⟩
 rw [h2] at cU
 by_cases h3 : 4 ≤ (gB T.data.toList).size
 rotate_left
 ·obtain ⟨B, hB⟩ : ∃ B, B = gB T.data.toList := ⟨_, rfl⟩
  rw [← hB] at cU h3
  have h3' : (B.size : Int) < 4 := by omega
  clear hB h3
  clear h0 hh hn hm hl hT hx0 h hgN h1 h2
  obtain ⟨x0, x1, hxs⟩ := rowD hx
  go_enter Try.func15, Try.ntmps15
  go_wp2_with (first
  |(go_at_call 57; (with_reducible refine (cC _ hu).mono ?_); rintro e w1 ⟨rfl, hk⟩; replace hx := (hk.block hxs).trans hx; replace hu := hu.call hk; clear hk x0 x1 hxs; obtain ⟨x0, x1, hxs⟩ := rowD hx)
  |(go_at_call 59; (with_reducible refine (cS _ hu).mono ?_); rintro e w2 ⟨P8, c8, rfl, ho8, hk⟩; obtain ⟨b8, q8, rfl, hb8, hc8⟩ := un_cell0 (OwnP.at_ ho8).2 hT0; clear ho8; replace hx := (hk.block hxs).trans hx; replace hu := hu.call hk; clear hk x0 x1 hxs; obtain ⟨x0, x1, hxs⟩ := rowD hx)
  |(go_at_call 58; (with_reducible refine (cU _).mono ?_); rintro e w3 ⟨rfl, hk⟩; clear hc8 hb8; replace hx := (hk.block hxs).trans hx; replace hu := hu.call hk; clear hk x0 x1 hxs; obtain ⟨x0, x1, hxs⟩ := rowD hx; replace hu := hu.alloc (.cells #[.int .i64 8, .string B] 87); have hy := heap_new w3 (.cells #[.int .i64 8, .string B] 87); obtain ⟨y0, y1, hys⟩ := row2 hy))
  go_ret3
  exact ⟨rfl, hu⟩
 have hN : ¬ num ((gB T.data.toList).data.toList.take 4) ≤ 2147483647 := fun hN => h ⟨⟨h1, h2, by omega⟩, hN⟩
 have cD := fun u => calls_calm (refBig_any ((gB T.data.toList).extract 0 4) u (by rw [ByteArray.size_extract]; omega))
 rw [show ((gB T.data.toList).extract 0 4).data.toList = (gB T.data.toList).data.toList.take 4 from by rw [part_extract]; unfold part; rw [List.drop_zero]] at cD
 clear h
 generalize gB T.data.toList = B at cU cD h3 hN
 generalize num (B.data.toList.take 4) = N at cD hN
 have hN' : (2147483647 : Int) < (N : Int) := by omega
 have h3' : (4 : Int) ≤ (B.size : Int) := by omega
 clear h0 hh hn hm hl hT hx0 h1 h2 h3 hN hgN
 obtain ⟨x0, x1, hxs⟩ := rowD hx
 go_enter Try.func15, Try.ntmps15
 go_wp2_with (first
  |(go_at_call 57; (with_reducible refine (cC _ hu).mono ?_); rintro e w1 ⟨rfl, hk⟩; replace hx := (hk.block hxs).trans hx; replace hu := hu.call hk; clear hk x0 x1 hxs; obtain ⟨x0, x1, hxs⟩ := rowD hx)
  |(go_at_call 59; (with_reducible refine (cS _ hu).mono ?_); rintro e w2 ⟨P8, c8, rfl, ho8, hk⟩; obtain ⟨b8, q8, rfl, hb8, hc8⟩ := un_cell0 (OwnP.at_ ho8).2 hT0; clear ho8; replace hx := (hk.block hxs).trans hx; replace hu := hu.call hk; clear hk x0 x1 hxs; obtain ⟨x0, x1, hxs⟩ := rowD hx)
  |(go_at_call 58; (with_reducible refine (cU _).mono ?_); rintro e w3 ⟨rfl, hk⟩; clear hc8 hb8; replace hx := (hk.block hxs).trans hx; replace hu := hu.call hk; clear hk x0 x1 hxs; obtain ⟨x0, x1, hxs⟩ := rowD hx; replace hu := hu.alloc (.cells #[.int .i64 8, .string B] 87); have hy := heap_new w3 (.cells #[.int .i64 8, .string B] 87); obtain ⟨y0, y1, hys⟩ := row2 hy)
  |(go_at_call 60; (with_reducible refine (cD _).mono ?_); rintro e w4 ⟨rfl, hk⟩; replace hy := (hk.block hys).trans hy; replace hu := hu.call hk; clear hk y0 y1 hys; obtain ⟨y0, y1, hys⟩ := row2 hy))
 go_ret3
 exact ⟨rfl, hu⟩
theorem rSeq_ok (h0 : dkErr l m = 0) (hl : l.length = 201) {T x : ByteArray} (hx0 : l[0]? = some x) (hT : T = rdL 0 m x) (h : sqOk T) : Calls Try.prog 15 #[.agg #[.slice P l.length cp, .slice Q m.length cq]] w (Sq3 (num ((gB T.data.toList).data.toList.take 4) : Int) ((gB T.data.toList).extract 4 (gB T.data.toList).size) 0 w) := by
 have hu := (Calm.refl w).alloc (.cells #[.slice P l.length cp, .slice Q m.length cq] 25)
 have hx := heap_new w (.cells #[.slice P l.length cp, .slice Q m.length cq] 25)
 have cC := fun u (hu : Calm w u) => refDisk_any P Q cp cq l m u (hh.calm hu).p (hh.calm hu).q hn hm
 rw [h0] at cC
 have b0 : ((l.length : Int) != 201) = false := by rw [bne_eq_false_iff_eq]; omega
 have b2 : 0 < (l.length : Int) := by omega
 have hT0 : (doneL (fun _ => true) 0 m l)[0]? = some T := by
  rw [hT]
  exact done_read rfl (dkErr_zero.1 h0).2.2.2 0 _ hx0
 have cS := fun u (hu : Calm w u) => synced_any P Q cp cq l m u (hh.calm hu).p (hh.calm hu).q h0
 unfold DoneEnd at cS
 generalize doneL (fun _ => true) 0 m l = LS at cS hT0
 have qf := un_field
 have cU := fun u => unframe_any T u
 unfold FGetEnd at cU
 obtain ⟨⟨h1, h2, h3⟩, hN⟩ := h
 rw [h1, h2] at cU
 generalize gN T.data.toList = G at cU
 have cD := fun u => calls_calm (refBig_any ((gB T.data.toList).extract 0 4) u (by rw [ByteArray.size_extract]; omega))
 rw [show ((gB T.data.toList).extract 0 4).data.toList = (gB T.data.toList).data.toList.take 4 from by rw [part_extract]; unfold part; rw [List.drop_zero]] at cD
 generalize gB T.data.toList = B at cU cD h3 hN ⊢
 generalize num (B.data.toList.take 4) = N at cD hN ⊢
 have hN' : (N : Int) ≤ 2147483647 := by omega
 have h3' : (4 : Int) ≤ (B.size : Int) := by omega
 clear h0 hh hn hm hl hT hx0 h1 h2 h3 hN
 obtain ⟨x0, x1, hxs⟩ := rowD hx
 go_enter Try.func15, Try.ntmps15
 go_upto_region 9 with (first
  |(go_at_call 57; (with_reducible refine (cC _ hu).mono ?_); rintro e w1 ⟨rfl, hk⟩; replace hx := (hk.block hxs).trans hx; replace hu := hu.call hk; clear hk x0 x1 hxs; obtain ⟨x0, x1, hxs⟩ := rowD hx)
  |(go_at_call 59; (with_reducible refine (cS _ hu).mono ?_); rintro e w2 ⟨P8, c8, rfl, ho8, hk⟩; obtain ⟨b8, q8, rfl, hb8, hc8⟩ := un_cell0 (OwnP.at_ ho8).2 hT0; clear ho8; replace hx := (hk.block hxs).trans hx; replace hu := hu.call hk; clear hk x0 x1 hxs; obtain ⟨x0, x1, hxs⟩ := rowD hx)
  |(go_at_call 58; (with_reducible refine (cU _).mono ?_); rintro e w3 ⟨rfl, hk⟩; clear hc8 hb8; replace hx := (hk.block hxs).trans hx; replace hu := hu.call hk; clear hk x0 x1 hxs; obtain ⟨x0, x1, hxs⟩ := rowD hx; replace hu := hu.alloc (.cells #[.int .i64 8, .string B] 87); have hy := heap_new w3 (.cells #[.int .i64 8, .string B] 87); obtain ⟨y0, y1, hys⟩ := row2 hy)
  |(go_at_call 60; (with_reducible refine (cD _).mono ?_); rintro e w4 ⟨rfl, hk⟩; replace hy := (hk.block hys).trans hy; replace hu := hu.call hk; clear hk y0 y1 hys; obtain ⟨y0, y1, hys⟩ := row2 hy))
 generalize w3.heap.size = gF at hy y0 y1 hys ⊢
 refine wp_region_plan [.val (.pointer (some ⟨gF, 1, none⟩)), .val (.string B), .val (.string (B.extract 0 4)), .val (.int .i64 (N)), .val (.pointer (some ⟨gF, 1, none⟩)), .val (.string B), .val (.string (B.extract 4 B.size)), .val (.int .i64 (N)), .val (.string (B.extract 4 B.size)), .val (.int .i64 (0))] (by kernel_rfl) (by kernel_rfl) (by kernel_rfl) ?_
 intro X
 iterate 10
  refine plan_val (by kernel_rfl) (fun u hu => ?_) ?_
  ·obtain ⟨hc, hf, hz⟩ := hu.of_drew.facts
   go_simp
   all_goals first
    |((go_at_call 60; exact cD _))
  simp only [Act.put, List.setIfInBounds_toArray, List.set_cons_zero, List.set_cons_succ, Nat.reduceAdd]
 refine plan_end ?_
 intro w' hB
 have hk := hB.calm.of_drew
 clear hB
 go_wp2_with fail
 go_ret3
 exact ⟨rfl, hu.call hk⟩
end
open Go.RowKit
def gwE (pre : List Wr) (x : Wr) : Int := if x.i < 1 ∨ 100 < x.i then 1 else if 2900 < x.s.size then 2 else if pre.any (fun y => decide (y.i = x.i)) = true then 5 else 0
def gwsE : List Wr → List Wr → Int
 |_, [] => 0
 |pre, x :: l => if gwE pre x = 0 then gwsE (pre ++ [x]) l else gwE pre x
theorem gwsE_drop {ws : List Wr} {k : Nat} {x : Wr} (h : ws[k]? = some x) : gwsE (ws.take k) (ws.drop k) = if gwE (ws.take k) x = 0 then gwsE (ws.take (k + 1)) (ws.drop (k + 1)) else gwE (ws.take k) x := by
 obtain ⟨hj, he⟩ := List.getElem?_eq_some_iff.1 h
 rw [List.drop_eq_getElem_cons hj, he, gwsE, List.take_succ_eq_append_getElem hj, he]
theorem gwsE_at : ∀ {l pre : List Wr}, gwsE pre l = 0 → ∀ (k : Nat) (x : Wr), l[k]? = some x → gwE (pre ++ l.take k) x = 0
 | [], _, _, k, x, h => by simp at h
 |y :: l, pre, h, k, x, hx => by
  unfold gwsE at h
  split at h
  ·rename_i h0
   match k, hx with
   | 0, hx => simp at hx; subst hx; simpa using h0
   |k + 1, hx =>
    have := gwsE_at (l := l) h k x (by simpa using hx)
    simpa using this
  ·rename_i h0; exact absurd h h0
theorem gwE_zero {pre : List Wr} {x : Wr} : gwE pre x = 0 ↔ 1 ≤ x.i ∧ x.i ≤ 100 ∧ x.s.size ≤ 2900 ∧ ∀ y ∈ pre, y.i ≠ x.i := by
 unfold gwE
 by_cases h1 : x.i < 1 ∨ 100 < x.i
 ·rw [if_pos h1]; exact ⟨fun h => absurd h (by decide), fun h => by omega⟩
 rw [if_neg h1]
 by_cases h2 : 2900 < x.s.size
 ·rw [if_pos h2]; exact ⟨fun h => absurd h (by decide), fun h => by omega⟩
 rw [if_neg h2]
 by_cases h3 : pre.any (fun y => decide (y.i = x.i)) = true
 ·rw [if_pos h3]
  obtain ⟨y, hy, he⟩ := List.any_eq_true.1 h3
  exact ⟨fun h => absurd h (by decide), fun h => absurd (of_decide_eq_true he) (h.2.2.2 y hy)⟩
 ·rw [if_neg h3]
  refine ⟨fun _ => ⟨by omega, by omega, by omega, fun y hy he => h3 (List.any_eq_true.2 ⟨y, hy, decide_eq_true he⟩)⟩, fun _ => rfl⟩
structure GwOk (ws : List Wr) : Prop where
 r : ∀ x ∈ ws, 1 ≤ x.i ∧ x.i ≤ 100 ∧ x.s.size ≤ 2900
 d : ∀ (j k : Nat) (x y : Wr), j < k → ws[j]? = some x → ws[k]? = some y → x.i ≠ y.i
theorem gw_ok {ws : List Wr} (h : gwsE [] ws = 0) : GwOk ws :=
 ⟨fun x hx => by
  obtain ⟨k, hk⟩ := List.getElem?_of_mem hx
  have := gwE_zero.1 (gwsE_at h k x hk)
  exact ⟨this.1, this.2.1, this.2.2.1⟩, fun j k x y hj hx hy => by
  have := (gwE_zero.1 (gwsE_at h k y hy)).2.2.2
  refine this x ?_
  rw [List.nil_append]
  exact List.mem_iff_getElem?.2 ⟨j, by rw [List.getElem?_take, if_pos hj]; exact hx⟩⟩
def oldL (P0 : List ByteArray) (x : Wr) : ByteArray := P0.getD x.i.toNat { data := #[] }
def gpE (q : Nat) (P0 : List ByteArray) (hd : ByteArray) (ws : List Wr) : Int :=
 if 2900 < hd.size ∨ 100 < ws.length then 2 else if gwsE [] ws = 0 then (if ws.any (fun x => decide (2900 < (oldL P0 x).size)) = true then 2 else if q = 2147483647 then 8 else 0) else gwsE [] ws
theorem gpE_zero {q : Nat} {P0 : List ByteArray} {hd : ByteArray} {ws : List Wr} (h : gpE q P0 hd ws = 0) : hd.size ≤ 2900 ∧ ws.length ≤ 100 ∧ gwsE [] ws = 0 ∧ (∀ x ∈ ws, (oldL P0 x).size ≤ 2900) ∧ q ≠ 2147483647 := by
 unfold gpE at h
 split at h
 ·exact absurd h (by decide)
 rename_i h1
 split at h
 ·rename_i h2
  split at h
  ·exact absurd h (by decide)
  ·rename_i h3
   split at h
   ·exact absurd h (by decide)
   ·rename_i h4
    refine ⟨by omega, by omega, h2, fun x hx => ?_, h4⟩
    rcases Nat.lt_or_ge 2900 (oldL P0 x).size with h5 | h5
    ·exact absurd (List.any_eq_true.2 ⟨x, hx, decide_eq_true h5⟩) h3
    ·exact h5
 ·rename_i h2; exact absurd h h2
abbrev Dc := List ByteArray × List Wr
def act : Option Wr → Dc → Dc
 |some x, d => (d.1, d.2 ++ [x])
 |none, d => (curP d.1 d.2, [])
def lastD (d : Dc) (A : List (Option Wr)) : Dc := A.foldl (fun d a => act a d) d
def walkD : Dc → List (Option Wr) → List Dc
 |_, [] => []
 |d, a :: A => act a d :: walkD (act a d) A
theorem last_snoc (d : Dc) (A : List (Option Wr)) (a : Option Wr) : lastD d (A ++ [a]) = act a (lastD d A) := by
 unfold lastD; rw [List.foldl_append]; rfl
theorem last_app (d : Dc) (A B : List (Option Wr)) : lastD d (A ++ B) = lastD (lastD d A) B := by
 unfold lastD; rw [List.foldl_append]
theorem walk_snoc : ∀ (A : List (Option Wr)) (d : Dc) (a : Option Wr), walkD d (A ++ [a]) = walkD d A ++ [act a (lastD d A)]
 | [], _, _ => rfl
 |b :: A, d, a => by
  show act b d :: walkD (act b d) (A ++ [a]) = _
  rw [walk_snoc A]; rfl
theorem walk_len : ∀ (A : List (Option Wr)) (d : Dc), (walkD d A).length = A.length
 | [], _ => rfl
 |a :: A, d => by
  show (walkD (act a d) A).length + 1 = _
  rw [walk_len A]; rfl
theorem walk_at : ∀ (A : List (Option Wr)) (d : Dc) (k : Nat), k < A.length → (walkD d A)[k]? = some (lastD d (A.take (k + 1)))
 | [], _, _, h => absurd h (by simp)
 |a :: A, d, 0, _ => rfl
 |a :: A, d, k + 1, h => by
  show (walkD (act a d) A)[k]? = _
  rw [walk_at A (act a d) k (by simpa using h)]
  rfl
theorem last_puts : ∀ (l : List Wr) (d : Dc), lastD d (l.map some) = (d.1, d.2 ++ l)
 | [], d => by simp [lastD]
 |x :: l, d => by
  show lastD (act (some x) d) (l.map some) = _
  rw [last_puts l]
  simp [act]
def recW (q : Nat) (P0 : List ByteArray) (i : Nat) (x : Wr) : Wr := ⟨(101 + i : Nat), frS 9 ((⟨(be 4 (q + 1)).toArray⟩ : ByteArray) ++ ⟨(be 4 x.i.toNat).toArray⟩ ++ oldL P0 x)⟩
def recsW (q : Nat) (P0 : List ByteArray) (ws : List Wr) : List Wr := ws.mapIdx (recW q P0)
def headW (q : Nat) (hd : ByteArray) : Wr := ⟨0, hdS ((q + 1 : Nat) : Int) hd⟩
def actsW (q : Nat) (P0 : List ByteArray) (hd : ByteArray) (ws : List Wr) : List (Option Wr) := none :: ((recsW q P0 ws).map some ++ none :: (ws.map some ++ [none, some (headW q hd), none]))
theorem recs_len (q : Nat) (P0 : List ByteArray) (ws : List Wr) : (recsW q P0 ws).length = ws.length := by unfold recsW; rw [List.length_mapIdx]
theorem recs_at {q : Nat} {P0 : List ByteArray} {ws : List Wr} {k : Nat} {x : Wr} (h : ws[k]? = some x) : (recsW q P0 ws)[k]? = some (recW q P0 k x) := by unfold recsW; rw [List.getElem?_mapIdx, h]; rfl
theorem recs_next {q : Nat} {P0 : List ByteArray} {ws : List Wr} {k : Nat} {x : Wr} (h : ws[k]? = some x) : (recsW q P0 ws).take (k + 1) = (recsW q P0 ws).take k ++ [recW q P0 k x] := by
 obtain ⟨hj, he⟩ := List.getElem?_eq_some_iff.1 (recs_at (q := q) (P0 := P0) h)
 rw [List.take_succ_eq_append_getElem hj, he]
theorem acts_len (q : Nat) (P0 : List ByteArray) (hd : ByteArray) (ws : List Wr) : (actsW q P0 hd ws).length = 2 * ws.length + 5 := by
 unfold actsW
 simp only [List.length_cons, List.length_append, List.length_map, recs_len, List.length_nil]
 omega
open Go.RowKit
def dqC (x : Value × Value) : List Value := [x.1, x.2]
theorem dqC_len (x : Value × Value) : (dqC x).length = 2 := rfl
theorem infoDq : (Try.prog.info? 25).map (fun i => (i.zero, i.size, i.bytes)) = some (some (.agg #[.slice none 0 0, .slice none 0 0]), 2, 48) := by kernel_rfl
def OwnQ (base : Nat) (w : World) (v : Value) (X : List (Value × Value)) : Prop := OwnG 25 dqC 2 base w v X
theorem row3S {w : World} {g t : Nat} {a b c : Value} {fr : Nat × Nat} (h : w.heap[g]? = some (.cells #[a, b, c] t fr)) : w.cell? ⟨g, 0, none⟩ = some a ∧ w.cell? ⟨g, 1, none⟩ = some b ∧ w.cell? ⟨g, 2, none⟩ = some c ∧ g < w.heap.size :=
 ⟨cell_of_row _ _ 0 _ _ _ h, cell_of_row _ _ 1 _ _ _ h, cell_of_row _ _ 2 _ _ _ h, (Array.getElem?_eq_some_iff.1 h).1⟩
theorem free3S {w : World} {g t : Nat} {cs : Array Value} (h : w.heap[g]? = some (.cells cs t (0, 0))) : w.frozen? ⟨g, 0, none⟩ = false ∧ w.frozen? ⟨g, 1, none⟩ = false ∧ w.frozen? ⟨g, 2, none⟩ = false :=
 ⟨frozen_of_row _ _ _ _ _ h, frozen_of_row _ _ _ _ _ h, frozen_of_row _ _ _ _ _ h⟩
/-- append(s.disks, d). -/
theorem wpList_append_d {ops : Array Oper} {rest : List Oper} {o : Oper} {a : Act} {w : World} {R : Exit → Act → World → Prop} (hgd : o.guard = none) (s x : Operand)
    (ho : o.op = .call { callee := .builtin .append, args := #[s, x], argTypes := #[39, 39] })
    (base : Nat) (v : Value) (X : List (Value × Value)) (hs : a.eval s = v) (hown : OwnQ base w v X) (g t : Nat) (P Q : Option Addr) (n cp k cq : Nat) (fr : Nat × Nat)
    (hx : a.eval x = .slice (some ⟨g, 0, none⟩) 1 1) (hg : w.heap[g]? = some (.cells #[.slice P n cp, .slice Q k cq] t fr)) (hl : X.length ≤ 1000000) (hbase : base ≤ w.heap.size)
    (h : ∀ v' w', OwnQ base w' v' (X ++ [(.slice P n cp, .slice Q k cq)]) → w.grownBy w' v.ownBlock → wpList Try.prog ops R rest (a.put o.dst v') w') : wpList Try.prog ops R (o :: rest) a w := by
  obtain ⟨i0, hi, hz0, hz1, hz2⟩ := info_parts infoDq
  refine wpList_append_own w hgd s x _ ho base 25 i0 _ 2 48 Try.underlying39 hi hz0 hz1 hz2 rfl (by decide) v _ _ hs hown ⟨g, 0, none⟩ 1 1 (dqC (.slice P n cp, .slice Q k cq)) hx rfl (fun j u hj => ?_) (fun u hu => ?_) (by unfold maxLen; omega) (by omega) hbase fun v' w' h1 h2 _ => ?_
  · have : (⟨g, 0, none⟩ : Addr).add j = ⟨g, j, none⟩ := by unfold Addr.add; split <;> simp_all
    rw [this, cell_of_row w g j _ t fr hg, ← hj]
    simp [dqC]
  · simp only [dqC, List.mem_cons, List.not_mem_nil, or_false] at hu
    rcases hu with rfl | rfl <;> rfl
  · refine h v' w' ?_ h2
    unfold OwnQ OwnG
    rw [List.length_append, cvs_snoc]
    exact h1
structure SqB (wA : World) (vb : Option Nat) (g : Nat) (p q V W : Value) (X : List (Value × Value)) (u : World) : Prop where
 box : u.heap[g]? = some (.cells #[p, q, V] 105 (0, 0))
 own : OwnQ (g + 1) u W X
 sz : wA.heap.size ≤ u.heap.size
 fr : ∀ w0 : World, w0.heap.size ≤ g → Calm w0 wA → Calm w0 u
 ot : ∀ k, k < wA.heap.size → k ≠ g → vb ≠ some k → u.heap[k]? = wA.heap[k]?
theorem SqB.calm {wA u u' : World} {vb : Option Nat} {g : Nat} {p q V W : Value} {X : List (Value × Value)} (h : SqB wA vb g p q V W X u) (hb : Calm u u') : SqB wA vb g p q V W X u' :=
 ⟨(hb.block (row3S h.box).2.2.2).trans h.box, OwnG.calm h.own hb, Nat.le_trans h.sz hb.size, fun w0 h0 hc => (h.fr w0 h0 hc).call hb, fun k h1 h2 h3 => (hb.block (Nat.lt_of_lt_of_le h1 h.sz)).trans (h.ot k h1 h2 h3)⟩
def AddS (wA : World) (g : Nat) (P Q : Option Addr) (n cp k cq : Nat) (V : Value) (X : List (Value × Value)) : Nat → (Nat → Value) → World → Prop
 | 0, _, u => SqB wA V.ownBlock g (.slice P n cp) (.slice Q k cq) V V X u
 | 1, Y, u => (∃ gl, Y 6 = .slice (some ⟨gl, 0, none⟩) 1 1 ∧ u.heap[gl]? = some (.cells #[.slice P n cp, .slice Q k cq] 25 (0, 0))) ∧ SqB wA V.ownBlock g (.slice P n cp) (.slice Q k cq) V V X u
 | 2, Y, u => SqB wA V.ownBlock g (.slice P n cp) (.slice Q k cq) V (Y 7) (X ++ [(.slice P n cp, .slice Q k cq)]) u
 |_, Y, u => SqB wA V.ownBlock g (.slice P n cp) (.slice Q k cq) (Y 7) (Y 7) (X ++ [(.slice P n cp, .slice Q k cq)]) u
section
variable {wA u : World} {g : Nat} {P Q : Option Addr} {n cp k cq : Nat} {V : Value} {X : List (Value × Value)} {Y : Nat → Value}
theorem AddS.calm : ∀ (m : Nat) (Y : Nat → Value) (u u' : World), AddS wA g P Q n cp k cq V X m Y u → Calm u u' → AddS wA g P Q n cp k cq V X m Y u'
 | 0, _, _, _, h, hb => SqB.calm h hb
 | 1, _, _, _, ⟨⟨gl, a, b⟩, h⟩, hb => ⟨⟨gl, a, (hb.block (Array.getElem?_eq_some_iff.1 b).1).trans b⟩, h.calm hb⟩
 | 2, _, _, _, h, hb => SqB.calm h hb
 |_ + 3, _, _, _, h, hb => SqB.calm h hb
theorem AddS.any : ∀ {m : Nat}, AddS wA g P Q n cp k cq V X m Y u → ∃ V' W X', SqB wA V.ownBlock g (.slice P n cp) (.slice Q k cq) V' W X' u
 | 0, h => ⟨_, _, _, h⟩
 | 1, h => ⟨_, _, _, h.2⟩
 | 2, h => ⟨_, _, _, h⟩
 |_ + 3, h => ⟨_, _, _, h⟩
theorem AddS.two : ∀ {m : Nat}, m ≤ 1 → AddS wA g P Q n cp k cq V X m Y u → SqB wA V.ownBlock g (.slice P n cp) (.slice Q k cq) V V X u
 | 0, _, h => h
 | 1, _, h => h.2
end
def SqEnd (g : Nat) (p q : Value) (vb : Option Nat) (X : List (Value × Value)) (w : World) (e : Ending) (w' : World) : Prop := e = .returned (.tuple #[]) ∧ ∃ V', SqB w vb g p q V' V' X w'
set_option maxHeartbeats 8000000 in
theorem sqAdd_any {w : World} {g : Nat} {a0 a1 V : Value} {X : List (Value × Value)} (hb : w.heap[g]? = some (.cells #[a0, a1, V] 105 (0, 0))) (ho : OwnQ (g + 1) w V X) (hl : X.length ≤ 1000) (P Q : Option Addr) (n cp k cq : Nat) :
    Calls Try.prog 97 #[.pointer (some ⟨g, 0, none⟩), .agg #[.slice P n cp, .slice Q k cq]] w (SqEnd g (.slice P n cp) (.slice Q k cq) V.ownBlock (X ++ [(.slice P n cp, .slice Q k cq)]) w) := by
  have hgl := (row3S hb).2.2.2
  obtain ⟨AV, cV, rfl, -, -⟩ := OwnG.slice ho
  have hVk := Lib.hid fun k hk => (OwnG.lt ho k hk).2
  have hbox := heap_past (.cells #[.slice P n cp, .slice Q k cq] 25) hb
  have hy := heap_new w (.cells #[.slice P n cp, .slice Q k cq] 25)
  have HO := Lib.hid (OwnG.calm ho ((Calm.refl w).alloc (.cells #[.slice P n cp, .slice Q k cq] 25)))
  have hsz : (w.alloc (.cells #[.slice P n cp, .slice Q k cq] 25)).heap.size = w.heap.size + 1 := by simp
  have HE : Hid (∀ V' u, SqB (w.alloc (.cells #[.slice P n cp, .slice Q k cq] 25)) (.slice AV X.length cV : Value).ownBlock g (.slice P n cp) (.slice Q k cq) V' V' (X ++ [(.slice P n cp, .slice Q k cq)]) u → SqEnd g (.slice P n cp) (.slice Q k cq) (.slice AV X.length cV : Value).ownBlock (X ++ [(.slice P n cp, .slice Q k cq)]) w (.returned (.tuple #[])) u) := show ∀ _ _, _ from fun V' u h =>
    ⟨rfl, V', h.box, h.own, Nat.le_trans (by rw [hsz]; omega) h.sz, fun w0 h0 hc => h.fr w0 h0 (hc.alloc _), fun k h1 h2 h3 => (h.ot k (by rw [hsz]; omega) h2 h3).trans (((Calm.refl w).alloc _).block h1)⟩
  generalize SqEnd g (.slice P n cp) (.slice Q k cq) (.slice AV X.length cV : Value).ownBlock (X ++ [(.slice P n cp, .slice Q k cq)]) w = PE at HE ⊢
  clear ho hb
  go_enter Try.func97, Try.ntmps97
  go_upto_region 1 with fail
  generalize w.alloc (.cells #[.slice P n cp, .slice Q k cq] 25) = w1 at hbox hy HO hsz HE ⊢
  obtain ⟨b0, b1, b2, hbs⟩ := row3S hbox
  obtain ⟨f0, f1, f2⟩ := free3S hbox
  obtain ⟨y0, y1, hys⟩ := rowD hy
  go_upto_region 2 with fail
  have H2 := Lib.hid (show SqB w1 (.slice AV X.length cV : Value).ownBlock g (.slice P n cp) (.slice Q k cq) (.slice AV X.length cV) (.slice AV X.length cV) X ((w1.setCell ⟨g, 0, none⟩ (.slice P n cp)).setCell ⟨g, 1, none⟩ (.slice Q k cq)) from
    ⟨by have h1 := heap_setCell_same w1 g 0 _ _ (.slice P n cp) hbox; exact heap_setCell_same _ g 1 _ _ (.slice Q k cq) h1, rowsG_set (rowsG_set HO.out (Nat.lt_succ_self g) 0 _) (Nat.lt_succ_self g) 1 _, by simp, fun w0 h0 hc => (hc.setCell (p := ⟨g, 0, none⟩) h0 _).setCell (p := ⟨g, 1, none⟩) h0 _, fun k h1 h2 h3 => (heap_setCell_other _ ⟨g, 1, none⟩ k _ h2).trans (heap_setCell_other _ ⟨g, 0, none⟩ k _ h2)⟩)
  clear b0 b1 b2 hbs f0 f1 f2 y0 y1 hys HO hbox
  generalize (w1.setCell ⟨g, 0, none⟩ (.slice P n cp)).setCell ⟨g, 1, none⟩ (.slice Q k cq) = w2 at H2 ⊢
  have HY : Hid (∀ u : World, (∃ V' W X', SqB w1 (.slice AV X.length cV : Value).ownBlock g (.slice P n cp) (.slice Q k cq) V' W X' u) → u.heap[w.heap.size]? = some (.cells #[.slice P n cp, .slice Q k cq] 25 (0, 0))) := show ∀ _, _ from fun u ⟨V', W, X', h⟩ =>
    (h.ot w.heap.size (by omega) (by omega) (fun e => absurd (hVk.out _ e) (Nat.lt_irrefl _))).trans hy
  clear hy
  refine wp_region_stages [.val (.pointer (some ⟨g, 0, none⟩)), .val (.pointer (some ⟨g, 0, none⟩)), .val (.pointer (some ⟨g, 0, none⟩)), .val (.pointer (some ⟨g, 2, none⟩)), .val (.slice AV X.length cV) [10], .val (.agg #[.slice P n cp, .slice Q k cq]), .late, .late [6], .val (.pointer (some ⟨g, 0, none⟩)), .val (.pointer (some ⟨g, 2, none⟩)), .late [7]] [6, 7, 10]
    (ChainS 3 (AddS w1 g P Q n cp k cq (.slice AV X.length cV) X)) (by kernel_rfl) (by kernel_rfl) (by kernel_rfl) (ChainS.stay AddS.calm)
    (fun Y => ChainS.start (late := [6, 7, 10]) (AddS.calm 0 _ _ _ H2.out ((Calm.refl _).drew))) (fun Y => ?_)
  refine planS_val (by kernel_rfl) (fun L u hb hS => ?_) ?_
  · clear hS hb
    go_simp
  simp only [Act.put, List.setIfInBounds_toArray, List.set_cons_zero, List.set_cons_succ, Nat.reduceAdd]
  refine planS_val (by kernel_rfl) (fun L u hb hS => ?_) ?_
  · clear hS hb
    go_simp
  simp only [Act.put, List.setIfInBounds_toArray, List.set_cons_zero, List.set_cons_succ, Nat.reduceAdd]
  refine planS_val (by kernel_rfl) (fun L u hb hS => ?_) ?_
  · clear hS hb
    go_simp
  simp only [Act.put, List.setIfInBounds_toArray, List.set_cons_zero, List.set_cons_succ, Nat.reduceAdd]
  refine planS_val (by kernel_rfl) (fun L u hb hS => ?_) ?_
  · clear hS hb
    go_simp
  simp only [Act.put, List.setIfInBounds_toArray, List.set_cons_zero, List.set_cons_succ, Nat.reduceAdd]
  refine planS_val (by kernel_rfl) (fun L u hb hS => ?_) ?_
  · obtain ⟨m, hm, hA⟩ := ChainS.upto (late := [6, 7, 10]) (m := 2) hS rfl (hb 10 (by simp))
    have hA2 : ∃ W X', SqB w1 (.slice AV X.length cV : Value).ownBlock g (.slice P n cp) (.slice Q k cq) (.slice AV X.length cV) W X' u := by
      rcases (by omega : m ≤ 1 ∨ m = 2) with h | h
      · exact ⟨_, _, AddS.two h hA⟩
      · subst h; exact ⟨_, _, hA⟩
    obtain ⟨W, X', hA3⟩ := hA2
    obtain ⟨b0, b1, b2, hbs⟩ := row3S hA3.box
    clear hS hA hb hA3
    go_simp
  simp only [Act.put, List.setIfInBounds_toArray, List.set_cons_zero, List.set_cons_succ, Nat.reduceAdd]
  refine planS_val (by kernel_rfl) (fun L u hb hS => ?_) ?_
  · obtain ⟨m, hm, hA⟩ := ChainS.any (late := [6, 7, 10]) hS
    obtain ⟨y0, y1, hys⟩ := rowD (HY.out _ (AddS.any hA))
    clear hS hA hb
    go_simp
  simp only [Act.put, List.setIfInBounds_toArray, List.set_cons_zero, List.set_cons_succ, Nat.reduceAdd]
  refine planS_late (fun L u hi hb hS => ?_) ?_
  · obtain ⟨hA, hn⟩ := ChainS.step (late := [6, 7, 10]) (m := 0) hS rfl hi (fun j h0 h => by exact absurd h0 (Nat.lt_irrefl _)) (by decide)
    clear hS hb hi
    have HA := Lib.hid hA
    clear hA
    go_wp2_with fail
    exact hn _ _ ⟨⟨_, rfl, heap_new _ _⟩, SqB.calm HA.out ((Calm.refl _).alloc _)⟩
  simp only [Act.put, List.setIfInBounds_toArray, List.set_cons_zero, List.set_cons_succ, Nat.reduceAdd]
  refine planS_late (fun L u hi hb hS => ?_) ?_
  · obtain ⟨hA, hn⟩ := ChainS.step (late := [6, 7, 10]) (m := 1) hS rfl hi (fun j _ h => by cases h; exact hb 6 (by simp)) (by decide)
    clear hS hb hi
    obtain ⟨⟨gl, hy6, hgl6⟩, h1⟩ := hA
    rw [hy6]
    refine wpList_append_d rfl _ _ rfl (g + 1) _ _ rfl h1.own _ _ _ _ _ _ _ _ _ rfl hgl6 (by omega) (row3S h1.box).2.2.2 ?_
    intro v9 w9 ho9 hg9
    have hne : ∀ b, (.slice AV X.length cV : Value).ownBlock = some b → g + 1 ≤ b ∧ b < u.heap.size := fun b hb => OwnG.lt h1.own b hb
    refine ⟨rfl, v9, rfl, hn v9 w9 ⟨(hg9.block g (row3S h1.box).2.2.2 (fun e => by have := (hne g e.symm).1; omega)).trans h1.box, by simpa [updV] using ho9, Nat.le_trans h1.sz hg9.size, fun w0 h0 hc => Calm.grownG (h1.fr w0 h0 hc) (by omega) h1.own hg9, fun b hb1 hb2 hb3 => (hg9.block b (Nat.lt_of_lt_of_le hb1 h1.sz) (fun e => hb3 e.symm)).trans (h1.ot b hb1 hb2 hb3)⟩⟩
  simp only [Act.put, List.setIfInBounds_toArray, List.set_cons_zero, List.set_cons_succ, Nat.reduceAdd]
  refine planS_val (by kernel_rfl) (fun L u hb hS => ?_) ?_
  · clear hS hb
    go_simp
  simp only [Act.put, List.setIfInBounds_toArray, List.set_cons_zero, List.set_cons_succ, Nat.reduceAdd]
  refine planS_val (by kernel_rfl) (fun L u hb hS => ?_) ?_
  · clear hS hb
    go_simp
  simp only [Act.put, List.setIfInBounds_toArray, List.set_cons_zero, List.set_cons_succ, Nat.reduceAdd]
  refine planS_late (fun L u hi hb hS => ?_) ?_
  · obtain ⟨hA, hn⟩ := ChainS.step (late := [6, 7, 10]) (m := 2) hS rfl hi (fun j _ h => by cases h; exact hb 7 (by simp)) (by decide)
    clear hS hb hi
    have hA : SqB _ _ _ _ _ _ _ _ _ := hA
    obtain ⟨A9, c9, hy⟩ : ∃ A c, Y 7 = .slice A (X ++ [((.slice P n cp : Value), (.slice Q k cq : Value))]).length c := by obtain ⟨A, c, h, -, -⟩ := OwnG.slice hA.own; exact ⟨_, _, h⟩
    obtain ⟨N9, hN9⟩ : ∃ N, N = (X ++ [((.slice P n cp : Value), (.slice Q k cq : Value))]).length := ⟨_, rfl⟩
    rw [← hN9] at hy
    have hn9 := hn undef (u.setCell ⟨g, 2, none⟩ (Y 7)) ⟨by have := heap_setCell_same u g 2 _ _ (Y 7) hA.box; simpa [updV] using this, by have := rowsG_set hA.own (Nat.lt_succ_self g) 2 (Y 7); simpa [updV, OwnQ] using this, by have := hA.sz; simpa using this, fun w0 h0 hc => (hA.fr w0 h0 hc).setCell (p := ⟨g, 2, none⟩) h0 _, fun b hb1 hb2 hb3 => (heap_setCell_other u ⟨g, 2, none⟩ b _ hb2).trans (hA.ot b hb1 hb2 hb3)⟩
    obtain ⟨b0, b1, b2, hbs⟩ := row3S hA.box
    obtain ⟨f0, f1, f2⟩ := free3S hA.box
    rw [hy]
    rw [hy] at hn9
    clear hn hA hy hN9
    go_wp2_with fail
    exact ⟨undef, hn9⟩
  simp only [Act.put, Nat.reduceAdd]
  refine planS_end ?_
  intro w' hS
  have hA := ChainS.done (late := [6, 7, 10]) hS
  have hA : SqB _ _ _ _ _ _ _ _ _ := hA
  have HF := Lib.hid hA
  clear hS hA
  go_wp2_with fail
  go_end0
  exact HE.out _ _ HF.out
open Go.RowKit
theorem OwnG.other_ {α β : Type} {cv : α → List Value} {cv' : β → List Value} {N N' B B' : Nat} {t t' : TypeId} {w : World} {v v' : Value} {l : List α} {l' : List β} (ht : t ≠ t') (h : OwnG t cv N B w v l) (h' : OwnG t' cv' N' B' w v' l') {k : Nat} (e : v.ownBlock = some k) : v'.ownBlock ≠ some k := fun e' => by
 rcases h.2 with ⟨rfl, _⟩ | ⟨g, cap, cur, rfl, _, hg, _⟩
 ·cases e
 rcases h'.2 with ⟨rfl, _⟩ | ⟨g', cap', cur', rfl, _, hg', _⟩
 ·cases e'
 have e1 : g = k := by cases e; rfl
 have e2 : g' = k := by cases e'; rfl
 subst e1; subst e2
 rw [hg] at hg'
 injection hg' with h1
 injection h1 with h2 h3 h4
 exact ht h3
def AllD (B : Nat) (w : World) (X : List (Value × Value)) (D : List Dc) : Prop := ∃ lo : Nat → Nat, B ≤ lo 0 ∧ (∀ i, lo i ≤ lo (i + 1)) ∧ lo X.length ≤ w.heap.size ∧ X.length = D.length ∧
 ∀ (i : Nat) (x : Value × Value) (d : Dc), X[i]? = some x → D[i]? = some d → ∃ P cp Q cq, x = (.slice P d.1.length cp, .slice Q d.2.length cq) ∧ DkO (lo i) w P Q cp cq d.1 d.2 ∧ ∀ k, (x.1.ownBlock = some k ∨ x.2.ownBlock = some k) → k < lo (i + 1)
theorem AllD.nil (B : Nat) (w : World) (h : B ≤ w.heap.size) : AllD B w [] [] := ⟨fun _ => B, Nat.le_refl _, fun _ => Nat.le_refl _, h, rfl, fun i x d h => by simp at h⟩
theorem lo_mono {lo : Nat → Nat} (h : ∀ i, lo i ≤ lo (i + 1)) : ∀ {i j : Nat}, i ≤ j → lo i ≤ lo j := fun {i j} hij => by
 induction hij with
 |refl => exact Nat.le_refl _
 |step _ ih => exact Nat.le_trans ih (h _)
theorem DkO.same {B : Nat} {w w' : World} {P Q : Option Addr} {cp cq : Nat} {l : List ByteArray} {m : List Wr} (h : DkO B w P Q cp cq l m) (hp : ∀ k, (.slice P l.length cp : Value).ownBlock = some k → w'.heap[k]? = w.heap[k]?) (hq : ∀ k, (.slice Q m.length cq : Value).ownBlock = some k → w'.heap[k]? = w.heap[k]?) : DkO B w' P Q cp cq l m := ⟨OwnG.same h.p hp, OwnG.same h.q hq⟩
theorem AllD.same {B : Nat} {w w' : World} {X : List (Value × Value)} {D : List Dc} (h : AllD B w X D) (hs : w.heap.size ≤ w'.heap.size) (hk : ∀ (i : Nat) (x : Value × Value) (d : Dc), X[i]? = some x → D[i]? = some d → ∀ P cp Q cq B', x = (.slice P d.1.length cp, .slice Q d.2.length cq) → B ≤ B' → DkO B' w P Q cp cq d.1 d.2 → (∀ k, (.slice P d.1.length cp : Value).ownBlock = some k → w'.heap[k]? = w.heap[k]?) ∧ ∀ k, (.slice Q d.2.length cq : Value).ownBlock = some k → w'.heap[k]? = w.heap[k]?) : AllD B w' X D := by
 obtain ⟨lo, h0, h1, h2, h3, h4⟩ := h
 refine ⟨lo, h0, h1, Nat.le_trans h2 hs, h3, fun i x d hx hd => ?_⟩
 obtain ⟨P, cp, Q, cq, e, ho, hb⟩ := h4 i x d hx hd
 obtain ⟨a, b⟩ := hk i x d hx hd P cp Q cq (lo i) e (Nat.le_trans h0 (lo_mono h1 (Nat.zero_le _))) ho
 exact ⟨P, cp, Q, cq, e, ho.same a b, hb⟩
theorem AllD.calm {B : Nat} {w w' : World} {X : List (Value × Value)} {D : List Dc} (h : AllD B w X D) (hb : Calm w w') : AllD B w' X D :=
 h.same hb.size fun _ _ _ _ _ _ _ _ _ _ _ _ ho => ⟨fun k hk => hb.block (OwnG.lt ho.p k hk).2, fun k hk => hb.block (OwnG.lt ho.q k hk).2⟩
theorem AllD.snoc {B b : Nat} {w w0 : World} {X : List (Value × Value)} {D : List Dc} {P Q : Option Addr} {cp cq : Nat} {l : List ByteArray} {m : List Wr} (h : AllD B w0 X D) (hu : Calm w0 w) (hb : w0.heap.size = b) (ho : DkO b w P Q cp cq l m) : AllD B w (X ++ [(.slice P l.length cp, .slice Q m.length cq)]) (D ++ [(l, m)]) := by
 obtain ⟨lo, h0, h1, h2, h3, h4⟩ := h
 rw [hb] at h2
 have hbw : b ≤ w.heap.size := hb ▸ hu.size
 have hm := @lo_mono lo h1
 refine ⟨fun i => if i < X.length then lo i else if i = X.length then b else w.heap.size, ?_, fun i => ?_, ?_, by simp [h3], fun i x d hx hd => ?_⟩
 ·show B ≤ if 0 < X.length then lo 0 else _
  split
  ·exact h0
  ·rw [if_pos (by omega)]
   have : X.length = 0 := by omega
   rw [this] at h2; omega
 ·show (if i < X.length then lo i else if i = X.length then b else w.heap.size) ≤ if i + 1 < X.length then lo (i + 1) else if i + 1 = X.length then b else w.heap.size
  by_cases a : i + 1 < X.length
  ·rw [if_pos (by omega), if_pos a]; exact h1 i
  ·rw [if_neg a]
   by_cases c : i + 1 = X.length
   ·rw [if_pos (by omega), if_pos c]
    have := hm (show i ≤ X.length by omega); omega
   ·rw [if_neg c, if_neg (by omega)]
    split <;> omega
 ·show (if (X ++ _).length < X.length then _ else _) ≤ _
  rw [List.length_append, if_neg (by simp), if_neg (by simp)]
  exact Nat.le_refl _
 ·by_cases hi : i < X.length
  ·rw [List.getElem?_append_left hi] at hx
   rw [List.getElem?_append_left (by omega)] at hd
   obtain ⟨P, cp, Q, cq, e, ho, hk⟩ := h4 i x d hx hd
   refine ⟨P, cp, Q, cq, e, by show DkO (if i < X.length then lo i else _) w P Q cp cq d.1 d.2; rw [if_pos hi]; exact ho.calm hu, fun k hk' => ?_⟩
   have h5 := hk k hk'
   show k < if i + 1 < X.length then lo (i + 1) else if i + 1 = X.length then b else w.heap.size
   by_cases a : i + 1 < X.length
   ·rw [if_pos a]; exact h5
   ·rw [if_neg a, if_pos (by omega)]
    have := hm (show i + 1 ≤ X.length by omega); omega
  ·have hi2 : i = X.length := by
    have := (List.getElem?_eq_some_iff.1 hx).1
    simp at this; omega
   subst hi2
   rw [List.getElem?_append_right (Nat.le_refl _), Nat.sub_self] at hx
   rw [h3, List.getElem?_append_right (Nat.le_refl _), Nat.sub_self] at hd
   simp at hx hd
   subst hx; subst hd
   refine ⟨P, cp, Q, cq, rfl, by show DkO (if X.length < X.length then _ else if X.length = X.length then b else _) w P Q cp cq l m; rw [if_neg (Nat.lt_irrefl _), if_pos rfl]; exact ho, fun k hk => ?_⟩
   show k < if X.length + 1 < X.length then _ else _
   rw [if_neg (by omega), if_neg (by omega)]
   rcases hk with hk | hk
   ·exact (OwnG.lt ho.p k hk).2
   ·exact (OwnG.lt ho.q k hk).2
def SqS (w : World) (g : Nat) (l : List ByteArray) (m : List Wr) (D : List Dc) : Prop := ∃ P cp Q cq V X, w.heap[g]? = some (.cells #[.slice P l.length cp, .slice Q m.length cq, V] 105 (0, 0)) ∧ HasD w P Q l m ∧ OwnQ (g + 1) w V X ∧ AllD (g + 1) w X D
def SqT (g : Nat) (l : List ByteArray) (m : List Wr) (D : List Dc) (w : World) (e : Ending) (w' : World) : Prop := e = .returned (.tuple #[]) ∧ SqS w' g l m D ∧ ∀ w0 : World, w0.heap.size ≤ g → Calm w0 w → Calm w0 w'
theorem SqS.calm {w w' : World} {g : Nat} {l : List ByteArray} {m : List Wr} {D : List Dc} (h : SqS w g l m D) (hb : Calm w w') : SqS w' g l m D := by
 obtain ⟨P, cp, Q, cq, V, X, h1, h2, h3, h4⟩ := h
 exact ⟨P, cp, Q, cq, V, X, (hb.block (row3S h1).2.2.2).trans h1, h2.calm hb, OwnG.calm h3 hb, h4.calm hb⟩
/-- A disk was made and added. -/
theorem sq_close {w w1 w2 : World} {g : Nat} {P Q : Option Addr} {cp cq : Nat} {l : List ByteArray} {m : List Wr} {V V' : Value} {X : List (Value × Value)} {D : List Dc} (h3 : OwnQ (g + 1) w V X) (h4 : AllD (g + 1) w X D) (hu : Calm w w1) (ho : DkO w.heap.size w1 P Q cp cq l m)
    (hg : g < w.heap.size) (hS : SqB w1 V.ownBlock g (.slice P l.length cp) (.slice Q m.length cq) V' V' (X ++ [(.slice P l.length cp, .slice Q m.length cq)]) w2) : SqT g l m (D ++ [(l, m)]) w (.returned (.tuple #[])) w2 := by
  have hV := OwnG.calm h3 hu
  have h6 : AllD (g + 1) w1 (X ++ [(.slice P l.length cp, .slice Q m.length cq)]) (D ++ [(l, m)]) := h4.snoc hu rfl ho
  have h7 : AllD (g + 1) w2 (X ++ [(.slice P l.length cp, .slice Q m.length cq)]) (D ++ [(l, m)]) := h6.same hS.sz fun _ _ _ _ _ _ _ _ _ _ _ hB ho' =>
    ⟨fun k hk => hS.ot k (OwnG.lt ho'.p k hk).2 (by have := (OwnG.lt ho'.p k hk).1; omega) (OwnG.other_ (by decide) ho'.p hV hk), fun k hk => hS.ot k (OwnG.lt ho'.q k hk).2 (by have := (OwnG.lt ho'.q k hk).1; omega) (OwnG.other_ (by decide) ho'.q hV hk)⟩
  have h8 : DkO w.heap.size w2 P Q cp cq l m := ho.same (fun k hk => hS.ot k (OwnG.lt ho.p k hk).2 (by have := (OwnG.lt ho.p k hk).1; omega) (OwnG.other_ (by decide) ho.p hV hk)) (fun k hk => hS.ot k (OwnG.lt ho.q k hk).2 (by have := (OwnG.lt ho.q k hk).1; omega) (OwnG.other_ (by decide) ho.q hV hk))
  exact ⟨rfl, ⟨P, cp, Q, cq, V', _, hS.box, h8.has, hS.own, h7⟩, fun w0 h0 hc => hS.fr w0 h0 (hc.call hu)⟩
set_option maxHeartbeats 8000000 in
theorem sqSync_any {w : World} {g : Nat} {l : List ByteArray} {m : List Wr} {D : List Dc} (h : SqS w g l m D) (hz : dkErr l m = 0) (hD : D.length ≤ 1000) : Calls Try.prog 66 #[.pointer (some ⟨g, 0, none⟩)] w (SqT g (curP l m) [] (D ++ [(curP l m, [])]) w) := by
 obtain ⟨P, cp, Q, cq, V, X, h1, h2, h3, h4⟩ := h
 have hXl : X.length ≤ 1000 := by obtain ⟨_, _, _, _, e, _⟩ := h4; omega
 obtain ⟨b0, b1, b2, hbs⟩ := row3S h1
 have cS := Lib.hid (h2.sync_ok cp cq hz)
 have HE : Hid (∀ w1 w2 P cp Q cq V', Calm w w1 → DkO w.heap.size w1 P Q cp cq (curP l m) [] → SqB w1 V.ownBlock g (.slice P (curP l m).length cp) (.slice Q ([] : List Wr).length cq) V' V' (X ++ [(.slice P (curP l m).length cp, .slice Q ([] : List Wr).length cq)]) w2 → SqT g (curP l m) [] (D ++ [(curP l m, [])]) w (.returned (.tuple #[])) w2) := show ∀ _ _ _ _ _ _ _, _ from fun w1 w2 P cp Q cq V' a b c => sq_close h3 h4 a b hbs c
 generalize SqT g (curP l m) [] (D ++ [(curP l m, [])]) w = PE at HE ⊢
 have H1 := Lib.hid h1
 have H3 := Lib.hid h3
 clear hz h4 h2 hD h1 h3
 generalize (curP l m) = L at cS HE
 go_enter Try.func66, Try.ntmps66
 go_wp2_with (first
  |(go_at_call 21; refine cS.out.mono ?_; rintro e w1 ⟨P', cp', Q', cq', rfl, ho, hu⟩; have HO := Lib.hid ho; clear ho b0 b1 b2)
  |(go_at_call 97; refine (sqAdd_any ((((hu.alloc _).block hbs).trans H1.out)) (OwnG.calm H3.out (hu.alloc _)) hXl _ _ _ _ _ _).mono ?_; rintro e w2 ⟨rfl, V', hS⟩; have HS := Lib.hid hS; clear hS))
 go_end0
 exact HE.out _ _ _ _ _ _ _ (hu.alloc _) (HO.out.calm ((Calm.refl _).alloc _)) HS.out
set_option maxHeartbeats 8000000 in
theorem sqPut_any {w : World} {g : Nat} {l : List ByteArray} {m : List Wr} {D : List Dc} (h : SqS w g l m D) {i : Int} {s : ByteArray} (hz : ptE l m ⟨i, s⟩ = 0) (hD : D.length ≤ 1000) : Calls Try.prog 67 #[.pointer (some ⟨g, 0, none⟩), .int .i64 i, .string s] w (SqT g l (m ++ [(⟨i, s⟩ : Wr)]) (D ++ [(l, m ++ [(⟨i, s⟩ : Wr)])]) w) := by
 obtain ⟨P, cp, Q, cq, V, X, h1, h2, h3, h4⟩ := h
 have hXl : X.length ≤ 1000 := by obtain ⟨_, _, _, _, e, _⟩ := h4; omega
 obtain ⟨b0, b1, b2, hbs⟩ := row3S h1
 have cS := Lib.hid (h2.put_ok cp cq hz)
 have HE : Hid (∀ w1 w2 P cp Q cq V', Calm w w1 → DkO w.heap.size w1 P Q cp cq l (m ++ [(⟨i, s⟩ : Wr)]) → SqB w1 V.ownBlock g (.slice P l.length cp) (.slice Q (m ++ [(⟨i, s⟩ : Wr)]).length cq) V' V' (X ++ [(.slice P l.length cp, .slice Q (m ++ [(⟨i, s⟩ : Wr)]).length cq)]) w2 → SqT g l (m ++ [(⟨i, s⟩ : Wr)]) (D ++ [(l, m ++ [(⟨i, s⟩ : Wr)])]) w (.returned (.tuple #[])) w2) := show ∀ _ _ _ _ _ _ _, _ from fun w1 w2 P cp Q cq V' a b c => sq_close h3 h4 a b hbs c
 generalize SqT g l (m ++ [(⟨i, s⟩ : Wr)]) (D ++ [(l, m ++ [(⟨i, s⟩ : Wr)])]) w = PE at HE ⊢
 have H1 := Lib.hid h1
 have H3 := Lib.hid h3
 clear hz h4 h2 hD h1 h3
 generalize (m ++ [(⟨i, s⟩ : Wr)]) = M at cS HE
 go_enter Try.func67, Try.ntmps67
 go_wp2_with (first
  |(go_at_call 29; refine cS.out.mono ?_; rintro e w1 ⟨P', cp', Q', cq', rfl, ho, hu⟩; have HO := Lib.hid ho; clear ho b0 b1 b2)
  |(go_at_call 97; refine (sqAdd_any ((((hu.alloc _).block hbs).trans H1.out)) (OwnG.calm H3.out (hu.alloc _)) hXl _ _ _ _ _ _).mono ?_; rintro e w2 ⟨rfl, V', hS⟩; have HS := Lib.hid hS; clear hS))
 go_end0
 exact HE.out _ _ _ _ _ _ _ (hu.alloc _) (HO.out.calm ((Calm.refl _).alloc _)) HS.out
open Go.RowKit
def rvOk (T : ByteArray) (q : Nat) : Prop := bdOk T.data.toList 9 2 ∧ q < num ((gB T.data.toList).data.toList.take 4)
def rvP (T : ByteArray) : Nat := num (part (gB T.data.toList).data.toList 4 4)
def rvIs (T : ByteArray) (q : Nat) : Prop := num ((gB T.data.toList).data.toList.take 4) = q + 1 ∧ 1 ≤ rvP T ∧ rvP T ≤ 100
def rvT (T : ByteArray) : ByteArray := (gB T.data.toList).extract 8 (gB T.data.toList).size
open Classical in
noncomputable def rvL (q i : Nat) (T : ByteArray) (L : List ByteArray) : List ByteArray := if rvOk T q then (if rvIs T q then (L.set i { data := #[] }).set (rvP T) (rvT T) else L.set i { data := #[] }) else L
theorem rvL_no {q i : Nat} {T : ByteArray} {L : List ByteArray} (h : ¬ rvOk T q) : rvL q i T L = L := by unfold rvL; rw [if_neg h]
theorem rvL_one {q i : Nat} {T : ByteArray} {L : List ByteArray} (h : rvOk T q) (h2 : ¬ rvIs T q) : rvL q i T L = L.set i { data := #[] } := by unfold rvL; rw [if_pos h, if_neg h2]
theorem rvL_two {q i : Nat} {T : ByteArray} {L : List ByteArray} (h : rvOk T q) (h2 : rvIs T q) : rvL q i T L = (L.set i { data := #[] }).set (rvP T) (rvT T) := by unfold rvL; rw [if_pos h, if_pos h2]
theorem rvL_len (q i : Nat) (T : ByteArray) (L : List ByteArray) : (rvL q i T L).length = L.length := by
 by_cases h : rvOk T q
 ·by_cases h2 : rvIs T q
  ·rw [rvL_two h h2, List.length_set, List.length_set]
  ·rw [rvL_one h h2, List.length_set]
 ·rw [rvL_no h]
def RvEnd (B g n c : Nat) (L : List ByteArray) (w : World) (e : Ending) (w' : World) : Prop := e = .returned (.tuple #[]) ∧ OwnP B w' (.slice (some ⟨g, 0, none⟩) n c) L ∧ (∀ w0 : World, w0.heap.size ≤ g → Calm w0 w → Calm w0 w') ∧ (∀ k, k < w.heap.size → k ≠ g → w'.heap[k]? = w.heap[k]?)
theorem isData_any (n : Int) (w : World) : Calls Try.prog 95 #[.int .i64 n] w fun e w' => e = .returned (.bool (decide (1 ≤ n) && decide (n ≤ 100))) ∧ Calm w w' := by
 by_cases h0 : 1 ≤ n
 ·rw [decide_eq_true h0]
  by_cases h1 : n ≤ 100
  ·rw [decide_eq_true h1]
   go_enter Try.func95, Try.ntmps95
   go_wp2_with fail
   go_ret
   exact ⟨rfl, Calm.refl _⟩
  ·rw [decide_eq_false h1]
   go_enter Try.func95, Try.ntmps95
   go_wp2_with fail
   go_ret
   exact ⟨rfl, Calm.refl _⟩
 ·rw [decide_eq_false h0]
  go_enter Try.func95, Try.ntmps95
  go_wp2_with fail
  go_ret
  exact ⟨rfl, Calm.refl _⟩
theorem rv_cell {B g n c : Nat} {w : World} {L : List ByteArray} (h : OwnP B w (.slice (some ⟨g, 0, none⟩) n c) L) {i : Nat} {T : ByteArray} (hi : L[i]? = some T) : w.cell? ⟨g, i, none⟩ = some (.string T) := by
 obtain ⟨hlt, rfl⟩ := List.getElem?_eq_some_iff.1 hi
 have := (OwnG.cell stC_len h hlt).1 0 (by omega)
 rw [Nat.mul_one, Nat.add_zero] at this
 exact this
theorem rv_set {B g n c : Nat} {w : World} {L : List ByteArray} (h : OwnP B w (.slice (some ⟨g, 0, none⟩) n c) L) {i : Nat} (hi : i < L.length) (T : ByteArray) : OwnP B (w.setCell ⟨g, i, none⟩ (.string T)) (.slice (some ⟨g, 0, none⟩) n c) (L.set i T) := by
 have := OwnG.set stC_len (i := i) (j := 0) (u := .string T) (x := T) h hi (by omega) rfl
 rw [Nat.mul_one, Nat.add_zero] at this
 exact this
set_option maxHeartbeats 4000000 in
theorem revert_any {B g n c : Nat} {L : List ByteArray} {i q : Nat} {T : ByteArray} {w : World} (ho : OwnP B w (.slice (some ⟨g, 0, none⟩) n c) L) (hl : L.length = n) (hi : L[i]? = some T) (hn : 101 ≤ n) (hq : q ≤ 2147483647) : Calls Try.prog 61 #[.slice (some ⟨g, 0, none⟩) n c, .int .i64 (i : Int), .int .i64 (q : Int)] w (RvEnd B g n c (rvL q i T L) w) := by
 have hil : i < n := by rw [← hl]; exact (List.getElem?_eq_some_iff.1 hi).1
 have hil' : (i : Int) < (n : Int) := by omega
 have hq' : (q : Int) ≤ 2147483647 := by omega
 have hgs := (OwnG.lt ho g rfl).2
 have HO := Lib.hid ho
 have c0 := rv_cell ho hi
 by_cases hb : bdOk T.data.toList 9 2
 rotate_left
 ·have cB := fun u => body_no T 9 2 (by omega) u hb
  rw [rvL_no (fun h => hb h.1)]
  have HE : Hid (∀ w', Calm w w' → RvEnd B g n c L w (.returned (.tuple #[])) w') := show ∀ _, _ from fun w' hk => ⟨rfl, HO.out.calm hk, fun _ _ h => h.call hk, fun k hk1 _ => hk.block hk1⟩
  generalize RvEnd B g n c L w = PE at HE ⊢
  clear ho hb hi hl hq hn hil
  go_enter Try.func61, Try.ntmps61
  go_wp2_with (go_at_call 55; refine (cB _).mono ?_; rintro e w1 ⟨rfl, hk⟩)
  go_end0
  exact HE.out _ hk
 have cB := fun u => body_ok T 9 2 (by omega) u hb
 have h8 : 8 ≤ (gB T.data.toList).size := by have := hb.2.2; omega
 have cD := fun u => decode_any (gB T.data.toList) u (by omega)
 by_cases hgt : q < num ((gB T.data.toList).data.toList.take 4)
 rotate_left
 ·rw [rvL_no (fun h => hgt h.2)]
  have HE : Hid (∀ w', Calm w w' → RvEnd B g n c L w (.returned (.tuple #[])) w') := show ∀ _, _ from fun w' hk => ⟨rfl, HO.out.calm hk, fun _ _ h => h.call hk, fun k hk1 _ => hk.block hk1⟩
  generalize RvEnd B g n c L w = PE at HE ⊢
  generalize gB T.data.toList = D at cB cD hgt
  generalize num (D.data.toList.take 4) = H at cD hgt
  have hgt' : (H : Int) ≤ (q : Int) := by omega
  clear ho hb hi hl hq hn hil hgt h8
  go_enter Try.func61, Try.ntmps61
  go_wp2_with (first
   |(go_at_call 55; refine (cB _).mono ?_; rintro e w1 ⟨rfl, hk⟩)
   |(go_at_call 56; refine (cD _).mono ?_; rintro e w2 ⟨rfl, hk2⟩; replace hk := hk.call hk2; clear hk2))
  go_end0
  exact HE.out _ hk
 have hO := show rvOk T q from ⟨hb, hgt⟩
 have cE := fun u => decode_any ((gB T.data.toList).extract 4 (gB T.data.toList).size) u (by rw [ByteArray.size_extract]; omega)
 have hP : num (((gB T.data.toList).extract 4 (gB T.data.toList).size).data.toList.take 4) = rvP T := by
  rw [part_extract]
  unfold rvP part
  rw [List.take_take, Nat.min_eq_left (by omega)]
 rw [hP] at cE
 have HL : Hid (rvIs T q → rvL q i T L = (L.set i { data := #[] }).set (rvP T) ((gB T.data.toList).extract 8 (gB T.data.toList).size)) := show _ → _ from fun h => rvL_two hO h
 have HM : Hid (¬ rvIs T q → rvL q i T L = L.set i { data := #[] }) := show _ → _ from fun h => rvL_one hO h
 have HI : Hid (rvIs T q ↔ num ((gB T.data.toList).data.toList.take 4) = q + 1 ∧ 1 ≤ rvP T ∧ rvP T ≤ 100) := show _ ↔ _ from Iff.rfl
 have HE : Hid (∀ w', OwnP B w' (.slice (some ⟨g, 0, none⟩) n c) (rvL q i T L) → (∀ w0 : World, w0.heap.size ≤ g → Calm w0 w → Calm w0 w') → (∀ k, k < w.heap.size → k ≠ g → w'.heap[k]? = w.heap[k]?) → RvEnd B g n c (rvL q i T L) w (.returned (.tuple #[])) w') := show ∀ _, _ from fun w' h1 h2 h3 => ⟨rfl, h1, h2, h3⟩
 generalize RvEnd B g n c (rvL q i T L) w = PE at HE ⊢
 generalize rvL q i T L = LL at HL HM HE
 clear hO hP hb ho
 generalize rvIs T q = IS at HL HM HI
 generalize rvP T = p at cE HL HI
 generalize gB T.data.toList = D at cB cD cE HL HI hgt h8
 generalize num (D.data.toList.take 4) = H at cD HI hgt
 have hgt' : (q : Int) < (H : Int) := by omega
 have h8' : (8 : Int) ≤ (D.size : Int) := by omega
 clear hgt h8
 go_enter Try.func61, Try.ntmps61
 go_upto_region 2 with (first
   |(go_at_call 55; refine (cB _).mono ?_; rintro e w1 ⟨rfl, hk⟩)
   |(go_at_call 56; refine (cD _).mono ?_; rintro e w2 ⟨rfl, hk2⟩; replace hk := hk.call hk2; clear hk2))
 have HO2 := Lib.hid (HO.out.calm hk)
 have c2 := rv_cell HO2.out hi
 have f2 := OwnG.frozen HO2.out i
 clear c0
 go_upto_region 3 with fail
 have HO3 := Lib.hid (rv_set HO2.out (i := i) (by omega) { data := #[] })
 have HC : Hid (∀ w0 : World, w0.heap.size ≤ g → Calm w0 w → Calm w0 (w2.setCell ⟨g, i, none⟩ (.string { data := #[] }))) := show ∀ _, _ from fun w0 h0 h => (h.call hk).setCell (p := ⟨g, i, none⟩) h0 _
 have HK : Hid (∀ k, k < w.heap.size → k ≠ g → (w2.setCell ⟨g, i, none⟩ (.string { data := #[] })).heap[k]? = w.heap[k]?) := show ∀ _, _ from fun k h1 h2 => (heap_setCell_other _ ⟨g, i, none⟩ k _ h2).trans (hk.block h1)
 have HG : Hid (w.heap.size ≤ (w2.setCell ⟨g, i, none⟩ (.string { data := #[] })).heap.size) := show _ ≤ _ from by have := hk.size; simpa using this
 clear c2 f2 hk HO2
 generalize w2.setCell ⟨g, i, none⟩ (.string { data := #[] }) = w3 at HO3 HC HK HG ⊢
 have hll : (L.set i { data := #[] }).length = n := by rw [List.length_set, hl]
 clear hi hl
 generalize L.set i { data := #[] } = L3 at HO3 HL HM hll
 by_cases h1 : H = q + 1
 rotate_left
 ·have e1 : ((H : Int) == (q : Int) + 1) = false := by rw [beq_eq_false_iff_ne]; omega
  have HL2 := Lib.hid (HM.out fun h => h1 (HI.out.1 h).1)
  clear h1 HL HM HI hll
  go_wp2_with (go_at_call 56; first | (with_reducible refine (cD _).mono ?_; rintro e w4 ⟨rfl, hk⟩; replace hk3 := hk3.call hk; clear hk) | (with_reducible refine (cE _).mono ?_; rintro e w5 ⟨rfl, hk3⟩))
  go_end0
  refine HE.out _ ?_ (fun w0 h0 h => (HC.out w0 h0 h).call hk3) (fun k h1 h2 => (hk3.block (Nat.lt_of_lt_of_le h1 HG.out)).trans (HK.out k h1 h2))
  rw [HL2.out]; exact HO3.out.calm hk3
 by_cases h2 : 1 ≤ p ∧ p ≤ 100
 rotate_left
 ·have e1 : ((H : Int) == (q : Int) + 1) = true := by rw [beq_iff_eq]; omega
  have HL2 := Lib.hid (HM.out fun h => h2 (HI.out.1 h).2)
  have cI := fun u => isData_any (p : Int) u
  rw [show (decide (1 ≤ (p : Int)) && decide ((p : Int) ≤ 100)) = false by rw [Bool.and_eq_false_iff, decide_eq_false_iff_not, decide_eq_false_iff_not]; omega] at cI
  clear h1 h2 HL HM HI hll
  go_wp2_with (first
   |(go_at_call 56; first | (with_reducible refine (cD _).mono ?_; rintro e w4 ⟨rfl, hk⟩; replace hk3 := hk3.call hk; clear hk) | (with_reducible refine (cE _).mono ?_; rintro e w5 ⟨rfl, hk3⟩))
   |(go_at_call 95; refine (cI _).mono ?_; rintro e w6 ⟨rfl, hk⟩; replace hk3 := hk3.call hk; clear hk))
  go_end0
  refine HE.out _ ?_ (fun w0 h0 h => (HC.out w0 h0 h).call hk3) (fun k h1 h2 => (hk3.block (Nat.lt_of_lt_of_le h1 HG.out)).trans (HK.out k h1 h2))
  rw [HL2.out]; exact HO3.out.calm hk3
 ·have e1 : ((H : Int) == (q : Int) + 1) = true := by rw [beq_iff_eq]; omega
  have HL2 := Lib.hid (HL.out (HI.out.2 ⟨h1, h2⟩))
  have cI := fun u => isData_any (p : Int) u
  rw [show (decide (1 ≤ (p : Int)) && decide ((p : Int) ≤ 100)) = true by rw [Bool.and_eq_true, decide_eq_true_iff, decide_eq_true_iff]; omega] at cI
  have hp' : (p : Int) < (n : Int) := by omega
  have hp : p < L3.length := by omega
  clear h1 h2 HL HM HI
  go_upto_region 5 with (first
   |(go_at_call 56; first | (with_reducible refine (cD _).mono ?_; rintro e w4 ⟨rfl, hk⟩; replace hk3 := hk3.call hk; clear hk) | (with_reducible refine (cE _).mono ?_; rintro e w5 ⟨rfl, hk3⟩))
   |(go_at_call 95; refine (cI _).mono ?_; rintro e w6 ⟨rfl, hk⟩; replace hk3 := hk3.call hk; clear hk))
  have HO6 := Lib.hid (HO3.out.calm hk3)
  have c6 := rv_cell HO6.out (List.getElem?_eq_getElem hp)
  have f6 := OwnG.frozen HO6.out p
  go_wp2_with fail
  go_end0
  refine HE.out _ ?_ (fun w0 h0 h => ((HC.out w0 h0 h).call hk3).setCell (p := ⟨g, p, none⟩) h0 _) (fun k h1 h2 => (heap_setCell_other _ ⟨g, p, none⟩ k _ h2).trans ((hk3.block (Nat.lt_of_lt_of_le h1 HG.out)).trans (HK.out k h1 h2)))
  rw [HL2.out]; exact rv_set HO6.out hp _
open Go.RowKit
theorem rec_put {B C s : ByteArray} (hB : B.size = 4) (hC : C.size = 4) (hs : s.size ≤ 2900) (w : World) : FPutEnd 9 (B ++ C ++ s) w = fun e w' => e = .returned (.tuple #[.string (frS 9 (B ++ C ++ s)), .int .i64 0]) ∧ Calm w w' := by
 unfold FPutEnd
 have : frErr 9 (B ++ C ++ s).size = 0 := by unfold frErr; rw [ByteArray.size_append, ByteArray.size_append, if_neg (by omega), if_neg (by omega)]
 rw [this]
set_option maxHeartbeats 4000000 in
theorem record_any {P Q : Option Addr} {l : List ByteArray} {m : List Wr} {w : World} (h : HasD w P Q l m) (cp cq : Nat) (hz : dkErr l m = 0) {N pg : Nat} (hN : N < 4294967296) (hp : pg ≤ 100) {x old : ByteArray} (hk : l[pg]? = some x) (hr : rdL pg m x = old) (ho : old.size ≤ 2900) :
    Calls Try.prog 68 #[.agg #[.slice P l.length cp, .slice Q m.length cq], .int .i64 (N : Int), .int .i64 (pg : Int)] w fun e w' => e = .returned (.string (frS 9 ((⟨(be 4 N).toArray⟩ : ByteArray) ++ ⟨(be 4 pg).toArray⟩ ++ old))) ∧ Calm w w' := by
  have hu := (Calm.refl w).alloc (.cells #[.slice P l.length cp, .slice Q m.length cq] 25)
  have hx := heap_new w (.cells #[.slice P l.length cp, .slice Q m.length cq] 25)
  have cR := fun u (hu : Calm w u) => (h.calm hu).rd cp cq hz hk
  rw [hr] at cR
  have cE := fun u => encode_any N hN u
  have cG := fun u => encode_any pg (by omega) u
  have cF := fun u => framePut_any 9 ((⟨(be 4 N).toArray⟩ : ByteArray) ++ ⟨(be 4 pg).toArray⟩ ++ old) u
  simp only [rec_put (bytes_size _ |>.trans (be_length _ _)) (bytes_size _ |>.trans (be_length _ _)) ho] at cF
  obtain ⟨x0, x1, hxs⟩ := rowD hx
  have hB : (⟨(be 4 N).toArray⟩ : ByteArray).size = 4 := by rw [bytes_size, be_length]
  have hC : (⟨(be 4 pg).toArray⟩ : ByteArray).size = 4 := by rw [bytes_size, be_length]
  generalize (⟨(be 4 N).toArray⟩ : ByteArray) = B at cE cF hB ⊢
  generalize (⟨(be 4 pg).toArray⟩ : ByteArray) = C at cG cF hC ⊢
  generalize frS 9 (B ++ C ++ old) = R at cF ⊢
  clear h hz hN hk hr hp
  go_enter Try.func68, Try.ntmps68
  go_wp2_with (first
    | (go_at_call 54; refine (cR _ hu).mono ?_; rintro e w1 ⟨rfl, hk⟩; replace hu := hu.call hk; clear hk)
    | (go_at_call 49; (with_reducible refine (cE _).mono ?_); rintro e w2 ⟨rfl, hk⟩; replace hu := hu.call hk; clear hk)
    | (go_at_call 49; (with_reducible refine (cG _).mono ?_); rintro e w3 ⟨rfl, hk⟩; replace hu := hu.call hk; clear hk)
    | (go_at_call 48; (with_reducible refine (cF _).mono ?_); rintro e w4 ⟨rfl, hk⟩; replace hu := hu.call hk; clear hk))
  go_ret
  exact ⟨rfl, hu⟩
def Seen (S : List Value) (pre : List Wr) : Prop := S.length = 101 ∧ ∀ i : Nat, i ≤ 100 → S[i]? = some (.bool (pre.any fun y => decide (y.i = (i : Int))))
theorem Seen.set {S : List Value} {pre : List Wr} (h : Seen S pre) {pg : Nat} {s : ByteArray} (hp : pg ≤ 100) : Seen (S.set pg (.bool true)) (pre ++ [⟨(pg : Int), s⟩]) := by
 refine ⟨by rw [List.length_set]; exact h.1, fun i hi => ?_⟩
 rw [List.getElem?_set, List.any_append]
 by_cases e : pg = i
 ·subst e
  rw [if_pos rfl, if_pos (by rw [h.1]; omega)]
  simp
 ·rw [if_neg e, h.2 i hi]
  have : decide ((pg : Int) = (i : Int)) = false := decide_eq_false (by omega)
  simp [this]
set_option maxHeartbeats 8000000 in
theorem checkWrites_any (A : Option Addr) (c : Nat) (ws : List Wr) (w : World) (hL : LiesW w A ws) (hl : ws.length ≤ 1000) : Calls Try.prog 96 #[.slice A ws.length c] w fun e w' => e = .returned (.int .i64 (gwsE [] ws)) ∧ Calm w w' := by
 obtain ⟨R, hR⟩ : ∃ R, gwsE [] ws = R := ⟨_, rfl⟩
 rw [hR]
 have HR : Hid (gwsE (ws.take 0) (ws.drop 0) = R) := hR
 clear hR
 have hZ : Hid (Try.zeroCells145 = (List.replicate 101 (Value.bool false)).toArray) := show _ = _ from by kernel_rfl
 have hx := heap_new w (.cells Try.zeroCells145 145)
 have hu := (Calm.refl w).alloc (.cells Try.zeroCells145 145)
 have hS0 : Seen (List.replicate 101 (Value.bool false)) (ws.take 0) := ⟨List.length_replicate, fun i hi => by rw [List.getElem?_replicate, if_pos (by omega)]; simp⟩
 go_enter Try.func96, Try.ntmps96
 go_upto_region 2 with fail
 generalize w.alloc (.cells Try.zeroCells145 145) = w1 at hx hu ⊢
 rw [hZ.out] at hx
 clear hZ
 have hg := (Array.getElem?_eq_some_iff.1 hx).1
 have hgw : Hid (w.heap.size ≤ w.heap.size) := Nat.le_refl _
 have HX := Lib.hid (⟨_, hx, hS0⟩ : ∃ S : List Value, w1.heap[w.heap.size]? = some (.cells S.toArray 145 (0, 0)) ∧ Seen S (ws.take 0))
 clear hx hS0
 generalize hg0 : w.heap.size = g at HX hgw hg ⊢
 have HG0 := Lib.hid hg0
 clear hg0
 go_upto_region 3 with fail
 go_loopw [8] (fun i wr => ∃ k : Nat, k ≤ ws.length ∧ i = .int .i64 k ∧ Calm w wr ∧ g < wr.heap.size ∧ gwsE (ws.take k) (ws.drop k) = R ∧ ∃ S : List Value, wr.heap[g]? = some (.cells S.toArray 145 (0, 0)) ∧ Seen S (ws.take k)) (fun i _ => ws.length - (intOf i).toNat)
 case atStart => exact ⟨0, Nat.zero_le _, rfl, hu, hg, HR.out, HX.out⟩
 case round =>
  obtain ⟨k, hk, rfl, hc, hgr, hR, S, hS, hSe⟩ := hrel
  have HS := Lib.hid hS
  have HSE := Lib.hid hSe
  clear hS hSe HR HX
  by_cases hlt : k < ws.length
  rotate_left
  ·have e : (0 : Int) = R := by rw [← hR, List.drop_eq_nil_of_le (by omega)]; rfl
   have E := Lib.hid e
   clear e hR
   go_wp2_with fail
   go_ret
   exact ⟨ret_int E.out, hc⟩
  obtain ⟨b, q, i, s, rfl, hb, HE, c0, c1⟩ := (hL.calm hc).get hlt
  have HN : Hid (_ = R) := (gwsE_drop HE.out).symm.trans hR
  have HT : Hid (ws.take (k + 1) = ws.take k ++ [⟨i, s⟩]) := by
   show _ = _
   obtain ⟨hj, he⟩ := List.getElem?_eq_some_iff.1 HE.out
   rw [List.take_succ_eq_append_getElem hj, he]
  have hki : (k : Int) < (ws.length : Int) := by omega
  have cI := fun u => isData_any i u
  clear hR
  by_cases hp : 1 ≤ i ∧ i ≤ 100
  rotate_left
  ·have e : (1 : Int) = R := by
    have h1 : gwE (ws.take k) ⟨i, s⟩ = 1 := by unfold gwE; exact if_pos (by show i < 1 ∨ 100 < i; omega)
    have h2 := HN.out
    rw [h1] at h2
    exact h2
   have E := Lib.hid e
   rw [show (decide (1 ≤ i) && decide (i ≤ 100)) = false by rw [Bool.and_eq_false_iff, decide_eq_false_iff_not, decide_eq_false_iff_not]; omega] at cI
   clear e hp
   go_wp2_with (go_at_call 95; refine (cI _).mono ?_; rintro e w6 ⟨rfl, hk6⟩)
   go_ret
   exact ⟨ret_int E.out, (hc.alloc _).call hk6⟩
  rw [show (decide (1 ≤ i) && decide (i ≤ 100)) = true by rw [Bool.and_eq_true, decide_eq_true_iff, decide_eq_true_iff]; exact hp] at cI
  obtain ⟨pg, rfl⟩ : ∃ n : Nat, i = (n : Int) := ⟨i.toNat, by omega⟩
  by_cases hs : 2900 < s.size
  ·have e : (2 : Int) = R := by
    have h1 : gwE (ws.take k) ⟨(pg : Int), s⟩ = 2 := by unfold gwE; rw [if_neg (by show ¬ ((pg : Int) < 1 ∨ 100 < (pg : Int)); omega)]; exact if_pos hs
    have h2 := HN.out
    rw [h1] at h2
    exact h2
   have E := Lib.hid e
   have hs' : (2900 : Int) < s.size := by omega
   clear e hp hs
   have hwb := heap_new wr (.cells #[.int .i64 (pg : Int), .string s] 45)
   go_wp2_with (go_at_call 95; refine (cI _).mono ?_; rintro e w6 ⟨rfl, hk6⟩; have hw6 := (hk6.block (rowD hwb).2.2).trans hwb; obtain ⟨y0, y1, hys⟩ := rowD hw6)
   go_ret
   exact ⟨ret_int E.out, (hc.alloc _).call hk6⟩
  have hs' : (s.size : Int) ≤ 2900 := by omega
  have hp1 : pg ≤ 100 := by omega
  have hp2 : (pg : Int) < 101 := by omega
  have hat := HSE.out.2 pg hp1
  obtain ⟨bb, hbb⟩ : ∃ bb, ((ws.take k).any fun y => decide (y.i = (pg : Int))) = bb := ⟨_, rfl⟩
  rw [hbb] at hat
  have hwb := heap_new wr (.cells #[.int .i64 (pg : Int), .string s] 45)
  have HAT := Lib.hid hat
  clear hat
  cases bb with
  |true =>
   have e : (5 : Int) = R := by
    have h1 : gwE (ws.take k) ⟨(pg : Int), s⟩ = 5 := by unfold gwE; rw [if_neg (by show ¬ ((pg : Int) < 1 ∨ 100 < (pg : Int)); omega), if_neg hs]; exact if_pos hbb
    have h2 := HN.out
    rw [h1] at h2
    exact h2
   have E := Lib.hid e
   clear e hp hs hbb
   go_wp2_with (go_at_call 95; refine (cI _).mono ?_; rintro e w6 ⟨rfl, hk6⟩; have hw6 := (hk6.block (rowD hwb).2.2).trans hwb; obtain ⟨y0, y1, hys⟩ := rowD hw6; have hx6 := ((hk6.block (Nat.lt_of_lt_of_le hgr (Nat.le_of_lt (by simp)))).trans (heap_past _ HS.out)); have z0 := (cell_of_row _ _ pg _ _ _ hx6).trans (show (S.toArray)[pg]? = _ from by simpa using HAT.out); clear hx6)
   go_ret
   exact ⟨ret_int E.out, (hc.alloc _).call hk6⟩
  |false =>
   have e : gwsE (ws.take (k + 1)) (ws.drop (k + 1)) = R := by
    have h1 : gwE (ws.take k) ⟨(pg : Int), s⟩ = 0 := by unfold gwE; rw [if_neg (by show ¬ ((pg : Int) < 1 ∨ 100 < (pg : Int)); omega), if_neg hs]; exact if_neg (by rw [hbb]; simp)
    have h2 := HN.out
    rw [h1, if_pos rfl] at h2
    exact h2
   have E := Lib.hid e
   clear e hp hs hbb HN
   go_wp2_with (go_at_call 95; refine (cI _).mono ?_; rintro e w6 ⟨rfl, hk6⟩; have hw6 := (hk6.block (rowD hwb).2.2).trans hwb; obtain ⟨y0, y1, hys⟩ := rowD hw6; have hx6 := ((hk6.block (Nat.lt_of_lt_of_le hgr (Nat.le_of_lt (by simp)))).trans (heap_past _ HS.out)); have z0 := (cell_of_row _ _ pg _ _ _ hx6).trans (show (S.toArray)[pg]? = _ from by simpa using HAT.out); have f0 := frozen_of_row _ _ pg _ _ hx6; have HX6 := Lib.hid hx6; clear hx6)
   go_roundw
   case rel => exact ⟨k + 1, by omega, by go_num, ((hc.alloc _).call hk6).setCell (p := ⟨g, pg, none⟩) (Nat.le_of_eq HG0.out) _, by simpa using (Array.getElem?_eq_some_iff.1 HX6.out).1, E.out, S.set pg (.bool true), by have h7 := heap_setCell_same w6 g pg _ _ (.bool true) HX6.out; simpa using h7, by rw [HT.out]; exact HSE.out.set hp1⟩
   case measure => simp [intOf]; omega
open Go.RowKit
theorem cur_old {l : List ByteArray} {m : List Wr} (hz : dkErr l m = 0) {pg : Nat} {x : ByteArray} (hk : l[pg]? = some x) : (curP l m)[pg]? = some (rdL pg m x) := done_read rfl (dkErr_zero.1 hz).2.2.2 _ _ hk
theorem oldL_at {L : List ByteArray} {pg : Nat} {x s : ByteArray} (h : L[pg]? = some x) : oldL L ⟨(pg : Int), s⟩ = x := by
 unfold oldL
 rw [Int.toNat_natCast, List.getD_eq_getElem?_getD, h]; rfl
def ChkEnd (n E : Int) (w : World) (e : Ending) (w' : World) : Prop := e = .returned (.tuple #[.int .i64 n, .int .i64 E]) ∧ Calm w w'
section
variable {P Q A : Option Addr} {cp cq c : Nat} {l : List ByteArray} {m : List Wr} {w : World}
theorem check_bad {E : Int} (hd : ByteArray) (k : Nat) (cS : ∀ u, Calm w u → Calls Try.prog 14 #[.agg #[.slice P l.length cp, .slice Q m.length cq]] u (Sq3 0 { data := #[] } E u)) (h0 : E ≠ 0) : Calls Try.prog 65 #[.agg #[.slice P l.length cp, .slice Q m.length cq], .string hd, .slice A k c] w (ChkEnd 0 E w) := by
 have hu := (Calm.refl w).alloc (.cells #[.slice P l.length cp, .slice Q m.length cq] 25)
 have hx := heap_new w (.cells #[.slice P l.length cp, .slice Q m.length cq] 25)
 have b1 : (E != 0) = true := by rw [bne_iff_ne]; exact h0
 obtain ⟨x0, x1, hxs⟩ := rowD hx
 clear h0
 go_enter Try.func65, Try.ntmps65
 go_wp2_with (go_at_call 14; (with_reducible refine (cS _ hu).mono ?_); rintro e w1 ⟨rfl, hk⟩; replace hu := hu.call hk; clear hk)
 go_ret2
 exact ⟨rfl, hu⟩
set_option maxHeartbeats 8000000 in
theorem check_ok (hh : HasD w P Q l m) (hz : dkErr l m = 0) (hl : l.length = 201) (hd : ByteArray) (ws : List Wr) (hW : LiesW w A ws) {q : Nat} {t : ByteArray} (cS : ∀ u, Calm w u → Calls Try.prog 14 #[.agg #[.slice P l.length cp, .slice Q m.length cq]] u (Sq3 (q : Int) t 0 u)) :
    Calls Try.prog 65 #[.agg #[.slice P l.length cp, .slice Q m.length cq], .string hd, .slice A ws.length c] w (ChkEnd (if gpE q (curP l m) hd ws = 0 then (q : Int) else 0) (gpE q (curP l m) hd ws) w) := by
  obtain ⟨R, hR⟩ : ∃ R, gpE q (curP l m) hd ws = R := ⟨_, rfl⟩
  rw [hR]
  obtain ⟨RN, hRN⟩ : ∃ RN, (if R = 0 then (q : Int) else 0) = RN := ⟨_, rfl⟩
  rw [hRN]
  have hu := (Calm.refl w).alloc (.cells #[.slice P l.length cp, .slice Q m.length cq] 25)
  have hx := heap_new w (.cells #[.slice P l.length cp, .slice Q m.length cq] 25)
  obtain ⟨x0, x1, hxs⟩ := rowD hx
  unfold gpE at hR
  by_cases h1 : 2900 < hd.size
  · rw [if_pos (Or.inl h1)] at hR
    subst hR
    rw [if_neg (by decide)] at hRN
    subst hRN
    have h1' : (2900 : Int) < hd.size := by omega
    clear h1 hz hl
    go_enter Try.func65, Try.ntmps65
    go_wp2_with (go_at_call 14; (with_reducible refine (cS _ hu).mono ?_); rintro e w1 ⟨rfl, hk⟩; replace hu := hu.call hk; clear hk)
    go_ret2
    exact ⟨rfl, hu⟩
  have h1' : (hd.size : Int) ≤ 2900 := by omega
  by_cases h2 : 100 < ws.length
  · rw [if_pos (Or.inr h2)] at hR
    subst hR
    rw [if_neg (by decide)] at hRN
    subst hRN
    have h2' : (100 : Int) < ws.length := by omega
    clear h1 h2 hz hl
    go_enter Try.func65, Try.ntmps65
    go_wp2_with (go_at_call 14; (with_reducible refine (cS _ hu).mono ?_); rintro e w1 ⟨rfl, hk⟩; replace hu := hu.call hk; clear hk)
    go_ret2
    exact ⟨rfl, hu⟩
  have h2' : (ws.length : Int) ≤ 100 := by omega
  rw [if_neg (by omega)] at hR
  have cW := fun u (hu : Calm w u) => checkWrites_any A c ws u (hW.calm hu) (by omega)
  by_cases h3 : gwsE [] ws = 0
  rotate_left
  · rw [if_neg h3] at hR
    rw [hR] at cW h3
    rw [if_neg h3] at hRN
    subst hRN
    have b1 : (R != 0) = true := by rw [bne_iff_ne]; exact h3
    clear h1 h2 hz hl h3 hR
    go_enter Try.func65, Try.ntmps65
    go_wp2_with (first
      | (go_at_call 14; (with_reducible refine (cS _ hu).mono ?_); rintro e w1 ⟨rfl, hk⟩; replace hu := hu.call hk; clear hk)
      | (go_at_call 96; (with_reducible refine (cW _ hu).mono ?_); rintro e w2 ⟨rfl, hk⟩; replace hu := hu.call hk; clear hk))
    go_ret2
    exact ⟨rfl, hu⟩
  have hG := gw_ok h3
  rw [if_pos h3] at hR
  rw [h3] at cW
  have HR := Lib.hid hR
  have HRN := Lib.hid hRN
  have HG := Lib.hid hG
  have HZ := Lib.hid hz
  have HL := Lib.hid hl
  clear h1 h2 h3 hR hRN hG hz hl
  go_enter Try.func65, Try.ntmps65
  go_upto_region 9 with (first
      | (go_at_call 14; (with_reducible refine (cS _ hu).mono ?_); rintro e w1 ⟨rfl, hk⟩; replace hx := (hk.block hxs).trans hx; replace hu := hu.call hk; clear hk x0 x1 hxs; obtain ⟨x0, x1, hxs⟩ := rowD hx)
      | (go_at_call 96; (with_reducible refine (cW _ hu).mono ?_); rintro e w2 ⟨rfl, hk⟩; replace hx := (hk.block hxs).trans hx; replace hu := hu.call hk; clear hk x0 x1 hxs; obtain ⟨x0, x1, hxs⟩ := rowD hx))
  have hn0 : Hid (∀ x ∈ ws.take 0, (oldL (curP l m) x).size ≤ 2900) := show ∀ _, _ from fun x hx => by simp at hx
  have HX := Lib.hid hx
  clear cW x0 x1 hxs hx
  go_upto_region 10 with fail
  go_loopw [40] (fun i wr => ∃ k : Nat, k ≤ ws.length ∧ i = .int .i64 k ∧ Calm w wr ∧ wr.heap[w.heap.size]? = some (.cells #[.slice P l.length cp, .slice Q m.length cq] 25 (0, 0)) ∧ Hid (∀ x ∈ ws.take k, (oldL (curP l m) x).size ≤ 2900)) (fun i _ => ws.length - (intOf i).toNat)
  case atStart => exact ⟨0, Nat.zero_le _, rfl, hu, HX.out, hn0⟩
  case round =>
    obtain ⟨k, hk, rfl, hc, hx, hN⟩ := hrel
    clear HX hn0
    obtain ⟨x0, x1, hxs⟩ := rowD hx
    by_cases hlt : k < ws.length
    rotate_left
    · have HR2 : Hid ((if q = 2147483647 then (8 : Int) else 0) = R) := by
        show _ = _
        have h1 := HR.out
        rw [if_neg] at h1
        · exact h1
        · intro h2
          obtain ⟨y, hy, h3⟩ := List.any_eq_true.1 h2
          have h4 := of_decide_eq_true h3
          have h5 := hN.out y (by rw [List.take_of_length_le (by omega)]; exact hy)
          omega
      by_cases hq1 : q = 2147483647
      · have HE : Hid ((8 : Int) = R) := by show _ = _; rw [← HR2.out, if_pos hq1]
        have HE2 : Hid ((0 : Int) = RN) := by show _ = _; rw [← HRN.out, if_neg (by rw [← HE.out]; decide)]
        have b1 : ((q : Int) == 2147483647) = true := by rw [beq_iff_eq]; omega
        clear hq1 HR2
        have e1 := HE.out
        subst e1
        have e2 := HE2.out
        subst e2
        go_wp2_with fail
        go_ret2
        exact ⟨rfl, hc⟩
      · have HE : Hid ((0 : Int) = R) := by show _ = _; rw [← HR2.out, if_neg hq1]
        have HE2 : Hid ((q : Int) = RN) := by show _ = _; rw [← HRN.out, if_pos HE.out.symm]
        have b1 : ((q : Int) == 2147483647) = false := by rw [beq_eq_false_iff_ne]; omega
        clear hq1 HR2
        have e1 := HE.out
        subst e1
        have e2 := HE2.out
        subst e2
        go_wp2_with fail
        go_ret2
        exact ⟨rfl, hc⟩
    obtain ⟨b, p0, i, s, rfl, hb, HE, c0, c1⟩ := (hW.calm hc).get hlt
    have hki : (k : Int) < (ws.length : Int) := by omega
    have hi := HG.out.r _ (List.mem_of_getElem? HE.out)
    obtain ⟨pg, rfl⟩ : ∃ n : Nat, i = (n : Int) := ⟨i.toNat, by have : 1 ≤ i := hi.1; omega⟩
    have hp1 : pg ≤ 100 := by have : (pg : Int) ≤ 100 := hi.2.1; omega
    obtain ⟨x, hxp⟩ : ∃ x, l[pg]? = some x := ⟨_, List.getElem?_eq_getElem (by rw [HL.out]; omega)⟩
    have cR := fun u (hu : Calm w u) => (hh.calm hu).rd cp cq HZ.out hxp
    have HO : Hid (oldL (curP l m) ⟨(pg : Int), s⟩ = rdL pg m x) := oldL_at (cur_old HZ.out hxp)
    clear hi
    generalize rdL pg m x = old at cR HO
    by_cases hs : 2900 < old.size
    · have HE1 : Hid ((2 : Int) = R) := by
        show _ = _
        rw [← HR.out, if_pos]
        exact List.any_eq_true.2 ⟨_, List.mem_of_getElem? HE.out, decide_eq_true (by rw [HO.out]; exact hs)⟩
      have HE2 : Hid ((0 : Int) = RN) := by show _ = _; rw [← HRN.out, if_neg (by rw [← HE1.out]; decide)]
      have hs' : (2900 : Int) < old.size := by omega
      clear hs
      have e1 := HE1.out
      subst e1
      have e2 := HE2.out
      subst e2
      go_wp2_with (go_at_call 54; refine (cR _ (hc.alloc _)).mono ?_; rintro e w6 ⟨rfl, hk6⟩)
      go_ret2
      exact ⟨rfl, (hc.alloc _).call hk6⟩
    · have hs' : (old.size : Int) ≤ 2900 := by omega
      have HN : Hid (∀ x ∈ ws.take (k + 1), (oldL (curP l m) x).size ≤ 2900) := show ∀ _, _ from fun y hy => by
        obtain ⟨hj, he⟩ := List.getElem?_eq_some_iff.1 HE.out
        rw [List.take_succ_eq_append_getElem hj, he, List.mem_append, List.mem_singleton] at hy
        rcases hy with hy | rfl
        · exact hN.out y hy
        · rw [HO.out]; omega
      clear hs
      go_wp2_with (go_at_call 54; refine (cR _ (hc.alloc _)).mono ?_; rintro e w6 ⟨rfl, hk6⟩)
      go_roundw
      case rel => exact ⟨k + 1, by omega, by go_num, (hc.alloc _).call hk6, (hk6.block (Nat.lt_of_lt_of_le hxs (by simp))).trans (heap_past _ hx), HN⟩
      case measure => simp [intOf]; omega
end
open Go.RowKit
theorem frS_size {k : Int} {s : ByteArray} (h1 : 1 ≤ k) (h2 : k ≤ 255) (hs : s.size ≤ 3000) : (frS k s).size = 5 + s.size := by
 have e : frErr k s.size = 0 := by unfold frErr; rw [if_neg (by omega), if_neg (by omega)]
 unfold frS
 rw [if_pos e, bytes_size, encF_length]
 simp
structure GpC (q : Nat) (P0 : List ByteArray) (hd : ByteArray) (ws : List Wr) : Prop where
 l0 : P0.length = 201
 d0 : dkErr P0 [] = 0
 g : GwOk ws
 o : ∀ x ∈ ws, (oldL P0 x).size ≤ 2900
 n : ws.length ≤ 100
 h : hd.size ≤ 2900
 q : q ≤ 2147483646
theorem gp_ok {q : Nat} {l : List ByteArray} {m : List Wr} {hd : ByteArray} {ws : List Wr} (hz : dkErr l m = 0) (hl : l.length = 201) (hq : q ≤ 2147483647) (h : gpE q (curP l m) hd ws = 0) : GpC q (curP l m) hd ws := by
 obtain ⟨h1, h2, h3, h4, h5⟩ := gpE_zero h
 exact ⟨by unfold curP; rw [doneL_len]; exact hl, done_err _ hz, gw_ok h3, h4, h2, h1, by omega⟩
theorem dk_puts {L : List ByteArray} {M : List Wr} (h : dkErr L [] = 0) (hM : M.length ≤ 400) (hx : ∀ x ∈ M, wrE L.length x = 0) : dkErr L M = 0 := by
 obtain ⟨h1, -, h3, -⟩ := dkErr_zero.1 h
 exact dkErr_zero.2 ⟨h1, hM, h3, hx⟩
theorem pt_ok {L : List ByteArray} {M : List Wr} {x : Wr} (h : dkErr L M = 0) (hM : M.length < 400) (hx : wrE L.length x = 0) : ptE L M x = 0 := by
 unfold ptE
 rw [if_pos h, if_pos hx, if_neg (by omega)]
section
variable {q : Nat} {P0 : List ByteArray} {hd : ByteArray} {ws : List Wr} (G : GpC q P0 hd ws)
include G
theorem GpC.rec1 {k : Nat} {x : Wr} (h : ws[k]? = some x) : wrE P0.length (recW q P0 k x) = 0 := by
 have hk := (List.getElem?_eq_some_iff.1 h).1
 have ho := G.o x (List.mem_of_getElem? h)
 have hn := G.n
 refine wrE_zero.2 ⟨?_, ?_, ?_⟩
 ·show (0 : Int) ≤ ((101 + k : Nat) : Int); omega
 ·show ((101 + k : Nat) : Int) < _; rw [G.l0]; omega
 ·show (frS 9 _).size ≤ 3500
  rw [frS_size (by decide) (by decide) (by rw [ByteArray.size_append, ByteArray.size_append, bytes_size, bytes_size, be_length, be_length]; omega), ByteArray.size_append, ByteArray.size_append, bytes_size, bytes_size, be_length, be_length]
  omega
theorem GpC.recs1 : ∀ y ∈ recsW q P0 ws, wrE P0.length y = 0 := fun y hy => by
 obtain ⟨k, hk⟩ := List.getElem?_of_mem hy
 have hkl : k < ws.length := by have := (List.getElem?_eq_some_iff.1 hk).1; rwa [recs_len] at this
 rw [recs_at (List.getElem?_eq_getElem hkl)] at hk
 injection hk with hk
 subst hk
 exact G.rec1 (List.getElem?_eq_getElem hkl)
theorem GpC.dk1 (k : Nat) : dkErr P0 ((recsW q P0 ws).take k) = 0 :=
 dk_puts G.d0 (by rw [List.length_take, recs_len]; have := G.n; omega) fun x hx => G.recs1 x (List.mem_of_mem_take hx)
theorem GpC.pt1 {k : Nat} {x : Wr} (h : ws[k]? = some x) : ptE P0 ((recsW q P0 ws).take k) (recW q P0 k x) = 0 :=
 pt_ok (G.dk1 k) (by rw [List.length_take, recs_len]; have := G.n; omega) (G.rec1 h)
theorem GpC.dkr : dkErr P0 (recsW q P0 ws) = 0 := by have := G.dk1 ws.length; rwa [List.take_of_length_le (by rw [recs_len]; exact Nat.le_refl _)] at this
theorem GpC.l1 : (curP P0 (recsW q P0 ws)).length = 201 := by unfold curP; rw [doneL_len]; exact G.l0
theorem GpC.d1 : dkErr (curP P0 (recsW q P0 ws)) [] = 0 := done_err _ G.dkr
theorem GpC.ws2 {L : List ByteArray} (hL : L.length = 201) : ∀ x ∈ ws, wrE L.length x = 0 := fun x hx => by
 obtain ⟨h1, h2, h3⟩ := G.g.r x hx
 exact wrE_zero.2 ⟨by omega, by rw [hL]; omega, by omega⟩
theorem GpC.dk2 (k : Nat) : dkErr (curP P0 (recsW q P0 ws)) (ws.take k) = 0 :=
 dk_puts G.d1 (by rw [List.length_take]; have := G.n; omega) fun x hx => G.ws2 G.l1 x (List.mem_of_mem_take hx)
theorem GpC.pt2 {k : Nat} {x : Wr} (h : ws[k]? = some x) : ptE (curP P0 (recsW q P0 ws)) (ws.take k) x = 0 :=
 pt_ok (G.dk2 k) (by rw [List.length_take]; have := G.n; omega) (G.ws2 G.l1 x (List.mem_of_getElem? h))
theorem GpC.dkw : dkErr (curP P0 (recsW q P0 ws)) ws = 0 := by have := G.dk2 ws.length; rwa [List.take_of_length_le (Nat.le_refl _)] at this
theorem GpC.l2 : (curP (curP P0 (recsW q P0 ws)) ws).length = 201 := by unfold curP; rw [doneL_len, doneL_len]; exact G.l0
theorem GpC.d2 : dkErr (curP (curP P0 (recsW q P0 ws)) ws) [] = 0 := done_err _ G.dkw
theorem GpC.hd0 : hdE ((q + 1 : Nat) : Int) hd.size = 0 := by
 have := G.q; have := G.h
 unfold hdE
 rw [if_neg (by omega), if_neg (by omega)]
theorem GpC.hdS_ : hdS ((q + 1 : Nat) : Int) hd = frS 8 ((⟨(be 4 (q + 1)).toArray⟩ : ByteArray) ++ hd) := by
 unfold hdS
 rw [if_pos G.hd0, Int.toNat_natCast]
theorem GpC.hd3 {L : List ByteArray} (hL : L.length = 201) : wrE L.length (headW q hd) = 0 := by
 refine wrE_zero.2 ⟨Int.le_refl 0, ?_, ?_⟩
 ·show (0 : Int) < _; rw [hL]; decide
 ·show (hdS ((q + 1 : Nat) : Int) hd).size ≤ 3500
  have := G.h
  rw [G.hdS_, frS_size (by decide) (by decide) (by rw [ByteArray.size_append, bytes_size, be_length]; omega), ByteArray.size_append, bytes_size, be_length]
  omega
theorem GpC.pt3 : ptE (curP (curP P0 (recsW q P0 ws)) ws) [] (headW q hd) = 0 := pt_ok G.d2 (by simp) (G.hd3 G.l2)
theorem GpC.dk3 : dkErr (curP (curP P0 (recsW q P0 ws)) ws) [headW q hd] = 0 := dk_puts G.d2 (by simp) fun x hx => by
 rw [List.mem_singleton] at hx; subst hx; exact G.hd3 G.l2
end
theorem rd1_ {q : Nat} {P0 : List ByteArray} {ws : List Wr} {k pg : Nat} (hp : pg ≤ 100) (x : ByteArray) : rdL pg ((recsW q P0 ws).take k) x = x := rdL_none fun y hy => by
 have hy := List.mem_of_mem_take hy
 obtain ⟨j, hj⟩ := List.getElem?_of_mem hy
 have hjl : j < ws.length := by have := (List.getElem?_eq_some_iff.1 hj).1; rwa [recs_len] at this
 rw [recs_at (List.getElem?_eq_getElem hjl)] at hj
 injection hj with hj
 subst hj
 show ((101 + j : Nat) : Int) ≠ (pg : Int)
 omega
def w1L (l : List ByteArray) (m : List Wr) (q : Nat) (ws : List Wr) (k : Nat) : List Dc := walkD (l, m) (none :: ((recsW q (curP l m) ws).take k).map some)
def w2L (l : List ByteArray) (m : List Wr) (q : Nat) (ws : List Wr) (k : Nat) : List Dc := walkD (l, m) ((none :: (recsW q (curP l m) ws).map some) ++ [none] ++ (ws.take k).map some)
theorem last1 (l : List ByteArray) (m : List Wr) (M : List Wr) : lastD (l, m) (none :: M.map some) = (curP l m, M) := by
 show lastD (act none (l, m)) (M.map some) = _
 rw [last_puts]; rfl
theorem last2 (l : List ByteArray) (m M M' : List Wr) : lastD (l, m) ((none :: M.map some) ++ [none] ++ M'.map some) = (curP (curP l m) M, M') := by
 rw [last_app, last_snoc, last1, last_puts]; rfl
theorem w1_next {l : List ByteArray} {m : List Wr} {q : Nat} {ws : List Wr} {k : Nat} {x : Wr} (h : ws[k]? = some x) : w1L l m q ws (k + 1) = w1L l m q ws k ++ [(curP l m, (recsW q (curP l m) ws).take k ++ [recW q (curP l m) k x])] := by
 unfold w1L
 rw [recs_next h, List.map_append, ← List.cons_append, List.map_singleton, walk_snoc, last1]; rfl
theorem w1_len (l : List ByteArray) (m : List Wr) (q : Nat) (ws : List Wr) (k : Nat) : (w1L l m q ws k).length ≤ k + 1 := by
 unfold w1L
 rw [walk_len, List.length_cons, List.length_map, List.length_take]; omega
theorem recs_all (q : Nat) (P0 : List ByteArray) (ws : List Wr) : (recsW q P0 ws).take ws.length = recsW q P0 ws := List.take_of_length_le (by rw [recs_len]; exact Nat.le_refl _)
theorem w2_zero (l : List ByteArray) (m : List Wr) (q : Nat) (ws : List Wr) : w2L l m q ws 0 = w1L l m q ws ws.length ++ [(curP (curP l m) (recsW q (curP l m) ws), [])] := by
 unfold w2L w1L
 rw [recs_all, show (ws.take 0).map some = ([] : List (Option Wr)) from rfl, List.append_nil, walk_snoc, last1]; rfl
theorem w2_next {l : List ByteArray} {m : List Wr} {q : Nat} {ws : List Wr} {k : Nat} {x : Wr} (h : ws[k]? = some x) : w2L l m q ws (k + 1) = w2L l m q ws k ++ [(curP (curP l m) (recsW q (curP l m) ws), ws.take k ++ [x])] := by
 unfold w2L
 obtain ⟨hj, he⟩ := List.getElem?_eq_some_iff.1 h
 rw [List.take_succ_eq_append_getElem hj, he, List.map_append, List.map_singleton, ← List.append_assoc, walk_snoc, last2]; rfl
theorem w2_len (l : List ByteArray) (m : List Wr) (q : Nat) (ws : List Wr) (k : Nat) : (w2L l m q ws k).length ≤ ws.length + k + 2 := by
 unfold w2L
 rw [walk_len]
 simp only [List.length_cons, List.length_append, List.length_map, recs_len, List.length_take, List.length_nil]; omega
theorem w3_all (l : List ByteArray) (m : List Wr) (q : Nat) (hd : ByteArray) (ws : List Wr) : walkD (l, m) (actsW q (curP l m) hd ws) = w2L l m q ws ws.length ++ [(curP (curP (curP l m) (recsW q (curP l m) ws)) ws, [])] ++ [(curP (curP (curP l m) (recsW q (curP l m) ws)) ws, [headW q hd])] ++ [(curP (curP (curP (curP l m) (recsW q (curP l m) ws)) ws) [headW q hd], [])] := by
 have e : actsW q (curP l m) hd ws = ((none :: (recsW q (curP l m) ws).map some) ++ [none] ++ (ws.take ws.length).map some) ++ [none] ++ [some (headW q hd)] ++ [none] := by
  unfold actsW
  rw [List.take_of_length_le (Nat.le_refl _)]
  simp
 rw [e, walk_snoc, walk_snoc, walk_snoc]
 simp only [last_snoc, last2, List.take_of_length_le (Nat.le_refl _)]
 unfold w2L
 rw [List.take_of_length_le (Nat.le_refl _)]
 rfl
open Go.RowKit
def StEnd (D : List Dc) (w : World) (e : Ending) (w' : World) : Prop := ∃ A c X, e = .returned (.tuple #[.slice A X.length c, .int .i64 0]) ∧ OwnQ w.heap.size w' (.slice A X.length c) X ∧ AllD w.heap.size w' X D ∧ Calm w w'
def StBad (E : Int) (w : World) (e : Ending) (w' : World) : Prop := e = .returned (.tuple #[.slice none 0 0, .int .i64 E]) ∧ Calm w w'
theorem AllD.weaken {B B' : Nat} {w : World} {X : List (Value × Value)} {D : List Dc} (h : AllD B w X D) (hb : B' ≤ B) : AllD B' w X D := by
 obtain ⟨lo, h0, h1⟩ := h
 exact ⟨lo, Nat.le_trans hb h0, h1⟩
section
variable {P Q A : Option Addr} {cp cq c : Nat} {l : List ByteArray} {m : List Wr} {w : World}
theorem steps_bad {E : Int} (hd : ByteArray) (k : Nat) (cC : ∀ u, Calm w u → Calls Try.prog 65 #[.agg #[.slice P l.length cp, .slice Q m.length cq], .string hd, .slice A k c] u (ChkEnd 0 E u)) (h0 : E ≠ 0) : Calls Try.prog 20 #[.agg #[.slice P l.length cp, .slice Q m.length cq], .string hd, .slice A k c] w (StBad E w) := by
 have hu := (Calm.refl w).alloc (.cells #[.slice P l.length cp, .slice Q m.length cq] 25)
 have hx := heap_new w (.cells #[.slice P l.length cp, .slice Q m.length cq] 25)
 have b1 : (E != 0) = true := by rw [bne_iff_ne]; exact h0
 obtain ⟨x0, x1, hxs⟩ := rowD hx
 clear h0
 go_enter Try.func20, Try.ntmps20
 go_wp2_with (go_at_call 65; (with_reducible refine (cC _ hu).mono ?_); rintro e w1 ⟨rfl, hk⟩; replace hu := hu.call hk; clear hk)
 go_ret2
 exact ⟨rfl, hu⟩
set_option maxHeartbeats 16000000 in
theorem steps_ok (hh : HasD w P Q l m) (hz : dkErr l m = 0) (hd : ByteArray) (ws : List Wr) (hW : LiesW w A ws) {q : Nat} (cC : ∀ u, Calm w u → Calls Try.prog 65 #[.agg #[.slice P l.length cp, .slice Q m.length cq], .string hd, .slice A ws.length c] u (ChkEnd (q : Int) 0 u)) (hG : GpC q (curP l m) hd ws) :
    Calls Try.prog 20 #[.agg #[.slice P l.length cp, .slice Q m.length cq], .string hd, .slice A ws.length c] w (StEnd (walkD (l, m) (actsW q (curP l m) hd ws)) w) := by
  have G := Lib.hid hG
  have HZ := Lib.hid hz
  have HH := Lib.hid hh
  have cH := fun u => undoHead_any ((q + 1 : Nat) : Int) hd u
  have cH2 : ∀ u, HdEnd ((q + 1 : Nat) : Int) hd u = fun e w' => e = .returned (.tuple #[.string (hdS ((q + 1 : Nat) : Int) hd), .int .i64 0]) ∧ Calm u w' := fun u => by
    unfold HdEnd; rw [hG.hd0]
  simp only [cH2] at cH
  rw [show ((q + 1 : Nat) : Int) = (q : Int) + 1 from by omega] at cH
  have HWH : Hid (headW q hd = ⟨0, hdS ((q : Int) + 1) hd⟩) := by show _ = _; unfold headW; rw [show ((q + 1 : Nat) : Int) = (q : Int) + 1 from by omega]
  have hq1 : (q : Int) ≤ 2147483646 := by have := hG.q; omega
  have hwl : (ws.length : Int) ≤ 100 := by have := hG.n; omega
  have hu := (Calm.refl w).alloc (.cells #[.slice P l.length cp, .slice Q m.length cq] 25)
  have hx := heap_new w (.cells #[.slice P l.length cp, .slice Q m.length cq] 25)
  obtain ⟨x0, x1, hxs⟩ := rowD hx
  clear hG hz hh cH2
  go_enter Try.func20, Try.ntmps20
  go_upto_region 4 with (go_at_call 65; (with_reducible refine (cC _ hu).mono ?_); rintro e w1 ⟨rfl, hk⟩; replace hx := (hk.block hxs).trans hx; replace hu := hu.call hk; clear hk x0 x1 hxs; obtain ⟨x0, x1, hxs⟩ := rowD hx)
  clear cC
  have hv0 := (Calm.refl w1).alloc (.cells #[.slice P l.length cp, .slice Q m.length cq, .slice none 0 0] 105)
  have HS0 := Lib.hid (show SqS (w1.alloc (.cells #[.slice P l.length cp, .slice Q m.length cq, .slice none 0 0] 105)) w1.heap.size l m [] from ⟨P, cp, Q, cq, _, [], heap_new _ _, HH.out.calm (hu.alloc _), OwnG.nil _ _ _ _ _, AllD.nil _ _ (by simp)⟩)
  have cS0 : ∀ u, SqS u w1.heap.size l m [] → Calls Try.prog 66 #[.pointer (some ⟨w1.heap.size, 0, none⟩)] u (SqT w1.heap.size (curP l m) [] (w1L l m q ws 0) u) := fun u h => sqSync_any h HZ.out (by simp)
  have cP1 : ∀ (k : Nat) (_ : k < ws.length) (pg : Nat) (s : ByteArray), ws[k]? = some ⟨(pg : Int), s⟩ → pg ≤ 100 → ∃ RT : ByteArray, (∀ u P' cp' Q' cq', HasD u P' Q' (curP l m) ((recsW q (curP l m) ws).take k) → Calls Try.prog 68 #[.agg #[.slice P' (curP l m).length cp', .slice Q' ((recsW q (curP l m) ws).take k).length cq'], .int .i64 ((q : Int) + 1), .int .i64 (pg : Int)] u fun e w' => e = .returned (.string RT) ∧ Calm u w') ∧
      ∀ u, SqS u w1.heap.size (curP l m) ((recsW q (curP l m) ws).take k) (w1L l m q ws k) → Calls Try.prog 67 #[.pointer (some ⟨w1.heap.size, 0, none⟩), .int .i64 (101 + (k : Int)), .string RT] u (SqT w1.heap.size (curP l m) ((recsW q (curP l m) ws).take (k + 1)) (w1L l m q ws (k + 1)) u) := fun k hk pg s hx hp => by
    obtain ⟨xo, hxo⟩ : ∃ x, (curP l m)[pg]? = some x := ⟨_, List.getElem?_eq_getElem (by rw [G.out.l0]; omega)⟩
    have e1 := oldL_at (s := s) hxo
    have ho := G.out.o _ (List.mem_of_getElem? hx)
    rw [e1] at ho
    have e2 : recW q (curP l m) k ⟨(pg : Int), s⟩ = ⟨101 + (k : Int), frS 9 ((⟨(be 4 (q + 1)).toArray⟩ : ByteArray) ++ ⟨(be 4 pg).toArray⟩ ++ xo)⟩ := by
      unfold recW
      rw [e1, Int.toNat_natCast, show ((101 + k : Nat) : Int) = 101 + (k : Int) from by omega]
    refine ⟨frS 9 ((⟨(be 4 (q + 1)).toArray⟩ : ByteArray) ++ ⟨(be 4 pg).toArray⟩ ++ xo), fun u P' cp' Q' cq' h => ?_, fun u h => ?_⟩
    · have h1 := record_any h cp' cq' (G.out.dk1 k) (N := q + 1) (by have := G.out.q; omega) hp hxo (rd1_ hp xo) ho
      rw [show ((q + 1 : Nat) : Int) = (q : Int) + 1 from by omega] at h1
      exact h1
    · have h1 := sqPut_any h (i := 101 + (k : Int)) (s := frS 9 ((⟨(be 4 (q + 1)).toArray⟩ : ByteArray) ++ ⟨(be 4 pg).toArray⟩ ++ xo)) (by have := G.out.pt1 hx; rw [e2] at this; exact this) (by have := w1_len l m q ws k; have := G.out.n; omega)
      rw [w1_next hx, recs_next hx, e2]
      exact h1
  have cS1 : ∀ u, SqS u w1.heap.size (curP l m) ((recsW q (curP l m) ws).take ws.length) (w1L l m q ws ws.length) → Calls Try.prog 66 #[.pointer (some ⟨w1.heap.size, 0, none⟩)] u (SqT w1.heap.size (curP (curP l m) (recsW q (curP l m) ws)) (ws.take 0) (w2L l m q ws 0) u) := fun u h => by
    rw [recs_all] at h
    have h1 := sqSync_any h G.out.dkr (by have := w1_len l m q ws ws.length; have := G.out.n; omega)
    rw [w2_zero]
    exact h1
  have cP2 : ∀ (k : Nat) (i : Int) (s : ByteArray), ws[k]? = some ⟨i, s⟩ → ∀ u, SqS u w1.heap.size (curP (curP l m) (recsW q (curP l m) ws)) (ws.take k) (w2L l m q ws k) → Calls Try.prog 67 #[.pointer (some ⟨w1.heap.size, 0, none⟩), .int .i64 i, .string s] u (SqT w1.heap.size (curP (curP l m) (recsW q (curP l m) ws)) (ws.take (k + 1)) (w2L l m q ws (k + 1)) u) := fun k i s hx u h => by
    have hk := (List.getElem?_eq_some_iff.1 hx).1
    have h1 := sqPut_any h (i := i) (s := s) (G.out.pt2 hx) (by have := w2_len l m q ws k; have := G.out.n; omega)
    rw [w2_next hx]
    obtain ⟨hj, he⟩ := List.getElem?_eq_some_iff.1 hx
    rw [List.take_succ_eq_append_getElem hj, he]
    exact h1
  have cS2 : ∀ u, SqS u w1.heap.size (curP (curP l m) (recsW q (curP l m) ws)) (ws.take ws.length) (w2L l m q ws ws.length) → Calls Try.prog 66 #[.pointer (some ⟨w1.heap.size, 0, none⟩)] u (SqT w1.heap.size (curP (curP (curP l m) (recsW q (curP l m) ws)) ws) [] (w2L l m q ws ws.length ++ [(curP (curP (curP l m) (recsW q (curP l m) ws)) ws, [])]) u) := fun u h => by
    rw [List.take_of_length_le (Nat.le_refl _)] at h
    exact sqSync_any h G.out.dkw (by have := w2_len l m q ws ws.length; have := G.out.n; omega)
  have cP3 : ∀ u, SqS u w1.heap.size (curP (curP (curP l m) (recsW q (curP l m) ws)) ws) [] (w2L l m q ws ws.length ++ [(curP (curP (curP l m) (recsW q (curP l m) ws)) ws, [])]) → Calls Try.prog 67 #[.pointer (some ⟨w1.heap.size, 0, none⟩), .int .i64 0, .string (hdS ((q : Int) + 1) hd)] u (SqT w1.heap.size (curP (curP (curP l m) (recsW q (curP l m) ws)) ws) [headW q hd] (w2L l m q ws ws.length ++ [(curP (curP (curP l m) (recsW q (curP l m) ws)) ws, [])] ++ [(curP (curP (curP l m) (recsW q (curP l m) ws)) ws, [headW q hd])]) u) := fun u h => by
    have h0 := G.out.pt3
    rw [HWH.out] at h0 ⊢
    exact sqPut_any (i := 0) (s := hdS ((q : Int) + 1) hd) h h0 (by have := w2_len l m q ws ws.length; have := G.out.n; simp only [List.length_append, List.length_singleton]; omega)
  have cS3 : ∀ u, SqS u w1.heap.size (curP (curP (curP l m) (recsW q (curP l m) ws)) ws) [headW q hd] (w2L l m q ws ws.length ++ [(curP (curP (curP l m) (recsW q (curP l m) ws)) ws, [])] ++ [(curP (curP (curP l m) (recsW q (curP l m) ws)) ws, [headW q hd])]) → Calls Try.prog 66 #[.pointer (some ⟨w1.heap.size, 0, none⟩)] u (SqT w1.heap.size (curP (curP (curP (curP l m) (recsW q (curP l m) ws)) ws) [headW q hd]) [] (walkD (l, m) (actsW q (curP l m) hd ws)) u) := fun u h => by
    rw [w3_all]
    exact sqSync_any h G.out.dk3 (by have := w2_len l m q ws ws.length; have := G.out.n; simp only [List.length_append, List.length_singleton]; omega)
  have hwi : ∀ (k : Nat) (i : Int) (s : ByteArray), ws[k]? = some ⟨i, s⟩ → ∃ pg : Nat, i = (pg : Int) ∧ pg ≤ 100 := fun k i s h => by
    have := G.out.g.r _ (List.mem_of_getElem? h)
    exact ⟨i.toNat, by have : 1 ≤ i := this.1; omega, by have : i ≤ 100 := this.2.1; omega⟩
  have HE : Hid (∀ w' L M, Calm w1 w' → SqS w' w1.heap.size L M (walkD (l, m) (actsW q (curP l m) hd ws)) → ∃ P cp Q cq A n c, w'.heap[w1.heap.size]? = some (.cells #[.slice P L.length cp, .slice Q M.length cq, .slice A n c] 105 (0, 0)) ∧ StEnd (walkD (l, m) (actsW q (curP l m) hd ws)) w (.returned (.tuple #[.slice A n c, .int .i64 0])) w') := show ∀ _ _ _, _ from fun w' L M hc h => by
    obtain ⟨P, cp, Q, cq, V, X, h1, h2, h3, h4⟩ := h
    obtain ⟨A, c, rfl, -, -⟩ := OwnG.slice h3
    have hs : w.heap.size ≤ w1.heap.size + 1 := Nat.le_trans hu.size (Nat.le_succ _)
    exact ⟨P, cp, Q, cq, A, X.length, c, h1, A, c, X, rfl, OwnG.weaken h3 hs, h4.weaken hs, hu.call hc⟩
  generalize (w2L l m q ws ws.length ++ [(curP (curP (curP l m) (recsW q (curP l m) ws)) ws, [])] ++ [(curP (curP (curP l m) (recsW q (curP l m) ws)) ws, [headW q hd])]) = D6 at cP3 cS3
  generalize (w2L l m q ws ws.length ++ [(curP (curP (curP l m) (recsW q (curP l m) ws)) ws, [])]) = D5 at cP3 cS2
  generalize (curP (curP (curP (curP l m) (recsW q (curP l m) ws)) ws) [headW q hd]) = L4 at cS3
  generalize (curP (curP (curP l m) (recsW q (curP l m) ws)) ws) = L3 at cP3 cS2 cS3
  generalize (curP (curP l m) (recsW q (curP l m) ws)) = L2 at cP2 cS1 cS2
  generalize hdS ((q : Int) + 1) hd = HT at cP3 cH
  generalize [headW q hd] = MH at cP3 cS3
  clear G HZ HWH HH
  go_upto_region 5 with fail
  generalize w1.alloc (.cells #[.slice P l.length cp, .slice Q m.length cq, .slice none 0 0] 105) = w2 at HS0 hv0 ⊢
  go_upto_region 6 with (go_at_call 66; (with_reducible refine (cS0 _ HS0.out).mono ?_); rintro e w3 ⟨rfl, hS, hf⟩; have HS := Lib.hid hS; have hv := hf w1 (Nat.le_refl _) hv0; clear hS hf)
  clear cS0 HS0 hv0 x0 x1 hxs hx
  go_upto_region 7 with fail
  go_loopw [32] (fun i wr => ∃ k : Nat, k ≤ ws.length ∧ i = .int .i64 k ∧ Calm w1 wr ∧ Hid (SqS wr w1.heap.size (curP l m) ((recsW q (curP l m) ws).take k) (w1L l m q ws k))) (fun i _ => ws.length - (intOf i).toNat)
  case atStart => exact ⟨0, Nat.zero_le _, rfl, hv, HS⟩
  case round =>
    obtain ⟨k, hk, rfl, hc, hS⟩ := hrel
    clear HS hv
    by_cases hlt : k < ws.length
    · obtain ⟨b, p0, i, s, rfl, hb, hE, c0, c1⟩ := (hW.calm (hu.call hc)).get hlt
      obtain ⟨pg, rfl, hp⟩ := hwi k i s hE.out
      obtain ⟨RT, cR, cP⟩ := cP1 k hlt pg s hE.out hp
      have hki : (k : Int) < (ws.length : Int) := by omega
      obtain ⟨P', cp', Q', cq', V', X', hb', hD', hO', hA'⟩ := hS.out
      obtain ⟨s0, s1, s2, hss⟩ := row3S hb'
      have HD' := Lib.hid hD'
      clear hb' hD' hO' hA' hE cP1 cS1 cP2 cS2 cP3 cS3 cH
      generalize (recsW q (curP l m) ws).take k = M at *
      generalize curP l m = L at *
      go_wp2_with (first
        | (go_at_call 68; (with_reducible refine (cR _ _ _ _ _ (HD'.out.calm ((Calm.refl _).alloc _))).mono ?_); rintro e w6 ⟨rfl, hk6⟩; have hS6 := Lib.hid (hS.out.calm (((Calm.refl _).alloc _).call hk6)))
        | (go_at_call 67; (with_reducible refine (cP _ hS6.out).mono ?_); rintro e w7 ⟨rfl, hS7, hf7⟩; have HS7 := Lib.hid hS7; have hc7 := hf7 w1 (Nat.le_refl _) ((hc.alloc _).call hk6); clear hS7 hf7))
      go_roundw
      case rel => exact ⟨k + 1, by omega, by go_num, hc7, HS7⟩
      case measure => simp [intOf]; omega
    obtain rfl : k = ws.length := by omega
    go_upto_region 12 with (go_at_call 66; (with_reducible refine (cS1 _ hS.out).mono ?_); rintro e w4 ⟨rfl, hS4, hf⟩; have HS := Lib.hid hS4; have hv := hf w1 (Nat.le_refl _) hc; clear hS4 hf)
    clear cS1 cP1 hS hc
    go_upto_region 13 with fail
    go_loopw [51] (fun i wr => ∃ k : Nat, k ≤ ws.length ∧ i = .int .i64 k ∧ Calm w1 wr ∧ Hid (SqS wr w1.heap.size L2 (ws.take k) (w2L l m q ws k))) (fun i _ => ws.length - (intOf i).toNat)
    case atStart => exact ⟨0, Nat.zero_le _, rfl, hv, HS⟩
    case round =>
      obtain ⟨k, hk, rfl, hc, hS⟩ := hrel
      clear HS hv
      by_cases hlt : k < ws.length
      · obtain ⟨b, p0, i, s, rfl, hb, hE, c0, c1⟩ := (hW.calm (hu.call hc)).get hlt
        have cP := cP2 k i s hE.out
        have hki : (k : Int) < (ws.length : Int) := by omega
        clear hE cP2 cS2 cP3 cS3 cH
        go_wp2_with (go_at_call 67; (with_reducible refine (cP _ (hS.out.calm ((Calm.refl _).alloc _))).mono ?_); rintro e w7 ⟨rfl, hS7, hf7⟩; have HS7 := Lib.hid hS7; have hc7 := hf7 w1 (Nat.le_refl _) (hc.alloc _); clear hS7 hf7)
        go_roundw
        case rel => exact ⟨k + 1, by omega, by go_num, hc7, HS7⟩
        case measure => simp [intOf]; omega
      obtain rfl : k = ws.length := by omega
      clear cP2
      go_upto_region 18 with (go_at_call 66; (with_reducible refine (cS2 _ hS.out).mono ?_); rintro e w5 ⟨rfl, hS5, hf⟩; have HS := Lib.hid hS5; have hv := hf w1 (Nat.le_refl _) hc; clear hS5 hf)
      clear cS2 hS hc
      go_upto_region 21 with (first
        | (go_at_call 12; (with_reducible refine (cH _).mono ?_); rintro e w6 ⟨rfl, hk6⟩; have HS6 := Lib.hid (HS.out.calm hk6); have hv6 := hv.call hk6; clear hk6)
        | (go_at_call 67; (with_reducible refine (cP3 _ HS6.out).mono ?_); rintro e w7 ⟨rfl, hS7, hf7⟩; have HS7 := Lib.hid hS7; have hv7 := hf7 w1 (Nat.le_refl _) hv6; clear hS7 hf7)
        | (go_at_call 66; (with_reducible refine (cS3 _ HS7.out).mono ?_); rintro e w8 ⟨rfl, hS8, hf8⟩; have HS8 := Lib.hid hS8; have hv8 := hf8 w1 (Nat.le_refl _) hv7; clear hS8 hf8))
      obtain ⟨P9, cp9, Q9, cq9, A9, n9, c9, h9, H9⟩ := HE.out _ _ _ hv8 HS8.out
      obtain ⟨s0, s1, s2, hss⟩ := row3S h9
      have HF := Lib.hid H9
      clear H9 h9
      go_wp2_with fail
      go_ret2
      exact HF.out
end
open Go.RowKit
set_option maxHeartbeats 4000000 in
theorem idxG1_any (B1 : Nat) (A : Option Addr) (c : Nat) (l : List Wr) (r : Int) (w : World) (p : Wr → Bool) (hn : l.length ≤ 9223372036854775807) (hL : LiesW w A l) (C : ∀ (u : World) (x : Wr), x ∈ l → Calm w u → Calls Try.prog 70 (#[.agg #[.int .i64 x.i, .string x.s]] ++ #[.pointer (some ⟨B1, 0, none⟩)]) u fun e w' => e = .returned (.bool (p x)) ∧ Calm u w') (hF : FIX p l r) :
    Calls Try.prog 74 #[.slice A l.length c, .func (.func 70) #[] #[.pointer (some ⟨B1, 0, none⟩)]] w fun e w' => e = .returned (.int .i64 r) ∧ Calm w w' := by
  have HF := Lib.hid hF
  clear hF
  go_enter Try.func74, Try.ntmps74
  go_wp2_with fail
  go_loopw [8, 5] (fun i _ wr => ∃ k : Nat, k ≤ l.length ∧ i = .int .i64 k ∧ Calm w wr ∧ Hid (∀ j (hj : j < l.length), j < k → p l[j] = false)) (fun i _ _ => l.length - (intOf i).toNat)
  case atStart => exact ⟨0, Nat.zero_le _, rfl, Calm.refl _, show ∀ _, _ from fun j hj h => absurd h (Nat.not_lt_zero _)⟩
  case round =>
    obtain ⟨k, hk, rfl, hu, hN⟩ := hrel
    by_cases hlt : k < l.length
    rotate_left
    · have K : Hid (r = -1) := by
        rcases HF.out with h | ⟨i, hi, _, h2, _⟩
        · exact h.1
        · have h2 : p l[i] = true := h2
          rw [hN.out i hi (by omega)] at h2; cases h2
      clear C
      go_wp2_with fail
      go_ret
      exact ⟨by rw [K.out]; rfl, hu⟩
    obtain ⟨b, q, i, s, rfl, hb, HE, c0, c1⟩ := (hL.calm hu).get hlt
    have HE2 := (List.getElem?_eq_some_iff.1 HE.out).2
    have hc := C wr ⟨i, s⟩ (List.mem_of_getElem? HE.out) hu
    cases hp : p ⟨i, s⟩
    · rw [hp] at hc
      have hN2 : Hid (∀ j (hj : j < l.length), j < k + 1 → p l[j] = false) := show ∀ _, _ from fun j hj h => by
        rcases Nat.lt_or_ge j k with h2 | h2
        · exact hN.out j hj h2
        · rw [show l[j] = l[k] from by congr 1; omega, HE2]; exact hp
      clear hp C HE2
      go_wp2_with (go_at_call 70; refine hc.mono ?_; rintro e w1 ⟨rfl, hb1⟩)
      go_roundw
      case rel => exact ⟨k + 1, by omega, by go_num, hu.call hb1, hN2⟩
      case measure => simp [intOf]; omega
    · rw [hp] at hc
      have K : Hid (r = k) := by
        rcases HF.out with h | ⟨i, hi, hr, h2, h3⟩
        · have : p l[k] = false := h.2 _ (List.getElem_mem hlt)
          rw [HE2, hp] at this; cases this
        · rw [hr]
          rcases Nat.lt_trichotomy i k with h4 | h4 | h4
          · have h2 : p l[i] = true := h2
            rw [hN.out i hi h4] at h2; cases h2
          · show _ = _; rw [h4]
          · have : p l[k] = false := h3 k hlt h4
            rw [HE2, hp] at this; cases this
      clear hp C HE2
      go_wp2_with (go_at_call 70; refine hc.mono ?_; rintro e w1 ⟨rfl, hb1⟩)
      go_ret
      exact ⟨by rw [K.out]; rfl, hu.call hb1⟩
set_option maxHeartbeats 4000000 in
theorem hasG1_any (B1 : Nat) (A : Option Addr) (c : Nat) (l : List Wr) (w : World) (p : Wr → Bool) (hn : l.length ≤ 9223372036854775807) (hL : LiesW w A l) (C : ∀ (u : World) (x : Wr), x ∈ l → Calm w u → Calls Try.prog 70 (#[.agg #[.int .i64 x.i, .string x.s]] ++ #[.pointer (some ⟨B1, 0, none⟩)]) u fun e w' => e = .returned (.bool (p x)) ∧ Calm u w') :
    Calls Try.prog 32 #[.slice A l.length c, .func (.func 70) #[] #[.pointer (some ⟨B1, 0, none⟩)]] w fun e w' => e = .returned (.bool (l.any p)) ∧ Calm w w' := by
  obtain ⟨r, hr⟩ := FIX_ex p l
  have cI := idxG1_any B1 A c l r w p hn hL C hr
  have hany := hr.any
  generalize (l.any p) = R at hany ⊢
  clear hr hL C
  rcases hany with ⟨h1, rfl⟩ | ⟨rfl, rfl⟩
  · go_enter Try.func32, Try.ntmps32
    go_wp2_with (go_at_call 74; refine cI.mono ?_; rintro e w1 ⟨rfl, hb1⟩)
    go_ret
    exact ⟨ret_bool (by simp), hb1⟩
  · go_enter Try.func32, Try.ntmps32
    go_wp2_with (go_at_call 74; refine cI.mono ?_; rintro e w1 ⟨rfl, hb1⟩)
    go_ret
    exact ⟨rfl, hb1⟩
set_option maxHeartbeats 4000000 in
theorem idxG2_any (B1 : Nat) (A : Option Addr) (c : Nat) (l : List Wr) (r : Int) (w : World) (p : Wr → Bool) (hn : l.length ≤ 9223372036854775807) (hL : LiesW w A l) (C : ∀ (u : World) (x : Wr), x ∈ l → Calm w u → Calls Try.prog 71 (#[.agg #[.int .i64 x.i, .string x.s]] ++ #[.pointer (some ⟨B1, 0, none⟩)]) u fun e w' => e = .returned (.bool (p x)) ∧ Calm u w') (hF : FIX p l r) :
    Calls Try.prog 74 #[.slice A l.length c, .func (.func 71) #[] #[.pointer (some ⟨B1, 0, none⟩)]] w fun e w' => e = .returned (.int .i64 r) ∧ Calm w w' := by
  have HF := Lib.hid hF
  clear hF
  go_enter Try.func74, Try.ntmps74
  go_wp2_with fail
  go_loopw [8, 5] (fun i _ wr => ∃ k : Nat, k ≤ l.length ∧ i = .int .i64 k ∧ Calm w wr ∧ Hid (∀ j (hj : j < l.length), j < k → p l[j] = false)) (fun i _ _ => l.length - (intOf i).toNat)
  case atStart => exact ⟨0, Nat.zero_le _, rfl, Calm.refl _, show ∀ _, _ from fun j hj h => absurd h (Nat.not_lt_zero _)⟩
  case round =>
    obtain ⟨k, hk, rfl, hu, hN⟩ := hrel
    by_cases hlt : k < l.length
    rotate_left
    · have K : Hid (r = -1) := by
        rcases HF.out with h | ⟨i, hi, _, h2, _⟩
        · exact h.1
        · have h2 : p l[i] = true := h2
          rw [hN.out i hi (by omega)] at h2; cases h2
      clear C
      go_wp2_with fail
      go_ret
      exact ⟨by rw [K.out]; rfl, hu⟩
    obtain ⟨b, q, i, s, rfl, hb, HE, c0, c1⟩ := (hL.calm hu).get hlt
    have HE2 := (List.getElem?_eq_some_iff.1 HE.out).2
    have hc := C wr ⟨i, s⟩ (List.mem_of_getElem? HE.out) hu
    cases hp : p ⟨i, s⟩
    · rw [hp] at hc
      have hN2 : Hid (∀ j (hj : j < l.length), j < k + 1 → p l[j] = false) := show ∀ _, _ from fun j hj h => by
        rcases Nat.lt_or_ge j k with h2 | h2
        · exact hN.out j hj h2
        · rw [show l[j] = l[k] from by congr 1; omega, HE2]; exact hp
      clear hp C HE2
      go_wp2_with (go_at_call 71; refine hc.mono ?_; rintro e w1 ⟨rfl, hb1⟩)
      go_roundw
      case rel => exact ⟨k + 1, by omega, by go_num, hu.call hb1, hN2⟩
      case measure => simp [intOf]; omega
    · rw [hp] at hc
      have K : Hid (r = k) := by
        rcases HF.out with h | ⟨i, hi, hr, h2, h3⟩
        · have : p l[k] = false := h.2 _ (List.getElem_mem hlt)
          rw [HE2, hp] at this; cases this
        · rw [hr]
          rcases Nat.lt_trichotomy i k with h4 | h4 | h4
          · have h2 : p l[i] = true := h2
            rw [hN.out i hi h4] at h2; cases h2
          · show _ = _; rw [h4]
          · have : p l[k] = false := h3 k hlt h4
            rw [HE2, hp] at this; cases this
      clear hp C HE2
      go_wp2_with (go_at_call 71; refine hc.mono ?_; rintro e w1 ⟨rfl, hb1⟩)
      go_ret
      exact ⟨by rw [K.out]; rfl, hu.call hb1⟩
set_option maxHeartbeats 4000000 in
theorem hasG2_any (B1 : Nat) (A : Option Addr) (c : Nat) (l : List Wr) (w : World) (p : Wr → Bool) (hn : l.length ≤ 9223372036854775807) (hL : LiesW w A l) (C : ∀ (u : World) (x : Wr), x ∈ l → Calm w u → Calls Try.prog 71 (#[.agg #[.int .i64 x.i, .string x.s]] ++ #[.pointer (some ⟨B1, 0, none⟩)]) u fun e w' => e = .returned (.bool (p x)) ∧ Calm u w') :
    Calls Try.prog 32 #[.slice A l.length c, .func (.func 71) #[] #[.pointer (some ⟨B1, 0, none⟩)]] w fun e w' => e = .returned (.bool (l.any p)) ∧ Calm w w' := by
  obtain ⟨r, hr⟩ := FIX_ex p l
  have cI := idxG2_any B1 A c l r w p hn hL C hr
  have hany := hr.any
  generalize (l.any p) = R at hany ⊢
  clear hr hL C
  rcases hany with ⟨h1, rfl⟩ | ⟨rfl, rfl⟩
  · go_enter Try.func32, Try.ntmps32
    go_wp2_with (go_at_call 74; refine cI.mono ?_; rintro e w1 ⟨rfl, hb1⟩)
    go_ret
    exact ⟨ret_bool (by simp), hb1⟩
  · go_enter Try.func32, Try.ntmps32
    go_wp2_with (go_at_call 74; refine cI.mono ?_; rintro e w1 ⟨rfl, hb1⟩)
    go_ret
    exact ⟨rfl, hb1⟩
open Go.RowKit
theorem LiesW.take {w : World} {A : Option Addr} {l : List Wr} (h : LiesW w A l) (k : Nat) : LiesW w A (l.take k) := fun hl => by
 obtain ⟨b, q, h1, h2, h3⟩ := h (by rw [List.length_take] at hl; omega)
 refine ⟨b, q, h1, h2, fun j x hx => h3 j x ?_⟩
 rw [List.getElem?_take] at hx
 split at hx
 ·exact hx
 ·cases hx
set_option maxHeartbeats 2000000 in
theorem grp1_any (B1 : Nat) (i0 : Int) (s0 : ByteArray) (x : Wr) (w : World) (hB : w.heap[B1]? = some (.cells #[.int .i64 i0, .string s0] 45 (0, 0))) : Calls Try.prog 70 #[.agg #[.int .i64 x.i, .string x.s], .pointer (some ⟨B1, 0, none⟩)] w fun e w' => e = .returned (.bool (decide (x.i = i0))) ∧ Calm w w' := by
 obtain ⟨i, s⟩ := x
 obtain ⟨x0, x1, hxs⟩ := rowD hB
 by_cases h : i = i0
 ·rw [decide_eq_true h]
  have b1 : (i == i0) = true := by rw [beq_iff_eq]; exact h
  clear h
  go_enter Try.func70, Try.ntmps70
  go_wp2_with fail
  go_ret
  exact ⟨rfl, (Calm.refl w).alloc _⟩
 ·rw [decide_eq_false h]
  have b1 : (i == i0) = false := by rw [beq_eq_false_iff_ne]; exact h
  clear h
  go_enter Try.func70, Try.ntmps70
  go_wp2_with fail
  go_ret
  exact ⟨rfl, (Calm.refl w).alloc _⟩
set_option maxHeartbeats 2000000 in
theorem grp2_any (B1 : Nat) (P : Option Addr) (n c : Nat) (L : List ByteArray) (hn : L.length = n) (pg : Nat) (s o : ByteArray) (ho : L[pg]? = some o) (w : World) (hB : w.heap[B1]? = some (.cells #[.slice P n c] 22 (0, 0))) (hP : LiesP w P L) : Calls Try.prog 71 #[.agg #[.int .i64 (pg : Int), .string s], .pointer (some ⟨B1, 0, none⟩)] w fun e w' => e = .returned (.bool (decide (2900 < o.size))) ∧ Calm w w' := by
 have hpl := (List.getElem?_eq_some_iff.1 ho).1
 obtain ⟨b, q, rfl, hb, c0⟩ := un_cell hP ho
 have hpn : (pg : Int) < (n : Int) := by omega
 have x0 := cell_of_row _ _ 0 _ _ _ hB
 have hxs := (Array.getElem?_eq_some_iff.1 hB).1
 clear hP hn hpl ho
 by_cases h : 2900 < o.size
 ·rw [decide_eq_true h]
  have h' : (2900 : Int) < o.size := by omega
  clear h
  go_enter Try.func71, Try.ntmps71
  go_wp2_with fail
  go_ret
  exact ⟨ret_bool (by simp <;> omega), (Calm.refl w).alloc _⟩
 ·rw [decide_eq_false h]
  have h' : (o.size : Int) ≤ 2900 := by omega
  clear h
  go_enter Try.func71, Try.ntmps71
  go_wp2_with fail
  go_ret
  exact ⟨ret_bool (by simp <;> omega), (Calm.refl w).alloc _⟩
section
variable {P Q A : Option Addr} {cp cq c : Nat} {l : List ByteArray} {m : List Wr} {w : World}
theorem refGroup_bad {E : Int} (hd : ByteArray) (k : Nat) (cS : ∀ u, Calm w u → Calls Try.prog 15 #[.agg #[.slice P l.length cp, .slice Q m.length cq]] u (Sq3 0 { data := #[] } E u)) (h0 : E ≠ 0) : Calls Try.prog 24 #[.agg #[.slice P l.length cp, .slice Q m.length cq], .string hd, .slice A k c] w fun e w' => e = .returned (.int .i64 E) ∧ Calm w w' := by
 have hu := (Calm.refl w).alloc (.cells #[.slice P l.length cp, .slice Q m.length cq] 25)
 have hx := heap_new w (.cells #[.slice P l.length cp, .slice Q m.length cq] 25)
 have b1 : (E != 0) = true := by rw [bne_iff_ne]; exact h0
 obtain ⟨x0, x1, hxs⟩ := rowD hx
 clear h0
 go_enter Try.func24, Try.ntmps24
 go_wp2_with (go_at_call 15; (with_reducible refine (cS _ hu).mono ?_); rintro e w1 ⟨rfl, hk⟩; replace hu := hu.call hk; clear hk)
 go_ret
 exact ⟨rfl, hu⟩
set_option maxHeartbeats 8000000 in
theorem refGroup_ok (hh : HasD w P Q l m) (hz : dkErr l m = 0) (hl : l.length = 201) (hd : ByteArray) (ws : List Wr) (hW : LiesW w A ws) (hwc : ws.length ≤ c) {q : Nat} {t : ByteArray} (cS : ∀ u, Calm w u → Calls Try.prog 15 #[.agg #[.slice P l.length cp, .slice Q m.length cq]] u (Sq3 (q : Int) t 0 u)) :
    Calls Try.prog 24 #[.agg #[.slice P l.length cp, .slice Q m.length cq], .string hd, .slice A ws.length c] w fun e w' => e = .returned (.int .i64 (gpE q (curP l m) hd ws)) ∧ Calm w w' := by
  obtain ⟨R, hR⟩ : ∃ R, gpE q (curP l m) hd ws = R := ⟨_, rfl⟩
  rw [hR]
  have hu := (Calm.refl w).alloc (.cells #[.slice P l.length cp, .slice Q m.length cq] 25)
  have hx := heap_new w (.cells #[.slice P l.length cp, .slice Q m.length cq] 25)
  obtain ⟨x0, x1, hxs⟩ := rowD hx
  unfold gpE at hR
  by_cases h1 : 2900 < hd.size
  · rw [if_pos (Or.inl h1)] at hR
    subst hR
    have h1' : (2900 : Int) < hd.size := by omega
    clear h1 hz hl
    go_enter Try.func24, Try.ntmps24
    go_wp2_with (go_at_call 15; (with_reducible refine (cS _ hu).mono ?_); rintro e w1 ⟨rfl, hk⟩; replace hu := hu.call hk; clear hk)
    go_ret
    exact ⟨rfl, hu⟩
  have h1' : (hd.size : Int) ≤ 2900 := by omega
  by_cases h2 : 100 < ws.length
  · rw [if_pos (Or.inr h2)] at hR
    subst hR
    have h2' : (100 : Int) < ws.length := by omega
    clear h1 h2 hz hl
    go_enter Try.func24, Try.ntmps24
    go_wp2_with (go_at_call 15; (with_reducible refine (cS _ hu).mono ?_); rintro e w1 ⟨rfl, hk⟩; replace hu := hu.call hk; clear hk)
    go_ret
    exact ⟨rfl, hu⟩
  have h2' : (ws.length : Int) ≤ 100 := by omega
  rw [if_neg (by omega)] at hR
  have HR := Lib.hid hR
  have HZ := Lib.hid hz
  have HL := Lib.hid hl
  have HH := Lib.hid hh
  clear h1 h2 hR hz hl hh
  go_enter Try.func24, Try.ntmps24
  go_upto_region 6 with (go_at_call 15; (with_reducible refine (cS _ hu).mono ?_); rintro e w1 ⟨rfl, hk⟩; replace hx := (hk.block hxs).trans hx; replace hu := hu.call hk; clear hk x0 x1 hxs)
  have HX := Lib.hid hx
  clear cS hx
  go_upto_region 7 with fail
  go_loopw [32] (fun i wr => ∃ k : Nat, k ≤ ws.length ∧ i = .int .i64 k ∧ Calm w wr ∧ wr.heap[w.heap.size]? = some (.cells #[.slice P l.length cp, .slice Q m.length cq] 25 (0, 0)) ∧ gwsE (ws.take k) (ws.drop k) = gwsE [] ws) (fun i _ => ws.length - (intOf i).toNat)
  case atStart => exact ⟨0, Nat.zero_le _, rfl, hu, HX.out, rfl⟩
  case round =>
    obtain ⟨k, hk, rfl, hc, hx, hG⟩ := hrel
    clear HX
    obtain ⟨x0, x1, hxs⟩ := rowD hx
    by_cases hlt : k < ws.length
    · obtain ⟨b, p0, i, s, rfl, hb, HE, c0, c1⟩ := (hW.calm hc).get hlt
      have HN : Hid (_ = gwsE [] ws) := (gwsE_drop HE.out).symm.trans hG
      have hki : (k : Int) < (ws.length : Int) := by omega
      have hkk : (k : Int) ≤ (c : Int) := by omega
      clear hG
      by_cases hp : 1 ≤ i ∧ i ≤ 100
      rotate_left
      · have e : (1 : Int) = R := by
          have h1 : gwE (ws.take k) ⟨i, s⟩ = 1 := by unfold gwE; exact if_pos (by show i < 1 ∨ 100 < i; omega)
          have h2 := HN.out
          rw [h1, if_neg (by decide)] at h2
          have h3 := HR.out
          rw [← h2, if_neg (by decide)] at h3
          exact h3
        subst e
        clear HN HR
        by_cases h0 : i < 1
        · clear hp
          go_wp2_with fail
          go_ret
          exact ⟨rfl, hc.alloc _⟩
        · have h0' : 1 ≤ i := by omega
          have h0'' : 100 < i := by omega
          clear hp
          go_wp2_with fail
          go_ret
          exact ⟨rfl, hc.alloc _⟩
      obtain ⟨hp1, hp2⟩ := hp
      by_cases hs : 2900 < s.size
      · have e : (2 : Int) = R := by
          have h1 : gwE (ws.take k) ⟨i, s⟩ = 2 := by unfold gwE; rw [if_neg (by show ¬ (i < 1 ∨ 100 < i); omega)]; exact if_pos hs
          have h2 := HN.out
          rw [h1, if_neg (by decide)] at h2
          have h3 := HR.out
          rw [← h2, if_neg (by decide)] at h3
          exact h3
        subst e
        have hs' : (2900 : Int) < s.size := by omega
        clear hs HN HR
        go_wp2_with fail
        go_ret
        exact ⟨rfl, hc.alloc _⟩
      have hs' : (s.size : Int) ≤ 2900 := by omega
      have hwb := heap_new wr (.cells #[.int .i64 i, .string s] 45)
      have cG := hasG1_any wr.heap.size (some ⟨b, p0, none⟩) c (ws.take k) (wr.alloc (.cells #[.int .i64 i, .string s] 45)) (fun y => decide (y.i = i)) (by rw [List.length_take]; omega) (((hW.calm hc).take k).calm ((Calm.refl _).alloc _)) (fun u x _ hu => grp1_any wr.heap.size i s x u ((hu.block (rowD hwb).2.2).trans hwb))
      rw [show (ws.take k).length = k from by rw [List.length_take]; omega] at cG
      obtain ⟨bb, hbb⟩ : ∃ bb, ((ws.take k).any fun y => decide (y.i = i)) = bb := ⟨_, rfl⟩
      rw [hbb] at cG
      cases bb with
      | true =>
        have e : (5 : Int) = R := by
          have h1 : gwE (ws.take k) ⟨i, s⟩ = 5 := by unfold gwE; rw [if_neg (by show ¬ (i < 1 ∨ 100 < i); omega), if_neg hs]; exact if_pos hbb
          have h2 := HN.out
          rw [h1, if_neg (by decide)] at h2
          have h3 := HR.out
          rw [← h2, if_neg (by decide)] at h3
          exact h3
        subst e
        clear hs HN HR hbb hwb
        go_wp2_with (go_at_call 32; refine cG.mono ?_; rintro e w6 ⟨rfl, hk6⟩)
        go_ret
        exact ⟨rfl, (hc.alloc _).call hk6⟩
      | false =>
        have e : gwsE (ws.take (k + 1)) (ws.drop (k + 1)) = gwsE [] ws := by
          have h1 : gwE (ws.take k) ⟨i, s⟩ = 0 := by unfold gwE; rw [if_neg (by show ¬ (i < 1 ∨ 100 < i); omega), if_neg hs]; exact if_neg (by rw [hbb]; simp)
          have h2 := HN.out
          rw [h1, if_pos rfl] at h2
          exact h2
        have E := Lib.hid e
        clear hs HN e hbb hwb
        go_wp2_with (go_at_call 32; refine cG.mono ?_; rintro e w6 ⟨rfl, hk6⟩)
        go_roundw
        case rel => exact ⟨k + 1, by omega, by go_num, (hc.alloc _).call hk6, (hk6.block (Nat.lt_of_lt_of_le hxs (by simp))).trans (heap_past _ hx), E.out⟩
        case measure => simp [intOf]; omega
    obtain rfl : k = ws.length := by omega
    have h0 : gwsE [] ws = 0 := by rw [← hG, List.drop_eq_nil_of_le (Nat.le_refl _)]; rfl
    have HG := Lib.hid (gw_ok h0)
    have h3 := HR.out
    rw [if_pos h0] at h3
    have HR3 := Lib.hid h3
    clear hG h0 h3 HR
    have cS := synced_any P Q cp cq l m wr (HH.out.calm hc).p (HH.out.calm hc).q HZ.out
    have e0 := un_field
    go_upto_region 17 with (go_at_call 59; refine cS.mono ?_; rintro e w4 ⟨A4, c4, rfl, ho4, hk4⟩; have HO4 := Lib.hid ho4; have hc4 := hc.call hk4; clear ho4 hk4 hc)
    have hpb := heap_new w4 (.cells #[.slice A4 l.length c4] 22)
    have hoP := (OwnP.at_ HO4.out).2
    have cG := hasG2_any w4.heap.size A c ws (w4.alloc (.cells #[.slice A4 l.length c4] 22)) (fun x => decide (2900 < (oldL (curP l m) x).size)) (by omega) (hW.calm (hc4.alloc _)) (fun u x hx hu => by
      have hr := HG.out.r x hx
      obtain ⟨i, s⟩ := x
      obtain ⟨pg, rfl⟩ : ∃ n : Nat, i = (n : Int) := ⟨i.toNat, by have : 1 ≤ i := hr.1; omega⟩
      have hp1 : pg ≤ 100 := by have : (pg : Int) ≤ 100 := hr.2.1; omega
      have hll : (curP l m).length = l.length := by unfold curP; rw [doneL_len]
      obtain ⟨x0, hxp⟩ : ∃ x, (curP l m)[pg]? = some x := ⟨_, List.getElem?_eq_getElem (by rw [hll, HL.out]; omega)⟩
      have := grp2_any w4.heap.size A4 l.length c4 (curP l m) hll pg s x0 hxp u ((hu.block (Array.getElem?_eq_some_iff.1 hpb).1).trans hpb) ((hoP.calm ((Calm.refl _).alloc _)).calm hu)
      rw [oldL_at hxp]
      exact this)
    obtain ⟨bb, hbb⟩ : ∃ bb, (ws.any fun x => decide (2900 < (oldL (curP l m) x).size)) = bb := ⟨_, rfl⟩
    rw [hbb] at cG
    have HB := Lib.hid hbb
    clear hbb
    cases bb with
    | true =>
      have e : (2 : Int) = R := by
        have h3 := HR3.out
        rw [if_pos HB.out] at h3
        exact h3
      subst e
      clear HR3 HB hpb hoP
      go_wp2_with (go_at_call 32; refine cG.mono ?_; rintro e w6 ⟨rfl, hk6⟩)
      go_ret
      exact ⟨rfl, (hc4.alloc _).call hk6⟩
    | false =>
      have h3 := HR3.out
      rw [if_neg (by rw [HB.out]; simp)] at h3
      clear HR3 HB hpb hoP
      by_cases hq : q = 2147483647
      · rw [if_pos hq] at h3
        have b1 : ((q : Int) == 2147483647) = true := by rw [beq_iff_eq]; omega
        subst h3
        clear hq
        go_wp2_with (go_at_call 32; refine cG.mono ?_; rintro e w6 ⟨rfl, hk6⟩)
        go_ret
        exact ⟨rfl, (hc4.alloc _).call hk6⟩
      · rw [if_neg hq] at h3
        have b1 : ((q : Int) == 2147483647) = false := by rw [beq_eq_false_iff_ne]; omega
        subst h3
        clear hq
        go_wp2_with (go_at_call 32; refine cG.mono ?_; rintro e w6 ⟨rfl, hk6⟩)
        go_ret
        exact ⟨rfl, (hc4.alloc _).call hk6⟩
end
open Go.RowKit
structure RxI (w2 wO : World) (g : Nat) (L : List ByteArray) (M : List Wr) (u : World) : Prop where
 ex : ∃ P cp Q cq, u.heap[g]? = some (.cells #[.slice P L.length cp, .slice Q M.length cq] 25 (0, 0)) ∧ OwnP 0 u (.slice P L.length cp) L ∧ OwnW wO.heap.size u (.slice Q M.length cq) M
 cw : Calm w2 u
 ot : ∀ k, k < wO.heap.size → k ≠ g → u.heap[k]? = wO.heap[k]?
 sz : wO.heap.size ≤ u.heap.size
theorem RxI.calm {w2 wO u u' : World} {g : Nat} {L : List ByteArray} {M : List Wr} (h : RxI w2 wO g L M u) (hb : Calm u u') : RxI w2 wO g L M u' := by
 obtain ⟨P, cp, Q, cq, h1, h2, h3⟩ := h.ex
 exact ⟨⟨P, cp, Q, cq, (hb.block (rowD h1).2.2).trans h1, h2.calm hb, h3.calm hb⟩, h.cw.call hb, fun k h1 h2 => (hb.block (Nat.lt_of_lt_of_le h1 h.sz)).trans (h.ot k h1 h2), Nat.le_trans h.sz hb.size⟩
theorem own_box {α : Type} {cv : α → List Value} {N B g : Nat} {t t' : TypeId} {w : World} {v : Value} {l : List α} {cs : Array Value} {fr : Nat × Nat} (ht : t ≠ t') (h : OwnG t cv N B w v l) (hg : w.heap[g]? = some (.cells cs t' fr)) : v.ownBlock ≠ some g := fun e => by
 rcases h.2 with ⟨rfl, _⟩ | ⟨b, cap, cur, rfl, _, hb, _⟩
 ·cases e
 have e1 : b = g := by cases e; rfl
 subst e1
 rw [hb] at hg
 injection hg with h1
 injection h1 with h2 h3 h4
 exact ht h3
/-- x.Writes = append(x.Writes, ..) was done. -/
theorem RxI.put {w2 wO u u1 u2 : World} {g : Nat} {L : List ByteArray} {M : List Wr} {i : Int} {s : ByteArray} {P Q : Option Addr} {cp cq : Nat} {v : Value} (h : RxI w2 wO g L M u) (h2g : w2.heap.size ≤ g) (hgO : g < wO.heap.size) (h1 : u.heap[g]? = some (.cells #[.slice P L.length cp, .slice Q M.length cq] 25 (0, 0))) (hP : OwnP 0 u (.slice P L.length cp) L) (hQ : OwnW wO.heap.size u (.slice Q M.length cq) M) (hu : Calm u u1)
    (ho : OwnW wO.heap.size u2 v (M ++ [⟨i, s⟩])) (hgr : u1.grownBy u2 (.slice Q M.length cq : Value).ownBlock) : RxI w2 wO g L (M ++ [⟨i, s⟩]) (u2.setCell ⟨g, 1, none⟩ v) := by
  obtain ⟨A, c, rfl, -, -⟩ := OwnG.slice ho
  have hP1 := hP.calm hu
  have hQ1 := hQ.calm hu
  have hb1 : u1.heap[g]? = some (.cells #[.slice P L.length cp, .slice Q M.length cq] 25 (0, 0)) := (hu.block (rowD h1).2.2).trans h1
  have hQb : ∀ k, (.slice Q M.length cq : Value).ownBlock = some k → wO.heap.size ≤ k := fun k hk => (OwnG.lt hQ k hk).1
  have hb2 : u2.heap[g]? = some (.cells #[.slice P L.length cp, .slice Q M.length cq] 25 (0, 0)) := (hgr.block g (rowD hb1).2.2 (fun e => by have := hQb g e.symm; omega)).trans hb1
  have hP2 : OwnP 0 u2 (.slice P L.length cp) L := OwnG.same hP1 fun k hk => hgr.block k (OwnG.lt hP1 k hk).2 (fun e => OwnG.other_ (by decide) hP1 hQ1 hk e.symm)
  refine ⟨⟨P, cp, A, c, heap_setCell_same u2 g 1 _ _ _ hb2, OwnG.same hP2 fun k hk => heap_setCell_other u2 ⟨g, 1, none⟩ k _ (fun e => own_box (by decide) hP2 hb2 (hk.trans (by rw [show k = g from e]))), rowsG_set ho hgO 1 _⟩, ?_, fun k hk1 hk2 => ?_, ?_⟩
  · exact (Calm.grownG (h.cw.call hu) (by omega) hQ1 hgr).setCell (p := ⟨g, 1, none⟩) h2g _
  · rw [heap_setCell_other u2 ⟨g, 1, none⟩ k _ hk2, hgr.block k (Nat.lt_of_lt_of_le hk1 (Nat.le_trans h.sz hu.size)) (fun e => by have := hQb k e.symm; omega), hu.block (Nat.lt_of_lt_of_le hk1 h.sz)]
    exact h.ot k hk1 hk2
  · have := hgr.size; have := hu.size; have := h.sz
    simp; omega
/-- x = Synced(x) was done. -/
theorem RxI.sync {w2 wO u u1 : World} {g : Nat} {L L' : List ByteArray} {M : List Wr} {A : Option Addr} {c : Nat} (h : RxI w2 wO g L M u) (h2g : w2.heap.size ≤ g) (hgO : g < wO.heap.size) (hu : Calm u u1) (ho : OwnP u.heap.size u1 (.slice A L'.length c) L') : RxI w2 wO g L' [] ((u1.setCell ⟨g, 0, none⟩ (.slice A L'.length c)).setCell ⟨g, 1, none⟩ (.slice none 0 0)) := by
 obtain ⟨P, cp, Q, cq, h1, -, -⟩ := h.ex
 have hgu := (rowD h1).2.2
 have hb1 : u1.heap[g]? = some (.cells #[.slice P L.length cp, .slice Q M.length cq] 25 (0, 0)) := (hu.block hgu).trans h1
 have hb2 := heap_setCell_same u1 g 0 _ _ (.slice A L'.length c) hb1
 refine ⟨⟨A, c, none, 0, heap_setCell_same _ g 1 _ _ (.slice none 0 0) hb2, OwnG.weaken (rowsG_set (rowsG_set ho hgu 0 _) hgu 1 _) (Nat.zero_le _), OwnW.nil _ _⟩, ((h.cw.call hu).setCell (p := ⟨g, 0, none⟩) h2g _).setCell (p := ⟨g, 1, none⟩) h2g _, fun k hk1 hk2 => ?_, ?_⟩
 ·rw [heap_setCell_other _ ⟨g, 1, none⟩ k _ hk2, heap_setCell_other _ ⟨g, 0, none⟩ k _ hk2, hu.block (Nat.lt_of_lt_of_le hk1 h.sz)]
  exact h.ot k hk1 hk2
 ·have := hu.size; have := h.sz
  simp; omega
/-- The acts of a group by their number. -/
theorem acts_at {q : Nat} {P0 : List ByteArray} {hd : ByteArray} {ws : List Wr} : (actsW q P0 hd ws)[0]? = some none ∧ (∀ (j : Nat) (x : Wr), ws[j]? = some x → (actsW q P0 hd ws)[j + 1]? = some (some (recW q P0 j x))) ∧ (actsW q P0 hd ws)[ws.length + 1]? = some none ∧
    (∀ (j : Nat) (x : Wr), ws[j]? = some x → (actsW q P0 hd ws)[ws.length + 2 + j]? = some (some x)) ∧ (actsW q P0 hd ws)[2 * ws.length + 2]? = some none ∧ (actsW q P0 hd ws)[2 * ws.length + 3]? = some (some (headW q hd)) ∧ (actsW q P0 hd ws)[2 * ws.length + 4]? = some none := by
  have hr : ((recsW q P0 ws).map some).length = ws.length := by rw [List.length_map, recs_len]
  have hw : (ws.map (some : Wr → Option Wr)).length = ws.length := by rw [List.length_map]
  have key : ∀ j, (actsW q P0 hd ws)[ws.length + 2 + j]? = (ws.map some ++ [none, some (headW q hd), none])[j]? := fun j => by
    unfold actsW
    rw [show ws.length + 2 + j = (ws.length + (j + 1)) + 1 by omega, List.getElem?_cons_succ, List.getElem?_append_right (by rw [hr]; omega), hr, show ws.length + (j + 1) - ws.length = j + 1 by omega, List.getElem?_cons_succ]
  refine ⟨rfl, fun j x hx => ?_, ?_, fun j x hx => ?_, ?_, ?_, ?_⟩
  · unfold actsW
    have hj := (List.getElem?_eq_some_iff.1 hx).1
    rw [List.getElem?_cons_succ, List.getElem?_append_left (by rw [hr]; exact hj), List.getElem?_map, recs_at hx]; rfl
  · unfold actsW
    rw [List.getElem?_cons_succ, List.getElem?_append_right (by rw [hr]; exact Nat.le_refl _), hr, Nat.sub_self]; rfl
  · have hj := (List.getElem?_eq_some_iff.1 hx).1
    rw [key, List.getElem?_append_left (by rw [hw]; exact hj), List.getElem?_map, hx]; rfl
  · rw [show 2 * ws.length + 2 = ws.length + 2 + ws.length by omega, key, List.getElem?_append_right (by rw [hw]; exact Nat.le_refl _), hw, Nat.sub_self]; rfl
  · rw [show 2 * ws.length + 3 = ws.length + 2 + (ws.length + 1) by omega, key, List.getElem?_append_right (by rw [hw]; omega), hw, Nat.add_sub_cancel_left]; rfl
  · rw [show 2 * ws.length + 4 = ws.length + 2 + (ws.length + 2) by omega, key, List.getElem?_append_right (by rw [hw]; omega), hw, Nat.add_sub_cancel_left]; rfl
def stD (l : List ByteArray) (m : List Wr) (q : Nat) (hd : ByteArray) (ws : List Wr) (k : Nat) : Dc := lastD (l, m) ((actsW q (curP l m) hd ws).take k)
theorem stD_next {l : List ByteArray} {m : List Wr} {q : Nat} {hd : ByteArray} {ws : List Wr} {k : Nat} {a : Option Wr} (h : (actsW q (curP l m) hd ws)[k]? = some a) : stD l m q hd ws (k + 1) = act a (stD l m q hd ws k) := by
 obtain ⟨hj, he⟩ := List.getElem?_eq_some_iff.1 h
 unfold stD
 rw [List.take_succ_eq_append_getElem hj, he, last_snoc]
theorem stD_one (l : List ByteArray) (m : List Wr) (q : Nat) (hd : ByteArray) (ws : List Wr) : stD l m q hd ws 1 = (curP l m, []) := stD_next (k := 0) acts_at.1
theorem walk_stD {l : List ByteArray} {m : List Wr} {q : Nat} {hd : ByteArray} {ws : List Wr} {k : Nat} (h : k < 2 * ws.length + 5) : (walkD (l, m) (actsW q (curP l m) hd ws))[k]? = some (stD l m q hd ws (k + 1)) := walk_at _ _ _ (by rw [acts_len]; exact h)
/-- What the pages and the number of writes are on the way: the disk is a right one with room. -/
theorem stD_cases {l : List ByteArray} {m : List Wr} {q : Nat} {hd : ByteArray} {ws : List Wr} (j : Nat) (h1 : 1 ≤ j) (h2 : j ≤ 2 * ws.length + 5) :
    (∃ k, k ≤ ws.length ∧ j = k + 1 ∧ stD l m q hd ws j = (curP l m, (recsW q (curP l m) ws).take k)) ∨ (∃ k, k ≤ ws.length ∧ j = ws.length + 2 + k ∧ stD l m q hd ws j = (curP (curP l m) (recsW q (curP l m) ws), ws.take k)) ∨
    (j = 2 * ws.length + 3 ∧ stD l m q hd ws j = (curP (curP (curP l m) (recsW q (curP l m) ws)) ws, [])) ∨ (j = 2 * ws.length + 4 ∧ stD l m q hd ws j = (curP (curP (curP l m) (recsW q (curP l m) ws)) ws, [headW q hd])) ∨ (j = 2 * ws.length + 5 ∧ stD l m q hd ws j = (curP (curP (curP (curP l m) (recsW q (curP l m) ws)) ws) [headW q hd], [])) := by
  have A := @acts_at q (curP l m) hd ws
  have s1 : ∀ k, k ≤ ws.length → stD l m q hd ws (k + 1) = (curP l m, (recsW q (curP l m) ws).take k) := fun k => by
    induction k with
    | zero => exact fun _ => stD_one l m q hd ws
    | succ k ih =>
      intro hk
      have hx := List.getElem?_eq_getElem (show k < ws.length by omega)
      rw [stD_next (A.2.1 k _ hx), ih (by omega), recs_next hx]; rfl
  have s2 : ∀ k, k ≤ ws.length → stD l m q hd ws (ws.length + 2 + k) = (curP (curP l m) (recsW q (curP l m) ws), ws.take k) := fun k => by
    induction k with
    | zero =>
      intro _
      rw [Nat.add_zero, show ws.length + 2 = (ws.length + 1) + 1 by omega, stD_next A.2.2.1, s1 _ (Nat.le_refl _), recs_all]; rfl
    | succ k ih =>
      intro hk
      have hx := List.getElem?_eq_getElem (show k < ws.length by omega)
      rw [show ws.length + 2 + (k + 1) = (ws.length + 2 + k) + 1 by omega, stD_next (A.2.2.2.1 k _ hx), ih (by omega), List.take_succ_eq_append_getElem (show k < ws.length by omega)]; rfl
  have s3 : stD l m q hd ws (2 * ws.length + 3) = (curP (curP (curP l m) (recsW q (curP l m) ws)) ws, []) := by
    rw [show 2 * ws.length + 3 = (2 * ws.length + 2) + 1 by omega, stD_next A.2.2.2.2.1, show 2 * ws.length + 2 = ws.length + 2 + ws.length by omega, s2 _ (Nat.le_refl _), List.take_of_length_le (Nat.le_refl _)]; rfl
  have s4 : stD l m q hd ws (2 * ws.length + 4) = (curP (curP (curP l m) (recsW q (curP l m) ws)) ws, [headW q hd]) := by
    rw [show 2 * ws.length + 4 = (2 * ws.length + 3) + 1 by omega, stD_next A.2.2.2.2.2.1, s3]; rfl
  have s5 : stD l m q hd ws (2 * ws.length + 5) = (curP (curP (curP (curP l m) (recsW q (curP l m) ws)) ws) [headW q hd], []) := by
    rw [show 2 * ws.length + 5 = (2 * ws.length + 4) + 1 by omega, stD_next A.2.2.2.2.2.2, s4]; rfl
  rcases (by omega : j ≤ ws.length + 1 ∨ (ws.length + 2 ≤ j ∧ j ≤ 2 * ws.length + 2) ∨ j = 2 * ws.length + 3 ∨ j = 2 * ws.length + 4 ∨ j = 2 * ws.length + 5) with h | h | h | h | h
  · exact .inl ⟨j - 1, by omega, by omega, by rw [← s1 (j - 1) (by omega)]; congr 1; omega⟩
  · exact .inr (.inl ⟨j - (ws.length + 2), by omega, by omega, by rw [← s2 (j - (ws.length + 2)) (by omega)]; congr 1; omega⟩)
  · exact .inr (.inr (.inl ⟨h, by rw [h, s3]⟩))
  · exact .inr (.inr (.inr (.inl ⟨h, by rw [h, s4]⟩)))
  · exact .inr (.inr (.inr (.inr ⟨h, by rw [h, s5]⟩)))
theorem stD_ok {l : List ByteArray} {m : List Wr} {q : Nat} {hd : ByteArray} {ws : List Wr} (G : GpC q (curP l m) hd ws) (j : Nat) (h1 : 1 ≤ j) (h2 : j ≤ 2 * ws.length + 5) : dkErr (stD l m q hd ws j).1 (stD l m q hd ws j).2 = 0 ∧ (stD l m q hd ws j).1.length = 201 ∧ (stD l m q hd ws j).2.length ≤ 100 := by
 have hn := G.n
 rcases stD_cases (l := l) (m := m) (q := q) (hd := hd) (ws := ws) j h1 h2 with ⟨k, hk, -, e⟩ | ⟨k, hk, -, e⟩ | ⟨-, e⟩ | ⟨-, e⟩ | ⟨-, e⟩ <;> rw [e]
 ·exact ⟨G.dk1 k, G.l0, by rw [List.length_take]; omega⟩
 ·exact ⟨G.dk2 k, G.l1, by rw [List.length_take]; omega⟩
 ·exact ⟨G.d2, G.l2, by simp⟩
 ·exact ⟨G.dk3, G.l2, by simp⟩
 ·refine ⟨done_err _ G.dk3, ?_, by simp⟩
  show (curP _ _).length = 201
  unfold curP
  rw [doneL_len]; exact G.l2
open Go.RowKit
structure RxH (w2 wO : World) (g : Nat) (p V v : Value) (L : List ByteArray) (M : List Wr) (u : World) : Prop where
 box : u.heap[g]? = some (.cells #[p, V] 25 (0, 0))
 pg : OwnP 0 u p L
 own : OwnW wO.heap.size u v M
 cw : Calm w2 u
 ot : ∀ k, k < wO.heap.size → k ≠ g → u.heap[k]? = wO.heap[k]?
 sz : wO.heap.size ≤ u.heap.size
theorem RxH.calm {w2 wO u u' : World} {g : Nat} {p V v : Value} {L : List ByteArray} {M : List Wr} (h : RxH w2 wO g p V v L M u) (hb : Calm u u') : RxH w2 wO g p V v L M u' :=
 ⟨(hb.block (rowD h.box).2.2).trans h.box, h.pg.calm hb, h.own.calm hb, h.cw.call hb, fun k h1 h2 => (hb.block (Nat.lt_of_lt_of_le h1 h.sz)).trans (h.ot k h1 h2), Nat.le_trans h.sz hb.size⟩
theorem RxI.half {w2 wO u u1 u2 : World} {g : Nat} {L : List ByteArray} {M M' : List Wr} {P Q : Option Addr} {cp cq : Nat} {v : Value} (h : RxI w2 wO g L M u) (h2g : w2.heap.size ≤ g) (hgO : g < wO.heap.size) (h1 : u.heap[g]? = some (.cells #[.slice P L.length cp, .slice Q M.length cq] 25 (0, 0))) (hP : OwnP 0 u (.slice P L.length cp) L) (hQ : OwnW wO.heap.size u (.slice Q M.length cq) M) (hu : Calm u u1)
    (ho : OwnW wO.heap.size u2 v M') (hgr : u1.grownBy u2 (.slice Q M.length cq : Value).ownBlock) : RxH w2 wO g (.slice P L.length cp) (.slice Q M.length cq) v L M' u2 := by
  have hP1 := hP.calm hu
  have hQ1 := hQ.calm hu
  have hb1 : u1.heap[g]? = some (.cells #[.slice P L.length cp, .slice Q M.length cq] 25 (0, 0)) := (hu.block (rowD h1).2.2).trans h1
  have hQb : ∀ k, (.slice Q M.length cq : Value).ownBlock = some k → wO.heap.size ≤ k := fun k hk => (OwnG.lt hQ k hk).1
  refine ⟨(hgr.block g (rowD hb1).2.2 (fun e => by have := hQb g e.symm; omega)).trans hb1, OwnG.same hP1 fun k hk => hgr.block k (OwnG.lt hP1 k hk).2 (fun e => OwnG.other_ (by decide) hP1 hQ1 hk e.symm), ho, Calm.grownG (h.cw.call hu) (by omega) hQ1 hgr, fun k hk1 hk2 => ?_, ?_⟩
  · rw [hgr.block k (Nat.lt_of_lt_of_le hk1 (Nat.le_trans h.sz hu.size)) (fun e => by have := hQb k e.symm; omega), hu.block (Nat.lt_of_lt_of_le hk1 h.sz)]
    exact h.ot k hk1 hk2
  · have := hgr.size; have := hu.size; have := h.sz
    omega
theorem RxH.done {w2 wO u : World} {g : Nat} {P A : Option Addr} {cp c : Nat} {V : Value} {L : List ByteArray} {M : List Wr} (h : RxH w2 wO g (.slice P L.length cp) V (.slice A M.length c) L M u) (h2g : w2.heap.size ≤ g) (hgO : g < wO.heap.size) : RxI w2 wO g L M (u.setCell ⟨g, 1, none⟩ (.slice A M.length c)) := by
 refine ⟨⟨P, cp, A, c, heap_setCell_same u g 1 _ _ _ h.box, OwnG.same h.pg fun k hk => heap_setCell_other u ⟨g, 1, none⟩ k _ (fun e => own_box (by decide) h.pg h.box (hk.trans (by rw [show k = g from e]))), rowsG_set h.own hgO 1 _⟩, h.cw.setCell (p := ⟨g, 1, none⟩) h2g _, fun k hk1 hk2 => (heap_setCell_other u ⟨g, 1, none⟩ k _ hk2).trans (h.ot k hk1 hk2), ?_⟩
 have := h.sz
 simp; omega
def PtS (wr w2 wO : World) (g : Nat) (p V : Value) (L : List ByteArray) (M : List Wr) (i : Int) (s : ByteArray) : Nat → (Nat → Value) → World → Prop
 | 0, _, u => Calm wr u
 | 1, Y, u => (∃ gl, Y 9 = .slice (some ⟨gl, 0, none⟩) 1 1 ∧ u.heap[gl]? = some (.cells #[.int .i64 i, .string s] 45 (0, 0))) ∧ Calm wr u
 | 2, Y, u => RxH w2 wO g p V (Y 10) L (M ++ [⟨i, s⟩]) u
 |_, _, u => RxI w2 wO g L (M ++ [⟨i, s⟩]) u
theorem PtS.calm {wr w2 wO : World} {g : Nat} {p V : Value} {L : List ByteArray} {M : List Wr} {i : Int} {s : ByteArray} : ∀ (k : Nat) (Y : Nat → Value) (u u' : World), PtS wr w2 wO g p V L M i s k Y u → Calm u u' → PtS wr w2 wO g p V L M i s k Y u'
 | 0, _, _, _, h, hb => Calm.call h hb
 | 1, _, _, _, ⟨⟨gl, a, b⟩, h⟩, hb => ⟨⟨gl, a, (hb.block (Array.getElem?_eq_some_iff.1 b).1).trans b⟩, h.call hb⟩
 | 2, _, _, _, h, hb => RxH.calm h hb
 |_ + 3, _, _, _, h, hb => RxI.calm h hb
/-- A write of the argument reads as it did, at any stage. -/
theorem PtS.w2 {wr w2 wO u : World} {g : Nat} {p V : Value} {L : List ByteArray} {M : List Wr} {i : Int} {s : ByteArray} {Y : Nat → Value} (hc : Calm w2 wr) : ∀ {k : Nat}, PtS wr w2 wO g p V L M i s k Y u → Calm w2 u
 | 0, h => hc.call h
 | 1, h => hc.call h.2
 | 2, h => RxH.cw h
 |_ + 3, h => RxI.cw h
theorem PtS.box {wr w2 wO u : World} {g : Nat} {p V : Value} {L : List ByteArray} {M : List Wr} {i : Int} {s : ByteArray} {Y : Nat → Value} (hb : wr.heap[g]? = some (.cells #[p, V] 25 (0, 0))) : ∀ {k : Nat}, k ≤ 2 → PtS wr w2 wO g p V L M i s k Y u → u.heap[g]? = some (.cells #[p, V] 25 (0, 0))
 | 0, _, h => (Calm.block h (rowD hb).2.2).trans hb
 | 1, _, h => (h.2.block (rowD hb).2.2).trans hb
 | 2, _, h => RxH.box h
end Go.Proofs.Ytmpgikplpohjnaa
