/- Texts of one kind in one file. -/
import Derived.Test.YtkppoapjifeifaaPkDiskSays2
set_option maxRecDepth 100000
namespace Go.Proofs.Ytkppoapjifeifaa
open Go.RowKit
theorem ds_same {u : World} {P P' : Option Addr} {n cp cp' : Nat} {L : List ByteArray} (hP : LiesP u P L) (hP' : LiesP u P' L) (hn : L.length = n) (hl : n ≤ 9223372036854775807) : Calls Try.prog 19 #[.agg #[.slice P n cp, .slice none 0 0], .agg #[.slice P' n cp', .slice none 0 0]] u fun e w' => e = .returned (.bool true) ∧ Calm u w' := by
 subst hn
 exact sameDisk_self P none P' none cp 0 cp' 0 L [] u hP LiesG.nil_ hP' LiesG.nil_ hl (by simp)
theorem ds_field (a d : Option Addr) (n c k e : Nat) (w : World) : (Instr.field 25 (.agg #[.slice a n c, .slice d k e]) 0).run Try.prog w = .ok (.slice a n c) w := by
 kernel_rfl
theorem ds_cell {u : World} {P : Option Addr} {L : List ByteArray} {k : Nat} {T : ByteArray} (h : LiesP u P L) (hk : L[k]? = some T) : ∃ b q, P = some ⟨b, q, none⟩ ∧ b < u.heap.size ∧ u.cell? ⟨b, q + k, none⟩ = some (.string T) := by
 obtain ⟨b, q, t, h1, h2, h3, h4⟩ := h.get (List.getElem?_eq_some_iff.1 hk).1
 have : t = T := Option.some.inj (h3.out.symm.trans hk)
 subst this
 exact ⟨b, q, h1, h2, h4⟩
theorem ds_read {l : List ByteArray} {m : List Wr} (h0 : dkErr l m = 0) {k : Nat} (hk : k < l.length) : rdE l m (k : Int) = 0 ∧ (curP l m)[k]? = some (rdS l m (k : Int)) := by
 have e1 : rdE l m (k : Int) = 0 := by unfold rdE; rw [if_pos h0, if_neg (by omega)]
 refine ⟨e1, ?_⟩
 have e2 : rdS l m (k : Int) = rdL k m l[k] := by
  unfold rdS
  rw [e1, if_pos rfl, Int.toNat_natCast, List.getD_eq_getElem?_getD, List.getElem?_eq_getElem hk]; rfl
 rw [e2]
 exact done_read rfl (dkErr_zero.1 h0).2.2.2 k _ (List.getElem?_eq_getElem hk)
theorem ds_out {l : List ByteArray} {m : List Wr} (h0 : dkErr l m = 0) {i : Int} (s : ByteArray) (hi : i < 0 ∨ (l.length : Int) ≤ i) : rdE l m i = 1 ∧ rdS l m i = { data := #[] } ∧ ptE l m ⟨i, s⟩ = 1 := by
 have e1 : rdE l m i = 1 := by unfold rdE; rw [if_pos h0, if_pos hi]
 refine ⟨e1, by unfold rdS; rw [e1]; rfl, ?_⟩
 have : wrE l.length ⟨i, s⟩ = 1 := by unfold wrE; exact if_pos hi
 unfold ptE
 rw [if_pos h0, this, if_neg (by decide)]
theorem ds_wrong {l : List ByteArray} {m : List Wr} (h0 : dkErr l m ≠ 0) (i : Int) (s : ByteArray) : rdE l m i = dkErr l m ∧ rdS l m i = { data := #[] } ∧ ptE l m ⟨i, s⟩ = dkErr l m := by
 have e1 : rdE l m i = dkErr l m := by unfold rdE; rw [if_neg h0]
 exact ⟨e1, by unfold rdS; rw [if_neg (by rw [e1]; exact h0)], by unfold ptE; rw [if_neg h0]⟩
theorem ds_in {l : List ByteArray} {m : List Wr} (h0 : dkErr l m = 0) {k : Nat} (s : ByteArray) (hk : k < l.length) : ptE l m ⟨(k : Int), s⟩ = if 3500 < s.size then 2 else if m.length = 400 then 8 else 0 := by
 have : wrE l.length ⟨(k : Int), s⟩ = if 3500 < s.size then 2 else 0 := by unfold wrE; exact if_neg (by simp only; omega)
 unfold ptE
 rw [if_pos h0, this]
 by_cases h : 3500 < s.size
 ·rw [if_pos h, if_pos h, if_neg (by decide)]
 ·rw [if_neg h, if_neg h, if_pos rfl]
set_option maxHeartbeats 16000000 in
theorem ds_bad (P Q : Option Addr) (cp cq : Nat) (l : List ByteArray) (m : List Wr) (i : Int) (s : ByteArray) (A : Option Addr) (c : Nat) (K : List Bool) (w : World) (hh : HasD w P Q l m) (hn : l.length ≤ 9223372036854775807) (hm : m.length ≤ 9223372036854775807) (hK : LiesO w A K) (h0 : dkErr l m ≠ 0) :
    Calls Try.prog 3 #[.agg #[.slice P l.length cp, .slice Q m.length cq], .int .i64 i, .string s, .slice A K.length c] w fun e w' => e = .returned (.bool true) ∧ Calm w w' := by
  have xx := heap_past (.cells #[.slice A K.length c] 26) (heap_new w (.cells #[.slice P l.length cp, .slice Q m.length cq] 25))
  have xk := heap_new (w.alloc (.cells #[.slice P l.length cp, .slice Q m.length cq] 25)) (.cells #[.slice A K.length c] 26)
  rw [World.size_alloc] at xk
  have hu := ((Calm.refl w).alloc (.cells #[.slice P l.length cp, .slice Q m.length cq] 25)).alloc (.cells #[.slice A K.length c] 26)
  obtain ⟨e1, e2, e3⟩ := ds_wrong h0 i s
  have cR := fun u (hu : Calm w u) => diskRead_any P Q cp cq l m i u (hh.calm hu).p (hh.calm hu).q hn hm
  rw [e1, e2] at cR
  have cP := fun u (hu : Calm w u) => (hh.calm hu).put_bad cp cq hn hm e3 h0
  have cS := fun u (hu : Calm w u) => (hh.calm hu).sync_bad cp cq hn hm rfl h0
  have cK := fun u (hu : Calm w u) => (hh.calm hu).crash_bad cp cq hn hm rfl h0 A c K (hK.calm hu)
  have cD := fun u (hu : Calm w u) => refDisk_any P Q cp cq l m u (hh.calm hu).p (hh.calm hu).q hn hm
  have cC := fun u (hu : Calm w u) => diskCheck_any P Q cp cq l m u (hh.calm hu).p (hh.calm hu).q hn hm
  have b2 : (dkErr l m != 0) = true := by rw [bne_iff_ne]; exact h0
  clear h0 e1 e2 e3 hh hK hn hm
  generalize dkErr l m = F at cR cP cS cK cD cC b2
  go_enter Try.func3, Try.ntmps3
  go_upto_region 1 with fail
  generalize (w.alloc (.cells #[.slice P l.length cp, .slice Q m.length cq] 25)).alloc (.cells #[.slice A K.length c] 26) = w0 at xx xk hu ⊢
  generalize w.heap.size + 1 = gk at xk ⊢
  generalize w.heap.size = gx at xx ⊢
  obtain ⟨xx_0, xx_1, xx_s⟩ := rowD xx; obtain ⟨xk_0, xk_s⟩ := row1 xk
  go_wp2_with (first
      | (go_at_call 13; (with_reducible refine (cR _ hu).mono ?_); rintro e w1 ⟨rfl, hk⟩; clear cR; clear xx_0 xx_1 xx_s; clear xk_0 xk_s; replace xx := (hk.block (rowD xx).2.2).trans xx; replace xk := (hk.block (row1 xk).2).trans xk; replace hu := hu.call hk; clear hk; obtain ⟨xx_0, xx_1, xx_s⟩ := rowD xx; obtain ⟨xk_0, xk_s⟩ := row1 xk)
      | (go_at_call 14; (with_reducible refine (cP _ hu).mono ?_); rintro e w2 ⟨rfl, hk⟩; clear cP; clear xx_0 xx_1 xx_s; clear xk_0 xk_s; replace xx := (hk.block (rowD xx).2.2).trans xx; replace xk := (hk.block (row1 xk).2).trans xk; replace hu := hu.call hk; clear hk; obtain ⟨xx_0, xx_1, xx_s⟩ := rowD xx; obtain ⟨xk_0, xk_s⟩ := row1 xk; clear xx_0 xx_1 xx_s; clear xk_0 xk_s; replace xx := heap_past (.cells #[.slice none 0 0, .slice none 0 0] 25) xx; replace xk := heap_past (.cells #[.slice none 0 0, .slice none 0 0] 25) xk; replace hu := hu.alloc (.cells #[.slice none 0 0, .slice none 0 0] 25); have xa := heap_new w2 (.cells #[.slice none 0 0, .slice none 0 0] 25); obtain ⟨xx_0, xx_1, xx_s⟩ := rowD xx; obtain ⟨xk_0, xk_s⟩ := row1 xk; obtain ⟨xa_0, xa_1, xa_s⟩ := rowD xa)
      | (go_at_call 15; (with_reducible refine (cS _ hu).mono ?_); rintro e w3 ⟨rfl, hk⟩; clear cS; clear xx_0 xx_1 xx_s; clear xk_0 xk_s; clear xa_0 xa_1 xa_s; replace xx := (hk.block (rowD xx).2.2).trans xx; replace xk := (hk.block (row1 xk).2).trans xk; replace xa := (hk.block (rowD xa).2.2).trans xa; replace hu := hu.call hk; clear hk; obtain ⟨xx_0, xx_1, xx_s⟩ := rowD xx; obtain ⟨xk_0, xk_s⟩ := row1 xk; obtain ⟨xa_0, xa_1, xa_s⟩ := rowD xa; clear xx_0 xx_1 xx_s; clear xk_0 xk_s; clear xa_0 xa_1 xa_s; replace xx := heap_past (.cells #[.slice none 0 0, .slice none 0 0] 25) xx; replace xk := heap_past (.cells #[.slice none 0 0, .slice none 0 0] 25) xk; replace xa := heap_past (.cells #[.slice none 0 0, .slice none 0 0] 25) xa; replace hu := hu.alloc (.cells #[.slice none 0 0, .slice none 0 0] 25); have xb := heap_new w3 (.cells #[.slice none 0 0, .slice none 0 0] 25); obtain ⟨xx_0, xx_1, xx_s⟩ := rowD xx; obtain ⟨xk_0, xk_s⟩ := row1 xk; obtain ⟨xa_0, xa_1, xa_s⟩ := rowD xa; obtain ⟨xb_0, xb_1, xb_s⟩ := rowD xb)
      | (go_at_call 16; (with_reducible refine (cK _ hu).mono ?_); rintro e w4 ⟨rfl, hk⟩; clear cK; clear xx_0 xx_1 xx_s; clear xk_0 xk_s; clear xa_0 xa_1 xa_s; clear xb_0 xb_1 xb_s; replace xx := (hk.block (rowD xx).2.2).trans xx; replace xk := (hk.block (row1 xk).2).trans xk; replace xa := (hk.block (rowD xa).2.2).trans xa; replace xb := (hk.block (rowD xb).2.2).trans xb; replace hu := hu.call hk; clear hk; obtain ⟨xx_0, xx_1, xx_s⟩ := rowD xx; obtain ⟨xk_0, xk_s⟩ := row1 xk; obtain ⟨xa_0, xa_1, xa_s⟩ := rowD xa; obtain ⟨xb_0, xb_1, xb_s⟩ := rowD xb; clear xx_0 xx_1 xx_s; clear xk_0 xk_s; clear xa_0 xa_1 xa_s; clear xb_0 xb_1 xb_s; replace xx := heap_past (.cells #[.slice none 0 0, .slice none 0 0] 25) xx; replace xk := heap_past (.cells #[.slice none 0 0, .slice none 0 0] 25) xk; replace xa := heap_past (.cells #[.slice none 0 0, .slice none 0 0] 25) xa; replace xb := heap_past (.cells #[.slice none 0 0, .slice none 0 0] 25) xb; replace hu := hu.alloc (.cells #[.slice none 0 0, .slice none 0 0] 25); have xc := heap_new w4 (.cells #[.slice none 0 0, .slice none 0 0] 25); obtain ⟨xx_0, xx_1, xx_s⟩ := rowD xx; obtain ⟨xk_0, xk_s⟩ := row1 xk; obtain ⟨xa_0, xa_1, xa_s⟩ := rowD xa; obtain ⟨xb_0, xb_1, xb_s⟩ := rowD xb; obtain ⟨xc_0, xc_1, xc_s⟩ := rowD xc)
      | (go_at_call 17; (with_reducible refine (cD _ hu).mono ?_); rintro e w5 ⟨rfl, hk⟩; clear cD; clear xx_0 xx_1 xx_s; clear xk_0 xk_s; clear xa_0 xa_1 xa_s; clear xb_0 xb_1 xb_s; clear xc_0 xc_1 xc_s; replace xx := (hk.block (rowD xx).2.2).trans xx; replace xk := (hk.block (row1 xk).2).trans xk; replace xa := (hk.block (rowD xa).2.2).trans xa; replace xb := (hk.block (rowD xb).2.2).trans xb; replace xc := (hk.block (rowD xc).2.2).trans xc; replace hu := hu.call hk; clear hk; obtain ⟨xx_0, xx_1, xx_s⟩ := rowD xx; obtain ⟨xk_0, xk_s⟩ := row1 xk; obtain ⟨xa_0, xa_1, xa_s⟩ := rowD xa; obtain ⟨xb_0, xb_1, xb_s⟩ := rowD xb; obtain ⟨xc_0, xc_1, xc_s⟩ := rowD xc)
      | (go_at_call 18; (with_reducible refine (cC _ hu).mono ?_); rintro e w6 ⟨rfl, hk⟩; clear cC; clear xx_0 xx_1 xx_s; clear xk_0 xk_s; clear xa_0 xa_1 xa_s; clear xb_0 xb_1 xb_s; clear xc_0 xc_1 xc_s; replace xx := (hk.block (rowD xx).2.2).trans xx; replace xk := (hk.block (row1 xk).2).trans xk; replace xa := (hk.block (rowD xa).2.2).trans xa; replace xb := (hk.block (rowD xb).2.2).trans xb; replace xc := (hk.block (rowD xc).2.2).trans xc; replace hu := hu.call hk; clear hk; obtain ⟨xx_0, xx_1, xx_s⟩ := rowD xx; obtain ⟨xk_0, xk_s⟩ := row1 xk; obtain ⟨xa_0, xa_1, xa_s⟩ := rowD xa; obtain ⟨xb_0, xb_1, xb_s⟩ := rowD xb; obtain ⟨xc_0, xc_1, xc_s⟩ := rowD xc)
      | (go_at_call 19; (with_reducible refine (sameDisk_zero _).mono ?_); rintro e w9 ⟨rfl, hk⟩; clear xx_0 xx_1 xx_s; clear xk_0 xk_s; clear xa_0 xa_1 xa_s; clear xb_0 xb_1 xb_s; clear xc_0 xc_1 xc_s; replace xx := (hk.block (rowD xx).2.2).trans xx; replace xk := (hk.block (row1 xk).2).trans xk; replace xa := (hk.block (rowD xa).2.2).trans xa; replace xb := (hk.block (rowD xb).2.2).trans xb; replace xc := (hk.block (rowD xc).2.2).trans xc; replace hu := hu.call hk; clear hk; obtain ⟨xx_0, xx_1, xx_s⟩ := rowD xx; obtain ⟨xk_0, xk_s⟩ := row1 xk; obtain ⟨xa_0, xa_1, xa_s⟩ := rowD xa; obtain ⟨xb_0, xb_1, xb_s⟩ := rowD xb; obtain ⟨xc_0, xc_1, xc_s⟩ := rowD xc))
  go_ret
  exact ⟨rfl, hu⟩
set_option maxHeartbeats 16000000 in
theorem ds_past (P Q : Option Addr) (cp cq : Nat) (l : List ByteArray) (m : List Wr) (i : Int) (s : ByteArray) (A : Option Addr) (c : Nat) (K : List Bool) (w : World) (hh : HasD w P Q l m) (hn : l.length ≤ 9223372036854775807) (hm : m.length ≤ 9223372036854775807) (hK : LiesO w A K) (h0 : dkErr l m = 0) (hi : i < 0 ∨ (l.length : Int) ≤ i) :
    Calls Try.prog 3 #[.agg #[.slice P l.length cp, .slice Q m.length cq], .int .i64 i, .string s, .slice A K.length c] w fun e w' => e = .returned (.bool true) ∧ Calm w w' := by
  have xx := heap_past (.cells #[.slice A K.length c] 26) (heap_new w (.cells #[.slice P l.length cp, .slice Q m.length cq] 25))
  have xk := heap_new (w.alloc (.cells #[.slice P l.length cp, .slice Q m.length cq] 25)) (.cells #[.slice A K.length c] 26)
  rw [World.size_alloc] at xk
  have hu := ((Calm.refl w).alloc (.cells #[.slice P l.length cp, .slice Q m.length cq] 25)).alloc (.cells #[.slice A K.length c] 26)
  obtain ⟨e1, e2, e3⟩ := ds_out h0 s hi
  have cR := fun u (hu : Calm w u) => diskRead_any P Q cp cq l m i u (hh.calm hu).p (hh.calm hu).q hn hm
  rw [e1, e2] at cR
  have cP := fun u (hu : Calm w u) => (hh.calm hu).put_bad cp cq hn hm e3 (by decide)
  clear e1 e2 e3 hn hm
  have hn := (dk_len h0).1
  have hm := (dk_len h0).2
  have cS := fun u (hu : Calm w u) => (hh.calm hu).sync cp cq h0
  have cK := fun u (hu : Calm w u) => (hh.calm hu).crash cp cq h0 A c K (hK.calm hu)
  have cD := fun u (hu : Calm w u) => refDisk_any P Q cp cq l m u (hh.calm hu).p (hh.calm hu).q hn hm
  have cC := fun u (hu : Calm w u) => diskCheck_any P Q cp cq l m u (hh.calm hu).p (hh.calm hu).q hn hm
  have cSy := fun u (hu : Calm w u) => synced_any P Q cp cq l m u (hh.calm hu).p (hh.calm hu).q h0
  have cDn := fun B u (hu : Calm w u) (hB : KBx B A K.length c u) => doneCrash_any P Q cp cq l m B A c K u (hh.calm hu).p (hh.calm hu).q h0 hB (hK.calm hu)
  unfold DoneEnd at cSy cDn
  rw [h0] at cD cC
  have hLl : (doneL (fun _ => true) 0 m l).length = l.length := doneL_len _ _ _ _
  have hCl : (doneL (selK K) 0 m l).length = l.length := doneL_len _ _ _ _
  unfold curP at cS
  clear h0 hK hm
  generalize doneL (fun _ => true) 0 m l = LS at cS cSy hLl
  generalize doneL (selK K) 0 m l = LC at cK cDn hCl
  go_enter Try.func3, Try.ntmps3
  go_upto_region 1 with fail
  generalize (w.alloc (.cells #[.slice P l.length cp, .slice Q m.length cq] 25)).alloc (.cells #[.slice A K.length c] 26) = w0 at xx xk hu ⊢
  generalize w.heap.size + 1 = gk at xk ⊢
  generalize w.heap.size = gx at xx ⊢
  obtain ⟨xx_0, xx_1, xx_s⟩ := rowD xx; obtain ⟨xk_0, xk_s⟩ := row1 xk
  go_upto_region 10 with (first
      | (go_at_call 13; (with_reducible refine (cR _ hu).mono ?_); rintro e w1 ⟨rfl, hk⟩; clear cR; clear xx_0 xx_1 xx_s; clear xk_0 xk_s; replace xx := (hk.block (rowD xx).2.2).trans xx; replace xk := (hk.block (row1 xk).2).trans xk; replace hu := hu.call hk; clear hk; obtain ⟨xx_0, xx_1, xx_s⟩ := rowD xx; obtain ⟨xk_0, xk_s⟩ := row1 xk)
      | (go_at_call 14; (with_reducible refine (cP _ hu).mono ?_); rintro e w2 ⟨rfl, hk⟩; clear cP; clear xx_0 xx_1 xx_s; clear xk_0 xk_s; replace xx := (hk.block (rowD xx).2.2).trans xx; replace xk := (hk.block (row1 xk).2).trans xk; replace hu := hu.call hk; clear hk; obtain ⟨xx_0, xx_1, xx_s⟩ := rowD xx; obtain ⟨xk_0, xk_s⟩ := row1 xk; clear xx_0 xx_1 xx_s; clear xk_0 xk_s; replace xx := heap_past (.cells #[.slice none 0 0, .slice none 0 0] 25) xx; replace xk := heap_past (.cells #[.slice none 0 0, .slice none 0 0] 25) xk; replace hu := hu.alloc (.cells #[.slice none 0 0, .slice none 0 0] 25); have xa := heap_new w2 (.cells #[.slice none 0 0, .slice none 0 0] 25); obtain ⟨xx_0, xx_1, xx_s⟩ := rowD xx; obtain ⟨xk_0, xk_s⟩ := row1 xk; obtain ⟨xa_0, xa_1, xa_s⟩ := rowD xa)
      | (go_at_call 15; (with_reducible refine (cS _ hu).mono ?_); rintro e w3 ⟨P6, cp6, rfl, ho6, hk⟩; have HP6 := Lib.hid ((OwnP.at_ ho6).2.calm ((Calm.refl _).alloc (.cells #[.slice P6 l.length cp6, .slice none 0 0] 25))); clear ho6 cS; clear xx_0 xx_1 xx_s; clear xk_0 xk_s; clear xa_0 xa_1 xa_s; replace xx := (hk.block (rowD xx).2.2).trans xx; replace xk := (hk.block (row1 xk).2).trans xk; replace xa := (hk.block (rowD xa).2.2).trans xa; replace hu := hu.call hk; clear hk; obtain ⟨xx_0, xx_1, xx_s⟩ := rowD xx; obtain ⟨xk_0, xk_s⟩ := row1 xk; obtain ⟨xa_0, xa_1, xa_s⟩ := rowD xa; clear xx_0 xx_1 xx_s; clear xk_0 xk_s; clear xa_0 xa_1 xa_s; replace xx := heap_past (.cells #[.slice P6 l.length cp6, .slice none 0 0] 25) xx; replace xk := heap_past (.cells #[.slice P6 l.length cp6, .slice none 0 0] 25) xk; replace xa := heap_past (.cells #[.slice P6 l.length cp6, .slice none 0 0] 25) xa; replace hu := hu.alloc (.cells #[.slice P6 l.length cp6, .slice none 0 0] 25); have xb := heap_new w3 (.cells #[.slice P6 l.length cp6, .slice none 0 0] 25); obtain ⟨xx_0, xx_1, xx_s⟩ := rowD xx; obtain ⟨xk_0, xk_s⟩ := row1 xk; obtain ⟨xa_0, xa_1, xa_s⟩ := rowD xa; obtain ⟨xb_0, xb_1, xb_s⟩ := rowD xb)
      | (go_at_call 16; (with_reducible refine (cK _ hu).mono ?_); rintro e w4 ⟨P7, cp7, rfl, ho7, hk⟩; have HP7 := Lib.hid ((OwnP.at_ ho7).2.calm ((Calm.refl _).alloc (.cells #[.slice P7 l.length cp7, .slice none 0 0] 25))); clear ho7 cK; clear xx_0 xx_1 xx_s; clear xk_0 xk_s; clear xa_0 xa_1 xa_s; clear xb_0 xb_1 xb_s; replace xx := (hk.block (rowD xx).2.2).trans xx; replace xk := (hk.block (row1 xk).2).trans xk; replace xa := (hk.block (rowD xa).2.2).trans xa; replace xb := (hk.block (rowD xb).2.2).trans xb; replace HP6 := Lib.hid (HP6.out.calm hk); replace hu := hu.call hk; clear hk; obtain ⟨xx_0, xx_1, xx_s⟩ := rowD xx; obtain ⟨xk_0, xk_s⟩ := row1 xk; obtain ⟨xa_0, xa_1, xa_s⟩ := rowD xa; obtain ⟨xb_0, xb_1, xb_s⟩ := rowD xb; clear xx_0 xx_1 xx_s; clear xk_0 xk_s; clear xa_0 xa_1 xa_s; clear xb_0 xb_1 xb_s; replace xx := heap_past (.cells #[.slice P7 l.length cp7, .slice none 0 0] 25) xx; replace xk := heap_past (.cells #[.slice P7 l.length cp7, .slice none 0 0] 25) xk; replace xa := heap_past (.cells #[.slice P7 l.length cp7, .slice none 0 0] 25) xa; replace xb := heap_past (.cells #[.slice P7 l.length cp7, .slice none 0 0] 25) xb; replace HP6 := Lib.hid (HP6.out.calm ((Calm.refl _).alloc (.cells #[.slice P7 l.length cp7, .slice none 0 0] 25))); replace hu := hu.alloc (.cells #[.slice P7 l.length cp7, .slice none 0 0] 25); have xc := heap_new w4 (.cells #[.slice P7 l.length cp7, .slice none 0 0] 25); obtain ⟨xx_0, xx_1, xx_s⟩ := rowD xx; obtain ⟨xk_0, xk_s⟩ := row1 xk; obtain ⟨xa_0, xa_1, xa_s⟩ := rowD xa; obtain ⟨xb_0, xb_1, xb_s⟩ := rowD xb; obtain ⟨xc_0, xc_1, xc_s⟩ := rowD xc)
      | (go_at_call 17; (with_reducible refine (cD _ hu).mono ?_); rintro e w5 ⟨rfl, hk⟩; clear cD; clear xx_0 xx_1 xx_s; clear xk_0 xk_s; clear xa_0 xa_1 xa_s; clear xb_0 xb_1 xb_s; clear xc_0 xc_1 xc_s; replace xx := (hk.block (rowD xx).2.2).trans xx; replace xk := (hk.block (row1 xk).2).trans xk; replace xa := (hk.block (rowD xa).2.2).trans xa; replace xb := (hk.block (rowD xb).2.2).trans xb; replace xc := (hk.block (rowD xc).2.2).trans xc; replace HP6 := Lib.hid (HP6.out.calm hk); replace HP7 := Lib.hid (HP7.out.calm hk); replace hu := hu.call hk; clear hk; obtain ⟨xx_0, xx_1, xx_s⟩ := rowD xx; obtain ⟨xk_0, xk_s⟩ := row1 xk; obtain ⟨xa_0, xa_1, xa_s⟩ := rowD xa; obtain ⟨xb_0, xb_1, xb_s⟩ := rowD xb; obtain ⟨xc_0, xc_1, xc_s⟩ := rowD xc)
      | (go_at_call 18; (with_reducible refine (cC _ hu).mono ?_); rintro e w6 ⟨rfl, hk⟩; clear cC; clear xx_0 xx_1 xx_s; clear xk_0 xk_s; clear xa_0 xa_1 xa_s; clear xb_0 xb_1 xb_s; clear xc_0 xc_1 xc_s; replace xx := (hk.block (rowD xx).2.2).trans xx; replace xk := (hk.block (row1 xk).2).trans xk; replace xa := (hk.block (rowD xa).2.2).trans xa; replace xb := (hk.block (rowD xb).2.2).trans xb; replace xc := (hk.block (rowD xc).2.2).trans xc; replace HP6 := Lib.hid (HP6.out.calm hk); replace HP7 := Lib.hid (HP7.out.calm hk); replace hu := hu.call hk; clear hk; obtain ⟨xx_0, xx_1, xx_s⟩ := rowD xx; obtain ⟨xk_0, xk_s⟩ := row1 xk; obtain ⟨xa_0, xa_1, xa_s⟩ := rowD xa; obtain ⟨xb_0, xb_1, xb_s⟩ := rowD xb; obtain ⟨xc_0, xc_1, xc_s⟩ := rowD xc))
  clear xx_0 xx_1 xx_s; clear xk_0 xk_s; clear xa_0 xa_1 xa_s; clear xb_0 xb_1 xb_s; clear xc_0 xc_1 xc_s
  have H_xx := Lib.hid xx
  have H_xk := Lib.hid xk
  have H_xa := Lib.hid xa
  have H_xb := Lib.hid xb
  have H_xc := Lib.hid xc
  have HU := Lib.hid hu
  clear xx xk xa xb xc hu
  refine wp_region_stages [.val (.int .i64 0), .val (.bool false), .val (.bool false), .val (.int .i64 0), .val (.bool false), .val (.bool false), .val (.bool false), .val (.agg #[.slice P6 l.length cp6, .slice none 0 0]), .val (.agg #[.slice P l.length cp, .slice Q m.length cq]), .late, .late [9], .late [10], .late [11], .late [12], .late [13], .late [13], .late [13], .late [13, 15, 16], .late [13, 14, 17], .late [13, 18], .late [13, 19]] [9, 10, 11, 12, 13, 14, 15, 16, 17, 18, 19, 20]
    (FreeS [9, 10, 11, 12, 13, 14, 15, 16, 17, 18, 19, 20] (DsF LS LC l.length (.agg #[.slice P7 l.length cp7, .slice none 0 0]) (.agg #[.slice P l.length cp, .slice Q m.length cq]) (.func (.func 22) #[] #[.pointer (some ⟨gk, 0, none⟩)])) w6) (by kernel_rfl) (by kernel_rfl) (by kernel_rfl) (FreeS.stay dsF_stay) (fun Y => FreeS.start (Calm.refl _).drew) (fun Y => ?_)
  iterate 7
    refine planS_val (by kernel_rfl) (fun L9 u hb hS => ?_) ?_
    · clear hS hb
      go_simp
    simp only [Act.put, List.setIfInBounds_toArray, List.set_cons_zero, List.set_cons_succ, Nat.reduceAdd]
  refine planS_val (by kernel_rfl) (fun L9 u hb hS => ?_) ?_
  · have hc := hS.1
    obtain ⟨xb_0, xb_1, xb_s⟩ := rowD ((hc.block (rowD H_xb.out).2.2).trans H_xb.out)
    clear hS hb hc
    go_simp
  simp only [Act.put, List.setIfInBounds_toArray, List.set_cons_zero, List.set_cons_succ, Nat.reduceAdd]
  refine planS_val (by kernel_rfl) (fun L9 u hb hS => ?_) ?_
  · have hc := hS.1
    obtain ⟨xx_0, xx_1, xx_s⟩ := rowD ((hc.block (rowD H_xx.out).2.2).trans H_xx.out)
    clear hS hb hc
    go_simp
  simp only [Act.put, List.setIfInBounds_toArray, List.set_cons_zero, List.set_cons_succ, Nat.reduceAdd]
  refine planS_late (fun L9 u hi hb hS => ?_) ?_
  · have hc := hS.1
    have H := Lib.hid (fun (y : Value) (u' : World) (hb' : Calm u u') (hn : ∃ P c, y = .agg #[.slice P l.length c, .slice none 0 0] ∧ LiesP u' P LS) => (FreeS.do dsF_stay hS hb' (i := 9) (show DsF LS LC l.length (.agg #[.slice P7 l.length cp7, .slice none 0 0]) (.agg #[.slice P l.length cp, .slice Q m.length cq]) (.func (.func 22) #[] #[.pointer (some ⟨gk, 0, none⟩)]) 9 y u' from hn) : FreeS [9, 10, 11, 12, 13, 14, 15, 16, 17, 18, 19, 20] (DsF LS LC l.length (.agg #[.slice P7 l.length cp7, .slice none 0 0]) (.agg #[.slice P l.length cp, .slice Q m.length cq]) (.func (.func 22) #[] #[.pointer (some ⟨gk, 0, none⟩)])) w6 ([9, 10, 11, 12, 13, 14, 15, 16, 17, 18, 19, 20].map (updB L9 9)) (updV Y 9 y) u'))
    have c1 := cSy u (HU.out.call hc)
    clear hS hb hi hc cSy cDn
    go_wp2_with (go_at_call 20; (with_reducible refine c1.mono ?_); rintro e w7 ⟨P5', c5', rfl, ho5, hk⟩; have HQ5 := Lib.hid (OwnP.at_ ho5).2; clear ho5; have HK7 := Lib.hid hk; clear hk)
    exact H.out _ w7 HK7.out ⟨P5', c5', rfl, HQ5.out⟩
  simp only [Act.put, List.setIfInBounds_toArray, List.set_cons_zero, List.set_cons_succ, Nat.reduceAdd]
  refine planS_late (fun L9 u hi hb hS => ?_) ?_
  · have hc := hS.1
    have H := Lib.hid (fun (y : Value) (u' : World) (hb' : Calm u u') (hn : y = .bool true) => (FreeS.do dsF_stay hS hb' (i := 10) (show DsF LS LC l.length (.agg #[.slice P7 l.length cp7, .slice none 0 0]) (.agg #[.slice P l.length cp, .slice Q m.length cq]) (.func (.func 22) #[] #[.pointer (some ⟨gk, 0, none⟩)]) 10 y u' from hn) : FreeS [9, 10, 11, 12, 13, 14, 15, 16, 17, 18, 19, 20] (DsF LS LC l.length (.agg #[.slice P7 l.length cp7, .slice none 0 0]) (.agg #[.slice P l.length cp, .slice Q m.length cq]) (.func (.func 22) #[] #[.pointer (some ⟨gk, 0, none⟩)])) w6 ([9, 10, 11, 12, 13, 14, 15, 16, 17, 18, 19, 20].map (updB L9 10)) (updV Y 10 y) u'))
    obtain ⟨P_9, c_9, e_9, h_9⟩ := (show ∃ P c, Y 9 = .agg #[.slice P l.length c, .slice none 0 0] ∧ LiesP u P LS from FreeS.get hS (i := 9) (by decide) (hb 9 (by simp)))
    have c1 := fun c5 c6 => ds_same (cp := c5) (cp' := c6) (HP6.out.calm hc) h_9 hLl hn
    rw [e_9]
    clear e_9 hS hb hi hc cSy cDn
    go_wp2_with (go_at_call 19; (with_reducible refine (c1 _ _).mono ?_); rintro e w7 ⟨rfl, hk⟩; have HK7 := Lib.hid hk; clear hk)
    exact H.out _ w7 HK7.out rfl
  simp only [Act.put, List.setIfInBounds_toArray, List.set_cons_zero, List.set_cons_succ, Nat.reduceAdd]
  refine planS_late (fun L9 u hi hb hS => ?_) ?_
  · have hc := hS.1
    have H := Lib.hid (fun (y : Value) (u' : World) (hb' : Calm u u') (hn : y = .bool false) => (FreeS.do dsF_stay hS hb' (i := 11) (show DsF LS LC l.length (.agg #[.slice P7 l.length cp7, .slice none 0 0]) (.agg #[.slice P l.length cp, .slice Q m.length cq]) (.func (.func 22) #[] #[.pointer (some ⟨gk, 0, none⟩)]) 11 y u' from hn) : FreeS [9, 10, 11, 12, 13, 14, 15, 16, 17, 18, 19, 20] (DsF LS LC l.length (.agg #[.slice P7 l.length cp7, .slice none 0 0]) (.agg #[.slice P l.length cp, .slice Q m.length cq]) (.func (.func 22) #[] #[.pointer (some ⟨gk, 0, none⟩)])) w6 ([9, 10, 11, 12, 13, 14, 15, 16, 17, 18, 19, 20].map (updB L9 11)) (updV Y 11 y) u'))
    have e_10 := (show Y 10 = .bool true from FreeS.get hS (i := 10) (by decide) (hb 10 (by simp)))
    rw [e_10]
    clear e_10 hS hb hi hc cSy cDn
    go_wp2_with fail
    exact H.out _ u (Calm.refl _) rfl
  simp only [Act.put, List.setIfInBounds_toArray, List.set_cons_zero, List.set_cons_succ, Nat.reduceAdd]
  refine planS_late (fun L9 u hi hb hS => ?_) ?_
  · have hc := hS.1
    have H := Lib.hid (fun (y : Value) (u' : World) (hb' : Calm u u') (hn : y = .bool false) => (FreeS.do dsF_stay hS hb' (i := 12) (show DsF LS LC l.length (.agg #[.slice P7 l.length cp7, .slice none 0 0]) (.agg #[.slice P l.length cp, .slice Q m.length cq]) (.func (.func 22) #[] #[.pointer (some ⟨gk, 0, none⟩)]) 12 y u' from hn) : FreeS [9, 10, 11, 12, 13, 14, 15, 16, 17, 18, 19, 20] (DsF LS LC l.length (.agg #[.slice P7 l.length cp7, .slice none 0 0]) (.agg #[.slice P l.length cp, .slice Q m.length cq]) (.func (.func 22) #[] #[.pointer (some ⟨gk, 0, none⟩)])) w6 ([9, 10, 11, 12, 13, 14, 15, 16, 17, 18, 19, 20].map (updB L9 12)) (updV Y 12 y) u'))
    have e_11 := (show Y 11 = .bool false from FreeS.get hS (i := 11) (by decide) (hb 11 (by simp)))
    rw [e_11]
    clear e_11 hS hb hi hc cSy cDn
    go_wp2_with fail
    exact H.out _ u (Calm.refl _) rfl
  simp only [Act.put, List.setIfInBounds_toArray, List.set_cons_zero, List.set_cons_succ, Nat.reduceAdd]
  refine planS_late (fun L9 u hi hb hS => ?_) ?_
  · have hc := hS.1
    have H := Lib.hid (fun (y : Value) (u' : World) (hb' : Calm u u') (hn : y = .bool false) => (FreeS.do dsF_stay hS hb' (i := 13) (show DsF LS LC l.length (.agg #[.slice P7 l.length cp7, .slice none 0 0]) (.agg #[.slice P l.length cp, .slice Q m.length cq]) (.func (.func 22) #[] #[.pointer (some ⟨gk, 0, none⟩)]) 13 y u' from hn) : FreeS [9, 10, 11, 12, 13, 14, 15, 16, 17, 18, 19, 20] (DsF LS LC l.length (.agg #[.slice P7 l.length cp7, .slice none 0 0]) (.agg #[.slice P l.length cp, .slice Q m.length cq]) (.func (.func 22) #[] #[.pointer (some ⟨gk, 0, none⟩)])) w6 ([9, 10, 11, 12, 13, 14, 15, 16, 17, 18, 19, 20].map (updB L9 13)) (updV Y 13 y) u'))
    have e_12 := (show Y 12 = .bool false from FreeS.get hS (i := 12) (by decide) (hb 12 (by simp)))
    rw [e_12]
    clear e_12 hS hb hi hc cSy cDn
    go_wp2_with fail
    exact H.out _ u (Calm.refl _) rfl
  simp only [Act.put, List.setIfInBounds_toArray, List.set_cons_zero, List.set_cons_succ, Nat.reduceAdd]
  refine planS_late (fun L9 u hi hb hS => ?_) ?_
  · have hc := hS.1
    have H := Lib.hid (fun (y : Value) (u' : World) (hb' : Calm u u') (hn : y = (.agg #[.slice P7 l.length cp7, .slice none 0 0])) => (FreeS.do dsF_stay hS hb' (i := 14) (show DsF LS LC l.length (.agg #[.slice P7 l.length cp7, .slice none 0 0]) (.agg #[.slice P l.length cp, .slice Q m.length cq]) (.func (.func 22) #[] #[.pointer (some ⟨gk, 0, none⟩)]) 14 y u' from hn) : FreeS [9, 10, 11, 12, 13, 14, 15, 16, 17, 18, 19, 20] (DsF LS LC l.length (.agg #[.slice P7 l.length cp7, .slice none 0 0]) (.agg #[.slice P l.length cp, .slice Q m.length cq]) (.func (.func 22) #[] #[.pointer (some ⟨gk, 0, none⟩)])) w6 ([9, 10, 11, 12, 13, 14, 15, 16, 17, 18, 19, 20].map (updB L9 14)) (updV Y 14 y) u'))
    have e_13 := (show Y 13 = .bool false from FreeS.get hS (i := 13) (by decide) (hb 13 (by simp)))
    obtain ⟨xc_0, xc_1, xc_s⟩ := rowD ((hc.block (rowD H_xc.out).2.2).trans H_xc.out)
    rw [e_13]
    clear e_13 hS hb hi hc cSy cDn
    go_wp2_with fail
    exact H.out _ u (Calm.refl _) rfl
  simp only [Act.put, List.setIfInBounds_toArray, List.set_cons_zero, List.set_cons_succ, Nat.reduceAdd]
  refine planS_late (fun L9 u hi hb hS => ?_) ?_
  · have hc := hS.1
    have H := Lib.hid (fun (y : Value) (u' : World) (hb' : Calm u u') (hn : y = (.agg #[.slice P l.length cp, .slice Q m.length cq])) => (FreeS.do dsF_stay hS hb' (i := 15) (show DsF LS LC l.length (.agg #[.slice P7 l.length cp7, .slice none 0 0]) (.agg #[.slice P l.length cp, .slice Q m.length cq]) (.func (.func 22) #[] #[.pointer (some ⟨gk, 0, none⟩)]) 15 y u' from hn) : FreeS [9, 10, 11, 12, 13, 14, 15, 16, 17, 18, 19, 20] (DsF LS LC l.length (.agg #[.slice P7 l.length cp7, .slice none 0 0]) (.agg #[.slice P l.length cp, .slice Q m.length cq]) (.func (.func 22) #[] #[.pointer (some ⟨gk, 0, none⟩)])) w6 ([9, 10, 11, 12, 13, 14, 15, 16, 17, 18, 19, 20].map (updB L9 15)) (updV Y 15 y) u'))
    have e_13 := (show Y 13 = .bool false from FreeS.get hS (i := 13) (by decide) (hb 13 (by simp)))
    obtain ⟨xx_0, xx_1, xx_s⟩ := rowD ((hc.block (rowD H_xx.out).2.2).trans H_xx.out)
    rw [e_13]
    clear e_13 hS hb hi hc cSy cDn
    go_wp2_with fail
    exact H.out _ u (Calm.refl _) rfl
  simp only [Act.put, List.setIfInBounds_toArray, List.set_cons_zero, List.set_cons_succ, Nat.reduceAdd]
  refine planS_late (fun L9 u hi hb hS => ?_) ?_
  · have hc := hS.1
    have H := Lib.hid (fun (y : Value) (u' : World) (hb' : Calm u u') (hn : y = (.func (.func 22) #[] #[.pointer (some ⟨gk, 0, none⟩)])) => (FreeS.do dsF_stay hS hb' (i := 16) (show DsF LS LC l.length (.agg #[.slice P7 l.length cp7, .slice none 0 0]) (.agg #[.slice P l.length cp, .slice Q m.length cq]) (.func (.func 22) #[] #[.pointer (some ⟨gk, 0, none⟩)]) 16 y u' from hn) : FreeS [9, 10, 11, 12, 13, 14, 15, 16, 17, 18, 19, 20] (DsF LS LC l.length (.agg #[.slice P7 l.length cp7, .slice none 0 0]) (.agg #[.slice P l.length cp, .slice Q m.length cq]) (.func (.func 22) #[] #[.pointer (some ⟨gk, 0, none⟩)])) w6 ([9, 10, 11, 12, 13, 14, 15, 16, 17, 18, 19, 20].map (updB L9 16)) (updV Y 16 y) u'))
    have e_13 := (show Y 13 = .bool false from FreeS.get hS (i := 13) (by decide) (hb 13 (by simp)))
    rw [e_13]
    clear e_13 hS hb hi hc cSy cDn
    go_wp2_with fail
    exact H.out _ u (Calm.refl _) rfl
  simp only [Act.put, List.setIfInBounds_toArray, List.set_cons_zero, List.set_cons_succ, Nat.reduceAdd]
  refine planS_late (fun L9 u hi hb hS => ?_) ?_
  · have hc := hS.1
    have H := Lib.hid (fun (y : Value) (u' : World) (hb' : Calm u u') (hn : ∃ P c, y = .agg #[.slice P l.length c, .slice none 0 0] ∧ LiesP u' P LC) => (FreeS.do dsF_stay hS hb' (i := 17) (show DsF LS LC l.length (.agg #[.slice P7 l.length cp7, .slice none 0 0]) (.agg #[.slice P l.length cp, .slice Q m.length cq]) (.func (.func 22) #[] #[.pointer (some ⟨gk, 0, none⟩)]) 17 y u' from hn) : FreeS [9, 10, 11, 12, 13, 14, 15, 16, 17, 18, 19, 20] (DsF LS LC l.length (.agg #[.slice P7 l.length cp7, .slice none 0 0]) (.agg #[.slice P l.length cp, .slice Q m.length cq]) (.func (.func 22) #[] #[.pointer (some ⟨gk, 0, none⟩)])) w6 ([9, 10, 11, 12, 13, 14, 15, 16, 17, 18, 19, 20].map (updB L9 17)) (updV Y 17 y) u'))
    have e_13 := (show Y 13 = .bool false from FreeS.get hS (i := 13) (by decide) (hb 13 (by simp)))
    have e_15 := (show Y 15 = (.agg #[.slice P l.length cp, .slice Q m.length cq]) from FreeS.get hS (i := 15) (by decide) (hb 15 (by simp)))
    have e_16 := (show Y 16 = (.func (.func 22) #[] #[.pointer (some ⟨gk, 0, none⟩)]) from FreeS.get hS (i := 16) (by decide) (hb 16 (by simp)))
    have c1 := cDn gk u (HU.out.call hc) ((hc.block (row1 H_xk.out).2).trans H_xk.out)
    rw [e_13, e_15, e_16]
    clear e_13 e_15 e_16 hS hb hi hc cSy cDn
    go_wp2_with (go_at_call 21; (with_reducible refine c1.mono ?_); rintro e w7 ⟨P5', c5', rfl, ho5, hk⟩; have HQ5 := Lib.hid (OwnP.at_ ho5).2; clear ho5; have HK7 := Lib.hid hk; clear hk)
    exact H.out _ w7 HK7.out ⟨P5', c5', rfl, HQ5.out⟩
  simp only [Act.put, List.setIfInBounds_toArray, List.set_cons_zero, List.set_cons_succ, Nat.reduceAdd]
  refine planS_late (fun L9 u hi hb hS => ?_) ?_
  · have hc := hS.1
    have H := Lib.hid (fun (y : Value) (u' : World) (hb' : Calm u u') (hn : y = .bool true) => (FreeS.do dsF_stay hS hb' (i := 18) (show DsF LS LC l.length (.agg #[.slice P7 l.length cp7, .slice none 0 0]) (.agg #[.slice P l.length cp, .slice Q m.length cq]) (.func (.func 22) #[] #[.pointer (some ⟨gk, 0, none⟩)]) 18 y u' from hn) : FreeS [9, 10, 11, 12, 13, 14, 15, 16, 17, 18, 19, 20] (DsF LS LC l.length (.agg #[.slice P7 l.length cp7, .slice none 0 0]) (.agg #[.slice P l.length cp, .slice Q m.length cq]) (.func (.func 22) #[] #[.pointer (some ⟨gk, 0, none⟩)])) w6 ([9, 10, 11, 12, 13, 14, 15, 16, 17, 18, 19, 20].map (updB L9 18)) (updV Y 18 y) u'))
    have e_13 := (show Y 13 = .bool false from FreeS.get hS (i := 13) (by decide) (hb 13 (by simp)))
    have e_14 := (show Y 14 = (.agg #[.slice P7 l.length cp7, .slice none 0 0]) from FreeS.get hS (i := 14) (by decide) (hb 14 (by simp)))
    obtain ⟨P_17, c_17, e_17, h_17⟩ := (show ∃ P c, Y 17 = .agg #[.slice P l.length c, .slice none 0 0] ∧ LiesP u P LC from FreeS.get hS (i := 17) (by decide) (hb 17 (by simp)))
    have c1 := fun c5 c6 => ds_same (cp := c5) (cp' := c6) (HP7.out.calm hc) h_17 hCl hn
    rw [e_13, e_14, e_17]
    clear e_13 e_14 e_17 hS hb hi hc cSy cDn
    go_wp2_with (go_at_call 19; (with_reducible refine (c1 _ _).mono ?_); rintro e w7 ⟨rfl, hk⟩; have HK7 := Lib.hid hk; clear hk)
    exact H.out _ w7 HK7.out rfl
  simp only [Act.put, List.setIfInBounds_toArray, List.set_cons_zero, List.set_cons_succ, Nat.reduceAdd]
  refine planS_late (fun L9 u hi hb hS => ?_) ?_
  · have hc := hS.1
    have H := Lib.hid (fun (y : Value) (u' : World) (hb' : Calm u u') (hn : y = .bool false) => (FreeS.do dsF_stay hS hb' (i := 19) (show DsF LS LC l.length (.agg #[.slice P7 l.length cp7, .slice none 0 0]) (.agg #[.slice P l.length cp, .slice Q m.length cq]) (.func (.func 22) #[] #[.pointer (some ⟨gk, 0, none⟩)]) 19 y u' from hn) : FreeS [9, 10, 11, 12, 13, 14, 15, 16, 17, 18, 19, 20] (DsF LS LC l.length (.agg #[.slice P7 l.length cp7, .slice none 0 0]) (.agg #[.slice P l.length cp, .slice Q m.length cq]) (.func (.func 22) #[] #[.pointer (some ⟨gk, 0, none⟩)])) w6 ([9, 10, 11, 12, 13, 14, 15, 16, 17, 18, 19, 20].map (updB L9 19)) (updV Y 19 y) u'))
    have e_13 := (show Y 13 = .bool false from FreeS.get hS (i := 13) (by decide) (hb 13 (by simp)))
    have e_18 := (show Y 18 = .bool true from FreeS.get hS (i := 18) (by decide) (hb 18 (by simp)))
    rw [e_13, e_18]
    clear e_13 e_18 hS hb hi hc cSy cDn
    go_wp2_with fail
    exact H.out _ u (Calm.refl _) rfl
  simp only [Act.put, List.setIfInBounds_toArray, List.set_cons_zero, List.set_cons_succ, Nat.reduceAdd]
  refine planS_late (fun L9 u hi hb hS => ?_) ?_
  · have hc := hS.1
    have H := Lib.hid (fun (y : Value) (u' : World) (hb' : Calm u u') (hn : y = .bool false) => (FreeS.do dsF_stay hS hb' (i := 20) (show DsF LS LC l.length (.agg #[.slice P7 l.length cp7, .slice none 0 0]) (.agg #[.slice P l.length cp, .slice Q m.length cq]) (.func (.func 22) #[] #[.pointer (some ⟨gk, 0, none⟩)]) 20 y u' from hn) : FreeS [9, 10, 11, 12, 13, 14, 15, 16, 17, 18, 19, 20] (DsF LS LC l.length (.agg #[.slice P7 l.length cp7, .slice none 0 0]) (.agg #[.slice P l.length cp, .slice Q m.length cq]) (.func (.func 22) #[] #[.pointer (some ⟨gk, 0, none⟩)])) w6 ([9, 10, 11, 12, 13, 14, 15, 16, 17, 18, 19, 20].map (updB L9 20)) (updV Y 20 y) u'))
    have e_13 := (show Y 13 = .bool false from FreeS.get hS (i := 13) (by decide) (hb 13 (by simp)))
    have e_19 := (show Y 19 = .bool false from FreeS.get hS (i := 19) (by decide) (hb 19 (by simp)))
    rw [e_13, e_19]
    clear e_13 e_19 hS hb hi hc cSy cDn
    go_wp2_with fail
    exact H.out _ u (Calm.refl _) rfl
  try simp only [Act.put, Nat.reduceAdd]
  refine planS_end ?_
  intro w7 hS
  have hc7 := hS.1
  have eY := (show Y 20 = .bool false from FreeS.get (L := fun _ => true) hS (i := 20) (by decide) rfl)
  rw [eY]
  clear hS eY cDn hLl hCl
  have xx := (hc7.block (rowD H_xx.out).2.2).trans H_xx.out
  have xk := (hc7.block (row1 H_xk.out).2).trans H_xk.out
  have xa := (hc7.block (rowD H_xa.out).2.2).trans H_xa.out
  have xb := (hc7.block (rowD H_xb.out).2.2).trans H_xb.out
  have xc := (hc7.block (rowD H_xc.out).2.2).trans H_xc.out
  replace HP6 := Lib.hid (HP6.out.calm hc7)
  replace HP7 := Lib.hid (HP7.out.calm hc7)
  have hu := HU.out.call hc7
  clear hc7 HU H_xx H_xk H_xa H_xb H_xc
  obtain ⟨xx_0, xx_1, xx_s⟩ := rowD xx; obtain ⟨xk_0, xk_s⟩ := row1 xk; obtain ⟨xa_0, xa_1, xa_s⟩ := rowD xa; obtain ⟨xb_0, xb_1, xb_s⟩ := rowD xb; obtain ⟨xc_0, xc_1, xc_s⟩ := rowD xc
  clear cSy HP6 HP7
  by_cases hi0 : i < 0
  · go_wp2_with (go_at_call 19; (with_reducible refine (sameDisk_zero _).mono ?_); rintro e w9 ⟨rfl, hk⟩; clear xx_0 xx_1 xx_s; clear xk_0 xk_s; clear xa_0 xa_1 xa_s; clear xb_0 xb_1 xb_s; clear xc_0 xc_1 xc_s; replace xx := (hk.block (rowD xx).2.2).trans xx; replace xk := (hk.block (row1 xk).2).trans xk; replace xa := (hk.block (rowD xa).2.2).trans xa; replace xb := (hk.block (rowD xb).2.2).trans xb; replace xc := (hk.block (rowD xc).2.2).trans xc; replace hu := hu.call hk; clear hk; obtain ⟨xx_0, xx_1, xx_s⟩ := rowD xx; obtain ⟨xk_0, xk_s⟩ := row1 xk; obtain ⟨xa_0, xa_1, xa_s⟩ := rowD xa; obtain ⟨xb_0, xb_1, xb_s⟩ := rowD xb; obtain ⟨xc_0, xc_1, xc_s⟩ := rowD xc)
    go_ret
    exact ⟨rfl, hu⟩
  · have hi1 : (l.length : Int) ≤ i := by omega
    go_wp2_with (go_at_call 19; (with_reducible refine (sameDisk_zero _).mono ?_); rintro e w9 ⟨rfl, hk⟩; clear xx_0 xx_1 xx_s; clear xk_0 xk_s; clear xa_0 xa_1 xa_s; clear xb_0 xb_1 xb_s; clear xc_0 xc_1 xc_s; replace xx := (hk.block (rowD xx).2.2).trans xx; replace xk := (hk.block (row1 xk).2).trans xk; replace xa := (hk.block (rowD xa).2.2).trans xa; replace xb := (hk.block (rowD xb).2.2).trans xb; replace xc := (hk.block (rowD xc).2.2).trans xc; replace hu := hu.call hk; clear hk; obtain ⟨xx_0, xx_1, xx_s⟩ := rowD xx; obtain ⟨xk_0, xk_s⟩ := row1 xk; obtain ⟨xa_0, xa_1, xa_s⟩ := rowD xa; obtain ⟨xb_0, xb_1, xb_s⟩ := rowD xb; obtain ⟨xc_0, xc_1, xc_s⟩ := rowD xc)
    go_ret
    exact ⟨rfl, hu⟩
set_option maxHeartbeats 16000000 in
theorem ds_large (P Q : Option Addr) (cp cq : Nat) (l : List ByteArray) (m : List Wr) (k : Nat) (s : ByteArray) (A : Option Addr) (c : Nat) (K : List Bool) (w : World) (hh : HasD w P Q l m) (hn : l.length ≤ 9223372036854775807) (hm : m.length ≤ 9223372036854775807) (hK : LiesO w A K) (h0 : dkErr l m = 0) (hki : k < l.length) (hs : 3500 < s.size) :
    Calls Try.prog 3 #[.agg #[.slice P l.length cp, .slice Q m.length cq], .int .i64 (k : Int), .string s, .slice A K.length c] w fun e w' => e = .returned (.bool true) ∧ Calm w w' := by
  have xx := heap_past (.cells #[.slice A K.length c] 26) (heap_new w (.cells #[.slice P l.length cp, .slice Q m.length cq] 25))
  have xk := heap_new (w.alloc (.cells #[.slice P l.length cp, .slice Q m.length cq] 25)) (.cells #[.slice A K.length c] 26)
  rw [World.size_alloc] at xk
  have hu := ((Calm.refl w).alloc (.cells #[.slice P l.length cp, .slice Q m.length cq] 25)).alloc (.cells #[.slice A K.length c] 26)
  obtain ⟨e1, hT⟩ := ds_read h0 hki
  have cR := fun u (hu : Calm w u) => diskRead_any P Q cp cq l m k u (hh.calm hu).p (hh.calm hu).q hn hm
  rw [e1] at cR
  have e3 := ds_in h0 s hki
  generalize rdS l m k = T at cR hT
  rw [if_pos hs] at e3
  have cP := fun u (hu : Calm w u) => (hh.calm hu).put_bad cp cq hn hm e3 (by decide)
  clear e1 e3 hn hm
  have hn := (dk_len h0).1
  have hm := (dk_len h0).2
  have cS := fun u (hu : Calm w u) => (hh.calm hu).sync cp cq h0
  have cK := fun u (hu : Calm w u) => (hh.calm hu).crash cp cq h0 A c K (hK.calm hu)
  have cD := fun u (hu : Calm w u) => refDisk_any P Q cp cq l m u (hh.calm hu).p (hh.calm hu).q hn hm
  have cC := fun u (hu : Calm w u) => diskCheck_any P Q cp cq l m u (hh.calm hu).p (hh.calm hu).q hn hm
  have cSy := fun u (hu : Calm w u) => synced_any P Q cp cq l m u (hh.calm hu).p (hh.calm hu).q h0
  have cDn := fun B u (hu : Calm w u) (hB : KBx B A K.length c u) => doneCrash_any P Q cp cq l m B A c K u (hh.calm hu).p (hh.calm hu).q h0 hB (hK.calm hu)
  unfold DoneEnd at cSy cDn
  rw [h0] at cD cC
  have hLl : (doneL (fun _ => true) 0 m l).length = l.length := doneL_len _ _ _ _
  have hCl : (doneL (selK K) 0 m l).length = l.length := doneL_len _ _ _ _
  unfold curP at cS hT
  clear h0 hK hm
  generalize doneL (fun _ => true) 0 m l = LS at cS cSy hLl hT
  generalize doneL (selK K) 0 m l = LC at cK cDn hCl
  go_enter Try.func3, Try.ntmps3
  go_upto_region 1 with fail
  generalize (w.alloc (.cells #[.slice P l.length cp, .slice Q m.length cq] 25)).alloc (.cells #[.slice A K.length c] 26) = w0 at xx xk hu ⊢
  generalize w.heap.size + 1 = gk at xk ⊢
  generalize w.heap.size = gx at xx ⊢
  obtain ⟨xx_0, xx_1, xx_s⟩ := rowD xx; obtain ⟨xk_0, xk_s⟩ := row1 xk
  go_upto_region 10 with (first
      | (go_at_call 13; (with_reducible refine (cR _ hu).mono ?_); rintro e w1 ⟨rfl, hk⟩; clear cR; clear xx_0 xx_1 xx_s; clear xk_0 xk_s; replace xx := (hk.block (rowD xx).2.2).trans xx; replace xk := (hk.block (row1 xk).2).trans xk; replace hu := hu.call hk; clear hk; obtain ⟨xx_0, xx_1, xx_s⟩ := rowD xx; obtain ⟨xk_0, xk_s⟩ := row1 xk)
      | (go_at_call 14; (with_reducible refine (cP _ hu).mono ?_); rintro e w2 ⟨rfl, hk⟩; clear cP; clear xx_0 xx_1 xx_s; clear xk_0 xk_s; replace xx := (hk.block (rowD xx).2.2).trans xx; replace xk := (hk.block (row1 xk).2).trans xk; replace hu := hu.call hk; clear hk; obtain ⟨xx_0, xx_1, xx_s⟩ := rowD xx; obtain ⟨xk_0, xk_s⟩ := row1 xk; clear xx_0 xx_1 xx_s; clear xk_0 xk_s; replace xx := heap_past (.cells #[.slice none 0 0, .slice none 0 0] 25) xx; replace xk := heap_past (.cells #[.slice none 0 0, .slice none 0 0] 25) xk; replace hu := hu.alloc (.cells #[.slice none 0 0, .slice none 0 0] 25); have xa := heap_new w2 (.cells #[.slice none 0 0, .slice none 0 0] 25); obtain ⟨xx_0, xx_1, xx_s⟩ := rowD xx; obtain ⟨xk_0, xk_s⟩ := row1 xk; obtain ⟨xa_0, xa_1, xa_s⟩ := rowD xa)
      | (go_at_call 15; (with_reducible refine (cS _ hu).mono ?_); rintro e w3 ⟨P6, cp6, rfl, ho6, hk⟩; have HP6 := Lib.hid ((OwnP.at_ ho6).2.calm ((Calm.refl _).alloc (.cells #[.slice P6 l.length cp6, .slice none 0 0] 25))); clear ho6 cS; clear xx_0 xx_1 xx_s; clear xk_0 xk_s; clear xa_0 xa_1 xa_s; replace xx := (hk.block (rowD xx).2.2).trans xx; replace xk := (hk.block (row1 xk).2).trans xk; replace xa := (hk.block (rowD xa).2.2).trans xa; replace hu := hu.call hk; clear hk; obtain ⟨xx_0, xx_1, xx_s⟩ := rowD xx; obtain ⟨xk_0, xk_s⟩ := row1 xk; obtain ⟨xa_0, xa_1, xa_s⟩ := rowD xa; clear xx_0 xx_1 xx_s; clear xk_0 xk_s; clear xa_0 xa_1 xa_s; replace xx := heap_past (.cells #[.slice P6 l.length cp6, .slice none 0 0] 25) xx; replace xk := heap_past (.cells #[.slice P6 l.length cp6, .slice none 0 0] 25) xk; replace xa := heap_past (.cells #[.slice P6 l.length cp6, .slice none 0 0] 25) xa; replace hu := hu.alloc (.cells #[.slice P6 l.length cp6, .slice none 0 0] 25); have xb := heap_new w3 (.cells #[.slice P6 l.length cp6, .slice none 0 0] 25); obtain ⟨xx_0, xx_1, xx_s⟩ := rowD xx; obtain ⟨xk_0, xk_s⟩ := row1 xk; obtain ⟨xa_0, xa_1, xa_s⟩ := rowD xa; obtain ⟨xb_0, xb_1, xb_s⟩ := rowD xb)
      | (go_at_call 16; (with_reducible refine (cK _ hu).mono ?_); rintro e w4 ⟨P7, cp7, rfl, ho7, hk⟩; have HP7 := Lib.hid ((OwnP.at_ ho7).2.calm ((Calm.refl _).alloc (.cells #[.slice P7 l.length cp7, .slice none 0 0] 25))); clear ho7 cK; clear xx_0 xx_1 xx_s; clear xk_0 xk_s; clear xa_0 xa_1 xa_s; clear xb_0 xb_1 xb_s; replace xx := (hk.block (rowD xx).2.2).trans xx; replace xk := (hk.block (row1 xk).2).trans xk; replace xa := (hk.block (rowD xa).2.2).trans xa; replace xb := (hk.block (rowD xb).2.2).trans xb; replace HP6 := Lib.hid (HP6.out.calm hk); replace hu := hu.call hk; clear hk; obtain ⟨xx_0, xx_1, xx_s⟩ := rowD xx; obtain ⟨xk_0, xk_s⟩ := row1 xk; obtain ⟨xa_0, xa_1, xa_s⟩ := rowD xa; obtain ⟨xb_0, xb_1, xb_s⟩ := rowD xb; clear xx_0 xx_1 xx_s; clear xk_0 xk_s; clear xa_0 xa_1 xa_s; clear xb_0 xb_1 xb_s; replace xx := heap_past (.cells #[.slice P7 l.length cp7, .slice none 0 0] 25) xx; replace xk := heap_past (.cells #[.slice P7 l.length cp7, .slice none 0 0] 25) xk; replace xa := heap_past (.cells #[.slice P7 l.length cp7, .slice none 0 0] 25) xa; replace xb := heap_past (.cells #[.slice P7 l.length cp7, .slice none 0 0] 25) xb; replace HP6 := Lib.hid (HP6.out.calm ((Calm.refl _).alloc (.cells #[.slice P7 l.length cp7, .slice none 0 0] 25))); replace hu := hu.alloc (.cells #[.slice P7 l.length cp7, .slice none 0 0] 25); have xc := heap_new w4 (.cells #[.slice P7 l.length cp7, .slice none 0 0] 25); obtain ⟨xx_0, xx_1, xx_s⟩ := rowD xx; obtain ⟨xk_0, xk_s⟩ := row1 xk; obtain ⟨xa_0, xa_1, xa_s⟩ := rowD xa; obtain ⟨xb_0, xb_1, xb_s⟩ := rowD xb; obtain ⟨xc_0, xc_1, xc_s⟩ := rowD xc)
      | (go_at_call 17; (with_reducible refine (cD _ hu).mono ?_); rintro e w5 ⟨rfl, hk⟩; clear cD; clear xx_0 xx_1 xx_s; clear xk_0 xk_s; clear xa_0 xa_1 xa_s; clear xb_0 xb_1 xb_s; clear xc_0 xc_1 xc_s; replace xx := (hk.block (rowD xx).2.2).trans xx; replace xk := (hk.block (row1 xk).2).trans xk; replace xa := (hk.block (rowD xa).2.2).trans xa; replace xb := (hk.block (rowD xb).2.2).trans xb; replace xc := (hk.block (rowD xc).2.2).trans xc; replace HP6 := Lib.hid (HP6.out.calm hk); replace HP7 := Lib.hid (HP7.out.calm hk); replace hu := hu.call hk; clear hk; obtain ⟨xx_0, xx_1, xx_s⟩ := rowD xx; obtain ⟨xk_0, xk_s⟩ := row1 xk; obtain ⟨xa_0, xa_1, xa_s⟩ := rowD xa; obtain ⟨xb_0, xb_1, xb_s⟩ := rowD xb; obtain ⟨xc_0, xc_1, xc_s⟩ := rowD xc)
      | (go_at_call 18; (with_reducible refine (cC _ hu).mono ?_); rintro e w6 ⟨rfl, hk⟩; clear cC; clear xx_0 xx_1 xx_s; clear xk_0 xk_s; clear xa_0 xa_1 xa_s; clear xb_0 xb_1 xb_s; clear xc_0 xc_1 xc_s; replace xx := (hk.block (rowD xx).2.2).trans xx; replace xk := (hk.block (row1 xk).2).trans xk; replace xa := (hk.block (rowD xa).2.2).trans xa; replace xb := (hk.block (rowD xb).2.2).trans xb; replace xc := (hk.block (rowD xc).2.2).trans xc; replace HP6 := Lib.hid (HP6.out.calm hk); replace HP7 := Lib.hid (HP7.out.calm hk); replace hu := hu.call hk; clear hk; obtain ⟨xx_0, xx_1, xx_s⟩ := rowD xx; obtain ⟨xk_0, xk_s⟩ := row1 xk; obtain ⟨xa_0, xa_1, xa_s⟩ := rowD xa; obtain ⟨xb_0, xb_1, xb_s⟩ := rowD xb; obtain ⟨xc_0, xc_1, xc_s⟩ := rowD xc))
  clear xx_0 xx_1 xx_s; clear xk_0 xk_s; clear xa_0 xa_1 xa_s; clear xb_0 xb_1 xb_s; clear xc_0 xc_1 xc_s
  have H_xx := Lib.hid xx
  have H_xk := Lib.hid xk
  have H_xa := Lib.hid xa
  have H_xb := Lib.hid xb
  have H_xc := Lib.hid xc
  have HU := Lib.hid hu
  clear xx xk xa xb xc hu
  refine wp_region_stages [.val (.int .i64 0), .val (.bool false), .val (.bool false), .val (.int .i64 0), .val (.bool false), .val (.bool false), .val (.bool false), .val (.agg #[.slice P6 l.length cp6, .slice none 0 0]), .val (.agg #[.slice P l.length cp, .slice Q m.length cq]), .late, .late [9], .late [10], .late [11], .late [12], .late [13], .late [13], .late [13], .late [13, 15, 16], .late [13, 14, 17], .late [13, 18], .late [13, 19]] [9, 10, 11, 12, 13, 14, 15, 16, 17, 18, 19, 20]
    (FreeS [9, 10, 11, 12, 13, 14, 15, 16, 17, 18, 19, 20] (DsF LS LC l.length (.agg #[.slice P7 l.length cp7, .slice none 0 0]) (.agg #[.slice P l.length cp, .slice Q m.length cq]) (.func (.func 22) #[] #[.pointer (some ⟨gk, 0, none⟩)])) w6) (by kernel_rfl) (by kernel_rfl) (by kernel_rfl) (FreeS.stay dsF_stay) (fun Y => FreeS.start (Calm.refl _).drew) (fun Y => ?_)
  iterate 7
    refine planS_val (by kernel_rfl) (fun L9 u hb hS => ?_) ?_
    · clear hS hb
      go_simp
    simp only [Act.put, List.setIfInBounds_toArray, List.set_cons_zero, List.set_cons_succ, Nat.reduceAdd]
  refine planS_val (by kernel_rfl) (fun L9 u hb hS => ?_) ?_
  · have hc := hS.1
    obtain ⟨xb_0, xb_1, xb_s⟩ := rowD ((hc.block (rowD H_xb.out).2.2).trans H_xb.out)
    clear hS hb hc
    go_simp
  simp only [Act.put, List.setIfInBounds_toArray, List.set_cons_zero, List.set_cons_succ, Nat.reduceAdd]
  refine planS_val (by kernel_rfl) (fun L9 u hb hS => ?_) ?_
  · have hc := hS.1
    obtain ⟨xx_0, xx_1, xx_s⟩ := rowD ((hc.block (rowD H_xx.out).2.2).trans H_xx.out)
    clear hS hb hc
    go_simp
  simp only [Act.put, List.setIfInBounds_toArray, List.set_cons_zero, List.set_cons_succ, Nat.reduceAdd]
  refine planS_late (fun L9 u hi hb hS => ?_) ?_
  · have hc := hS.1
    have H := Lib.hid (fun (y : Value) (u' : World) (hb' : Calm u u') (hn : ∃ P c, y = .agg #[.slice P l.length c, .slice none 0 0] ∧ LiesP u' P LS) => (FreeS.do dsF_stay hS hb' (i := 9) (show DsF LS LC l.length (.agg #[.slice P7 l.length cp7, .slice none 0 0]) (.agg #[.slice P l.length cp, .slice Q m.length cq]) (.func (.func 22) #[] #[.pointer (some ⟨gk, 0, none⟩)]) 9 y u' from hn) : FreeS [9, 10, 11, 12, 13, 14, 15, 16, 17, 18, 19, 20] (DsF LS LC l.length (.agg #[.slice P7 l.length cp7, .slice none 0 0]) (.agg #[.slice P l.length cp, .slice Q m.length cq]) (.func (.func 22) #[] #[.pointer (some ⟨gk, 0, none⟩)])) w6 ([9, 10, 11, 12, 13, 14, 15, 16, 17, 18, 19, 20].map (updB L9 9)) (updV Y 9 y) u'))
    have c1 := cSy u (HU.out.call hc)
    clear hS hb hi hc cSy cDn
    go_wp2_with (go_at_call 20; (with_reducible refine c1.mono ?_); rintro e w7 ⟨P5', c5', rfl, ho5, hk⟩; have HQ5 := Lib.hid (OwnP.at_ ho5).2; clear ho5; have HK7 := Lib.hid hk; clear hk)
    exact H.out _ w7 HK7.out ⟨P5', c5', rfl, HQ5.out⟩
  simp only [Act.put, List.setIfInBounds_toArray, List.set_cons_zero, List.set_cons_succ, Nat.reduceAdd]
  refine planS_late (fun L9 u hi hb hS => ?_) ?_
  · have hc := hS.1
    have H := Lib.hid (fun (y : Value) (u' : World) (hb' : Calm u u') (hn : y = .bool true) => (FreeS.do dsF_stay hS hb' (i := 10) (show DsF LS LC l.length (.agg #[.slice P7 l.length cp7, .slice none 0 0]) (.agg #[.slice P l.length cp, .slice Q m.length cq]) (.func (.func 22) #[] #[.pointer (some ⟨gk, 0, none⟩)]) 10 y u' from hn) : FreeS [9, 10, 11, 12, 13, 14, 15, 16, 17, 18, 19, 20] (DsF LS LC l.length (.agg #[.slice P7 l.length cp7, .slice none 0 0]) (.agg #[.slice P l.length cp, .slice Q m.length cq]) (.func (.func 22) #[] #[.pointer (some ⟨gk, 0, none⟩)])) w6 ([9, 10, 11, 12, 13, 14, 15, 16, 17, 18, 19, 20].map (updB L9 10)) (updV Y 10 y) u'))
    obtain ⟨P_9, c_9, e_9, h_9⟩ := (show ∃ P c, Y 9 = .agg #[.slice P l.length c, .slice none 0 0] ∧ LiesP u P LS from FreeS.get hS (i := 9) (by decide) (hb 9 (by simp)))
    have c1 := fun c5 c6 => ds_same (cp := c5) (cp' := c6) (HP6.out.calm hc) h_9 hLl hn
    rw [e_9]
    clear e_9 hS hb hi hc cSy cDn
    go_wp2_with (go_at_call 19; (with_reducible refine (c1 _ _).mono ?_); rintro e w7 ⟨rfl, hk⟩; have HK7 := Lib.hid hk; clear hk)
    exact H.out _ w7 HK7.out rfl
  simp only [Act.put, List.setIfInBounds_toArray, List.set_cons_zero, List.set_cons_succ, Nat.reduceAdd]
  refine planS_late (fun L9 u hi hb hS => ?_) ?_
  · have hc := hS.1
    have H := Lib.hid (fun (y : Value) (u' : World) (hb' : Calm u u') (hn : y = .bool false) => (FreeS.do dsF_stay hS hb' (i := 11) (show DsF LS LC l.length (.agg #[.slice P7 l.length cp7, .slice none 0 0]) (.agg #[.slice P l.length cp, .slice Q m.length cq]) (.func (.func 22) #[] #[.pointer (some ⟨gk, 0, none⟩)]) 11 y u' from hn) : FreeS [9, 10, 11, 12, 13, 14, 15, 16, 17, 18, 19, 20] (DsF LS LC l.length (.agg #[.slice P7 l.length cp7, .slice none 0 0]) (.agg #[.slice P l.length cp, .slice Q m.length cq]) (.func (.func 22) #[] #[.pointer (some ⟨gk, 0, none⟩)])) w6 ([9, 10, 11, 12, 13, 14, 15, 16, 17, 18, 19, 20].map (updB L9 11)) (updV Y 11 y) u'))
    have e_10 := (show Y 10 = .bool true from FreeS.get hS (i := 10) (by decide) (hb 10 (by simp)))
    rw [e_10]
    clear e_10 hS hb hi hc cSy cDn
    go_wp2_with fail
    exact H.out _ u (Calm.refl _) rfl
  simp only [Act.put, List.setIfInBounds_toArray, List.set_cons_zero, List.set_cons_succ, Nat.reduceAdd]
  refine planS_late (fun L9 u hi hb hS => ?_) ?_
  · have hc := hS.1
    have H := Lib.hid (fun (y : Value) (u' : World) (hb' : Calm u u') (hn : y = .bool false) => (FreeS.do dsF_stay hS hb' (i := 12) (show DsF LS LC l.length (.agg #[.slice P7 l.length cp7, .slice none 0 0]) (.agg #[.slice P l.length cp, .slice Q m.length cq]) (.func (.func 22) #[] #[.pointer (some ⟨gk, 0, none⟩)]) 12 y u' from hn) : FreeS [9, 10, 11, 12, 13, 14, 15, 16, 17, 18, 19, 20] (DsF LS LC l.length (.agg #[.slice P7 l.length cp7, .slice none 0 0]) (.agg #[.slice P l.length cp, .slice Q m.length cq]) (.func (.func 22) #[] #[.pointer (some ⟨gk, 0, none⟩)])) w6 ([9, 10, 11, 12, 13, 14, 15, 16, 17, 18, 19, 20].map (updB L9 12)) (updV Y 12 y) u'))
    have e_11 := (show Y 11 = .bool false from FreeS.get hS (i := 11) (by decide) (hb 11 (by simp)))
    rw [e_11]
    clear e_11 hS hb hi hc cSy cDn
    go_wp2_with fail
    exact H.out _ u (Calm.refl _) rfl
  simp only [Act.put, List.setIfInBounds_toArray, List.set_cons_zero, List.set_cons_succ, Nat.reduceAdd]
  refine planS_late (fun L9 u hi hb hS => ?_) ?_
  · have hc := hS.1
    have H := Lib.hid (fun (y : Value) (u' : World) (hb' : Calm u u') (hn : y = .bool false) => (FreeS.do dsF_stay hS hb' (i := 13) (show DsF LS LC l.length (.agg #[.slice P7 l.length cp7, .slice none 0 0]) (.agg #[.slice P l.length cp, .slice Q m.length cq]) (.func (.func 22) #[] #[.pointer (some ⟨gk, 0, none⟩)]) 13 y u' from hn) : FreeS [9, 10, 11, 12, 13, 14, 15, 16, 17, 18, 19, 20] (DsF LS LC l.length (.agg #[.slice P7 l.length cp7, .slice none 0 0]) (.agg #[.slice P l.length cp, .slice Q m.length cq]) (.func (.func 22) #[] #[.pointer (some ⟨gk, 0, none⟩)])) w6 ([9, 10, 11, 12, 13, 14, 15, 16, 17, 18, 19, 20].map (updB L9 13)) (updV Y 13 y) u'))
    have e_12 := (show Y 12 = .bool false from FreeS.get hS (i := 12) (by decide) (hb 12 (by simp)))
    rw [e_12]
    clear e_12 hS hb hi hc cSy cDn
    go_wp2_with fail
    exact H.out _ u (Calm.refl _) rfl
  simp only [Act.put, List.setIfInBounds_toArray, List.set_cons_zero, List.set_cons_succ, Nat.reduceAdd]
  refine planS_late (fun L9 u hi hb hS => ?_) ?_
  · have hc := hS.1
    have H := Lib.hid (fun (y : Value) (u' : World) (hb' : Calm u u') (hn : y = (.agg #[.slice P7 l.length cp7, .slice none 0 0])) => (FreeS.do dsF_stay hS hb' (i := 14) (show DsF LS LC l.length (.agg #[.slice P7 l.length cp7, .slice none 0 0]) (.agg #[.slice P l.length cp, .slice Q m.length cq]) (.func (.func 22) #[] #[.pointer (some ⟨gk, 0, none⟩)]) 14 y u' from hn) : FreeS [9, 10, 11, 12, 13, 14, 15, 16, 17, 18, 19, 20] (DsF LS LC l.length (.agg #[.slice P7 l.length cp7, .slice none 0 0]) (.agg #[.slice P l.length cp, .slice Q m.length cq]) (.func (.func 22) #[] #[.pointer (some ⟨gk, 0, none⟩)])) w6 ([9, 10, 11, 12, 13, 14, 15, 16, 17, 18, 19, 20].map (updB L9 14)) (updV Y 14 y) u'))
    have e_13 := (show Y 13 = .bool false from FreeS.get hS (i := 13) (by decide) (hb 13 (by simp)))
    obtain ⟨xc_0, xc_1, xc_s⟩ := rowD ((hc.block (rowD H_xc.out).2.2).trans H_xc.out)
    rw [e_13]
    clear e_13 hS hb hi hc cSy cDn
    go_wp2_with fail
    exact H.out _ u (Calm.refl _) rfl
  simp only [Act.put, List.setIfInBounds_toArray, List.set_cons_zero, List.set_cons_succ, Nat.reduceAdd]
  refine planS_late (fun L9 u hi hb hS => ?_) ?_
  · have hc := hS.1
    have H := Lib.hid (fun (y : Value) (u' : World) (hb' : Calm u u') (hn : y = (.agg #[.slice P l.length cp, .slice Q m.length cq])) => (FreeS.do dsF_stay hS hb' (i := 15) (show DsF LS LC l.length (.agg #[.slice P7 l.length cp7, .slice none 0 0]) (.agg #[.slice P l.length cp, .slice Q m.length cq]) (.func (.func 22) #[] #[.pointer (some ⟨gk, 0, none⟩)]) 15 y u' from hn) : FreeS [9, 10, 11, 12, 13, 14, 15, 16, 17, 18, 19, 20] (DsF LS LC l.length (.agg #[.slice P7 l.length cp7, .slice none 0 0]) (.agg #[.slice P l.length cp, .slice Q m.length cq]) (.func (.func 22) #[] #[.pointer (some ⟨gk, 0, none⟩)])) w6 ([9, 10, 11, 12, 13, 14, 15, 16, 17, 18, 19, 20].map (updB L9 15)) (updV Y 15 y) u'))
    have e_13 := (show Y 13 = .bool false from FreeS.get hS (i := 13) (by decide) (hb 13 (by simp)))
    obtain ⟨xx_0, xx_1, xx_s⟩ := rowD ((hc.block (rowD H_xx.out).2.2).trans H_xx.out)
    rw [e_13]
    clear e_13 hS hb hi hc cSy cDn
    go_wp2_with fail
    exact H.out _ u (Calm.refl _) rfl
  simp only [Act.put, List.setIfInBounds_toArray, List.set_cons_zero, List.set_cons_succ, Nat.reduceAdd]
  refine planS_late (fun L9 u hi hb hS => ?_) ?_
  · have hc := hS.1
    have H := Lib.hid (fun (y : Value) (u' : World) (hb' : Calm u u') (hn : y = (.func (.func 22) #[] #[.pointer (some ⟨gk, 0, none⟩)])) => (FreeS.do dsF_stay hS hb' (i := 16) (show DsF LS LC l.length (.agg #[.slice P7 l.length cp7, .slice none 0 0]) (.agg #[.slice P l.length cp, .slice Q m.length cq]) (.func (.func 22) #[] #[.pointer (some ⟨gk, 0, none⟩)]) 16 y u' from hn) : FreeS [9, 10, 11, 12, 13, 14, 15, 16, 17, 18, 19, 20] (DsF LS LC l.length (.agg #[.slice P7 l.length cp7, .slice none 0 0]) (.agg #[.slice P l.length cp, .slice Q m.length cq]) (.func (.func 22) #[] #[.pointer (some ⟨gk, 0, none⟩)])) w6 ([9, 10, 11, 12, 13, 14, 15, 16, 17, 18, 19, 20].map (updB L9 16)) (updV Y 16 y) u'))
    have e_13 := (show Y 13 = .bool false from FreeS.get hS (i := 13) (by decide) (hb 13 (by simp)))
    rw [e_13]
    clear e_13 hS hb hi hc cSy cDn
    go_wp2_with fail
    exact H.out _ u (Calm.refl _) rfl
  simp only [Act.put, List.setIfInBounds_toArray, List.set_cons_zero, List.set_cons_succ, Nat.reduceAdd]
  refine planS_late (fun L9 u hi hb hS => ?_) ?_
  · have hc := hS.1
    have H := Lib.hid (fun (y : Value) (u' : World) (hb' : Calm u u') (hn : ∃ P c, y = .agg #[.slice P l.length c, .slice none 0 0] ∧ LiesP u' P LC) => (FreeS.do dsF_stay hS hb' (i := 17) (show DsF LS LC l.length (.agg #[.slice P7 l.length cp7, .slice none 0 0]) (.agg #[.slice P l.length cp, .slice Q m.length cq]) (.func (.func 22) #[] #[.pointer (some ⟨gk, 0, none⟩)]) 17 y u' from hn) : FreeS [9, 10, 11, 12, 13, 14, 15, 16, 17, 18, 19, 20] (DsF LS LC l.length (.agg #[.slice P7 l.length cp7, .slice none 0 0]) (.agg #[.slice P l.length cp, .slice Q m.length cq]) (.func (.func 22) #[] #[.pointer (some ⟨gk, 0, none⟩)])) w6 ([9, 10, 11, 12, 13, 14, 15, 16, 17, 18, 19, 20].map (updB L9 17)) (updV Y 17 y) u'))
    have e_13 := (show Y 13 = .bool false from FreeS.get hS (i := 13) (by decide) (hb 13 (by simp)))
    have e_15 := (show Y 15 = (.agg #[.slice P l.length cp, .slice Q m.length cq]) from FreeS.get hS (i := 15) (by decide) (hb 15 (by simp)))
    have e_16 := (show Y 16 = (.func (.func 22) #[] #[.pointer (some ⟨gk, 0, none⟩)]) from FreeS.get hS (i := 16) (by decide) (hb 16 (by simp)))
    have c1 := cDn gk u (HU.out.call hc) ((hc.block (row1 H_xk.out).2).trans H_xk.out)
    rw [e_13, e_15, e_16]
    clear e_13 e_15 e_16 hS hb hi hc cSy cDn
    go_wp2_with (go_at_call 21; (with_reducible refine c1.mono ?_); rintro e w7 ⟨P5', c5', rfl, ho5, hk⟩; have HQ5 := Lib.hid (OwnP.at_ ho5).2; clear ho5; have HK7 := Lib.hid hk; clear hk)
    exact H.out _ w7 HK7.out ⟨P5', c5', rfl, HQ5.out⟩
  simp only [Act.put, List.setIfInBounds_toArray, List.set_cons_zero, List.set_cons_succ, Nat.reduceAdd]
  refine planS_late (fun L9 u hi hb hS => ?_) ?_
  · have hc := hS.1
    have H := Lib.hid (fun (y : Value) (u' : World) (hb' : Calm u u') (hn : y = .bool true) => (FreeS.do dsF_stay hS hb' (i := 18) (show DsF LS LC l.length (.agg #[.slice P7 l.length cp7, .slice none 0 0]) (.agg #[.slice P l.length cp, .slice Q m.length cq]) (.func (.func 22) #[] #[.pointer (some ⟨gk, 0, none⟩)]) 18 y u' from hn) : FreeS [9, 10, 11, 12, 13, 14, 15, 16, 17, 18, 19, 20] (DsF LS LC l.length (.agg #[.slice P7 l.length cp7, .slice none 0 0]) (.agg #[.slice P l.length cp, .slice Q m.length cq]) (.func (.func 22) #[] #[.pointer (some ⟨gk, 0, none⟩)])) w6 ([9, 10, 11, 12, 13, 14, 15, 16, 17, 18, 19, 20].map (updB L9 18)) (updV Y 18 y) u'))
    have e_13 := (show Y 13 = .bool false from FreeS.get hS (i := 13) (by decide) (hb 13 (by simp)))
    have e_14 := (show Y 14 = (.agg #[.slice P7 l.length cp7, .slice none 0 0]) from FreeS.get hS (i := 14) (by decide) (hb 14 (by simp)))
    obtain ⟨P_17, c_17, e_17, h_17⟩ := (show ∃ P c, Y 17 = .agg #[.slice P l.length c, .slice none 0 0] ∧ LiesP u P LC from FreeS.get hS (i := 17) (by decide) (hb 17 (by simp)))
    have c1 := fun c5 c6 => ds_same (cp := c5) (cp' := c6) (HP7.out.calm hc) h_17 hCl hn
    rw [e_13, e_14, e_17]
    clear e_13 e_14 e_17 hS hb hi hc cSy cDn
    go_wp2_with (go_at_call 19; (with_reducible refine (c1 _ _).mono ?_); rintro e w7 ⟨rfl, hk⟩; have HK7 := Lib.hid hk; clear hk)
    exact H.out _ w7 HK7.out rfl
  simp only [Act.put, List.setIfInBounds_toArray, List.set_cons_zero, List.set_cons_succ, Nat.reduceAdd]
  refine planS_late (fun L9 u hi hb hS => ?_) ?_
  · have hc := hS.1
    have H := Lib.hid (fun (y : Value) (u' : World) (hb' : Calm u u') (hn : y = .bool false) => (FreeS.do dsF_stay hS hb' (i := 19) (show DsF LS LC l.length (.agg #[.slice P7 l.length cp7, .slice none 0 0]) (.agg #[.slice P l.length cp, .slice Q m.length cq]) (.func (.func 22) #[] #[.pointer (some ⟨gk, 0, none⟩)]) 19 y u' from hn) : FreeS [9, 10, 11, 12, 13, 14, 15, 16, 17, 18, 19, 20] (DsF LS LC l.length (.agg #[.slice P7 l.length cp7, .slice none 0 0]) (.agg #[.slice P l.length cp, .slice Q m.length cq]) (.func (.func 22) #[] #[.pointer (some ⟨gk, 0, none⟩)])) w6 ([9, 10, 11, 12, 13, 14, 15, 16, 17, 18, 19, 20].map (updB L9 19)) (updV Y 19 y) u'))
    have e_13 := (show Y 13 = .bool false from FreeS.get hS (i := 13) (by decide) (hb 13 (by simp)))
    have e_18 := (show Y 18 = .bool true from FreeS.get hS (i := 18) (by decide) (hb 18 (by simp)))
    rw [e_13, e_18]
    clear e_13 e_18 hS hb hi hc cSy cDn
    go_wp2_with fail
    exact H.out _ u (Calm.refl _) rfl
  simp only [Act.put, List.setIfInBounds_toArray, List.set_cons_zero, List.set_cons_succ, Nat.reduceAdd]
  refine planS_late (fun L9 u hi hb hS => ?_) ?_
  · have hc := hS.1
    have H := Lib.hid (fun (y : Value) (u' : World) (hb' : Calm u u') (hn : y = .bool false) => (FreeS.do dsF_stay hS hb' (i := 20) (show DsF LS LC l.length (.agg #[.slice P7 l.length cp7, .slice none 0 0]) (.agg #[.slice P l.length cp, .slice Q m.length cq]) (.func (.func 22) #[] #[.pointer (some ⟨gk, 0, none⟩)]) 20 y u' from hn) : FreeS [9, 10, 11, 12, 13, 14, 15, 16, 17, 18, 19, 20] (DsF LS LC l.length (.agg #[.slice P7 l.length cp7, .slice none 0 0]) (.agg #[.slice P l.length cp, .slice Q m.length cq]) (.func (.func 22) #[] #[.pointer (some ⟨gk, 0, none⟩)])) w6 ([9, 10, 11, 12, 13, 14, 15, 16, 17, 18, 19, 20].map (updB L9 20)) (updV Y 20 y) u'))
    have e_13 := (show Y 13 = .bool false from FreeS.get hS (i := 13) (by decide) (hb 13 (by simp)))
    have e_19 := (show Y 19 = .bool false from FreeS.get hS (i := 19) (by decide) (hb 19 (by simp)))
    rw [e_13, e_19]
    clear e_13 e_19 hS hb hi hc cSy cDn
    go_wp2_with fail
    exact H.out _ u (Calm.refl _) rfl
  try simp only [Act.put, Nat.reduceAdd]
  refine planS_end ?_
  intro w7 hS
  have hc7 := hS.1
  have eY := (show Y 20 = .bool false from FreeS.get (L := fun _ => true) hS (i := 20) (by decide) rfl)
  rw [eY]
  clear hS eY cDn hCl
  have xx := (hc7.block (rowD H_xx.out).2.2).trans H_xx.out
  have xk := (hc7.block (row1 H_xk.out).2).trans H_xk.out
  have xa := (hc7.block (rowD H_xa.out).2.2).trans H_xa.out
  have xb := (hc7.block (rowD H_xb.out).2.2).trans H_xb.out
  have xc := (hc7.block (rowD H_xc.out).2.2).trans H_xc.out
  replace HP6 := Lib.hid (HP6.out.calm hc7)
  replace HP7 := Lib.hid (HP7.out.calm hc7)
  have hu := HU.out.call hc7
  clear hc7 HU H_xx H_xk H_xa H_xb H_xc
  obtain ⟨xx_0, xx_1, xx_s⟩ := rowD xx; obtain ⟨xk_0, xk_s⟩ := row1 xk; obtain ⟨xa_0, xa_1, xa_s⟩ := rowD xa; obtain ⟨xb_0, xb_1, xb_s⟩ := rowD xb; obtain ⟨xc_0, xc_1, xc_s⟩ := rowD xc
  clear HP6 HP7
  have qf := ds_field
  have hs1 : 3500 < (s.size : Int) := by omega
  go_wp2_with (first
      | (go_at_call 20; (with_reducible refine (cSy _ hu).mono ?_); rintro e w8 ⟨P8, c8, rfl, ho8, hk⟩; obtain ⟨b8, q8, rfl, hb8, hc8⟩ := ds_cell (OwnP.at_ ho8).2 hT; clear ho8 cSy; clear xx_0 xx_1 xx_s; clear xk_0 xk_s; clear xa_0 xa_1 xa_s; clear xb_0 xb_1 xb_s; clear xc_0 xc_1 xc_s; replace xx := (hk.block (rowD xx).2.2).trans xx; replace xk := (hk.block (row1 xk).2).trans xk; replace xa := (hk.block (rowD xa).2.2).trans xa; replace xb := (hk.block (rowD xb).2.2).trans xb; replace xc := (hk.block (rowD xc).2.2).trans xc; replace hu := hu.call hk; clear hk; obtain ⟨xx_0, xx_1, xx_s⟩ := rowD xx; obtain ⟨xk_0, xk_s⟩ := row1 xk; obtain ⟨xa_0, xa_1, xa_s⟩ := rowD xa; obtain ⟨xb_0, xb_1, xb_s⟩ := rowD xb; obtain ⟨xc_0, xc_1, xc_s⟩ := rowD xc)
      | (go_at_call 19; (with_reducible refine (sameDisk_zero _).mono ?_); rintro e w9 ⟨rfl, hk⟩; clear xx_0 xx_1 xx_s; clear xk_0 xk_s; clear xa_0 xa_1 xa_s; clear xb_0 xb_1 xb_s; clear xc_0 xc_1 xc_s; replace xx := (hk.block (rowD xx).2.2).trans xx; replace xk := (hk.block (row1 xk).2).trans xk; replace xa := (hk.block (rowD xa).2.2).trans xa; replace xb := (hk.block (rowD xb).2.2).trans xb; replace xc := (hk.block (rowD xc).2.2).trans xc; replace hu := hu.call hk; clear hk; obtain ⟨xx_0, xx_1, xx_s⟩ := rowD xx; obtain ⟨xk_0, xk_s⟩ := row1 xk; obtain ⟨xa_0, xa_1, xa_s⟩ := rowD xa; obtain ⟨xb_0, xb_1, xb_s⟩ := rowD xb; obtain ⟨xc_0, xc_1, xc_s⟩ := rowD xc))
  go_ret
  exact ⟨rfl, hu⟩
set_option maxHeartbeats 16000000 in
theorem ds_full (P Q : Option Addr) (cp cq : Nat) (l : List ByteArray) (m : List Wr) (k : Nat) (s : ByteArray) (A : Option Addr) (c : Nat) (K : List Bool) (w : World) (hh : HasD w P Q l m) (hn : l.length ≤ 9223372036854775807) (hm : m.length ≤ 9223372036854775807) (hK : LiesO w A K) (h0 : dkErr l m = 0) (hki : k < l.length) (hs : ¬ 3500 < s.size) (h4 : m.length = 400) :
    Calls Try.prog 3 #[.agg #[.slice P l.length cp, .slice Q m.length cq], .int .i64 (k : Int), .string s, .slice A K.length c] w fun e w' => e = .returned (.bool true) ∧ Calm w w' := by
  have xx := heap_past (.cells #[.slice A K.length c] 26) (heap_new w (.cells #[.slice P l.length cp, .slice Q m.length cq] 25))
  have xk := heap_new (w.alloc (.cells #[.slice P l.length cp, .slice Q m.length cq] 25)) (.cells #[.slice A K.length c] 26)
  rw [World.size_alloc] at xk
  have hu := ((Calm.refl w).alloc (.cells #[.slice P l.length cp, .slice Q m.length cq] 25)).alloc (.cells #[.slice A K.length c] 26)
  obtain ⟨e1, hT⟩ := ds_read h0 hki
  have cR := fun u (hu : Calm w u) => diskRead_any P Q cp cq l m k u (hh.calm hu).p (hh.calm hu).q hn hm
  rw [e1] at cR
  have e3 := ds_in h0 s hki
  generalize rdS l m k = T at cR hT
  rw [if_neg hs, if_pos h4] at e3
  have cP := fun u (hu : Calm w u) => (hh.calm hu).put_bad cp cq hn hm e3 (by decide)
  clear e1 e3 hn hm
  have H4 := Lib.hid h4
  clear h4
  have hn := (dk_len h0).1
  have hm := (dk_len h0).2
  have cS := fun u (hu : Calm w u) => (hh.calm hu).sync cp cq h0
  have cK := fun u (hu : Calm w u) => (hh.calm hu).crash cp cq h0 A c K (hK.calm hu)
  have cD := fun u (hu : Calm w u) => refDisk_any P Q cp cq l m u (hh.calm hu).p (hh.calm hu).q hn hm
  have cC := fun u (hu : Calm w u) => diskCheck_any P Q cp cq l m u (hh.calm hu).p (hh.calm hu).q hn hm
  have cSy := fun u (hu : Calm w u) => synced_any P Q cp cq l m u (hh.calm hu).p (hh.calm hu).q h0
  have cDn := fun B u (hu : Calm w u) (hB : KBx B A K.length c u) => doneCrash_any P Q cp cq l m B A c K u (hh.calm hu).p (hh.calm hu).q h0 hB (hK.calm hu)
  unfold DoneEnd at cSy cDn
  rw [h0] at cD cC
  have hLl : (doneL (fun _ => true) 0 m l).length = l.length := doneL_len _ _ _ _
  have hCl : (doneL (selK K) 0 m l).length = l.length := doneL_len _ _ _ _
  unfold curP at cS hT
  clear h0 hK hm
  generalize doneL (fun _ => true) 0 m l = LS at cS cSy hLl hT
  generalize doneL (selK K) 0 m l = LC at cK cDn hCl
  go_enter Try.func3, Try.ntmps3
  go_upto_region 1 with fail
  generalize (w.alloc (.cells #[.slice P l.length cp, .slice Q m.length cq] 25)).alloc (.cells #[.slice A K.length c] 26) = w0 at xx xk hu ⊢
  generalize w.heap.size + 1 = gk at xk ⊢
  generalize w.heap.size = gx at xx ⊢
  obtain ⟨xx_0, xx_1, xx_s⟩ := rowD xx; obtain ⟨xk_0, xk_s⟩ := row1 xk
  go_upto_region 10 with (first
      | (go_at_call 13; (with_reducible refine (cR _ hu).mono ?_); rintro e w1 ⟨rfl, hk⟩; clear cR; clear xx_0 xx_1 xx_s; clear xk_0 xk_s; replace xx := (hk.block (rowD xx).2.2).trans xx; replace xk := (hk.block (row1 xk).2).trans xk; replace hu := hu.call hk; clear hk; obtain ⟨xx_0, xx_1, xx_s⟩ := rowD xx; obtain ⟨xk_0, xk_s⟩ := row1 xk)
      | (go_at_call 14; (with_reducible refine (cP _ hu).mono ?_); rintro e w2 ⟨rfl, hk⟩; clear cP; clear xx_0 xx_1 xx_s; clear xk_0 xk_s; replace xx := (hk.block (rowD xx).2.2).trans xx; replace xk := (hk.block (row1 xk).2).trans xk; replace hu := hu.call hk; clear hk; obtain ⟨xx_0, xx_1, xx_s⟩ := rowD xx; obtain ⟨xk_0, xk_s⟩ := row1 xk; clear xx_0 xx_1 xx_s; clear xk_0 xk_s; replace xx := heap_past (.cells #[.slice none 0 0, .slice none 0 0] 25) xx; replace xk := heap_past (.cells #[.slice none 0 0, .slice none 0 0] 25) xk; replace hu := hu.alloc (.cells #[.slice none 0 0, .slice none 0 0] 25); have xa := heap_new w2 (.cells #[.slice none 0 0, .slice none 0 0] 25); obtain ⟨xx_0, xx_1, xx_s⟩ := rowD xx; obtain ⟨xk_0, xk_s⟩ := row1 xk; obtain ⟨xa_0, xa_1, xa_s⟩ := rowD xa)
      | (go_at_call 15; (with_reducible refine (cS _ hu).mono ?_); rintro e w3 ⟨P6, cp6, rfl, ho6, hk⟩; have HP6 := Lib.hid ((OwnP.at_ ho6).2.calm ((Calm.refl _).alloc (.cells #[.slice P6 l.length cp6, .slice none 0 0] 25))); clear ho6 cS; clear xx_0 xx_1 xx_s; clear xk_0 xk_s; clear xa_0 xa_1 xa_s; replace xx := (hk.block (rowD xx).2.2).trans xx; replace xk := (hk.block (row1 xk).2).trans xk; replace xa := (hk.block (rowD xa).2.2).trans xa; replace hu := hu.call hk; clear hk; obtain ⟨xx_0, xx_1, xx_s⟩ := rowD xx; obtain ⟨xk_0, xk_s⟩ := row1 xk; obtain ⟨xa_0, xa_1, xa_s⟩ := rowD xa; clear xx_0 xx_1 xx_s; clear xk_0 xk_s; clear xa_0 xa_1 xa_s; replace xx := heap_past (.cells #[.slice P6 l.length cp6, .slice none 0 0] 25) xx; replace xk := heap_past (.cells #[.slice P6 l.length cp6, .slice none 0 0] 25) xk; replace xa := heap_past (.cells #[.slice P6 l.length cp6, .slice none 0 0] 25) xa; replace hu := hu.alloc (.cells #[.slice P6 l.length cp6, .slice none 0 0] 25); have xb := heap_new w3 (.cells #[.slice P6 l.length cp6, .slice none 0 0] 25); obtain ⟨xx_0, xx_1, xx_s⟩ := rowD xx; obtain ⟨xk_0, xk_s⟩ := row1 xk; obtain ⟨xa_0, xa_1, xa_s⟩ := rowD xa; obtain ⟨xb_0, xb_1, xb_s⟩ := rowD xb)
      | (go_at_call 16; (with_reducible refine (cK _ hu).mono ?_); rintro e w4 ⟨P7, cp7, rfl, ho7, hk⟩; have HP7 := Lib.hid ((OwnP.at_ ho7).2.calm ((Calm.refl _).alloc (.cells #[.slice P7 l.length cp7, .slice none 0 0] 25))); clear ho7 cK; clear xx_0 xx_1 xx_s; clear xk_0 xk_s; clear xa_0 xa_1 xa_s; clear xb_0 xb_1 xb_s; replace xx := (hk.block (rowD xx).2.2).trans xx; replace xk := (hk.block (row1 xk).2).trans xk; replace xa := (hk.block (rowD xa).2.2).trans xa; replace xb := (hk.block (rowD xb).2.2).trans xb; replace HP6 := Lib.hid (HP6.out.calm hk); replace hu := hu.call hk; clear hk; obtain ⟨xx_0, xx_1, xx_s⟩ := rowD xx; obtain ⟨xk_0, xk_s⟩ := row1 xk; obtain ⟨xa_0, xa_1, xa_s⟩ := rowD xa; obtain ⟨xb_0, xb_1, xb_s⟩ := rowD xb; clear xx_0 xx_1 xx_s; clear xk_0 xk_s; clear xa_0 xa_1 xa_s; clear xb_0 xb_1 xb_s; replace xx := heap_past (.cells #[.slice P7 l.length cp7, .slice none 0 0] 25) xx; replace xk := heap_past (.cells #[.slice P7 l.length cp7, .slice none 0 0] 25) xk; replace xa := heap_past (.cells #[.slice P7 l.length cp7, .slice none 0 0] 25) xa; replace xb := heap_past (.cells #[.slice P7 l.length cp7, .slice none 0 0] 25) xb; replace HP6 := Lib.hid (HP6.out.calm ((Calm.refl _).alloc (.cells #[.slice P7 l.length cp7, .slice none 0 0] 25))); replace hu := hu.alloc (.cells #[.slice P7 l.length cp7, .slice none 0 0] 25); have xc := heap_new w4 (.cells #[.slice P7 l.length cp7, .slice none 0 0] 25); obtain ⟨xx_0, xx_1, xx_s⟩ := rowD xx; obtain ⟨xk_0, xk_s⟩ := row1 xk; obtain ⟨xa_0, xa_1, xa_s⟩ := rowD xa; obtain ⟨xb_0, xb_1, xb_s⟩ := rowD xb; obtain ⟨xc_0, xc_1, xc_s⟩ := rowD xc)
      | (go_at_call 17; (with_reducible refine (cD _ hu).mono ?_); rintro e w5 ⟨rfl, hk⟩; clear cD; clear xx_0 xx_1 xx_s; clear xk_0 xk_s; clear xa_0 xa_1 xa_s; clear xb_0 xb_1 xb_s; clear xc_0 xc_1 xc_s; replace xx := (hk.block (rowD xx).2.2).trans xx; replace xk := (hk.block (row1 xk).2).trans xk; replace xa := (hk.block (rowD xa).2.2).trans xa; replace xb := (hk.block (rowD xb).2.2).trans xb; replace xc := (hk.block (rowD xc).2.2).trans xc; replace HP6 := Lib.hid (HP6.out.calm hk); replace HP7 := Lib.hid (HP7.out.calm hk); replace hu := hu.call hk; clear hk; obtain ⟨xx_0, xx_1, xx_s⟩ := rowD xx; obtain ⟨xk_0, xk_s⟩ := row1 xk; obtain ⟨xa_0, xa_1, xa_s⟩ := rowD xa; obtain ⟨xb_0, xb_1, xb_s⟩ := rowD xb; obtain ⟨xc_0, xc_1, xc_s⟩ := rowD xc)
      | (go_at_call 18; (with_reducible refine (cC _ hu).mono ?_); rintro e w6 ⟨rfl, hk⟩; clear cC; clear xx_0 xx_1 xx_s; clear xk_0 xk_s; clear xa_0 xa_1 xa_s; clear xb_0 xb_1 xb_s; clear xc_0 xc_1 xc_s; replace xx := (hk.block (rowD xx).2.2).trans xx; replace xk := (hk.block (row1 xk).2).trans xk; replace xa := (hk.block (rowD xa).2.2).trans xa; replace xb := (hk.block (rowD xb).2.2).trans xb; replace xc := (hk.block (rowD xc).2.2).trans xc; replace HP6 := Lib.hid (HP6.out.calm hk); replace HP7 := Lib.hid (HP7.out.calm hk); replace hu := hu.call hk; clear hk; obtain ⟨xx_0, xx_1, xx_s⟩ := rowD xx; obtain ⟨xk_0, xk_s⟩ := row1 xk; obtain ⟨xa_0, xa_1, xa_s⟩ := rowD xa; obtain ⟨xb_0, xb_1, xb_s⟩ := rowD xb; obtain ⟨xc_0, xc_1, xc_s⟩ := rowD xc))
  clear xx_0 xx_1 xx_s; clear xk_0 xk_s; clear xa_0 xa_1 xa_s; clear xb_0 xb_1 xb_s; clear xc_0 xc_1 xc_s
  have H_xx := Lib.hid xx
  have H_xk := Lib.hid xk
  have H_xa := Lib.hid xa
  have H_xb := Lib.hid xb
  have H_xc := Lib.hid xc
  have HU := Lib.hid hu
  clear xx xk xa xb xc hu
  refine wp_region_stages [.val (.int .i64 0), .val (.bool false), .val (.bool false), .val (.int .i64 0), .val (.bool false), .val (.bool false), .val (.bool false), .val (.agg #[.slice P6 l.length cp6, .slice none 0 0]), .val (.agg #[.slice P l.length cp, .slice Q m.length cq]), .late, .late [9], .late [10], .late [11], .late [12], .late [13], .late [13], .late [13], .late [13, 15, 16], .late [13, 14, 17], .late [13, 18], .late [13, 19]] [9, 10, 11, 12, 13, 14, 15, 16, 17, 18, 19, 20]
    (FreeS [9, 10, 11, 12, 13, 14, 15, 16, 17, 18, 19, 20] (DsF LS LC l.length (.agg #[.slice P7 l.length cp7, .slice none 0 0]) (.agg #[.slice P l.length cp, .slice Q m.length cq]) (.func (.func 22) #[] #[.pointer (some ⟨gk, 0, none⟩)])) w6) (by kernel_rfl) (by kernel_rfl) (by kernel_rfl) (FreeS.stay dsF_stay) (fun Y => FreeS.start (Calm.refl _).drew) (fun Y => ?_)
  iterate 7
    refine planS_val (by kernel_rfl) (fun L9 u hb hS => ?_) ?_
    · clear hS hb
      go_simp
    simp only [Act.put, List.setIfInBounds_toArray, List.set_cons_zero, List.set_cons_succ, Nat.reduceAdd]
  refine planS_val (by kernel_rfl) (fun L9 u hb hS => ?_) ?_
  · have hc := hS.1
    obtain ⟨xb_0, xb_1, xb_s⟩ := rowD ((hc.block (rowD H_xb.out).2.2).trans H_xb.out)
    clear hS hb hc
    go_simp
  simp only [Act.put, List.setIfInBounds_toArray, List.set_cons_zero, List.set_cons_succ, Nat.reduceAdd]
  refine planS_val (by kernel_rfl) (fun L9 u hb hS => ?_) ?_
  · have hc := hS.1
    obtain ⟨xx_0, xx_1, xx_s⟩ := rowD ((hc.block (rowD H_xx.out).2.2).trans H_xx.out)
    clear hS hb hc
    go_simp
  simp only [Act.put, List.setIfInBounds_toArray, List.set_cons_zero, List.set_cons_succ, Nat.reduceAdd]
  refine planS_late (fun L9 u hi hb hS => ?_) ?_
  · have hc := hS.1
    have H := Lib.hid (fun (y : Value) (u' : World) (hb' : Calm u u') (hn : ∃ P c, y = .agg #[.slice P l.length c, .slice none 0 0] ∧ LiesP u' P LS) => (FreeS.do dsF_stay hS hb' (i := 9) (show DsF LS LC l.length (.agg #[.slice P7 l.length cp7, .slice none 0 0]) (.agg #[.slice P l.length cp, .slice Q m.length cq]) (.func (.func 22) #[] #[.pointer (some ⟨gk, 0, none⟩)]) 9 y u' from hn) : FreeS [9, 10, 11, 12, 13, 14, 15, 16, 17, 18, 19, 20] (DsF LS LC l.length (.agg #[.slice P7 l.length cp7, .slice none 0 0]) (.agg #[.slice P l.length cp, .slice Q m.length cq]) (.func (.func 22) #[] #[.pointer (some ⟨gk, 0, none⟩)])) w6 ([9, 10, 11, 12, 13, 14, 15, 16, 17, 18, 19, 20].map (updB L9 9)) (updV Y 9 y) u'))
    have c1 := cSy u (HU.out.call hc)
    clear hS hb hi hc cSy cDn
    go_wp2_with (go_at_call 20; (with_reducible refine c1.mono ?_); rintro e w7 ⟨P5', c5', rfl, ho5, hk⟩; have HQ5 := Lib.hid (OwnP.at_ ho5).2; clear ho5; have HK7 := Lib.hid hk; clear hk)
    exact H.out _ w7 HK7.out ⟨P5', c5', rfl, HQ5.out⟩
  simp only [Act.put, List.setIfInBounds_toArray, List.set_cons_zero, List.set_cons_succ, Nat.reduceAdd]
  refine planS_late (fun L9 u hi hb hS => ?_) ?_
  · have hc := hS.1
    have H := Lib.hid (fun (y : Value) (u' : World) (hb' : Calm u u') (hn : y = .bool true) => (FreeS.do dsF_stay hS hb' (i := 10) (show DsF LS LC l.length (.agg #[.slice P7 l.length cp7, .slice none 0 0]) (.agg #[.slice P l.length cp, .slice Q m.length cq]) (.func (.func 22) #[] #[.pointer (some ⟨gk, 0, none⟩)]) 10 y u' from hn) : FreeS [9, 10, 11, 12, 13, 14, 15, 16, 17, 18, 19, 20] (DsF LS LC l.length (.agg #[.slice P7 l.length cp7, .slice none 0 0]) (.agg #[.slice P l.length cp, .slice Q m.length cq]) (.func (.func 22) #[] #[.pointer (some ⟨gk, 0, none⟩)])) w6 ([9, 10, 11, 12, 13, 14, 15, 16, 17, 18, 19, 20].map (updB L9 10)) (updV Y 10 y) u'))
    obtain ⟨P_9, c_9, e_9, h_9⟩ := (show ∃ P c, Y 9 = .agg #[.slice P l.length c, .slice none 0 0] ∧ LiesP u P LS from FreeS.get hS (i := 9) (by decide) (hb 9 (by simp)))
    have c1 := fun c5 c6 => ds_same (cp := c5) (cp' := c6) (HP6.out.calm hc) h_9 hLl hn
    rw [e_9]
    clear e_9 hS hb hi hc cSy cDn
    go_wp2_with (go_at_call 19; (with_reducible refine (c1 _ _).mono ?_); rintro e w7 ⟨rfl, hk⟩; have HK7 := Lib.hid hk; clear hk)
    exact H.out _ w7 HK7.out rfl
  simp only [Act.put, List.setIfInBounds_toArray, List.set_cons_zero, List.set_cons_succ, Nat.reduceAdd]
  refine planS_late (fun L9 u hi hb hS => ?_) ?_
  · have hc := hS.1
    have H := Lib.hid (fun (y : Value) (u' : World) (hb' : Calm u u') (hn : y = .bool false) => (FreeS.do dsF_stay hS hb' (i := 11) (show DsF LS LC l.length (.agg #[.slice P7 l.length cp7, .slice none 0 0]) (.agg #[.slice P l.length cp, .slice Q m.length cq]) (.func (.func 22) #[] #[.pointer (some ⟨gk, 0, none⟩)]) 11 y u' from hn) : FreeS [9, 10, 11, 12, 13, 14, 15, 16, 17, 18, 19, 20] (DsF LS LC l.length (.agg #[.slice P7 l.length cp7, .slice none 0 0]) (.agg #[.slice P l.length cp, .slice Q m.length cq]) (.func (.func 22) #[] #[.pointer (some ⟨gk, 0, none⟩)])) w6 ([9, 10, 11, 12, 13, 14, 15, 16, 17, 18, 19, 20].map (updB L9 11)) (updV Y 11 y) u'))
    have e_10 := (show Y 10 = .bool true from FreeS.get hS (i := 10) (by decide) (hb 10 (by simp)))
    rw [e_10]
    clear e_10 hS hb hi hc cSy cDn
    go_wp2_with fail
    exact H.out _ u (Calm.refl _) rfl
  simp only [Act.put, List.setIfInBounds_toArray, List.set_cons_zero, List.set_cons_succ, Nat.reduceAdd]
  refine planS_late (fun L9 u hi hb hS => ?_) ?_
  · have hc := hS.1
    have H := Lib.hid (fun (y : Value) (u' : World) (hb' : Calm u u') (hn : y = .bool false) => (FreeS.do dsF_stay hS hb' (i := 12) (show DsF LS LC l.length (.agg #[.slice P7 l.length cp7, .slice none 0 0]) (.agg #[.slice P l.length cp, .slice Q m.length cq]) (.func (.func 22) #[] #[.pointer (some ⟨gk, 0, none⟩)]) 12 y u' from hn) : FreeS [9, 10, 11, 12, 13, 14, 15, 16, 17, 18, 19, 20] (DsF LS LC l.length (.agg #[.slice P7 l.length cp7, .slice none 0 0]) (.agg #[.slice P l.length cp, .slice Q m.length cq]) (.func (.func 22) #[] #[.pointer (some ⟨gk, 0, none⟩)])) w6 ([9, 10, 11, 12, 13, 14, 15, 16, 17, 18, 19, 20].map (updB L9 12)) (updV Y 12 y) u'))
    have e_11 := (show Y 11 = .bool false from FreeS.get hS (i := 11) (by decide) (hb 11 (by simp)))
    rw [e_11]
    clear e_11 hS hb hi hc cSy cDn
    go_wp2_with fail
    exact H.out _ u (Calm.refl _) rfl
  simp only [Act.put, List.setIfInBounds_toArray, List.set_cons_zero, List.set_cons_succ, Nat.reduceAdd]
  refine planS_late (fun L9 u hi hb hS => ?_) ?_
  · have hc := hS.1
    have H := Lib.hid (fun (y : Value) (u' : World) (hb' : Calm u u') (hn : y = .bool false) => (FreeS.do dsF_stay hS hb' (i := 13) (show DsF LS LC l.length (.agg #[.slice P7 l.length cp7, .slice none 0 0]) (.agg #[.slice P l.length cp, .slice Q m.length cq]) (.func (.func 22) #[] #[.pointer (some ⟨gk, 0, none⟩)]) 13 y u' from hn) : FreeS [9, 10, 11, 12, 13, 14, 15, 16, 17, 18, 19, 20] (DsF LS LC l.length (.agg #[.slice P7 l.length cp7, .slice none 0 0]) (.agg #[.slice P l.length cp, .slice Q m.length cq]) (.func (.func 22) #[] #[.pointer (some ⟨gk, 0, none⟩)])) w6 ([9, 10, 11, 12, 13, 14, 15, 16, 17, 18, 19, 20].map (updB L9 13)) (updV Y 13 y) u'))
    have e_12 := (show Y 12 = .bool false from FreeS.get hS (i := 12) (by decide) (hb 12 (by simp)))
    rw [e_12]
    clear e_12 hS hb hi hc cSy cDn
    go_wp2_with fail
    exact H.out _ u (Calm.refl _) rfl
  simp only [Act.put, List.setIfInBounds_toArray, List.set_cons_zero, List.set_cons_succ, Nat.reduceAdd]
  refine planS_late (fun L9 u hi hb hS => ?_) ?_
  · have hc := hS.1
    have H := Lib.hid (fun (y : Value) (u' : World) (hb' : Calm u u') (hn : y = (.agg #[.slice P7 l.length cp7, .slice none 0 0])) => (FreeS.do dsF_stay hS hb' (i := 14) (show DsF LS LC l.length (.agg #[.slice P7 l.length cp7, .slice none 0 0]) (.agg #[.slice P l.length cp, .slice Q m.length cq]) (.func (.func 22) #[] #[.pointer (some ⟨gk, 0, none⟩)]) 14 y u' from hn) : FreeS [9, 10, 11, 12, 13, 14, 15, 16, 17, 18, 19, 20] (DsF LS LC l.length (.agg #[.slice P7 l.length cp7, .slice none 0 0]) (.agg #[.slice P l.length cp, .slice Q m.length cq]) (.func (.func 22) #[] #[.pointer (some ⟨gk, 0, none⟩)])) w6 ([9, 10, 11, 12, 13, 14, 15, 16, 17, 18, 19, 20].map (updB L9 14)) (updV Y 14 y) u'))
    have e_13 := (show Y 13 = .bool false from FreeS.get hS (i := 13) (by decide) (hb 13 (by simp)))
    obtain ⟨xc_0, xc_1, xc_s⟩ := rowD ((hc.block (rowD H_xc.out).2.2).trans H_xc.out)
    rw [e_13]
    clear e_13 hS hb hi hc cSy cDn
    go_wp2_with fail
    exact H.out _ u (Calm.refl _) rfl
  simp only [Act.put, List.setIfInBounds_toArray, List.set_cons_zero, List.set_cons_succ, Nat.reduceAdd]
  refine planS_late (fun L9 u hi hb hS => ?_) ?_
  · have hc := hS.1
    have H := Lib.hid (fun (y : Value) (u' : World) (hb' : Calm u u') (hn : y = (.agg #[.slice P l.length cp, .slice Q m.length cq])) => (FreeS.do dsF_stay hS hb' (i := 15) (show DsF LS LC l.length (.agg #[.slice P7 l.length cp7, .slice none 0 0]) (.agg #[.slice P l.length cp, .slice Q m.length cq]) (.func (.func 22) #[] #[.pointer (some ⟨gk, 0, none⟩)]) 15 y u' from hn) : FreeS [9, 10, 11, 12, 13, 14, 15, 16, 17, 18, 19, 20] (DsF LS LC l.length (.agg #[.slice P7 l.length cp7, .slice none 0 0]) (.agg #[.slice P l.length cp, .slice Q m.length cq]) (.func (.func 22) #[] #[.pointer (some ⟨gk, 0, none⟩)])) w6 ([9, 10, 11, 12, 13, 14, 15, 16, 17, 18, 19, 20].map (updB L9 15)) (updV Y 15 y) u'))
    have e_13 := (show Y 13 = .bool false from FreeS.get hS (i := 13) (by decide) (hb 13 (by simp)))
    obtain ⟨xx_0, xx_1, xx_s⟩ := rowD ((hc.block (rowD H_xx.out).2.2).trans H_xx.out)
    rw [e_13]
    clear e_13 hS hb hi hc cSy cDn
    go_wp2_with fail
    exact H.out _ u (Calm.refl _) rfl
  simp only [Act.put, List.setIfInBounds_toArray, List.set_cons_zero, List.set_cons_succ, Nat.reduceAdd]
  refine planS_late (fun L9 u hi hb hS => ?_) ?_
  · have hc := hS.1
    have H := Lib.hid (fun (y : Value) (u' : World) (hb' : Calm u u') (hn : y = (.func (.func 22) #[] #[.pointer (some ⟨gk, 0, none⟩)])) => (FreeS.do dsF_stay hS hb' (i := 16) (show DsF LS LC l.length (.agg #[.slice P7 l.length cp7, .slice none 0 0]) (.agg #[.slice P l.length cp, .slice Q m.length cq]) (.func (.func 22) #[] #[.pointer (some ⟨gk, 0, none⟩)]) 16 y u' from hn) : FreeS [9, 10, 11, 12, 13, 14, 15, 16, 17, 18, 19, 20] (DsF LS LC l.length (.agg #[.slice P7 l.length cp7, .slice none 0 0]) (.agg #[.slice P l.length cp, .slice Q m.length cq]) (.func (.func 22) #[] #[.pointer (some ⟨gk, 0, none⟩)])) w6 ([9, 10, 11, 12, 13, 14, 15, 16, 17, 18, 19, 20].map (updB L9 16)) (updV Y 16 y) u'))
    have e_13 := (show Y 13 = .bool false from FreeS.get hS (i := 13) (by decide) (hb 13 (by simp)))
    rw [e_13]
    clear e_13 hS hb hi hc cSy cDn
    go_wp2_with fail
    exact H.out _ u (Calm.refl _) rfl
  simp only [Act.put, List.setIfInBounds_toArray, List.set_cons_zero, List.set_cons_succ, Nat.reduceAdd]
  refine planS_late (fun L9 u hi hb hS => ?_) ?_
  · have hc := hS.1
    have H := Lib.hid (fun (y : Value) (u' : World) (hb' : Calm u u') (hn : ∃ P c, y = .agg #[.slice P l.length c, .slice none 0 0] ∧ LiesP u' P LC) => (FreeS.do dsF_stay hS hb' (i := 17) (show DsF LS LC l.length (.agg #[.slice P7 l.length cp7, .slice none 0 0]) (.agg #[.slice P l.length cp, .slice Q m.length cq]) (.func (.func 22) #[] #[.pointer (some ⟨gk, 0, none⟩)]) 17 y u' from hn) : FreeS [9, 10, 11, 12, 13, 14, 15, 16, 17, 18, 19, 20] (DsF LS LC l.length (.agg #[.slice P7 l.length cp7, .slice none 0 0]) (.agg #[.slice P l.length cp, .slice Q m.length cq]) (.func (.func 22) #[] #[.pointer (some ⟨gk, 0, none⟩)])) w6 ([9, 10, 11, 12, 13, 14, 15, 16, 17, 18, 19, 20].map (updB L9 17)) (updV Y 17 y) u'))
    have e_13 := (show Y 13 = .bool false from FreeS.get hS (i := 13) (by decide) (hb 13 (by simp)))
    have e_15 := (show Y 15 = (.agg #[.slice P l.length cp, .slice Q m.length cq]) from FreeS.get hS (i := 15) (by decide) (hb 15 (by simp)))
    have e_16 := (show Y 16 = (.func (.func 22) #[] #[.pointer (some ⟨gk, 0, none⟩)]) from FreeS.get hS (i := 16) (by decide) (hb 16 (by simp)))
    have c1 := cDn gk u (HU.out.call hc) ((hc.block (row1 H_xk.out).2).trans H_xk.out)
    rw [e_13, e_15, e_16]
    clear e_13 e_15 e_16 hS hb hi hc cSy cDn
    go_wp2_with (go_at_call 21; (with_reducible refine c1.mono ?_); rintro e w7 ⟨P5', c5', rfl, ho5, hk⟩; have HQ5 := Lib.hid (OwnP.at_ ho5).2; clear ho5; have HK7 := Lib.hid hk; clear hk)
    exact H.out _ w7 HK7.out ⟨P5', c5', rfl, HQ5.out⟩
  simp only [Act.put, List.setIfInBounds_toArray, List.set_cons_zero, List.set_cons_succ, Nat.reduceAdd]
  refine planS_late (fun L9 u hi hb hS => ?_) ?_
  · have hc := hS.1
    have H := Lib.hid (fun (y : Value) (u' : World) (hb' : Calm u u') (hn : y = .bool true) => (FreeS.do dsF_stay hS hb' (i := 18) (show DsF LS LC l.length (.agg #[.slice P7 l.length cp7, .slice none 0 0]) (.agg #[.slice P l.length cp, .slice Q m.length cq]) (.func (.func 22) #[] #[.pointer (some ⟨gk, 0, none⟩)]) 18 y u' from hn) : FreeS [9, 10, 11, 12, 13, 14, 15, 16, 17, 18, 19, 20] (DsF LS LC l.length (.agg #[.slice P7 l.length cp7, .slice none 0 0]) (.agg #[.slice P l.length cp, .slice Q m.length cq]) (.func (.func 22) #[] #[.pointer (some ⟨gk, 0, none⟩)])) w6 ([9, 10, 11, 12, 13, 14, 15, 16, 17, 18, 19, 20].map (updB L9 18)) (updV Y 18 y) u'))
    have e_13 := (show Y 13 = .bool false from FreeS.get hS (i := 13) (by decide) (hb 13 (by simp)))
    have e_14 := (show Y 14 = (.agg #[.slice P7 l.length cp7, .slice none 0 0]) from FreeS.get hS (i := 14) (by decide) (hb 14 (by simp)))
    obtain ⟨P_17, c_17, e_17, h_17⟩ := (show ∃ P c, Y 17 = .agg #[.slice P l.length c, .slice none 0 0] ∧ LiesP u P LC from FreeS.get hS (i := 17) (by decide) (hb 17 (by simp)))
    have c1 := fun c5 c6 => ds_same (cp := c5) (cp' := c6) (HP7.out.calm hc) h_17 hCl hn
    rw [e_13, e_14, e_17]
    clear e_13 e_14 e_17 hS hb hi hc cSy cDn
    go_wp2_with (go_at_call 19; (with_reducible refine (c1 _ _).mono ?_); rintro e w7 ⟨rfl, hk⟩; have HK7 := Lib.hid hk; clear hk)
    exact H.out _ w7 HK7.out rfl
  simp only [Act.put, List.setIfInBounds_toArray, List.set_cons_zero, List.set_cons_succ, Nat.reduceAdd]
  refine planS_late (fun L9 u hi hb hS => ?_) ?_
  · have hc := hS.1
    have H := Lib.hid (fun (y : Value) (u' : World) (hb' : Calm u u') (hn : y = .bool false) => (FreeS.do dsF_stay hS hb' (i := 19) (show DsF LS LC l.length (.agg #[.slice P7 l.length cp7, .slice none 0 0]) (.agg #[.slice P l.length cp, .slice Q m.length cq]) (.func (.func 22) #[] #[.pointer (some ⟨gk, 0, none⟩)]) 19 y u' from hn) : FreeS [9, 10, 11, 12, 13, 14, 15, 16, 17, 18, 19, 20] (DsF LS LC l.length (.agg #[.slice P7 l.length cp7, .slice none 0 0]) (.agg #[.slice P l.length cp, .slice Q m.length cq]) (.func (.func 22) #[] #[.pointer (some ⟨gk, 0, none⟩)])) w6 ([9, 10, 11, 12, 13, 14, 15, 16, 17, 18, 19, 20].map (updB L9 19)) (updV Y 19 y) u'))
    have e_13 := (show Y 13 = .bool false from FreeS.get hS (i := 13) (by decide) (hb 13 (by simp)))
    have e_18 := (show Y 18 = .bool true from FreeS.get hS (i := 18) (by decide) (hb 18 (by simp)))
    rw [e_13, e_18]
    clear e_13 e_18 hS hb hi hc cSy cDn
    go_wp2_with fail
    exact H.out _ u (Calm.refl _) rfl
  simp only [Act.put, List.setIfInBounds_toArray, List.set_cons_zero, List.set_cons_succ, Nat.reduceAdd]
  refine planS_late (fun L9 u hi hb hS => ?_) ?_
  · have hc := hS.1
    have H := Lib.hid (fun (y : Value) (u' : World) (hb' : Calm u u') (hn : y = .bool false) => (FreeS.do dsF_stay hS hb' (i := 20) (show DsF LS LC l.length (.agg #[.slice P7 l.length cp7, .slice none 0 0]) (.agg #[.slice P l.length cp, .slice Q m.length cq]) (.func (.func 22) #[] #[.pointer (some ⟨gk, 0, none⟩)]) 20 y u' from hn) : FreeS [9, 10, 11, 12, 13, 14, 15, 16, 17, 18, 19, 20] (DsF LS LC l.length (.agg #[.slice P7 l.length cp7, .slice none 0 0]) (.agg #[.slice P l.length cp, .slice Q m.length cq]) (.func (.func 22) #[] #[.pointer (some ⟨gk, 0, none⟩)])) w6 ([9, 10, 11, 12, 13, 14, 15, 16, 17, 18, 19, 20].map (updB L9 20)) (updV Y 20 y) u'))
    have e_13 := (show Y 13 = .bool false from FreeS.get hS (i := 13) (by decide) (hb 13 (by simp)))
    have e_19 := (show Y 19 = .bool false from FreeS.get hS (i := 19) (by decide) (hb 19 (by simp)))
    rw [e_13, e_19]
    clear e_13 e_19 hS hb hi hc cSy cDn
    go_wp2_with fail
    exact H.out _ u (Calm.refl _) rfl
  try simp only [Act.put, Nat.reduceAdd]
  refine planS_end ?_
  intro w7 hS
  have hc7 := hS.1
  have eY := (show Y 20 = .bool false from FreeS.get (L := fun _ => true) hS (i := 20) (by decide) rfl)
  rw [eY]
  clear hS eY cDn hCl
  have xx := (hc7.block (rowD H_xx.out).2.2).trans H_xx.out
  have xk := (hc7.block (row1 H_xk.out).2).trans H_xk.out
  have xa := (hc7.block (rowD H_xa.out).2.2).trans H_xa.out
  have xb := (hc7.block (rowD H_xb.out).2.2).trans H_xb.out
  have xc := (hc7.block (rowD H_xc.out).2.2).trans H_xc.out
  replace HP6 := Lib.hid (HP6.out.calm hc7)
  replace HP7 := Lib.hid (HP7.out.calm hc7)
  have hu := HU.out.call hc7
  clear hc7 HU H_xx H_xk H_xa H_xb H_xc
  obtain ⟨xx_0, xx_1, xx_s⟩ := rowD xx; obtain ⟨xk_0, xk_s⟩ := row1 xk; obtain ⟨xa_0, xa_1, xa_s⟩ := rowD xa; obtain ⟨xb_0, xb_1, xb_s⟩ := rowD xb; obtain ⟨xc_0, xc_1, xc_s⟩ := rowD xc
  clear HP6 HP7
  have qf := ds_field
  go_upto_region 19 with (first
      | (go_at_call 20; (with_reducible refine (cSy _ hu).mono ?_); rintro e w8 ⟨P8, c8, rfl, ho8, hk⟩; obtain ⟨b8, q8, rfl, hb8, hc8⟩ := ds_cell (OwnP.at_ ho8).2 hT; clear ho8 cSy; clear xx_0 xx_1 xx_s; clear xk_0 xk_s; clear xa_0 xa_1 xa_s; clear xb_0 xb_1 xb_s; clear xc_0 xc_1 xc_s; replace xx := (hk.block (rowD xx).2.2).trans xx; replace xk := (hk.block (row1 xk).2).trans xk; replace xa := (hk.block (rowD xa).2.2).trans xa; replace xb := (hk.block (rowD xb).2.2).trans xb; replace xc := (hk.block (rowD xc).2.2).trans xc; replace hu := hu.call hk; clear hk; obtain ⟨xx_0, xx_1, xx_s⟩ := rowD xx; obtain ⟨xk_0, xk_s⟩ := row1 xk; obtain ⟨xa_0, xa_1, xa_s⟩ := rowD xa; obtain ⟨xb_0, xb_1, xb_s⟩ := rowD xb; obtain ⟨xc_0, xc_1, xc_s⟩ := rowD xc))
  have h4 : (m.length : Int) = 400 := by have := H4.out; omega
  go_wp2_with (first
      | (go_at_call 19; (with_reducible refine (sameDisk_zero _).mono ?_); rintro e w9 ⟨rfl, hk⟩; clear xx_0 xx_1 xx_s; clear xk_0 xk_s; clear xa_0 xa_1 xa_s; clear xb_0 xb_1 xb_s; clear xc_0 xc_1 xc_s; replace xx := (hk.block (rowD xx).2.2).trans xx; replace xk := (hk.block (row1 xk).2).trans xk; replace xa := (hk.block (rowD xa).2.2).trans xa; replace xb := (hk.block (rowD xb).2.2).trans xb; replace xc := (hk.block (rowD xc).2.2).trans xc; replace hu := hu.call hk; clear hk; obtain ⟨xx_0, xx_1, xx_s⟩ := rowD xx; obtain ⟨xk_0, xk_s⟩ := row1 xk; obtain ⟨xa_0, xa_1, xa_s⟩ := rowD xa; obtain ⟨xb_0, xb_1, xb_s⟩ := rowD xb; obtain ⟨xc_0, xc_1, xc_s⟩ := rowD xc))
  go_ret
  exact ⟨rfl, hu⟩
set_option maxHeartbeats 16000000 in
theorem ds_ok (P Q : Option Addr) (cp cq : Nat) (l : List ByteArray) (m : List Wr) (k : Nat) (s : ByteArray) (A : Option Addr) (c : Nat) (K : List Bool) (w : World) (hh : HasD w P Q l m) (hn : l.length ≤ 9223372036854775807) (hm : m.length ≤ 9223372036854775807) (hK : LiesO w A K) (h0 : dkErr l m = 0) (hki : k < l.length) (hs : ¬ 3500 < s.size) (h4 : ¬ m.length = 400) :
    Calls Try.prog 3 #[.agg #[.slice P l.length cp, .slice Q m.length cq], .int .i64 (k : Int), .string s, .slice A K.length c] w fun e w' => e = .returned (.bool true) ∧ Calm w w' := by
  have xx := heap_past (.cells #[.slice A K.length c] 26) (heap_new w (.cells #[.slice P l.length cp, .slice Q m.length cq] 25))
  have xk := heap_new (w.alloc (.cells #[.slice P l.length cp, .slice Q m.length cq] 25)) (.cells #[.slice A K.length c] 26)
  rw [World.size_alloc] at xk
  have hu := ((Calm.refl w).alloc (.cells #[.slice P l.length cp, .slice Q m.length cq] 25)).alloc (.cells #[.slice A K.length c] 26)
  obtain ⟨e1, hT⟩ := ds_read h0 hki
  have cR := fun u (hu : Calm w u) => diskRead_any P Q cp cq l m k u (hh.calm hu).p (hh.calm hu).q hn hm
  rw [e1] at cR
  have e3 := ds_in h0 s hki
  generalize rdS l m k = T at cR hT
  rw [if_neg hs, if_neg h4] at e3
  have cP := fun u (hu : Calm w u) => (hh.calm hu).put_ok cp cq e3
  have cQ := fun u (hu : Calm w u) => cloneW_any Q cq m u (by have := (dkErr_zero.1 h0).2.1; omega) (hh.calm hu).q
  have hM : (m ++ [(⟨(k : Int), s⟩ : Wr)]).length ≤ 9223372036854775807 := by have := (dkErr_zero.1 h0).2.1; rw [List.length_append, List.length_singleton]; omega
  have hm5 : m.length ≤ 400 := (dkErr_zero.1 h0).2.1
  have b9 : ¬ (m.length : Int) = 400 := by omega
  have HH := Lib.hid hh
  obtain ⟨M, hMd⟩ : ∃ M : List Wr, M = m ++ [(⟨(k : Int), s⟩ : Wr)] := ⟨_, rfl⟩
  rw [← hMd] at cP hM
  have HMd := Lib.hid hMd
  clear e1 e3 hm hn h4 hMd
  have hn := (dk_len h0).1
  have hm := (dk_len h0).2
  have cS := fun u (hu : Calm w u) => (hh.calm hu).sync cp cq h0
  have cK := fun u (hu : Calm w u) => (hh.calm hu).crash cp cq h0 A c K (hK.calm hu)
  have cD := fun u (hu : Calm w u) => refDisk_any P Q cp cq l m u (hh.calm hu).p (hh.calm hu).q hn hm
  have cC := fun u (hu : Calm w u) => diskCheck_any P Q cp cq l m u (hh.calm hu).p (hh.calm hu).q hn hm
  have cSy := fun u (hu : Calm w u) => synced_any P Q cp cq l m u (hh.calm hu).p (hh.calm hu).q h0
  have cDn := fun B u (hu : Calm w u) (hB : KBx B A K.length c u) => doneCrash_any P Q cp cq l m B A c K u (hh.calm hu).p (hh.calm hu).q h0 hB (hK.calm hu)
  unfold DoneEnd at cSy cDn
  rw [h0] at cD cC
  have hLl : (doneL (fun _ => true) 0 m l).length = l.length := doneL_len _ _ _ _
  have hCl : (doneL (selK K) 0 m l).length = l.length := doneL_len _ _ _ _
  unfold curP at cS hT
  clear h0 hK hm
  generalize doneL (fun _ => true) 0 m l = LS at cS cSy hLl hT
  generalize doneL (selK K) 0 m l = LC at cK cDn hCl
  go_enter Try.func3, Try.ntmps3
  go_upto_region 1 with fail
  generalize (w.alloc (.cells #[.slice P l.length cp, .slice Q m.length cq] 25)).alloc (.cells #[.slice A K.length c] 26) = w0 at xx xk hu ⊢
  generalize w.heap.size + 1 = gk at xk ⊢
  generalize w.heap.size = gx at xx ⊢
  obtain ⟨xx_0, xx_1, xx_s⟩ := rowD xx; obtain ⟨xk_0, xk_s⟩ := row1 xk
  go_upto_region 10 with (first
      | (go_at_call 13; (with_reducible refine (cR _ hu).mono ?_); rintro e w1 ⟨rfl, hk⟩; clear cR; clear xx_0 xx_1 xx_s; clear xk_0 xk_s; replace xx := (hk.block (rowD xx).2.2).trans xx; replace xk := (hk.block (row1 xk).2).trans xk; replace hu := hu.call hk; clear hk; obtain ⟨xx_0, xx_1, xx_s⟩ := rowD xx; obtain ⟨xk_0, xk_s⟩ := row1 xk)
      | (go_at_call 14; (with_reducible refine (cP _ hu).mono ?_); rintro e w2 ⟨P5, cp5, Q5, cq5, rfl, hd5, hk⟩; have HD5 := Lib.hid (hd5.has.calm ((Calm.refl _).alloc (.cells #[.slice P5 l.length cp5, .slice Q5 M.length cq5] 25))); clear hd5 cP; clear xx_0 xx_1 xx_s; clear xk_0 xk_s; replace xx := (hk.block (rowD xx).2.2).trans xx; replace xk := (hk.block (row1 xk).2).trans xk; replace hu := hu.call hk; clear hk; obtain ⟨xx_0, xx_1, xx_s⟩ := rowD xx; obtain ⟨xk_0, xk_s⟩ := row1 xk; clear xx_0 xx_1 xx_s; clear xk_0 xk_s; replace xx := heap_past (.cells #[.slice P5 l.length cp5, .slice Q5 M.length cq5] 25) xx; replace xk := heap_past (.cells #[.slice P5 l.length cp5, .slice Q5 M.length cq5] 25) xk; replace hu := hu.alloc (.cells #[.slice P5 l.length cp5, .slice Q5 M.length cq5] 25); have xa := heap_new w2 (.cells #[.slice P5 l.length cp5, .slice Q5 M.length cq5] 25); obtain ⟨xx_0, xx_1, xx_s⟩ := rowD xx; obtain ⟨xk_0, xk_s⟩ := row1 xk; obtain ⟨xa_0, xa_1, xa_s⟩ := rowD xa)
      | (go_at_call 15; (with_reducible refine (cS _ hu).mono ?_); rintro e w3 ⟨P6, cp6, rfl, ho6, hk⟩; have HP6 := Lib.hid ((OwnP.at_ ho6).2.calm ((Calm.refl _).alloc (.cells #[.slice P6 l.length cp6, .slice none 0 0] 25))); clear ho6 cS; clear xx_0 xx_1 xx_s; clear xk_0 xk_s; clear xa_0 xa_1 xa_s; replace xx := (hk.block (rowD xx).2.2).trans xx; replace xk := (hk.block (row1 xk).2).trans xk; replace xa := (hk.block (rowD xa).2.2).trans xa; replace HD5 := Lib.hid (HD5.out.calm hk); replace hu := hu.call hk; clear hk; obtain ⟨xx_0, xx_1, xx_s⟩ := rowD xx; obtain ⟨xk_0, xk_s⟩ := row1 xk; obtain ⟨xa_0, xa_1, xa_s⟩ := rowD xa; clear xx_0 xx_1 xx_s; clear xk_0 xk_s; clear xa_0 xa_1 xa_s; replace xx := heap_past (.cells #[.slice P6 l.length cp6, .slice none 0 0] 25) xx; replace xk := heap_past (.cells #[.slice P6 l.length cp6, .slice none 0 0] 25) xk; replace xa := heap_past (.cells #[.slice P6 l.length cp6, .slice none 0 0] 25) xa; replace HD5 := Lib.hid (HD5.out.calm ((Calm.refl _).alloc (.cells #[.slice P6 l.length cp6, .slice none 0 0] 25))); replace hu := hu.alloc (.cells #[.slice P6 l.length cp6, .slice none 0 0] 25); have xb := heap_new w3 (.cells #[.slice P6 l.length cp6, .slice none 0 0] 25); obtain ⟨xx_0, xx_1, xx_s⟩ := rowD xx; obtain ⟨xk_0, xk_s⟩ := row1 xk; obtain ⟨xa_0, xa_1, xa_s⟩ := rowD xa; obtain ⟨xb_0, xb_1, xb_s⟩ := rowD xb)
      | (go_at_call 16; (with_reducible refine (cK _ hu).mono ?_); rintro e w4 ⟨P7, cp7, rfl, ho7, hk⟩; have HP7 := Lib.hid ((OwnP.at_ ho7).2.calm ((Calm.refl _).alloc (.cells #[.slice P7 l.length cp7, .slice none 0 0] 25))); clear ho7 cK; clear xx_0 xx_1 xx_s; clear xk_0 xk_s; clear xa_0 xa_1 xa_s; clear xb_0 xb_1 xb_s; replace xx := (hk.block (rowD xx).2.2).trans xx; replace xk := (hk.block (row1 xk).2).trans xk; replace xa := (hk.block (rowD xa).2.2).trans xa; replace xb := (hk.block (rowD xb).2.2).trans xb; replace HD5 := Lib.hid (HD5.out.calm hk); replace HP6 := Lib.hid (HP6.out.calm hk); replace hu := hu.call hk; clear hk; obtain ⟨xx_0, xx_1, xx_s⟩ := rowD xx; obtain ⟨xk_0, xk_s⟩ := row1 xk; obtain ⟨xa_0, xa_1, xa_s⟩ := rowD xa; obtain ⟨xb_0, xb_1, xb_s⟩ := rowD xb; clear xx_0 xx_1 xx_s; clear xk_0 xk_s; clear xa_0 xa_1 xa_s; clear xb_0 xb_1 xb_s; replace xx := heap_past (.cells #[.slice P7 l.length cp7, .slice none 0 0] 25) xx; replace xk := heap_past (.cells #[.slice P7 l.length cp7, .slice none 0 0] 25) xk; replace xa := heap_past (.cells #[.slice P7 l.length cp7, .slice none 0 0] 25) xa; replace xb := heap_past (.cells #[.slice P7 l.length cp7, .slice none 0 0] 25) xb; replace HD5 := Lib.hid (HD5.out.calm ((Calm.refl _).alloc (.cells #[.slice P7 l.length cp7, .slice none 0 0] 25))); replace HP6 := Lib.hid (HP6.out.calm ((Calm.refl _).alloc (.cells #[.slice P7 l.length cp7, .slice none 0 0] 25))); replace hu := hu.alloc (.cells #[.slice P7 l.length cp7, .slice none 0 0] 25); have xc := heap_new w4 (.cells #[.slice P7 l.length cp7, .slice none 0 0] 25); obtain ⟨xx_0, xx_1, xx_s⟩ := rowD xx; obtain ⟨xk_0, xk_s⟩ := row1 xk; obtain ⟨xa_0, xa_1, xa_s⟩ := rowD xa; obtain ⟨xb_0, xb_1, xb_s⟩ := rowD xb; obtain ⟨xc_0, xc_1, xc_s⟩ := rowD xc)
      | (go_at_call 17; (with_reducible refine (cD _ hu).mono ?_); rintro e w5 ⟨rfl, hk⟩; clear cD; clear xx_0 xx_1 xx_s; clear xk_0 xk_s; clear xa_0 xa_1 xa_s; clear xb_0 xb_1 xb_s; clear xc_0 xc_1 xc_s; replace xx := (hk.block (rowD xx).2.2).trans xx; replace xk := (hk.block (row1 xk).2).trans xk; replace xa := (hk.block (rowD xa).2.2).trans xa; replace xb := (hk.block (rowD xb).2.2).trans xb; replace xc := (hk.block (rowD xc).2.2).trans xc; replace HD5 := Lib.hid (HD5.out.calm hk); replace HP6 := Lib.hid (HP6.out.calm hk); replace HP7 := Lib.hid (HP7.out.calm hk); replace hu := hu.call hk; clear hk; obtain ⟨xx_0, xx_1, xx_s⟩ := rowD xx; obtain ⟨xk_0, xk_s⟩ := row1 xk; obtain ⟨xa_0, xa_1, xa_s⟩ := rowD xa; obtain ⟨xb_0, xb_1, xb_s⟩ := rowD xb; obtain ⟨xc_0, xc_1, xc_s⟩ := rowD xc)
      | (go_at_call 18; (with_reducible refine (cC _ hu).mono ?_); rintro e w6 ⟨rfl, hk⟩; clear cC; clear xx_0 xx_1 xx_s; clear xk_0 xk_s; clear xa_0 xa_1 xa_s; clear xb_0 xb_1 xb_s; clear xc_0 xc_1 xc_s; replace xx := (hk.block (rowD xx).2.2).trans xx; replace xk := (hk.block (row1 xk).2).trans xk; replace xa := (hk.block (rowD xa).2.2).trans xa; replace xb := (hk.block (rowD xb).2.2).trans xb; replace xc := (hk.block (rowD xc).2.2).trans xc; replace HD5 := Lib.hid (HD5.out.calm hk); replace HP6 := Lib.hid (HP6.out.calm hk); replace HP7 := Lib.hid (HP7.out.calm hk); replace hu := hu.call hk; clear hk; obtain ⟨xx_0, xx_1, xx_s⟩ := rowD xx; obtain ⟨xk_0, xk_s⟩ := row1 xk; obtain ⟨xa_0, xa_1, xa_s⟩ := rowD xa; obtain ⟨xb_0, xb_1, xb_s⟩ := rowD xb; obtain ⟨xc_0, xc_1, xc_s⟩ := rowD xc))
  clear xx_0 xx_1 xx_s; clear xk_0 xk_s; clear xa_0 xa_1 xa_s; clear xb_0 xb_1 xb_s; clear xc_0 xc_1 xc_s
  have H_xx := Lib.hid xx
  have H_xk := Lib.hid xk
  have H_xa := Lib.hid xa
  have H_xb := Lib.hid xb
  have H_xc := Lib.hid xc
  have HU := Lib.hid hu
  clear xx xk xa xb xc hu
  refine wp_region_stages [.val (.int .i64 0), .val (.bool false), .val (.bool false), .val (.int .i64 0), .val (.bool false), .val (.bool false), .val (.bool false), .val (.agg #[.slice P6 l.length cp6, .slice none 0 0]), .val (.agg #[.slice P l.length cp, .slice Q m.length cq]), .late, .late [9], .late [10], .late [11], .late [12], .late [13], .late [13], .late [13], .late [13, 15, 16], .late [13, 14, 17], .late [13, 18], .late [13, 19]] [9, 10, 11, 12, 13, 14, 15, 16, 17, 18, 19, 20]
    (FreeS [9, 10, 11, 12, 13, 14, 15, 16, 17, 18, 19, 20] (DsF LS LC l.length (.agg #[.slice P7 l.length cp7, .slice none 0 0]) (.agg #[.slice P l.length cp, .slice Q m.length cq]) (.func (.func 22) #[] #[.pointer (some ⟨gk, 0, none⟩)])) w6) (by kernel_rfl) (by kernel_rfl) (by kernel_rfl) (FreeS.stay dsF_stay) (fun Y => FreeS.start (Calm.refl _).drew) (fun Y => ?_)
  iterate 7
    refine planS_val (by kernel_rfl) (fun L9 u hb hS => ?_) ?_
    · clear hS hb
      go_simp
    simp only [Act.put, List.setIfInBounds_toArray, List.set_cons_zero, List.set_cons_succ, Nat.reduceAdd]
  refine planS_val (by kernel_rfl) (fun L9 u hb hS => ?_) ?_
  · have hc := hS.1
    obtain ⟨xb_0, xb_1, xb_s⟩ := rowD ((hc.block (rowD H_xb.out).2.2).trans H_xb.out)
    clear hS hb hc
    go_simp
  simp only [Act.put, List.setIfInBounds_toArray, List.set_cons_zero, List.set_cons_succ, Nat.reduceAdd]
  refine planS_val (by kernel_rfl) (fun L9 u hb hS => ?_) ?_
  · have hc := hS.1
    obtain ⟨xx_0, xx_1, xx_s⟩ := rowD ((hc.block (rowD H_xx.out).2.2).trans H_xx.out)
    clear hS hb hc
    go_simp
  simp only [Act.put, List.setIfInBounds_toArray, List.set_cons_zero, List.set_cons_succ, Nat.reduceAdd]
  refine planS_late (fun L9 u hi hb hS => ?_) ?_
  · have hc := hS.1
    have H := Lib.hid (fun (y : Value) (u' : World) (hb' : Calm u u') (hn : ∃ P c, y = .agg #[.slice P l.length c, .slice none 0 0] ∧ LiesP u' P LS) => (FreeS.do dsF_stay hS hb' (i := 9) (show DsF LS LC l.length (.agg #[.slice P7 l.length cp7, .slice none 0 0]) (.agg #[.slice P l.length cp, .slice Q m.length cq]) (.func (.func 22) #[] #[.pointer (some ⟨gk, 0, none⟩)]) 9 y u' from hn) : FreeS [9, 10, 11, 12, 13, 14, 15, 16, 17, 18, 19, 20] (DsF LS LC l.length (.agg #[.slice P7 l.length cp7, .slice none 0 0]) (.agg #[.slice P l.length cp, .slice Q m.length cq]) (.func (.func 22) #[] #[.pointer (some ⟨gk, 0, none⟩)])) w6 ([9, 10, 11, 12, 13, 14, 15, 16, 17, 18, 19, 20].map (updB L9 9)) (updV Y 9 y) u'))
    have c1 := cSy u (HU.out.call hc)
    clear hS hb hi hc cSy cDn
    go_wp2_with (go_at_call 20; (with_reducible refine c1.mono ?_); rintro e w7 ⟨P5', c5', rfl, ho5, hk⟩; have HQ5 := Lib.hid (OwnP.at_ ho5).2; clear ho5; have HK7 := Lib.hid hk; clear hk)
    exact H.out _ w7 HK7.out ⟨P5', c5', rfl, HQ5.out⟩
  simp only [Act.put, List.setIfInBounds_toArray, List.set_cons_zero, List.set_cons_succ, Nat.reduceAdd]
  refine planS_late (fun L9 u hi hb hS => ?_) ?_
  · have hc := hS.1
    have H := Lib.hid (fun (y : Value) (u' : World) (hb' : Calm u u') (hn : y = .bool true) => (FreeS.do dsF_stay hS hb' (i := 10) (show DsF LS LC l.length (.agg #[.slice P7 l.length cp7, .slice none 0 0]) (.agg #[.slice P l.length cp, .slice Q m.length cq]) (.func (.func 22) #[] #[.pointer (some ⟨gk, 0, none⟩)]) 10 y u' from hn) : FreeS [9, 10, 11, 12, 13, 14, 15, 16, 17, 18, 19, 20] (DsF LS LC l.length (.agg #[.slice P7 l.length cp7, .slice none 0 0]) (.agg #[.slice P l.length cp, .slice Q m.length cq]) (.func (.func 22) #[] #[.pointer (some ⟨gk, 0, none⟩)])) w6 ([9, 10, 11, 12, 13, 14, 15, 16, 17, 18, 19, 20].map (updB L9 10)) (updV Y 10 y) u'))
    obtain ⟨P_9, c_9, e_9, h_9⟩ := (show ∃ P c, Y 9 = .agg #[.slice P l.length c, .slice none 0 0] ∧ LiesP u P LS from FreeS.get hS (i := 9) (by decide) (hb 9 (by simp)))
    have c1 := fun c5 c6 => ds_same (cp := c5) (cp' := c6) (HP6.out.calm hc) h_9 hLl hn
    rw [e_9]
    clear e_9 hS hb hi hc cSy cDn
    go_wp2_with (go_at_call 19; (with_reducible refine (c1 _ _).mono ?_); rintro e w7 ⟨rfl, hk⟩; have HK7 := Lib.hid hk; clear hk)
    exact H.out _ w7 HK7.out rfl
  simp only [Act.put, List.setIfInBounds_toArray, List.set_cons_zero, List.set_cons_succ, Nat.reduceAdd]
  refine planS_late (fun L9 u hi hb hS => ?_) ?_
  · have hc := hS.1
    have H := Lib.hid (fun (y : Value) (u' : World) (hb' : Calm u u') (hn : y = .bool false) => (FreeS.do dsF_stay hS hb' (i := 11) (show DsF LS LC l.length (.agg #[.slice P7 l.length cp7, .slice none 0 0]) (.agg #[.slice P l.length cp, .slice Q m.length cq]) (.func (.func 22) #[] #[.pointer (some ⟨gk, 0, none⟩)]) 11 y u' from hn) : FreeS [9, 10, 11, 12, 13, 14, 15, 16, 17, 18, 19, 20] (DsF LS LC l.length (.agg #[.slice P7 l.length cp7, .slice none 0 0]) (.agg #[.slice P l.length cp, .slice Q m.length cq]) (.func (.func 22) #[] #[.pointer (some ⟨gk, 0, none⟩)])) w6 ([9, 10, 11, 12, 13, 14, 15, 16, 17, 18, 19, 20].map (updB L9 11)) (updV Y 11 y) u'))
    have e_10 := (show Y 10 = .bool true from FreeS.get hS (i := 10) (by decide) (hb 10 (by simp)))
    rw [e_10]
    clear e_10 hS hb hi hc cSy cDn
    go_wp2_with fail
    exact H.out _ u (Calm.refl _) rfl
  simp only [Act.put, List.setIfInBounds_toArray, List.set_cons_zero, List.set_cons_succ, Nat.reduceAdd]
  refine planS_late (fun L9 u hi hb hS => ?_) ?_
  · have hc := hS.1
    have H := Lib.hid (fun (y : Value) (u' : World) (hb' : Calm u u') (hn : y = .bool false) => (FreeS.do dsF_stay hS hb' (i := 12) (show DsF LS LC l.length (.agg #[.slice P7 l.length cp7, .slice none 0 0]) (.agg #[.slice P l.length cp, .slice Q m.length cq]) (.func (.func 22) #[] #[.pointer (some ⟨gk, 0, none⟩)]) 12 y u' from hn) : FreeS [9, 10, 11, 12, 13, 14, 15, 16, 17, 18, 19, 20] (DsF LS LC l.length (.agg #[.slice P7 l.length cp7, .slice none 0 0]) (.agg #[.slice P l.length cp, .slice Q m.length cq]) (.func (.func 22) #[] #[.pointer (some ⟨gk, 0, none⟩)])) w6 ([9, 10, 11, 12, 13, 14, 15, 16, 17, 18, 19, 20].map (updB L9 12)) (updV Y 12 y) u'))
    have e_11 := (show Y 11 = .bool false from FreeS.get hS (i := 11) (by decide) (hb 11 (by simp)))
    rw [e_11]
    clear e_11 hS hb hi hc cSy cDn
    go_wp2_with fail
    exact H.out _ u (Calm.refl _) rfl
  simp only [Act.put, List.setIfInBounds_toArray, List.set_cons_zero, List.set_cons_succ, Nat.reduceAdd]
  refine planS_late (fun L9 u hi hb hS => ?_) ?_
  · have hc := hS.1
    have H := Lib.hid (fun (y : Value) (u' : World) (hb' : Calm u u') (hn : y = .bool false) => (FreeS.do dsF_stay hS hb' (i := 13) (show DsF LS LC l.length (.agg #[.slice P7 l.length cp7, .slice none 0 0]) (.agg #[.slice P l.length cp, .slice Q m.length cq]) (.func (.func 22) #[] #[.pointer (some ⟨gk, 0, none⟩)]) 13 y u' from hn) : FreeS [9, 10, 11, 12, 13, 14, 15, 16, 17, 18, 19, 20] (DsF LS LC l.length (.agg #[.slice P7 l.length cp7, .slice none 0 0]) (.agg #[.slice P l.length cp, .slice Q m.length cq]) (.func (.func 22) #[] #[.pointer (some ⟨gk, 0, none⟩)])) w6 ([9, 10, 11, 12, 13, 14, 15, 16, 17, 18, 19, 20].map (updB L9 13)) (updV Y 13 y) u'))
    have e_12 := (show Y 12 = .bool false from FreeS.get hS (i := 12) (by decide) (hb 12 (by simp)))
    rw [e_12]
    clear e_12 hS hb hi hc cSy cDn
    go_wp2_with fail
    exact H.out _ u (Calm.refl _) rfl
  simp only [Act.put, List.setIfInBounds_toArray, List.set_cons_zero, List.set_cons_succ, Nat.reduceAdd]
  refine planS_late (fun L9 u hi hb hS => ?_) ?_
  · have hc := hS.1
    have H := Lib.hid (fun (y : Value) (u' : World) (hb' : Calm u u') (hn : y = (.agg #[.slice P7 l.length cp7, .slice none 0 0])) => (FreeS.do dsF_stay hS hb' (i := 14) (show DsF LS LC l.length (.agg #[.slice P7 l.length cp7, .slice none 0 0]) (.agg #[.slice P l.length cp, .slice Q m.length cq]) (.func (.func 22) #[] #[.pointer (some ⟨gk, 0, none⟩)]) 14 y u' from hn) : FreeS [9, 10, 11, 12, 13, 14, 15, 16, 17, 18, 19, 20] (DsF LS LC l.length (.agg #[.slice P7 l.length cp7, .slice none 0 0]) (.agg #[.slice P l.length cp, .slice Q m.length cq]) (.func (.func 22) #[] #[.pointer (some ⟨gk, 0, none⟩)])) w6 ([9, 10, 11, 12, 13, 14, 15, 16, 17, 18, 19, 20].map (updB L9 14)) (updV Y 14 y) u'))
    have e_13 := (show Y 13 = .bool false from FreeS.get hS (i := 13) (by decide) (hb 13 (by simp)))
    obtain ⟨xc_0, xc_1, xc_s⟩ := rowD ((hc.block (rowD H_xc.out).2.2).trans H_xc.out)
    rw [e_13]
    clear e_13 hS hb hi hc cSy cDn
    go_wp2_with fail
    exact H.out _ u (Calm.refl _) rfl
  simp only [Act.put, List.setIfInBounds_toArray, List.set_cons_zero, List.set_cons_succ, Nat.reduceAdd]
  refine planS_late (fun L9 u hi hb hS => ?_) ?_
  · have hc := hS.1
    have H := Lib.hid (fun (y : Value) (u' : World) (hb' : Calm u u') (hn : y = (.agg #[.slice P l.length cp, .slice Q m.length cq])) => (FreeS.do dsF_stay hS hb' (i := 15) (show DsF LS LC l.length (.agg #[.slice P7 l.length cp7, .slice none 0 0]) (.agg #[.slice P l.length cp, .slice Q m.length cq]) (.func (.func 22) #[] #[.pointer (some ⟨gk, 0, none⟩)]) 15 y u' from hn) : FreeS [9, 10, 11, 12, 13, 14, 15, 16, 17, 18, 19, 20] (DsF LS LC l.length (.agg #[.slice P7 l.length cp7, .slice none 0 0]) (.agg #[.slice P l.length cp, .slice Q m.length cq]) (.func (.func 22) #[] #[.pointer (some ⟨gk, 0, none⟩)])) w6 ([9, 10, 11, 12, 13, 14, 15, 16, 17, 18, 19, 20].map (updB L9 15)) (updV Y 15 y) u'))
    have e_13 := (show Y 13 = .bool false from FreeS.get hS (i := 13) (by decide) (hb 13 (by simp)))
    obtain ⟨xx_0, xx_1, xx_s⟩ := rowD ((hc.block (rowD H_xx.out).2.2).trans H_xx.out)
    rw [e_13]
    clear e_13 hS hb hi hc cSy cDn
    go_wp2_with fail
    exact H.out _ u (Calm.refl _) rfl
  simp only [Act.put, List.setIfInBounds_toArray, List.set_cons_zero, List.set_cons_succ, Nat.reduceAdd]
  refine planS_late (fun L9 u hi hb hS => ?_) ?_
  · have hc := hS.1
    have H := Lib.hid (fun (y : Value) (u' : World) (hb' : Calm u u') (hn : y = (.func (.func 22) #[] #[.pointer (some ⟨gk, 0, none⟩)])) => (FreeS.do dsF_stay hS hb' (i := 16) (show DsF LS LC l.length (.agg #[.slice P7 l.length cp7, .slice none 0 0]) (.agg #[.slice P l.length cp, .slice Q m.length cq]) (.func (.func 22) #[] #[.pointer (some ⟨gk, 0, none⟩)]) 16 y u' from hn) : FreeS [9, 10, 11, 12, 13, 14, 15, 16, 17, 18, 19, 20] (DsF LS LC l.length (.agg #[.slice P7 l.length cp7, .slice none 0 0]) (.agg #[.slice P l.length cp, .slice Q m.length cq]) (.func (.func 22) #[] #[.pointer (some ⟨gk, 0, none⟩)])) w6 ([9, 10, 11, 12, 13, 14, 15, 16, 17, 18, 19, 20].map (updB L9 16)) (updV Y 16 y) u'))
    have e_13 := (show Y 13 = .bool false from FreeS.get hS (i := 13) (by decide) (hb 13 (by simp)))
    rw [e_13]
    clear e_13 hS hb hi hc cSy cDn
    go_wp2_with fail
    exact H.out _ u (Calm.refl _) rfl
  simp only [Act.put, List.setIfInBounds_toArray, List.set_cons_zero, List.set_cons_succ, Nat.reduceAdd]
  refine planS_late (fun L9 u hi hb hS => ?_) ?_
  · have hc := hS.1
    have H := Lib.hid (fun (y : Value) (u' : World) (hb' : Calm u u') (hn : ∃ P c, y = .agg #[.slice P l.length c, .slice none 0 0] ∧ LiesP u' P LC) => (FreeS.do dsF_stay hS hb' (i := 17) (show DsF LS LC l.length (.agg #[.slice P7 l.length cp7, .slice none 0 0]) (.agg #[.slice P l.length cp, .slice Q m.length cq]) (.func (.func 22) #[] #[.pointer (some ⟨gk, 0, none⟩)]) 17 y u' from hn) : FreeS [9, 10, 11, 12, 13, 14, 15, 16, 17, 18, 19, 20] (DsF LS LC l.length (.agg #[.slice P7 l.length cp7, .slice none 0 0]) (.agg #[.slice P l.length cp, .slice Q m.length cq]) (.func (.func 22) #[] #[.pointer (some ⟨gk, 0, none⟩)])) w6 ([9, 10, 11, 12, 13, 14, 15, 16, 17, 18, 19, 20].map (updB L9 17)) (updV Y 17 y) u'))
    have e_13 := (show Y 13 = .bool false from FreeS.get hS (i := 13) (by decide) (hb 13 (by simp)))
    have e_15 := (show Y 15 = (.agg #[.slice P l.length cp, .slice Q m.length cq]) from FreeS.get hS (i := 15) (by decide) (hb 15 (by simp)))
    have e_16 := (show Y 16 = (.func (.func 22) #[] #[.pointer (some ⟨gk, 0, none⟩)]) from FreeS.get hS (i := 16) (by decide) (hb 16 (by simp)))
    have c1 := cDn gk u (HU.out.call hc) ((hc.block (row1 H_xk.out).2).trans H_xk.out)
    rw [e_13, e_15, e_16]
    clear e_13 e_15 e_16 hS hb hi hc cSy cDn
    go_wp2_with (go_at_call 21; (with_reducible refine c1.mono ?_); rintro e w7 ⟨P5', c5', rfl, ho5, hk⟩; have HQ5 := Lib.hid (OwnP.at_ ho5).2; clear ho5; have HK7 := Lib.hid hk; clear hk)
    exact H.out _ w7 HK7.out ⟨P5', c5', rfl, HQ5.out⟩
  simp only [Act.put, List.setIfInBounds_toArray, List.set_cons_zero, List.set_cons_succ, Nat.reduceAdd]
  refine planS_late (fun L9 u hi hb hS => ?_) ?_
  · have hc := hS.1
    have H := Lib.hid (fun (y : Value) (u' : World) (hb' : Calm u u') (hn : y = .bool true) => (FreeS.do dsF_stay hS hb' (i := 18) (show DsF LS LC l.length (.agg #[.slice P7 l.length cp7, .slice none 0 0]) (.agg #[.slice P l.length cp, .slice Q m.length cq]) (.func (.func 22) #[] #[.pointer (some ⟨gk, 0, none⟩)]) 18 y u' from hn) : FreeS [9, 10, 11, 12, 13, 14, 15, 16, 17, 18, 19, 20] (DsF LS LC l.length (.agg #[.slice P7 l.length cp7, .slice none 0 0]) (.agg #[.slice P l.length cp, .slice Q m.length cq]) (.func (.func 22) #[] #[.pointer (some ⟨gk, 0, none⟩)])) w6 ([9, 10, 11, 12, 13, 14, 15, 16, 17, 18, 19, 20].map (updB L9 18)) (updV Y 18 y) u'))
    have e_13 := (show Y 13 = .bool false from FreeS.get hS (i := 13) (by decide) (hb 13 (by simp)))
    have e_14 := (show Y 14 = (.agg #[.slice P7 l.length cp7, .slice none 0 0]) from FreeS.get hS (i := 14) (by decide) (hb 14 (by simp)))
    obtain ⟨P_17, c_17, e_17, h_17⟩ := (show ∃ P c, Y 17 = .agg #[.slice P l.length c, .slice none 0 0] ∧ LiesP u P LC from FreeS.get hS (i := 17) (by decide) (hb 17 (by simp)))
    have c1 := fun c5 c6 => ds_same (cp := c5) (cp' := c6) (HP7.out.calm hc) h_17 hCl hn
    rw [e_13, e_14, e_17]
    clear e_13 e_14 e_17 hS hb hi hc cSy cDn
    go_wp2_with (go_at_call 19; (with_reducible refine (c1 _ _).mono ?_); rintro e w7 ⟨rfl, hk⟩; have HK7 := Lib.hid hk; clear hk)
    exact H.out _ w7 HK7.out rfl
  simp only [Act.put, List.setIfInBounds_toArray, List.set_cons_zero, List.set_cons_succ, Nat.reduceAdd]
  refine planS_late (fun L9 u hi hb hS => ?_) ?_
  · have hc := hS.1
    have H := Lib.hid (fun (y : Value) (u' : World) (hb' : Calm u u') (hn : y = .bool false) => (FreeS.do dsF_stay hS hb' (i := 19) (show DsF LS LC l.length (.agg #[.slice P7 l.length cp7, .slice none 0 0]) (.agg #[.slice P l.length cp, .slice Q m.length cq]) (.func (.func 22) #[] #[.pointer (some ⟨gk, 0, none⟩)]) 19 y u' from hn) : FreeS [9, 10, 11, 12, 13, 14, 15, 16, 17, 18, 19, 20] (DsF LS LC l.length (.agg #[.slice P7 l.length cp7, .slice none 0 0]) (.agg #[.slice P l.length cp, .slice Q m.length cq]) (.func (.func 22) #[] #[.pointer (some ⟨gk, 0, none⟩)])) w6 ([9, 10, 11, 12, 13, 14, 15, 16, 17, 18, 19, 20].map (updB L9 19)) (updV Y 19 y) u'))
    have e_13 := (show Y 13 = .bool false from FreeS.get hS (i := 13) (by decide) (hb 13 (by simp)))
    have e_18 := (show Y 18 = .bool true from FreeS.get hS (i := 18) (by decide) (hb 18 (by simp)))
    rw [e_13, e_18]
    clear e_13 e_18 hS hb hi hc cSy cDn
    go_wp2_with fail
    exact H.out _ u (Calm.refl _) rfl
  simp only [Act.put, List.setIfInBounds_toArray, List.set_cons_zero, List.set_cons_succ, Nat.reduceAdd]
  refine planS_late (fun L9 u hi hb hS => ?_) ?_
  · have hc := hS.1
    have H := Lib.hid (fun (y : Value) (u' : World) (hb' : Calm u u') (hn : y = .bool false) => (FreeS.do dsF_stay hS hb' (i := 20) (show DsF LS LC l.length (.agg #[.slice P7 l.length cp7, .slice none 0 0]) (.agg #[.slice P l.length cp, .slice Q m.length cq]) (.func (.func 22) #[] #[.pointer (some ⟨gk, 0, none⟩)]) 20 y u' from hn) : FreeS [9, 10, 11, 12, 13, 14, 15, 16, 17, 18, 19, 20] (DsF LS LC l.length (.agg #[.slice P7 l.length cp7, .slice none 0 0]) (.agg #[.slice P l.length cp, .slice Q m.length cq]) (.func (.func 22) #[] #[.pointer (some ⟨gk, 0, none⟩)])) w6 ([9, 10, 11, 12, 13, 14, 15, 16, 17, 18, 19, 20].map (updB L9 20)) (updV Y 20 y) u'))
    have e_13 := (show Y 13 = .bool false from FreeS.get hS (i := 13) (by decide) (hb 13 (by simp)))
    have e_19 := (show Y 19 = .bool false from FreeS.get hS (i := 19) (by decide) (hb 19 (by simp)))
    rw [e_13, e_19]
    clear e_13 e_19 hS hb hi hc cSy cDn
    go_wp2_with fail
    exact H.out _ u (Calm.refl _) rfl
  try simp only [Act.put, Nat.reduceAdd]
  refine planS_end ?_
  intro w7 hS
  have hc7 := hS.1
  have eY := (show Y 20 = .bool false from FreeS.get (L := fun _ => true) hS (i := 20) (by decide) rfl)
  rw [eY]
  clear hS eY cDn hCl
  have xx := (hc7.block (rowD H_xx.out).2.2).trans H_xx.out
  have xk := (hc7.block (row1 H_xk.out).2).trans H_xk.out
  have xa := (hc7.block (rowD H_xa.out).2.2).trans H_xa.out
  have xb := (hc7.block (rowD H_xb.out).2.2).trans H_xb.out
  have xc := (hc7.block (rowD H_xc.out).2.2).trans H_xc.out
  replace HD5 := Lib.hid (HD5.out.calm hc7)
  replace HP6 := Lib.hid (HP6.out.calm hc7)
  replace HP7 := Lib.hid (HP7.out.calm hc7)
  have hu := HU.out.call hc7
  clear hc7 HU H_xx H_xk H_xa H_xb H_xc
  obtain ⟨xx_0, xx_1, xx_s⟩ := rowD xx; obtain ⟨xk_0, xk_s⟩ := row1 xk; obtain ⟨xa_0, xa_1, xa_s⟩ := rowD xa; obtain ⟨xb_0, xb_1, xb_s⟩ := rowD xb; obtain ⟨xc_0, xc_1, xc_s⟩ := rowD xc
  clear HP6 HP7
  have qf := ds_field
  go_upto_region 23 with (first
      | (go_at_call 20; (with_reducible refine (cSy _ hu).mono ?_); rintro e w8 ⟨P8, c8, rfl, ho8, hk⟩; obtain ⟨b8, q8, rfl, hb8, hc8⟩ := ds_cell (OwnP.at_ ho8).2 hT; clear ho8 cSy; clear xx_0 xx_1 xx_s; clear xk_0 xk_s; clear xa_0 xa_1 xa_s; clear xb_0 xb_1 xb_s; clear xc_0 xc_1 xc_s; replace xx := (hk.block (rowD xx).2.2).trans xx; replace xk := (hk.block (row1 xk).2).trans xk; replace xa := (hk.block (rowD xa).2.2).trans xa; replace xb := (hk.block (rowD xb).2.2).trans xb; replace xc := (hk.block (rowD xc).2.2).trans xc; replace HD5 := Lib.hid (HD5.out.calm hk); replace hu := hu.call hk; clear hk; obtain ⟨xx_0, xx_1, xx_s⟩ := rowD xx; obtain ⟨xk_0, xk_s⟩ := row1 xk; obtain ⟨xa_0, xa_1, xa_s⟩ := rowD xa; obtain ⟨xb_0, xb_1, xb_s⟩ := rowD xb; obtain ⟨xc_0, xc_1, xc_s⟩ := rowD xc))
  clear xx_0 xx_1 xx_s; clear xk_0 xk_s; clear xa_0 xa_1 xa_s; clear xb_0 xb_1 xb_s; clear xc_0 xc_1 xc_s
  have H_xx := Lib.hid xx
  have H_xk := Lib.hid xk
  have H_xa := Lib.hid xa
  have H_xb := Lib.hid xb
  have H_xc := Lib.hid xc
  have HU := Lib.hid hu
  clear xx xk xa xb xc hu
  refine wp_region_stages [.val (.int .i64 0), .val (.bool true), .val (.bool true), .val (.agg #[.slice P5 l.length cp5, .slice Q5 M.length cq5]), .val (.pointer (some ⟨gx, 0, none⟩)), .val (.slice P l.length cp), .val (.pointer (some ⟨gx, 1, none⟩)), .val (.slice Q m.length cq), .late, .val (.int .i64 (k : Int)), .val (.string s), .val (.agg #[.int .i64 (k : Int), .string s]), .late, .late [8, 12], .late [13], .late [14], .late [15], .late [16]] [8, 12, 13, 14, 15, 16, 17]
    (ApSt w8 m ⟨(k : Int), s⟩ (.slice P l.length cp)) (by kernel_rfl) (by kernel_rfl) (by kernel_rfl) ApSt.stay (fun Y => ApSt.start Y (Calm.refl _).drew) (fun Y => ?_)
  refine planS_val (by kernel_rfl) (fun L9 u hb hS => ?_) ?_
  · clear hS hb
    go_simp
  simp only [Act.put, List.setIfInBounds_toArray, List.set_cons_zero, List.set_cons_succ, Nat.reduceAdd]
  refine planS_val (by kernel_rfl) (fun L9 u hb hS => ?_) ?_
  · clear hS hb
    go_simp
  simp only [Act.put, List.setIfInBounds_toArray, List.set_cons_zero, List.set_cons_succ, Nat.reduceAdd]
  refine planS_val (by kernel_rfl) (fun L9 u hb hS => ?_) ?_
  · clear hS hb
    go_simp
  simp only [Act.put, List.setIfInBounds_toArray, List.set_cons_zero, List.set_cons_succ, Nat.reduceAdd]
  refine planS_val (by kernel_rfl) (fun L9 u hb hS => ?_) ?_
  · have hc := (ApSt.get hS).calm
    obtain ⟨xa_0, xa_1, xa_s⟩ := rowD ((hc.block (rowD H_xa.out).2.2).trans H_xa.out)
    clear hS hb hc
    go_simp
  simp only [Act.put, List.setIfInBounds_toArray, List.set_cons_zero, List.set_cons_succ, Nat.reduceAdd]
  refine planS_val (by kernel_rfl) (fun L9 u hb hS => ?_) ?_
  · clear hS hb
    go_simp
  simp only [Act.put, List.setIfInBounds_toArray, List.set_cons_zero, List.set_cons_succ, Nat.reduceAdd]
  refine planS_val (by kernel_rfl) (fun L9 u hb hS => ?_) ?_
  · have hc := (ApSt.get hS).calm
    obtain ⟨xx_0, xx_1, xx_s⟩ := rowD ((hc.block (rowD H_xx.out).2.2).trans H_xx.out)
    clear hS hb hc
    go_simp
  simp only [Act.put, List.setIfInBounds_toArray, List.set_cons_zero, List.set_cons_succ, Nat.reduceAdd]
  refine planS_val (by kernel_rfl) (fun L9 u hb hS => ?_) ?_
  · clear hS hb
    go_simp
  simp only [Act.put, List.setIfInBounds_toArray, List.set_cons_zero, List.set_cons_succ, Nat.reduceAdd]
  refine planS_val (by kernel_rfl) (fun L9 u hb hS => ?_) ?_
  · have hc := (ApSt.get hS).calm
    obtain ⟨xx_0, xx_1, xx_s⟩ := rowD ((hc.block (rowD H_xx.out).2.2).trans H_xx.out)
    clear hS hb hc
    go_simp
  simp only [Act.put, List.setIfInBounds_toArray, List.set_cons_zero, List.set_cons_succ, Nat.reduceAdd]
  refine planS_late (fun L9 u hi hb hS => ?_) ?_
  · have h := ApSt.get hS
    have hc := h.calm
    have h13 : L9 13 = false := by cases e : L9 13 with | false => rfl | true => rw [(h.ord e).1] at hi; cases hi
    have H := Lib.hid (fun y u' (hb : Calm u u') (hn : OwnW u.heap.size u' y m) => (⟨_, rfl, (h.stay hb).do8 y h13 (OwnG.weaken hn hc.size)⟩ : ApSt w8 m ⟨(k : Int), s⟩ (.slice P l.length cp) ([8, 12, 13, 14, 15, 16, 17].map (updB L9 8)) (updV Y 8 y) u'))
    have c1 := cQ u (HU.out.call hc)
    clear h hS hb hi h13 hc cQ
    go_wp2_with (go_at_call 23; (with_reducible refine c1.mono ?_); rintro e w9 ⟨v9, rfl, ho9, hb9⟩; have HO9 := Lib.hid ho9; have HB9 := Lib.hid hb9; clear ho9 hb9 c1)
    exact H.out v9 w9 HB9.out HO9.out
  simp only [Act.put, List.setIfInBounds_toArray, List.set_cons_zero, List.set_cons_succ, Nat.reduceAdd]
  refine planS_val (by kernel_rfl) (fun L9 u hb hS => ?_) ?_
  · clear hS hb
    go_simp
  simp only [Act.put, List.setIfInBounds_toArray, List.set_cons_zero, List.set_cons_succ, Nat.reduceAdd]
  refine planS_val (by kernel_rfl) (fun L9 u hb hS => ?_) ?_
  · clear hS hb
    go_simp
  simp only [Act.put, List.setIfInBounds_toArray, List.set_cons_zero, List.set_cons_succ, Nat.reduceAdd]
  refine planS_val (by kernel_rfl) (fun L9 u hb hS => ?_) ?_
  · clear hS hb
    go_simp
  simp only [Act.put, List.setIfInBounds_toArray, List.set_cons_zero, List.set_cons_succ, Nat.reduceAdd]
  refine planS_late (fun L9 u hi hb hS => ?_) ?_
  · have h := ApSt.get hS
    have hc := h.calm
    have h13 : L9 13 = false := by cases e : L9 13 with | false => rfl | true => rw [(h.ord e).2] at hi; cases hi
    have H := Lib.hid (⟨_, rfl, (h.stay ((Calm.refl u).alloc (.cells #[.int .i64 (k : Int), .string s] 41))).do12 _ h13 ⟨u.heap.size, rfl, heap_new _ _⟩⟩ : ApSt w8 m ⟨(k : Int), s⟩ (.slice P l.length cp) ([8, 12, 13, 14, 15, 16, 17].map (updB L9 12)) (updV Y 12 (.slice (some ⟨u.heap.size, 0, none⟩) 1 1)) (u.alloc (.cells #[.int .i64 (k : Int), .string s] 41)))
    clear h hS hb hi h13 hc cQ
    go_wp2_with fail
    exact H.out
  simp only [Act.put, List.setIfInBounds_toArray, List.set_cons_zero, List.set_cons_succ, Nat.reduceAdd]
  refine planS_late (fun L9 u hi hb hS => ?_) ?_
  · have h := ApSt.get hS
    have hc := h.calm
    have H := Lib.hid (fun y u' (hc : Calm w8 u') (hn : OwnW w8.heap.size u' y (m ++ [⟨(k : Int), s⟩])) => (⟨_, rfl, h.do13 y (hb 8 (by simp)) (hb 12 (by simp)) hi hc hn⟩ : ApSt w8 m ⟨(k : Int), s⟩ (.slice P l.length cp) ([8, 12, 13, 14, 15, 16, 17].map (updB L9 13)) (updV Y 13 y) u'))
    have ho := h.s8 (hb 8 (by simp)) hi
    obtain ⟨g, eY, hgl⟩ := h.s12 (hb 12 (by simp)) hi
    have HC := Lib.hid hc
    have HHs := hc.size
    rw [eY]
    clear hS hb hi h hc eY cQ
    go_wp2_with (at_builtin; refine wpList_bare (by kernel_rfl) ?_; refine wpList_append_w rfl _ _ rfl w8.heap.size _ m rfl ho g _ (k : Int) s _ rfl hgl (by omega) HHs ?_; intro v6 w9 ho6 hc6 hg6; have HO6 := Lib.hid ho6; have HC6 := Lib.hid hc6; clear ho6 hc6 hg6)
    exact H.out v6 w9 (HC6.out _ (Nat.le_refl _) HC.out) HO6.out
  simp only [Act.put, List.setIfInBounds_toArray, List.set_cons_zero, List.set_cons_succ, Nat.reduceAdd]
  refine planS_late (fun L9 u hi hb hS => ?_) ?_
  · have h := ApSt.get hS
    have hc := h.calm
    obtain ⟨A8, c8, e8, -, -⟩ := (h.s13 (hb 13 (by simp))).slice
    rw [List.length_append, List.length_singleton] at e8
    have H0 := (⟨_, rfl, h.do14 (hb 13 (by simp))⟩ : ApSt w8 m ⟨(k : Int), s⟩ (.slice P l.length cp) ([8, 12, 13, 14, 15, 16, 17].map (updB L9 14)) (updV Y 14 (.agg #[(.slice P l.length cp), Y 13])) u)
    rw [e8] at H0 ⊢
    have H := Lib.hid H0
    clear h hS hb hi hc cQ H0 e8
    go_wp2_with fail
    exact H.out
  simp only [Act.put, List.setIfInBounds_toArray, List.set_cons_zero, List.set_cons_succ, Nat.reduceAdd]
  refine planS_late (fun L9 u hi hb hS => ?_) ?_
  · have h := ApSt.get hS
    have hc := h.calm
    obtain ⟨h13, e14⟩ := h.s14 (hb 14 (by simp))
    have ho := h.s13 h13
    have H := Lib.hid (fun u' (hb : Calm u u') => (⟨_, rfl, (h.stay hb).do15⟩ : ApSt w8 m ⟨(k : Int), s⟩ (.slice P l.length cp) ([8, 12, 13, 14, 15, 16, 17].map (updB L9 15)) (updV Y 15 (.bool true)) u'))
    obtain ⟨A8, c8, e8, -, -⟩ := ho.slice
    rw [e8] at ho e14
    have c1 := sameDisk_self P5 Q5 P A8 cp5 cq5 cp c8 l M u (HD5.out.calm hc).p (HD5.out.calm hc).q ((HH.out.calm (HU.out.call hc)).p) (by rw [HMd.out]; exact (OwnW.at_ ho).2) hn hM
    rw [← HMd.out] at e14
    rw [e14]
    clear h hS hb hi hc cQ e8 h13 ho e14
    go_wp2_with (go_at_call 19; (with_reducible refine c1.mono ?_); rintro e w9 ⟨rfl, hk⟩; have HK9 := Lib.hid hk; clear hk)
    exact H.out w9 HK9.out
  simp only [Act.put, List.setIfInBounds_toArray, List.set_cons_zero, List.set_cons_succ, Nat.reduceAdd]
  refine planS_late (fun L9 u hi hb hS => ?_) ?_
  · have h := ApSt.get hS
    have hc := h.calm
    have H := Lib.hid (⟨_, rfl, h.do16⟩ : ApSt w8 m ⟨(k : Int), s⟩ (.slice P l.length cp) ([8, 12, 13, 14, 15, 16, 17].map (updB L9 16)) (updV Y 16 (.bool true)) u)
    have eY := h.s15 (hb 15 (by simp))
    rw [eY]
    clear h hS hb hi hc cQ eY
    go_wp2_with fail
    exact H.out
  simp only [Act.put, List.setIfInBounds_toArray, List.set_cons_zero, List.set_cons_succ, Nat.reduceAdd]
  refine planS_late (fun L9 u hi hb hS => ?_) ?_
  · have h := ApSt.get hS
    have hc := h.calm
    have H := Lib.hid (⟨_, rfl, h.do17⟩ : ApSt w8 m ⟨(k : Int), s⟩ (.slice P l.length cp) ([8, 12, 13, 14, 15, 16, 17].map (updB L9 17)) (updV Y 17 (.bool true)) u)
    have eY := h.s16 (hb 16 (by simp))
    rw [eY]
    clear h hS hb hi hc cQ eY
    go_wp2_with fail
    exact H.out
  try simp only [Act.put, Nat.reduceAdd]
  refine planS_end ?_
  intro w9 hS
  have h := ApSt.get (L := fun _ => true) hS
  have eY := h.s17 rfl
  have hu := HU.out.call h.calm
  rw [eY]
  clear hS eY h
  go_wp2_with fail
  go_ret
  exact ⟨rfl, hu⟩
theorem diskSays_walk (P Q : Option Addr) (cp cq : Nat) (l : List ByteArray) (m : List Wr) (i : Int) (s : ByteArray) (A : Option Addr) (c : Nat) (K : List Bool) (w : World) (hh : HasD w P Q l m) (hn : l.length ≤ 9223372036854775807) (hm : m.length ≤ 9223372036854775807) (hK : LiesO w A K) :
    Calls Try.prog 3 #[.agg #[.slice P l.length cp, .slice Q m.length cq], .int .i64 i, .string s, .slice A K.length c] w fun e w' => e = .returned (.bool true) ∧ Calm w w' := by
  by_cases h0 : dkErr l m = 0
  rotate_left
  · exact ds_bad P Q cp cq l m i s A c K w hh hn hm hK h0
  by_cases hi : i < 0 ∨ (l.length : Int) ≤ i
  · exact ds_past P Q cp cq l m i s A c K w hh hn hm hK h0 hi
  obtain ⟨k, rfl⟩ : ∃ k : Nat, i = (k : Int) := ⟨i.toNat, by omega⟩
  have hki : k < l.length := by omega
  by_cases hs : 3500 < s.size
  · exact ds_large P Q cp cq l m k s A c K w hh hn hm hK h0 hki hs
  by_cases h4 : m.length = 400
  · exact ds_full P Q cp cq l m k s A c K w hh hn hm hK h0 hki hs h4
  · exact ds_ok P Q cp cq l m k s A c K w hh hn hm hK h0 hki hs h4
end Go.Proofs.Ytkppoapjifeifaa
