/- Texts of one kind in one file. -/
import Derived.Test.YtkppoapjifeifaaPkDiskSays1
set_option maxRecDepth 100000
namespace Go.Proofs.Ytkppoapjifeifaa
open Go.RowKit
def PerfEnd (l : List ByteArray) (m : List Wr) (f : Nat → Bool) (w : World) (e : Ending) (w' : World) : Prop :=
 (dkErr l m ≠ 0 ∧ e = .returned (.tuple #[.agg #[.slice none 0 0, .slice none 0 0], .int .i64 (dkErr l m)]) ∧ Calm w w') ∨
 (dkErr l m = 0 ∧ ∃ v, e = .returned (.tuple #[.agg #[v, .slice none 0 0], .int .i64 0]) ∧ OwnP w.heap.size w' v (doneL f 0 m l) ∧ Calm w w')
def selK (K : List Bool) (j : Nat) : Bool := decide (j < K.length) && K.getD j false
def KBx (B : Nat) (A : Option Addr) (n c : Nat) (w : World) : Prop := w.heap[B]? = some (.cells #[.slice A n c] 26 (0, 0))
theorem KBx.calm {B n c : Nat} {A : Option Addr} {w w' : World} (h : KBx B A n c w) (hb : Calm w w') : KBx B A n c w' := (hb.block (Array.getElem?_eq_some_iff.1 h).1).trans h
theorem row1 {w : World} {g t : Nat} {a : Value} {fr : Nat × Nat} (h : w.heap[g]? = some (.cells #[a] t fr)) : w.cell? ⟨g, 0, none⟩ = some a ∧ g < w.heap.size :=
 ⟨cell_of_row _ _ 0 _ _ _ h, (Array.getElem?_eq_some_iff.1 h).1⟩
theorem sync1_any (k : Nat) (w : World) : Calls Try.prog 45 #[.int .i64 k] w fun e w' => e = .returned (.bool true) ∧ Calm w w' := by
 go_enter Try.func45, Try.ntmps45
 go_wp2_with fail
 go_ret
 exact ⟨rfl, Calm.refl _⟩
set_option maxHeartbeats 4000000 in
theorem crash1_any (B : Nat) (A : Option Addr) (c : Nat) (K : List Bool) (k : Nat) (w : World) (hB : KBx B A K.length c w) (hK : LiesO w A K) :
    Calls Try.prog 46 #[.int .i64 k, .pointer (some ⟨B, 0, none⟩)] w fun e w' => e = .returned (.bool (selK K k)) ∧ Calm w w' := by
  obtain ⟨x0, hxs⟩ := row1 hB
  by_cases hk : k < K.length
  · obtain ⟨b, q, s, rfl, hb, HE, c0⟩ := hK.get hk
    have hs : selK K k = s := by unfold selK; rw [decide_eq_true hk, List.getD_eq_getElem?_getD, HE.out]; rfl
    have hz : (k : Int) < (K.length : Int) := by omega
    rw [hs]
    clear hs hK hB
    go_enter Try.func46, Try.ntmps46
    go_wp2_with fail
    go_ret
    exact ⟨rfl, Calm.refl _⟩
  · have hs : selK K k = false := by unfold selK; rw [decide_eq_false hk]; rfl
    have hz : ¬ (k : Int) < (K.length : Int) := by omega
    rw [hs]
    clear hs hK hB
    go_enter Try.func46, Try.ntmps46
    go_wp2_with fail
    go_ret
    exact ⟨rfl, Calm.refl _⟩
set_option maxHeartbeats 8000000 in
theorem perfSync_any (P Q : Option Addr) (cp cq : Nat) (l : List ByteArray) (m : List Wr) (w : World) (hP : LiesP w P l) (hQ : LiesW w Q m) (hn : l.length ≤ 9223372036854775807) (hm : m.length ≤ 9223372036854775807) :
    Calls Try.prog 44 #[.agg #[.slice P l.length cp, .slice Q m.length cq], .func (.func 45) #[] #[]] w (PerfEnd l m (fun _ => true) w) := by
  have hx := heap_past (.cells #[.slice none 0 0, .slice none 0 0] 25) (heap_new w (.cells #[.slice P l.length cp, .slice Q m.length cq] 25))
  have hr := heap_new (w.alloc (.cells #[.slice P l.length cp, .slice Q m.length cq] 25)) (.cells #[.slice none 0 0, .slice none 0 0] 25)
  rw [World.size_alloc] at hr
  have hu := ((Calm.refl w).alloc (.cells #[.slice P l.length cp, .slice Q m.length cq] 25)).alloc (.cells #[.slice none 0 0, .slice none 0 0] 25)
  have cC := fun u (hu : Calm w u) => diskCheck_any P Q cp cq l m u (hP.calm hu) (hQ.calm hu) hn hm
  have cF : ∀ (k : Nat) u, Calm w u → Calls Try.prog 45 #[.int .i64 k] u fun e w' => e = .returned (.bool ((fun _ => true) k)) ∧ Calm u w' := fun k u _ => sync1_any k u
  obtain ⟨x0, x1, hxs⟩ := rowD hx
  obtain ⟨r0, r1, hrs⟩ := rowD hr
  obtain ⟨f0, f1⟩ := freeD2 hr
  by_cases hz : dkErr l m = 0
  rotate_left
  · have HE : Hid (∀ w', Calm w w' → PerfEnd l m (fun _ => true) w (.returned (.tuple #[.agg #[.slice none 0 0, .slice none 0 0], .int .i64 (dkErr l m)])) w') := show ∀ _, _ from fun w' hw => .inl ⟨hz, rfl, hw⟩
    have b1 : (dkErr l m != 0) = true := by rw [bne_iff_ne]; exact hz
    generalize PerfEnd l m (fun _ => true) w = PE at HE ⊢
    clear hz hP hQ
    generalize dkErr l m = E at cC b1 HE ⊢
    go_enter Try.func44, Try.ntmps44
    generalize hQ0 : bodyPost Try.prog Try.f44 PE = Q0
    have HRET : Hid (∀ a w', bodyPost Try.prog Try.f44 PE .ret a w' → Q0 .ret a w') := show ∀ _ _, _ from fun a w' h => by rw [← hQ0]; exact h
    clear hQ0
    go_wp2_with (go_at_call 18; (with_reducible refine (cC _ hu).mono ?_); rintro e w1 ⟨rfl, hb1⟩; replace hx := (hb1.block hxs).trans hx; replace hr := (hb1.block hrs).trans hr; replace hu := hu.call hb1; clear hb1; obtain ⟨x0, x1, hxs⟩ := rowD hx; obtain ⟨r0, r1, hrs⟩ := rowD hr; obtain ⟨f0, f1⟩ := freeD2 hr)
    have hr9 := setD2 hr (.slice none 0 0) (.slice none 0 0)
    have hu9 := hu.twoD (g := w.heap.size + 1) (by omega) (.slice none 0 0) (.slice none 0 0)
    exact HRET.out _ _ (end_dkE (p := 4) (q := 5) rfl rfl _ _ _ _ _ _ _ rfl rfl rfl hr9 rfl (HE.out _ hu9))
  have HE : Hid (∀ w' v, OwnP w.heap.size w' v (doneL (fun _ => true) 0 m l) → Calm w w' → PerfEnd l m (fun _ => true) w (.returned (.tuple #[.agg #[v, .slice none 0 0], .int .i64 0])) w') := show ∀ _, _ from fun w' v h1 hw => .inr ⟨hz, v, rfl, h1, hw⟩
  generalize PerfEnd l m (fun _ => true) w = PE at HE ⊢
  obtain ⟨h6, h5, -, hWS⟩ := dkErr_zero.1 hz
  have HWS := Lib.hid hWS
  have cP := fun u (hu : Calm w u) => cloneP_any P cp l u (by omega) (hP.calm hu)
  have HQ := Lib.hid hQ
  rw [hz] at cC
  clear hz hP hQ hWS hn hm
  go_enter Try.func44, Try.ntmps44
  generalize hQ0 : bodyPost Try.prog Try.f44 PE = Q0
  have HRET : Hid (∀ a w', bodyPost Try.prog Try.f44 PE .ret a w' → Q0 .ret a w') := show ∀ _ _, _ from fun a w' h => by rw [← hQ0]; exact h
  clear hQ0
  go_upto_region 5 with first
    | (go_at_call 18; (with_reducible refine (cC _ hu).mono ?_); rintro e w1 ⟨rfl, hb1⟩; replace hx := (hb1.block hxs).trans hx; replace hr := (hb1.block hrs).trans hr; replace hu := hu.call hb1; clear hb1; obtain ⟨x0, x1, hxs⟩ := rowD hx; obtain ⟨r0, r1, hrs⟩ := rowD hr; obtain ⟨f0, f1⟩ := freeD2 hr)
    | (go_at_call 39; (with_reducible refine (cP _ hu).mono ?_); rintro e w4 ⟨v4, rfl, ho4, hb1⟩; have hRl := hrs; replace hx := (hb1.block hxs).trans hx; replace hr := (hb1.block hrs).trans hr; replace hu := hu.call hb1; obtain ⟨x0, x1, hxs⟩ := rowD hx)
  obtain ⟨A4, c4, rfl, hc4, -⟩ := ho4.slice
  have hB4 := (Calm.size hb1)
  generalize w1.heap.size = B4 at ho4 hRl hB4
  have HO := Lib.hid ho4
  have HU := Lib.hid hu
  clear ho4 hb1 r0 r1 hrs f0 f1 cC cP
  go_wp2_with fail
  go_loopw [22, 8, 9] (fun i _ _ wr => ∃ k : Nat, k ≤ m.length ∧ i = .int .i64 k ∧ Calm w wr ∧ B4 ≤ wr.heap.size ∧ Hid (OwnP B4 wr (.slice A4 l.length c4) (doneL (fun _ => true) 0 (m.take k) l)) ∧ wr.heap[w.heap.size + 1]? = some (.cells #[.slice none 0 0, .slice none 0 0] 25 (0, 0))) (fun i _ _ _ => m.length - (intOf i).toNat)
  case atStart => exact ⟨0, Nat.zero_le _, rfl, hu, hB4, HO, hr⟩
  case round =>
    obtain ⟨k, hk, rfl, hv, hBv, HOk, hr⟩ := hrel
    by_cases hlt : k < m.length
    rotate_left
    · have hkl : m.take k = m := List.take_of_length_le (by omega)
      rw [hkl] at HOk
      have HO8 := HOk
      obtain ⟨r0, r1, hrs⟩ := rowD hr
      obtain ⟨f0, f1⟩ := freeD2 hr
      clear HOk hkl
      go_wp2_with fail
      have hr9 := setD2 hr (.slice A4 l.length c4) (.slice none 0 0)
      have HO9 := Lib.hid HO8.out
      have hu9 := hv.twoD (g := w.heap.size + 1) (by omega) (.slice A4 l.length c4) (.slice none 0 0)
      exact HRET.out _ _ (end_dkE (p := 4) (q := 5) rfl rfl _ _ _ _ _ _ _ rfl rfl rfl hr9 rfl (HE.out _ (.slice A4 l.length c4) (OwnG.weaken (rowsG_set (rowsG_set HO9.out hRl 0 (.slice A4 l.length c4)) hRl 1 (.slice none 0 0)) (by omega)) hu9))
    obtain ⟨b, q, i, s, rfl, hb, HEw, c0, c1⟩ := (HQ.out.calm hv).get hlt
    have hW := wrE_zero.1 (HWS.out _ (List.mem_of_getElem? HEw.out))
    obtain ⟨p, rfl⟩ : ∃ p : Nat, i = (p : Int) := ⟨i.toNat, by have := hW.1; simp only at this; omega⟩
    have hpl : p < l.length := by have := hW.2.1; simp only at this; omega
    have hdl := doneL_len (fun _ => true) (m.take k) 0 l
    obtain ⟨bk, hbk⟩ : ∃ bk : Bool, bk = (fun _ => true) k := ⟨_, rfl⟩
    have HT := Lib.hid (show doneL (fun _ => true) 0 (m.take (k + 1)) l = if bk = true then (doneL (fun _ => true) 0 (m.take k) l).set p s else doneL (fun _ => true) 0 (m.take k) l by rw [hbk]; exact doneL_take (f := (fun _ => true)) (ps := l) HEw.out)
    have cFk : ∀ u, Calm w u → Calls Try.prog 45 #[.int .i64 k] u fun e w' => e = .returned (.bool bk) ∧ Calm u w' := fun u hu => by rw [hbk]; exact cF k u hu
    have hak := (hv.alloc (.cells #[.int .i64 (p : Int), .string s] 41))
    have hyk := heap_new wr (.cells #[.int .i64 (p : Int), .string s] 41)
    have HO1 := Lib.hid (OwnP.calm HOk.out ((Calm.refl wr).alloc (.cells #[.int .i64 (p : Int), .string s] 41)))
    have hr1 := heap_past (.cells #[.int .i64 (p : Int), .string s] 41) hr
    clear hr HOk hW hbk HEw
    generalize doneL (fun _ => true) 0 (m.take k) l = L at HO1 HT hdl
    obtain ⟨g4, cap4, hA4⟩ := OwnG.some_ HO1.out (by omega)
    obtain rfl : A4 = some ⟨g4, 0, none⟩ := by injection hA4
    have hg4 := (HO1.out.lt g4 rfl).1
    clear hA4 cap4
    cases bk
    · have HT := Lib.hid (HT.out.trans (if_neg (by simp)))
      go_wp2_with (go_at_call 45; (with_reducible refine (cFk _ hak).mono ?_); rintro e w9 ⟨rfl, hb9⟩)
      go_roundw
      case rel => exact ⟨k + 1, by omega, by go_num, hak.call hb9, by have := hb9.size; simp at this; omega, by rw [HT.out]; exact HO1.out.calm hb9, (hb9.block (rowD hr1).2.2).trans hr1⟩
      case measure => simp [intOf]; omega
    · have HT := Lib.hid (HT.out.trans (if_pos rfl))
      go_wp2_with (go_at_call 45; (with_reducible refine (cFk _ hak).mono ?_); rintro e w9 ⟨rfl, hb9⟩; have hyk2 := (hb9.block (rowD hyk).2.2).trans hyk; obtain ⟨y0, y1, hys⟩ := rowD hyk2; have HO9 := Lib.hid (HO1.out.calm hb9); have hcell : w9.cell? ⟨g4, p, none⟩ = some (.string (L[p]'(by omega))) := (by have := (OwnG.cell stC_len HO9.out (show p < L.length by omega)).1 0 (by omega); rw [Nat.mul_one, Nat.add_zero] at this; exact this); have hfz := OwnG.frozen HO9.out p; have hpz : (p : Int) < (l.length : Int) := by omega)
      have HO10 : OwnP B4 (w9.setCell ⟨g4, p, none⟩ (.string s)) (.slice (some ⟨g4, 0, none⟩) l.length c4) (L.set p s) := by
        have := OwnG.set stC_len (i := p) (j := 0) (u := .string s) (x := s) HO9.out (by omega) (by omega) rfl
        rw [Nat.mul_one, Nat.add_zero] at this
        exact this
      go_roundw
      case rel => exact ⟨k + 1, by omega, by go_num, (hak.call hb9).setCell (p := ⟨g4, p, none⟩) (show w.heap.size ≤ g4 by omega) _, by have := hb9.size; simp at this ⊢; omega, by rw [HT.out]; exact HO10, (heap_setCell_other _ _ _ _ (by show w.heap.size + 1 ≠ g4; omega)).trans ((hb9.block (rowD hr1).2.2).trans hr1)⟩
      case measure => simp [intOf]; omega
set_option maxHeartbeats 8000000 in
theorem perfCrash_any (P Q : Option Addr) (cp cq : Nat) (l : List ByteArray) (m : List Wr) (B : Nat) (AK : Option Addr) (cK : Nat) (K : List Bool) (w : World) (hP : LiesP w P l) (hQ : LiesW w Q m) (hn : l.length ≤ 9223372036854775807) (hm : m.length ≤ 9223372036854775807) (hB : KBx B AK K.length cK w) (hK : LiesO w AK K) :
    Calls Try.prog 44 #[.agg #[.slice P l.length cp, .slice Q m.length cq], .func (.func 46) #[] #[.pointer (some ⟨B, 0, none⟩)]] w (PerfEnd l m (selK K) w) := by
  have hx := heap_past (.cells #[.slice none 0 0, .slice none 0 0] 25) (heap_new w (.cells #[.slice P l.length cp, .slice Q m.length cq] 25))
  have hr := heap_new (w.alloc (.cells #[.slice P l.length cp, .slice Q m.length cq] 25)) (.cells #[.slice none 0 0, .slice none 0 0] 25)
  rw [World.size_alloc] at hr
  have hu := ((Calm.refl w).alloc (.cells #[.slice P l.length cp, .slice Q m.length cq] 25)).alloc (.cells #[.slice none 0 0, .slice none 0 0] 25)
  have cC := fun u (hu : Calm w u) => diskCheck_any P Q cp cq l m u (hP.calm hu) (hQ.calm hu) hn hm
  have cF : ∀ (k : Nat) u, Calm w u → Calls Try.prog 46 #[.int .i64 k, .pointer (some ⟨B, 0, none⟩)] u fun e w' => e = .returned (.bool (selK K k)) ∧ Calm u w' := fun k u hu => crash1_any B AK cK K k u (hB.calm hu) (hK.calm hu)
  clear hB hK
  obtain ⟨x0, x1, hxs⟩ := rowD hx
  obtain ⟨r0, r1, hrs⟩ := rowD hr
  obtain ⟨f0, f1⟩ := freeD2 hr
  by_cases hz : dkErr l m = 0
  rotate_left
  · have HE : Hid (∀ w', Calm w w' → PerfEnd l m (selK K) w (.returned (.tuple #[.agg #[.slice none 0 0, .slice none 0 0], .int .i64 (dkErr l m)])) w') := show ∀ _, _ from fun w' hw => .inl ⟨hz, rfl, hw⟩
    have b1 : (dkErr l m != 0) = true := by rw [bne_iff_ne]; exact hz
    generalize PerfEnd l m (selK K) w = PE at HE ⊢
    clear hz hP hQ
    generalize dkErr l m = E at cC b1 HE ⊢
    go_enter Try.func44, Try.ntmps44
    generalize hQ0 : bodyPost Try.prog Try.f44 PE = Q0
    have HRET : Hid (∀ a w', bodyPost Try.prog Try.f44 PE .ret a w' → Q0 .ret a w') := show ∀ _ _, _ from fun a w' h => by rw [← hQ0]; exact h
    clear hQ0
    go_wp2_with (go_at_call 18; (with_reducible refine (cC _ hu).mono ?_); rintro e w1 ⟨rfl, hb1⟩; replace hx := (hb1.block hxs).trans hx; replace hr := (hb1.block hrs).trans hr; replace hu := hu.call hb1; clear hb1; obtain ⟨x0, x1, hxs⟩ := rowD hx; obtain ⟨r0, r1, hrs⟩ := rowD hr; obtain ⟨f0, f1⟩ := freeD2 hr)
    have hr9 := setD2 hr (.slice none 0 0) (.slice none 0 0)
    have hu9 := hu.twoD (g := w.heap.size + 1) (by omega) (.slice none 0 0) (.slice none 0 0)
    exact HRET.out _ _ (end_dkE (p := 4) (q := 5) rfl rfl _ _ _ _ _ _ _ rfl rfl rfl hr9 rfl (HE.out _ hu9))
  have HE : Hid (∀ w' v, OwnP w.heap.size w' v (doneL (selK K) 0 m l) → Calm w w' → PerfEnd l m (selK K) w (.returned (.tuple #[.agg #[v, .slice none 0 0], .int .i64 0])) w') := show ∀ _, _ from fun w' v h1 hw => .inr ⟨hz, v, rfl, h1, hw⟩
  generalize PerfEnd l m (selK K) w = PE at HE ⊢
  obtain ⟨h6, h5, -, hWS⟩ := dkErr_zero.1 hz
  have HWS := Lib.hid hWS
  have cP := fun u (hu : Calm w u) => cloneP_any P cp l u (by omega) (hP.calm hu)
  have HQ := Lib.hid hQ
  rw [hz] at cC
  clear hz hP hQ hWS hn hm
  go_enter Try.func44, Try.ntmps44
  generalize hQ0 : bodyPost Try.prog Try.f44 PE = Q0
  have HRET : Hid (∀ a w', bodyPost Try.prog Try.f44 PE .ret a w' → Q0 .ret a w') := show ∀ _ _, _ from fun a w' h => by rw [← hQ0]; exact h
  clear hQ0
  go_upto_region 5 with first
    | (go_at_call 18; (with_reducible refine (cC _ hu).mono ?_); rintro e w1 ⟨rfl, hb1⟩; replace hx := (hb1.block hxs).trans hx; replace hr := (hb1.block hrs).trans hr; replace hu := hu.call hb1; clear hb1; obtain ⟨x0, x1, hxs⟩ := rowD hx; obtain ⟨r0, r1, hrs⟩ := rowD hr; obtain ⟨f0, f1⟩ := freeD2 hr)
    | (go_at_call 39; (with_reducible refine (cP _ hu).mono ?_); rintro e w4 ⟨v4, rfl, ho4, hb1⟩; have hRl := hrs; replace hx := (hb1.block hxs).trans hx; replace hr := (hb1.block hrs).trans hr; replace hu := hu.call hb1; obtain ⟨x0, x1, hxs⟩ := rowD hx)
  obtain ⟨A4, c4, rfl, hc4, -⟩ := ho4.slice
  have hB4 := (Calm.size hb1)
  generalize w1.heap.size = B4 at ho4 hRl hB4
  have HO := Lib.hid ho4
  have HU := Lib.hid hu
  clear ho4 hb1 r0 r1 hrs f0 f1 cC cP
  go_wp2_with fail
  go_loopw [22, 8, 9] (fun i _ _ wr => ∃ k : Nat, k ≤ m.length ∧ i = .int .i64 k ∧ Calm w wr ∧ B4 ≤ wr.heap.size ∧ Hid (OwnP B4 wr (.slice A4 l.length c4) (doneL (selK K) 0 (m.take k) l)) ∧ wr.heap[w.heap.size + 1]? = some (.cells #[.slice none 0 0, .slice none 0 0] 25 (0, 0))) (fun i _ _ _ => m.length - (intOf i).toNat)
  case atStart => exact ⟨0, Nat.zero_le _, rfl, hu, hB4, HO, hr⟩
  case round =>
    obtain ⟨k, hk, rfl, hv, hBv, HOk, hr⟩ := hrel
    by_cases hlt : k < m.length
    rotate_left
    · have hkl : m.take k = m := List.take_of_length_le (by omega)
      rw [hkl] at HOk
      have HO8 := HOk
      obtain ⟨r0, r1, hrs⟩ := rowD hr
      obtain ⟨f0, f1⟩ := freeD2 hr
      clear HOk hkl
      go_wp2_with fail
      have hr9 := setD2 hr (.slice A4 l.length c4) (.slice none 0 0)
      have HO9 := Lib.hid HO8.out
      have hu9 := hv.twoD (g := w.heap.size + 1) (by omega) (.slice A4 l.length c4) (.slice none 0 0)
      exact HRET.out _ _ (end_dkE (p := 4) (q := 5) rfl rfl _ _ _ _ _ _ _ rfl rfl rfl hr9 rfl (HE.out _ (.slice A4 l.length c4) (OwnG.weaken (rowsG_set (rowsG_set HO9.out hRl 0 (.slice A4 l.length c4)) hRl 1 (.slice none 0 0)) (by omega)) hu9))
    obtain ⟨b, q, i, s, rfl, hb, HEw, c0, c1⟩ := (HQ.out.calm hv).get hlt
    have hW := wrE_zero.1 (HWS.out _ (List.mem_of_getElem? HEw.out))
    obtain ⟨p, rfl⟩ : ∃ p : Nat, i = (p : Int) := ⟨i.toNat, by have := hW.1; simp only at this; omega⟩
    have hpl : p < l.length := by have := hW.2.1; simp only at this; omega
    have hdl := doneL_len (selK K) (m.take k) 0 l
    obtain ⟨bk, hbk⟩ : ∃ bk : Bool, bk = (selK K) k := ⟨_, rfl⟩
    have HT := Lib.hid (show doneL (selK K) 0 (m.take (k + 1)) l = if bk = true then (doneL (selK K) 0 (m.take k) l).set p s else doneL (selK K) 0 (m.take k) l by rw [hbk]; exact doneL_take (f := (selK K)) (ps := l) HEw.out)
    have cFk : ∀ u, Calm w u → Calls Try.prog 46 #[.int .i64 k, .pointer (some ⟨B, 0, none⟩)] u fun e w' => e = .returned (.bool bk) ∧ Calm u w' := fun u hu => by rw [hbk]; exact cF k u hu
    have hak := (hv.alloc (.cells #[.int .i64 (p : Int), .string s] 41))
    have hyk := heap_new wr (.cells #[.int .i64 (p : Int), .string s] 41)
    have HO1 := Lib.hid (OwnP.calm HOk.out ((Calm.refl wr).alloc (.cells #[.int .i64 (p : Int), .string s] 41)))
    have hr1 := heap_past (.cells #[.int .i64 (p : Int), .string s] 41) hr
    clear hr HOk hW hbk HEw
    generalize doneL (selK K) 0 (m.take k) l = L at HO1 HT hdl
    obtain ⟨g4, cap4, hA4⟩ := OwnG.some_ HO1.out (by omega)
    obtain rfl : A4 = some ⟨g4, 0, none⟩ := by injection hA4
    have hg4 := (HO1.out.lt g4 rfl).1
    clear hA4 cap4
    cases bk
    · have HT := Lib.hid (HT.out.trans (if_neg (by simp)))
      go_wp2_with (go_at_call 46; (with_reducible refine (cFk _ hak).mono ?_); rintro e w9 ⟨rfl, hb9⟩)
      go_roundw
      case rel => exact ⟨k + 1, by omega, by go_num, hak.call hb9, by have := hb9.size; simp at this; omega, by rw [HT.out]; exact HO1.out.calm hb9, (hb9.block (rowD hr1).2.2).trans hr1⟩
      case measure => simp [intOf]; omega
    · have HT := Lib.hid (HT.out.trans (if_pos rfl))
      go_wp2_with (go_at_call 46; (with_reducible refine (cFk _ hak).mono ?_); rintro e w9 ⟨rfl, hb9⟩; have hyk2 := (hb9.block (rowD hyk).2.2).trans hyk; obtain ⟨y0, y1, hys⟩ := rowD hyk2; have HO9 := Lib.hid (HO1.out.calm hb9); have hcell : w9.cell? ⟨g4, p, none⟩ = some (.string (L[p]'(by omega))) := (by have := (OwnG.cell stC_len HO9.out (show p < L.length by omega)).1 0 (by omega); rw [Nat.mul_one, Nat.add_zero] at this; exact this); have hfz := OwnG.frozen HO9.out p; have hpz : (p : Int) < (l.length : Int) := by omega)
      have HO10 : OwnP B4 (w9.setCell ⟨g4, p, none⟩ (.string s)) (.slice (some ⟨g4, 0, none⟩) l.length c4) (L.set p s) := by
        have := OwnG.set stC_len (i := p) (j := 0) (u := .string s) (x := s) HO9.out (by omega) (by omega) rfl
        rw [Nat.mul_one, Nat.add_zero] at this
        exact this
      go_roundw
      case rel => exact ⟨k + 1, by omega, by go_num, (hak.call hb9).setCell (p := ⟨g4, p, none⟩) (show w.heap.size ≤ g4 by omega) _, by have := hb9.size; simp at this ⊢; omega, by rw [HT.out]; exact HO10, (heap_setCell_other _ _ _ _ (by show w.heap.size + 1 ≠ g4; omega)).trans ((hb9.block (rowD hr1).2.2).trans hr1)⟩
      case measure => simp [intOf]; omega
set_option maxHeartbeats 8000000 in
theorem diskSync_any (P Q : Option Addr) (cp cq : Nat) (l : List ByteArray) (m : List Wr) (w : World) (hP : LiesP w P l) (hQ : LiesW w Q m) (hn : l.length ≤ 9223372036854775807) (hm : m.length ≤ 9223372036854775807) :
    Calls Try.prog 15 #[.agg #[.slice P l.length cp, .slice Q m.length cq]] w (PerfEnd l m (fun _ => true) w) := by
  have hx := heap_past (.cells #[.slice none 0 0, .slice none 0 0] 25) (heap_new w (.cells #[.slice P l.length cp, .slice Q m.length cq] 25))
  have hr := heap_new (w.alloc (.cells #[.slice P l.length cp, .slice Q m.length cq] 25)) (.cells #[.slice none 0 0, .slice none 0 0] 25)
  rw [World.size_alloc] at hr
  have hu := ((Calm.refl w).alloc (.cells #[.slice P l.length cp, .slice Q m.length cq] 25)).alloc (.cells #[.slice none 0 0, .slice none 0 0] 25)
  obtain ⟨x0, x1, hxs⟩ := rowD hx
  obtain ⟨r0, r1, hrs⟩ := rowD hr
  obtain ⟨f0, f1⟩ := freeD2 hr
  have cC := fun u (hu : Calm w u) => perfSync_any P Q cp cq l m u (hP.calm hu) (hQ.calm hu) hn hm
  by_cases hz : dkErr l m = 0
  · have HE0 : Hid (∀ w' v, OwnP w.heap.size w' v (doneL (fun _ => true) 0 m l) → Calm w w' → PerfEnd l m (fun _ => true) w (.returned (.tuple #[.agg #[v, .slice none 0 0], .int .i64 0])) w') := show ∀ _, _ from fun w' v h1 hw => .inr ⟨hz, v, rfl, h1, hw⟩
    have cC2 := fun u (hu : Calm w u) => (cC u hu).mono (fun e w' h => (show ∃ A c, e = .returned (.tuple #[.agg #[.slice A (doneL (fun _ => true) 0 m l).length c, .slice none 0 0], .int .i64 0]) ∧ OwnP u.heap.size w' (.slice A (doneL (fun _ => true) 0 m l).length c) (doneL (fun _ => true) 0 m l) ∧ Calm u w' by
      rcases h with ⟨h, -⟩ | ⟨h1, v, h2, h3, h4⟩
      · exact absurd hz h
      · obtain ⟨A, c, rfl, -, -⟩ := h3.slice
        exact ⟨A, c, h2, h3, h4⟩))
    generalize PerfEnd l m (fun _ => true) w = PE at HE0 ⊢
    clear cC hz hP hQ hn hm
    generalize doneL (fun _ => true) 0 m l = L at HE0 cC2
    go_enter Try.func15, Try.ntmps15
    generalize hQ0 : bodyPost Try.prog Try.f15 PE = Q0
    have HRET : Hid (∀ a w', bodyPost Try.prog Try.f15 PE .ret a w' → Q0 .ret a w') := show ∀ _ _, _ from fun a w' h => by rw [← hQ0]; exact h
    clear hQ0
    go_wp2_with (go_at_call 44; (with_reducible refine (cC2 _ hu).mono ?_); rintro e w1 ⟨A9, c9, rfl, ho9, hb1⟩; have HO9 := Lib.hid ho9; clear ho9; replace hr := (hb1.block hrs).trans hr; replace hu := hu.call hb1; have hs1 := hrs; clear hb1 r0 r1 hrs f0 f1 x0 x1 hxs; obtain ⟨r0, r1, hrs⟩ := rowD hr; obtain ⟨f0, f1⟩ := freeD2 hr)
    have hr9 := setD2 hr (.slice A9 L.length c9) (.slice none 0 0)
    have hu9 := hu.twoD (g := w.heap.size + 1) (by omega) (.slice A9 L.length c9) (.slice none 0 0)
    exact HRET.out _ _ (end_dkE (p := 2) (q := 3) rfl rfl _ _ _ _ _ _ _ rfl rfl rfl hr9 rfl (HE0.out _ _ (OwnG.weaken (rowsG_set (rowsG_set HO9.out hs1 0 (.slice A9 L.length c9)) hs1 1 (.slice none 0 0)) (by omega)) hu9))
  · have HE : Hid (∀ w', Calm w w' → PerfEnd l m (fun _ => true) w (.returned (.tuple #[.agg #[.slice none 0 0, .slice none 0 0], .int .i64 (dkErr l m)])) w') := show ∀ _, _ from fun w' hw => .inl ⟨hz, rfl, hw⟩
    have cC2 := fun u (hu : Calm w u) => (cC u hu).mono (fun e w' h => (show e = .returned (.tuple #[.agg #[.slice none 0 0, .slice none 0 0], .int .i64 (dkErr l m)]) ∧ Calm u w' by
      rcases h with ⟨-, h⟩ | ⟨h1, -⟩
      · exact h
      · exact absurd h1 hz))
    generalize PerfEnd l m (fun _ => true) w = PE at HE ⊢
    clear cC hz hP hQ hn hm
    generalize dkErr l m = E at HE cC2
    go_enter Try.func15, Try.ntmps15
    generalize hQ0 : bodyPost Try.prog Try.f15 PE = Q0
    have HRET : Hid (∀ a w', bodyPost Try.prog Try.f15 PE .ret a w' → Q0 .ret a w') := show ∀ _ _, _ from fun a w' h => by rw [← hQ0]; exact h
    clear hQ0
    go_wp2_with (go_at_call 44; (with_reducible refine (cC2 _ hu).mono ?_); rintro e w1 ⟨rfl, hb1⟩; replace hr := (hb1.block hrs).trans hr; replace hu := hu.call hb1; have hs1 := hrs; clear hb1 r0 r1 hrs f0 f1 x0 x1 hxs; obtain ⟨r0, r1, hrs⟩ := rowD hr; obtain ⟨f0, f1⟩ := freeD2 hr)
    have hr9 := setD2 hr (.slice none 0 0) (.slice none 0 0)
    have hu9 := hu.twoD (g := w.heap.size + 1) (by omega) (.slice none 0 0) (.slice none 0 0)
    exact HRET.out _ _ (end_dkE (p := 2) (q := 3) rfl rfl _ _ _ _ _ _ _ rfl rfl rfl hr9 rfl (HE.out _ hu9))
set_option maxHeartbeats 8000000 in
theorem diskCrash_any (P Q : Option Addr) (cp cq : Nat) (l : List ByteArray) (m : List Wr) (AK : Option Addr) (cK : Nat) (K : List Bool) (w : World) (hP : LiesP w P l) (hQ : LiesW w Q m) (hn : l.length ≤ 9223372036854775807) (hm : m.length ≤ 9223372036854775807) (hK : LiesO w AK K) :
    Calls Try.prog 16 #[.agg #[.slice P l.length cp, .slice Q m.length cq], .slice AK K.length cK] w (PerfEnd l m (selK K) w) := by
  have hx := heap_past (.cells #[.slice none 0 0, .slice none 0 0] 25) (heap_past (.cells #[.slice AK K.length cK] 26) (heap_new w (.cells #[.slice P l.length cp, .slice Q m.length cq] 25)))
  have hk := heap_past (.cells #[.slice none 0 0, .slice none 0 0] 25) (heap_new (w.alloc (.cells #[.slice P l.length cp, .slice Q m.length cq] 25)) (.cells #[.slice AK K.length cK] 26))
  have hr := heap_new ((w.alloc (.cells #[.slice P l.length cp, .slice Q m.length cq] 25)).alloc (.cells #[.slice AK K.length cK] 26)) (.cells #[.slice none 0 0, .slice none 0 0] 25)
  rw [World.size_alloc] at hk hr
  rw [World.size_alloc] at hr
  have hu := (((Calm.refl w).alloc (.cells #[.slice P l.length cp, .slice Q m.length cq] 25)).alloc (.cells #[.slice AK K.length cK] 26)).alloc (.cells #[.slice none 0 0, .slice none 0 0] 25)
  obtain ⟨k0, hks⟩ := row1 hk
  replace hk : KBx (w.heap.size + 1) AK K.length cK _ := hk
  obtain ⟨x0, x1, hxs⟩ := rowD hx
  obtain ⟨r0, r1, hrs⟩ := rowD hr
  obtain ⟨f0, f1⟩ := freeD2 hr
  have cC := fun u (hu : Calm w u) (hk : KBx (w.heap.size + 1) AK K.length cK u) => perfCrash_any P Q cp cq l m (w.heap.size + 1) AK cK K u (hP.calm hu) (hQ.calm hu) hn hm hk (hK.calm hu)
  clear hK
  by_cases hz : dkErr l m = 0
  · have HE0 : Hid (∀ w' v, OwnP w.heap.size w' v (doneL (selK K) 0 m l) → Calm w w' → PerfEnd l m (selK K) w (.returned (.tuple #[.agg #[v, .slice none 0 0], .int .i64 0])) w') := show ∀ _, _ from fun w' v h1 hw => .inr ⟨hz, v, rfl, h1, hw⟩
    have cC2 := fun u (hu : Calm w u) (hk : KBx (w.heap.size + 1) AK K.length cK u) => (cC u hu hk).mono (fun e w' h => (show ∃ A c, e = .returned (.tuple #[.agg #[.slice A (doneL (selK K) 0 m l).length c, .slice none 0 0], .int .i64 0]) ∧ OwnP u.heap.size w' (.slice A (doneL (selK K) 0 m l).length c) (doneL (selK K) 0 m l) ∧ Calm u w' by
      rcases h with ⟨h, -⟩ | ⟨h1, v, h2, h3, h4⟩
      · exact absurd hz h
      · obtain ⟨A, c, rfl, -, -⟩ := h3.slice
        exact ⟨A, c, h2, h3, h4⟩))
    generalize PerfEnd l m (selK K) w = PE at HE0 ⊢
    clear cC hz hP hQ hn hm
    generalize doneL (selK K) 0 m l = L at HE0 cC2
    go_enter Try.func16, Try.ntmps16
    generalize hQ0 : bodyPost Try.prog Try.f16 PE = Q0
    have HRET : Hid (∀ a w', bodyPost Try.prog Try.f16 PE .ret a w' → Q0 .ret a w') := show ∀ _ _, _ from fun a w' h => by rw [← hQ0]; exact h
    clear hQ0
    go_wp2_with (go_at_call 44; (with_reducible refine (cC2 _ hu hk).mono ?_); rintro e w1 ⟨A9, c9, rfl, ho9, hb1⟩; have HO9 := Lib.hid ho9; clear ho9; replace hr := (hb1.block hrs).trans hr; replace hu := hu.call hb1; have hs1 := hrs; clear hb1 k0 hks hk r0 r1 hrs f0 f1 x0 x1 hxs; obtain ⟨r0, r1, hrs⟩ := rowD hr; obtain ⟨f0, f1⟩ := freeD2 hr)
    have hr9 := setD2 hr (.slice A9 L.length c9) (.slice none 0 0)
    have hu9 := hu.twoD (g := w.heap.size + 1 + 1) (by omega) (.slice A9 L.length c9) (.slice none 0 0)
    exact HRET.out _ _ (end_dkE (p := 4) (q := 5) rfl rfl _ _ _ _ _ _ _ rfl rfl rfl hr9 rfl (HE0.out _ _ (OwnG.weaken (rowsG_set (rowsG_set HO9.out hs1 0 (.slice A9 L.length c9)) hs1 1 (.slice none 0 0)) (by omega)) hu9))
  · have HE : Hid (∀ w', Calm w w' → PerfEnd l m (selK K) w (.returned (.tuple #[.agg #[.slice none 0 0, .slice none 0 0], .int .i64 (dkErr l m)])) w') := show ∀ _, _ from fun w' hw => .inl ⟨hz, rfl, hw⟩
    have cC2 := fun u (hu : Calm w u) (hk : KBx (w.heap.size + 1) AK K.length cK u) => (cC u hu hk).mono (fun e w' h => (show e = .returned (.tuple #[.agg #[.slice none 0 0, .slice none 0 0], .int .i64 (dkErr l m)]) ∧ Calm u w' by
      rcases h with ⟨-, h⟩ | ⟨h1, -⟩
      · exact h
      · exact absurd h1 hz))
    generalize PerfEnd l m (selK K) w = PE at HE ⊢
    clear cC hz hP hQ hn hm
    generalize dkErr l m = E at HE cC2
    go_enter Try.func16, Try.ntmps16
    generalize hQ0 : bodyPost Try.prog Try.f16 PE = Q0
    have HRET : Hid (∀ a w', bodyPost Try.prog Try.f16 PE .ret a w' → Q0 .ret a w') := show ∀ _ _, _ from fun a w' h => by rw [← hQ0]; exact h
    clear hQ0
    go_wp2_with (go_at_call 44; (with_reducible refine (cC2 _ hu hk).mono ?_); rintro e w1 ⟨rfl, hb1⟩; replace hr := (hb1.block hrs).trans hr; replace hu := hu.call hb1; have hs1 := hrs; clear hb1 k0 hks hk r0 r1 hrs f0 f1 x0 x1 hxs; obtain ⟨r0, r1, hrs⟩ := rowD hr; obtain ⟨f0, f1⟩ := freeD2 hr)
    have hr9 := setD2 hr (.slice none 0 0) (.slice none 0 0)
    have hu9 := hu.twoD (g := w.heap.size + 1 + 1) (by omega) (.slice none 0 0) (.slice none 0 0)
    exact HRET.out _ _ (end_dkE (p := 4) (q := 5) rfl rfl _ _ _ _ _ _ _ rfl rfl rfl hr9 rfl (HE.out _ hu9))
open Go.RowKit
def FIX {α : Type} (q : α → Bool) (l : List α) (r : Int) : Prop := (r = -1 ∧ ∀ e ∈ l, q e = false) ∨ (∃ (i : Nat) (h : i < l.length), r = i ∧ q l[i] = true ∧ ∀ j (hj : j < l.length), j < i → q l[j] = false)
theorem FIX_ex {α : Type} (q : α → Bool) (l : List α) : ∃ r, FIX q l r := by
 have E : ∀ n, n ≤ l.length → (∃ (i : Nat) (h : i < l.length), q l[i] = true ∧ ∀ j (hj : j < l.length), j < i → q l[j] = false) ∨ ∀ j (hj : j < l.length), j < n → q l[j] = false := fun n => by
  induction n with
  |zero => intro _; right; intro j hj h0; omega
  |succ n ih =>
   intro hn
   rcases ih (by omega) with h | h
   ·exact .inl h
   ·cases hp : q l[n]
    ·right; intro j hj h1
     rcases Nat.lt_or_ge j n with h2 | h2
     ·exact h j hj h2
     ·rw [show l[j] = l[n] from by congr 1; omega]; exact hp
    ·exact .inl ⟨n, by omega, hp, h⟩
 rcases E l.length (Nat.le_refl _) with ⟨i, h, h1, h2⟩ | h
 ·exact ⟨i, .inr ⟨i, h, rfl, h1, h2⟩⟩
 ·exact ⟨-1, .inl ⟨rfl, fun e he => by obtain ⟨j, hj, rfl⟩ := List.getElem_of_mem he; exact h j hj hj⟩⟩
theorem FIX.any {α : Type} {q : α → Bool} {l : List α} {r : Int} (h : FIX q l r) : (0 ≤ r ∧ l.any q = true) ∨ (r = -1 ∧ l.any q = false) := by
 rcases h with ⟨h1, h2⟩ | ⟨i, h1, h2, h3, -⟩
 ·exact .inr ⟨h1, List.any_eq_false.2 fun e he => by simp [h2 e he]⟩
 ·exact .inl ⟨by omega, List.any_eq_true.2 ⟨_, List.getElem_mem h1, h3⟩⟩
open Go.RowKit
theorem refDisk1_any (s : ByteArray) (w : World) : Calls Try.prog 47 #[.string s] w fun e w' => e = .returned (.bool (decide (3500 < s.size))) ∧ Calm w w' := by
 by_cases h : 3500 < s.size
 ·rw [decide_eq_true h]
  go_enter Try.func47, Try.ntmps47
  go_wp2_with fail
  go_ret
  exact ⟨ret_bool (by simp; omega), Calm.refl _⟩
 ·rw [decide_eq_false h]
  go_enter Try.func47, Try.ntmps47
  go_wp2_with fail
  go_ret
  exact ⟨ret_bool (by simp; omega), Calm.refl _⟩
set_option maxHeartbeats 4000000 in
theorem idxL_any (A : Option Addr) (c : Nat) (l : List ByteArray) (r : Int) (w : World) (hn : l.length ≤ 9223372036854775807) (hL : LiesP w A l) (hF : FIX (fun s : ByteArray => decide (3500 < s.size)) l r) :
    Calls Try.prog 64 #[.slice A l.length c, .func (.func 47) #[] #[]] w fun e w' => e = .returned (.int .i64 r) ∧ Calm w w' := by
  have HF := Lib.hid hF
  have C : ∀ (u : World) (s : ByteArray), Calls Try.prog 47 (#[.string s] ++ #[]) u fun e w' => e = .returned (.bool (decide (3500 < s.size))) ∧ Calm u w' := fun u s => refDisk1_any s u
  clear hF
  go_enter Try.func64, Try.ntmps64
  go_wp2_with fail
  go_loopw [8, 5] (fun i _ wr => ∃ k : Nat, k ≤ l.length ∧ i = .int .i64 k ∧ Calm w wr ∧ Hid (∀ j (hj : j < l.length), j < k → decide (3500 < l[j].size) = false)) (fun i _ _ => l.length - (intOf i).toNat)
  case atStart => exact ⟨0, Nat.zero_le _, rfl, Calm.refl _, show ∀ _, _ from fun j hj h => absurd h (Nat.not_lt_zero _)⟩
  case round =>
    obtain ⟨k, hk, rfl, hu, hN⟩ := hrel
    by_cases hlt : k < l.length
    rotate_left
    · have K : Hid (r = -1) := by
        rcases HF.out with h | ⟨i, hi, _, h2, _⟩
        · exact h.1
        · have h2 : decide (3500 < l[i].size) = true := h2
          rw [hN.out i hi (by omega)] at h2; cases h2
      clear C
      go_wp2_with fail
      go_ret
      exact ⟨by rw [K.out]; rfl, hu⟩
    obtain ⟨b, q, t, rfl, hb, HE, c0⟩ := (hL.calm hu).get hlt
    have HE2 := (List.getElem?_eq_some_iff.1 HE.out).2
    have hc := C wr t
    cases hp : decide (3500 < t.size)
    · rw [hp] at hc
      have hN2 : Hid (∀ j (hj : j < l.length), j < k + 1 → decide (3500 < l[j].size) = false) := show ∀ _, _ from fun j hj h => by
        rcases Nat.lt_or_ge j k with h2 | h2
        · exact hN.out j hj h2
        · rw [show l[j] = l[k] from by congr 1; omega, HE2]; exact hp
      clear hp C HE2
      go_wp2_with (go_at_call 47; refine hc.mono ?_; rintro e w1 ⟨rfl, hb1⟩)
      go_roundw
      case rel => exact ⟨k + 1, by omega, by go_num, hu.call hb1, hN2⟩
      case measure => simp [intOf]; omega
    · rw [hp] at hc
      have K : Hid (r = k) := by
        rcases HF.out with h | ⟨i, hi, hr, h2, h3⟩
        · have : decide (3500 < l[k].size) = false := h.2 _ (List.getElem_mem hlt)
          rw [HE2, hp] at this; cases this
        · rw [hr]
          rcases Nat.lt_trichotomy i k with h4 | h4 | h4
          · have h2 : decide (3500 < l[i].size) = true := h2
            rw [hN.out i hi h4] at h2; cases h2
          · show _ = _; rw [h4]
          · have : decide (3500 < l[k].size) = false := h3 k hlt h4
            rw [HE2, hp] at this; cases this
      clear hp C HE2
      go_wp2_with (go_at_call 47; refine hc.mono ?_; rintro e w1 ⟨rfl, hb1⟩)
      go_ret
      exact ⟨by rw [K.out]; rfl, hu.call hb1⟩
set_option maxHeartbeats 4000000 in
theorem hasL_any (A : Option Addr) (c : Nat) (l : List ByteArray) (w : World) (hn : l.length ≤ 9223372036854775807) (hL : LiesP w A l) :
    Calls Try.prog 35 #[.slice A l.length c, .func (.func 47) #[] #[]] w fun e w' => e = .returned (.bool (l.any fun s => decide (3500 < s.size))) ∧ Calm w w' := by
  obtain ⟨r, hr⟩ := FIX_ex (fun s : ByteArray => decide (3500 < s.size)) l
  have cI := idxL_any A c l r w hn hL hr
  have hany := hr.any
  generalize (l.any fun s : ByteArray => decide (3500 < s.size)) = R at hany ⊢
  clear hr hL
  rcases hany with ⟨h1, rfl⟩ | ⟨rfl, rfl⟩
  · go_enter Try.func35, Try.ntmps35
    go_wp2_with (go_at_call 64; refine cI.mono ?_; rintro e w1 ⟨rfl, hb1⟩)
    go_ret
    exact ⟨ret_bool (by simp), hb1⟩
  · go_enter Try.func35, Try.ntmps35
    go_wp2_with (go_at_call 64; refine cI.mono ?_; rintro e w1 ⟨rfl, hb1⟩)
    go_ret
    exact ⟨rfl, hb1⟩
set_option maxHeartbeats 8000000 in
theorem refDisk_any (P Q : Option Addr) (cp cq : Nat) (l : List ByteArray) (m : List Wr) (w : World) (hP : LiesP w P l) (hQ : LiesW w Q m) (hn : l.length ≤ 9223372036854775807) (hm : m.length ≤ 9223372036854775807) :
    Calls Try.prog 17 #[.agg #[.slice P l.length cp, .slice Q m.length cq]] w fun e w' => e = .returned (.int .i64 (dkErr l m)) ∧ Calm w w' := by
  have hx := heap_new w (.cells #[.slice P l.length cp, .slice Q m.length cq] 25)
  have hu := (Calm.refl w).alloc (.cells #[.slice P l.length cp, .slice Q m.length cq] 25)
  obtain ⟨x0, x1, hxs⟩ := rowD hx
  by_cases hz : 201 < l.length ∨ 400 < m.length
  · have hr : dkErr l m = 2 := by unfold dkErr; rw [if_pos hz]
    rw [hr]
    clear hP hQ hr
    go_enter Try.func17, Try.ntmps17
    rcases hz with hz | hz
    · go_wp2_with fail
      go_ret
      exact ⟨rfl, hu⟩
    · by_cases h1 : 201 < l.length
      · go_wp2_with fail
        go_ret
        exact ⟨rfl, hu⟩
      · go_wp2_with fail
        go_ret
        exact ⟨rfl, hu⟩
  have HR := Lib.hid (show dkErr l m = if l.any (fun s => decide (3500 < s.size)) = true then 2 else wrsE l.length m by unfold dkErr; rw [if_neg hz])
  have cL := fun u (hu : Calm w u) => hasL_any P cp l u hn (hP.calm hu)
  generalize dkErr l m = r at HR ⊢
  generalize (l.any fun s => decide (3500 < s.size)) = R at HR cL
  have HX := Lib.hid hx
  have HQ := Lib.hid hQ
  have hl1 : l.length ≤ 201 := by omega
  have hm1 : m.length ≤ 400 := by omega
  clear hP hQ hz hn hm
  cases R
  rotate_left
  · have HR2 := Lib.hid (show r = 2 from HR.out.trans (if_pos rfl))
    clear HR
    go_enter Try.func17, Try.ntmps17
    go_wp2_with (go_at_call 35; (with_reducible refine (cL _ hu).mono ?_); rintro e w1 ⟨rfl, hb1⟩)
    go_ret
    exact ⟨by rw [HR2.out]; rfl, hu.call hb1⟩
  have HR2 := Lib.hid (show r = wrsE l.length m from HR.out.trans (if_neg (by simp)))
  clear HR
  go_enter Try.func17, Try.ntmps17
  go_wp2_with (go_at_call 35; (with_reducible refine (cL _ hu).mono ?_); rintro e w1 ⟨rfl, hb1⟩; replace hx := (hb1.block hxs).trans hx; replace hu := hu.call hb1; clear hb1; obtain ⟨x0, x1, hxs⟩ := rowD hx)
  have HX2 := Lib.hid hx
  go_loopw [21, 4] (fun i _ wr => ∃ k : Nat, k ≤ m.length ∧ i = .int .i64 k ∧ Calm w wr ∧ Calm w1 wr ∧ Hid (r = wrsE l.length (m.drop k))) (fun i _ _ => m.length - (intOf i).toNat)
  case atStart => exact ⟨0, Nat.zero_le _, rfl, hu, Calm.refl _, HR2⟩
  case round =>
    obtain ⟨k, hk, rfl, hv, hv1, hN⟩ := hrel
    by_cases hlt : k < m.length
    · obtain ⟨b, q, i, s, rfl, hb, HE, c0, c1⟩ := (HQ.out.calm hv).get hlt
      replace hx := (hv1.block (rowD HX2.out).2.2).trans HX2.out
      obtain ⟨x0, x1, hxs⟩ := rowD hx
      have HN2 := Lib.hid (hN.out.trans (wrsE_drop HE.out))
      have hUW : wrE l.length ⟨i, s⟩ = if i < 0 ∨ (l.length : Int) ≤ i then 1 else if 3500 < s.size then 2 else 0 := rfl
      by_cases h1 : i < 0 ∨ (l.length : Int) ≤ i
      · have HN3 := Lib.hid (show r = 1 by rw [HN2.out, hUW, if_pos h1]; exact if_neg (by decide))
        clear hUW HN2 hN
        by_cases h0 : i < 0
        · go_wp2_with fail
          go_ret
          exact ⟨by rw [HN3.out]; rfl, hv.alloc _⟩
        · have h2 : (l.length : Int) ≤ i := by omega
          clear h1
          go_wp2_with fail
          go_ret
          exact ⟨by rw [HN3.out]; rfl, hv.alloc _⟩
      by_cases h3 : 3500 < s.size
      · have HN3 := Lib.hid (show r = 2 by rw [HN2.out, hUW, if_neg h1, if_pos h3]; exact if_neg (by decide))
        have h4 : ¬ i < 0 := by omega
        have h5 : ¬ (l.length : Int) ≤ i := by omega
        clear hUW HN2 hN h1
        go_wp2_with fail
        go_ret
        exact ⟨by rw [HN3.out]; rfl, hv.alloc _⟩
      · have HN3 := Lib.hid (show r = wrsE l.length (m.drop (k + 1)) by rw [HN2.out, hUW, if_neg h1, if_neg h3]; rfl)
        have h4 : ¬ i < 0 := by omega
        have h5 : ¬ (l.length : Int) ≤ i := by omega
        clear hUW HN2 hN h1
        go_wp2_with fail
        go_roundw
        case rel => exact ⟨k + 1, by omega, by go_num, hv.alloc _, hv1.alloc _, HN3⟩
        case measure => simp [intOf]; omega
    have HR3 := Lib.hid (show r = 0 by rw [hN.out, List.drop_eq_nil_of_le (by omega)]; rfl)
    clear hN
    go_wp2_with fail
    go_ret
    exact ⟨by rw [HR3.out]; rfl, hv⟩
set_option maxHeartbeats 8000000 in
theorem sameDisk_any (P Q P' Q' : Option Addr) (cp cq cp' cq' : Nat) (l l' : List ByteArray) (m m' : List Wr) (w : World) (hP : LiesP w P l) (hQ : LiesW w Q m) (hP' : LiesP w P' l') (hQ' : LiesW w Q' m') (hn : l.length ≤ 9223372036854775807) (hm : m.length ≤ 9223372036854775807) :
    Calls Try.prog 19 #[.agg #[.slice P l.length cp, .slice Q m.length cq], .agg #[.slice P' l'.length cp', .slice Q' m'.length cq']] w fun e w' => e = .returned (.bool (decide (l = l') && decide (m = m'))) ∧ Calm w w' := by
  have hx := heap_past (.cells #[.slice P' l'.length cp', .slice Q' m'.length cq'] 25) (heap_new w (.cells #[.slice P l.length cp, .slice Q m.length cq] 25))
  have hy := heap_new (w.alloc (.cells #[.slice P l.length cp, .slice Q m.length cq] 25)) (.cells #[.slice P' l'.length cp', .slice Q' m'.length cq'] 25)
  rw [World.size_alloc] at hy
  have hu := ((Calm.refl w).alloc (.cells #[.slice P l.length cp, .slice Q m.length cq] 25)).alloc (.cells #[.slice P' l'.length cp', .slice Q' m'.length cq'] 25)
  have cE := fun u (hu : Calm w u) => equalP_any P P' cp cp' l l' u hn (hP.calm hu) (hP'.calm hu)
  have cF := fun u (hu : Calm w u) => equalW_any Q Q' cq cq' m m' u hm (hQ.calm hu) (hQ'.calm hu)
  obtain ⟨x0, x1, hxs⟩ := rowD hx
  obtain ⟨y0, y1, hys⟩ := rowD hy
  generalize decide (l = l') = a at cE ⊢
  generalize decide (m = m') = b at cF ⊢
  clear hP hQ hP' hQ'
  cases a
  · go_enter Try.func19, Try.ntmps19
    go_wp2_with (go_at_call 30; (with_reducible refine (cE _ hu).mono ?_); rintro e w1 ⟨rfl, hb1⟩; replace hx := (hb1.block hxs).trans hx; replace hy := (hb1.block hys).trans hy; replace hu := hu.call hb1; clear hb1; obtain ⟨x0, x1, hxs⟩ := rowD hx; obtain ⟨y0, y1, hys⟩ := rowD hy)
    go_ret
    exact ⟨rfl, hu⟩
  · go_enter Try.func19, Try.ntmps19
    go_wp2_with first
      | (go_at_call 30; (with_reducible refine (cE _ hu).mono ?_); rintro e w1 ⟨rfl, hb1⟩; replace hx := (hb1.block hxs).trans hx; replace hy := (hb1.block hys).trans hy; replace hu := hu.call hb1; clear hb1; obtain ⟨x0, x1, hxs⟩ := rowD hx; obtain ⟨y0, y1, hys⟩ := rowD hy)
      | (go_at_call 48; (with_reducible refine (cF _ hu).mono ?_); rintro e w2 ⟨rfl, hb1⟩; replace hu := hu.call hb1; clear hb1)
    go_ret
    exact ⟨rfl, hu⟩
theorem sameDisk_self (P Q P' Q' : Option Addr) (cp cq cp' cq' : Nat) (l : List ByteArray) (m : List Wr) (w : World) (hP : LiesP w P l) (hQ : LiesW w Q m) (hP' : LiesP w P' l) (hQ' : LiesW w Q' m) (hn : l.length ≤ 9223372036854775807) (hm : m.length ≤ 9223372036854775807) :
    Calls Try.prog 19 #[.agg #[.slice P l.length cp, .slice Q m.length cq], .agg #[.slice P' l.length cp', .slice Q' m.length cq']] w fun e w' => e = .returned (.bool true) ∧ Calm w w' := by
  have := sameDisk_any P Q P' Q' cp cq cp' cq' l l m m w hP hQ hP' hQ' hn hm
  simpa using this
open Go.RowKit
theorem results_dk {fn : Func} {p : Tmp} (h : fn.results = #[.cell p 25]) (tmps : Array Value) (w : World) (g : Nat) (t : TypeId) (cs : Array Value) (fr : Nat × Nat)
    (hp : tmps.getD p undef = .pointer (some ⟨g, 0, none⟩)) (hg : w.heap[g]? = some (.cells cs t fr)) (hsz : cs.size = 2) : (results fn tmps).run Try.prog w = .ok (.agg cs) w := by
  have hp' : tmps[p]?.getD undef = .pointer (some ⟨g, 0, none⟩) := by simpa using hp
  have hi : (Try.prog.info? 25).map (·.size) = some cs.size := by rw [hsz]; kernel_rfl
  simp [results, h, hp', asAddr, run_loadVar_row w g t 25 cs fr _ hg Try.underlying25 rfl hi]
theorem end_dk {P : Program} {fn : Func} {p : Tmp} {Q : Ending → World → Prop} (hP : P = Try.prog) (h : fn.results = #[.cell p 25]) (a : Act) (w : World) (g : Nat) (t : TypeId) (cs : Array Value) (fr : Nat × Nat) (hd : a.defers = [])
    (hp : a.tmps.getD p undef = .pointer (some ⟨g, 0, none⟩)) (hg : w.heap[g]? = some (.cells cs t fr)) (hsz : cs.size = 2) (hQ : Q (.returned (.agg cs)) w) : bodyPost P fn Q .ret a w := by
  subst hP
  exact bodyPost_ret (v := .agg cs) (results_dk h a.tmps w g t cs fr hp hg hsz) hd hQ
def DoneEnd (l : List ByteArray) (m : List Wr) (f : Nat → Bool) (w : World) (e : Ending) (w' : World) : Prop := ∃ A c, e = .returned (.agg #[.slice A l.length c, .slice none 0 0]) ∧ OwnP w.heap.size w' (.slice A l.length c) (doneL f 0 m l) ∧ Calm w w'
theorem synced1_any (k : Nat) (w : World) : Calls Try.prog 49 #[.int .i64 k] w fun e w' => e = .returned (.bool true) ∧ Calm w w' := by
 go_enter Try.func49, Try.ntmps49
 go_wp2_with fail
 go_ret
 exact ⟨rfl, Calm.refl _⟩
set_option maxHeartbeats 4000000 in
theorem law1_any (B : Nat) (A : Option Addr) (c : Nat) (K : List Bool) (k : Nat) (w : World) (hB : KBx B A K.length c w) (hK : LiesO w A K) :
    Calls Try.prog 22 #[.int .i64 k, .pointer (some ⟨B, 0, none⟩)] w fun e w' => e = .returned (.bool (selK K k)) ∧ Calm w w' := by
  obtain ⟨x0, hxs⟩ := row1 hB
  by_cases hk : k < K.length
  · obtain ⟨b, q, s, rfl, hb, HE, c0⟩ := hK.get hk
    have hs : selK K k = s := by unfold selK; rw [decide_eq_true hk, List.getD_eq_getElem?_getD, HE.out]; rfl
    have hz : (k : Int) < (K.length : Int) := by omega
    rw [hs]
    clear hs hK hB
    go_enter Try.func22, Try.ntmps22
    go_wp2_with fail
    go_ret
    exact ⟨rfl, Calm.refl _⟩
  · have hs : selK K k = false := by unfold selK; rw [decide_eq_false hk]; rfl
    have hz : ¬ (k : Int) < (K.length : Int) := by omega
    rw [hs]
    clear hs hK hB
    go_enter Try.func22, Try.ntmps22
    go_wp2_with fail
    go_ret
    exact ⟨rfl, Calm.refl _⟩
set_option maxHeartbeats 8000000 in
theorem doneSync_any (P Q : Option Addr) (cp cq : Nat) (l : List ByteArray) (m : List Wr) (w : World) (hP : LiesP w P l) (hQ : LiesW w Q m) (hz : dkErr l m = 0) :
    Calls Try.prog 21 #[.agg #[.slice P l.length cp, .slice Q m.length cq], .func (.func 49) #[] #[]] w (DoneEnd l m (fun _ => true) w) := by
  have hx := heap_past (.cells #[.slice none 0 0, .slice none 0 0] 25) (heap_new w (.cells #[.slice P l.length cp, .slice Q m.length cq] 25))
  have hr := heap_new (w.alloc (.cells #[.slice P l.length cp, .slice Q m.length cq] 25)) (.cells #[.slice none 0 0, .slice none 0 0] 25)
  rw [World.size_alloc] at hr
  have hu := ((Calm.refl w).alloc (.cells #[.slice P l.length cp, .slice Q m.length cq] 25)).alloc (.cells #[.slice none 0 0, .slice none 0 0] 25)
  have cF : ∀ (k : Nat) u, Calm w u → Calls Try.prog 49 #[.int .i64 k] u fun e w' => e = .returned (.bool ((fun _ => true) k)) ∧ Calm u w' := fun k u _ => synced1_any k u
  obtain ⟨x0, x1, hxs⟩ := rowD hx
  obtain ⟨r0, r1, hrs⟩ := rowD hr
  have HE : Hid (∀ w' A c, OwnP w.heap.size w' (.slice A l.length c) (doneL (fun _ => true) 0 m l) → Calm w w' → DoneEnd l m (fun _ => true) w (.returned (.agg #[.slice A l.length c, .slice none 0 0])) w') := show ∀ _, _ from fun w' A c h1 hw => ⟨A, c, rfl, h1, hw⟩
  generalize DoneEnd l m (fun _ => true) w = PE at HE ⊢
  obtain ⟨h6, h5, -, hWS⟩ := dkErr_zero.1 hz
  have HWS := Lib.hid hWS
  have cP := fun u (hu : Calm w u) => cloneP_any P cp l u (by omega) (hP.calm hu)
  have HQ := Lib.hid hQ
  clear hz hP hQ hWS
  go_enter Try.func21, Try.ntmps21
  generalize hQ0 : bodyPost Try.prog Try.f21 PE = Q0
  have HRET : Hid (∀ a w', bodyPost Try.prog Try.f21 PE .ret a w' → Q0 .ret a w') := show ∀ _ _, _ from fun a w' h => by rw [← hQ0]; exact h
  clear hQ0
  go_upto_region 2 with
    (go_at_call 39; (with_reducible refine (cP _ hu).mono ?_); rintro e w4 ⟨v4, rfl, ho4, hb1⟩; have hsz4 := hb1.size; replace hx := (hb1.block hxs).trans hx; replace hr := (hb1.block hrs).trans hr; replace hu := hu.call hb1; obtain ⟨x0, x1, hxs⟩ := rowD hx; obtain ⟨A4, c4, rfl, hc4, -⟩ := ho4.slice; clear cP hb1)
  rw [World.size_alloc, World.size_alloc] at ho4 hsz4
  have hO := heap_new w4 (.cells #[.slice A4 l.length c4, .slice none 0 0] 25)
  replace hx := heap_past (.cells #[.slice A4 l.length c4, .slice none 0 0] 25) hx
  replace hr := heap_past (.cells #[.slice A4 l.length c4, .slice none 0 0] 25) hr
  replace hu := hu.alloc (.cells #[.slice A4 l.length c4, .slice none 0 0] 25)
  have hOl : ∀ g, Value.ownBlock (.slice A4 l.length c4) = some g → g < w4.heap.size := fun g hg => (ho4.lt g hg).2
  replace ho4 := ho4.calm ((Calm.refl _).alloc (.cells #[.slice A4 l.length c4, .slice none 0 0] 25))
  generalize w4.heap.size = O4 at hO hOl hsz4 ⊢
  generalize w4.alloc (.cells #[.slice A4 l.length c4, .slice none 0 0] 25) = w5 at hO hx hr hu ho4 ⊢
  have HO := Lib.hid ho4
  have HOl := Lib.hid hOl
  clear ho4 r0 r1 hrs x0 x1 hxs hOl
  obtain ⟨x0, x1, hxs⟩ := rowD hx
  go_wp2_with fail
  go_loopw [15, 6, 7] (fun i _ _ wr => ∃ k : Nat, k ≤ m.length ∧ i = .int .i64 k ∧ Calm w wr ∧ Hid (OwnP (w.heap.size + 1 + 1) wr (.slice A4 l.length c4) (doneL (fun _ => true) 0 (m.take k) l)) ∧ wr.heap[w.heap.size + 1]? = some (.cells #[.slice none 0 0, .slice none 0 0] 25 (0, 0)) ∧ wr.heap[O4]? = some (.cells #[.slice A4 l.length c4, .slice none 0 0] 25 (0, 0))) (fun i _ _ _ => m.length - (intOf i).toNat)
  case atStart => exact ⟨0, Nat.zero_le _, rfl, hu, HO, hr, hO⟩
  case round =>
    obtain ⟨k, hk, rfl, hv, HOk, hr, hO⟩ := hrel
    obtain ⟨o0, o1, hos⟩ := rowD hO
    by_cases hlt : k < m.length
    rotate_left
    · have hkl : m.take k = m := List.take_of_length_le (by omega)
      rw [hkl] at HOk
      have HO8 := HOk
      obtain ⟨r0, r1, hrs⟩ := rowD hr
      obtain ⟨f0, f1⟩ := freeD2 hr
      clear HOk hkl
      go_wp2_with fail
      have hr9 := setD2 hr (.slice A4 l.length c4) (.slice none 0 0)
      have hu9 := hv.twoD (g := w.heap.size + 1) (by omega) (.slice A4 l.length c4) (.slice none 0 0)
      exact HRET.out _ _ (end_dk (p := 4) rfl rfl _ _ _ _ _ _ rfl rfl hr9 rfl (HE.out _ A4 c4 (OwnG.weaken (rowsG_set (rowsG_set HO8.out (Nat.lt_succ_self _) 0 (.slice A4 l.length c4)) (Nat.lt_succ_self _) 1 (.slice none 0 0)) (by omega)) hu9))
    obtain ⟨b, q, i, s, rfl, hb, HEw, c0, c1⟩ := (HQ.out.calm hv).get hlt
    have hW := wrE_zero.1 (HWS.out _ (List.mem_of_getElem? HEw.out))
    obtain ⟨p, rfl⟩ : ∃ p : Nat, i = (p : Int) := ⟨i.toNat, by have := hW.1; simp only at this; omega⟩
    have hpl : p < l.length := by have := hW.2.1; simp only at this; omega
    have hdl := doneL_len (fun _ => true) (m.take k) 0 l
    obtain ⟨bk, hbk⟩ : ∃ bk : Bool, bk = (fun _ => true) k := ⟨_, rfl⟩
    have HT := Lib.hid (show doneL (fun _ => true) 0 (m.take (k + 1)) l = if bk = true then (doneL (fun _ => true) 0 (m.take k) l).set p s else doneL (fun _ => true) 0 (m.take k) l by rw [hbk]; exact doneL_take (f := (fun _ => true)) (ps := l) HEw.out)
    have cFk : ∀ u, Calm w u → Calls Try.prog 49 #[.int .i64 k] u fun e w' => e = .returned (.bool bk) ∧ Calm u w' := fun u hu => by rw [hbk]; exact cF k u hu
    have hak := (hv.alloc (.cells #[.int .i64 (p : Int), .string s] 41))
    have hyk := heap_new wr (.cells #[.int .i64 (p : Int), .string s] 41)
    have HO1 := Lib.hid (OwnP.calm HOk.out ((Calm.refl wr).alloc (.cells #[.int .i64 (p : Int), .string s] 41)))
    have hr1 := heap_past (.cells #[.int .i64 (p : Int), .string s] 41) hr
    have hO1 := heap_past (.cells #[.int .i64 (p : Int), .string s] 41) hO
    clear hr HOk hW hbk HEw hO o0 o1 hos
    generalize doneL (fun _ => true) 0 (m.take k) l = L at HO1 HT hdl
    obtain ⟨g4, cap4, hA4⟩ := OwnG.some_ HO1.out (by omega)
    obtain rfl : A4 = some ⟨g4, 0, none⟩ := by injection hA4
    have hg4 := (HO1.out.lt g4 rfl).1
    have hg5 := HOl.out g4 rfl
    clear hA4 cap4
    cases bk
    · have HT := Lib.hid (HT.out.trans (if_neg (by simp)))
      go_wp2_with (go_at_call 49; (with_reducible refine (cFk _ hak).mono ?_); rintro e w9 ⟨rfl, hb9⟩)
      go_roundw
      case rel => exact ⟨k + 1, by omega, by go_num, hak.call hb9, by rw [HT.out]; exact HO1.out.calm hb9, (hb9.block (rowD hr1).2.2).trans hr1, (hb9.block (rowD hO1).2.2).trans hO1⟩
      case measure => simp [intOf]; omega
    · have HT := Lib.hid (HT.out.trans (if_pos rfl))
      go_wp2_with (go_at_call 49; (with_reducible refine (cFk _ hak).mono ?_); rintro e w9 ⟨rfl, hb9⟩; have hyk2 := (hb9.block (rowD hyk).2.2).trans hyk; obtain ⟨y0, y1, hys⟩ := rowD hyk2; have hO2 := (hb9.block (rowD hO1).2.2).trans hO1; obtain ⟨o0, o1, hos⟩ := rowD hO2; have HO9 := Lib.hid (HO1.out.calm hb9); have hcell : w9.cell? ⟨g4, p, none⟩ = some (.string (L[p]'(by omega))) := (by have := (OwnG.cell stC_len HO9.out (show p < L.length by omega)).1 0 (by omega); rw [Nat.mul_one, Nat.add_zero] at this; exact this); have hfz := OwnG.frozen HO9.out p; have hpz : (p : Int) < (l.length : Int) := by omega)
      have HO10 : OwnP (w.heap.size + 1 + 1) (w9.setCell ⟨g4, p, none⟩ (.string s)) (.slice (some ⟨g4, 0, none⟩) l.length c4) (L.set p s) := by
        have := OwnG.set stC_len (i := p) (j := 0) (u := .string s) (x := s) HO9.out (by omega) (by omega) rfl
        rw [Nat.mul_one, Nat.add_zero] at this
        exact this
      go_roundw
      case rel => exact ⟨k + 1, by omega, by go_num, (hak.call hb9).setCell (p := ⟨g4, p, none⟩) (show w.heap.size ≤ g4 by omega) _, by rw [HT.out]; exact HO10, (heap_setCell_other _ _ _ _ (by show w.heap.size + 1 ≠ g4; omega)).trans ((hb9.block (rowD hr1).2.2).trans hr1), (heap_setCell_other _ _ _ _ (by show O4 ≠ g4; omega)).trans hO2⟩
      case measure => simp [intOf]; omega
set_option maxHeartbeats 4000000 in
theorem synced_any (P Q : Option Addr) (cp cq : Nat) (l : List ByteArray) (m : List Wr) (w : World) (hP : LiesP w P l) (hQ : LiesW w Q m) (hz : dkErr l m = 0) :
    Calls Try.prog 20 #[.agg #[.slice P l.length cp, .slice Q m.length cq]] w (DoneEnd l m (fun _ => true) w) := by
  have hx := heap_past (.cells #[.slice none 0 0, .slice none 0 0] 25) (heap_new w (.cells #[.slice P l.length cp, .slice Q m.length cq] 25))
  have hr := heap_new (w.alloc (.cells #[.slice P l.length cp, .slice Q m.length cq] 25)) (.cells #[.slice none 0 0, .slice none 0 0] 25)
  rw [World.size_alloc] at hr
  have hu := ((Calm.refl w).alloc (.cells #[.slice P l.length cp, .slice Q m.length cq] 25)).alloc (.cells #[.slice none 0 0, .slice none 0 0] 25)
  have cD := fun u (hu : Calm w u) => doneSync_any P Q cp cq l m u (hP.calm hu) (hQ.calm hu) hz
  unfold DoneEnd at cD
  have HE : Hid (∀ w' A c, OwnP w.heap.size w' (.slice A l.length c) (doneL (fun _ => true) 0 m l) → Calm w w' → DoneEnd l m (fun _ => true) w (.returned (.agg #[.slice A l.length c, .slice none 0 0])) w') := show ∀ _, _ from fun w' A c h1 hw => ⟨A, c, rfl, h1, hw⟩
  generalize DoneEnd l m (fun _ => true) w = PE at HE ⊢
  generalize doneL (fun _ => true) 0 m l = L at HE cD
  obtain ⟨x0, x1, hxs⟩ := rowD hx
  obtain ⟨r0, r1, hrs⟩ := rowD hr
  obtain ⟨f0, f1⟩ := freeD2 hr
  clear hP hQ hz
  go_enter Try.func20, Try.ntmps20
  generalize hQ0 : bodyPost Try.prog Try.f20 PE = Q0
  have HRET : Hid (∀ a w', bodyPost Try.prog Try.f20 PE .ret a w' → Q0 .ret a w') := show ∀ _ _, _ from fun a w' h => by rw [← hQ0]; exact h
  clear hQ0
  go_wp2_with (go_at_call 21; (with_reducible refine (cD _ hu).mono ?_); rintro e w1 ⟨A9, c9, rfl, ho9, hb1⟩; have HO9 := Lib.hid ho9; clear ho9; replace hr := (hb1.block hrs).trans hr; replace hu := hu.call hb1; have hs1 := hrs; clear hb1 r0 r1 hrs f0 f1 x0 x1 hxs; obtain ⟨r0, r1, hrs⟩ := rowD hr; obtain ⟨f0, f1⟩ := freeD2 hr)
  have hr9 := setD2 hr (.slice A9 l.length c9) (.slice none 0 0)
  have hu9 := hu.twoD (g := w.heap.size + 1) (by omega) (.slice A9 l.length c9) (.slice none 0 0)
  exact HRET.out _ _ (end_dk (p := 2) rfl rfl _ _ _ _ _ _ rfl rfl hr9 rfl (HE.out _ A9 c9 (OwnG.weaken (rowsG_set (rowsG_set HO9.out hs1 0 (.slice A9 l.length c9)) hs1 1 (.slice none 0 0)) (by omega)) hu9))
set_option maxHeartbeats 8000000 in
theorem doneCrash_any (P Q : Option Addr) (cp cq : Nat) (l : List ByteArray) (m : List Wr) (B : Nat) (AK : Option Addr) (cK : Nat) (K : List Bool) (w : World) (hP : LiesP w P l) (hQ : LiesW w Q m) (hz : dkErr l m = 0) (hB : KBx B AK K.length cK w) (hK : LiesO w AK K) :
    Calls Try.prog 21 #[.agg #[.slice P l.length cp, .slice Q m.length cq], .func (.func 22) #[] #[.pointer (some ⟨B, 0, none⟩)]] w (DoneEnd l m (selK K) w) := by
  have hx := heap_past (.cells #[.slice none 0 0, .slice none 0 0] 25) (heap_new w (.cells #[.slice P l.length cp, .slice Q m.length cq] 25))
  have hr := heap_new (w.alloc (.cells #[.slice P l.length cp, .slice Q m.length cq] 25)) (.cells #[.slice none 0 0, .slice none 0 0] 25)
  rw [World.size_alloc] at hr
  have hu := ((Calm.refl w).alloc (.cells #[.slice P l.length cp, .slice Q m.length cq] 25)).alloc (.cells #[.slice none 0 0, .slice none 0 0] 25)
  have cF : ∀ (k : Nat) u, Calm w u → Calls Try.prog 22 #[.int .i64 k, .pointer (some ⟨B, 0, none⟩)] u fun e w' => e = .returned (.bool (selK K k)) ∧ Calm u w' := fun k u hu => law1_any B AK cK K k u (hB.calm hu) (hK.calm hu)
  clear hB hK
  obtain ⟨x0, x1, hxs⟩ := rowD hx
  obtain ⟨r0, r1, hrs⟩ := rowD hr
  have HE : Hid (∀ w' A c, OwnP w.heap.size w' (.slice A l.length c) (doneL (selK K) 0 m l) → Calm w w' → DoneEnd l m (selK K) w (.returned (.agg #[.slice A l.length c, .slice none 0 0])) w') := show ∀ _, _ from fun w' A c h1 hw => ⟨A, c, rfl, h1, hw⟩
  generalize DoneEnd l m (selK K) w = PE at HE ⊢
  obtain ⟨h6, h5, -, hWS⟩ := dkErr_zero.1 hz
  have HWS := Lib.hid hWS
  have cP := fun u (hu : Calm w u) => cloneP_any P cp l u (by omega) (hP.calm hu)
  have HQ := Lib.hid hQ
  clear hz hP hQ hWS
  go_enter Try.func21, Try.ntmps21
  generalize hQ0 : bodyPost Try.prog Try.f21 PE = Q0
  have HRET : Hid (∀ a w', bodyPost Try.prog Try.f21 PE .ret a w' → Q0 .ret a w') := show ∀ _ _, _ from fun a w' h => by rw [← hQ0]; exact h
  clear hQ0
  go_upto_region 2 with
    (go_at_call 39; (with_reducible refine (cP _ hu).mono ?_); rintro e w4 ⟨v4, rfl, ho4, hb1⟩; have hsz4 := hb1.size; replace hx := (hb1.block hxs).trans hx; replace hr := (hb1.block hrs).trans hr; replace hu := hu.call hb1; obtain ⟨x0, x1, hxs⟩ := rowD hx; obtain ⟨A4, c4, rfl, hc4, -⟩ := ho4.slice; clear cP hb1)
  rw [World.size_alloc, World.size_alloc] at ho4 hsz4
  have hO := heap_new w4 (.cells #[.slice A4 l.length c4, .slice none 0 0] 25)
  replace hx := heap_past (.cells #[.slice A4 l.length c4, .slice none 0 0] 25) hx
  replace hr := heap_past (.cells #[.slice A4 l.length c4, .slice none 0 0] 25) hr
  replace hu := hu.alloc (.cells #[.slice A4 l.length c4, .slice none 0 0] 25)
  have hOl : ∀ g, Value.ownBlock (.slice A4 l.length c4) = some g → g < w4.heap.size := fun g hg => (ho4.lt g hg).2
  replace ho4 := ho4.calm ((Calm.refl _).alloc (.cells #[.slice A4 l.length c4, .slice none 0 0] 25))
  generalize w4.heap.size = O4 at hO hOl hsz4 ⊢
  generalize w4.alloc (.cells #[.slice A4 l.length c4, .slice none 0 0] 25) = w5 at hO hx hr hu ho4 ⊢
  have HO := Lib.hid ho4
  have HOl := Lib.hid hOl
  clear ho4 r0 r1 hrs x0 x1 hxs hOl
  obtain ⟨x0, x1, hxs⟩ := rowD hx
  go_wp2_with fail
  go_loopw [15, 6, 7] (fun i _ _ wr => ∃ k : Nat, k ≤ m.length ∧ i = .int .i64 k ∧ Calm w wr ∧ Hid (OwnP (w.heap.size + 1 + 1) wr (.slice A4 l.length c4) (doneL (selK K) 0 (m.take k) l)) ∧ wr.heap[w.heap.size + 1]? = some (.cells #[.slice none 0 0, .slice none 0 0] 25 (0, 0)) ∧ wr.heap[O4]? = some (.cells #[.slice A4 l.length c4, .slice none 0 0] 25 (0, 0))) (fun i _ _ _ => m.length - (intOf i).toNat)
  case atStart => exact ⟨0, Nat.zero_le _, rfl, hu, HO, hr, hO⟩
  case round =>
    obtain ⟨k, hk, rfl, hv, HOk, hr, hO⟩ := hrel
    obtain ⟨o0, o1, hos⟩ := rowD hO
    by_cases hlt : k < m.length
    rotate_left
    · have hkl : m.take k = m := List.take_of_length_le (by omega)
      rw [hkl] at HOk
      have HO8 := HOk
      obtain ⟨r0, r1, hrs⟩ := rowD hr
      obtain ⟨f0, f1⟩ := freeD2 hr
      clear HOk hkl
      go_wp2_with fail
      have hr9 := setD2 hr (.slice A4 l.length c4) (.slice none 0 0)
      have hu9 := hv.twoD (g := w.heap.size + 1) (by omega) (.slice A4 l.length c4) (.slice none 0 0)
      exact HRET.out _ _ (end_dk (p := 4) rfl rfl _ _ _ _ _ _ rfl rfl hr9 rfl (HE.out _ A4 c4 (OwnG.weaken (rowsG_set (rowsG_set HO8.out (Nat.lt_succ_self _) 0 (.slice A4 l.length c4)) (Nat.lt_succ_self _) 1 (.slice none 0 0)) (by omega)) hu9))
    obtain ⟨b, q, i, s, rfl, hb, HEw, c0, c1⟩ := (HQ.out.calm hv).get hlt
    have hW := wrE_zero.1 (HWS.out _ (List.mem_of_getElem? HEw.out))
    obtain ⟨p, rfl⟩ : ∃ p : Nat, i = (p : Int) := ⟨i.toNat, by have := hW.1; simp only at this; omega⟩
    have hpl : p < l.length := by have := hW.2.1; simp only at this; omega
    have hdl := doneL_len (selK K) (m.take k) 0 l
    obtain ⟨bk, hbk⟩ : ∃ bk : Bool, bk = (selK K) k := ⟨_, rfl⟩
    have HT := Lib.hid (show doneL (selK K) 0 (m.take (k + 1)) l = if bk = true then (doneL (selK K) 0 (m.take k) l).set p s else doneL (selK K) 0 (m.take k) l by rw [hbk]; exact doneL_take (f := (selK K)) (ps := l) HEw.out)
    have cFk : ∀ u, Calm w u → Calls Try.prog 22 #[.int .i64 k, .pointer (some ⟨B, 0, none⟩)] u fun e w' => e = .returned (.bool bk) ∧ Calm u w' := fun u hu => by rw [hbk]; exact cF k u hu
    have hak := (hv.alloc (.cells #[.int .i64 (p : Int), .string s] 41))
    have hyk := heap_new wr (.cells #[.int .i64 (p : Int), .string s] 41)
    have HO1 := Lib.hid (OwnP.calm HOk.out ((Calm.refl wr).alloc (.cells #[.int .i64 (p : Int), .string s] 41)))
    have hr1 := heap_past (.cells #[.int .i64 (p : Int), .string s] 41) hr
    have hO1 := heap_past (.cells #[.int .i64 (p : Int), .string s] 41) hO
    clear hr HOk hW hbk HEw hO o0 o1 hos
    generalize doneL (selK K) 0 (m.take k) l = L at HO1 HT hdl
    obtain ⟨g4, cap4, hA4⟩ := OwnG.some_ HO1.out (by omega)
    obtain rfl : A4 = some ⟨g4, 0, none⟩ := by injection hA4
    have hg4 := (HO1.out.lt g4 rfl).1
    have hg5 := HOl.out g4 rfl
    clear hA4 cap4
    cases bk
    · have HT := Lib.hid (HT.out.trans (if_neg (by simp)))
      go_wp2_with (go_at_call 22; (with_reducible refine (cFk _ hak).mono ?_); rintro e w9 ⟨rfl, hb9⟩)
      go_roundw
      case rel => exact ⟨k + 1, by omega, by go_num, hak.call hb9, by rw [HT.out]; exact HO1.out.calm hb9, (hb9.block (rowD hr1).2.2).trans hr1, (hb9.block (rowD hO1).2.2).trans hO1⟩
      case measure => simp [intOf]; omega
    · have HT := Lib.hid (HT.out.trans (if_pos rfl))
      go_wp2_with (go_at_call 22; (with_reducible refine (cFk _ hak).mono ?_); rintro e w9 ⟨rfl, hb9⟩; have hyk2 := (hb9.block (rowD hyk).2.2).trans hyk; obtain ⟨y0, y1, hys⟩ := rowD hyk2; have hO2 := (hb9.block (rowD hO1).2.2).trans hO1; obtain ⟨o0, o1, hos⟩ := rowD hO2; have HO9 := Lib.hid (HO1.out.calm hb9); have hcell : w9.cell? ⟨g4, p, none⟩ = some (.string (L[p]'(by omega))) := (by have := (OwnG.cell stC_len HO9.out (show p < L.length by omega)).1 0 (by omega); rw [Nat.mul_one, Nat.add_zero] at this; exact this); have hfz := OwnG.frozen HO9.out p; have hpz : (p : Int) < (l.length : Int) := by omega)
      have HO10 : OwnP (w.heap.size + 1 + 1) (w9.setCell ⟨g4, p, none⟩ (.string s)) (.slice (some ⟨g4, 0, none⟩) l.length c4) (L.set p s) := by
        have := OwnG.set stC_len (i := p) (j := 0) (u := .string s) (x := s) HO9.out (by omega) (by omega) rfl
        rw [Nat.mul_one, Nat.add_zero] at this
        exact this
      go_roundw
      case rel => exact ⟨k + 1, by omega, by go_num, (hak.call hb9).setCell (p := ⟨g4, p, none⟩) (show w.heap.size ≤ g4 by omega) _, by rw [HT.out]; exact HO10, (heap_setCell_other _ _ _ _ (by show w.heap.size + 1 ≠ g4; omega)).trans ((hb9.block (rowD hr1).2.2).trans hr1), (heap_setCell_other _ _ _ _ (by show O4 ≠ g4; omega)).trans hO2⟩
      case measure => simp [intOf]; omega
open Go.RowKit
structure HasD (w : World) (P Q : Option Addr) (l : List ByteArray) (m : List Wr) : Prop where
 p : LiesP w P l
 q : LiesW w Q m
structure DkO (B : Nat) (w : World) (P Q : Option Addr) (cp cq : Nat) (l : List ByteArray) (m : List Wr) : Prop where
 p : OwnP B w (.slice P l.length cp) l
 q : OwnW B w (.slice Q m.length cq) m
section
variable {w w' : World} {P Q : Option Addr} {l : List ByteArray} {m : List Wr} {B cp cq : Nat}
theorem HasD.calm (h : HasD w P Q l m) (hb : Calm w w') : HasD w' P Q l m := ⟨h.p.calm hb, h.q.calm hb⟩
theorem DkO.has (h : DkO B w P Q cp cq l m) : HasD w P Q l m := ⟨(OwnP.at_ h.p).2, (OwnW.at_ h.q).2⟩
end
theorem dk_len {l : List ByteArray} {m : List Wr} (h : dkErr l m = 0) : l.length ≤ 9223372036854775807 ∧ m.length ≤ 9223372036854775807 := by
 have := dkErr_zero.1 h
 omega
def NoDisk (E : Int) (w : World) (e : Ending) (w' : World) : Prop := e = .returned (.tuple #[.agg #[.slice none 0 0, .slice none 0 0], .int .i64 E]) ∧ Calm w w'
def ADisk (l : List ByteArray) (m : List Wr) (w : World) (e : Ending) (w' : World) : Prop := ∃ P cp Q cq, e = .returned (.tuple #[.agg #[.slice P l.length cp, .slice Q m.length cq], .int .i64 0]) ∧ DkO w.heap.size w' P Q cp cq l m ∧ Calm w w'
section
variable {w : World} {P Q : Option Addr} {l : List ByteArray} {m : List Wr}
theorem HasD.put_bad (h : HasD w P Q l m) (cp cq : Nat) (hn : l.length ≤ 9223372036854775807) (hm : m.length ≤ 9223372036854775807) {i : Int} {s : ByteArray} {E : Int} (hE : ptE l m ⟨i, s⟩ = E) (h0 : E ≠ 0) : Calls Try.prog 14 #[.agg #[.slice P l.length cp, .slice Q m.length cq], .int .i64 i, .string s] w (NoDisk E w) :=
 (diskPut_bad P Q cp cq l m i s w h.p h.q hn hm (by rw [hE]; exact h0)).mono fun e w' he => by
  rcases he with ⟨-, h2, h3⟩ | ⟨h2, -⟩
  ·rw [hE] at h2; exact ⟨h2, h3⟩
  ·rw [hE] at h2; exact absurd h2 h0
theorem HasD.put_ok (h : HasD w P Q l m) (cp cq : Nat) {i : Int} {s : ByteArray} (hE : ptE l m ⟨i, s⟩ = 0) : Calls Try.prog 14 #[.agg #[.slice P l.length cp, .slice Q m.length cq], .int .i64 i, .string s] w (ADisk l (m ++ [⟨i, s⟩]) w) := by
 have hz : dkErr l m = 0 := by
  by_cases hz : dkErr l m = 0
  ·exact hz
  ·unfold ptE at hE; rw [if_neg hz] at hE; exact absurd hE hz
 have hn := dk_len hz
 refine (diskPut_ok P Q cp cq l m i s w h.p h.q hn.1 hn.2 hE).mono fun e w' he => ?_
 rcases he with ⟨h2, -⟩ | ⟨-, v, u, h2, h3, h4, h5⟩
 ·exact absurd hE h2
 ·obtain ⟨P', cp', rfl, -, -⟩ := h3.slice
  obtain ⟨Q', cq', rfl, -, -⟩ := h4.slice
  exact ⟨P', cp', Q', cq', h2, ⟨h3, h4⟩, h5⟩
theorem HasD.sync_bad (h : HasD w P Q l m) (cp cq : Nat) (hn : l.length ≤ 9223372036854775807) (hm : m.length ≤ 9223372036854775807) {E : Int} (hE : dkErr l m = E) (h0 : E ≠ 0) : Calls Try.prog 15 #[.agg #[.slice P l.length cp, .slice Q m.length cq]] w (NoDisk E w) :=
 (diskSync_any P Q cp cq l m w h.p h.q hn hm).mono fun e w' he => by
  rcases he with ⟨-, h2, h3⟩ | ⟨h2, -⟩
  ·rw [hE] at h2; exact ⟨h2, h3⟩
  ·rw [hE] at h2; exact absurd h2 h0
theorem HasD.crash_bad (h : HasD w P Q l m) (cp cq : Nat) (hn : l.length ≤ 9223372036854775807) (hm : m.length ≤ 9223372036854775807) {E : Int} (hE : dkErr l m = E) (h0 : E ≠ 0) (A : Option Addr) (c : Nat) (K : List Bool) (hK : LiesO w A K) : Calls Try.prog 16 #[.agg #[.slice P l.length cp, .slice Q m.length cq], .slice A K.length c] w (NoDisk E w) :=
 (diskCrash_any P Q cp cq l m A c K w h.p h.q hn hm hK).mono fun e w' he => by
  rcases he with ⟨-, h2, h3⟩ | ⟨h2, -⟩
  ·rw [hE] at h2; exact ⟨h2, h3⟩
  ·rw [hE] at h2; exact absurd h2 h0
theorem sameDisk_zero (w : World) : Calls Try.prog 19 #[.agg #[.slice none 0 0, .slice none 0 0], .agg #[.slice none 0 0, .slice none 0 0]] w fun e w' => e = .returned (.bool true) ∧ Calm w w' :=
 sameDisk_self none none none none 0 0 0 0 [] [] w LiesG.nil_ LiesG.nil_ LiesG.nil_ LiesG.nil_ (by simp) (by simp)
end
def ASync (L : List ByteArray) (n : Nat) (w : World) (e : Ending) (w' : World) : Prop := ∃ P cp, e = .returned (.tuple #[.agg #[.slice P n cp, .slice none 0 0], .int .i64 0]) ∧ OwnP w.heap.size w' (.slice P n cp) L ∧ Calm w w'
section
variable {w : World} {P Q : Option Addr} {l : List ByteArray} {m : List Wr}
theorem HasD.sync (h : HasD w P Q l m) (cp cq : Nat) (hz : dkErr l m = 0) : Calls Try.prog 15 #[.agg #[.slice P l.length cp, .slice Q m.length cq]] w (ASync (curP l m) l.length w) := by
 have hn := dk_len hz
 refine (diskSync_any P Q cp cq l m w h.p h.q hn.1 hn.2).mono fun e w' he => ?_
 rcases he with ⟨h2, -⟩ | ⟨-, v, h2, h3, h5⟩
 ·exact absurd hz h2
 ·obtain ⟨P', cp', rfl, -, -⟩ := OwnG.slice h3
  rw [doneL_len] at h2 h3
  exact ⟨P', cp', h2, h3, h5⟩
theorem HasD.crash (h : HasD w P Q l m) (cp cq : Nat) (hz : dkErr l m = 0) (A : Option Addr) (c : Nat) (K : List Bool) (hK : LiesO w A K) : Calls Try.prog 16 #[.agg #[.slice P l.length cp, .slice Q m.length cq], .slice A K.length c] w (ASync (doneL (selK K) 0 m l) l.length w) := by
 have hn := dk_len hz
 refine (diskCrash_any P Q cp cq l m A c K w h.p h.q hn.1 hn.2 hK).mono fun e w' he => ?_
 rcases he with ⟨h2, -⟩ | ⟨-, v, h2, h3, h5⟩
 ·exact absurd hz h2
 ·obtain ⟨P', cp', rfl, -, -⟩ := OwnG.slice h3
  rw [doneL_len] at h2 h3
  exact ⟨P', cp', h2, h3, h5⟩
end
open Go.RowKit
def FreeS (late : List Nat) (F : Nat → Value → World → Prop) (w1 : World) : Stages := fun bs Y u => Calm w1 u ∧ ∃ L : Nat → Bool, bs = late.map L ∧ ∀ i ∈ late, L i = true → F i (Y i) u
section
variable {late : List Nat} {F : Nat → Value → World → Prop} {w1 u u' : World} {Y : Nat → Value} {L : Nat → Bool}
theorem FreeS.stay (hF : ∀ i y u u', F i y u → Calm u u' → F i y u') : ∀ bs Y u u', FreeS late F w1 bs Y u → Calm u u' → FreeS late F w1 bs Y u' := fun _ _ _ _ ⟨h, L, e, hL⟩ hb => ⟨h.call hb, L, e, fun i hi hl => hF i _ _ _ (hL i hi hl) hb⟩
theorem FreeS.start (h : Calm w1 u) : FreeS late F w1 (late.map fun _ => false) Y u := ⟨h, _, rfl, fun _ _ h => by cases h⟩
theorem FreeS.get (h : FreeS late F w1 (late.map L) Y u) {i : Nat} (hi : i ∈ late) (hl : L i = true) : F i (Y i) u := by
 obtain ⟨-, M, e, hM⟩ := h
 have : L i = M i := List.map_inj_left.1 e i hi
 exact hM i hi (this ▸ hl)
theorem FreeS.do (hF : ∀ i y u u', F i y u → Calm u u' → F i y u') (h : FreeS late F w1 (late.map L) Y u) (hb : Calm u u') {i : Nat} {y : Value} (hn : F i y u') : FreeS late F w1 (late.map (updB L i)) (updV Y i y) u' := by
 refine ⟨h.1.call hb, _, rfl, fun j hj hl => ?_⟩
 by_cases e : j = i
 ·subst e; rw [show updV Y j y j = y by simp [updV]]; exact hn
 ·rw [show updV Y i y j = Y j by simp [updV, e]]; exact hF _ _ _ _ (h.get hj (by simpa [updB, e] using hl)) hb
end
def DsF (LS LC : List ByteArray) (n : Nat) (va vd vf : Value) (i : Nat) (y : Value) (u : World) : Prop := match i with
 | 9 => ∃ P c, y = .agg #[.slice P n c, .slice none 0 0] ∧ LiesP u P LS
 | 10 => y = .bool true
 | 14 => y = va
 | 15 => y = vd
 | 16 => y = vf
 | 17 => ∃ P c, y = .agg #[.slice P n c, .slice none 0 0] ∧ LiesP u P LC
 | 18 => y = .bool true
 |_ => y = .bool false
theorem dsF_stay {LS LC : List ByteArray} {n : Nat} {va vd vf : Value} (i : Nat) (y : Value) (u u' : World) (h : DsF LS LC n va vd vf i y u) (hb : Calm u u') : DsF LS LC n va vd vf i y u' := by
 unfold DsF at h ⊢
 split at h <;> first | exact h | (obtain ⟨P, c, e, h1⟩ := h; exact ⟨P, c, e, h1.calm hb⟩)
theorem wpList_bare {P : Program} {ops : Array Oper} {Q : Exit → Act → World → Prop} {rest : List Oper} {o : Oper} {a : Act} {w : World} (hw : Region.wanted o (yielded ops a.tmps) = true) (h : wpList P ops Q ({ o with guard := none } :: rest) a w) : wpList P ops Q (o :: rest) a w := by
 unfold wpList at h ⊢
 rw [if_pos hw]
 rw [if_pos (show Region.wanted { o with guard := none } (yielded ops a.tmps) = true from rfl)] at h
 exact h
structure ApS (w3 : World) (m : List Wr) (x : Wr) (vp : Value) (f : Nat → Bool) (Y : Nat → Value) (u : World) : Prop where
 calm : Calm w3 u
 ord : f 13 = true → f 8 = true ∧ f 12 = true
 s8 : f 8 = true → f 13 = false → OwnW w3.heap.size u (Y 8) m
 s12 : f 12 = true → f 13 = false → ∃ g, Y 12 = Value.slice (some ⟨g, 0, none⟩) 1 1 ∧ u.heap[g]? = some (.cells #[.int .i64 x.i, .string x.s] 41 (0, 0))
 s13 : f 13 = true → OwnW w3.heap.size u (Y 13) (m ++ [x])
 s14 : f 14 = true → f 13 = true ∧ Y 14 = .agg #[vp, Y 13]
 s15 : f 15 = true → Y 15 = .bool true
 s16 : f 16 = true → Y 16 = .bool true
 s17 : f 17 = true → Y 17 = .bool true
theorem ApS.stay {w3 : World} {m : List Wr} {x : Wr} {vp : Value} {f : Nat → Bool} {Y : Nat → Value} {u u' : World} (h : ApS w3 m x vp f Y u) (hb : Calm u u') : ApS w3 m x vp f Y u' where
 calm := h.calm.call hb
 ord := h.ord
 s8 a b := (h.s8 a b).calm hb
 s12 a b := by
  obtain ⟨g, e, hg⟩ := h.s12 a b
  exact ⟨g, e, (hb.block (rowD hg).2.2).trans hg⟩
 s13 a := (h.s13 a).calm hb
 s14 := h.s14
 s15 := h.s15
 s16 := h.s16
 s17 := h.s17
theorem ApS.do8 {w3 : World} {m : List Wr} {x : Wr} {vp : Value} {f : Nat → Bool} {Y : Nat → Value} {u : World} (h : ApS w3 m x vp f Y u) (y : Value) (h13 : f 13 = false) (hn : OwnW w3.heap.size u y m) : ApS w3 m x vp (updB f 8) (updV Y 8 y) u where
 calm := h.calm
 ord a := by simp [updB, h13] at a
 s8 _ _ := by simpa [updV] using hn
 s12 a b := by simpa [updV, updB] using h.s12 (by simpa [updB] using a) (by simpa [updB] using b)
 s13 a := by simpa [updV, updB] using h.s13 (by simpa [updB] using a)
 s14 a := by simpa [updV, updB] using h.s14 (by simpa [updB] using a)
 s15 a := by simpa [updV, updB] using h.s15 (by simpa [updB] using a)
 s16 a := by simpa [updV, updB] using h.s16 (by simpa [updB] using a)
 s17 a := by simpa [updV, updB] using h.s17 (by simpa [updB] using a)
theorem ApS.do12 {w3 : World} {m : List Wr} {x : Wr} {vp : Value} {f : Nat → Bool} {Y : Nat → Value} {u : World} (h : ApS w3 m x vp f Y u) (y : Value) (h13 : f 13 = false) (hn : ∃ g, y = Value.slice (some ⟨g, 0, none⟩) 1 1 ∧ u.heap[g]? = some (.cells #[.int .i64 x.i, .string x.s] 41 (0, 0))) : ApS w3 m x vp (updB f 12) (updV Y 12 y) u where
 calm := h.calm
 ord a := by simp [updB, h13] at a
 s12 _ _ := by simpa [updV] using hn
 s8 a b := by simpa [updV, updB] using h.s8 (by simpa [updB] using a) (by simpa [updB] using b)
 s13 a := by simpa [updV, updB] using h.s13 (by simpa [updB] using a)
 s14 a := by simpa [updV, updB] using h.s14 (by simpa [updB] using a)
 s15 a := by simpa [updV, updB] using h.s15 (by simpa [updB] using a)
 s16 a := by simpa [updV, updB] using h.s16 (by simpa [updB] using a)
 s17 a := by simpa [updV, updB] using h.s17 (by simpa [updB] using a)
theorem ApS.do13 {w3 : World} {m : List Wr} {x : Wr} {vp : Value} {f : Nat → Bool} {Y : Nat → Value} {u u' : World} (h : ApS w3 m x vp f Y u) (y : Value) (h8 : f 8 = true) (h12 : f 12 = true) (h13 : f 13 = false) (hc : Calm w3 u') (hn : OwnW w3.heap.size u' y (m ++ [x])) : ApS w3 m x vp (updB f 13) (updV Y 13 y) u' where
 calm := hc
 ord _ := by simp [updB, h8, h12]
 s8 _ a := by simp [updB] at a
 s12 _ a := by simp [updB] at a
 s13 _ := by simpa [updV] using hn
 s14 a := by
  have := (h.s14 (by simpa [updB] using a)).1
  rw [h13] at this; cases this
 s15 a := by simpa [updV, updB] using h.s15 (by simpa [updB] using a)
 s16 a := by simpa [updV, updB] using h.s16 (by simpa [updB] using a)
 s17 a := by simpa [updV, updB] using h.s17 (by simpa [updB] using a)
theorem ApS.do14 {w3 : World} {m : List Wr} {x : Wr} {vp : Value} {f : Nat → Bool} {Y : Nat → Value} {u : World} (h : ApS w3 m x vp f Y u) (h13 : f 13 = true) : ApS w3 m x vp (updB f 14) (updV Y 14 (.agg #[vp, Y 13])) u where
 calm := h.calm
 ord := by simpa [updB] using h.ord
 s14 _ := by simp [updV, updB, h13]
 s8 a b := by simpa [updV, updB] using h.s8 (by simpa [updB] using a) (by simpa [updB] using b)
 s12 a b := by simpa [updV, updB] using h.s12 (by simpa [updB] using a) (by simpa [updB] using b)
 s13 a := by simpa [updV, updB] using h.s13 (by simpa [updB] using a)
 s15 a := by simpa [updV, updB] using h.s15 (by simpa [updB] using a)
 s16 a := by simpa [updV, updB] using h.s16 (by simpa [updB] using a)
 s17 a := by simpa [updV, updB] using h.s17 (by simpa [updB] using a)
theorem ApS.do15 {w3 : World} {m : List Wr} {x : Wr} {vp : Value} {f : Nat → Bool} {Y : Nat → Value} {u : World} (h : ApS w3 m x vp f Y u) : ApS w3 m x vp (updB f 15) (updV Y 15 (.bool true)) u where
 calm := h.calm
 ord := by simpa [updB] using h.ord
 s15 _ := by simp [updV]
 s8 a b := by simpa [updV, updB] using h.s8 (by simpa [updB] using a) (by simpa [updB] using b)
 s12 a b := by simpa [updV, updB] using h.s12 (by simpa [updB] using a) (by simpa [updB] using b)
 s13 a := by simpa [updV, updB] using h.s13 (by simpa [updB] using a)
 s14 a := by simpa [updV, updB] using h.s14 (by simpa [updB] using a)
 s16 a := by simpa [updV, updB] using h.s16 (by simpa [updB] using a)
 s17 a := by simpa [updV, updB] using h.s17 (by simpa [updB] using a)
theorem ApS.do16 {w3 : World} {m : List Wr} {x : Wr} {vp : Value} {f : Nat → Bool} {Y : Nat → Value} {u : World} (h : ApS w3 m x vp f Y u) : ApS w3 m x vp (updB f 16) (updV Y 16 (.bool true)) u where
 calm := h.calm
 ord := by simpa [updB] using h.ord
 s16 _ := by simp [updV]
 s8 a b := by simpa [updV, updB] using h.s8 (by simpa [updB] using a) (by simpa [updB] using b)
 s12 a b := by simpa [updV, updB] using h.s12 (by simpa [updB] using a) (by simpa [updB] using b)
 s13 a := by simpa [updV, updB] using h.s13 (by simpa [updB] using a)
 s14 a := by simpa [updV, updB] using h.s14 (by simpa [updB] using a)
 s15 a := by simpa [updV, updB] using h.s15 (by simpa [updB] using a)
 s17 a := by simpa [updV, updB] using h.s17 (by simpa [updB] using a)
theorem ApS.do17 {w3 : World} {m : List Wr} {x : Wr} {vp : Value} {f : Nat → Bool} {Y : Nat → Value} {u : World} (h : ApS w3 m x vp f Y u) : ApS w3 m x vp (updB f 17) (updV Y 17 (.bool true)) u where
 calm := h.calm
 ord := by simpa [updB] using h.ord
 s17 _ := by simp [updV]
 s8 a b := by simpa [updV, updB] using h.s8 (by simpa [updB] using a) (by simpa [updB] using b)
 s12 a b := by simpa [updV, updB] using h.s12 (by simpa [updB] using a) (by simpa [updB] using b)
 s13 a := by simpa [updV, updB] using h.s13 (by simpa [updB] using a)
 s14 a := by simpa [updV, updB] using h.s14 (by simpa [updB] using a)
 s15 a := by simpa [updV, updB] using h.s15 (by simpa [updB] using a)
 s16 a := by simpa [updV, updB] using h.s16 (by simpa [updB] using a)
def ApSt (w3 : World) (m : List Wr) (x : Wr) (vp : Value) : Stages := fun bs Y u => ∃ f, bs = [8, 12, 13, 14, 15, 16, 17].map f ∧ ApS w3 m x vp f Y u
theorem ApSt.stay {w3 : World} {m : List Wr} {x : Wr} {vp : Value} : ∀ bs Y u u', ApSt w3 m x vp bs Y u → Calm u u' → ApSt w3 m x vp bs Y u' := fun _ _ _ _ ⟨f, h1, h2⟩ hb => ⟨f, h1, h2.stay hb⟩
theorem ApSt.start {w3 : World} {m : List Wr} {x : Wr} {vp : Value} {u : World} (Y : Nat → Value) (h : Calm w3 u) : ApSt w3 m x vp ([8, 12, 13, 14, 15, 16, 17].map fun _ => false) Y u := ⟨fun _ => false, rfl, h, nofun, nofun, nofun, nofun, nofun, nofun, nofun, nofun⟩
theorem ApSt.get {w3 : World} {m : List Wr} {x : Wr} {vp : Value} {u : World} {L : Nat → Bool} {Y : Nat → Value} (h : ApSt w3 m x vp ([8, 12, 13, 14, 15, 16, 17].map L) Y u) : ApS w3 m x vp L Y u := by
 obtain ⟨f, hf, h⟩ := h
 simp only [List.map_cons, List.map_nil, List.cons.injEq, and_true] at hf
 obtain ⟨e8, e12, e13, e14, e15, e16, e17⟩ := hf
 exact ⟨h.calm, by rw [e8, e12, e13]; exact h.ord, by rw [e8, e13]; exact h.s8, by rw [e12, e13]; exact h.s12, by rw [e13]; exact h.s13, by rw [e14, e13]; exact h.s14, by rw [e15]; exact h.s15, by rw [e16]; exact h.s16, by rw [e17]; exact h.s17⟩
end Go.Proofs.Ytkppoapjifeifaa
