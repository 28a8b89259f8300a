/- Texts of one kind in one file. -/
import Derived.Test.YtkppoapjifeifaaPkDiskTwice1
set_option maxRecDepth 100000
namespace Go.Proofs.Ytkppoapjifeifaa
open Go.RowKit
def PerfEnd (l : List ByteArray) (m : List Wr) (f : Nat → Bool) (w : World) (e : Ending) (w' : World) : Prop :=
 (dkErr l m ≠ 0 ∧ e = .returned (.tuple #[.agg #[.slice none 0 0, .slice none 0 0], .int .i64 (dkErr l m)]) ∧ Calm w w') ∨
 (dkErr l m = 0 ∧ ∃ v, e = .returned (.tuple #[.agg #[v, .slice none 0 0], .int .i64 0]) ∧ OwnP w.heap.size w' v (doneL f 0 m l) ∧ Calm w w')
def selK (K : List Bool) (j : Nat) : Bool := decide (j < K.length) && K.getD j false
def KBx (B : Nat) (A : Option Addr) (n c : Nat) (w : World) : Prop := w.heap[B]? = some (.cells #[.slice A n c] 26 (0, 0))
theorem KBx.calm {B n c : Nat} {A : Option Addr} {w w' : World} (h : KBx B A n c w) (hb : Calm w w') : KBx B A n c w' := (hb.block (Array.getElem?_eq_some_iff.1 h).1).trans h
theorem row1 {w : World} {g t : Nat} {a : Value} {fr : Nat × Nat} (h : w.heap[g]? = some (.cells #[a] t fr)) : w.cell? ⟨g, 0, none⟩ = some a ∧ g < w.heap.size :=
 ⟨cell_of_row _ _ 0 _ _ _ h, (Array.getElem?_eq_some_iff.1 h).1⟩
theorem sync1_any (k : Nat) (w : World) : Calls Try.prog 45 #[.int .i64 k] w fun e w' => e = .returned (.bool true) ∧ Calm w w' := by
 go_enter Try.func45, Try.ntmps45
 go_wp2_with fail
 go_ret
 exact ⟨rfl, Calm.refl _⟩
set_option maxHeartbeats 4000000 in
theorem crash1_any (B : Nat) (A : Option Addr) (c : Nat) (K : List Bool) (k : Nat) (w : World) (hB : KBx B A K.length c w) (hK : LiesO w A K) :
    Calls Try.prog 46 #[.int .i64 k, .pointer (some ⟨B, 0, none⟩)] w fun e w' => e = .returned (.bool (selK K k)) ∧ Calm w w' := by
  obtain ⟨x0, hxs⟩ := row1 hB
  by_cases hk : k < K.length
  · obtain ⟨b, q, s, rfl, hb, HE, c0⟩ := hK.get hk
    have hs : selK K k = s := by unfold selK; rw [decide_eq_true hk, List.getD_eq_getElem?_getD, HE.out]; rfl
    have hz : (k : Int) < (K.length : Int) := by omega
    rw [hs]
    clear hs hK hB
    go_enter Try.func46, Try.ntmps46
    go_wp2_with fail
    go_ret
    exact ⟨rfl, Calm.refl _⟩
  · have hs : selK K k = false := by unfold selK; rw [decide_eq_false hk]; rfl
    have hz : ¬ (k : Int) < (K.length : Int) := by omega
    rw [hs]
    clear hs hK hB
    go_enter Try.func46, Try.ntmps46
    go_wp2_with fail
    go_ret
    exact ⟨rfl, Calm.refl _⟩
set_option maxHeartbeats 8000000 in
theorem perfSync_any (P Q : Option Addr) (cp cq : Nat) (l : List ByteArray) (m : List Wr) (w : World) (hP : LiesP w P l) (hQ : LiesW w Q m) (hn : l.length ≤ 9223372036854775807) (hm : m.length ≤ 9223372036854775807) :
    Calls Try.prog 44 #[.agg #[.slice P l.length cp, .slice Q m.length cq], .func (.func 45) #[] #[]] w (PerfEnd l m (fun _ => true) w) := by
  have hx := heap_past (.cells #[.slice none 0 0, .slice none 0 0] 25) (heap_new w (.cells #[.slice P l.length cp, .slice Q m.length cq] 25))
  have hr := heap_new (w.alloc (.cells #[.slice P l.length cp, .slice Q m.length cq] 25)) (.cells #[.slice none 0 0, .slice none 0 0] 25)
  rw [World.size_alloc] at hr
  have hu := ((Calm.refl w).alloc (.cells #[.slice P l.length cp, .slice Q m.length cq] 25)).alloc (.cells #[.slice none 0 0, .slice none 0 0] 25)
  have cC := fun u (hu : Calm w u) => diskCheck_any P Q cp cq l m u (hP.calm hu) (hQ.calm hu) hn hm
  have cF : ∀ (k : Nat) u, Calm w u → Calls Try.prog 45 #[.int .i64 k] u fun e w' => e = .returned (.bool ((fun _ => true) k)) ∧ Calm u w' := fun k u _ => sync1_any k u
  obtain ⟨x0, x1, hxs⟩ := rowD hx
  obtain ⟨r0, r1, hrs⟩ := rowD hr
  obtain ⟨f0, f1⟩ := freeD2 hr
  by_cases hz : dkErr l m = 0
  rotate_left
  · have HE : Hid (∀ w', Calm w w' → PerfEnd l m (fun _ => true) w (.returned (.tuple #[.agg #[.slice none 0 0, .slice none 0 0], .int .i64 (dkErr l m)])) w') := show ∀ _, _ from fun w' hw => .inl ⟨hz, rfl, hw⟩
    have b1 : (dkErr l m != 0) = true := by rw [bne_iff_ne]; exact hz
    generalize PerfEnd l m (fun _ => true) w = PE at HE ⊢
    clear hz hP hQ
    generalize dkErr l m = E at cC b1 HE ⊢
    go_enter Try.func44, Try.ntmps44
    generalize hQ0 : bodyPost Try.prog Try.f44 PE = Q0
    have HRET : Hid (∀ a w', bodyPost Try.prog Try.f44 PE .ret a w' → Q0 .ret a w') := show ∀ _ _, _ from fun a w' h => by rw [← hQ0]; exact h
    clear hQ0
    go_wp2_with (go_at_call 18; (with_reducible refine (cC _ hu).mono ?_); rintro e w1 ⟨rfl, hb1⟩; replace hx := (hb1.block hxs).trans hx; replace hr := (hb1.block hrs).trans hr; replace hu := hu.call hb1; clear hb1; obtain ⟨x0, x1, hxs⟩ := rowD hx; obtain ⟨r0, r1, hrs⟩ := rowD hr; obtain ⟨f0, f1⟩ := freeD2 hr)
    have hr9 := setD2 hr (.slice none 0 0) (.slice none 0 0)
    have hu9 := hu.twoD (g := w.heap.size + 1) (by omega) (.slice none 0 0) (.slice none 0 0)
    exact HRET.out _ _ (end_dkE (p := 4) (q := 5) rfl rfl _ _ _ _ _ _ _ rfl rfl rfl hr9 rfl (HE.out _ hu9))
  have HE : Hid (∀ w' v, OwnP w.heap.size w' v (doneL (fun _ => true) 0 m l) → Calm w w' → PerfEnd l m (fun _ => true) w (.returned (.tuple #[.agg #[v, .slice none 0 0], .int .i64 0])) w') := show ∀ _, _ from fun w' v h1 hw => .inr ⟨hz, v, rfl, h1, hw⟩
  generalize PerfEnd l m (fun _ => true) w = PE at HE ⊢
  obtain ⟨h6, h5, -, hWS⟩ := dkErr_zero.1 hz
  have HWS := Lib.hid hWS
  have cP := fun u (hu : Calm w u) => cloneP_any P cp l u (by omega) (hP.calm hu)
  have HQ := Lib.hid hQ
  rw [hz] at cC
  clear hz hP hQ hWS hn hm
  go_enter Try.func44, Try.ntmps44
  generalize hQ0 : bodyPost Try.prog Try.f44 PE = Q0
  have HRET : Hid (∀ a w', bodyPost Try.prog Try.f44 PE .ret a w' → Q0 .ret a w') := show ∀ _ _, _ from fun a w' h => by rw [← hQ0]; exact h
  clear hQ0
  go_upto_region 5 with first
    | (go_at_call 18; (with_reducible refine (cC _ hu).mono ?_); rintro e w1 ⟨rfl, hb1⟩; replace hx := (hb1.block hxs).trans hx; replace hr := (hb1.block hrs).trans hr; replace hu := hu.call hb1; clear hb1; obtain ⟨x0, x1, hxs⟩ := rowD hx; obtain ⟨r0, r1, hrs⟩ := rowD hr; obtain ⟨f0, f1⟩ := freeD2 hr)
    | (go_at_call 39; (with_reducible refine (cP _ hu).mono ?_); rintro e w4 ⟨v4, rfl, ho4, hb1⟩; have hRl := hrs; replace hx := (hb1.block hxs).trans hx; replace hr := (hb1.block hrs).trans hr; replace hu := hu.call hb1; obtain ⟨x0, x1, hxs⟩ := rowD hx)
  obtain ⟨A4, c4, rfl, hc4, -⟩ := ho4.slice
  have hB4 := (Calm.size hb1)
  generalize w1.heap.size = B4 at ho4 hRl hB4
  have HO := Lib.hid ho4
  have HU := Lib.hid hu
  clear ho4 hb1 r0 r1 hrs f0 f1 cC cP
  go_wp2_with fail
  go_loopw [22, 8, 9] (fun i _ _ wr => ∃ k : Nat, k ≤ m.length ∧ i = .int .i64 k ∧ Calm w wr ∧ B4 ≤ wr.heap.size ∧ Hid (OwnP B4 wr (.slice A4 l.length c4) (doneL (fun _ => true) 0 (m.take k) l)) ∧ wr.heap[w.heap.size + 1]? = some (.cells #[.slice none 0 0, .slice none 0 0] 25 (0, 0))) (fun i _ _ _ => m.length - (intOf i).toNat)
  case atStart => exact ⟨0, Nat.zero_le _, rfl, hu, hB4, HO, hr⟩
  case round =>
    obtain ⟨k, hk, rfl, hv, hBv, HOk, hr⟩ := hrel
    by_cases hlt : k < m.length
    rotate_left
    · have hkl : m.take k = m := List.take_of_length_le (by omega)
      rw [hkl] at HOk
      have HO8 := HOk
      obtain ⟨r0, r1, hrs⟩ := rowD hr
      obtain ⟨f0, f1⟩ := freeD2 hr
      clear HOk hkl
      go_wp2_with fail
      have hr9 := setD2 hr (.slice A4 l.length c4) (.slice none 0 0)
      have HO9 := Lib.hid HO8.out
      have hu9 := hv.twoD (g := w.heap.size + 1) (by omega) (.slice A4 l.length c4) (.slice none 0 0)
      exact HRET.out _ _ (end_dkE (p := 4) (q := 5) rfl rfl _ _ _ _ _ _ _ rfl rfl rfl hr9 rfl (HE.out _ (.slice A4 l.length c4) (OwnG.weaken (rowsG_set (rowsG_set HO9.out hRl 0 (.slice A4 l.length c4)) hRl 1 (.slice none 0 0)) (by omega)) hu9))
    obtain ⟨b, q, i, s, rfl, hb, HEw, c0, c1⟩ := (HQ.out.calm hv).get hlt
    have hW := wrE_zero.1 (HWS.out _ (List.mem_of_getElem? HEw.out))
    obtain ⟨p, rfl⟩ : ∃ p : Nat, i = (p : Int) := ⟨i.toNat, by have := hW.1; simp only at this; omega⟩
    have hpl : p < l.length := by have := hW.2.1; simp only at this; omega
    have hdl := doneL_len (fun _ => true) (m.take k) 0 l
    obtain ⟨bk, hbk⟩ : ∃ bk : Bool, bk = (fun _ => true) k := ⟨_, rfl⟩
    have HT := Lib.hid (show doneL (fun _ => true) 0 (m.take (k + 1)) l = if bk = true then (doneL (fun _ => true) 0 (m.take k) l).set p s else doneL (fun _ => true) 0 (m.take k) l by rw [hbk]; exact doneL_take (f := (fun _ => true)) (ps := l) HEw.out)
    have cFk : ∀ u, Calm w u → Calls Try.prog 45 #[.int .i64 k] u fun e w' => e = .returned (.bool bk) ∧ Calm u w' := fun u hu => by rw [hbk]; exact cF k u hu
    have hak := (hv.alloc (.cells #[.int .i64 (p : Int), .string s] 41))
    have hyk := heap_new wr (.cells #[.int .i64 (p : Int), .string s] 41)
    have HO1 := Lib.hid (OwnP.calm HOk.out ((Calm.refl wr).alloc (.cells #[.int .i64 (p : Int), .string s] 41)))
    have hr1 := heap_past (.cells #[.int .i64 (p : Int), .string s] 41) hr
    clear hr HOk hW hbk HEw
    generalize doneL (fun _ => true) 0 (m.take k) l = L at HO1 HT hdl
    obtain ⟨g4, cap4, hA4⟩ := OwnG.some_ HO1.out (by omega)
    obtain rfl : A4 = some ⟨g4, 0, none⟩ := by injection hA4
    have hg4 := (HO1.out.lt g4 rfl).1
    clear hA4 cap4
    cases bk
    · have HT := Lib.hid (HT.out.trans (if_neg (by simp)))
      go_wp2_with (go_at_call 45; (with_reducible refine (cFk _ hak).mono ?_); rintro e w9 ⟨rfl, hb9⟩)
      go_roundw
      case rel => exact ⟨k + 1, by omega, by go_num, hak.call hb9, by have := hb9.size; simp at this; omega, by rw [HT.out]; exact HO1.out.calm hb9, (hb9.block (rowD hr1).2.2).trans hr1⟩
      case measure => simp [intOf]; omega
    · have HT := Lib.hid (HT.out.trans (if_pos rfl))
      go_wp2_with (go_at_call 45; (with_reducible refine (cFk _ hak).mono ?_); rintro e w9 ⟨rfl, hb9⟩; have hyk2 := (hb9.block (rowD hyk).2.2).trans hyk; obtain ⟨y0, y1, hys⟩ := rowD hyk2; have HO9 := Lib.hid (HO1.out.calm hb9); have hcell : w9.cell? ⟨g4, p, none⟩ = some (.string (L[p]'(by omega))) := (by have := (OwnG.cell stC_len HO9.out (show p < L.length by omega)).1 0 (by omega); rw [Nat.mul_one, Nat.add_zero] at this; exact this); have hfz := OwnG.frozen HO9.out p; have hpz : (p : Int) < (l.length : Int) := by omega)
      have HO10 : OwnP B4 (w9.setCell ⟨g4, p, none⟩ (.string s)) (.slice (some ⟨g4, 0, none⟩) l.length c4) (L.set p s) := by
        have := OwnG.set stC_len (i := p) (j := 0) (u := .string s) (x := s) HO9.out (by omega) (by omega) rfl
        rw [Nat.mul_one, Nat.add_zero] at this
        exact this
      go_roundw
      case rel => exact ⟨k + 1, by omega, by go_num, (hak.call hb9).setCell (p := ⟨g4, p, none⟩) (show w.heap.size ≤ g4 by omega) _, by have := hb9.size; simp at this ⊢; omega, by rw [HT.out]; exact HO10, (heap_setCell_other _ _ _ _ (by show w.heap.size + 1 ≠ g4; omega)).trans ((hb9.block (rowD hr1).2.2).trans hr1)⟩
      case measure => simp [intOf]; omega
set_option maxHeartbeats 8000000 in
theorem perfCrash_any (P Q : Option Addr) (cp cq : Nat) (l : List ByteArray) (m : List Wr) (B : Nat) (AK : Option Addr) (cK : Nat) (K : List Bool) (w : World) (hP : LiesP w P l) (hQ : LiesW w Q m) (hn : l.length ≤ 9223372036854775807) (hm : m.length ≤ 9223372036854775807) (hB : KBx B AK K.length cK w) (hK : LiesO w AK K) :
    Calls Try.prog 44 #[.agg #[.slice P l.length cp, .slice Q m.length cq], .func (.func 46) #[] #[.pointer (some ⟨B, 0, none⟩)]] w (PerfEnd l m (selK K) w) := by
  have hx := heap_past (.cells #[.slice none 0 0, .slice none 0 0] 25) (heap_new w (.cells #[.slice P l.length cp, .slice Q m.length cq] 25))
  have hr := heap_new (w.alloc (.cells #[.slice P l.length cp, .slice Q m.length cq] 25)) (.cells #[.slice none 0 0, .slice none 0 0] 25)
  rw [World.size_alloc] at hr
  have hu := ((Calm.refl w).alloc (.cells #[.slice P l.length cp, .slice Q m.length cq] 25)).alloc (.cells #[.slice none 0 0, .slice none 0 0] 25)
  have cC := fun u (hu : Calm w u) => diskCheck_any P Q cp cq l m u (hP.calm hu) (hQ.calm hu) hn hm
  have cF : ∀ (k : Nat) u, Calm w u → Calls Try.prog 46 #[.int .i64 k, .pointer (some ⟨B, 0, none⟩)] u fun e w' => e = .returned (.bool (selK K k)) ∧ Calm u w' := fun k u hu => crash1_any B AK cK K k u (hB.calm hu) (hK.calm hu)
  clear hB hK
  obtain ⟨x0, x1, hxs⟩ := rowD hx
  obtain ⟨r0, r1, hrs⟩ := rowD hr
  obtain ⟨f0, f1⟩ := freeD2 hr
  by_cases hz : dkErr l m = 0
  rotate_left
  · have HE : Hid (∀ w', Calm w w' → PerfEnd l m (selK K) w (.returned (.tuple #[.agg #[.slice none 0 0, .slice none 0 0], .int .i64 (dkErr l m)])) w') := show ∀ _, _ from fun w' hw => .inl ⟨hz, rfl, hw⟩
    have b1 : (dkErr l m != 0) = true := by rw [bne_iff_ne]; exact hz
    generalize PerfEnd l m (selK K) w = PE at HE ⊢
    clear hz hP hQ
    generalize dkErr l m = E at cC b1 HE ⊢
    go_enter Try.func44, Try.ntmps44
    generalize hQ0 : bodyPost Try.prog Try.f44 PE = Q0
    have HRET : Hid (∀ a w', bodyPost Try.prog Try.f44 PE .ret a w' → Q0 .ret a w') := show ∀ _ _, _ from fun a w' h => by rw [← hQ0]; exact h
    clear hQ0
    go_wp2_with (go_at_call 18; (with_reducible refine (cC _ hu).mono ?_); rintro e w1 ⟨rfl, hb1⟩; replace hx := (hb1.block hxs).trans hx; replace hr := (hb1.block hrs).trans hr; replace hu := hu.call hb1; clear hb1; obtain ⟨x0, x1, hxs⟩ := rowD hx; obtain ⟨r0, r1, hrs⟩ := rowD hr; obtain ⟨f0, f1⟩ := freeD2 hr)
    have hr9 := setD2 hr (.slice none 0 0) (.slice none 0 0)
    have hu9 := hu.twoD (g := w.heap.size + 1) (by omega) (.slice none 0 0) (.slice none 0 0)
    exact HRET.out _ _ (end_dkE (p := 4) (q := 5) rfl rfl _ _ _ _ _ _ _ rfl rfl rfl hr9 rfl (HE.out _ hu9))
  have HE : Hid (∀ w' v, OwnP w.heap.size w' v (doneL (selK K) 0 m l) → Calm w w' → PerfEnd l m (selK K) w (.returned (.tuple #[.agg #[v, .slice none 0 0], .int .i64 0])) w') := show ∀ _, _ from fun w' v h1 hw => .inr ⟨hz, v, rfl, h1, hw⟩
  generalize PerfEnd l m (selK K) w = PE at HE ⊢
  obtain ⟨h6, h5, -, hWS⟩ := dkErr_zero.1 hz
  have HWS := Lib.hid hWS
  have cP := fun u (hu : Calm w u) => cloneP_any P cp l u (by omega) (hP.calm hu)
  have HQ := Lib.hid hQ
  rw [hz] at cC
  clear hz hP hQ hWS hn hm
  go_enter Try.func44, Try.ntmps44
  generalize hQ0 : bodyPost Try.prog Try.f44 PE = Q0
  have HRET : Hid (∀ a w', bodyPost Try.prog Try.f44 PE .ret a w' → Q0 .ret a w') := show ∀ _ _, _ from fun a w' h => by rw [← hQ0]; exact h
  clear hQ0
  go_upto_region 5 with first
    | (go_at_call 18; (with_reducible refine (cC _ hu).mono ?_); rintro e w1 ⟨rfl, hb1⟩; replace hx := (hb1.block hxs).trans hx; replace hr := (hb1.block hrs).trans hr; replace hu := hu.call hb1; clear hb1; obtain ⟨x0, x1, hxs⟩ := rowD hx; obtain ⟨r0, r1, hrs⟩ := rowD hr; obtain ⟨f0, f1⟩ := freeD2 hr)
    | (go_at_call 39; (with_reducible refine (cP _ hu).mono ?_); rintro e w4 ⟨v4, rfl, ho4, hb1⟩; have hRl := hrs; replace hx := (hb1.block hxs).trans hx; replace hr := (hb1.block hrs).trans hr; replace hu := hu.call hb1; obtain ⟨x0, x1, hxs⟩ := rowD hx)
  obtain ⟨A4, c4, rfl, hc4, -⟩ := ho4.slice
  have hB4 := (Calm.size hb1)
  generalize w1.heap.size = B4 at ho4 hRl hB4
  have HO := Lib.hid ho4
  have HU := Lib.hid hu
  clear ho4 hb1 r0 r1 hrs f0 f1 cC cP
  go_wp2_with fail
  go_loopw [22, 8, 9] (fun i _ _ wr => ∃ k : Nat, k ≤ m.length ∧ i = .int .i64 k ∧ Calm w wr ∧ B4 ≤ wr.heap.size ∧ Hid (OwnP B4 wr (.slice A4 l.length c4) (doneL (selK K) 0 (m.take k) l)) ∧ wr.heap[w.heap.size + 1]? = some (.cells #[.slice none 0 0, .slice none 0 0] 25 (0, 0))) (fun i _ _ _ => m.length - (intOf i).toNat)
  case atStart => exact ⟨0, Nat.zero_le _, rfl, hu, hB4, HO, hr⟩
  case round =>
    obtain ⟨k, hk, rfl, hv, hBv, HOk, hr⟩ := hrel
    by_cases hlt : k < m.length
    rotate_left
    · have hkl : m.take k = m := List.take_of_length_le (by omega)
      rw [hkl] at HOk
      have HO8 := HOk
      obtain ⟨r0, r1, hrs⟩ := rowD hr
      obtain ⟨f0, f1⟩ := freeD2 hr
      clear HOk hkl
      go_wp2_with fail
      have hr9 := setD2 hr (.slice A4 l.length c4) (.slice none 0 0)
      have HO9 := Lib.hid HO8.out
      have hu9 := hv.twoD (g := w.heap.size + 1) (by omega) (.slice A4 l.length c4) (.slice none 0 0)
      exact HRET.out _ _ (end_dkE (p := 4) (q := 5) rfl rfl _ _ _ _ _ _ _ rfl rfl rfl hr9 rfl (HE.out _ (.slice A4 l.length c4) (OwnG.weaken (rowsG_set (rowsG_set HO9.out hRl 0 (.slice A4 l.length c4)) hRl 1 (.slice none 0 0)) (by omega)) hu9))
    obtain ⟨b, q, i, s, rfl, hb, HEw, c0, c1⟩ := (HQ.out.calm hv).get hlt
    have hW := wrE_zero.1 (HWS.out _ (List.mem_of_getElem? HEw.out))
    obtain ⟨p, rfl⟩ : ∃ p : Nat, i = (p : Int) := ⟨i.toNat, by have := hW.1; simp only at this; omega⟩
    have hpl : p < l.length := by have := hW.2.1; simp only at this; omega
    have hdl := doneL_len (selK K) (m.take k) 0 l
    obtain ⟨bk, hbk⟩ : ∃ bk : Bool, bk = (selK K) k := ⟨_, rfl⟩
    have HT := Lib.hid (show doneL (selK K) 0 (m.take (k + 1)) l = if bk = true then (doneL (selK K) 0 (m.take k) l).set p s else doneL (selK K) 0 (m.take k) l by rw [hbk]; exact doneL_take (f := (selK K)) (ps := l) HEw.out)
    have cFk : ∀ u, Calm w u → Calls Try.prog 46 #[.int .i64 k, .pointer (some ⟨B, 0, none⟩)] u fun e w' => e = .returned (.bool bk) ∧ Calm u w' := fun u hu => by rw [hbk]; exact cF k u hu
    have hak := (hv.alloc (.cells #[.int .i64 (p : Int), .string s] 41))
    have hyk := heap_new wr (.cells #[.int .i64 (p : Int), .string s] 41)
    have HO1 := Lib.hid (OwnP.calm HOk.out ((Calm.refl wr).alloc (.cells #[.int .i64 (p : Int), .string s] 41)))
    have hr1 := heap_past (.cells #[.int .i64 (p : Int), .string s] 41) hr
    clear hr HOk hW hbk HEw
    generalize doneL (selK K) 0 (m.take k) l = L at HO1 HT hdl
    obtain ⟨g4, cap4, hA4⟩ := OwnG.some_ HO1.out (by omega)
    obtain rfl : A4 = some ⟨g4, 0, none⟩ := by injection hA4
    have hg4 := (HO1.out.lt g4 rfl).1
    clear hA4 cap4
    cases bk
    · have HT := Lib.hid (HT.out.trans (if_neg (by simp)))
      go_wp2_with (go_at_call 46; (with_reducible refine (cFk _ hak).mono ?_); rintro e w9 ⟨rfl, hb9⟩)
      go_roundw
      case rel => exact ⟨k + 1, by omega, by go_num, hak.call hb9, by have := hb9.size; simp at this; omega, by rw [HT.out]; exact HO1.out.calm hb9, (hb9.block (rowD hr1).2.2).trans hr1⟩
      case measure => simp [intOf]; omega
    · have HT := Lib.hid (HT.out.trans (if_pos rfl))
      go_wp2_with (go_at_call 46; (with_reducible refine (cFk _ hak).mono ?_); rintro e w9 ⟨rfl, hb9⟩; have hyk2 := (hb9.block (rowD hyk).2.2).trans hyk; obtain ⟨y0, y1, hys⟩ := rowD hyk2; have HO9 := Lib.hid (HO1.out.calm hb9); have hcell : w9.cell? ⟨g4, p, none⟩ = some (.string (L[p]'(by omega))) := (by have := (OwnG.cell stC_len HO9.out (show p < L.length by omega)).1 0 (by omega); rw [Nat.mul_one, Nat.add_zero] at this; exact this); have hfz := OwnG.frozen HO9.out p; have hpz : (p : Int) < (l.length : Int) := by omega)
      have HO10 : OwnP B4 (w9.setCell ⟨g4, p, none⟩ (.string s)) (.slice (some ⟨g4, 0, none⟩) l.length c4) (L.set p s) := by
        have := OwnG.set stC_len (i := p) (j := 0) (u := .string s) (x := s) HO9.out (by omega) (by omega) rfl
        rw [Nat.mul_one, Nat.add_zero] at this
        exact this
      go_roundw
      case rel => exact ⟨k + 1, by omega, by go_num, (hak.call hb9).setCell (p := ⟨g4, p, none⟩) (show w.heap.size ≤ g4 by omega) _, by have := hb9.size; simp at this ⊢; omega, by rw [HT.out]; exact HO10, (heap_setCell_other _ _ _ _ (by show w.heap.size + 1 ≠ g4; omega)).trans ((hb9.block (rowD hr1).2.2).trans hr1)⟩
      case measure => simp [intOf]; omega
set_option maxHeartbeats 8000000 in
theorem diskSync_any (P Q : Option Addr) (cp cq : Nat) (l : List ByteArray) (m : List Wr) (w : World) (hP : LiesP w P l) (hQ : LiesW w Q m) (hn : l.length ≤ 9223372036854775807) (hm : m.length ≤ 9223372036854775807) :
    Calls Try.prog 15 #[.agg #[.slice P l.length cp, .slice Q m.length cq]] w (PerfEnd l m (fun _ => true) w) := by
  have hx := heap_past (.cells #[.slice none 0 0, .slice none 0 0] 25) (heap_new w (.cells #[.slice P l.length cp, .slice Q m.length cq] 25))
  have hr := heap_new (w.alloc (.cells #[.slice P l.length cp, .slice Q m.length cq] 25)) (.cells #[.slice none 0 0, .slice none 0 0] 25)
  rw [World.size_alloc] at hr
  have hu := ((Calm.refl w).alloc (.cells #[.slice P l.length cp, .slice Q m.length cq] 25)).alloc (.cells #[.slice none 0 0, .slice none 0 0] 25)
  obtain ⟨x0, x1, hxs⟩ := rowD hx
  obtain ⟨r0, r1, hrs⟩ := rowD hr
  obtain ⟨f0, f1⟩ := freeD2 hr
  have cC := fun u (hu : Calm w u) => perfSync_any P Q cp cq l m u (hP.calm hu) (hQ.calm hu) hn hm
  by_cases hz : dkErr l m = 0
  · have HE0 : Hid (∀ w' v, OwnP w.heap.size w' v (doneL (fun _ => true) 0 m l) → Calm w w' → PerfEnd l m (fun _ => true) w (.returned (.tuple #[.agg #[v, .slice none 0 0], .int .i64 0])) w') := show ∀ _, _ from fun w' v h1 hw => .inr ⟨hz, v, rfl, h1, hw⟩
    have cC2 := fun u (hu : Calm w u) => (cC u hu).mono (fun e w' h => (show ∃ A c, e = .returned (.tuple #[.agg #[.slice A (doneL (fun _ => true) 0 m l).length c, .slice none 0 0], .int .i64 0]) ∧ OwnP u.heap.size w' (.slice A (doneL (fun _ => true) 0 m l).length c) (doneL (fun _ => true) 0 m l) ∧ Calm u w' by
      rcases h with ⟨h, -⟩ | ⟨h1, v, h2, h3, h4⟩
      · exact absurd hz h
      · obtain ⟨A, c, rfl, -, -⟩ := h3.slice
        exact ⟨A, c, h2, h3, h4⟩))
    generalize PerfEnd l m (fun _ => true) w = PE at HE0 ⊢
    clear cC hz hP hQ hn hm
    generalize doneL (fun _ => true) 0 m l = L at HE0 cC2
    go_enter Try.func15, Try.ntmps15
    generalize hQ0 : bodyPost Try.prog Try.f15 PE = Q0
    have HRET : Hid (∀ a w', bodyPost Try.prog Try.f15 PE .ret a w' → Q0 .ret a w') := show ∀ _ _, _ from fun a w' h => by rw [← hQ0]; exact h
    clear hQ0
    go_wp2_with (go_at_call 44; (with_reducible refine (cC2 _ hu).mono ?_); rintro e w1 ⟨A9, c9, rfl, ho9, hb1⟩; have HO9 := Lib.hid ho9; clear ho9; replace hr := (hb1.block hrs).trans hr; replace hu := hu.call hb1; have hs1 := hrs; clear hb1 r0 r1 hrs f0 f1 x0 x1 hxs; obtain ⟨r0, r1, hrs⟩ := rowD hr; obtain ⟨f0, f1⟩ := freeD2 hr)
    have hr9 := setD2 hr (.slice A9 L.length c9) (.slice none 0 0)
    have hu9 := hu.twoD (g := w.heap.size + 1) (by omega) (.slice A9 L.length c9) (.slice none 0 0)
    exact HRET.out _ _ (end_dkE (p := 2) (q := 3) rfl rfl _ _ _ _ _ _ _ rfl rfl rfl hr9 rfl (HE0.out _ _ (OwnG.weaken (rowsG_set (rowsG_set HO9.out hs1 0 (.slice A9 L.length c9)) hs1 1 (.slice none 0 0)) (by omega)) hu9))
  · have HE : Hid (∀ w', Calm w w' → PerfEnd l m (fun _ => true) w (.returned (.tuple #[.agg #[.slice none 0 0, .slice none 0 0], .int .i64 (dkErr l m)])) w') := show ∀ _, _ from fun w' hw => .inl ⟨hz, rfl, hw⟩
    have cC2 := fun u (hu : Calm w u) => (cC u hu).mono (fun e w' h => (show e = .returned (.tuple #[.agg #[.slice none 0 0, .slice none 0 0], .int .i64 (dkErr l m)]) ∧ Calm u w' by
      rcases h with ⟨-, h⟩ | ⟨h1, -⟩
      · exact h
      · exact absurd h1 hz))
    generalize PerfEnd l m (fun _ => true) w = PE at HE ⊢
    clear cC hz hP hQ hn hm
    generalize dkErr l m = E at HE cC2
    go_enter Try.func15, Try.ntmps15
    generalize hQ0 : bodyPost Try.prog Try.f15 PE = Q0
    have HRET : Hid (∀ a w', bodyPost Try.prog Try.f15 PE .ret a w' → Q0 .ret a w') := show ∀ _ _, _ from fun a w' h => by rw [← hQ0]; exact h
    clear hQ0
    go_wp2_with (go_at_call 44; (with_reducible refine (cC2 _ hu).mono ?_); rintro e w1 ⟨rfl, hb1⟩; replace hr := (hb1.block hrs).trans hr; replace hu := hu.call hb1; have hs1 := hrs; clear hb1 r0 r1 hrs f0 f1 x0 x1 hxs; obtain ⟨r0, r1, hrs⟩ := rowD hr; obtain ⟨f0, f1⟩ := freeD2 hr)
    have hr9 := setD2 hr (.slice none 0 0) (.slice none 0 0)
    have hu9 := hu.twoD (g := w.heap.size + 1) (by omega) (.slice none 0 0) (.slice none 0 0)
    exact HRET.out _ _ (end_dkE (p := 2) (q := 3) rfl rfl _ _ _ _ _ _ _ rfl rfl rfl hr9 rfl (HE.out _ hu9))
set_option maxHeartbeats 8000000 in
theorem diskCrash_any (P Q : Option Addr) (cp cq : Nat) (l : List ByteArray) (m : List Wr) (AK : Option Addr) (cK : Nat) (K : List Bool) (w : World) (hP : LiesP w P l) (hQ : LiesW w Q m) (hn : l.length ≤ 9223372036854775807) (hm : m.length ≤ 9223372036854775807) (hK : LiesO w AK K) :
    Calls Try.prog 16 #[.agg #[.slice P l.length cp, .slice Q m.length cq], .slice AK K.length cK] w (PerfEnd l m (selK K) w) := by
  have hx := heap_past (.cells #[.slice none 0 0, .slice none 0 0] 25) (heap_past (.cells #[.slice AK K.length cK] 26) (heap_new w (.cells #[.slice P l.length cp, .slice Q m.length cq] 25)))
  have hk := heap_past (.cells #[.slice none 0 0, .slice none 0 0] 25) (heap_new (w.alloc (.cells #[.slice P l.length cp, .slice Q m.length cq] 25)) (.cells #[.slice AK K.length cK] 26))
  have hr := heap_new ((w.alloc (.cells #[.slice P l.length cp, .slice Q m.length cq] 25)).alloc (.cells #[.slice AK K.length cK] 26)) (.cells #[.slice none 0 0, .slice none 0 0] 25)
  rw [World.size_alloc] at hk hr
  rw [World.size_alloc] at hr
  have hu := (((Calm.refl w).alloc (.cells #[.slice P l.length cp, .slice Q m.length cq] 25)).alloc (.cells #[.slice AK K.length cK] 26)).alloc (.cells #[.slice none 0 0, .slice none 0 0] 25)
  obtain ⟨k0, hks⟩ := row1 hk
  replace hk : KBx (w.heap.size + 1) AK K.length cK _ := hk
  obtain ⟨x0, x1, hxs⟩ := rowD hx
  obtain ⟨r0, r1, hrs⟩ := rowD hr
  obtain ⟨f0, f1⟩ := freeD2 hr
  have cC := fun u (hu : Calm w u) (hk : KBx (w.heap.size + 1) AK K.length cK u) => perfCrash_any P Q cp cq l m (w.heap.size + 1) AK cK K u (hP.calm hu) (hQ.calm hu) hn hm hk (hK.calm hu)
  clear hK
  by_cases hz : dkErr l m = 0
  · have HE0 : Hid (∀ w' v, OwnP w.heap.size w' v (doneL (selK K) 0 m l) → Calm w w' → PerfEnd l m (selK K) w (.returned (.tuple #[.agg #[v, .slice none 0 0], .int .i64 0])) w') := show ∀ _, _ from fun w' v h1 hw => .inr ⟨hz, v, rfl, h1, hw⟩
    have cC2 := fun u (hu : Calm w u) (hk : KBx (w.heap.size + 1) AK K.length cK u) => (cC u hu hk).mono (fun e w' h => (show ∃ A c, e = .returned (.tuple #[.agg #[.slice A (doneL (selK K) 0 m l).length c, .slice none 0 0], .int .i64 0]) ∧ OwnP u.heap.size w' (.slice A (doneL (selK K) 0 m l).length c) (doneL (selK K) 0 m l) ∧ Calm u w' by
      rcases h with ⟨h, -⟩ | ⟨h1, v, h2, h3, h4⟩
      · exact absurd hz h
      · obtain ⟨A, c, rfl, -, -⟩ := h3.slice
        exact ⟨A, c, h2, h3, h4⟩))
    generalize PerfEnd l m (selK K) w = PE at HE0 ⊢
    clear cC hz hP hQ hn hm
    generalize doneL (selK K) 0 m l = L at HE0 cC2
    go_enter Try.func16, Try.ntmps16
    generalize hQ0 : bodyPost Try.prog Try.f16 PE = Q0
    have HRET : Hid (∀ a w', bodyPost Try.prog Try.f16 PE .ret a w' → Q0 .ret a w') := show ∀ _ _, _ from fun a w' h => by rw [← hQ0]; exact h
    clear hQ0
    go_wp2_with (go_at_call 44; (with_reducible refine (cC2 _ hu hk).mono ?_); rintro e w1 ⟨A9, c9, rfl, ho9, hb1⟩; have HO9 := Lib.hid ho9; clear ho9; replace hr := (hb1.block hrs).trans hr; replace hu := hu.call hb1; have hs1 := hrs; clear hb1 k0 hks hk r0 r1 hrs f0 f1 x0 x1 hxs; obtain ⟨r0, r1, hrs⟩ := rowD hr; obtain ⟨f0, f1⟩ := freeD2 hr)
    have hr9 := setD2 hr (.slice A9 L.length c9) (.slice none 0 0)
    have hu9 := hu.twoD (g := w.heap.size + 1 + 1) (by omega) (.slice A9 L.length c9) (.slice none 0 0)
    exact HRET.out _ _ (end_dkE (p := 4) (q := 5) rfl rfl _ _ _ _ _ _ _ rfl rfl rfl hr9 rfl (HE0.out _ _ (OwnG.weaken (rowsG_set (rowsG_set HO9.out hs1 0 (.slice A9 L.length c9)) hs1 1 (.slice none 0 0)) (by omega)) hu9))
  · have HE : Hid (∀ w', Calm w w' → PerfEnd l m (selK K) w (.returned (.tuple #[.agg #[.slice none 0 0, .slice none 0 0], .int .i64 (dkErr l m)])) w') := show ∀ _, _ from fun w' hw => .inl ⟨hz, rfl, hw⟩
    have cC2 := fun u (hu : Calm w u) (hk : KBx (w.heap.size + 1) AK K.length cK u) => (cC u hu hk).mono (fun e w' h => (show e = .returned (.tuple #[.agg #[.slice none 0 0, .slice none 0 0], .int .i64 (dkErr l m)]) ∧ Calm u w' by
      rcases h with ⟨-, h⟩ | ⟨h1, -⟩
      · exact h
      · exact absurd h1 hz))
    generalize PerfEnd l m (selK K) w = PE at HE ⊢
    clear cC hz hP hQ hn hm
    generalize dkErr l m = E at HE cC2
    go_enter Try.func16, Try.ntmps16
    generalize hQ0 : bodyPost Try.prog Try.f16 PE = Q0
    have HRET : Hid (∀ a w', bodyPost Try.prog Try.f16 PE .ret a w' → Q0 .ret a w') := show ∀ _ _, _ from fun a w' h => by rw [← hQ0]; exact h
    clear hQ0
    go_wp2_with (go_at_call 44; (with_reducible refine (cC2 _ hu hk).mono ?_); rintro e w1 ⟨rfl, hb1⟩; replace hr := (hb1.block hrs).trans hr; replace hu := hu.call hb1; have hs1 := hrs; clear hb1 k0 hks hk r0 r1 hrs f0 f1 x0 x1 hxs; obtain ⟨r0, r1, hrs⟩ := rowD hr; obtain ⟨f0, f1⟩ := freeD2 hr)
    have hr9 := setD2 hr (.slice none 0 0) (.slice none 0 0)
    have hu9 := hu.twoD (g := w.heap.size + 1 + 1) (by omega) (.slice none 0 0) (.slice none 0 0)
    exact HRET.out _ _ (end_dkE (p := 4) (q := 5) rfl rfl _ _ _ _ _ _ _ rfl rfl rfl hr9 rfl (HE.out _ hu9))
open Go.RowKit
set_option maxHeartbeats 8000000 in
theorem sameDisk_any (P Q P' Q' : Option Addr) (cp cq cp' cq' : Nat) (l l' : List ByteArray) (m m' : List Wr) (w : World) (hP : LiesP w P l) (hQ : LiesW w Q m) (hP' : LiesP w P' l') (hQ' : LiesW w Q' m') (hn : l.length ≤ 9223372036854775807) (hm : m.length ≤ 9223372036854775807) :
    Calls Try.prog 19 #[.agg #[.slice P l.length cp, .slice Q m.length cq], .agg #[.slice P' l'.length cp', .slice Q' m'.length cq']] w fun e w' => e = .returned (.bool (decide (l = l') && decide (m = m'))) ∧ Calm w w' := by
  have hx := heap_past (.cells #[.slice P' l'.length cp', .slice Q' m'.length cq'] 25) (heap_new w (.cells #[.slice P l.length cp, .slice Q m.length cq] 25))
  have hy := heap_new (w.alloc (.cells #[.slice P l.length cp, .slice Q m.length cq] 25)) (.cells #[.slice P' l'.length cp', .slice Q' m'.length cq'] 25)
  rw [World.size_alloc] at hy
  have hu := ((Calm.refl w).alloc (.cells #[.slice P l.length cp, .slice Q m.length cq] 25)).alloc (.cells #[.slice P' l'.length cp', .slice Q' m'.length cq'] 25)
  have cE := fun u (hu : Calm w u) => equalP_any P P' cp cp' l l' u hn (hP.calm hu) (hP'.calm hu)
  have cF := fun u (hu : Calm w u) => equalW_any Q Q' cq cq' m m' u hm (hQ.calm hu) (hQ'.calm hu)
  obtain ⟨x0, x1, hxs⟩ := rowD hx
  obtain ⟨y0, y1, hys⟩ := rowD hy
  generalize decide (l = l') = a at cE ⊢
  generalize decide (m = m') = b at cF ⊢
  clear hP hQ hP' hQ'
  cases a
  · go_enter Try.func19, Try.ntmps19
    go_wp2_with (go_at_call 30; (with_reducible refine (cE _ hu).mono ?_); rintro e w1 ⟨rfl, hb1⟩; replace hx := (hb1.block hxs).trans hx; replace hy := (hb1.block hys).trans hy; replace hu := hu.call hb1; clear hb1; obtain ⟨x0, x1, hxs⟩ := rowD hx; obtain ⟨y0, y1, hys⟩ := rowD hy)
    go_ret
    exact ⟨rfl, hu⟩
  · go_enter Try.func19, Try.ntmps19
    go_wp2_with first
      | (go_at_call 30; (with_reducible refine (cE _ hu).mono ?_); rintro e w1 ⟨rfl, hb1⟩; replace hx := (hb1.block hxs).trans hx; replace hy := (hb1.block hys).trans hy; replace hu := hu.call hb1; clear hb1; obtain ⟨x0, x1, hxs⟩ := rowD hx; obtain ⟨y0, y1, hys⟩ := rowD hy)
      | (go_at_call 48; (with_reducible refine (cF _ hu).mono ?_); rintro e w2 ⟨rfl, hb1⟩; replace hu := hu.call hb1; clear hb1)
    go_ret
    exact ⟨rfl, hu⟩
theorem sameDisk_self (P Q P' Q' : Option Addr) (cp cq cp' cq' : Nat) (l : List ByteArray) (m : List Wr) (w : World) (hP : LiesP w P l) (hQ : LiesW w Q m) (hP' : LiesP w P' l) (hQ' : LiesW w Q' m) (hn : l.length ≤ 9223372036854775807) (hm : m.length ≤ 9223372036854775807) :
    Calls Try.prog 19 #[.agg #[.slice P l.length cp, .slice Q m.length cq], .agg #[.slice P' l.length cp', .slice Q' m.length cq']] w fun e w' => e = .returned (.bool true) ∧ Calm w w' := by
  have := sameDisk_any P Q P' Q' cp cq cp' cq' l l m m w hP hQ hP' hQ' hn hm
  simpa using this
open Go.RowKit
theorem results_dk {fn : Func} {p : Tmp} (h : fn.results = #[.cell p 25]) (tmps : Array Value) (w : World) (g : Nat) (t : TypeId) (cs : Array Value) (fr : Nat × Nat)
    (hp : tmps.getD p undef = .pointer (some ⟨g, 0, none⟩)) (hg : w.heap[g]? = some (.cells cs t fr)) (hsz : cs.size = 2) : (results fn tmps).run Try.prog w = .ok (.agg cs) w := by
  have hp' : tmps[p]?.getD undef = .pointer (some ⟨g, 0, none⟩) := by simpa using hp
  have hi : (Try.prog.info? 25).map (·.size) = some cs.size := by rw [hsz]; kernel_rfl
  simp [results, h, hp', asAddr, run_loadVar_row w g t 25 cs fr _ hg Try.underlying25 rfl hi]
theorem end_dk {P : Program} {fn : Func} {p : Tmp} {Q : Ending → World → Prop} (hP : P = Try.prog) (h : fn.results = #[.cell p 25]) (a : Act) (w : World) (g : Nat) (t : TypeId) (cs : Array Value) (fr : Nat × Nat) (hd : a.defers = [])
    (hp : a.tmps.getD p undef = .pointer (some ⟨g, 0, none⟩)) (hg : w.heap[g]? = some (.cells cs t fr)) (hsz : cs.size = 2) (hQ : Q (.returned (.agg cs)) w) : bodyPost P fn Q .ret a w := by
  subst hP
  exact bodyPost_ret (v := .agg cs) (results_dk h a.tmps w g t cs fr hp hg hsz) hd hQ
open Go.RowKit
structure HasD (w : World) (P Q : Option Addr) (l : List ByteArray) (m : List Wr) : Prop where
 p : LiesP w P l
 q : LiesW w Q m
structure DkO (B : Nat) (w : World) (P Q : Option Addr) (cp cq : Nat) (l : List ByteArray) (m : List Wr) : Prop where
 p : OwnP B w (.slice P l.length cp) l
 q : OwnW B w (.slice Q m.length cq) m
section
variable {w w' : World} {P Q : Option Addr} {l : List ByteArray} {m : List Wr} {B cp cq : Nat}
theorem HasD.calm (h : HasD w P Q l m) (hb : Calm w w') : HasD w' P Q l m := ⟨h.p.calm hb, h.q.calm hb⟩
theorem DkO.two (h : DkO B w P Q cp cq l m) {g : Nat} (hg : g < B) (a b : Value) : DkO B ((w.setCell ⟨g, 0, none⟩ a).setCell ⟨g, 1, none⟩ b) P Q cp cq l m := ⟨rowsG_set (rowsG_set h.p hg 0 a) hg 1 b, rowsG_set (rowsG_set h.q hg 0 a) hg 1 b⟩
theorem DkO.has (h : DkO B w P Q cp cq l m) : HasD w P Q l m := ⟨(OwnP.at_ h.p).2, (OwnW.at_ h.q).2⟩
end
theorem dk_len {l : List ByteArray} {m : List Wr} (h : dkErr l m = 0) : l.length ≤ 9223372036854775807 ∧ m.length ≤ 9223372036854775807 := by
 have := dkErr_zero.1 h
 omega
def NoDisk (E : Int) (w : World) (e : Ending) (w' : World) : Prop := e = .returned (.tuple #[.agg #[.slice none 0 0, .slice none 0 0], .int .i64 E]) ∧ Calm w w'
def ADisk (l : List ByteArray) (m : List Wr) (w : World) (e : Ending) (w' : World) : Prop := ∃ P cp Q cq, e = .returned (.tuple #[.agg #[.slice P l.length cp, .slice Q m.length cq], .int .i64 0]) ∧ DkO w.heap.size w' P Q cp cq l m ∧ Calm w w'
section
variable {w : World} {P Q : Option Addr} {l : List ByteArray} {m : List Wr}
theorem HasD.put_bad (h : HasD w P Q l m) (cp cq : Nat) (hn : l.length ≤ 9223372036854775807) (hm : m.length ≤ 9223372036854775807) {i : Int} {s : ByteArray} {E : Int} (hE : ptE l m ⟨i, s⟩ = E) (h0 : E ≠ 0) : Calls Try.prog 14 #[.agg #[.slice P l.length cp, .slice Q m.length cq], .int .i64 i, .string s] w (NoDisk E w) :=
 (diskPut_bad P Q cp cq l m i s w h.p h.q hn hm (by rw [hE]; exact h0)).mono fun e w' he => by
  rcases he with ⟨-, h2, h3⟩ | ⟨h2, -⟩
  ·rw [hE] at h2; exact ⟨h2, h3⟩
  ·rw [hE] at h2; exact absurd h2 h0
theorem HasD.put_ok (h : HasD w P Q l m) (cp cq : Nat) {i : Int} {s : ByteArray} (hE : ptE l m ⟨i, s⟩ = 0) : Calls Try.prog 14 #[.agg #[.slice P l.length cp, .slice Q m.length cq], .int .i64 i, .string s] w (ADisk l (m ++ [⟨i, s⟩]) w) := by
 have hz : dkErr l m = 0 := by
  by_cases hz : dkErr l m = 0
  ·exact hz
  ·unfold ptE at hE; rw [if_neg hz] at hE; exact absurd hE hz
 have hn := dk_len hz
 refine (diskPut_ok P Q cp cq l m i s w h.p h.q hn.1 hn.2 hE).mono fun e w' he => ?_
 rcases he with ⟨h2, -⟩ | ⟨-, v, u, h2, h3, h4, h5⟩
 ·exact absurd hE h2
 ·obtain ⟨P', cp', rfl, -, -⟩ := h3.slice
  obtain ⟨Q', cq', rfl, -, -⟩ := h4.slice
  exact ⟨P', cp', Q', cq', h2, ⟨h3, h4⟩, h5⟩
end
/-- The disk of one page that the laws begin with. -/
theorem one_any (s : ByteArray) (w : World) : Calls Try.prog 28 #[.string s] w fun e w' => ∃ g, e = .returned (.agg #[.slice (some ⟨g, 0, none⟩) 1 1, .slice none 0 0]) ∧ w'.heap[g]? = some (.cells #[.string s] 9 (0, 0)) ∧ Calm w w' := by
 go_enter Try.func28, Try.ntmps28
 generalize hQ0 : bodyPost Try.prog Try.f28 _ = Q0
 have HRET : Hid (∀ (a : Act) w' g, a.defers = [] → a.tmps.getD 2 undef = .pointer (some ⟨w.heap.size, 0, none⟩) → w'.heap[w.heap.size]? = some (.cells #[.slice (some ⟨g, 0, none⟩) 1 1, .slice none 0 0] 25 (0, 0)) → w'.heap[g]? = some (.cells #[.string s] 9 (0, 0)) → Calm w w' → Q0 .ret a w') := show ∀ _ _ _, _ from fun a w' g h0 h1 h2 h3 h4 => by
  rw [← hQ0]
  exact end_dk (p := 2) rfl rfl a w' w.heap.size _ _ (0, 0) h0 h1 h2 rfl ⟨g, rfl, h3, h4⟩
 clear hQ0
 go_wp2_with fail
 exact HRET.out _ _ (w.heap.size + 1) rfl rfl (heap_past _ (heap_new w _)) (by have := heap_new (w.alloc (.cells #[.slice (some ⟨w.heap.size + 1, 0, none⟩) 1 1, .slice none 0 0] 25)) (.cells #[.string s] 9); rw [World.size_alloc] at this; exact this) (((Calm.refl w).alloc _).alloc _)
theorem lies_one1 {w : World} {g : Nat} {s : ByteArray} (h : w.heap[g]? = some (.cells #[.string s] 9 (0, 0))) : HasD w (some ⟨g, 0, none⟩) none [s] [] :=
 ⟨fun _ => ⟨g, 0, rfl, (Array.getElem?_eq_some_iff.1 h).1, fun k x hk j hj => by
  have hk0 : k = 0 := by have := (List.getElem?_eq_some_iff.1 hk).1; simp at this; omega
  have hj0 : j = 0 := by omega
  subst hk0; subst hj0
  simp at hk; subst hk
  exact cell_of_row _ _ 0 _ _ _ h⟩, LiesG.nil_⟩
def ASync (L : List ByteArray) (n : Nat) (w : World) (e : Ending) (w' : World) : Prop := ∃ P cp, e = .returned (.tuple #[.agg #[.slice P n cp, .slice none 0 0], .int .i64 0]) ∧ OwnP w.heap.size w' (.slice P n cp) L ∧ Calm w w'
section
variable {w : World} {P Q : Option Addr} {l : List ByteArray} {m : List Wr}
theorem HasD.sync (h : HasD w P Q l m) (cp cq : Nat) (hz : dkErr l m = 0) : Calls Try.prog 15 #[.agg #[.slice P l.length cp, .slice Q m.length cq]] w (ASync (curP l m) l.length w) := by
 have hn := dk_len hz
 refine (diskSync_any P Q cp cq l m w h.p h.q hn.1 hn.2).mono fun e w' he => ?_
 rcases he with ⟨h2, -⟩ | ⟨-, v, h2, h3, h5⟩
 ·exact absurd hz h2
 ·obtain ⟨P', cp', rfl, -, -⟩ := OwnG.slice h3
  rw [doneL_len] at h2 h3
  exact ⟨P', cp', h2, h3, h5⟩
theorem HasD.crash (h : HasD w P Q l m) (cp cq : Nat) (hz : dkErr l m = 0) (A : Option Addr) (c : Nat) (K : List Bool) (hK : LiesO w A K) : Calls Try.prog 16 #[.agg #[.slice P l.length cp, .slice Q m.length cq], .slice A K.length c] w (ASync (doneL (selK K) 0 m l) l.length w) := by
 have hn := dk_len hz
 refine (diskCrash_any P Q cp cq l m A c K w h.p h.q hn.1 hn.2 hK).mono fun e w' he => ?_
 rcases he with ⟨h2, -⟩ | ⟨-, v, h2, h3, h5⟩
 ·exact absurd hz h2
 ·obtain ⟨P', cp', rfl, -, -⟩ := OwnG.slice h3
  rw [doneL_len] at h2 h3
  exact ⟨P', cp', h2, h3, h5⟩
end
theorem put_one (g : Nat) (u : World) (h : u.heap[g]? = some (.cells #[.string { data := #[97] }] 9 (0, 0))) : Calls Try.prog 14 #[.agg #[.slice (some ⟨g, 0, none⟩) 1 1, .slice none 0 0], .int .i64 0, .string { data := #[98] }] u fun e w' => ∃ P cp Q cq, e = .returned (.tuple #[.agg #[.slice P 1 cp, .slice Q 1 cq], .int .i64 0]) ∧ HasD w' P Q [{ data := #[97] }] [⟨0, { data := #[98] }⟩] ∧ Calm u w' :=
 ((lies_one1 h).put_ok 1 0 (i := 0) (s := { data := #[98] }) (by decide +kernel)).mono fun e w' ⟨P, cp, Q, cq, h1, h2, h3⟩ => ⟨P, cp, Q, cq, h1, h2.has, h3⟩
open Go.RowKit
theorem two_otherD {w : World} {g k : Nat} (h : k ≠ g) (a b : Value) : ((w.setCell ⟨g, 0, none⟩ a).setCell ⟨g, 1, none⟩ b).heap[k]? = w.heap[k]? :=
 (heap_setCell_other _ ⟨g, 1, none⟩ k b h).trans (heap_setCell_other _ ⟨g, 0, none⟩ k a h)
/-- make([]bool, k). -/
theorem makeBools (w : World) (k : Nat) (hk : k ≤ 281474976710656) : (Instr.makeSlice 26 (.int .i64 (k : Int)) (.int .i64 (k : Int))).run Try.prog w =
    .ok (.slice (some ⟨w.heap.size, 0, none⟩) k k) (w.alloc (.cells (cvs boC (List.replicate k false)).toArray 4)) := by
  obtain ⟨i, hi, hz, h1, h2⟩ : ∃ i, Try.prog.info? 4 = some i ∧ i.zero = some (.bool false) ∧ i.size = 1 ∧ i.bytes = 1 := by
    have h : (Try.prog.info? 4).map (fun i => (i.zero, i.size, i.bytes)) = some (some (.bool false), 1, 1) := by kernel_rfl
    match hi : Try.prog.info? 4, h with
    | some i, h =>
      simp only [Option.map_some, Option.some.injEq, Prod.mk.injEq] at h
      exact ⟨i, rfl, h.1, h.2.1, h.2.2⟩
  rw [run_make w 26 4 i _ Try.underlying26 hi hz .i64 .i64 k k (by omega) (by omega) (by rw [h2]; omega) (by omega), h1]
  have e : madeCells (Value.bool false).cells (((k : Int)).toNat * 1) = (cvs boC (List.replicate k false)).toArray := by
    have h0 : cvs boC (List.replicate k false) = List.replicate k (Value.bool false) := by
      unfold cvs
      induction k with
      | zero => rfl
      | succ k ih => rw [List.replicate_succ, List.flatMap_cons, List.replicate_succ, ih (by omega)]; rfl
    rw [h0]
    simp only [madeCells, Value.cells, Int.toNat_natCast, Nat.mul_one]
    apply Array.ext
    · simp
    · intro i h1 h2
      simp [Nat.mod_one]
  rw [e]; rfl
theorem own_bools (w : World) (k : Nat) (hk : k ≤ 1000000) : OwnG 4 boC 1 w.heap.size (w.alloc (.cells (cvs boC (List.replicate k false)).toArray 4)) (.slice (some ⟨w.heap.size, 0, none⟩) k k) (List.replicate k false) := by
 have hl : (cvs boC (List.replicate k false)).length = k := by rw [cvs_len boC_len, List.length_replicate, Nat.mul_one]
 refine ⟨cvs_len boC_len _, .inr ⟨w.heap.size, k, _, by rw [List.length_replicate], Nat.le_refl _, heap_new _ _, by rw [List.length_replicate]; exact Nat.le_refl _, by unfold maxLen; omega, by simp [hl], ?_⟩⟩
 simp only [List.length_replicate, Nat.mul_one]
 rw [List.take_of_length_le (by simp [hl])]
theorem rep_set (n k : Nat) (hk : k < n) : (List.replicate k true ++ List.replicate (n - k) false).set k true = List.replicate (k + 1) true ++ List.replicate (n - (k + 1)) false := by
 rw [List.set_append_right _ _ (by simp), List.length_replicate, Nat.sub_self]
 obtain ⟨j, hj⟩ : ∃ j, n - k = j + 1 := ⟨n - k - 1, by omega⟩
 rw [hj, List.replicate_succ, List.set_cons_zero, show n - (k + 1) = j by omega, List.replicate_succ' (n := k)]
 simp
theorem sel_all (n j : Nat) (hj : j < n) : selK (List.replicate n true) j = true := by
 unfold selK
 rw [List.length_replicate, decide_eq_true hj, List.getD_eq_getElem?_getD, List.getElem?_replicate, if_pos hj]; rfl
theorem crash_one (P Q : Option Addr) (cp cq : Nat) (u : World) (h : HasD u P Q [{ data := #[97] }] [⟨0, { data := #[98] }⟩]) : Calls Try.prog 16 #[.agg #[.slice P 1 cp, .slice Q 1 cq], .slice none 0 0] u fun e w' => ∃ P' cp', e = .returned (.tuple #[.agg #[.slice P' 1 cp', .slice none 0 0], .int .i64 0]) ∧ LiesP w' P' [{ data := #[97] }] ∧ Calm u w' :=
 (h.crash cp cq (by decide +kernel) none 0 [] LiesG.nil_).mono fun e w' ⟨P', cp', h1, h2, h3⟩ => by
  rw [doneL_none (fun j _ => by unfold selK; rfl)] at h2
  exact ⟨P', cp', h1, (OwnP.at_ h2).2, h3⟩
theorem same_safe {u : World} {P P' : Option Addr} {n cp cp' : Nat} {L : List ByteArray} (hP : LiesP u P L) (hP' : LiesP u P' L) (hn : L.length = n) (hl : n ≤ 9223372036854775807) : Calls Try.prog 19 #[.agg #[.slice P n cp, .slice none 0 0], .agg #[.slice P' n cp', .slice none 0 0]] u fun e w' => e = .returned (.bool true) ∧ Calm u w' := by
 subst hn
 exact sameDisk_self P none P' none cp 0 cp' 0 L [] u hP LiesG.nil_ hP' LiesG.nil_ hl (by simp)
theorem sync_safe {u : World} {P : Option Addr} {n cp : Nat} {L : List ByteArray} (hP : LiesP u P L) (hn : L.length = n) (hz : dkErr L [] = 0) : Calls Try.prog 15 #[.agg #[.slice P n cp, .slice none 0 0]] u (ASync L n u) := by
 subst hn
 exact HasD.sync (Q := none) (m := []) ⟨hP, LiesG.nil_⟩ cp 0 hz
theorem crash_all {u : World} {P Q : Option Addr} {l : List ByteArray} {m : List Wr} {n : Nat} (h : HasD u P Q l m) (cp cq : Nat) (hz : dkErr l m = 0) (hn : m.length = n) {A : Option Addr} (c : Nat) (hK : LiesO u A (List.replicate n true)) : Calls Try.prog 16 #[.agg #[.slice P l.length cp, .slice Q m.length cq], .slice A n c] u (ASync (curP l m) l.length u) := by
 have h1 := h.crash cp cq hz A c _ hK
 rw [List.length_replicate, doneL_ext (g := fun _ => true) (fun j hj => by rw [Nat.zero_add]; exact sel_all n j (by omega))] at h1
 exact h1
theorem crash_none {u : World} {P Q : Option Addr} {l : List ByteArray} {m : List Wr} (h : HasD u P Q l m) (cp cq : Nat) (hz : dkErr l m = 0) : Calls Try.prog 16 #[.agg #[.slice P l.length cp, .slice Q m.length cq], .slice none 0 0] u (ASync l l.length u) := by
 have h1 := h.crash cp cq hz none 0 [] LiesG.nil_
 rw [doneL_none (fun j _ => by unfold selK; rfl)] at h1
 exact h1
def DtA (w1 : World) (m : Nat) (Y : Nat → Value) (u : World) : Prop := match m with
 | 0 => Calm w1 u
 | 1 => Calm w1 u ∧ ∃ g, Y 8 = .agg #[.slice (some ⟨g, 0, none⟩) 1 1, .slice none 0 0] ∧ u.heap[g]? = some (.cells #[.string { data := #[97] }] 9 (0, 0))
 | 2 => Calm w1 u ∧ Y 9 = .bool true
 | 3 => Calm w1 u ∧ Y 10 = .bool false
 |_ => Calm w1 u ∧ Y 11 = .bool false
theorem dtA_stay {w1 : World} : ∀ m Y w w', DtA w1 m Y w → Calm w w' → DtA w1 m Y w'
 | 0, _, _, _, h, hb => Calm.call h hb
 | 1, _, _, _, ⟨h, g, e, hg⟩, hb => ⟨h.call hb, g, e, (hb.block (row1 hg).2).trans hg⟩
 | 2, _, _, _, ⟨h, e⟩, hb => ⟨h.call hb, e⟩
 | 3, _, _, _, ⟨h, e⟩, hb => ⟨h.call hb, e⟩
 |_ + 4, _, _, _, ⟨h, e⟩, hb => ⟨h.call hb, e⟩
theorem dtA_calm {w1 : World} : ∀ {m Y w}, DtA w1 m Y w → Calm w1 w
 | 0, _, _, h => h
 | 1, _, _, ⟨h, _⟩ => h
 | 2, _, _, ⟨h, _⟩ => h
 | 3, _, _, ⟨h, _⟩ => h
 |_ + 4, _, _, ⟨h, _⟩ => h
theorem pt_next {l : List ByteArray} {m : List Wr} {x : Wr} (h : ptE l m x = 0) : dkErr l (m ++ [x]) = 0 ∧ m.length ≠ 400 := by
 by_cases hz : dkErr l m = 0
 ·by_cases hw : wrE l.length x = 0
  ·by_cases h4 : m.length = 400
   ·unfold ptE at h; rw [if_pos hz, if_pos hw, if_pos h4] at h; cases h
   ·obtain ⟨d1, d2, d3, d4⟩ := dkErr_zero.1 hz
    refine ⟨dkErr_zero.2 ⟨d1, by rw [List.length_append, List.length_singleton]; omega, d3, fun z hz => ?_⟩, h4⟩
    rcases List.mem_append.1 hz with hz | hz
    ·exact d4 z hz
    ·rw [List.mem_singleton.1 hz]; exact hw
  ·unfold ptE at h; rw [if_pos hz, if_neg hw] at h; exact absurd h hw
 ·unfold ptE at h; rw [if_neg hz] at h; exact absurd h hz
theorem equalP_self (A A' : Option Addr) (c c' : Nat) (l : List ByteArray) (w : World) (hn : l.length ≤ 9223372036854775807) (hL : LiesP w A l) (hL' : LiesP w A' l) : Calls Try.prog 30 #[.slice A l.length c, .slice A' l.length c'] w fun e w' => e = .returned (.bool true) ∧ Calm w w' := by
 have := equalP_any A A' c c' l l w hn hL hL'
 simpa using this
set_option maxHeartbeats 16000000 in
theorem dt_bad (P Q : Option Addr) (cp cq : Nat) (l : List ByteArray) (m : List Wr) (i : Int) (s : ByteArray) (w : World) (hh : HasD w P Q l m) (hn : l.length ≤ 9223372036854775807) (hm : m.length ≤ 9223372036854775807) (E : Int) (hE0 : E ≠ 0) (hE : ptE l m ⟨i, s⟩ = E) (h0 : dkErr l m ≠ 0) :
    Calls Try.prog 6 #[.agg #[.slice P l.length cp, .slice Q m.length cq], .int .i64 i, .string s] w fun e w' => e = .returned (.bool true) ∧ Calm w w' := by
  have hx := heap_new w (.cells #[.slice P l.length cp, .slice Q m.length cq] 25)
  have hu := (Calm.refl w).alloc (.cells #[.slice P l.length cp, .slice Q m.length cq] 25)
  have cP := fun u (hu : Calm w u) => (hh.calm hu).put_bad cp cq hn hm (hE : ptE l m ⟨i, s⟩ = E) hE0
  have b1 : (E != 0) = true := by rw [bne_iff_ne]; exact hE0
  have cC := fun u (hu : Calm w u) => diskCheck_any P Q cp cq l m u (hh.calm hu).p (hh.calm hu).q hn hm
  have b2 : (dkErr l m != 0) = true := by rw [bne_iff_ne]; exact h0
  clear h0 hE hE0 hn hm hh
  generalize dkErr l m = F at cC b2
  go_enter Try.func6, Try.ntmps6
  go_upto_region 1 with fail
  generalize w.alloc (.cells #[.slice P l.length cp, .slice Q m.length cq] 25) = w0 at hx hu ⊢
  obtain ⟨hx_0, hx_1, hx_s⟩ := rowD hx
  go_upto_region 3 with (first
      | (go_at_call 28; (with_reducible refine (one_any _ _).mono ?_); rintro e w1 ⟨g1, rfl, hg1, hk⟩; clear hx_0 hx_1 hx_s; replace hx := (hk.block (rowD hx).2.2).trans hx; replace hu := hu.call hk; clear hk; obtain ⟨hx_0, hx_1, hx_s⟩ := rowD hx)
      | (go_at_call 14; (with_reducible refine (put_one _ _ hg1).mono ?_); rintro e w2 ⟨P2, cp2, Q2, cq2, rfl, hd2, hk⟩; clear hg1; have HD2 := Lib.hid (hd2.calm ((Calm.refl _).alloc (.cells #[.slice P2 1 cp2, .slice Q2 1 cq2] 25))); clear hd2; clear hx_0 hx_1 hx_s; replace hx := (hk.block (rowD hx).2.2).trans hx; replace hu := hu.call hk; clear hk; obtain ⟨hx_0, hx_1, hx_s⟩ := rowD hx; have hXi := hx_s; clear hx_0 hx_1 hx_s; replace hx := heap_past (.cells #[.slice P2 1 cp2, .slice Q2 1 cq2] 25) hx; replace hu := hu.alloc (.cells #[.slice P2 1 cp2, .slice Q2 1 cq2] 25); have hX := heap_new w2 (.cells #[.slice P2 1 cp2, .slice Q2 1 cq2] 25); obtain ⟨hx_0, hx_1, hx_s⟩ := rowD hx; obtain ⟨hX_0, hX_1, hX_s⟩ := rowD hX)
      | (go_at_call 16; (with_reducible refine (crash_one _ _ _ _ _ HD2.out).mono ?_); rintro e w3 ⟨P3, cp3, rfl, hp3, hk⟩; clear HD2; have HP3 := Lib.hid (hp3.calm ((Calm.refl _).alloc (.cells #[.slice P3 1 cp3, .slice none 0 0] 25))); clear hp3; clear hx_0 hx_1 hx_s; clear hX_0 hX_1 hX_s; replace hx := (hk.block (rowD hx).2.2).trans hx; replace hX := (hk.block (rowD hX).2.2).trans hX; replace hu := hu.call hk; clear hk; obtain ⟨hx_0, hx_1, hx_s⟩ := rowD hx; obtain ⟨hX_0, hX_1, hX_s⟩ := rowD hX; clear hx_0 hx_1 hx_s; clear hX_0 hX_1 hX_s; replace hx := heap_past (.cells #[.slice P3 1 cp3, .slice none 0 0] 25) hx; replace hX := heap_past (.cells #[.slice P3 1 cp3, .slice none 0 0] 25) hX; replace hu := hu.alloc (.cells #[.slice P3 1 cp3, .slice none 0 0] 25); have hY := heap_new w3 (.cells #[.slice P3 1 cp3, .slice none 0 0] 25); obtain ⟨hx_0, hx_1, hx_s⟩ := rowD hx; obtain ⟨hX_0, hX_1, hX_s⟩ := rowD hX; obtain ⟨hY_0, hY_1, hY_s⟩ := rowD hY))
  have hXs := hX_s
  generalize w2.heap.size = gX at hX hX_0 hX_1 hX_s hXi hXs ⊢
  generalize hgY : w3.heap.size = gY at hY hY_0 hY_1 hY_s ⊢
  clear hgY
  generalize w3.alloc (.cells #[.slice P3 1 cp3, .slice none 0 0] 25) = w4 at hx hX hY hu HP3 hx_0 hx_1 hx_s hX_0 hX_1 hX_s hY_0 hY_1 hY_s hXs ⊢
  have H_hY := Lib.hid hY
  have cS1 := fun u (P5 : Option Addr) (cp5 : Nat) (hu : Calm w4 u) (h5 : LiesP u P5 [{ data := #[97] }]) => same_safe (n := 1) (cp := cp3) (cp' := cp5) (HP3.out.calm hu) h5 rfl (by decide)
  refine wp_region_stages [.val (.int .i64 0), .val (.bool false), .val (.bool false), .val (.int .i64 0), .val (.bool false), .val (.bool false), .val (.bool false), .val (.agg #[.slice P3 1 cp3, .slice none 0 0]), .late, .late [8], .late [9], .late [10]] [8, 9, 10, 11]
    (ChainS 4 (DtA w4)) (by kernel_rfl) (by kernel_rfl) (by kernel_rfl) (ChainS.stay dtA_stay) (fun Y => ChainS.start (late := [8, 9, 10, 11]) (show Calm _ _ from (Calm.refl _).drew)) (fun Y => ?_)
  iterate 7
    refine planS_val (by kernel_rfl) (fun L9 u hb hS => ?_) ?_
    · clear hS hb
      go_simp
    simp only [Act.put, List.setIfInBounds_toArray, List.set_cons_zero, List.set_cons_succ, Nat.reduceAdd]
  refine planS_val (by kernel_rfl) (fun L9 u hb hS => ?_) ?_
  · obtain ⟨k9, -, hA⟩ := ChainS.any (late := [8, 9, 10, 11]) hS
    have hc := dtA_calm hA
    obtain ⟨y0, y1, ys⟩ := rowD ((hc.block (rowD H_hY.out).2.2).trans H_hY.out)
    clear hS hb hA hc
    go_simp
  simp only [Act.put, List.setIfInBounds_toArray, List.set_cons_zero, List.set_cons_succ, Nat.reduceAdd]
  refine planS_late (fun L9 u hi hb hS => ?_) ?_
  · obtain ⟨hA, hN⟩ := ChainS.step (late := [8, 9, 10, 11]) (m := 0) hS rfl hi (fun j h0 h => by exact absurd h0 (Nat.lt_irrefl _)) (by decide)
    have hc : Calm w4 u := hA
    have H := Lib.hid (fun g u' (hb : Calm u u') (hg : u'.heap[g]? = some (.cells #[.string { data := #[97] }] 9 (0, 0))) => hN (.agg #[.slice (some ⟨g, 0, none⟩) 1 1, .slice none 0 0]) u' (show DtA w4 1 _ u' from ⟨hc.call hb, g, by simp [updV], hg⟩))
    clear hA hN hc hS hb hi cS1
    go_wp2_with (go_at_call 28; (with_reducible refine (one_any _ _).mono ?_); rintro e w5 ⟨g5, rfl, hg5, hk⟩; have HG5 := Lib.hid hg5; have HK5 := Lib.hid hk; clear hg5 hk)
    exact H.out g5 w5 HK5.out HG5.out
  simp only [Act.put, List.setIfInBounds_toArray, List.set_cons_zero, List.set_cons_succ, Nat.reduceAdd]
  refine planS_late (fun L9 u hi hb hS => ?_) ?_
  · obtain ⟨hA, hN⟩ := ChainS.step (late := [8, 9, 10, 11]) (m := 1) hS rfl hi (fun j _ h => by cases h; exact hb 8 (by simp)) (by decide)
    obtain ⟨hc, g, eY, hg⟩ := (show Calm w4 u ∧ ∃ g, Y 8 = .agg #[.slice (some ⟨g, 0, none⟩) 1 1, .slice none 0 0] ∧ u.heap[g]? = some (.cells #[.string { data := #[97] }] 9 (0, 0)) from hA)
    have H := Lib.hid (fun u' (hb : Calm u u') => hN (.bool true) u' (show DtA w4 2 _ u' from ⟨hc.call hb, by simp [updV]⟩))
    have c1 := cS1 u _ 1 hc (lies_one1 hg).p
    rw [eY]
    clear hA hN hc hS hb hi cS1 eY hg
    go_wp2_with (go_at_call 19; (with_reducible refine c1.mono ?_); rintro e w5 ⟨rfl, hk⟩; have HK5 := Lib.hid hk; clear hk)
    exact H.out w5 HK5.out
  simp only [Act.put, List.setIfInBounds_toArray, List.set_cons_zero, List.set_cons_succ, Nat.reduceAdd]
  refine planS_late (fun L9 u hi hb hS => ?_) ?_
  · obtain ⟨hA, hN⟩ := ChainS.step (late := [8, 9, 10, 11]) (m := 2) hS rfl hi (fun j _ h => by cases h; exact hb 9 (by simp)) (by decide)
    obtain ⟨hc, eY⟩ := (show Calm w4 u ∧ Y 9 = .bool true from hA)
    have H := Lib.hid (hN (.bool false) u (show DtA w4 3 _ u from ⟨hc, by simp [updV]⟩))
    rw [eY]
    clear hA hN hc hS hb hi cS1 eY
    go_wp2_with fail
    exact H.out
  simp only [Act.put, List.setIfInBounds_toArray, List.set_cons_zero, List.set_cons_succ, Nat.reduceAdd]
  refine planS_late (fun L9 u hi hb hS => ?_) ?_
  · obtain ⟨hA, hN⟩ := ChainS.step (late := [8, 9, 10, 11]) (m := 3) hS rfl hi (fun j _ h => by cases h; exact hb 10 (by simp)) (by decide)
    obtain ⟨hc, eY⟩ := (show Calm w4 u ∧ Y 10 = .bool false from hA)
    have H := Lib.hid (hN (.bool false) u (show DtA w4 4 _ u from ⟨hc, by simp [updV]⟩))
    rw [eY]
    clear hA hN hc hS hb hi cS1 eY
    go_wp2_with fail
    exact H.out
  try simp only [Act.put, Nat.reduceAdd]
  refine planS_end ?_
  intro w6 hS
  obtain ⟨hc6, eY⟩ := (show Calm w4 w6 ∧ Y 11 = .bool false from ChainS.done (late := [8, 9, 10, 11]) hS)
  rw [eY]
  clear hS eY cS1 H_hY HP3
  clear hx_0 hx_1 hx_s; clear hX_0 hX_1 hX_s; clear hY_0 hY_1 hY_s
  clear hY
  replace hx := (hc6.block (rowD hx).2.2).trans hx
  replace hX := (hc6.block (rowD hX).2.2).trans hX
  replace hXs := Nat.lt_of_lt_of_le hXs hc6.size
  replace hu := hu.call hc6
  clear hc6
  obtain ⟨hx_0, hx_1, hx_s⟩ := rowD hx; obtain ⟨hX_0, hX_1, hX_s⟩ := rowD hX
  obtain ⟨fX0, fX1⟩ := freeD2 hX
  go_upto_region 6 with (go_at_call 14; (with_reducible refine (cP _ hu).mono ?_); rintro e w7 ⟨rfl, hk⟩; clear cP fX0 fX1; clear hx_0 hx_1 hx_s; clear hX_0 hX_1 hX_s; replace hx := (hk.block (rowD hx).2.2).trans hx; replace hX := (hk.block (rowD hX).2.2).trans hX; replace hu := hu.call hk; clear hk; obtain ⟨hx_0, hx_1, hx_s⟩ := rowD hx; obtain ⟨hX_0, hX_1, hX_s⟩ := rowD hX; obtain ⟨fX0, fX1⟩ := freeD2 hX)
  clear fX0 fX1
  clear hx_0 hx_1 hx_s; clear hX_0 hX_1 hX_s
  replace hx := (two_otherD (w := w7) (g := gX) (by omega) (.slice none 0 0) (.slice none 0 0)).trans hx
  replace hX := setD2 hX (.slice none 0 0) (.slice none 0 0)
  replace hu := hu.twoD (g := gX) (by omega) (.slice none 0 0) (.slice none 0 0)
  generalize (w7.setCell ⟨gX, 0, none⟩ (.slice none 0 0)).setCell ⟨gX, 1, none⟩ (.slice none 0 0) = w8 at hx hX hu ⊢
  obtain ⟨hx_0, hx_1, hx_s⟩ := rowD hx; obtain ⟨hX_0, hX_1, hX_s⟩ := rowD hX
  obtain ⟨fX0, fX1⟩ := freeD2 hX
  go_upto_region 8 with fail
  clear fX0 fX1
  clear hx_0 hx_1 hx_s; clear hX_0 hX_1 hX_s
  replace hx := (two_otherD (w := w8) (g := gX) (by omega) (.slice P l.length cp) (.slice Q m.length cq)).trans hx
  replace hX := setD2 hX (.slice P l.length cp) (.slice Q m.length cq)
  replace hu := hu.twoD (g := gX) (by omega) (.slice P l.length cp) (.slice Q m.length cq)
  generalize (w8.setCell ⟨gX, 0, none⟩ (.slice P l.length cp)).setCell ⟨gX, 1, none⟩ (.slice Q m.length cq) = w8b at hx hX hu ⊢
  obtain ⟨hx_0, hx_1, hx_s⟩ := rowD hx; obtain ⟨hX_0, hX_1, hX_s⟩ := rowD hX
  obtain ⟨fX0, fX1⟩ := freeD2 hX
  clear fX0 fX1
  go_wp2_with (go_at_call 18; (with_reducible refine (cC _ hu).mono ?_); rintro e w9 ⟨rfl, hk⟩; clear hx_0 hx_1 hx_s; clear hX_0 hX_1 hX_s; replace hx := (hk.block (rowD hx).2.2).trans hx; replace hX := (hk.block (rowD hX).2.2).trans hX; replace hu := hu.call hk; clear hk; obtain ⟨hx_0, hx_1, hx_s⟩ := rowD hx; obtain ⟨hX_0, hX_1, hX_s⟩ := rowD hX)
  go_ret
  exact ⟨rfl, hu⟩
set_option maxHeartbeats 16000000 in
theorem dt_no (P Q : Option Addr) (cp cq : Nat) (l : List ByteArray) (m : List Wr) (i : Int) (s : ByteArray) (w : World) (hh : HasD w P Q l m) (hn : l.length ≤ 9223372036854775807) (hm : m.length ≤ 9223372036854775807) (E : Int) (hE0 : E ≠ 0) (hE : ptE l m ⟨i, s⟩ = E) (h0 : dkErr l m = 0) :
    Calls Try.prog 6 #[.agg #[.slice P l.length cp, .slice Q m.length cq], .int .i64 i, .string s] w fun e w' => e = .returned (.bool true) ∧ Calm w w' := by
  have hx := heap_new w (.cells #[.slice P l.length cp, .slice Q m.length cq] 25)
  have hu := (Calm.refl w).alloc (.cells #[.slice P l.length cp, .slice Q m.length cq] 25)
  have cP := fun u (hu : Calm w u) => (hh.calm hu).put_bad cp cq hn hm (hE : ptE l m ⟨i, s⟩ = E) hE0
  have b1 : (E != 0) = true := by rw [bne_iff_ne]; exact hE0
  have cC := fun u (hu : Calm w u) => diskCheck_any P Q cp cq l m u (hh.calm hu).p (hh.calm hu).q hn hm
  rw [h0] at cC
  have hMl := (dkErr_zero.1 h0).2.1
  have hnl := (dk_len h0).1
  have cSy := fun u (h : HasD u P Q l m) => h.sync cp cq h0
  have hcl : (curP l m).length = l.length := doneL_len _ _ _ _
  have hce := done_err (fun _ => true) h0
  have cS2 := fun u P6 cp6 (h : LiesP u P6 (curP l m)) => sync_safe (cp := cp6) h hcl hce
  have cKa := fun u (h : HasD u P Q l m) (A : Option Addr) (c : Nat) (hK : LiesO u A (List.replicate m.length true)) => crash_all h cp cq h0 rfl c hK
  have cKn := fun u (h : HasD u P Q l m) => crash_none h cp cq h0
  have cSm := fun u P6 cp6 P7 cp7 (h : LiesP u P6 (curP l m)) (h' : LiesP u P7 (curP l m)) => same_safe (cp := cp6) (cp' := cp7) h h' hcl hnl
  have cEq := fun u P6 (c6 c7 : Nat) P7 (h : LiesP u P6 l) (h' : LiesP u P7 l) => equalP_self P6 P7 c6 c7 l u hnl h h'
  have m1 := fun u => makeBools u m.length (by omega)
  have hob := fun u => own_bools u m.length (by omega)
  clear hcl hce h0
  generalize curP l m = LS at cSy cS2 cKa cSm
  have HH := Lib.hid hh
  clear hE hE0 hn hm hh
  go_enter Try.func6, Try.ntmps6
  go_upto_region 1 with fail
  generalize w.alloc (.cells #[.slice P l.length cp, .slice Q m.length cq] 25) = w0 at hx hu ⊢
  obtain ⟨hx_0, hx_1, hx_s⟩ := rowD hx
  go_upto_region 3 with (first
      | (go_at_call 28; (with_reducible refine (one_any _ _).mono ?_); rintro e w1 ⟨g1, rfl, hg1, hk⟩; clear hx_0 hx_1 hx_s; replace hx := (hk.block (rowD hx).2.2).trans hx; replace hu := hu.call hk; clear hk; obtain ⟨hx_0, hx_1, hx_s⟩ := rowD hx)
      | (go_at_call 14; (with_reducible refine (put_one _ _ hg1).mono ?_); rintro e w2 ⟨P2, cp2, Q2, cq2, rfl, hd2, hk⟩; clear hg1; have HD2 := Lib.hid (hd2.calm ((Calm.refl _).alloc (.cells #[.slice P2 1 cp2, .slice Q2 1 cq2] 25))); clear hd2; clear hx_0 hx_1 hx_s; replace hx := (hk.block (rowD hx).2.2).trans hx; replace hu := hu.call hk; clear hk; obtain ⟨hx_0, hx_1, hx_s⟩ := rowD hx; have hXi := hx_s; clear hx_0 hx_1 hx_s; replace hx := heap_past (.cells #[.slice P2 1 cp2, .slice Q2 1 cq2] 25) hx; replace hu := hu.alloc (.cells #[.slice P2 1 cp2, .slice Q2 1 cq2] 25); have hX := heap_new w2 (.cells #[.slice P2 1 cp2, .slice Q2 1 cq2] 25); obtain ⟨hx_0, hx_1, hx_s⟩ := rowD hx; obtain ⟨hX_0, hX_1, hX_s⟩ := rowD hX)
      | (go_at_call 16; (with_reducible refine (crash_one _ _ _ _ _ HD2.out).mono ?_); rintro e w3 ⟨P3, cp3, rfl, hp3, hk⟩; clear HD2; have HP3 := Lib.hid (hp3.calm ((Calm.refl _).alloc (.cells #[.slice P3 1 cp3, .slice none 0 0] 25))); clear hp3; clear hx_0 hx_1 hx_s; clear hX_0 hX_1 hX_s; replace hx := (hk.block (rowD hx).2.2).trans hx; replace hX := (hk.block (rowD hX).2.2).trans hX; replace hu := hu.call hk; clear hk; obtain ⟨hx_0, hx_1, hx_s⟩ := rowD hx; obtain ⟨hX_0, hX_1, hX_s⟩ := rowD hX; clear hx_0 hx_1 hx_s; clear hX_0 hX_1 hX_s; replace hx := heap_past (.cells #[.slice P3 1 cp3, .slice none 0 0] 25) hx; replace hX := heap_past (.cells #[.slice P3 1 cp3, .slice none 0 0] 25) hX; replace hu := hu.alloc (.cells #[.slice P3 1 cp3, .slice none 0 0] 25); have hY := heap_new w3 (.cells #[.slice P3 1 cp3, .slice none 0 0] 25); obtain ⟨hx_0, hx_1, hx_s⟩ := rowD hx; obtain ⟨hX_0, hX_1, hX_s⟩ := rowD hX; obtain ⟨hY_0, hY_1, hY_s⟩ := rowD hY))
  have hXs := hX_s
  generalize w2.heap.size = gX at hX hX_0 hX_1 hX_s hXi hXs ⊢
  generalize hgY : w3.heap.size = gY at hY hY_0 hY_1 hY_s ⊢
  clear hgY
  generalize w3.alloc (.cells #[.slice P3 1 cp3, .slice none 0 0] 25) = w4 at hx hX hY hu HP3 hx_0 hx_1 hx_s hX_0 hX_1 hX_s hY_0 hY_1 hY_s hXs ⊢
  have H_hY := Lib.hid hY
  have cS1 := fun u (P5 : Option Addr) (cp5 : Nat) (hu : Calm w4 u) (h5 : LiesP u P5 [{ data := #[97] }]) => same_safe (n := 1) (cp := cp3) (cp' := cp5) (HP3.out.calm hu) h5 rfl (by decide)
  refine wp_region_stages [.val (.int .i64 0), .val (.bool false), .val (.bool false), .val (.int .i64 0), .val (.bool false), .val (.bool false), .val (.bool false), .val (.agg #[.slice P3 1 cp3, .slice none 0 0]), .late, .late [8], .late [9], .late [10]] [8, 9, 10, 11]
    (ChainS 4 (DtA w4)) (by kernel_rfl) (by kernel_rfl) (by kernel_rfl) (ChainS.stay dtA_stay) (fun Y => ChainS.start (late := [8, 9, 10, 11]) (show Calm _ _ from (Calm.refl _).drew)) (fun Y => ?_)
  iterate 7
    refine planS_val (by kernel_rfl) (fun L9 u hb hS => ?_) ?_
    · clear hS hb
      go_simp
    simp only [Act.put, List.setIfInBounds_toArray, List.set_cons_zero, List.set_cons_succ, Nat.reduceAdd]
  refine planS_val (by kernel_rfl) (fun L9 u hb hS => ?_) ?_
  · obtain ⟨k9, -, hA⟩ := ChainS.any (late := [8, 9, 10, 11]) hS
    have hc := dtA_calm hA
    obtain ⟨y0, y1, ys⟩ := rowD ((hc.block (rowD H_hY.out).2.2).trans H_hY.out)
    clear hS hb hA hc
    go_simp
  simp only [Act.put, List.setIfInBounds_toArray, List.set_cons_zero, List.set_cons_succ, Nat.reduceAdd]
  refine planS_late (fun L9 u hi hb hS => ?_) ?_
  · obtain ⟨hA, hN⟩ := ChainS.step (late := [8, 9, 10, 11]) (m := 0) hS rfl hi (fun j h0 h => by exact absurd h0 (Nat.lt_irrefl _)) (by decide)
    have hc : Calm w4 u := hA
    have H := Lib.hid (fun g u' (hb : Calm u u') (hg : u'.heap[g]? = some (.cells #[.string { data := #[97] }] 9 (0, 0))) => hN (.agg #[.slice (some ⟨g, 0, none⟩) 1 1, .slice none 0 0]) u' (show DtA w4 1 _ u' from ⟨hc.call hb, g, by simp [updV], hg⟩))
    clear hA hN hc hS hb hi cS1
    go_wp2_with (go_at_call 28; (with_reducible refine (one_any _ _).mono ?_); rintro e w5 ⟨g5, rfl, hg5, hk⟩; have HG5 := Lib.hid hg5; have HK5 := Lib.hid hk; clear hg5 hk)
    exact H.out g5 w5 HK5.out HG5.out
  simp only [Act.put, List.setIfInBounds_toArray, List.set_cons_zero, List.set_cons_succ, Nat.reduceAdd]
  refine planS_late (fun L9 u hi hb hS => ?_) ?_
  · obtain ⟨hA, hN⟩ := ChainS.step (late := [8, 9, 10, 11]) (m := 1) hS rfl hi (fun j _ h => by cases h; exact hb 8 (by simp)) (by decide)
    obtain ⟨hc, g, eY, hg⟩ := (show Calm w4 u ∧ ∃ g, Y 8 = .agg #[.slice (some ⟨g, 0, none⟩) 1 1, .slice none 0 0] ∧ u.heap[g]? = some (.cells #[.string { data := #[97] }] 9 (0, 0)) from hA)
    have H := Lib.hid (fun u' (hb : Calm u u') => hN (.bool true) u' (show DtA w4 2 _ u' from ⟨hc.call hb, by simp [updV]⟩))
    have c1 := cS1 u _ 1 hc (lies_one1 hg).p
    rw [eY]
    clear hA hN hc hS hb hi cS1 eY hg
    go_wp2_with (go_at_call 19; (with_reducible refine c1.mono ?_); rintro e w5 ⟨rfl, hk⟩; have HK5 := Lib.hid hk; clear hk)
    exact H.out w5 HK5.out
  simp only [Act.put, List.setIfInBounds_toArray, List.set_cons_zero, List.set_cons_succ, Nat.reduceAdd]
  refine planS_late (fun L9 u hi hb hS => ?_) ?_
  · obtain ⟨hA, hN⟩ := ChainS.step (late := [8, 9, 10, 11]) (m := 2) hS rfl hi (fun j _ h => by cases h; exact hb 9 (by simp)) (by decide)
    obtain ⟨hc, eY⟩ := (show Calm w4 u ∧ Y 9 = .bool true from hA)
    have H := Lib.hid (hN (.bool false) u (show DtA w4 3 _ u from ⟨hc, by simp [updV]⟩))
    rw [eY]
    clear hA hN hc hS hb hi cS1 eY
    go_wp2_with fail
    exact H.out
  simp only [Act.put, List.setIfInBounds_toArray, List.set_cons_zero, List.set_cons_succ, Nat.reduceAdd]
  refine planS_late (fun L9 u hi hb hS => ?_) ?_
  · obtain ⟨hA, hN⟩ := ChainS.step (late := [8, 9, 10, 11]) (m := 3) hS rfl hi (fun j _ h => by cases h; exact hb 10 (by simp)) (by decide)
    obtain ⟨hc, eY⟩ := (show Calm w4 u ∧ Y 10 = .bool false from hA)
    have H := Lib.hid (hN (.bool false) u (show DtA w4 4 _ u from ⟨hc, by simp [updV]⟩))
    rw [eY]
    clear hA hN hc hS hb hi cS1 eY
    go_wp2_with fail
    exact H.out
  try simp only [Act.put, Nat.reduceAdd]
  refine planS_end ?_
  intro w6 hS
  obtain ⟨hc6, eY⟩ := (show Calm w4 w6 ∧ Y 11 = .bool false from ChainS.done (late := [8, 9, 10, 11]) hS)
  rw [eY]
  clear hS eY cS1 H_hY HP3
  clear hx_0 hx_1 hx_s; clear hX_0 hX_1 hX_s; clear hY_0 hY_1 hY_s
  clear hY
  replace hx := (hc6.block (rowD hx).2.2).trans hx
  replace hX := (hc6.block (rowD hX).2.2).trans hX
  replace hXs := Nat.lt_of_lt_of_le hXs hc6.size
  replace hu := hu.call hc6
  clear hc6
  obtain ⟨hx_0, hx_1, hx_s⟩ := rowD hx; obtain ⟨hX_0, hX_1, hX_s⟩ := rowD hX
  obtain ⟨fX0, fX1⟩ := freeD2 hX
  go_upto_region 6 with (go_at_call 14; (with_reducible refine (cP _ hu).mono ?_); rintro e w7 ⟨rfl, hk⟩; clear cP fX0 fX1; clear hx_0 hx_1 hx_s; clear hX_0 hX_1 hX_s; replace hx := (hk.block (rowD hx).2.2).trans hx; replace hX := (hk.block (rowD hX).2.2).trans hX; replace hu := hu.call hk; clear hk; obtain ⟨hx_0, hx_1, hx_s⟩ := rowD hx; obtain ⟨hX_0, hX_1, hX_s⟩ := rowD hX; obtain ⟨fX0, fX1⟩ := freeD2 hX)
  clear fX0 fX1
  clear hx_0 hx_1 hx_s; clear hX_0 hX_1 hX_s
  replace hx := (two_otherD (w := w7) (g := gX) (by omega) (.slice none 0 0) (.slice none 0 0)).trans hx
  replace hX := setD2 hX (.slice none 0 0) (.slice none 0 0)
  replace hu := hu.twoD (g := gX) (by omega) (.slice none 0 0) (.slice none 0 0)
  generalize (w7.setCell ⟨gX, 0, none⟩ (.slice none 0 0)).setCell ⟨gX, 1, none⟩ (.slice none 0 0) = w8 at hx hX hu ⊢
  obtain ⟨hx_0, hx_1, hx_s⟩ := rowD hx; obtain ⟨hX_0, hX_1, hX_s⟩ := rowD hX
  obtain ⟨fX0, fX1⟩ := freeD2 hX
  go_upto_region 8 with fail
  clear fX0 fX1
  clear hx_0 hx_1 hx_s; clear hX_0 hX_1 hX_s
  replace hx := (two_otherD (w := w8) (g := gX) (by omega) (.slice P l.length cp) (.slice Q m.length cq)).trans hx
  replace hX := setD2 hX (.slice P l.length cp) (.slice Q m.length cq)
  replace hu := hu.twoD (g := gX) (by omega) (.slice P l.length cp) (.slice Q m.length cq)
  generalize (w8.setCell ⟨gX, 0, none⟩ (.slice P l.length cp)).setCell ⟨gX, 1, none⟩ (.slice Q m.length cq) = w8b at hx hX hu ⊢
  obtain ⟨hx_0, hx_1, hx_s⟩ := rowD hx; obtain ⟨hX_0, hX_1, hX_s⟩ := rowD hX
  obtain ⟨fX0, fX1⟩ := freeD2 hX
  have HDX := Lib.hid (HH.out.calm hu)
  clear HH
  clear fX0 fX1
  go_upto_region 10 with (go_at_call 18; (with_reducible refine (cC _ hu).mono ?_); rintro e w9 ⟨rfl, hk⟩; clear hx_0 hx_1 hx_s; clear hX_0 hX_1 hX_s; replace hx := (hk.block (rowD hx).2.2).trans hx; replace hX := (hk.block (rowD hX).2.2).trans hX; replace HDX := Lib.hid (HDX.out.calm hk); replace hu := hu.call hk; clear hk; obtain ⟨hx_0, hx_1, hx_s⟩ := rowD hx; obtain ⟨hX_0, hX_1, hX_s⟩ := rowD hX)
  obtain ⟨fX0, fX1⟩ := freeD2 hX
  clear hx_0 hx_1 hx_s; clear hX_0 hX_1 hX_s
  clear fX0 fX1
  have H_hX := Lib.hid hX
  have H_hx := Lib.hid hx
  generalize w9 = w10 at hx hX hu HDX H_hX H_hx ⊢
  obtain ⟨hx_0, hx_1, hx_s⟩ := rowD hx; obtain ⟨hX_0, hX_1, hX_s⟩ := rowD hX
  go_wp2_with fail
  have HB0 := Lib.hid (hob w10)
  have hlt10 := Nat.le_refl w10.heap.size
  go_loopw [61, 12] (fun n' _ wr => ∃ k : Nat, k ≤ m.length ∧ n' = .int .i64 k ∧ Calm w10 wr ∧ Hid (OwnG 4 boC 1 w10.heap.size wr (.slice (some ⟨w10.heap.size, 0, none⟩) m.length m.length) (List.replicate k true ++ List.replicate (m.length - k) false))) (fun n' _ _ => m.length - (intOf n').toNat)
  case atStart => exact ⟨0, Nat.zero_le _, rfl, (Calm.refl _).alloc _, by simpa using HB0⟩
  case round =>
    obtain ⟨k, hkm, rfl, hv, HB⟩ := hrel
    by_cases hlt : k < m.length
    · have hll : k < (List.replicate k true ++ List.replicate (m.length - k) false).length := by simp; omega
      have hcell : ∃ v, wr.cell? ⟨w10.heap.size, k, none⟩ = some v := by
        have := (OwnG.cell boC_len HB.out hll).1 0 (by omega)
        rw [Nat.mul_one, Nat.add_zero] at this
        exact ⟨_, this⟩
      obtain ⟨v9, hcell⟩ := hcell
      have hfz := OwnG.frozen HB.out k
      have hkz : (k : Int) < (m.length : Int) := by omega
      have HB2 : OwnG 4 boC 1 w10.heap.size (wr.setCell ⟨w10.heap.size, k, none⟩ (.bool true)) (.slice (some ⟨w10.heap.size, 0, none⟩) m.length m.length) (List.replicate (k + 1) true ++ List.replicate (m.length - (k + 1)) false) := by
        have := OwnG.set boC_len (i := k) (j := 0) (u := .bool true) (x := true) HB.out hll (by omega) rfl
        rw [Nat.mul_one, Nat.add_zero, rep_set _ _ hlt] at this
        exact this
      clear HB hll
      go_wp2_with fail
      go_roundw
      case rel => exact ⟨k + 1, by omega, by go_num, hv.setCell (p := ⟨w10.heap.size, k, none⟩) (Nat.le_refl _) _, HB2⟩
      case measure => simp [intOf]; omega
    obtain rfl : k = m.length := by omega
    have HK := Lib.hid (show LiesO wr (some ⟨w10.heap.size, 0, none⟩) (List.replicate m.length true) by
      have := HB.out
      rw [Nat.sub_self, List.replicate_zero, List.append_nil] at this
      exact (OwnG.at_ boC_len this).2)
    clear HB hlt hkm m1 hob HB0
    have hx := (hv.block (rowD H_hx.out).2.2).trans H_hx.out
    have hX := (hv.block (rowD H_hX.out).2.2).trans H_hX.out
    replace HDX := Lib.hid (HDX.out.calm hv)
    replace hu := hu.call hv
    clear hv H_hx H_hX
    obtain ⟨hx_0, hx_1, hx_s⟩ := rowD hx; obtain ⟨hX_0, hX_1, hX_s⟩ := rowD hX
    generalize w10.heap.size = gB at HK ⊢
    go_wp2_with (first
        | (go_at_call 15; (with_reducible refine (cSy _ HDX.out).mono ?_); rintro e w11 ⟨P6, cp6, rfl, ho6, hk⟩; clear cSy; have HP6 := Lib.hid ((OwnP.at_ ho6).2.calm ((Calm.refl _).alloc (.cells #[.slice P6 l.length cp6, .slice none 0 0] 25))); clear ho6; clear hx_0 hx_1 hx_s; clear hX_0 hX_1 hX_s; replace hx := (hk.block (rowD hx).2.2).trans hx; replace hX := (hk.block (rowD hX).2.2).trans hX; replace HDX := Lib.hid (HDX.out.calm hk); replace HK := Lib.hid (HK.out.calm hk); replace hu := hu.call hk; clear hk; obtain ⟨hx_0, hx_1, hx_s⟩ := rowD hx; obtain ⟨hX_0, hX_1, hX_s⟩ := rowD hX; clear hx_0 hx_1 hx_s; clear hX_0 hX_1 hX_s; replace hx := heap_past (.cells #[.slice P6 l.length cp6, .slice none 0 0] 25) hx; replace hX := heap_past (.cells #[.slice P6 l.length cp6, .slice none 0 0] 25) hX; replace HDX := Lib.hid (HDX.out.calm ((Calm.refl _).alloc (.cells #[.slice P6 l.length cp6, .slice none 0 0] 25))); replace HK := Lib.hid (HK.out.calm ((Calm.refl _).alloc (.cells #[.slice P6 l.length cp6, .slice none 0 0] 25))); replace hu := hu.alloc (.cells #[.slice P6 l.length cp6, .slice none 0 0] 25); have hA := heap_new w11 (.cells #[.slice P6 l.length cp6, .slice none 0 0] 25); obtain ⟨hx_0, hx_1, hx_s⟩ := rowD hx; obtain ⟨hX_0, hX_1, hX_s⟩ := rowD hX; obtain ⟨hA_0, hA_1, hA_s⟩ := rowD hA)
        | (go_at_call 15; (with_reducible refine (cS2 _ _ _ HP6.out).mono ?_); rintro e w12 ⟨P7, cp7, rfl, ho7, hk⟩; clear cS2; have HP7 := Lib.hid ((OwnP.at_ ho7).2.calm ((Calm.refl _).alloc (.cells #[.slice P7 l.length cp7, .slice none 0 0] 25))); clear ho7; clear hx_0 hx_1 hx_s; clear hX_0 hX_1 hX_s; clear hA_0 hA_1 hA_s; replace hx := (hk.block (rowD hx).2.2).trans hx; replace hX := (hk.block (rowD hX).2.2).trans hX; replace hA := (hk.block (rowD hA).2.2).trans hA; replace HDX := Lib.hid (HDX.out.calm hk); replace HK := Lib.hid (HK.out.calm hk); replace HP6 := Lib.hid (HP6.out.calm hk); replace hu := hu.call hk; clear hk; obtain ⟨hx_0, hx_1, hx_s⟩ := rowD hx; obtain ⟨hX_0, hX_1, hX_s⟩ := rowD hX; obtain ⟨hA_0, hA_1, hA_s⟩ := rowD hA; clear hx_0 hx_1 hx_s; clear hX_0 hX_1 hX_s; clear hA_0 hA_1 hA_s; replace hx := heap_past (.cells #[.slice P7 l.length cp7, .slice none 0 0] 25) hx; replace hX := heap_past (.cells #[.slice P7 l.length cp7, .slice none 0 0] 25) hX; replace hA := heap_past (.cells #[.slice P7 l.length cp7, .slice none 0 0] 25) hA; replace HDX := Lib.hid (HDX.out.calm ((Calm.refl _).alloc (.cells #[.slice P7 l.length cp7, .slice none 0 0] 25))); replace HK := Lib.hid (HK.out.calm ((Calm.refl _).alloc (.cells #[.slice P7 l.length cp7, .slice none 0 0] 25))); replace HP6 := Lib.hid (HP6.out.calm ((Calm.refl _).alloc (.cells #[.slice P7 l.length cp7, .slice none 0 0] 25))); replace hu := hu.alloc (.cells #[.slice P7 l.length cp7, .slice none 0 0] 25); have hB := heap_new w12 (.cells #[.slice P7 l.length cp7, .slice none 0 0] 25); obtain ⟨hx_0, hx_1, hx_s⟩ := rowD hx; obtain ⟨hX_0, hX_1, hX_s⟩ := rowD hX; obtain ⟨hA_0, hA_1, hA_s⟩ := rowD hA; obtain ⟨hB_0, hB_1, hB_s⟩ := rowD hB)
        | (go_at_call 16; (with_reducible refine (cKa _ HDX.out _ _ HK.out).mono ?_); rintro e w13 ⟨P8, cp8, rfl, ho8, hk⟩; clear cKa; have HP8 := Lib.hid ((OwnP.at_ ho8).2.calm ((Calm.refl _).alloc (.cells #[.slice P8 l.length cp8, .slice none 0 0] 25))); clear ho8; clear hx_0 hx_1 hx_s; clear hX_0 hX_1 hX_s; clear hA_0 hA_1 hA_s; clear hB_0 hB_1 hB_s; replace hx := (hk.block (rowD hx).2.2).trans hx; replace hX := (hk.block (rowD hX).2.2).trans hX; replace hA := (hk.block (rowD hA).2.2).trans hA; replace hB := (hk.block (rowD hB).2.2).trans hB; replace HDX := Lib.hid (HDX.out.calm hk); replace HK := Lib.hid (HK.out.calm hk); replace HP6 := Lib.hid (HP6.out.calm hk); replace HP7 := Lib.hid (HP7.out.calm hk); replace hu := hu.call hk; clear hk; obtain ⟨hx_0, hx_1, hx_s⟩ := rowD hx; obtain ⟨hX_0, hX_1, hX_s⟩ := rowD hX; obtain ⟨hA_0, hA_1, hA_s⟩ := rowD hA; obtain ⟨hB_0, hB_1, hB_s⟩ := rowD hB; clear hx_0 hx_1 hx_s; clear hX_0 hX_1 hX_s; clear hA_0 hA_1 hA_s; clear hB_0 hB_1 hB_s; replace hx := heap_past (.cells #[.slice P8 l.length cp8, .slice none 0 0] 25) hx; replace hX := heap_past (.cells #[.slice P8 l.length cp8, .slice none 0 0] 25) hX; replace hA := heap_past (.cells #[.slice P8 l.length cp8, .slice none 0 0] 25) hA; replace hB := heap_past (.cells #[.slice P8 l.length cp8, .slice none 0 0] 25) hB; replace HDX := Lib.hid (HDX.out.calm ((Calm.refl _).alloc (.cells #[.slice P8 l.length cp8, .slice none 0 0] 25))); replace HK := Lib.hid (HK.out.calm ((Calm.refl _).alloc (.cells #[.slice P8 l.length cp8, .slice none 0 0] 25))); replace HP6 := Lib.hid (HP6.out.calm ((Calm.refl _).alloc (.cells #[.slice P8 l.length cp8, .slice none 0 0] 25))); replace HP7 := Lib.hid (HP7.out.calm ((Calm.refl _).alloc (.cells #[.slice P8 l.length cp8, .slice none 0 0] 25))); replace hu := hu.alloc (.cells #[.slice P8 l.length cp8, .slice none 0 0] 25); have hC := heap_new w13 (.cells #[.slice P8 l.length cp8, .slice none 0 0] 25); obtain ⟨hx_0, hx_1, hx_s⟩ := rowD hx; obtain ⟨hX_0, hX_1, hX_s⟩ := rowD hX; obtain ⟨hA_0, hA_1, hA_s⟩ := rowD hA; obtain ⟨hB_0, hB_1, hB_s⟩ := rowD hB; obtain ⟨hC_0, hC_1, hC_s⟩ := rowD hC)
        | (go_at_call 16; (with_reducible refine (cKn _ HDX.out).mono ?_); rintro e w14 ⟨P9, cp9, rfl, ho9, hk⟩; clear cKn; have HP9 := Lib.hid ((OwnP.at_ ho9).2.calm ((Calm.refl _).alloc (.cells #[.slice P9 l.length cp9, .slice none 0 0] 25))); clear ho9; clear hx_0 hx_1 hx_s; clear hX_0 hX_1 hX_s; clear hA_0 hA_1 hA_s; clear hB_0 hB_1 hB_s; clear hC_0 hC_1 hC_s; replace hx := (hk.block (rowD hx).2.2).trans hx; replace hX := (hk.block (rowD hX).2.2).trans hX; replace hA := (hk.block (rowD hA).2.2).trans hA; replace hB := (hk.block (rowD hB).2.2).trans hB; replace hC := (hk.block (rowD hC).2.2).trans hC; replace HDX := Lib.hid (HDX.out.calm hk); replace HK := Lib.hid (HK.out.calm hk); replace HP6 := Lib.hid (HP6.out.calm hk); replace HP7 := Lib.hid (HP7.out.calm hk); replace HP8 := Lib.hid (HP8.out.calm hk); replace hu := hu.call hk; clear hk; obtain ⟨hx_0, hx_1, hx_s⟩ := rowD hx; obtain ⟨hX_0, hX_1, hX_s⟩ := rowD hX; obtain ⟨hA_0, hA_1, hA_s⟩ := rowD hA; obtain ⟨hB_0, hB_1, hB_s⟩ := rowD hB; obtain ⟨hC_0, hC_1, hC_s⟩ := rowD hC; clear hx_0 hx_1 hx_s; clear hX_0 hX_1 hX_s; clear hA_0 hA_1 hA_s; clear hB_0 hB_1 hB_s; clear hC_0 hC_1 hC_s; replace hx := heap_past (.cells #[.slice P9 l.length cp9, .slice none 0 0] 25) hx; replace hX := heap_past (.cells #[.slice P9 l.length cp9, .slice none 0 0] 25) hX; replace hA := heap_past (.cells #[.slice P9 l.length cp9, .slice none 0 0] 25) hA; replace hB := heap_past (.cells #[.slice P9 l.length cp9, .slice none 0 0] 25) hB; replace hC := heap_past (.cells #[.slice P9 l.length cp9, .slice none 0 0] 25) hC; replace HDX := Lib.hid (HDX.out.calm ((Calm.refl _).alloc (.cells #[.slice P9 l.length cp9, .slice none 0 0] 25))); replace HK := Lib.hid (HK.out.calm ((Calm.refl _).alloc (.cells #[.slice P9 l.length cp9, .slice none 0 0] 25))); replace HP6 := Lib.hid (HP6.out.calm ((Calm.refl _).alloc (.cells #[.slice P9 l.length cp9, .slice none 0 0] 25))); replace HP7 := Lib.hid (HP7.out.calm ((Calm.refl _).alloc (.cells #[.slice P9 l.length cp9, .slice none 0 0] 25))); replace HP8 := Lib.hid (HP8.out.calm ((Calm.refl _).alloc (.cells #[.slice P9 l.length cp9, .slice none 0 0] 25))); replace hu := hu.alloc (.cells #[.slice P9 l.length cp9, .slice none 0 0] 25); have hN := heap_new w14 (.cells #[.slice P9 l.length cp9, .slice none 0 0] 25); obtain ⟨hx_0, hx_1, hx_s⟩ := rowD hx; obtain ⟨hX_0, hX_1, hX_s⟩ := rowD hX; obtain ⟨hA_0, hA_1, hA_s⟩ := rowD hA; obtain ⟨hB_0, hB_1, hB_s⟩ := rowD hB; obtain ⟨hC_0, hC_1, hC_s⟩ := rowD hC; obtain ⟨hN_0, hN_1, hN_s⟩ := rowD hN)
        | (go_at_call 19; (first | (with_reducible refine (cSm _ _ _ _ _ HP6.out HP7.out).mono ?_) | (with_reducible refine (cSm _ _ _ _ _ HP6.out HP8.out).mono ?_)); rintro e w15 ⟨rfl, hk⟩; clear hx_0 hx_1 hx_s; clear hX_0 hX_1 hX_s; clear hA_0 hA_1 hA_s; clear hB_0 hB_1 hB_s; clear hC_0 hC_1 hC_s; clear hN_0 hN_1 hN_s; replace hx := (hk.block (rowD hx).2.2).trans hx; replace hX := (hk.block (rowD hX).2.2).trans hX; replace hA := (hk.block (rowD hA).2.2).trans hA; replace hB := (hk.block (rowD hB).2.2).trans hB; replace hC := (hk.block (rowD hC).2.2).trans hC; replace hN := (hk.block (rowD hN).2.2).trans hN; replace HDX := Lib.hid (HDX.out.calm hk); replace HK := Lib.hid (HK.out.calm hk); replace HP6 := Lib.hid (HP6.out.calm hk); replace HP7 := Lib.hid (HP7.out.calm hk); replace HP8 := Lib.hid (HP8.out.calm hk); replace HP9 := Lib.hid (HP9.out.calm hk); replace hu := hu.call hk; clear hk; obtain ⟨hx_0, hx_1, hx_s⟩ := rowD hx; obtain ⟨hX_0, hX_1, hX_s⟩ := rowD hX; obtain ⟨hA_0, hA_1, hA_s⟩ := rowD hA; obtain ⟨hB_0, hB_1, hB_s⟩ := rowD hB; obtain ⟨hC_0, hC_1, hC_s⟩ := rowD hC; obtain ⟨hN_0, hN_1, hN_s⟩ := rowD hN)
        | (go_at_call 30; (with_reducible refine (cEq _ _ _ _ _ HP9.out HDX.out.p).mono ?_); rintro e w16 ⟨rfl, hk⟩; clear hx_0 hx_1 hx_s; clear hX_0 hX_1 hX_s; clear hA_0 hA_1 hA_s; clear hB_0 hB_1 hB_s; clear hC_0 hC_1 hC_s; clear hN_0 hN_1 hN_s; replace hx := (hk.block (rowD hx).2.2).trans hx; replace hX := (hk.block (rowD hX).2.2).trans hX; replace hA := (hk.block (rowD hA).2.2).trans hA; replace hB := (hk.block (rowD hB).2.2).trans hB; replace hC := (hk.block (rowD hC).2.2).trans hC; replace hN := (hk.block (rowD hN).2.2).trans hN; replace HDX := Lib.hid (HDX.out.calm hk); replace HK := Lib.hid (HK.out.calm hk); replace HP6 := Lib.hid (HP6.out.calm hk); replace HP7 := Lib.hid (HP7.out.calm hk); replace HP8 := Lib.hid (HP8.out.calm hk); replace HP9 := Lib.hid (HP9.out.calm hk); replace hu := hu.call hk; clear hk; obtain ⟨hx_0, hx_1, hx_s⟩ := rowD hx; obtain ⟨hX_0, hX_1, hX_s⟩ := rowD hX; obtain ⟨hA_0, hA_1, hA_s⟩ := rowD hA; obtain ⟨hB_0, hB_1, hB_s⟩ := rowD hB; obtain ⟨hC_0, hC_1, hC_s⟩ := rowD hC; obtain ⟨hN_0, hN_1, hN_s⟩ := rowD hN))
    go_ret
    exact ⟨rfl, hu⟩
set_option maxHeartbeats 16000000 in
theorem dt_ok (P Q : Option Addr) (cp cq : Nat) (l : List ByteArray) (m : List Wr) (i : Int) (s : ByteArray) (w : World) (hh : HasD w P Q l m) (hn : l.length ≤ 9223372036854775807) (hm : m.length ≤ 9223372036854775807) (hE : ptE l m ⟨i, s⟩ = 0) :
    Calls Try.prog 6 #[.agg #[.slice P l.length cp, .slice Q m.length cq], .int .i64 i, .string s] w fun e w' => e = .returned (.bool true) ∧ Calm w w' := by
  have hx := heap_new w (.cells #[.slice P l.length cp, .slice Q m.length cq] 25)
  have hu := (Calm.refl w).alloc (.cells #[.slice P l.length cp, .slice Q m.length cq] 25)
  obtain ⟨h0, hq4⟩ := pt_next hE
  have cP := fun u (hu : Calm w u) => (hh.calm hu).put_ok cp cq hE
  have cC := fun u P3 cp3 Q3 cq3 (h : HasD u P3 Q3 l (m ++ [⟨i, s⟩])) => diskCheck_any P3 Q3 cp3 cq3 l (m ++ [⟨i, s⟩]) u h.p h.q (dk_len h0).1 (dk_len h0).2
  rw [h0] at cC
  clear hE hn hm hh hq4
  generalize m ++ [(⟨i, s⟩ : Wr)] = M at cP cC h0
  go_enter Try.func6, Try.ntmps6
  go_upto_region 1 with fail
  generalize w.alloc (.cells #[.slice P l.length cp, .slice Q m.length cq] 25) = w0 at hx hu ⊢
  obtain ⟨hx_0, hx_1, hx_s⟩ := rowD hx
  go_upto_region 3 with (first
      | (go_at_call 28; (with_reducible refine (one_any _ _).mono ?_); rintro e w1 ⟨g1, rfl, hg1, hk⟩; clear hx_0 hx_1 hx_s; replace hx := (hk.block (rowD hx).2.2).trans hx; replace hu := hu.call hk; clear hk; obtain ⟨hx_0, hx_1, hx_s⟩ := rowD hx)
      | (go_at_call 14; (with_reducible refine (put_one _ _ hg1).mono ?_); rintro e w2 ⟨P2, cp2, Q2, cq2, rfl, hd2, hk⟩; clear hg1; have HD2 := Lib.hid (hd2.calm ((Calm.refl _).alloc (.cells #[.slice P2 1 cp2, .slice Q2 1 cq2] 25))); clear hd2; clear hx_0 hx_1 hx_s; replace hx := (hk.block (rowD hx).2.2).trans hx; replace hu := hu.call hk; clear hk; obtain ⟨hx_0, hx_1, hx_s⟩ := rowD hx; have hXi := hx_s; clear hx_0 hx_1 hx_s; replace hx := heap_past (.cells #[.slice P2 1 cp2, .slice Q2 1 cq2] 25) hx; replace hu := hu.alloc (.cells #[.slice P2 1 cp2, .slice Q2 1 cq2] 25); have hX := heap_new w2 (.cells #[.slice P2 1 cp2, .slice Q2 1 cq2] 25); obtain ⟨hx_0, hx_1, hx_s⟩ := rowD hx; obtain ⟨hX_0, hX_1, hX_s⟩ := rowD hX)
      | (go_at_call 16; (with_reducible refine (crash_one _ _ _ _ _ HD2.out).mono ?_); rintro e w3 ⟨P3, cp3, rfl, hp3, hk⟩; clear HD2; have HP3 := Lib.hid (hp3.calm ((Calm.refl _).alloc (.cells #[.slice P3 1 cp3, .slice none 0 0] 25))); clear hp3; clear hx_0 hx_1 hx_s; clear hX_0 hX_1 hX_s; replace hx := (hk.block (rowD hx).2.2).trans hx; replace hX := (hk.block (rowD hX).2.2).trans hX; replace hu := hu.call hk; clear hk; obtain ⟨hx_0, hx_1, hx_s⟩ := rowD hx; obtain ⟨hX_0, hX_1, hX_s⟩ := rowD hX; clear hx_0 hx_1 hx_s; clear hX_0 hX_1 hX_s; replace hx := heap_past (.cells #[.slice P3 1 cp3, .slice none 0 0] 25) hx; replace hX := heap_past (.cells #[.slice P3 1 cp3, .slice none 0 0] 25) hX; replace hu := hu.alloc (.cells #[.slice P3 1 cp3, .slice none 0 0] 25); have hY := heap_new w3 (.cells #[.slice P3 1 cp3, .slice none 0 0] 25); obtain ⟨hx_0, hx_1, hx_s⟩ := rowD hx; obtain ⟨hX_0, hX_1, hX_s⟩ := rowD hX; obtain ⟨hY_0, hY_1, hY_s⟩ := rowD hY))
  have hXs := hX_s
  generalize w2.heap.size = gX at hX hX_0 hX_1 hX_s hXi hXs ⊢
  generalize hgY : w3.heap.size = gY at hY hY_0 hY_1 hY_s ⊢
  clear hgY
  generalize w3.alloc (.cells #[.slice P3 1 cp3, .slice none 0 0] 25) = w4 at hx hX hY hu HP3 hx_0 hx_1 hx_s hX_0 hX_1 hX_s hY_0 hY_1 hY_s hXs ⊢
  have H_hY := Lib.hid hY
  have cS1 := fun u (P5 : Option Addr) (cp5 : Nat) (hu : Calm w4 u) (h5 : LiesP u P5 [{ data := #[97] }]) => same_safe (n := 1) (cp := cp3) (cp' := cp5) (HP3.out.calm hu) h5 rfl (by decide)
  refine wp_region_stages [.val (.int .i64 0), .val (.bool false), .val (.bool false), .val (.int .i64 0), .val (.bool false), .val (.bool false), .val (.bool false), .val (.agg #[.slice P3 1 cp3, .slice none 0 0]), .late, .late [8], .late [9], .late [10]] [8, 9, 10, 11]
    (ChainS 4 (DtA w4)) (by kernel_rfl) (by kernel_rfl) (by kernel_rfl) (ChainS.stay dtA_stay) (fun Y => ChainS.start (late := [8, 9, 10, 11]) (show Calm _ _ from (Calm.refl _).drew)) (fun Y => ?_)
  iterate 7
    refine planS_val (by kernel_rfl) (fun L9 u hb hS => ?_) ?_
    · clear hS hb
      go_simp
    simp only [Act.put, List.setIfInBounds_toArray, List.set_cons_zero, List.set_cons_succ, Nat.reduceAdd]
  refine planS_val (by kernel_rfl) (fun L9 u hb hS => ?_) ?_
  · obtain ⟨k9, -, hA⟩ := ChainS.any (late := [8, 9, 10, 11]) hS
    have hc := dtA_calm hA
    obtain ⟨y0, y1, ys⟩ := rowD ((hc.block (rowD H_hY.out).2.2).trans H_hY.out)
    clear hS hb hA hc
    go_simp
  simp only [Act.put, List.setIfInBounds_toArray, List.set_cons_zero, List.set_cons_succ, Nat.reduceAdd]
  refine planS_late (fun L9 u hi hb hS => ?_) ?_
  · obtain ⟨hA, hN⟩ := ChainS.step (late := [8, 9, 10, 11]) (m := 0) hS rfl hi (fun j h0 h => by exact absurd h0 (Nat.lt_irrefl _)) (by decide)
    have hc : Calm w4 u := hA
    have H := Lib.hid (fun g u' (hb : Calm u u') (hg : u'.heap[g]? = some (.cells #[.string { data := #[97] }] 9 (0, 0))) => hN (.agg #[.slice (some ⟨g, 0, none⟩) 1 1, .slice none 0 0]) u' (show DtA w4 1 _ u' from ⟨hc.call hb, g, by simp [updV], hg⟩))
    clear hA hN hc hS hb hi cS1
    go_wp2_with (go_at_call 28; (with_reducible refine (one_any _ _).mono ?_); rintro e w5 ⟨g5, rfl, hg5, hk⟩; have HG5 := Lib.hid hg5; have HK5 := Lib.hid hk; clear hg5 hk)
    exact H.out g5 w5 HK5.out HG5.out
  simp only [Act.put, List.setIfInBounds_toArray, List.set_cons_zero, List.set_cons_succ, Nat.reduceAdd]
  refine planS_late (fun L9 u hi hb hS => ?_) ?_
  · obtain ⟨hA, hN⟩ := ChainS.step (late := [8, 9, 10, 11]) (m := 1) hS rfl hi (fun j _ h => by cases h; exact hb 8 (by simp)) (by decide)
    obtain ⟨hc, g, eY, hg⟩ := (show Calm w4 u ∧ ∃ g, Y 8 = .agg #[.slice (some ⟨g, 0, none⟩) 1 1, .slice none 0 0] ∧ u.heap[g]? = some (.cells #[.string { data := #[97] }] 9 (0, 0)) from hA)
    have H := Lib.hid (fun u' (hb : Calm u u') => hN (.bool true) u' (show DtA w4 2 _ u' from ⟨hc.call hb, by simp [updV]⟩))
    have c1 := cS1 u _ 1 hc (lies_one1 hg).p
    rw [eY]
    clear hA hN hc hS hb hi cS1 eY hg
    go_wp2_with (go_at_call 19; (with_reducible refine c1.mono ?_); rintro e w5 ⟨rfl, hk⟩; have HK5 := Lib.hid hk; clear hk)
    exact H.out w5 HK5.out
  simp only [Act.put, List.setIfInBounds_toArray, List.set_cons_zero, List.set_cons_succ, Nat.reduceAdd]
  refine planS_late (fun L9 u hi hb hS => ?_) ?_
  · obtain ⟨hA, hN⟩ := ChainS.step (late := [8, 9, 10, 11]) (m := 2) hS rfl hi (fun j _ h => by cases h; exact hb 9 (by simp)) (by decide)
    obtain ⟨hc, eY⟩ := (show Calm w4 u ∧ Y 9 = .bool true from hA)
    have H := Lib.hid (hN (.bool false) u (show DtA w4 3 _ u from ⟨hc, by simp [updV]⟩))
    rw [eY]
    clear hA hN hc hS hb hi cS1 eY
    go_wp2_with fail
    exact H.out
  simp only [Act.put, List.setIfInBounds_toArray, List.set_cons_zero, List.set_cons_succ, Nat.reduceAdd]
  refine planS_late (fun L9 u hi hb hS => ?_) ?_
  · obtain ⟨hA, hN⟩ := ChainS.step (late := [8, 9, 10, 11]) (m := 3) hS rfl hi (fun j _ h => by cases h; exact hb 10 (by simp)) (by decide)
    obtain ⟨hc, eY⟩ := (show Calm w4 u ∧ Y 10 = .bool false from hA)
    have H := Lib.hid (hN (.bool false) u (show DtA w4 4 _ u from ⟨hc, by simp [updV]⟩))
    rw [eY]
    clear hA hN hc hS hb hi cS1 eY
    go_wp2_with fail
    exact H.out
  try simp only [Act.put, Nat.reduceAdd]
  refine planS_end ?_
  intro w6 hS
  obtain ⟨hc6, eY⟩ := (show Calm w4 w6 ∧ Y 11 = .bool false from ChainS.done (late := [8, 9, 10, 11]) hS)
  rw [eY]
  clear hS eY cS1 H_hY HP3
  clear hx_0 hx_1 hx_s; clear hX_0 hX_1 hX_s; clear hY_0 hY_1 hY_s
  clear hY
  replace hx := (hc6.block (rowD hx).2.2).trans hx
  replace hX := (hc6.block (rowD hX).2.2).trans hX
  replace hXs := Nat.lt_of_lt_of_le hXs hc6.size
  replace hu := hu.call hc6
  clear hc6
  obtain ⟨hx_0, hx_1, hx_s⟩ := rowD hx; obtain ⟨hX_0, hX_1, hX_s⟩ := rowD hX
  obtain ⟨fX0, fX1⟩ := freeD2 hX
  go_upto_region 6 with (go_at_call 14; (with_reducible refine (cP _ hu).mono ?_); rintro e w7 ⟨P3, cp3, Q3, cq3, rfl, hd3, hk⟩; have hX6 := hX_s; clear cP fX0 fX1; have HD3 := Lib.hid hd3; clear hd3; clear hx_0 hx_1 hx_s; clear hX_0 hX_1 hX_s; replace hx := (hk.block (rowD hx).2.2).trans hx; replace hX := (hk.block (rowD hX).2.2).trans hX; replace hu := hu.call hk; clear hk; obtain ⟨hx_0, hx_1, hx_s⟩ := rowD hx; obtain ⟨hX_0, hX_1, hX_s⟩ := rowD hX; obtain ⟨fX0, fX1⟩ := freeD2 hX)
  have HDX := Lib.hid (HD3.out.two (g := gX) hX6 (.slice P3 l.length cp3) (.slice Q3 M.length cq3)).has
  clear HD3
  clear fX0 fX1
  clear hx_0 hx_1 hx_s; clear hX_0 hX_1 hX_s
  replace hx := (two_otherD (w := w7) (g := gX) (by omega) (.slice P3 l.length cp3) (.slice Q3 M.length cq3)).trans hx
  replace hX := setD2 hX (.slice P3 l.length cp3) (.slice Q3 M.length cq3)
  replace hu := hu.twoD (g := gX) (by omega) (.slice P3 l.length cp3) (.slice Q3 M.length cq3)
  generalize (w7.setCell ⟨gX, 0, none⟩ (.slice P3 l.length cp3)).setCell ⟨gX, 1, none⟩ (.slice Q3 M.length cq3) = w8 at hx hX hu HDX ⊢
  obtain ⟨hx_0, hx_1, hx_s⟩ := rowD hx; obtain ⟨hX_0, hX_1, hX_s⟩ := rowD hX
  obtain ⟨fX0, fX1⟩ := freeD2 hX
  have hMl := (dkErr_zero.1 h0).2.1
  have hnl := (dk_len h0).1
  have cSy := fun u (h : HasD u P3 Q3 l M) => h.sync cp3 cq3 h0
  have hcl : (curP l M).length = l.length := doneL_len _ _ _ _
  have hce := done_err (fun _ => true) h0
  have cS2 := fun u P6 cp6 (h : LiesP u P6 (curP l M)) => sync_safe (cp := cp6) h hcl hce
  have cKa := fun u (h : HasD u P3 Q3 l M) (A : Option Addr) (c : Nat) (hK : LiesO u A (List.replicate M.length true)) => crash_all h cp3 cq3 h0 rfl c hK
  have cKn := fun u (h : HasD u P3 Q3 l M) => crash_none h cp3 cq3 h0
  have cSm := fun u P6 cp6 P7 cp7 (h : LiesP u P6 (curP l M)) (h' : LiesP u P7 (curP l M)) => same_safe (cp := cp6) (cp' := cp7) h h' hcl hnl
  have cEq := fun u P6 (c6 c7 : Nat) P7 (h : LiesP u P6 l) (h' : LiesP u P7 l) => equalP_self P6 P7 c6 c7 l u hnl h h'
  have m1 := fun u => makeBools u M.length (by omega)
  have hob := fun u => own_bools u M.length (by omega)
  clear hcl hce h0
  generalize curP l M = LS at cSy cS2 cKa cSm
  clear fX0 fX1
  go_upto_region 10 with (go_at_call 18; (with_reducible refine (cC _ _ _ _ _ HDX.out).mono ?_); rintro e w9 ⟨rfl, hk⟩; clear hx_0 hx_1 hx_s; clear hX_0 hX_1 hX_s; replace hx := (hk.block (rowD hx).2.2).trans hx; replace hX := (hk.block (rowD hX).2.2).trans hX; replace HDX := Lib.hid (HDX.out.calm hk); replace hu := hu.call hk; clear hk; obtain ⟨hx_0, hx_1, hx_s⟩ := rowD hx; obtain ⟨hX_0, hX_1, hX_s⟩ := rowD hX)
  obtain ⟨fX0, fX1⟩ := freeD2 hX
  clear hx_0 hx_1 hx_s; clear hX_0 hX_1 hX_s
  clear fX0 fX1
  have H_hX := Lib.hid hX
  have H_hx := Lib.hid hx
  generalize w9 = w10 at hx hX hu HDX H_hX H_hx ⊢
  obtain ⟨hx_0, hx_1, hx_s⟩ := rowD hx; obtain ⟨hX_0, hX_1, hX_s⟩ := rowD hX
  go_wp2_with fail
  have HB0 := Lib.hid (hob w10)
  have hlt10 := Nat.le_refl w10.heap.size
  go_loopw [61, 12] (fun n' _ wr => ∃ k : Nat, k ≤ M.length ∧ n' = .int .i64 k ∧ Calm w10 wr ∧ Hid (OwnG 4 boC 1 w10.heap.size wr (.slice (some ⟨w10.heap.size, 0, none⟩) M.length M.length) (List.replicate k true ++ List.replicate (M.length - k) false))) (fun n' _ _ => M.length - (intOf n').toNat)
  case atStart => exact ⟨0, Nat.zero_le _, rfl, (Calm.refl _).alloc _, by simpa using HB0⟩
  case round =>
    obtain ⟨k, hkm, rfl, hv, HB⟩ := hrel
    by_cases hlt : k < M.length
    · have hll : k < (List.replicate k true ++ List.replicate (M.length - k) false).length := by simp; omega
      have hcell : ∃ v, wr.cell? ⟨w10.heap.size, k, none⟩ = some v := by
        have := (OwnG.cell boC_len HB.out hll).1 0 (by omega)
        rw [Nat.mul_one, Nat.add_zero] at this
        exact ⟨_, this⟩
      obtain ⟨v9, hcell⟩ := hcell
      have hfz := OwnG.frozen HB.out k
      have hkz : (k : Int) < (M.length : Int) := by omega
      have HB2 : OwnG 4 boC 1 w10.heap.size (wr.setCell ⟨w10.heap.size, k, none⟩ (.bool true)) (.slice (some ⟨w10.heap.size, 0, none⟩) M.length M.length) (List.replicate (k + 1) true ++ List.replicate (M.length - (k + 1)) false) := by
        have := OwnG.set boC_len (i := k) (j := 0) (u := .bool true) (x := true) HB.out hll (by omega) rfl
        rw [Nat.mul_one, Nat.add_zero, rep_set _ _ hlt] at this
        exact this
      clear HB hll
      go_wp2_with fail
      go_roundw
      case rel => exact ⟨k + 1, by omega, by go_num, hv.setCell (p := ⟨w10.heap.size, k, none⟩) (Nat.le_refl _) _, HB2⟩
      case measure => simp [intOf]; omega
    obtain rfl : k = M.length := by omega
    have HK := Lib.hid (show LiesO wr (some ⟨w10.heap.size, 0, none⟩) (List.replicate M.length true) by
      have := HB.out
      rw [Nat.sub_self, List.replicate_zero, List.append_nil] at this
      exact (OwnG.at_ boC_len this).2)
    clear HB hlt hkm m1 hob HB0
    have hx := (hv.block (rowD H_hx.out).2.2).trans H_hx.out
    have hX := (hv.block (rowD H_hX.out).2.2).trans H_hX.out
    replace HDX := Lib.hid (HDX.out.calm hv)
    replace hu := hu.call hv
    clear hv H_hx H_hX
    obtain ⟨hx_0, hx_1, hx_s⟩ := rowD hx; obtain ⟨hX_0, hX_1, hX_s⟩ := rowD hX
    generalize w10.heap.size = gB at HK ⊢
    go_wp2_with (first
        | (go_at_call 15; (with_reducible refine (cSy _ HDX.out).mono ?_); rintro e w11 ⟨P6, cp6, rfl, ho6, hk⟩; clear cSy; have HP6 := Lib.hid ((OwnP.at_ ho6).2.calm ((Calm.refl _).alloc (.cells #[.slice P6 l.length cp6, .slice none 0 0] 25))); clear ho6; clear hx_0 hx_1 hx_s; clear hX_0 hX_1 hX_s; replace hx := (hk.block (rowD hx).2.2).trans hx; replace hX := (hk.block (rowD hX).2.2).trans hX; replace HDX := Lib.hid (HDX.out.calm hk); replace HK := Lib.hid (HK.out.calm hk); replace hu := hu.call hk; clear hk; obtain ⟨hx_0, hx_1, hx_s⟩ := rowD hx; obtain ⟨hX_0, hX_1, hX_s⟩ := rowD hX; clear hx_0 hx_1 hx_s; clear hX_0 hX_1 hX_s; replace hx := heap_past (.cells #[.slice P6 l.length cp6, .slice none 0 0] 25) hx; replace hX := heap_past (.cells #[.slice P6 l.length cp6, .slice none 0 0] 25) hX; replace HDX := Lib.hid (HDX.out.calm ((Calm.refl _).alloc (.cells #[.slice P6 l.length cp6, .slice none 0 0] 25))); replace HK := Lib.hid (HK.out.calm ((Calm.refl _).alloc (.cells #[.slice P6 l.length cp6, .slice none 0 0] 25))); replace hu := hu.alloc (.cells #[.slice P6 l.length cp6, .slice none 0 0] 25); have hA := heap_new w11 (.cells #[.slice P6 l.length cp6, .slice none 0 0] 25); obtain ⟨hx_0, hx_1, hx_s⟩ := rowD hx; obtain ⟨hX_0, hX_1, hX_s⟩ := rowD hX; obtain ⟨hA_0, hA_1, hA_s⟩ := rowD hA)
        | (go_at_call 15; (with_reducible refine (cS2 _ _ _ HP6.out).mono ?_); rintro e w12 ⟨P7, cp7, rfl, ho7, hk⟩; clear cS2; have HP7 := Lib.hid ((OwnP.at_ ho7).2.calm ((Calm.refl _).alloc (.cells #[.slice P7 l.length cp7, .slice none 0 0] 25))); clear ho7; clear hx_0 hx_1 hx_s; clear hX_0 hX_1 hX_s; clear hA_0 hA_1 hA_s; replace hx := (hk.block (rowD hx).2.2).trans hx; replace hX := (hk.block (rowD hX).2.2).trans hX; replace hA := (hk.block (rowD hA).2.2).trans hA; replace HDX := Lib.hid (HDX.out.calm hk); replace HK := Lib.hid (HK.out.calm hk); replace HP6 := Lib.hid (HP6.out.calm hk); replace hu := hu.call hk; clear hk; obtain ⟨hx_0, hx_1, hx_s⟩ := rowD hx; obtain ⟨hX_0, hX_1, hX_s⟩ := rowD hX; obtain ⟨hA_0, hA_1, hA_s⟩ := rowD hA; clear hx_0 hx_1 hx_s; clear hX_0 hX_1 hX_s; clear hA_0 hA_1 hA_s; replace hx := heap_past (.cells #[.slice P7 l.length cp7, .slice none 0 0] 25) hx; replace hX := heap_past (.cells #[.slice P7 l.length cp7, .slice none 0 0] 25) hX; replace hA := heap_past (.cells #[.slice P7 l.length cp7, .slice none 0 0] 25) hA; replace HDX := Lib.hid (HDX.out.calm ((Calm.refl _).alloc (.cells #[.slice P7 l.length cp7, .slice none 0 0] 25))); replace HK := Lib.hid (HK.out.calm ((Calm.refl _).alloc (.cells #[.slice P7 l.length cp7, .slice none 0 0] 25))); replace HP6 := Lib.hid (HP6.out.calm ((Calm.refl _).alloc (.cells #[.slice P7 l.length cp7, .slice none 0 0] 25))); replace hu := hu.alloc (.cells #[.slice P7 l.length cp7, .slice none 0 0] 25); have hB := heap_new w12 (.cells #[.slice P7 l.length cp7, .slice none 0 0] 25); obtain ⟨hx_0, hx_1, hx_s⟩ := rowD hx; obtain ⟨hX_0, hX_1, hX_s⟩ := rowD hX; obtain ⟨hA_0, hA_1, hA_s⟩ := rowD hA; obtain ⟨hB_0, hB_1, hB_s⟩ := rowD hB)
        | (go_at_call 16; (with_reducible refine (cKa _ HDX.out _ _ HK.out).mono ?_); rintro e w13 ⟨P8, cp8, rfl, ho8, hk⟩; clear cKa; have HP8 := Lib.hid ((OwnP.at_ ho8).2.calm ((Calm.refl _).alloc (.cells #[.slice P8 l.length cp8, .slice none 0 0] 25))); clear ho8; clear hx_0 hx_1 hx_s; clear hX_0 hX_1 hX_s; clear hA_0 hA_1 hA_s; clear hB_0 hB_1 hB_s; replace hx := (hk.block (rowD hx).2.2).trans hx; replace hX := (hk.block (rowD hX).2.2).trans hX; replace hA := (hk.block (rowD hA).2.2).trans hA; replace hB := (hk.block (rowD hB).2.2).trans hB; replace HDX := Lib.hid (HDX.out.calm hk); replace HK := Lib.hid (HK.out.calm hk); replace HP6 := Lib.hid (HP6.out.calm hk); replace HP7 := Lib.hid (HP7.out.calm hk); replace hu := hu.call hk; clear hk; obtain ⟨hx_0, hx_1, hx_s⟩ := rowD hx; obtain ⟨hX_0, hX_1, hX_s⟩ := rowD hX; obtain ⟨hA_0, hA_1, hA_s⟩ := rowD hA; obtain ⟨hB_0, hB_1, hB_s⟩ := rowD hB; clear hx_0 hx_1 hx_s; clear hX_0 hX_1 hX_s; clear hA_0 hA_1 hA_s; clear hB_0 hB_1 hB_s; replace hx := heap_past (.cells #[.slice P8 l.length cp8, .slice none 0 0] 25) hx; replace hX := heap_past (.cells #[.slice P8 l.length cp8, .slice none 0 0] 25) hX; replace hA := heap_past (.cells #[.slice P8 l.length cp8, .slice none 0 0] 25) hA; replace hB := heap_past (.cells #[.slice P8 l.length cp8, .slice none 0 0] 25) hB; replace HDX := Lib.hid (HDX.out.calm ((Calm.refl _).alloc (.cells #[.slice P8 l.length cp8, .slice none 0 0] 25))); replace HK := Lib.hid (HK.out.calm ((Calm.refl _).alloc (.cells #[.slice P8 l.length cp8, .slice none 0 0] 25))); replace HP6 := Lib.hid (HP6.out.calm ((Calm.refl _).alloc (.cells #[.slice P8 l.length cp8, .slice none 0 0] 25))); replace HP7 := Lib.hid (HP7.out.calm ((Calm.refl _).alloc (.cells #[.slice P8 l.length cp8, .slice none 0 0] 25))); replace hu := hu.alloc (.cells #[.slice P8 l.length cp8, .slice none 0 0] 25); have hC := heap_new w13 (.cells #[.slice P8 l.length cp8, .slice none 0 0] 25); obtain ⟨hx_0, hx_1, hx_s⟩ := rowD hx; obtain ⟨hX_0, hX_1, hX_s⟩ := rowD hX; obtain ⟨hA_0, hA_1, hA_s⟩ := rowD hA; obtain ⟨hB_0, hB_1, hB_s⟩ := rowD hB; obtain ⟨hC_0, hC_1, hC_s⟩ := rowD hC)
        | (go_at_call 16; (with_reducible refine (cKn _ HDX.out).mono ?_); rintro e w14 ⟨P9, cp9, rfl, ho9, hk⟩; clear cKn; have HP9 := Lib.hid ((OwnP.at_ ho9).2.calm ((Calm.refl _).alloc (.cells #[.slice P9 l.length cp9, .slice none 0 0] 25))); clear ho9; clear hx_0 hx_1 hx_s; clear hX_0 hX_1 hX_s; clear hA_0 hA_1 hA_s; clear hB_0 hB_1 hB_s; clear hC_0 hC_1 hC_s; replace hx := (hk.block (rowD hx).2.2).trans hx; replace hX := (hk.block (rowD hX).2.2).trans hX; replace hA := (hk.block (rowD hA).2.2).trans hA; replace hB := (hk.block (rowD hB).2.2).trans hB; replace hC := (hk.block (rowD hC).2.2).trans hC; replace HDX := Lib.hid (HDX.out.calm hk); replace HK := Lib.hid (HK.out.calm hk); replace HP6 := Lib.hid (HP6.out.calm hk); replace HP7 := Lib.hid (HP7.out.calm hk); replace HP8 := Lib.hid (HP8.out.calm hk); replace hu := hu.call hk; clear hk; obtain ⟨hx_0, hx_1, hx_s⟩ := rowD hx; obtain ⟨hX_0, hX_1, hX_s⟩ := rowD hX; obtain ⟨hA_0, hA_1, hA_s⟩ := rowD hA; obtain ⟨hB_0, hB_1, hB_s⟩ := rowD hB; obtain ⟨hC_0, hC_1, hC_s⟩ := rowD hC; clear hx_0 hx_1 hx_s; clear hX_0 hX_1 hX_s; clear hA_0 hA_1 hA_s; clear hB_0 hB_1 hB_s; clear hC_0 hC_1 hC_s; replace hx := heap_past (.cells #[.slice P9 l.length cp9, .slice none 0 0] 25) hx; replace hX := heap_past (.cells #[.slice P9 l.length cp9, .slice none 0 0] 25) hX; replace hA := heap_past (.cells #[.slice P9 l.length cp9, .slice none 0 0] 25) hA; replace hB := heap_past (.cells #[.slice P9 l.length cp9, .slice none 0 0] 25) hB; replace hC := heap_past (.cells #[.slice P9 l.length cp9, .slice none 0 0] 25) hC; replace HDX := Lib.hid (HDX.out.calm ((Calm.refl _).alloc (.cells #[.slice P9 l.length cp9, .slice none 0 0] 25))); replace HK := Lib.hid (HK.out.calm ((Calm.refl _).alloc (.cells #[.slice P9 l.length cp9, .slice none 0 0] 25))); replace HP6 := Lib.hid (HP6.out.calm ((Calm.refl _).alloc (.cells #[.slice P9 l.length cp9, .slice none 0 0] 25))); replace HP7 := Lib.hid (HP7.out.calm ((Calm.refl _).alloc (.cells #[.slice P9 l.length cp9, .slice none 0 0] 25))); replace HP8 := Lib.hid (HP8.out.calm ((Calm.refl _).alloc (.cells #[.slice P9 l.length cp9, .slice none 0 0] 25))); replace hu := hu.alloc (.cells #[.slice P9 l.length cp9, .slice none 0 0] 25); have hN := heap_new w14 (.cells #[.slice P9 l.length cp9, .slice none 0 0] 25); obtain ⟨hx_0, hx_1, hx_s⟩ := rowD hx; obtain ⟨hX_0, hX_1, hX_s⟩ := rowD hX; obtain ⟨hA_0, hA_1, hA_s⟩ := rowD hA; obtain ⟨hB_0, hB_1, hB_s⟩ := rowD hB; obtain ⟨hC_0, hC_1, hC_s⟩ := rowD hC; obtain ⟨hN_0, hN_1, hN_s⟩ := rowD hN)
        | (go_at_call 19; (first | (with_reducible refine (cSm _ _ _ _ _ HP6.out HP7.out).mono ?_) | (with_reducible refine (cSm _ _ _ _ _ HP6.out HP8.out).mono ?_)); rintro e w15 ⟨rfl, hk⟩; clear hx_0 hx_1 hx_s; clear hX_0 hX_1 hX_s; clear hA_0 hA_1 hA_s; clear hB_0 hB_1 hB_s; clear hC_0 hC_1 hC_s; clear hN_0 hN_1 hN_s; replace hx := (hk.block (rowD hx).2.2).trans hx; replace hX := (hk.block (rowD hX).2.2).trans hX; replace hA := (hk.block (rowD hA).2.2).trans hA; replace hB := (hk.block (rowD hB).2.2).trans hB; replace hC := (hk.block (rowD hC).2.2).trans hC; replace hN := (hk.block (rowD hN).2.2).trans hN; replace HDX := Lib.hid (HDX.out.calm hk); replace HK := Lib.hid (HK.out.calm hk); replace HP6 := Lib.hid (HP6.out.calm hk); replace HP7 := Lib.hid (HP7.out.calm hk); replace HP8 := Lib.hid (HP8.out.calm hk); replace HP9 := Lib.hid (HP9.out.calm hk); replace hu := hu.call hk; clear hk; obtain ⟨hx_0, hx_1, hx_s⟩ := rowD hx; obtain ⟨hX_0, hX_1, hX_s⟩ := rowD hX; obtain ⟨hA_0, hA_1, hA_s⟩ := rowD hA; obtain ⟨hB_0, hB_1, hB_s⟩ := rowD hB; obtain ⟨hC_0, hC_1, hC_s⟩ := rowD hC; obtain ⟨hN_0, hN_1, hN_s⟩ := rowD hN)
        | (go_at_call 30; (with_reducible refine (cEq _ _ _ _ _ HP9.out HDX.out.p).mono ?_); rintro e w16 ⟨rfl, hk⟩; clear hx_0 hx_1 hx_s; clear hX_0 hX_1 hX_s; clear hA_0 hA_1 hA_s; clear hB_0 hB_1 hB_s; clear hC_0 hC_1 hC_s; clear hN_0 hN_1 hN_s; replace hx := (hk.block (rowD hx).2.2).trans hx; replace hX := (hk.block (rowD hX).2.2).trans hX; replace hA := (hk.block (rowD hA).2.2).trans hA; replace hB := (hk.block (rowD hB).2.2).trans hB; replace hC := (hk.block (rowD hC).2.2).trans hC; replace hN := (hk.block (rowD hN).2.2).trans hN; replace HDX := Lib.hid (HDX.out.calm hk); replace HK := Lib.hid (HK.out.calm hk); replace HP6 := Lib.hid (HP6.out.calm hk); replace HP7 := Lib.hid (HP7.out.calm hk); replace HP8 := Lib.hid (HP8.out.calm hk); replace HP9 := Lib.hid (HP9.out.calm hk); replace hu := hu.call hk; clear hk; obtain ⟨hx_0, hx_1, hx_s⟩ := rowD hx; obtain ⟨hX_0, hX_1, hX_s⟩ := rowD hX; obtain ⟨hA_0, hA_1, hA_s⟩ := rowD hA; obtain ⟨hB_0, hB_1, hB_s⟩ := rowD hB; obtain ⟨hC_0, hC_1, hC_s⟩ := rowD hC; obtain ⟨hN_0, hN_1, hN_s⟩ := rowD hN))
    go_ret
    exact ⟨rfl, hu⟩
theorem diskTwice_walk (P Q : Option Addr) (cp cq : Nat) (l : List ByteArray) (m : List Wr) (i : Int) (s : ByteArray) (w : World) (hh : HasD w P Q l m) (hn : l.length ≤ 9223372036854775807) (hm : m.length ≤ 9223372036854775807) :
    Calls Try.prog 6 #[.agg #[.slice P l.length cp, .slice Q m.length cq], .int .i64 i, .string s] w fun e w' => e = .returned (.bool true) ∧ Calm w w' := by
  by_cases hE : ptE l m ⟨i, s⟩ = 0
  · exact dt_ok P Q cp cq l m i s w hh hn hm hE
  by_cases h0 : dkErr l m = 0
  · exact dt_no P Q cp cq l m i s w hh hn hm _ hE rfl h0
  · exact dt_bad P Q cp cq l m i s w hh hn hm _ hE rfl h0
end Go.Proofs.Ytkppoapjifeifaa
