/- Texts of one kind in one file. -/
import Derived.Test.YtmpgikplpohjnaaPkUndoRecovers1
set_option maxRecDepth 100000
namespace Go.Proofs.Ytmpgikplpohjnaa
open Go.RowKit
set_option maxHeartbeats 8000000 in
theorem diskRead_any (P Q : Option Addr) (cp cq : Nat) (l : List ByteArray) (m : List Wr) (i : Int) (w : World) (hP : LiesP w P l) (hQ : LiesW w Q m) (hn : l.length ≤ 9223372036854775807) (hm : m.length ≤ 9223372036854775807) :
    Calls Try.prog 54 #[.agg #[.slice P l.length cp, .slice Q m.length cq], .int .i64 i] w fun e w' => e = .returned (.tuple #[.string (rdS l m i), .int .i64 (rdE l m i)]) ∧ Calm w w' := by
  have hx := heap_new w (.cells #[.slice P l.length cp, .slice Q m.length cq] 25)
  have hu := (Calm.refl w).alloc (.cells #[.slice P l.length cp, .slice Q m.length cq] 25)
  have cC := fun u (hu : Calm w u) => diskCheck_any P Q cp cq l m u (hP.calm hu) (hQ.calm hu) hn hm
  have cW := fun u => checkW_any P Q l.length cp m.length cq i { data := #[] } u
  obtain ⟨x0, x1, hxs⟩ := rowD hx
  by_cases hz : dkErr l m = 0
  rotate_left
  · have e1 : rdE l m i = dkErr l m := by unfold rdE; rw [if_neg hz]
    have e2 : rdS l m i = { data := #[] } := by unfold rdS; rw [e1, if_neg hz]
    rw [e1, e2]
    have b1 : (dkErr l m != 0) = true := by rw [bne_iff_ne]; exact hz
    clear e1 e2 hz hP hQ cW
    generalize dkErr l m = E at cC b1 ⊢
    go_enter Try.func54, Try.ntmps54
    go_wp2_with (go_at_call 53; (with_reducible refine (cC _ hu).mono ?_); rintro e w1 ⟨rfl, hb1⟩)
    go_ret2
    exact ⟨rfl, hu.call hb1⟩
  rw [hz] at cC
  by_cases hi : i < 0 ∨ (l.length : Int) ≤ i
  · have e1 : rdE l m i = 1 := by unfold rdE; rw [if_pos hz, if_pos hi]
    have e2 : rdS l m i = { data := #[] } := by unfold rdS; rw [e1, if_neg (by decide)]
    have e3 : wrE l.length ⟨i, { data := #[] }⟩ = 1 := by unfold wrE; rw [if_pos hi]
    rw [e1, e2]
    rw [e3] at cW
    clear e1 e2 e3 hz hP hQ hi
    go_enter Try.func54, Try.ntmps54
    go_wp2_with first
      | (go_at_call 53; (with_reducible refine (cC _ hu).mono ?_); rintro e w1 ⟨rfl, hb1⟩; replace hx := (hb1.block hxs).trans hx; obtain ⟨x0, x1, hxs⟩ := rowD hx; replace hu := hu.call hb1; clear hb1)
      | (go_at_call 72; (with_reducible refine (cW _).mono ?_); rintro e w1 ⟨rfl, hb1⟩; replace hu := hu.call hb1; clear hb1)
    go_ret2
    exact ⟨rfl, hu⟩
  have e3 : wrE l.length ⟨i, { data := #[] }⟩ = 0 := wrE_zero.2 ⟨by simp only; omega, by simp only; omega, Nat.zero_le _⟩
  have e1 : rdE l m i = 0 := by unfold rdE; rw [if_pos hz, if_neg hi]
  have e2 : rdS l m i = rdL i m (l.getD i.toNat { data := #[] }) := by unfold rdS; rw [e1, if_pos rfl]
  rw [e1, e2]
  rw [e3] at cW
  obtain ⟨k0, rfl⟩ : ∃ k : Nat, i = (k : Int) := ⟨i.toNat, by omega⟩
  have hk0 : k0 < l.length := by omega
  rw [Int.toNat_natCast]
  have HX := Lib.hid hx
  have HQ := Lib.hid hQ
  obtain ⟨b0, q0, s0, rfl, hb0, HE0, z0⟩ := hP.get hk0
  have hg : l.getD k0 { data := #[] } = s0 := by rw [List.getD_eq_getElem?_getD, HE0.out]; rfl
  rw [hg]
  have hP0 := Lib.hid hP
  have hm1 : m.length ≤ 400 := (dkErr_zero.1 hz).2.1
  clear e1 e2 e3 hz hi hg z0 hb0
  go_enter Try.func54, Try.ntmps54
  go_upto_region 7 with first
    | (go_at_call 53; (with_reducible refine (cC _ hu).mono ?_); rintro e w1 ⟨rfl, hb1⟩; replace hx := (hb1.block hxs).trans hx; obtain ⟨x0, x1, hxs⟩ := rowD hx; replace hu := hu.call hb1; clear hb1)
    | (go_at_call 72; (with_reducible refine (cW _).mono ?_); rintro e w2 ⟨rfl, hb1⟩; replace hx := (hb1.block hxs).trans hx; obtain ⟨x0, x1, hxs⟩ := rowD hx; replace hu := hu.call hb1; clear hb1)
  obtain ⟨b1, q1, s1, hA1, hb1, HE1, z0⟩ := (hP0.out.calm hu).get hk0
  obtain ⟨rfl, rfl⟩ : b0 = b1 ∧ q0 = q1 := by simpa using hA1
  obtain rfl : s0 = s1 := by have := HE0.out; rw [HE1.out] at this; exact (Option.some.inj this).symm
  have hz0 : (k0 : Int) < (l.length : Int) := by omega
  go_wp2_with fail
  clear x0 x1 hxs z0 hx hz0 hP hQ
  generalize w2 = w3 at hu hb1 ⊢
  go_loopw [31, 8, 10] (fun i t _ wr => ∃ k : Nat, k ≤ m.length ∧ i = .int .i64 k ∧ t = .string (rdL (k0 : Int) (m.take k) s0) ∧ Calm w wr) (fun i _ _ _ => m.length - (intOf i).toNat)
  case atStart => exact ⟨0, Nat.zero_le _, rfl, rfl, hu⟩
  case round =>
    obtain ⟨k, hk, rfl, rfl, hv⟩ := hrel
    by_cases hlt : k < m.length
    · obtain ⟨b, q, i, s, rfl, hb, HE, c0, c1⟩ := (HQ.out.calm hv).get hlt
      have HT := Lib.hid (rdL_take (i := (k0 : Int)) (s := s0) HE.out)
      by_cases hik : i = (k0 : Int)
      · have HT2 := Lib.hid (show rdL (k0 : Int) (m.take (k + 1)) s0 = s by rw [HT.out, if_pos hik])
        clear HT
        subst hik
        generalize rdL (k0 : Int) (m.take k) s0 = T
        go_wp2_with fail
        go_roundw
        case rel => exact ⟨k + 1, by omega, by go_num, by rw [HT2.out], hv.alloc _⟩
        case measure => simp [intOf]; omega
      · have HT2 := Lib.hid (show rdL (k0 : Int) (m.take (k + 1)) s0 = rdL (k0 : Int) (m.take k) s0 by rw [HT.out, if_neg hik])
        have e9 : decide (i = (k0 : Int)) = false := decide_eq_false hik
        generalize rdL (k0 : Int) (m.take k) s0 = T at HT2 ⊢
        clear HT
        go_wp2_with fail
        go_roundw
        case rel => exact ⟨k + 1, by omega, by go_num, by rw [HT2.out], hv.alloc _⟩
        case measure => simp [intOf]; omega
    have HT := Lib.hid (show rdL (k0 : Int) (m.take k) s0 = rdL (k0 : Int) m s0 by rw [List.take_of_length_le (by omega)])
    generalize rdL (k0 : Int) (m.take k) s0 = T at HT ⊢
    go_wp2_with fail
    go_ret2
    exact ⟨by rw [← HT.out]; rfl, hv⟩
open Go.RowKit
/-- A store into a block below the row's base leaves the row alone. -/
theorem rowsG_set {α : Type} {cv : α → List Value} {N B g : Nat} {t : TypeId} {w : World} {v : Value} {l : List α} (h : OwnG t cv N B w v l) (hg : g < B) (j : Nat) (u : Value) : OwnG t cv N B (w.setCell ⟨g, j, none⟩ u) v l :=
 h.same fun k hk => by
  have := (h.lt k hk).1
  exact heap_setCell_other w ⟨g, j, none⟩ k u (by show k ≠ g; omega)
open Go.ChangeShapes Go.WideShapes Go.ChangeAt Go.RowKit
section
variable {H : Type} {enc : TypeId × Value → H} {w : World} {base : Nat} {spare : Nat → Bool} {held : Bool}
theorem cellsWr : Try.prog.cellsOf 45 = 2 := by kernel_rfl
theorem cellsSlSt : Try.prog.cellsOf 22 = 1 := by kernel_rfl
theorem cellsSlWr : Try.prog.cellsOf 23 = 1 := by kernel_rfl
theorem cellsDisk : Try.prog.cellsOf 25 = 2 := by kernel_rfl
theorem write_cells {fuel : Nat} {cs : List Value} {x : DataW H × List MemPlace} (h : DataW.trod enc Try.prog w base spare held fuel 45 cs = some x) : ∃ y : Wr, cs = wrC y ∧ True := by
 obtain ⟨y0, y1, n, _, hl, h0, h1⟩ := trod_struct2 Try.underlying45 h
 obtain ⟨k, e0, _, w0⟩ := DataW.trod_int Try.underlying3 h0
 obtain ⟨s, e1, _, w1⟩ := DataW.trod_string Try.underlying9 h1
 simp only [cellsInt, cellsStr, cellsWr] at e0 e1 hl
 match cs, hl with
 | [c0, c1], _ =>
  simp at e0 e1
  exact ⟨⟨k, s⟩, by rw [e0, e1]; rfl, trivial⟩
theorem str_cells {fuel : Nat} {cs : List Value} {x : DataW H × List MemPlace} (h : DataW.trod enc Try.prog w base spare held fuel 9 cs = some x) : ∃ y : ByteArray, cs = stC y ∧ True := by
 obtain ⟨s, e1, _, w1⟩ := DataW.trod_string Try.underlying9 h
 exact ⟨s, e1, trivial⟩
variable {r : Reach} {b0 : Nat} {v : Value} {d : DataW H} {ps : List MemPlace}
theorem open_disk (hv : Value.okWide Try.prog w r b0 25 v) (h : DataW.Trod enc Try.prog w base spare held 25 v d ps) :
    ∃ (P : Option Addr) (cp : Nat) (l : List ByteArray) (Q : Option Addr) (cq : Nat) (m : List Wr), v = .agg #[.slice P l.length cp, .slice Q m.length cq] ∧ LiesP w P l ∧ LiesW w Q m ∧ l.length ≤ 9223372036854775807 ∧ m.length ≤ 9223372036854775807 ∧ l.length ≤ cp ∧ m.length ≤ cq := by
  obtain ⟨cs, rfl, _⟩ := okWide_struct Try.underlying25 hv
  obtain ⟨fuel, hf⟩ := h
  obtain ⟨y0, y1, n, hd, hl, h0, h1⟩ := trod_struct2 Try.underlying25 hf
  obtain ⟨P, cp, l, e0, le0, lc0, -, at0, -⟩ := rows_open (α := ByteArray) stC (fun _ => True) 1 Try.underlying22 cellsStr (by omega) (fun fuel cs x hx => str_cells hx) h0
  obtain ⟨Q, cq, m, e1, le1, lc1, -, at1, -⟩ := rows_open (α := Wr) wrC (fun _ => True) 2 Try.underlying23 cellsWr (by omega) (fun fuel cs x hx => write_cells hx) h1
  simp only [cellsSlSt, cellsSlWr, cellsDisk, Value.cells] at e0 e1 hl
  have hcs : cs.toList = [.slice P l.length cp, .slice Q m.length cq] := by
    match hm : cs.toList, hl with
    | [a0, a1], _ =>
      rw [hm] at e0 e1
      simp at e0 e1
      rw [e0, e1]
  exact ⟨P, cp, l, Q, cq, m, by rw [show cs = _ from Array.toList_inj.1 hcs], at0, at1, le0, le1, lc0, lc1⟩
end
open Go.RowKit
def PerfEnd (l : List ByteArray) (m : List Wr) (f : Nat → Bool) (w : World) (e : Ending) (w' : World) : Prop :=
 (dkErr l m ≠ 0 ∧ e = .returned (.tuple #[.agg #[.slice none 0 0, .slice none 0 0], .int .i64 (dkErr l m)]) ∧ Calm w w') ∨
 (dkErr l m = 0 ∧ ∃ v, e = .returned (.tuple #[.agg #[v, .slice none 0 0], .int .i64 0]) ∧ OwnP w.heap.size w' v (doneL f 0 m l) ∧ Calm w w')
theorem sync1_any (k : Nat) (w : World) : Calls Try.prog 69 #[.int .i64 k] w fun e w' => e = .returned (.bool true) ∧ Calm w w' := by
 go_enter Try.func69, Try.ntmps69
 go_wp2_with fail
 go_ret
 exact ⟨rfl, Calm.refl _⟩
set_option maxHeartbeats 8000000 in
theorem perfSync_any (P Q : Option Addr) (cp cq : Nat) (l : List ByteArray) (m : List Wr) (w : World) (hP : LiesP w P l) (hQ : LiesW w Q m) (hn : l.length ≤ 9223372036854775807) (hm : m.length ≤ 9223372036854775807) :
    Calls Try.prog 63 #[.agg #[.slice P l.length cp, .slice Q m.length cq], .func (.func 69) #[] #[]] w (PerfEnd l m (fun _ => true) w) := by
  have hx := heap_past (.cells #[.slice none 0 0, .slice none 0 0] 25) (heap_new w (.cells #[.slice P l.length cp, .slice Q m.length cq] 25))
  have hr := heap_new (w.alloc (.cells #[.slice P l.length cp, .slice Q m.length cq] 25)) (.cells #[.slice none 0 0, .slice none 0 0] 25)
  rw [World.size_alloc] at hr
  have hu := ((Calm.refl w).alloc (.cells #[.slice P l.length cp, .slice Q m.length cq] 25)).alloc (.cells #[.slice none 0 0, .slice none 0 0] 25)
  have cC := fun u (hu : Calm w u) => diskCheck_any P Q cp cq l m u (hP.calm hu) (hQ.calm hu) hn hm
  have cF : ∀ (k : Nat) u, Calm w u → Calls Try.prog 69 #[.int .i64 k] u fun e w' => e = .returned (.bool ((fun _ => true) k)) ∧ Calm u w' := fun k u _ => sync1_any k u
  obtain ⟨x0, x1, hxs⟩ := rowD hx
  obtain ⟨r0, r1, hrs⟩ := rowD hr
  obtain ⟨f0, f1⟩ := freeD2 hr
  by_cases hz : dkErr l m = 0
  rotate_left
  · have HE : Hid (∀ w', Calm w w' → PerfEnd l m (fun _ => true) w (.returned (.tuple #[.agg #[.slice none 0 0, .slice none 0 0], .int .i64 (dkErr l m)])) w') := show ∀ _, _ from fun w' hw => .inl ⟨hz, rfl, hw⟩
    have b1 : (dkErr l m != 0) = true := by rw [bne_iff_ne]; exact hz
    generalize PerfEnd l m (fun _ => true) w = PE at HE ⊢
    clear hz hP hQ
    generalize dkErr l m = E at cC b1 HE ⊢
    go_enter Try.func63, Try.ntmps63
    generalize hQ0 : bodyPost Try.prog Try.f63 PE = Q0
    have HRET : Hid (∀ a w', bodyPost Try.prog Try.f63 PE .ret a w' → Q0 .ret a w') := show ∀ _ _, _ from fun a w' h => by rw [← hQ0]; exact h
    clear hQ0
    go_wp2_with (go_at_call 53; (with_reducible refine (cC _ hu).mono ?_); rintro e w1 ⟨rfl, hb1⟩; replace hx := (hb1.block hxs).trans hx; replace hr := (hb1.block hrs).trans hr; replace hu := hu.call hb1; clear hb1; obtain ⟨x0, x1, hxs⟩ := rowD hx; obtain ⟨r0, r1, hrs⟩ := rowD hr; obtain ⟨f0, f1⟩ := freeD2 hr)
    have hr9 := setD2 hr (.slice none 0 0) (.slice none 0 0)
    have hu9 := hu.twoD (g := w.heap.size + 1) (by omega) (.slice none 0 0) (.slice none 0 0)
    exact HRET.out _ _ (end_dkE (p := 4) (q := 5) rfl rfl _ _ _ _ _ _ _ rfl rfl rfl hr9 rfl (HE.out _ hu9))
  have HE : Hid (∀ w' v, OwnP w.heap.size w' v (doneL (fun _ => true) 0 m l) → Calm w w' → PerfEnd l m (fun _ => true) w (.returned (.tuple #[.agg #[v, .slice none 0 0], .int .i64 0])) w') := show ∀ _, _ from fun w' v h1 hw => .inr ⟨hz, v, rfl, h1, hw⟩
  generalize PerfEnd l m (fun _ => true) w = PE at HE ⊢
  obtain ⟨h6, h5, -, hWS⟩ := dkErr_zero.1 hz
  have HWS := Lib.hid hWS
  have cP := fun u (hu : Calm w u) => cloneP_any P cp l u (by omega) (hP.calm hu)
  have HQ := Lib.hid hQ
  rw [hz] at cC
  clear hz hP hQ hWS hn hm
  go_enter Try.func63, Try.ntmps63
  generalize hQ0 : bodyPost Try.prog Try.f63 PE = Q0
  have HRET : Hid (∀ a w', bodyPost Try.prog Try.f63 PE .ret a w' → Q0 .ret a w') := show ∀ _ _, _ from fun a w' h => by rw [← hQ0]; exact h
  clear hQ0
  go_upto_region 5 with first
    | (go_at_call 53; (with_reducible refine (cC _ hu).mono ?_); rintro e w1 ⟨rfl, hb1⟩; replace hx := (hb1.block hxs).trans hx; replace hr := (hb1.block hrs).trans hr; replace hu := hu.call hb1; clear hb1; obtain ⟨x0, x1, hxs⟩ := rowD hx; obtain ⟨r0, r1, hrs⟩ := rowD hr; obtain ⟨f0, f1⟩ := freeD2 hr)
    | (go_at_call 26; (with_reducible refine (cP _ hu).mono ?_); rintro e w4 ⟨v4, rfl, ho4, hb1⟩; have hRl := hrs; replace hx := (hb1.block hxs).trans hx; replace hr := (hb1.block hrs).trans hr; replace hu := hu.call hb1; obtain ⟨x0, x1, hxs⟩ := rowD hx)
  obtain ⟨A4, c4, rfl, hc4, -⟩ := ho4.slice
  have hB4 := (Calm.size hb1)
  generalize w1.heap.size = B4 at ho4 hRl hB4
  have HO := Lib.hid ho4
  have HU := Lib.hid hu
  clear ho4 hb1 r0 r1 hrs f0 f1 cC cP
  go_wp2_with fail
  go_loopw [22, 8, 9] (fun i _ _ wr => ∃ k : Nat, k ≤ m.length ∧ i = .int .i64 k ∧ Calm w wr ∧ B4 ≤ wr.heap.size ∧ Hid (OwnP B4 wr (.slice A4 l.length c4) (doneL (fun _ => true) 0 (m.take k) l)) ∧ wr.heap[w.heap.size + 1]? = some (.cells #[.slice none 0 0, .slice none 0 0] 25 (0, 0))) (fun i _ _ _ => m.length - (intOf i).toNat)
  case atStart => exact ⟨0, Nat.zero_le _, rfl, hu, hB4, HO, hr⟩
  case round =>
    obtain ⟨k, hk, rfl, hv, hBv, HOk, hr⟩ := hrel
    by_cases hlt : k < m.length
    rotate_left
    · have hkl : m.take k = m := List.take_of_length_le (by omega)
      rw [hkl] at HOk
      have HO8 := HOk
      obtain ⟨r0, r1, hrs⟩ := rowD hr
      obtain ⟨f0, f1⟩ := freeD2 hr
      clear HOk hkl
      go_wp2_with fail
      have hr9 := setD2 hr (.slice A4 l.length c4) (.slice none 0 0)
      have HO9 := Lib.hid HO8.out
      have hu9 := hv.twoD (g := w.heap.size + 1) (by omega) (.slice A4 l.length c4) (.slice none 0 0)
      exact HRET.out _ _ (end_dkE (p := 4) (q := 5) rfl rfl _ _ _ _ _ _ _ rfl rfl rfl hr9 rfl (HE.out _ (.slice A4 l.length c4) (OwnG.weaken (rowsG_set (rowsG_set HO9.out hRl 0 (.slice A4 l.length c4)) hRl 1 (.slice none 0 0)) (by omega)) hu9))
    obtain ⟨b, q, i, s, rfl, hb, HEw, c0, c1⟩ := (HQ.out.calm hv).get hlt
    have hW := wrE_zero.1 (HWS.out _ (List.mem_of_getElem? HEw.out))
    obtain ⟨p, rfl⟩ : ∃ p : Nat, i = (p : Int) := ⟨i.toNat, by have := hW.1; simp only at this; omega⟩
    have hpl : p < l.length := by have := hW.2.1; simp only at this; omega
    have hdl := doneL_len (fun _ => true) (m.take k) 0 l
    obtain ⟨bk, hbk⟩ : ∃ bk : Bool, bk = (fun _ => true) k := ⟨_, rfl⟩
    have HT := Lib.hid (show doneL (fun _ => true) 0 (m.take (k + 1)) l = if bk = true then (doneL (fun _ => true) 0 (m.take k) l).set p s else doneL (fun _ => true) 0 (m.take k) l by rw [hbk]; exact doneL_take (f := (fun _ => true)) (ps := l) HEw.out)
    have cFk : ∀ u, Calm w u → Calls Try.prog 69 #[.int .i64 k] u fun e w' => e = .returned (.bool bk) ∧ Calm u w' := fun u hu => by rw [hbk]; exact cF k u hu
    have hak := (hv.alloc (.cells #[.int .i64 (p : Int), .string s] 45))
    have hyk := heap_new wr (.cells #[.int .i64 (p : Int), .string s] 45)
    have HO1 := Lib.hid (OwnP.calm HOk.out ((Calm.refl wr).alloc (.cells #[.int .i64 (p : Int), .string s] 45)))
    have hr1 := heap_past (.cells #[.int .i64 (p : Int), .string s] 45) hr
    clear hr HOk hW hbk HEw
    generalize doneL (fun _ => true) 0 (m.take k) l = L at HO1 HT hdl
    obtain ⟨g4, cap4, hA4⟩ := OwnG.some_ HO1.out (by omega)
    obtain rfl : A4 = some ⟨g4, 0, none⟩ := by injection hA4
    have hg4 := (HO1.out.lt g4 rfl).1
    clear hA4 cap4
    cases bk
    · have HT := Lib.hid (HT.out.trans (if_neg (by simp)))
      go_wp2_with (go_at_call 69; (with_reducible refine (cFk _ hak).mono ?_); rintro e w9 ⟨rfl, hb9⟩)
      go_roundw
      case rel => exact ⟨k + 1, by omega, by go_num, hak.call hb9, by have := hb9.size; simp at this; omega, by rw [HT.out]; exact HO1.out.calm hb9, (hb9.block (rowD hr1).2.2).trans hr1⟩
      case measure => simp [intOf]; omega
    · have HT := Lib.hid (HT.out.trans (if_pos rfl))
      go_wp2_with (go_at_call 69; (with_reducible refine (cFk _ hak).mono ?_); rintro e w9 ⟨rfl, hb9⟩; have hyk2 := (hb9.block (rowD hyk).2.2).trans hyk; obtain ⟨y0, y1, hys⟩ := rowD hyk2; have HO9 := Lib.hid (HO1.out.calm hb9); have hcell : w9.cell? ⟨g4, p, none⟩ = some (.string (L[p]'(by omega))) := (by have := (OwnG.cell stC_len HO9.out (show p < L.length by omega)).1 0 (by omega); rw [Nat.mul_one, Nat.add_zero] at this; exact this); have hfz := OwnG.frozen HO9.out p; have hpz : (p : Int) < (l.length : Int) := by omega)
      have HO10 : OwnP B4 (w9.setCell ⟨g4, p, none⟩ (.string s)) (.slice (some ⟨g4, 0, none⟩) l.length c4) (L.set p s) := by
        have := OwnG.set stC_len (i := p) (j := 0) (u := .string s) (x := s) HO9.out (by omega) (by omega) rfl
        rw [Nat.mul_one, Nat.add_zero] at this
        exact this
      go_roundw
      case rel => exact ⟨k + 1, by omega, by go_num, (hak.call hb9).setCell (p := ⟨g4, p, none⟩) (show w.heap.size ≤ g4 by omega) _, by have := hb9.size; simp at this ⊢; omega, by rw [HT.out]; exact HO10, (heap_setCell_other _ _ _ _ (by show w.heap.size + 1 ≠ g4; omega)).trans ((hb9.block (rowD hr1).2.2).trans hr1)⟩
      case measure => simp [intOf]; omega
set_option maxHeartbeats 8000000 in
theorem diskSync_any (P Q : Option Addr) (cp cq : Nat) (l : List ByteArray) (m : List Wr) (w : World) (hP : LiesP w P l) (hQ : LiesW w Q m) (hn : l.length ≤ 9223372036854775807) (hm : m.length ≤ 9223372036854775807) :
    Calls Try.prog 21 #[.agg #[.slice P l.length cp, .slice Q m.length cq]] w (PerfEnd l m (fun _ => true) w) := by
  have hx := heap_past (.cells #[.slice none 0 0, .slice none 0 0] 25) (heap_new w (.cells #[.slice P l.length cp, .slice Q m.length cq] 25))
  have hr := heap_new (w.alloc (.cells #[.slice P l.length cp, .slice Q m.length cq] 25)) (.cells #[.slice none 0 0, .slice none 0 0] 25)
  rw [World.size_alloc] at hr
  have hu := ((Calm.refl w).alloc (.cells #[.slice P l.length cp, .slice Q m.length cq] 25)).alloc (.cells #[.slice none 0 0, .slice none 0 0] 25)
  obtain ⟨x0, x1, hxs⟩ := rowD hx
  obtain ⟨r0, r1, hrs⟩ := rowD hr
  obtain ⟨f0, f1⟩ := freeD2 hr
  have cC := fun u (hu : Calm w u) => perfSync_any P Q cp cq l m u (hP.calm hu) (hQ.calm hu) hn hm
  by_cases hz : dkErr l m = 0
  · have HE0 : Hid (∀ w' v, OwnP w.heap.size w' v (doneL (fun _ => true) 0 m l) → Calm w w' → PerfEnd l m (fun _ => true) w (.returned (.tuple #[.agg #[v, .slice none 0 0], .int .i64 0])) w') := show ∀ _, _ from fun w' v h1 hw => .inr ⟨hz, v, rfl, h1, hw⟩
    have cC2 := fun u (hu : Calm w u) => (cC u hu).mono (fun e w' h => (show ∃ A c, e = .returned (.tuple #[.agg #[.slice A (doneL (fun _ => true) 0 m l).length c, .slice none 0 0], .int .i64 0]) ∧ OwnP u.heap.size w' (.slice A (doneL (fun _ => true) 0 m l).length c) (doneL (fun _ => true) 0 m l) ∧ Calm u w' by
      rcases h with ⟨h, -⟩ | ⟨h1, v, h2, h3, h4⟩
      · exact absurd hz h
      · obtain ⟨A, c, rfl, -, -⟩ := h3.slice
        exact ⟨A, c, h2, h3, h4⟩))
    generalize PerfEnd l m (fun _ => true) w = PE at HE0 ⊢
    clear cC hz hP hQ hn hm
    generalize doneL (fun _ => true) 0 m l = L at HE0 cC2
    go_enter Try.func21, Try.ntmps21
    generalize hQ0 : bodyPost Try.prog Try.f21 PE = Q0
    have HRET : Hid (∀ a w', bodyPost Try.prog Try.f21 PE .ret a w' → Q0 .ret a w') := show ∀ _ _, _ from fun a w' h => by rw [← hQ0]; exact h
    clear hQ0
    go_wp2_with (go_at_call 63; (with_reducible refine (cC2 _ hu).mono ?_); rintro e w1 ⟨A9, c9, rfl, ho9, hb1⟩; have HO9 := Lib.hid ho9; clear ho9; replace hr := (hb1.block hrs).trans hr; replace hu := hu.call hb1; have hs1 := hrs; clear hb1 r0 r1 hrs f0 f1 x0 x1 hxs; obtain ⟨r0, r1, hrs⟩ := rowD hr; obtain ⟨f0, f1⟩ := freeD2 hr)
    have hr9 := setD2 hr (.slice A9 L.length c9) (.slice none 0 0)
    have hu9 := hu.twoD (g := w.heap.size + 1) (by omega) (.slice A9 L.length c9) (.slice none 0 0)
    exact HRET.out _ _ (end_dkE (p := 2) (q := 3) rfl rfl _ _ _ _ _ _ _ rfl rfl rfl hr9 rfl (HE0.out _ _ (OwnG.weaken (rowsG_set (rowsG_set HO9.out hs1 0 (.slice A9 L.length c9)) hs1 1 (.slice none 0 0)) (by omega)) hu9))
  · have HE : Hid (∀ w', Calm w w' → PerfEnd l m (fun _ => true) w (.returned (.tuple #[.agg #[.slice none 0 0, .slice none 0 0], .int .i64 (dkErr l m)])) w') := show ∀ _, _ from fun w' hw => .inl ⟨hz, rfl, hw⟩
    have cC2 := fun u (hu : Calm w u) => (cC u hu).mono (fun e w' h => (show e = .returned (.tuple #[.agg #[.slice none 0 0, .slice none 0 0], .int .i64 (dkErr l m)]) ∧ Calm u w' by
      rcases h with ⟨-, h⟩ | ⟨h1, -⟩
      · exact h
      · exact absurd h1 hz))
    generalize PerfEnd l m (fun _ => true) w = PE at HE ⊢
    clear cC hz hP hQ hn hm
    generalize dkErr l m = E at HE cC2
    go_enter Try.func21, Try.ntmps21
    generalize hQ0 : bodyPost Try.prog Try.f21 PE = Q0
    have HRET : Hid (∀ a w', bodyPost Try.prog Try.f21 PE .ret a w' → Q0 .ret a w') := show ∀ _ _, _ from fun a w' h => by rw [← hQ0]; exact h
    clear hQ0
    go_wp2_with (go_at_call 63; (with_reducible refine (cC2 _ hu).mono ?_); rintro e w1 ⟨rfl, hb1⟩; replace hr := (hb1.block hrs).trans hr; replace hu := hu.call hb1; have hs1 := hrs; clear hb1 r0 r1 hrs f0 f1 x0 x1 hxs; obtain ⟨r0, r1, hrs⟩ := rowD hr; obtain ⟨f0, f1⟩ := freeD2 hr)
    have hr9 := setD2 hr (.slice none 0 0) (.slice none 0 0)
    have hu9 := hu.twoD (g := w.heap.size + 1) (by omega) (.slice none 0 0) (.slice none 0 0)
    exact HRET.out _ _ (end_dkE (p := 2) (q := 3) rfl rfl _ _ _ _ _ _ _ rfl rfl rfl hr9 rfl (HE.out _ hu9))
open Go.RowKit
def FIX {α : Type} (q : α → Bool) (l : List α) (r : Int) : Prop := (r = -1 ∧ ∀ e ∈ l, q e = false) ∨ (∃ (i : Nat) (h : i < l.length), r = i ∧ q l[i] = true ∧ ∀ j (hj : j < l.length), j < i → q l[j] = false)
theorem FIX_ex {α : Type} (q : α → Bool) (l : List α) : ∃ r, FIX q l r := by
 have E : ∀ n, n ≤ l.length → (∃ (i : Nat) (h : i < l.length), q l[i] = true ∧ ∀ j (hj : j < l.length), j < i → q l[j] = false) ∨ ∀ j (hj : j < l.length), j < n → q l[j] = false := fun n => by
  induction n with
  |zero => intro _; right; intro j hj h0; omega
  |succ n ih =>
   intro hn
   rcases ih (by omega) with h | h
   ·exact .inl h
   ·cases hp : q l[n]
    ·right; intro j hj h1
     rcases Nat.lt_or_ge j n with h2 | h2
     ·exact h j hj h2
     ·rw [show l[j] = l[n] from by congr 1; omega]; exact hp
    ·exact .inl ⟨n, by omega, hp, h⟩
 rcases E l.length (Nat.le_refl _) with ⟨i, h, h1, h2⟩ | h
 ·exact ⟨i, .inr ⟨i, h, rfl, h1, h2⟩⟩
 ·exact ⟨-1, .inl ⟨rfl, fun e he => by obtain ⟨j, hj, rfl⟩ := List.getElem_of_mem he; exact h j hj hj⟩⟩
theorem FIX.any {α : Type} {q : α → Bool} {l : List α} {r : Int} (h : FIX q l r) : (0 ≤ r ∧ l.any q = true) ∨ (r = -1 ∧ l.any q = false) := by
 rcases h with ⟨h1, h2⟩ | ⟨i, h1, h2, h3, -⟩
 ·exact .inr ⟨h1, List.any_eq_false.2 fun e he => by simp [h2 e he]⟩
 ·exact .inl ⟨by omega, List.any_eq_true.2 ⟨_, List.getElem_mem h1, h3⟩⟩
open Go.RowKit
theorem refDisk1_any (s : ByteArray) (w : World) : Calls Try.prog 92 #[.string s] w fun e w' => e = .returned (.bool (decide (3500 < s.size))) ∧ Calm w w' := by
 by_cases h : 3500 < s.size
 ·rw [decide_eq_true h]
  go_enter Try.func92, Try.ntmps92
  go_wp2_with fail
  go_ret
  exact ⟨ret_bool (by simp; omega), Calm.refl _⟩
 ·rw [decide_eq_false h]
  go_enter Try.func92, Try.ntmps92
  go_wp2_with fail
  go_ret
  exact ⟨ret_bool (by simp; omega), Calm.refl _⟩
set_option maxHeartbeats 4000000 in
theorem idxL_any (A : Option Addr) (c : Nat) (l : List ByteArray) (r : Int) (w : World) (hn : l.length ≤ 9223372036854775807) (hL : LiesP w A l) (hF : FIX (fun s : ByteArray => decide (3500 < s.size)) l r) :
    Calls Try.prog 73 #[.slice A l.length c, .func (.func 92) #[] #[]] w fun e w' => e = .returned (.int .i64 r) ∧ Calm w w' := by
  have HF := Lib.hid hF
  have C : ∀ (u : World) (s : ByteArray), Calls Try.prog 92 (#[.string s] ++ #[]) u fun e w' => e = .returned (.bool (decide (3500 < s.size))) ∧ Calm u w' := fun u s => refDisk1_any s u
  clear hF
  go_enter Try.func73, Try.ntmps73
  go_wp2_with fail
  go_loopw [8, 5] (fun i _ wr => ∃ k : Nat, k ≤ l.length ∧ i = .int .i64 k ∧ Calm w wr ∧ Hid (∀ j (hj : j < l.length), j < k → decide (3500 < l[j].size) = false)) (fun i _ _ => l.length - (intOf i).toNat)
  case atStart => exact ⟨0, Nat.zero_le _, rfl, Calm.refl _, show ∀ _, _ from fun j hj h => absurd h (Nat.not_lt_zero _)⟩
  case round =>
    obtain ⟨k, hk, rfl, hu, hN⟩ := hrel
    by_cases hlt : k < l.length
    rotate_left
    · have K : Hid (r = -1) := by
        rcases HF.out with h | ⟨i, hi, _, h2, _⟩
        · exact h.1
        · have h2 : decide (3500 < l[i].size) = true := h2
          rw [hN.out i hi (by omega)] at h2; cases h2
      clear C
      go_wp2_with fail
      go_ret
      exact ⟨by rw [K.out]; rfl, hu⟩
    obtain ⟨b, q, t, rfl, hb, HE, c0⟩ := (hL.calm hu).get hlt
    have HE2 := (List.getElem?_eq_some_iff.1 HE.out).2
    have hc := C wr t
    cases hp : decide (3500 < t.size)
    · rw [hp] at hc
      have hN2 : Hid (∀ j (hj : j < l.length), j < k + 1 → decide (3500 < l[j].size) = false) := show ∀ _, _ from fun j hj h => by
        rcases Nat.lt_or_ge j k with h2 | h2
        · exact hN.out j hj h2
        · rw [show l[j] = l[k] from by congr 1; omega, HE2]; exact hp
      clear hp C HE2
      go_wp2_with (go_at_call 92; refine hc.mono ?_; rintro e w1 ⟨rfl, hb1⟩)
      go_roundw
      case rel => exact ⟨k + 1, by omega, by go_num, hu.call hb1, hN2⟩
      case measure => simp [intOf]; omega
    · rw [hp] at hc
      have K : Hid (r = k) := by
        rcases HF.out with h | ⟨i, hi, hr, h2, h3⟩
        · have : decide (3500 < l[k].size) = false := h.2 _ (List.getElem_mem hlt)
          rw [HE2, hp] at this; cases this
        · rw [hr]
          rcases Nat.lt_trichotomy i k with h4 | h4 | h4
          · have h2 : decide (3500 < l[i].size) = true := h2
            rw [hN.out i hi h4] at h2; cases h2
          · show _ = _; rw [h4]
          · have : decide (3500 < l[k].size) = false := h3 k hlt h4
            rw [HE2, hp] at this; cases this
      clear hp C HE2
      go_wp2_with (go_at_call 92; refine hc.mono ?_; rintro e w1 ⟨rfl, hb1⟩)
      go_ret
      exact ⟨by rw [K.out]; rfl, hu.call hb1⟩
set_option maxHeartbeats 4000000 in
theorem hasL_any (A : Option Addr) (c : Nat) (l : List ByteArray) (w : World) (hn : l.length ≤ 9223372036854775807) (hL : LiesP w A l) :
    Calls Try.prog 30 #[.slice A l.length c, .func (.func 92) #[] #[]] w fun e w' => e = .returned (.bool (l.any fun s => decide (3500 < s.size))) ∧ Calm w w' := by
  obtain ⟨r, hr⟩ := FIX_ex (fun s : ByteArray => decide (3500 < s.size)) l
  have cI := idxL_any A c l r w hn hL hr
  have hany := hr.any
  generalize (l.any fun s : ByteArray => decide (3500 < s.size)) = R at hany ⊢
  clear hr hL
  rcases hany with ⟨h1, rfl⟩ | ⟨rfl, rfl⟩
  · go_enter Try.func30, Try.ntmps30
    go_wp2_with (go_at_call 73; refine cI.mono ?_; rintro e w1 ⟨rfl, hb1⟩)
    go_ret
    exact ⟨ret_bool (by simp), hb1⟩
  · go_enter Try.func30, Try.ntmps30
    go_wp2_with (go_at_call 73; refine cI.mono ?_; rintro e w1 ⟨rfl, hb1⟩)
    go_ret
    exact ⟨rfl, hb1⟩
set_option maxHeartbeats 8000000 in
theorem refDisk_any (P Q : Option Addr) (cp cq : Nat) (l : List ByteArray) (m : List Wr) (w : World) (hP : LiesP w P l) (hQ : LiesW w Q m) (hn : l.length ≤ 9223372036854775807) (hm : m.length ≤ 9223372036854775807) :
    Calls Try.prog 57 #[.agg #[.slice P l.length cp, .slice Q m.length cq]] w fun e w' => e = .returned (.int .i64 (dkErr l m)) ∧ Calm w w' := by
  have hx := heap_new w (.cells #[.slice P l.length cp, .slice Q m.length cq] 25)
  have hu := (Calm.refl w).alloc (.cells #[.slice P l.length cp, .slice Q m.length cq] 25)
  obtain ⟨x0, x1, hxs⟩ := rowD hx
  by_cases hz : 201 < l.length ∨ 400 < m.length
  · have hr : dkErr l m = 2 := by unfold dkErr; rw [if_pos hz]
    rw [hr]
    clear hP hQ hr
    go_enter Try.func57, Try.ntmps57
    rcases hz with hz | hz
    · go_wp2_with fail
      go_ret
      exact ⟨rfl, hu⟩
    · by_cases h1 : 201 < l.length
      · go_wp2_with fail
        go_ret
        exact ⟨rfl, hu⟩
      · go_wp2_with fail
        go_ret
        exact ⟨rfl, hu⟩
  have HR := Lib.hid (show dkErr l m = if l.any (fun s => decide (3500 < s.size)) = true then 2 else wrsE l.length m by unfold dkErr; rw [if_neg hz])
  have cL := fun u (hu : Calm w u) => hasL_any P cp l u hn (hP.calm hu)
  generalize dkErr l m = r at HR ⊢
  generalize (l.any fun s => decide (3500 < s.size)) = R at HR cL
  have HX := Lib.hid hx
  have HQ := Lib.hid hQ
  have hl1 : l.length ≤ 201 := by omega
  have hm1 : m.length ≤ 400 := by omega
  clear hP hQ hz hn hm
  cases R
  rotate_left
  · have HR2 := Lib.hid (show r = 2 from HR.out.trans (if_pos rfl))
    clear HR
    go_enter Try.func57, Try.ntmps57
    go_wp2_with (go_at_call 30; (with_reducible refine (cL _ hu).mono ?_); rintro e w1 ⟨rfl, hb1⟩)
    go_ret
    exact ⟨by rw [HR2.out]; rfl, hu.call hb1⟩
  have HR2 := Lib.hid (show r = wrsE l.length m from HR.out.trans (if_neg (by simp)))
  clear HR
  go_enter Try.func57, Try.ntmps57
  go_wp2_with (go_at_call 30; (with_reducible refine (cL _ hu).mono ?_); rintro e w1 ⟨rfl, hb1⟩; replace hx := (hb1.block hxs).trans hx; replace hu := hu.call hb1; clear hb1; obtain ⟨x0, x1, hxs⟩ := rowD hx)
  have HX2 := Lib.hid hx
  go_loopw [21, 4] (fun i _ wr => ∃ k : Nat, k ≤ m.length ∧ i = .int .i64 k ∧ Calm w wr ∧ Calm w1 wr ∧ Hid (r = wrsE l.length (m.drop k))) (fun i _ _ => m.length - (intOf i).toNat)
  case atStart => exact ⟨0, Nat.zero_le _, rfl, hu, Calm.refl _, HR2⟩
  case round =>
    obtain ⟨k, hk, rfl, hv, hv1, hN⟩ := hrel
    by_cases hlt : k < m.length
    · obtain ⟨b, q, i, s, rfl, hb, HE, c0, c1⟩ := (HQ.out.calm hv).get hlt
      replace hx := (hv1.block (rowD HX2.out).2.2).trans HX2.out
      obtain ⟨x0, x1, hxs⟩ := rowD hx
      have HN2 := Lib.hid (hN.out.trans (wrsE_drop HE.out))
      have hUW : wrE l.length ⟨i, s⟩ = if i < 0 ∨ (l.length : Int) ≤ i then 1 else if 3500 < s.size then 2 else 0 := rfl
      by_cases h1 : i < 0 ∨ (l.length : Int) ≤ i
      · have HN3 := Lib.hid (show r = 1 by rw [HN2.out, hUW, if_pos h1]; exact if_neg (by decide))
        clear hUW HN2 hN
        by_cases h0 : i < 0
        · go_wp2_with fail
          go_ret
          exact ⟨by rw [HN3.out]; rfl, hv.alloc _⟩
        · have h2 : (l.length : Int) ≤ i := by omega
          clear h1
          go_wp2_with fail
          go_ret
          exact ⟨by rw [HN3.out]; rfl, hv.alloc _⟩
      by_cases h3 : 3500 < s.size
      · have HN3 := Lib.hid (show r = 2 by rw [HN2.out, hUW, if_neg h1, if_pos h3]; exact if_neg (by decide))
        have h4 : ¬ i < 0 := by omega
        have h5 : ¬ (l.length : Int) ≤ i := by omega
        clear hUW HN2 hN h1
        go_wp2_with fail
        go_ret
        exact ⟨by rw [HN3.out]; rfl, hv.alloc _⟩
      · have HN3 := Lib.hid (show r = wrsE l.length (m.drop (k + 1)) by rw [HN2.out, hUW, if_neg h1, if_neg h3]; rfl)
        have h4 : ¬ i < 0 := by omega
        have h5 : ¬ (l.length : Int) ≤ i := by omega
        clear hUW HN2 hN h1
        go_wp2_with fail
        go_roundw
        case rel => exact ⟨k + 1, by omega, by go_num, hv.alloc _, hv1.alloc _, HN3⟩
        case measure => simp [intOf]; omega
    have HR3 := Lib.hid (show r = 0 by rw [hN.out, List.drop_eq_nil_of_le (by omega)]; rfl)
    clear hN
    go_wp2_with fail
    go_ret
    exact ⟨by rw [HR3.out]; rfl, hv⟩
set_option maxHeartbeats 8000000 in
theorem sameDisk_any (P Q P' Q' : Option Addr) (cp cq cp' cq' : Nat) (l l' : List ByteArray) (m m' : List Wr) (w : World) (hP : LiesP w P l) (hQ : LiesW w Q m) (hP' : LiesP w P' l') (hQ' : LiesW w Q' m') (hn : l.length ≤ 9223372036854775807) (hm : m.length ≤ 9223372036854775807) :
    Calls Try.prog 18 #[.agg #[.slice P l.length cp, .slice Q m.length cq], .agg #[.slice P' l'.length cp', .slice Q' m'.length cq']] w fun e w' => e = .returned (.bool (decide (l = l') && decide (m = m'))) ∧ Calm w w' := by
  have hx := heap_past (.cells #[.slice P' l'.length cp', .slice Q' m'.length cq'] 25) (heap_new w (.cells #[.slice P l.length cp, .slice Q m.length cq] 25))
  have hy := heap_new (w.alloc (.cells #[.slice P l.length cp, .slice Q m.length cq] 25)) (.cells #[.slice P' l'.length cp', .slice Q' m'.length cq'] 25)
  rw [World.size_alloc] at hy
  have hu := ((Calm.refl w).alloc (.cells #[.slice P l.length cp, .slice Q m.length cq] 25)).alloc (.cells #[.slice P' l'.length cp', .slice Q' m'.length cq'] 25)
  have cE := fun u (hu : Calm w u) => equalP_any P P' cp cp' l l' u hn (hP.calm hu) (hP'.calm hu)
  have cF := fun u (hu : Calm w u) => equalW_any Q Q' cq cq' m m' u hm (hQ.calm hu) (hQ'.calm hu)
  obtain ⟨x0, x1, hxs⟩ := rowD hx
  obtain ⟨y0, y1, hys⟩ := rowD hy
  generalize decide (l = l') = a at cE ⊢
  generalize decide (m = m') = b at cF ⊢
  clear hP hQ hP' hQ'
  cases a
  · go_enter Try.func18, Try.ntmps18
    go_wp2_with (go_at_call 22; (with_reducible refine (cE _ hu).mono ?_); rintro e w1 ⟨rfl, hb1⟩; replace hx := (hb1.block hxs).trans hx; replace hy := (hb1.block hys).trans hy; replace hu := hu.call hb1; clear hb1; obtain ⟨x0, x1, hxs⟩ := rowD hx; obtain ⟨y0, y1, hys⟩ := rowD hy)
    go_ret
    exact ⟨rfl, hu⟩
  · go_enter Try.func18, Try.ntmps18
    go_wp2_with first
      | (go_at_call 22; (with_reducible refine (cE _ hu).mono ?_); rintro e w1 ⟨rfl, hb1⟩; replace hx := (hb1.block hxs).trans hx; replace hy := (hb1.block hys).trans hy; replace hu := hu.call hb1; clear hb1; obtain ⟨x0, x1, hxs⟩ := rowD hx; obtain ⟨y0, y1, hys⟩ := rowD hy)
      | (go_at_call 62; (with_reducible refine (cF _ hu).mono ?_); rintro e w2 ⟨rfl, hb1⟩; replace hu := hu.call hb1; clear hb1)
    go_ret
    exact ⟨rfl, hu⟩
theorem sameDisk_self (P Q P' Q' : Option Addr) (cp cq cp' cq' : Nat) (l : List ByteArray) (m : List Wr) (w : World) (hP : LiesP w P l) (hQ : LiesW w Q m) (hP' : LiesP w P' l) (hQ' : LiesW w Q' m) (hn : l.length ≤ 9223372036854775807) (hm : m.length ≤ 9223372036854775807) :
    Calls Try.prog 18 #[.agg #[.slice P l.length cp, .slice Q m.length cq], .agg #[.slice P' l.length cp', .slice Q' m.length cq']] w fun e w' => e = .returned (.bool true) ∧ Calm w w' := by
  have := sameDisk_any P Q P' Q' cp cq cp' cq' l l m m w hP hQ hP' hQ' hn hm
  simpa using this
open Go.RowKit
theorem results_dk {fn : Func} {p : Tmp} (h : fn.results = #[.cell p 25]) (tmps : Array Value) (w : World) (g : Nat) (t : TypeId) (cs : Array Value) (fr : Nat × Nat)
    (hp : tmps.getD p undef = .pointer (some ⟨g, 0, none⟩)) (hg : w.heap[g]? = some (.cells cs t fr)) (hsz : cs.size = 2) : (results fn tmps).run Try.prog w = .ok (.agg cs) w := by
  have hp' : tmps[p]?.getD undef = .pointer (some ⟨g, 0, none⟩) := by simpa using hp
  have hi : (Try.prog.info? 25).map (·.size) = some cs.size := by rw [hsz]; kernel_rfl
  simp [results, h, hp', asAddr, run_loadVar_row w g t 25 cs fr _ hg Try.underlying25 rfl hi]
theorem end_dk {P : Program} {fn : Func} {p : Tmp} {Q : Ending → World → Prop} (hP : P = Try.prog) (h : fn.results = #[.cell p 25]) (a : Act) (w : World) (g : Nat) (t : TypeId) (cs : Array Value) (fr : Nat × Nat) (hd : a.defers = [])
    (hp : a.tmps.getD p undef = .pointer (some ⟨g, 0, none⟩)) (hg : w.heap[g]? = some (.cells cs t fr)) (hsz : cs.size = 2) (hQ : Q (.returned (.agg cs)) w) : bodyPost P fn Q .ret a w := by
  subst hP
  exact bodyPost_ret (v := .agg cs) (results_dk h a.tmps w g t cs fr hp hg hsz) hd hQ
def DoneEnd (l : List ByteArray) (m : List Wr) (f : Nat → Bool) (w : World) (e : Ending) (w' : World) : Prop := ∃ A c, e = .returned (.agg #[.slice A l.length c, .slice none 0 0]) ∧ OwnP w.heap.size w' (.slice A l.length c) (doneL f 0 m l) ∧ Calm w w'
theorem synced1_any (k : Nat) (w : World) : Calls Try.prog 94 #[.int .i64 k] w fun e w' => e = .returned (.bool true) ∧ Calm w w' := by
 go_enter Try.func94, Try.ntmps94
 go_wp2_with fail
 go_ret
 exact ⟨rfl, Calm.refl _⟩
set_option maxHeartbeats 8000000 in
theorem doneSync_any (P Q : Option Addr) (cp cq : Nat) (l : List ByteArray) (m : List Wr) (w : World) (hP : LiesP w P l) (hQ : LiesW w Q m) (hz : dkErr l m = 0) :
    Calls Try.prog 93 #[.agg #[.slice P l.length cp, .slice Q m.length cq], .func (.func 94) #[] #[]] w (DoneEnd l m (fun _ => true) w) := by
  have hx := heap_past (.cells #[.slice none 0 0, .slice none 0 0] 25) (heap_new w (.cells #[.slice P l.length cp, .slice Q m.length cq] 25))
  have hr := heap_new (w.alloc (.cells #[.slice P l.length cp, .slice Q m.length cq] 25)) (.cells #[.slice none 0 0, .slice none 0 0] 25)
  rw [World.size_alloc] at hr
  have hu := ((Calm.refl w).alloc (.cells #[.slice P l.length cp, .slice Q m.length cq] 25)).alloc (.cells #[.slice none 0 0, .slice none 0 0] 25)
  have cF : ∀ (k : Nat) u, Calm w u → Calls Try.prog 94 #[.int .i64 k] u fun e w' => e = .returned (.bool ((fun _ => true) k)) ∧ Calm u w' := fun k u _ => synced1_any k u
  obtain ⟨x0, x1, hxs⟩ := rowD hx
  obtain ⟨r0, r1, hrs⟩ := rowD hr
  have HE : Hid (∀ w' A c, OwnP w.heap.size w' (.slice A l.length c) (doneL (fun _ => true) 0 m l) → Calm w w' → DoneEnd l m (fun _ => true) w (.returned (.agg #[.slice A l.length c, .slice none 0 0])) w') := show ∀ _, _ from fun w' A c h1 hw => ⟨A, c, rfl, h1, hw⟩
  generalize DoneEnd l m (fun _ => true) w = PE at HE ⊢
  obtain ⟨h6, h5, -, hWS⟩ := dkErr_zero.1 hz
  have HWS := Lib.hid hWS
  have cP := fun u (hu : Calm w u) => cloneP_any P cp l u (by omega) (hP.calm hu)
  have HQ := Lib.hid hQ
  clear hz hP hQ hWS
  go_enter Try.func93, Try.ntmps93
  generalize hQ0 : bodyPost Try.prog Try.f93 PE = Q0
  have HRET : Hid (∀ a w', bodyPost Try.prog Try.f93 PE .ret a w' → Q0 .ret a w') := show ∀ _ _, _ from fun a w' h => by rw [← hQ0]; exact h
  clear hQ0
  go_upto_region 2 with
    (go_at_call 26; (with_reducible refine (cP _ hu).mono ?_); rintro e w4 ⟨v4, rfl, ho4, hb1⟩; have hsz4 := hb1.size; replace hx := (hb1.block hxs).trans hx; replace hr := (hb1.block hrs).trans hr; replace hu := hu.call hb1; obtain ⟨x0, x1, hxs⟩ := rowD hx; obtain ⟨A4, c4, rfl, hc4, -⟩ := ho4.slice; clear cP hb1)
  rw [World.size_alloc, World.size_alloc] at ho4 hsz4
  have hO := heap_new w4 (.cells #[.slice A4 l.length c4, .slice none 0 0] 25)
  replace hx := heap_past (.cells #[.slice A4 l.length c4, .slice none 0 0] 25) hx
  replace hr := heap_past (.cells #[.slice A4 l.length c4, .slice none 0 0] 25) hr
  replace hu := hu.alloc (.cells #[.slice A4 l.length c4, .slice none 0 0] 25)
  have hOl : ∀ g, Value.ownBlock (.slice A4 l.length c4) = some g → g < w4.heap.size := fun g hg => (ho4.lt g hg).2
  replace ho4 := ho4.calm ((Calm.refl _).alloc (.cells #[.slice A4 l.length c4, .slice none 0 0] 25))
  generalize w4.heap.size = O4 at hO hOl hsz4 ⊢
  generalize w4.alloc (.cells #[.slice A4 l.length c4, .slice none 0 0] 25) = w5 at hO hx hr hu ho4 ⊢
  have HO := Lib.hid ho4
  have HOl := Lib.hid hOl
  clear ho4 r0 r1 hrs x0 x1 hxs hOl
  obtain ⟨x0, x1, hxs⟩ := rowD hx
  go_wp2_with fail
  go_loopw [15, 6, 7] (fun i _ _ wr => ∃ k : Nat, k ≤ m.length ∧ i = .int .i64 k ∧ Calm w wr ∧ Hid (OwnP (w.heap.size + 1 + 1) wr (.slice A4 l.length c4) (doneL (fun _ => true) 0 (m.take k) l)) ∧ wr.heap[w.heap.size + 1]? = some (.cells #[.slice none 0 0, .slice none 0 0] 25 (0, 0)) ∧ wr.heap[O4]? = some (.cells #[.slice A4 l.length c4, .slice none 0 0] 25 (0, 0))) (fun i _ _ _ => m.length - (intOf i).toNat)
  case atStart => exact ⟨0, Nat.zero_le _, rfl, hu, HO, hr, hO⟩
  case round =>
    obtain ⟨k, hk, rfl, hv, HOk, hr, hO⟩ := hrel
    obtain ⟨o0, o1, hos⟩ := rowD hO
    by_cases hlt : k < m.length
    rotate_left
    · have hkl : m.take k = m := List.take_of_length_le (by omega)
      rw [hkl] at HOk
      have HO8 := HOk
      obtain ⟨r0, r1, hrs⟩ := rowD hr
      obtain ⟨f0, f1⟩ := freeD2 hr
      clear HOk hkl
      go_wp2_with fail
      have hr9 := setD2 hr (.slice A4 l.length c4) (.slice none 0 0)
      have hu9 := hv.twoD (g := w.heap.size + 1) (by omega) (.slice A4 l.length c4) (.slice none 0 0)
      exact HRET.out _ _ (end_dk (p := 4) rfl rfl _ _ _ _ _ _ rfl rfl hr9 rfl (HE.out _ A4 c4 (OwnG.weaken (rowsG_set (rowsG_set HO8.out (Nat.lt_succ_self _) 0 (.slice A4 l.length c4)) (Nat.lt_succ_self _) 1 (.slice none 0 0)) (by omega)) hu9))
    obtain ⟨b, q, i, s, rfl, hb, HEw, c0, c1⟩ := (HQ.out.calm hv).get hlt
    have hW := wrE_zero.1 (HWS.out _ (List.mem_of_getElem? HEw.out))
    obtain ⟨p, rfl⟩ : ∃ p : Nat, i = (p : Int) := ⟨i.toNat, by have := hW.1; simp only at this; omega⟩
    have hpl : p < l.length := by have := hW.2.1; simp only at this; omega
    have hdl := doneL_len (fun _ => true) (m.take k) 0 l
    obtain ⟨bk, hbk⟩ : ∃ bk : Bool, bk = (fun _ => true) k := ⟨_, rfl⟩
    have HT := Lib.hid (show doneL (fun _ => true) 0 (m.take (k + 1)) l = if bk = true then (doneL (fun _ => true) 0 (m.take k) l).set p s else doneL (fun _ => true) 0 (m.take k) l by rw [hbk]; exact doneL_take (f := (fun _ => true)) (ps := l) HEw.out)
    have cFk : ∀ u, Calm w u → Calls Try.prog 94 #[.int .i64 k] u fun e w' => e = .returned (.bool bk) ∧ Calm u w' := fun u hu => by rw [hbk]; exact cF k u hu
    have hak := (hv.alloc (.cells #[.int .i64 (p : Int), .string s] 45))
    have hyk := heap_new wr (.cells #[.int .i64 (p : Int), .string s] 45)
    have HO1 := Lib.hid (OwnP.calm HOk.out ((Calm.refl wr).alloc (.cells #[.int .i64 (p : Int), .string s] 45)))
    have hr1 := heap_past (.cells #[.int .i64 (p : Int), .string s] 45) hr
    have hO1 := heap_past (.cells #[.int .i64 (p : Int), .string s] 45) hO
    clear hr HOk hW hbk HEw hO o0 o1 hos
    generalize doneL (fun _ => true) 0 (m.take k) l = L at HO1 HT hdl
    obtain ⟨g4, cap4, hA4⟩ := OwnG.some_ HO1.out (by omega)
    obtain rfl : A4 = some ⟨g4, 0, none⟩ := by injection hA4
    have hg4 := (HO1.out.lt g4 rfl).1
    have hg5 := HOl.out g4 rfl
    clear hA4 cap4
    cases bk
    · have HT := Lib.hid (HT.out.trans (if_neg (by simp)))
      go_wp2_with (go_at_call 94; (with_reducible refine (cFk _ hak).mono ?_); rintro e w9 ⟨rfl, hb9⟩)
      go_roundw
      case rel => exact ⟨k + 1, by omega, by go_num, hak.call hb9, by rw [HT.out]; exact HO1.out.calm hb9, (hb9.block (rowD hr1).2.2).trans hr1, (hb9.block (rowD hO1).2.2).trans hO1⟩
      case measure => simp [intOf]; omega
    · have HT := Lib.hid (HT.out.trans (if_pos rfl))
      go_wp2_with (go_at_call 94; (with_reducible refine (cFk _ hak).mono ?_); rintro e w9 ⟨rfl, hb9⟩; have hyk2 := (hb9.block (rowD hyk).2.2).trans hyk; obtain ⟨y0, y1, hys⟩ := rowD hyk2; have hO2 := (hb9.block (rowD hO1).2.2).trans hO1; obtain ⟨o0, o1, hos⟩ := rowD hO2; have HO9 := Lib.hid (HO1.out.calm hb9); have hcell : w9.cell? ⟨g4, p, none⟩ = some (.string (L[p]'(by omega))) := (by have := (OwnG.cell stC_len HO9.out (show p < L.length by omega)).1 0 (by omega); rw [Nat.mul_one, Nat.add_zero] at this; exact this); have hfz := OwnG.frozen HO9.out p; have hpz : (p : Int) < (l.length : Int) := by omega)
      have HO10 : OwnP (w.heap.size + 1 + 1) (w9.setCell ⟨g4, p, none⟩ (.string s)) (.slice (some ⟨g4, 0, none⟩) l.length c4) (L.set p s) := by
        have := OwnG.set stC_len (i := p) (j := 0) (u := .string s) (x := s) HO9.out (by omega) (by omega) rfl
        rw [Nat.mul_one, Nat.add_zero] at this
        exact this
      go_roundw
      case rel => exact ⟨k + 1, by omega, by go_num, (hak.call hb9).setCell (p := ⟨g4, p, none⟩) (show w.heap.size ≤ g4 by omega) _, by rw [HT.out]; exact HO10, (heap_setCell_other _ _ _ _ (by show w.heap.size + 1 ≠ g4; omega)).trans ((hb9.block (rowD hr1).2.2).trans hr1), (heap_setCell_other _ _ _ _ (by show O4 ≠ g4; omega)).trans hO2⟩
      case measure => simp [intOf]; omega
set_option maxHeartbeats 4000000 in
theorem synced_any (P Q : Option Addr) (cp cq : Nat) (l : List ByteArray) (m : List Wr) (w : World) (hP : LiesP w P l) (hQ : LiesW w Q m) (hz : dkErr l m = 0) :
    Calls Try.prog 59 #[.agg #[.slice P l.length cp, .slice Q m.length cq]] w (DoneEnd l m (fun _ => true) w) := by
  have hx := heap_past (.cells #[.slice none 0 0, .slice none 0 0] 25) (heap_new w (.cells #[.slice P l.length cp, .slice Q m.length cq] 25))
  have hr := heap_new (w.alloc (.cells #[.slice P l.length cp, .slice Q m.length cq] 25)) (.cells #[.slice none 0 0, .slice none 0 0] 25)
  rw [World.size_alloc] at hr
  have hu := ((Calm.refl w).alloc (.cells #[.slice P l.length cp, .slice Q m.length cq] 25)).alloc (.cells #[.slice none 0 0, .slice none 0 0] 25)
  have cD := fun u (hu : Calm w u) => doneSync_any P Q cp cq l m u (hP.calm hu) (hQ.calm hu) hz
  unfold DoneEnd at cD
  have HE : Hid (∀ w' A c, OwnP w.heap.size w' (.slice A l.length c) (doneL (fun _ => true) 0 m l) → Calm w w' → DoneEnd l m (fun _ => true) w (.returned (.agg #[.slice A l.length c, .slice none 0 0])) w') := show ∀ _, _ from fun w' A c h1 hw => ⟨A, c, rfl, h1, hw⟩
  generalize DoneEnd l m (fun _ => true) w = PE at HE ⊢
  generalize doneL (fun _ => true) 0 m l = L at HE cD
  obtain ⟨x0, x1, hxs⟩ := rowD hx
  obtain ⟨r0, r1, hrs⟩ := rowD hr
  obtain ⟨f0, f1⟩ := freeD2 hr
  clear hP hQ hz
  go_enter Try.func59, Try.ntmps59
  generalize hQ0 : bodyPost Try.prog Try.f59 PE = Q0
  have HRET : Hid (∀ a w', bodyPost Try.prog Try.f59 PE .ret a w' → Q0 .ret a w') := show ∀ _ _, _ from fun a w' h => by rw [← hQ0]; exact h
  clear hQ0
  go_wp2_with (go_at_call 93; (with_reducible refine (cD _ hu).mono ?_); rintro e w1 ⟨A9, c9, rfl, ho9, hb1⟩; have HO9 := Lib.hid ho9; clear ho9; replace hr := (hb1.block hrs).trans hr; replace hu := hu.call hb1; have hs1 := hrs; clear hb1 r0 r1 hrs f0 f1 x0 x1 hxs; obtain ⟨r0, r1, hrs⟩ := rowD hr; obtain ⟨f0, f1⟩ := freeD2 hr)
  have hr9 := setD2 hr (.slice A9 l.length c9) (.slice none 0 0)
  have hu9 := hu.twoD (g := w.heap.size + 1) (by omega) (.slice A9 l.length c9) (.slice none 0 0)
  exact HRET.out _ _ (end_dk (p := 2) rfl rfl _ _ _ _ _ _ rfl rfl hr9 rfl (HE.out _ A9 c9 (OwnG.weaken (rowsG_set (rowsG_set HO9.out hs1 0 (.slice A9 l.length c9)) hs1 1 (.slice none 0 0)) (by omega)) hu9))
open Go.RowKit
structure HasD (w : World) (P Q : Option Addr) (l : List ByteArray) (m : List Wr) : Prop where
 p : LiesP w P l
 q : LiesW w Q m
section
variable {w w' : World} {P Q : Option Addr} {l : List ByteArray} {m : List Wr} {B cp cq : Nat}
theorem HasD.calm (h : HasD w P Q l m) (hb : Calm w w') : HasD w' P Q l m := ⟨h.p.calm hb, h.q.calm hb⟩
end
theorem dk_len {l : List ByteArray} {m : List Wr} (h : dkErr l m = 0) : l.length ≤ 9223372036854775807 ∧ m.length ≤ 9223372036854775807 := by
 have := dkErr_zero.1 h
 omega
def NoDisk (E : Int) (w : World) (e : Ending) (w' : World) : Prop := e = .returned (.tuple #[.agg #[.slice none 0 0, .slice none 0 0], .int .i64 E]) ∧ Calm w w'
section
variable {w : World} {P Q : Option Addr} {l : List ByteArray} {m : List Wr}
theorem HasD.rd (h : HasD w P Q l m) (cp cq : Nat) (hz : dkErr l m = 0) {k : Nat} {x : ByteArray} (hk : l[k]? = some x) : Calls Try.prog 54 #[.agg #[.slice P l.length cp, .slice Q m.length cq], .int .i64 k] w fun e w' => e = .returned (.tuple #[.string (rdL k m x), .int .i64 0]) ∧ Calm w w' := by
 have hn := dk_len hz
 have h1 := diskRead_any P Q cp cq l m k w h.p h.q hn.1 hn.2
 have hkl := (List.getElem?_eq_some_iff.1 hk).1
 have e1 : rdE l m k = 0 := by unfold rdE; rw [if_pos hz, if_neg (by omega)]
 have e2 : rdS l m k = rdL k m x := by
  unfold rdS
  rw [e1, if_pos rfl, Int.toNat_natCast, List.getD_eq_getElem?_getD, hk]; rfl
 rw [e1, e2] at h1
 exact h1
theorem HasD.sync_bad (h : HasD w P Q l m) (cp cq : Nat) (hn : l.length ≤ 9223372036854775807) (hm : m.length ≤ 9223372036854775807) {E : Int} (hE : dkErr l m = E) (h0 : E ≠ 0) : Calls Try.prog 21 #[.agg #[.slice P l.length cp, .slice Q m.length cq]] w (NoDisk E w) :=
 (diskSync_any P Q cp cq l m w h.p h.q hn hm).mono fun e w' he => by
  rcases he with ⟨-, h2, h3⟩ | ⟨h2, -⟩
  ·rw [hE] at h2; exact ⟨h2, h3⟩
  ·rw [hE] at h2; exact absurd h2 h0
theorem sameDisk_zero (w : World) : Calls Try.prog 18 #[.agg #[.slice none 0 0, .slice none 0 0], .agg #[.slice none 0 0, .slice none 0 0]] w fun e w' => e = .returned (.bool true) ∧ Calm w w' :=
 sameDisk_self none none none none 0 0 0 0 [] [] w LiesG.nil_ LiesG.nil_ LiesG.nil_ LiesG.nil_ (by simp) (by simp)
end
def ASync (L : List ByteArray) (n : Nat) (w : World) (e : Ending) (w' : World) : Prop := ∃ P cp, e = .returned (.tuple #[.agg #[.slice P n cp, .slice none 0 0], .int .i64 0]) ∧ OwnP w.heap.size w' (.slice P n cp) L ∧ Calm w w'
section
variable {w : World} {P Q : Option Addr} {l : List ByteArray} {m : List Wr}
theorem HasD.sync (h : HasD w P Q l m) (cp cq : Nat) (hz : dkErr l m = 0) : Calls Try.prog 21 #[.agg #[.slice P l.length cp, .slice Q m.length cq]] w (ASync (curP l m) l.length w) := by
 have hn := dk_len hz
 refine (diskSync_any P Q cp cq l m w h.p h.q hn.1 hn.2).mono fun e w' he => ?_
 rcases he with ⟨h2, -⟩ | ⟨-, v, h2, h3, h5⟩
 ·exact absurd hz h2
 ·obtain ⟨P', cp', rfl, -, -⟩ := OwnG.slice h3
  rw [doneL_len] at h2 h3
  exact ⟨P', cp', h2, h3, h5⟩
end
open Go.RowKit
def sqOk (T : ByteArray) : Prop := bdOk T.data.toList 8 1 ∧ num ((gB T.data.toList).data.toList.take 4) ≤ 2147483647
def Sq3 (n : Int) (t : ByteArray) (E : Int) (w : World) (e : Ending) (w' : World) : Prop := e = .returned (.tuple #[.int .i64 n, .string t, .int .i64 E]) ∧ Calm w w'
theorem un_field (a d : Option Addr) (n c k e : Nat) (w : World) : (Instr.field 25 (.agg #[.slice a n c, .slice d k e]) 0).run Try.prog w = .ok (.slice a n c) w := by
 kernel_rfl
theorem un_cell {u : World} {P : Option Addr} {L : List ByteArray} {k : Nat} {T : ByteArray} (h : LiesP u P L) (hk : L[k]? = some T) : ∃ b q, P = some ⟨b, q, none⟩ ∧ b < u.heap.size ∧ u.cell? ⟨b, q + k, none⟩ = some (.string T) := by
 obtain ⟨b, q, t, h1, h2, h3, h4⟩ := h.get (List.getElem?_eq_some_iff.1 hk).1
 have : t = T := Option.some.inj (h3.out.symm.trans hk)
 subst this
 exact ⟨b, q, h1, h2, h4⟩
theorem un_cell0 {u : World} {P : Option Addr} {L : List ByteArray} {T : ByteArray} (h : LiesP u P L) (hk : L[0]? = some T) : ∃ b q, P = some ⟨b, q, none⟩ ∧ b < u.heap.size ∧ u.cell? ⟨b, q, none⟩ = some (.string T) := by
 obtain ⟨b, q, h1, h2, h3⟩ := un_cell h hk
 exact ⟨b, q, h1, h2, h3⟩
section
variable (P Q : Option Addr) (cp cq : Nat) (l : List ByteArray) (m : List Wr) (w : World) (hh : HasD w P Q l m) (hn : l.length ≤ 9223372036854775807) (hm : m.length ≤ 9223372036854775807)
include hh hn hm
theorem rSeq_bad {E : Int} (hE : dkErr l m = E) (h0 : E ≠ 0) : Calls Try.prog 15 #[.agg #[.slice P l.length cp, .slice Q m.length cq]] w (Sq3 0 { data := #[] } E w) := by
 have hu := (Calm.refl w).alloc (.cells #[.slice P l.length cp, .slice Q m.length cq] 25)
 have hx := heap_new w (.cells #[.slice P l.length cp, .slice Q m.length cq] 25)
 have cC := fun u (hu : Calm w u) => refDisk_any P Q cp cq l m u (hh.calm hu).p (hh.calm hu).q hn hm
 rw [hE] at cC
 have b1 : (E != 0) = true := by rw [bne_iff_ne]; exact h0
 obtain ⟨x0, x1, hxs⟩ := rowD hx
 clear hE h0 hh hn hm
 go_enter Try.func15, Try.ntmps15
 go_wp2_with (go_at_call 57; (with_reducible refine (cC _ hu).mono ?_); rintro e w1 ⟨rfl, hk⟩; replace hu := hu.call hk; clear hk)
 go_ret3
 exact ⟨rfl, hu⟩
theorem uSeq_form (h0 : dkErr l m = 0) (hl : ¬ l.length = 201) : Calls Try.prog 14 #[.agg #[.slice P l.length cp, .slice Q m.length cq]] w (Sq3 0 { data := #[] } 3 w) := by
 have hu := (Calm.refl w).alloc (.cells #[.slice P l.length cp, .slice Q m.length cq] 25)
 have hx := heap_new w (.cells #[.slice P l.length cp, .slice Q m.length cq] 25)
 have cC := fun u (hu : Calm w u) => diskCheck_any P Q cp cq l m u (hh.calm hu).p (hh.calm hu).q hn hm
 rw [h0] at cC
 have b1 : ((l.length : Int) != 201) = true := by rw [bne_iff_ne]; omega
 obtain ⟨x0, x1, hxs⟩ := rowD hx
 clear h0 hh hn hm hl
 go_enter Try.func14, Try.ntmps14
 go_wp2_with (go_at_call 53; (with_reducible refine (cC _ hu).mono ?_); rintro e w1 ⟨rfl, hk⟩; replace hx := (hk.block hxs).trans hx; replace hu := hu.call hk; clear hk x0 x1 hxs; obtain ⟨x0, x1, hxs⟩ := rowD hx)
 go_ret3
 exact ⟨rfl, hu⟩
theorem rSeq_form (h0 : dkErr l m = 0) (hl : ¬ l.length = 201) : Calls Try.prog 15 #[.agg #[.slice P l.length cp, .slice Q m.length cq]] w (Sq3 0 { data := #[] } 3 w) := by
 have hu := (Calm.refl w).alloc (.cells #[.slice P l.length cp, .slice Q m.length cq] 25)
 have hx := heap_new w (.cells #[.slice P l.length cp, .slice Q m.length cq] 25)
 have cC := fun u (hu : Calm w u) => refDisk_any P Q cp cq l m u (hh.calm hu).p (hh.calm hu).q hn hm
 rw [h0] at cC
 have b1 : ((l.length : Int) != 201) = true := by rw [bne_iff_ne]; omega
 obtain ⟨x0, x1, hxs⟩ := rowD hx
 clear h0 hh hn hm hl
 go_enter Try.func15, Try.ntmps15
 go_wp2_with (go_at_call 57; (with_reducible refine (cC _ hu).mono ?_); rintro e w1 ⟨rfl, hk⟩; replace hx := (hk.block hxs).trans hx; replace hu := hu.call hk; clear hk x0 x1 hxs; obtain ⟨x0, x1, hxs⟩ := rowD hx)
 go_ret3
 exact ⟨rfl, hu⟩
theorem uSeq_no (h0 : dkErr l m = 0) (hl : l.length = 201) {T x : ByteArray} (hx0 : l[0]? = some x) (hT : T = rdL 0 m x) (h : ¬ sqOk T) : Calls Try.prog 14 #[.agg #[.slice P l.length cp, .slice Q m.length cq]] w (Sq3 0 { data := #[] } 11 w) := by
 have hu := (Calm.refl w).alloc (.cells #[.slice P l.length cp, .slice Q m.length cq] 25)
 have hx := heap_new w (.cells #[.slice P l.length cp, .slice Q m.length cq] 25)
 have cC := fun u (hu : Calm w u) => diskCheck_any P Q cp cq l m u (hh.calm hu).p (hh.calm hu).q hn hm
 rw [h0] at cC
 have b0 : ((l.length : Int) != 201) = false := by rw [bne_eq_false_iff_eq]; omega
 have b2 : 0 < (l.length : Int) := by omega
 have cR : ∀ u, Calm w u → Calls Try.prog 54 #[.agg #[.slice P l.length cp, .slice Q m.length cq], .int .i64 0] u fun e w' => e = .returned (.tuple #[.string T, .int .i64 0]) ∧ Calm u w' := fun u hu => by
  rw [hT]
  exact (hh.calm hu).rd cp cq h0 (k := 0) hx0
 by_cases hb : bdOk T.data.toList 8 1
 rotate_left
 ·have cB := fun u => body_no T 8 1 (by omega) u hb
  clear h0 hh hn hm hl hT hx0 h hb
  obtain ⟨x0, x1, hxs⟩ := rowD hx
  go_enter Try.func14, Try.ntmps14
  go_wp2_with (first
  |(go_at_call 53; (with_reducible refine (cC _ hu).mono ?_); rintro e w1 ⟨rfl, hk⟩; replace hx := (hk.block hxs).trans hx; replace hu := hu.call hk; clear hk x0 x1 hxs; obtain ⟨x0, x1, hxs⟩ := rowD hx)
  |(go_at_call 54; (with_reducible refine (cR _ hu).mono ?_); rintro e w2 ⟨rfl, hk⟩; replace hx := (hk.block hxs).trans hx; replace hu := hu.call hk; clear hk x0 x1 hxs; obtain ⟨x0, x1, hxs⟩ := rowD hx)
  |(go_at_call 55; refine (cB _).mono ?_; rintro e w3 ⟨rfl, hk⟩; replace hx := (hk.block hxs).trans hx; replace hu := hu.call hk; clear hk x0 x1 hxs; obtain ⟨x0, x1, hxs⟩ := rowD hx))
  go_ret3
  exact ⟨rfl, hu⟩
 have hN : ¬ num ((gB T.data.toList).data.toList.take 4) ≤ 2147483647 := fun hN => h ⟨hb, hN⟩
 have cB := fun u => body_ok T 8 1 (by omega) u hb
 have h4 : 4 ≤ (gB T.data.toList).size := by have := hb.2.2; omega
 have cD := fun u => decode_any _ u h4
 generalize gB T.data.toList = B at cB cD h4 hN
 generalize num (B.data.toList.take 4) = N at cD hN
 have hN' : (2147483647 : Int) < (N : Int) := by omega
 clear h0 hh hn hm hl hT hx0 h hb hN h4
 obtain ⟨x0, x1, hxs⟩ := rowD hx
 go_enter Try.func14, Try.ntmps14
 go_wp2_with (first
  |(go_at_call 53; (with_reducible refine (cC _ hu).mono ?_); rintro e w1 ⟨rfl, hk⟩; replace hx := (hk.block hxs).trans hx; replace hu := hu.call hk; clear hk x0 x1 hxs; obtain ⟨x0, x1, hxs⟩ := rowD hx)
  |(go_at_call 54; (with_reducible refine (cR _ hu).mono ?_); rintro e w2 ⟨rfl, hk⟩; replace hx := (hk.block hxs).trans hx; replace hu := hu.call hk; clear hk x0 x1 hxs; obtain ⟨x0, x1, hxs⟩ := rowD hx)
  |(go_at_call 55; refine (cB _).mono ?_; rintro e w3 ⟨rfl, hk⟩; replace hx := (hk.block hxs).trans hx; replace hu := hu.call hk; clear hk x0 x1 hxs; obtain ⟨x0, x1, hxs⟩ := rowD hx)
  |(go_at_call 56; (with_reducible refine (cD _).mono ?_); rintro e w4 ⟨rfl, hk⟩; replace hx := (hk.block hxs).trans hx; replace hu := hu.call hk; clear hk x0 x1 hxs; obtain ⟨x0, x1, hxs⟩ := rowD hx))
 go_ret3
 exact ⟨rfl, hu⟩
theorem uSeq_ok (h0 : dkErr l m = 0) (hl : l.length = 201) {T x : ByteArray} (hx0 : l[0]? = some x) (hT : T = rdL 0 m x) (h : sqOk T) : Calls Try.prog 14 #[.agg #[.slice P l.length cp, .slice Q m.length cq]] w (Sq3 (num ((gB T.data.toList).data.toList.take 4) : Int) ((gB T.data.toList).extract 4 (gB T.data.toList).size) 0 w) := by
 have hu := (Calm.refl w).alloc (.cells #[.slice P l.length cp, .slice Q m.length cq] 25)
 have hx := heap_new w (.cells #[.slice P l.length cp, .slice Q m.length cq] 25)
 have cC := fun u (hu : Calm w u) => diskCheck_any P Q cp cq l m u (hh.calm hu).p (hh.calm hu).q hn hm
 rw [h0] at cC
 have b0 : ((l.length : Int) != 201) = false := by rw [bne_eq_false_iff_eq]; omega
 have b2 : 0 < (l.length : Int) := by omega
 have cR : ∀ u, Calm w u → Calls Try.prog 54 #[.agg #[.slice P l.length cp, .slice Q m.length cq], .int .i64 0] u fun e w' => e = .returned (.tuple #[.string T, .int .i64 0]) ∧ Calm u w' := fun u hu => by
  rw [hT]
  exact (hh.calm hu).rd cp cq h0 (k := 0) hx0
 have cB := fun u => body_ok T 8 1 (by omega) u h.1
 have h4 : 4 ≤ (gB T.data.toList).size := by have := h.1.2.2; omega
 have hN := h.2
 have cD := fun u => decode_any _ u h4
 generalize gB T.data.toList = B at cB cD h4 hN ⊢
 generalize num (B.data.toList.take 4) = N at cD hN ⊢
 have hN' : (N : Int) ≤ 2147483647 := by omega
 have h4' : (4 : Int) ≤ (B.size : Int) := by omega
 clear h0 hh hn hm hl hT hx0 h hN h4
 obtain ⟨x0, x1, hxs⟩ := rowD hx
 go_enter Try.func14, Try.ntmps14
 go_upto_region 12 with (first
  |(go_at_call 53; (with_reducible refine (cC _ hu).mono ?_); rintro e w1 ⟨rfl, hk⟩; replace hx := (hk.block hxs).trans hx; replace hu := hu.call hk; clear hk x0 x1 hxs; obtain ⟨x0, x1, hxs⟩ := rowD hx)
  |(go_at_call 54; (with_reducible refine (cR _ hu).mono ?_); rintro e w2 ⟨rfl, hk⟩; replace hx := (hk.block hxs).trans hx; replace hu := hu.call hk; clear hk x0 x1 hxs; obtain ⟨x0, x1, hxs⟩ := rowD hx)
  |(go_at_call 55; refine (cB _).mono ?_; rintro e w3 ⟨rfl, hk⟩; replace hx := (hk.block hxs).trans hx; replace hu := hu.call hk; clear hk x0 x1 hxs; obtain ⟨x0, x1, hxs⟩ := rowD hx)
  |(go_at_call 56; (with_reducible refine (cD _).mono ?_); rintro e w4 ⟨rfl, hk⟩; replace hx := (hk.block hxs).trans hx; replace hu := hu.call hk; clear hk x0 x1 hxs; obtain ⟨x0, x1, hxs⟩ := rowD hx))
 refine wp_region_plan [.val (.string B), .val (.int .i64 (N)), .val (.string B), .val (.string (B.extract 4 B.size)), .val (.int .i64 (N)), .val (.string (B.extract 4 B.size)), .val (.int .i64 (0))] (by kernel_rfl) (by kernel_rfl) (by kernel_rfl) ?_
 intro X
 iterate 7
  refine plan_val (by kernel_rfl) (fun u hu => ?_) ?_
  ·obtain ⟨hc, hf, hz⟩ := hu.of_drew.facts
   go_simp
   all_goals first
    |((go_at_call 56; exact cD _))
  simp only [Act.put, List.setIfInBounds_toArray, List.set_cons_zero, List.set_cons_succ, Nat.reduceAdd]
 refine plan_end ?_
 intro w' hB
 have hk := hB.calm.of_drew
 clear hB
 go_wp2_with fail
 go_ret3
 exact ⟨rfl, hu.call hk⟩
theorem rSeq_no (h0 : dkErr l m = 0) (hl : l.length = 201) {T x : ByteArray} (hx0 : l[0]? = some x) (hT : T = rdL 0 m x) (h : ¬ sqOk T) : Calls Try.prog 15 #[.agg #[.slice P l.length cp, .slice Q m.length cq]] w (Sq3 0 { data := #[] } 11 w) := by
 have hu := (Calm.refl w).alloc (.cells #[.slice P l.length cp, .slice Q m.length cq] 25)
 have hx := heap_new w (.cells #[.slice P l.length cp, .slice Q m.length cq] 25)
 have cC := fun u (hu : Calm w u) => refDisk_any P Q cp cq l m u (hh.calm hu).p (hh.calm hu).q hn hm
 rw [h0] at cC
 have b0 : ((l.length : Int) != 201) = false := by rw [bne_eq_false_iff_eq]; omega
 have b2 : 0 < (l.length : Int) := by omega
 have hT0 : (doneL (fun _ => true) 0 m l)[0]? = some T := by
  rw [hT]
  exact done_read rfl (dkErr_zero.1 h0).2.2.2 0 _ hx0
 have cS := fun u (hu : Calm w u) => synced_any P Q cp cq l m u (hh.calm hu).p (hh.calm hu).q h0
 unfold DoneEnd at cS
 generalize doneL (fun _ => true) 0 m l = LS at cS hT0
 have qf := un_field
 have cU := fun u => unframe_any T u
 unfold FGetEnd at cU
 generalize hgN : gN T.data.toList = G at cU
 by_cases h1 : unErr T.data.toList = 0
 rotate_left
 ·have b1 : (unErr T.data.toList != 0) = true := by rw [bne_iff_ne]; exact h1
  generalize gB T.data.toList = B at cU
  generalize gK T.data.toList = K at cU
  clear h h1
  generalize unErr T.data.toList = E at cU b1
  clear h0 hh hn hm hl hT hx0 hgN
  obtain ⟨x0, x1, hxs⟩ := rowD hx
  go_enter Try.func15, Try.ntmps15
  go_wp2_with (first
  |(go_at_call 57; (with_reducible refine (cC _ hu).mono ?_); rintro e w1 ⟨rfl, hk⟩; replace hx := (hk.block hxs).trans hx; replace hu := hu.call hk; clear hk x0 x1 hxs; obtain ⟨x0, x1, hxs⟩ := rowD hx)
  |(go_at_call 59; (with_reducible refine (cS _ hu).mono ?_); rintro e w2 ⟨P8, c8, rfl, ho8, hk⟩; obtain ⟨b8, q8, rfl, hb8, hc8⟩ := un_cell0 (OwnP.at_ ho8).2 hT0; clear ho8; replace hx := (hk.block hxs).trans hx; replace hu := hu.call hk; clear hk x0 x1 hxs; obtain ⟨x0, x1, hxs⟩ := rowD hx)
  |(go_at_call 58; (with_reducible refine (cU _).mono ?_); rintro e w3 ⟨rfl, hk⟩; clear hc8 hb8; replace hx := (hk.block hxs).trans hx; replace hu := hu.call hk; clear hk x0 x1 hxs; obtain ⟨x0, x1, hxs⟩ := rowD hx; replace hu := hu.alloc (.cells #[.int .i64 K, .string B] 87); have hy := heap_new w3 (.cells #[.int .i64 K, .string B] 87); obtain ⟨y0, y1, hys⟩ := row2 hy))
  go_ret3
  exact ⟨rfl, hu⟩
 rw [h1] at cU
 by_cases h2 : gK T.data.toList = 8
 rotate_left
 ·have b1 : (gK T.data.toList != 8) = true := by rw [bne_iff_ne]; exact h2
  generalize gB T.data.toList = B at cU
  clear h h2
  generalize gK T.data.toList = K at cU b1
  clear h0 hh hn hm hl hT hx0 hgN h1
  obtain ⟨x0, x1, hxs⟩ := rowD hx
  go_enter Try.func15, Try.ntmps15
  go_wp2_with (first
  |(go_at_call 57; (with_reducible refine (cC _ hu).mono ?_); rintro e w1 ⟨rfl, hk⟩; replace hx := (hk.block hxs).trans hx; replace hu := hu.call hk; clear hk x0 x1 hxs; obtain ⟨x0, x1, hxs⟩ := rowD hx)
  |(go_at_call 59; (with_reducible refine (cS _ hu).mono ?_); rintro e w2 ⟨P8, c8, rfl, ho8, hk⟩; obtain ⟨b8, q8, rfl, hb8, hc8⟩ := un_cell0 (OwnP.at_ ho8).2 hT0; clear ho8; replace hx := (hk.block hxs).trans hx; replace hu := hu.call hk; clear hk x0 x1 hxs; obtain ⟨x0, x1, hxs⟩ := rowD hx)
  |(go_at_call 58; (with_reducible refine (cU _).mono ?_); rintro e w3 ⟨rfl, hk⟩; clear hc8 hb8; replace hx := (hk.block hxs).trans hx; replace hu := hu.call hk; clear hk x0 x1 hxs; obtain ⟨x0, x1, hxs⟩ := rowD hx; replace hu := hu.alloc (.cells #[.int .i64 K, .string B] 87); have hy := heap_new w3 (.cells #[.int .i64 K, .string B] 87); obtain ⟨y0, y1, hys⟩ := row2 hy))
  go_ret3
  exact ⟨rfl, hu⟩
 rw [h2] at cU
 by_cases h3 : 4 ≤ (gB T.data.toList).size
 rotate_left
 ·obtain ⟨B, hB⟩ : ∃ B, B = gB T.data.toList := ⟨_, rfl⟩
  rw [← hB] at cU h3
  have h3' : (B.size : Int) < 4 := by omega
  clear hB h3
  clear h0 hh hn hm hl hT hx0 h hgN h1 h2
  obtain ⟨x0, x1, hxs⟩ := rowD hx
  go_enter Try.func15, Try.ntmps15
  go_wp2_with (first
  |(go_at_call 57; (with_reducible refine (cC _ hu).mono ?_); rintro e w1 ⟨rfl, hk⟩; replace hx := (hk.block hxs).trans hx; replace hu := hu.call hk; clear hk x0 x1 hxs; obtain ⟨x0, x1, hxs⟩ := rowD hx)
  |(go_at_call 59; (with_reducible refine (cS _ hu).mono ?_); rintro e w2 ⟨P8, c8, rfl, ho8, hk⟩; obtain ⟨b8, q8, rfl, hb8, hc8⟩ := un_cell0 (OwnP.at_ ho8).2 hT0; clear ho8; replace hx := (hk.block hxs).trans hx; replace hu := hu.call hk; clear hk x0 x1 hxs; obtain ⟨x0, x1, hxs⟩ := rowD hx)
  |(go_at_call 58; (with_reducible refine (cU _).mono ?_); rintro e w3 ⟨rfl, hk⟩; clear hc8 hb8; replace hx := (hk.block hxs).trans hx; replace hu := hu.call hk; clear hk x0 x1 hxs; obtain ⟨x0, x1, hxs⟩ := rowD hx; replace hu := hu.alloc (.cells #[.int .i64 8, .string B] 87); have hy := heap_new w3 (.cells #[.int .i64 8, .string B] 87); obtain ⟨y0, y1, hys⟩ := row2 hy))
  go_ret3
  exact ⟨rfl, hu⟩
 have hN : ¬ num ((gB T.data.toList).data.toList.take 4) ≤ 2147483647 := fun hN => h ⟨⟨h1, h2, by omega⟩, hN⟩
 have cD := fun u => calls_calm (refBig_any ((gB T.data.toList).extract 0 4) u (by rw [ByteArray.size_extract]; omega))
 rw [show ((gB T.data.toList).extract 0 4).data.toList = (gB T.data.toList).data.toList.take 4 from by rw [part_extract]; unfold part; rw [List.drop_zero]] at cD
 clear h
 generalize gB T.data.toList = B at cU cD h3 hN
 generalize num (B.data.toList.take 4) = N at cD hN
 have hN' : (2147483647 : Int) < (N : Int) := by omega
 have h3' : (4 : Int) ≤ (B.size : Int) := by omega
 clear h0 hh hn hm hl hT hx0 h1 h2 h3 hN hgN
 obtain ⟨x0, x1, hxs⟩ := rowD hx
 go_enter Try.func15, Try.ntmps15
 go_wp2_with (first
  |(go_at_call 57; (with_reducible refine (cC _ hu).mono ?_); rintro e w1 ⟨rfl, hk⟩; replace hx := (hk.block hxs).trans hx; replace hu := hu.call hk; clear hk x0 x1 hxs; obtain ⟨x0, x1, hxs⟩ := rowD hx)
  |(go_at_call 59; (with_reducible refine (cS _ hu).mono ?_); rintro e w2 ⟨P8, c8, rfl, ho8, hk⟩; obtain ⟨b8, q8, rfl, hb8, hc8⟩ := un_cell0 (OwnP.at_ ho8).2 hT0; clear ho8; replace hx := (hk.block hxs).trans hx; replace hu := hu.call hk; clear hk x0 x1 hxs; obtain ⟨x0, x1, hxs⟩ := rowD hx)
  |(go_at_call 58; (with_reducible refine (cU _).mono ?_); rintro e w3 ⟨rfl, hk⟩; clear hc8 hb8; replace hx := (hk.block hxs).trans hx; replace hu := hu.call hk; clear hk x0 x1 hxs; obtain ⟨x0, x1, hxs⟩ := rowD hx; replace hu := hu.alloc (.cells #[.int .i64 8, .string B] 87); have hy := heap_new w3 (.cells #[.int .i64 8, .string B] 87); obtain ⟨y0, y1, hys⟩ := row2 hy)
  |(go_at_call 60; (with_reducible refine (cD _).mono ?_); rintro e w4 ⟨rfl, hk⟩; replace hy := (hk.block hys).trans hy; replace hu := hu.call hk; clear hk y0 y1 hys; obtain ⟨y0, y1, hys⟩ := row2 hy))
 go_ret3
 exact ⟨rfl, hu⟩
theorem rSeq_ok (h0 : dkErr l m = 0) (hl : l.length = 201) {T x : ByteArray} (hx0 : l[0]? = some x) (hT : T = rdL 0 m x) (h : sqOk T) : Calls Try.prog 15 #[.agg #[.slice P l.length cp, .slice Q m.length cq]] w (Sq3 (num ((gB T.data.toList).data.toList.take 4) : Int) ((gB T.data.toList).extract 4 (gB T.data.toList).size) 0 w) := by
 have hu := (Calm.refl w).alloc (.cells #[.slice P l.length cp, .slice Q m.length cq] 25)
 have hx := heap_new w (.cells #[.slice P l.length cp, .slice Q m.length cq] 25)
 have cC := fun u (hu : Calm w u) => refDisk_any P Q cp cq l m u (hh.calm hu).p (hh.calm hu).q hn hm
 rw [h0] at cC
 have b0 : ((l.length : Int) != 201) = false := by rw [bne_eq_false_iff_eq]; omega
 have b2 : 0 < (l.length : Int) := by omega
 have hT0 : (doneL (fun _ => true) 0 m l)[0]? = some T := by
  rw [hT]
  exact done_read rfl (dkErr_zero.1 h0).2.2.2 0 _ hx0
 have cS := fun u (hu : Calm w u) => synced_any P Q cp cq l m u (hh.calm hu).p (hh.calm hu).q h0
 unfold DoneEnd at cS
 generalize doneL (fun _ => true) 0 m l = LS at cS hT0
 have qf := un_field
 have cU := fun u => unframe_any T u
 unfold FGetEnd at cU
 obtain ⟨⟨h1, h2, h3⟩, hN⟩ := h
 rw [h1, h2] at cU
 generalize gN T.data.toList = G at cU
 have cD := fun u => calls_calm (refBig_any ((gB T.data.toList).extract 0 4) u (by rw [ByteArray.size_extract]; omega))
 rw [show ((gB T.data.toList).extract 0 4).data.toList = (gB T.data.toList).data.toList.take 4 from by rw [part_extract]; unfold part; rw [List.drop_zero]] at cD
 generalize gB T.data.toList = B at cU cD h3 hN ⊢
 generalize num (B.data.toList.take 4) = N at cD hN ⊢
 have hN' : (N : Int) ≤ 2147483647 := by omega
 have h3' : (4 : Int) ≤ (B.size : Int) := by omega
 clear h0 hh hn hm hl hT hx0 h1 h2 h3 hN
 obtain ⟨x0, x1, hxs⟩ := rowD hx
 go_enter Try.func15, Try.ntmps15
 go_upto_region 9 with (first
  |(go_at_call 57; (with_reducible refine (cC _ hu).mono ?_); rintro e w1 ⟨rfl, hk⟩; replace hx := (hk.block hxs).trans hx; replace hu := hu.call hk; clear hk x0 x1 hxs; obtain ⟨x0, x1, hxs⟩ := rowD hx)
  |(go_at_call 59; (with_reducible refine (cS _ hu).mono ?_); rintro e w2 ⟨P8, c8, rfl, ho8, hk⟩; obtain ⟨b8, q8, rfl, hb8, hc8⟩ := un_cell0 (OwnP.at_ ho8).2 hT0; clear ho8; replace hx := (hk.block hxs).trans hx; replace hu := hu.call hk; clear hk x0 x1 hxs; obtain ⟨x0, x1, hxs⟩ := rowD hx)
  |(go_at_call 58; (with_reducible refine (cU _).mono ?_); rintro e w3 ⟨rfl, hk⟩; clear hc8 hb8; replace hx := (hk.block hxs).trans hx; replace hu := hu.call hk; clear hk x0 x1 hxs; obtain ⟨x0, x1, hxs⟩ := rowD hx; replace hu := hu.alloc (.cells #[.int .i64 8, .string B] 87); have hy := heap_new w3 (.cells #[.int .i64 8, .string B] 87); obtain ⟨y0, y1, hys⟩ := row2 hy)
  |(go_at_call 60; (with_reducible refine (cD _).mono ?_); rintro e w4 ⟨rfl, hk⟩; replace hy := (hk.block hys).trans hy; replace hu := hu.call hk; clear hk y0 y1 hys; obtain ⟨y0, y1, hys⟩ := row2 hy))
 generalize w3.heap.size = gF at hy y0 y1 hys ⊢
 refine wp_region_plan [.val (.pointer (some ⟨gF, 1, none⟩)), .val (.string B), .val (.string (B.extract 0 4)), .val (.int .i64 (N)), .val (.pointer (some ⟨gF, 1, none⟩)), .val (.string B), .val (.string (B.extract 4 B.size)), .val (.int .i64 (N)), .val (.string (B.extract 4 B.size)), .val (.int .i64 (0))] (by kernel_rfl) (by kernel_rfl) (by kernel_rfl) ?_
 intro X
 iterate 10
  refine plan_val (by kernel_rfl) (fun u hu => ?_) ?_
  ·obtain ⟨hc, hf, hz⟩ := hu.of_drew.facts
   go_simp
   all_goals first
    |((go_at_call 60; exact cD _))
  simp only [Act.put, List.setIfInBounds_toArray, List.set_cons_zero, List.set_cons_succ, Nat.reduceAdd]
 refine plan_end ?_
 intro w' hB
 have hk := hB.calm.of_drew
 clear hB
 go_wp2_with fail
 go_ret3
 exact ⟨rfl, hu.call hk⟩
end
open Go.RowKit
def rvOk (T : ByteArray) (q : Nat) : Prop := bdOk T.data.toList 9 2 ∧ q < num ((gB T.data.toList).data.toList.take 4)
def rvP (T : ByteArray) : Nat := num (part (gB T.data.toList).data.toList 4 4)
def rvIs (T : ByteArray) (q : Nat) : Prop := num ((gB T.data.toList).data.toList.take 4) = q + 1 ∧ 1 ≤ rvP T ∧ rvP T ≤ 100
def rvT (T : ByteArray) : ByteArray := (gB T.data.toList).extract 8 (gB T.data.toList).size
open Classical in
noncomputable def rvL (q i : Nat) (T : ByteArray) (L : List ByteArray) : List ByteArray := if rvOk T q then (if rvIs T q then (L.set i { data := #[] }).set (rvP T) (rvT T) else L.set i { data := #[] }) else L
theorem rvL_no {q i : Nat} {T : ByteArray} {L : List ByteArray} (h : ¬ rvOk T q) : rvL q i T L = L := by unfold rvL; rw [if_neg h]
theorem rvL_one {q i : Nat} {T : ByteArray} {L : List ByteArray} (h : rvOk T q) (h2 : ¬ rvIs T q) : rvL q i T L = L.set i { data := #[] } := by unfold rvL; rw [if_pos h, if_neg h2]
theorem rvL_two {q i : Nat} {T : ByteArray} {L : List ByteArray} (h : rvOk T q) (h2 : rvIs T q) : rvL q i T L = (L.set i { data := #[] }).set (rvP T) (rvT T) := by unfold rvL; rw [if_pos h, if_pos h2]
theorem rvL_len (q i : Nat) (T : ByteArray) (L : List ByteArray) : (rvL q i T L).length = L.length := by
 by_cases h : rvOk T q
 ·by_cases h2 : rvIs T q
  ·rw [rvL_two h h2, List.length_set, List.length_set]
  ·rw [rvL_one h h2, List.length_set]
 ·rw [rvL_no h]
def RvEnd (B g n c : Nat) (L : List ByteArray) (w : World) (e : Ending) (w' : World) : Prop := e = .returned (.tuple #[]) ∧ OwnP B w' (.slice (some ⟨g, 0, none⟩) n c) L ∧ (∀ w0 : World, w0.heap.size ≤ g → Calm w0 w → Calm w0 w') ∧ (∀ k, k < w.heap.size → k ≠ g → w'.heap[k]? = w.heap[k]?)
theorem isData_any (n : Int) (w : World) : Calls Try.prog 95 #[.int .i64 n] w fun e w' => e = .returned (.bool (decide (1 ≤ n) && decide (n ≤ 100))) ∧ Calm w w' := by
 by_cases h0 : 1 ≤ n
 ·rw [decide_eq_true h0]
  by_cases h1 : n ≤ 100
  ·rw [decide_eq_true h1]
   go_enter Try.func95, Try.ntmps95
   go_wp2_with fail
   go_ret
   exact ⟨rfl, Calm.refl _⟩
  ·rw [decide_eq_false h1]
   go_enter Try.func95, Try.ntmps95
   go_wp2_with fail
   go_ret
   exact ⟨rfl, Calm.refl _⟩
 ·rw [decide_eq_false h0]
  go_enter Try.func95, Try.ntmps95
  go_wp2_with fail
  go_ret
  exact ⟨rfl, Calm.refl _⟩
theorem rv_cell {B g n c : Nat} {w : World} {L : List ByteArray} (h : OwnP B w (.slice (some ⟨g, 0, none⟩) n c) L) {i : Nat} {T : ByteArray} (hi : L[i]? = some T) : w.cell? ⟨g, i, none⟩ = some (.string T) := by
 obtain ⟨hlt, rfl⟩ := List.getElem?_eq_some_iff.1 hi
 have := (OwnG.cell stC_len h hlt).1 0 (by omega)
 rw [Nat.mul_one, Nat.add_zero] at this
 exact this
theorem rv_set {B g n c : Nat} {w : World} {L : List ByteArray} (h : OwnP B w (.slice (some ⟨g, 0, none⟩) n c) L) {i : Nat} (hi : i < L.length) (T : ByteArray) : OwnP B (w.setCell ⟨g, i, none⟩ (.string T)) (.slice (some ⟨g, 0, none⟩) n c) (L.set i T) := by
 have := OwnG.set stC_len (i := i) (j := 0) (u := .string T) (x := T) h hi (by omega) rfl
 rw [Nat.mul_one, Nat.add_zero] at this
 exact this
set_option maxHeartbeats 4000000 in
theorem revert_any {B g n c : Nat} {L : List ByteArray} {i q : Nat} {T : ByteArray} {w : World} (ho : OwnP B w (.slice (some ⟨g, 0, none⟩) n c) L) (hl : L.length = n) (hi : L[i]? = some T) (hn : 101 ≤ n) (hq : q ≤ 2147483647) : Calls Try.prog 61 #[.slice (some ⟨g, 0, none⟩) n c, .int .i64 (i : Int), .int .i64 (q : Int)] w (RvEnd B g n c (rvL q i T L) w) := by
 have hil : i < n := by rw [← hl]; exact (List.getElem?_eq_some_iff.1 hi).1
 have hil' : (i : Int) < (n : Int) := by omega
 have hq' : (q : Int) ≤ 2147483647 := by omega
 have hgs := (OwnG.lt ho g rfl).2
 have HO := Lib.hid ho
 have c0 := rv_cell ho hi
 by_cases hb : bdOk T.data.toList 9 2
 rotate_left
 ·have cB := fun u => body_no T 9 2 (by omega) u hb
  rw [rvL_no (fun h => hb h.1)]
  have HE : Hid (∀ w', Calm w w' → RvEnd B g n c L w (.returned (.tuple #[])) w') := show ∀ _, _ from fun w' hk => ⟨rfl, HO.out.calm hk, fun _ _ h => h.call hk, fun k hk1 _ => hk.block hk1⟩
  generalize RvEnd B g n c L w = PE at HE ⊢
  clear ho hb hi hl hq hn hil
  go_enter Try.func61, Try.ntmps61
  go_wp2_with (go_at_call 55; refine (cB _).mono ?_; rintro e w1 ⟨rfl, hk⟩)
  go_end0
  exact HE.out _ hk
 have cB := fun u => body_ok T 9 2 (by omega) u hb
 have h8 : 8 ≤ (gB T.data.toList).size := by have := hb.2.2; omega
 have cD := fun u => decode_any (gB T.data.toList) u (by omega)
 by_cases hgt : q < num ((gB T.data.toList).data.toList.take 4)
 rotate_left
 ·rw [rvL_no (fun h => hgt h.2)]
  have HE : Hid (∀ w', Calm w w' → RvEnd B g n c L w (.returned (.tuple #[])) w') := show ∀ _, _ from fun w' hk => ⟨rfl, HO.out.calm hk, fun _ _ h => h.call hk, fun k hk1 _ => hk.block hk1⟩
  generalize RvEnd B g n c L w = PE at HE ⊢
  generalize gB T.data.toList = D at cB cD hgt
  generalize num (D.data.toList.take 4) = H at cD hgt
  have hgt' : (H : Int) ≤ (q : Int) := by omega
  clear ho hb hi hl hq hn hil hgt h8
  go_enter Try.func61, Try.ntmps61
  go_wp2_with (first
   |(go_at_call 55; refine (cB _).mono ?_; rintro e w1 ⟨rfl, hk⟩)
   |(go_at_call 56; refine (cD _).mono ?_; rintro e w2 ⟨rfl, hk2⟩; replace hk := hk.call hk2; clear hk2))
  go_end0
  exact HE.out _ hk
 have hO := show rvOk T q from ⟨hb, hgt⟩
 have cE := fun u => decode_any ((gB T.data.toList).extract 4 (gB T.data.toList).size) u (by rw [ByteArray.size_extract]; omega)
 have hP : num (((gB T.data.toList).extract 4 (gB T.data.toList).size).data.toList.take 4) = rvP T := by
  rw [part_extract]
  unfold rvP part
  rw [List.take_take, Nat.min_eq_left (by omega)]
 rw [hP] at cE
 have HL : Hid (rvIs T q → rvL q i T L = (L.set i { data := #[] }).set (rvP T) ((gB T.data.toList).extract 8 (gB T.data.toList).size)) := show _ → _ from fun h => rvL_two hO h
 have HM : Hid (¬ rvIs T q → rvL q i T L = L.set i { data := #[] }) := show _ → _ from fun h => rvL_one hO h
 have HI : Hid (rvIs T q ↔ num ((gB T.data.toList).data.toList.take 4) = q + 1 ∧ 1 ≤ rvP T ∧ rvP T ≤ 100) := show _ ↔ _ from Iff.rfl
 have HE : Hid (∀ w', OwnP B w' (.slice (some ⟨g, 0, none⟩) n c) (rvL q i T L) → (∀ w0 : World, w0.heap.size ≤ g → Calm w0 w → Calm w0 w') → (∀ k, k < w.heap.size → k ≠ g → w'.heap[k]? = w.heap[k]?) → RvEnd B g n c (rvL q i T L) w (.returned (.tuple #[])) w') := show ∀ _, _ from fun w' h1 h2 h3 => ⟨rfl, h1, h2, h3⟩
 generalize RvEnd B g n c (rvL q i T L) w = PE at HE ⊢
 generalize rvL q i T L = LL at HL HM HE
 clear hO hP hb ho
 generalize rvIs T q = IS at HL HM HI
 generalize rvP T = p at cE HL HI
 generalize gB T.data.toList = D at cB cD cE HL HI hgt h8
 generalize num (D.data.toList.take 4) = H at cD HI hgt
 have hgt' : (q : Int) < (H : Int) := by omega
 have h8' : (8 : Int) ≤ (D.size : Int) := by omega
 clear hgt h8
 go_enter Try.func61, Try.ntmps61
 go_upto_region 2 with (first
   |(go_at_call 55; refine (cB _).mono ?_; rintro e w1 ⟨rfl, hk⟩)
   |(go_at_call 56; refine (cD _).mono ?_; rintro e w2 ⟨rfl, hk2⟩; replace hk := hk.call hk2; clear hk2))
 have HO2 := Lib.hid (HO.out.calm hk)
 have c2 := rv_cell HO2.out hi
 have f2 := OwnG.frozen HO2.out i
 clear c0
 go_upto_region 3 with fail
 have HO3 := Lib.hid (rv_set HO2.out (i := i) (by omega) { data := #[] })
 have HC : Hid (∀ w0 : World, w0.heap.size ≤ g → Calm w0 w → Calm w0 (w2.setCell ⟨g, i, none⟩ (.string { data := #[] }))) := show ∀ _, _ from fun w0 h0 h => (h.call hk).setCell (p := ⟨g, i, none⟩) h0 _
 have HK : Hid (∀ k, k < w.heap.size → k ≠ g → (w2.setCell ⟨g, i, none⟩ (.string { data := #[] })).heap[k]? = w.heap[k]?) := show ∀ _, _ from fun k h1 h2 => (heap_setCell_other _ ⟨g, i, none⟩ k _ h2).trans (hk.block h1)
 have HG : Hid (w.heap.size ≤ (w2.setCell ⟨g, i, none⟩ (.string { data := #[] })).heap.size) := show _ ≤ _ from by have := hk.size; simpa using this
 clear c2 f2 hk HO2
 generalize w2.setCell ⟨g, i, none⟩ (.string { data := #[] }) = w3 at HO3 HC HK HG ⊢
 have hll : (L.set i { data := #[] }).length = n := by rw [List.length_set, hl]
 clear hi hl
 generalize L.set i { data := #[] } = L3 at HO3 HL HM hll
 by_cases h1 : H = q + 1
 rotate_left
 ·have e1 : ((H : Int) == (q : Int) + 1) = false := by rw [beq_eq_false_iff_ne]; omega
  have HL2 := Lib.hid (HM.out fun h => h1 (HI.out.1 h).1)
  clear h1 HL HM HI hll
  go_wp2_with (go_at_call 56; first | (with_reducible refine (cD _).mono ?_; rintro e w4 ⟨rfl, hk⟩; replace hk3 := hk3.call hk; clear hk) | (with_reducible refine (cE _).mono ?_; rintro e w5 ⟨rfl, hk3⟩))
  go_end0
  refine HE.out _ ?_ (fun w0 h0 h => (HC.out w0 h0 h).call hk3) (fun k h1 h2 => (hk3.block (Nat.lt_of_lt_of_le h1 HG.out)).trans (HK.out k h1 h2))
  rw [HL2.out]; exact HO3.out.calm hk3
 by_cases h2 : 1 ≤ p ∧ p ≤ 100
 rotate_left
 ·have e1 : ((H : Int) == (q : Int) + 1) = true := by rw [beq_iff_eq]; omega
  have HL2 := Lib.hid (HM.out fun h => h2 (HI.out.1 h).2)
  have cI := fun u => isData_any (p : Int) u
  rw [show (decide (1 ≤ (p : Int)) && decide ((p : Int) ≤ 100)) = false by rw [Bool.and_eq_false_iff, decide_eq_false_iff_not, decide_eq_false_iff_not]; omega] at cI
  clear h1 h2 HL HM HI hll
  go_wp2_with (first
   |(go_at_call 56; first | (with_reducible refine (cD _).mono ?_; rintro e w4 ⟨rfl, hk⟩; replace hk3 := hk3.call hk; clear hk) | (with_reducible refine (cE _).mono ?_; rintro e w5 ⟨rfl, hk3⟩))
   |(go_at_call 95; refine (cI _).mono ?_; rintro e w6 ⟨rfl, hk⟩; replace hk3 := hk3.call hk; clear hk))
  go_end0
  refine HE.out _ ?_ (fun w0 h0 h => (HC.out w0 h0 h).call hk3) (fun k h1 h2 => (hk3.block (Nat.lt_of_lt_of_le h1 HG.out)).trans (HK.out k h1 h2))
  rw [HL2.out]; exact HO3.out.calm hk3
 ·have e1 : ((H : Int) == (q : Int) + 1) = true := by rw [beq_iff_eq]; omega
  have HL2 := Lib.hid (HL.out (HI.out.2 ⟨h1, h2⟩))
  have cI := fun u => isData_any (p : Int) u
  rw [show (decide (1 ≤ (p : Int)) && decide ((p : Int) ≤ 100)) = true by rw [Bool.and_eq_true, decide_eq_true_iff, decide_eq_true_iff]; omega] at cI
  have hp' : (p : Int) < (n : Int) := by omega
  have hp : p < L3.length := by omega
  clear h1 h2 HL HM HI
  go_upto_region 5 with (first
   |(go_at_call 56; first | (with_reducible refine (cD _).mono ?_; rintro e w4 ⟨rfl, hk⟩; replace hk3 := hk3.call hk; clear hk) | (with_reducible refine (cE _).mono ?_; rintro e w5 ⟨rfl, hk3⟩))
   |(go_at_call 95; refine (cI _).mono ?_; rintro e w6 ⟨rfl, hk⟩; replace hk3 := hk3.call hk; clear hk))
  have HO6 := Lib.hid (HO3.out.calm hk3)
  have c6 := rv_cell HO6.out (List.getElem?_eq_getElem hp)
  have f6 := OwnG.frozen HO6.out p
  go_wp2_with fail
  go_end0
  refine HE.out _ ?_ (fun w0 h0 h => ((HC.out w0 h0 h).call hk3).setCell (p := ⟨g, p, none⟩) h0 _) (fun k h1 h2 => (heap_setCell_other _ ⟨g, p, none⟩ k _ h2).trans ((hk3.block (Nat.lt_of_lt_of_le h1 HG.out)).trans (HK.out k h1 h2)))
  rw [HL2.out]; exact rv_set HO6.out hp _
open Go.RowKit
noncomputable def rvAll (q : Nat) (L : List ByteArray) : Nat → List ByteArray
 | 0 => L
 |k + 1 => rvL q (101 + k) ((rvAll q L k).getD (101 + k) { data := #[] }) (rvAll q L k)
theorem rvAll_len (q : Nat) (L : List ByteArray) : ∀ k, (rvAll q L k).length = L.length
 | 0 => rfl
 |k + 1 => by rw [rvAll, rvL_len, rvAll_len q L k]
theorem rvAll_next (q : Nat) (L : List ByteArray) {j : Nat} (hj : 101 ≤ j) : rvAll q L (j + 1 - 101) = rvL q j ((rvAll q L (j - 101)).getD j { data := #[] }) (rvAll q L (j - 101)) := by
 rw [show j + 1 - 101 = (j - 101) + 1 by omega, rvAll, show 101 + (j - 101) = j by omega]
def RecEnd (n : Nat) (L : List ByteArray) (w : World) (e : Ending) (w' : World) : Prop := ∃ A c, e = .returned (.tuple #[.agg #[.slice A n c, .slice none 0 0], .int .i64 0]) ∧ LiesP w' A L ∧ Calm w w'
set_option maxHeartbeats 8000000 in
theorem undoRecover_ok (P Q : Option Addr) (cp cq : Nat) (l : List ByteArray) (m : List Wr) (w : World) (hh : HasD w P Q l m) (h0 : dkErr l m = 0) (hl : l.length = 201) (q : Nat) (hq : q ≤ 2147483647) (t : ByteArray)
    (hS : ∀ u A c, LiesP u A (curP l m) → Calls Try.prog 14 #[.agg #[.slice A l.length c, .slice none 0 0]] u (Sq3 (q : Int) t 0 u)) :
    Calls Try.prog 16 #[.agg #[.slice P l.length cp, .slice Q m.length cq]] w (RecEnd l.length (rvAll q (curP l m) 100) w) := by
  have hx := heap_past (.cells #[.slice none 0 0, .slice none 0 0] 25) (heap_new w (.cells #[.slice P l.length cp, .slice Q m.length cq] 25))
  have hr := heap_new (w.alloc (.cells #[.slice P l.length cp, .slice Q m.length cq] 25)) (.cells #[.slice none 0 0, .slice none 0 0] 25)
  rw [World.size_alloc] at hr
  have hu := ((Calm.refl w).alloc (.cells #[.slice P l.length cp, .slice Q m.length cq] 25)).alloc (.cells #[.slice none 0 0, .slice none 0 0] 25)
  have cS := fun u (hu : Calm w u) => (hh.calm hu).sync cp cq h0
  have hLl : (curP l m).length = l.length := doneL_len _ _ _ _
  generalize curP l m = LS at hS cS hLl ⊢
  have HE : Hid (∀ w' A c, LiesP w' A (rvAll q LS 100) → Calm w w' → RecEnd l.length (rvAll q LS 100) w (.returned (.tuple #[.agg #[.slice A l.length c, .slice none 0 0], .int .i64 0])) w') := show ∀ _, _ from fun w' A c h1 h2 => ⟨A, c, rfl, h1, h2⟩
  generalize RecEnd l.length (rvAll q LS 100) w = PE at HE ⊢
  obtain ⟨n, hn⟩ : ∃ n, n = l.length := ⟨_, rfl⟩
  rw [← hn] at hx hr hu cS hS HE hLl ⊢
  have hn1 : n = 201 := by omega
  clear hh h0 hl hn
  obtain ⟨x0, x1, hxs⟩ := rowD hx
  obtain ⟨r0, r1, hrs⟩ := rowD hr
  have HN := Lib.hid hn1
  clear hn1
  go_enter Try.func16, Try.ntmps16
  generalize hQ0 : bodyPost Try.prog Try.f16 PE = Q0
  have HRET : Hid (∀ a w', bodyPost Try.prog Try.f16 PE .ret a w' → Q0 .ret a w') := show ∀ _ _, _ from fun a w' h => by rw [← hQ0]; exact h
  clear hQ0
  go_upto_region 2 with (go_at_call 21; (with_reducible refine (cS _ hu).mono ?_); rintro e w3 ⟨P6, cp6, rfl, ho6, hk⟩; replace hr := (hk.block hrs).trans hr; replace hu := hu.call hk; clear hk x0 x1 hxs hx)
  rw [World.size_alloc, World.size_alloc] at ho6
  obtain ⟨g, cap, hA⟩ := OwnG.some_ ho6 (by have := HN.out; omega)
  obtain rfl : P6 = some ⟨g, 0, none⟩ := by injection hA
  clear hA cap r0 r1 hrs
  have hg1 := (OwnG.lt ho6 g rfl).1
  have hg2 := (OwnG.lt ho6 g rfl).2
  replace hr := heap_past (.cells #[.slice (some ⟨g, 0, none⟩) n cp6, .slice none 0 0] 25) hr
  have h4 := heap_new w3 (.cells #[.slice (some ⟨g, 0, none⟩) n cp6, .slice none 0 0] 25)
  replace hu := hu.alloc (.cells #[.slice (some ⟨g, 0, none⟩) n cp6, .slice none 0 0] 25)
  have HO := Lib.hid (OwnP.calm ho6 ((Calm.refl _).alloc (.cells #[.slice (some ⟨g, 0, none⟩) n cp6, .slice none 0 0] 25)))
  have hg3 : w3.heap.size ≠ g := by omega
  generalize w3.heap.size = g4 at h4 hg2 hg3 ⊢
  generalize w3.alloc (.cells #[.slice (some ⟨g, 0, none⟩) n cp6, .slice none 0 0] 25) = w4 at hr h4 hu HO ⊢
  clear ho6 cS
  obtain ⟨y0, y1, hys⟩ := rowD h4
  have hrs := (rowD hr).2.2
  go_upto_region 7 with (go_at_call 14; (with_reducible refine (hS _ _ _ (OwnP.at_ HO.out).2).mono ?_); rintro e w5 ⟨rfl, hk⟩; replace hr := (hk.block hrs).trans hr; replace h4 := (hk.block hys).trans h4; replace hu := hu.call hk; replace HO := Lib.hid (HO.out.calm hk); clear hk y0 y1 hys hrs hS; obtain ⟨y0, y1, hys⟩ := rowD h4)
  clear y0 y1 hys
  go_wp2_with fail
  go_loopw [8] (fun i wr => ∃ j : Nat, 101 ≤ j ∧ j ≤ 201 ∧ i = .int .i64 j ∧ Calm w wr ∧ Hid (OwnP (w.heap.size + 1 + 1) wr (.slice (some ⟨g, 0, none⟩) n cp6) (rvAll q LS (j - 101))) ∧ wr.heap[w.heap.size + 1]? = some (.cells #[.slice none 0 0, .slice none 0 0] 25 (0, 0)) ∧ wr.heap[g4]? = some (.cells #[.slice (some ⟨g, 0, none⟩) n cp6, .slice none 0 0] 25 (0, 0))) (fun i _ => 201 - (intOf i).toNat)
  case atStart => exact ⟨101, by omega, by omega, rfl, hu, HO, hr, h4⟩
  case round =>
    obtain ⟨j, hj1, hj2, rfl, hv, HOk, hr, h4⟩ := hrel
    obtain ⟨y0, y1, hys⟩ := rowD h4
    by_cases hlt : j < 201
    · have hjl : j < (rvAll q LS (j - 101)).length := by rw [rvAll_len, hLl, HN.out]; exact hlt
      have HT := Lib.hid (rvAll_next q LS hj1)
      have hll : (rvAll q LS (j - 101)).length = n := by rw [rvAll_len, hLl]
      have hg : (rvAll q LS (j - 101))[j]? = some ((rvAll q LS (j - 101)).getD j { data := #[] }) := by rw [List.getD_eq_getElem?_getD, List.getElem?_eq_getElem hjl]; rfl
      have cR := revert_any HOk.out hll hg (by rw [HN.out]; omega) hq
      rw [← HT.out] at cR
      have hj3 : (j : Int) ≤ 200 := by omega
      have hrs := (rowD hr).2.2
      clear hjl hll hg HT
      go_wp2_with (go_at_call 61; (with_reducible refine cR.mono ?_); rintro e w6 ⟨rfl, ho, hcw, hot⟩; have HO9 := Lib.hid ho; have HC9 := Lib.hid hcw; have HT9 := Lib.hid hot; clear ho hcw hot)
      go_roundw
      case rel => exact ⟨j + 1, by omega, by omega, by go_num, HC9.out w (by omega) hv, HO9, (HT9.out _ hrs (by omega)).trans hr, (HT9.out _ hys hg3).trans h4⟩
      case measure => simp [intOf]; omega
    · obtain rfl : j = 201 := by omega
      obtain ⟨r0, r1, hrs⟩ := rowD hr
      obtain ⟨f0, f1⟩ := freeD2 hr
      have HO8 := HOk
      clear HOk
      go_wp2_with fail
      have hr9 := setD2 hr (.slice (some ⟨g, 0, none⟩) n cp6) (.slice none 0 0)
      have hu9 := hv.twoD (g := w.heap.size + 1) (by omega) (.slice (some ⟨g, 0, none⟩) n cp6) (.slice none 0 0)
      have ho9 := rowsG_set (rowsG_set HO8.out (Nat.lt_succ_self _) 0 (.slice (some ⟨g, 0, none⟩) n cp6)) (Nat.lt_succ_self _) 1 (.slice none 0 0)
      exact HRET.out _ _ (end_dkE (p := 2) (q := 3) rfl rfl _ _ _ _ _ _ _ rfl rfl rfl hr9 rfl (HE.out _ _ cp6 (OwnP.at_ ho9).2 hu9))
open Go.RowKit
set_option maxHeartbeats 8000000 in
theorem undoRecover_bad (P Q : Option Addr) (cp cq : Nat) (l : List ByteArray) (m : List Wr) (w : World) (hh : HasD w P Q l m) (hn : l.length ≤ 9223372036854775807) (hm : m.length ≤ 9223372036854775807) {E : Int} (hE : dkErr l m = E) (hE0 : E ≠ 0) : Calls Try.prog 16 #[.agg #[.slice P l.length cp, .slice Q m.length cq]] w (NoDisk E w) := by
 have hx := heap_past (.cells #[.slice none 0 0, .slice none 0 0] 25) (heap_new w (.cells #[.slice P l.length cp, .slice Q m.length cq] 25))
 have hr := heap_new (w.alloc (.cells #[.slice P l.length cp, .slice Q m.length cq] 25)) (.cells #[.slice none 0 0, .slice none 0 0] 25)
 rw [World.size_alloc] at hr
 have hu := ((Calm.refl w).alloc (.cells #[.slice P l.length cp, .slice Q m.length cq] 25)).alloc (.cells #[.slice none 0 0, .slice none 0 0] 25)
 have cS := fun u (hu : Calm w u) => (hh.calm hu).sync_bad cp cq hn hm hE hE0
 unfold NoDisk at cS
 have HE : Hid (∀ w', Calm w w' → NoDisk E w (.returned (.tuple #[.agg #[.slice none 0 0, .slice none 0 0], .int .i64 E])) w') := show ∀ _, _ from fun w' h => ⟨rfl, h⟩
 generalize NoDisk E w = PE at HE ⊢
 have b1 : (E != 0) = true := by rw [bne_iff_ne]; exact hE0
 clear hh hn hm hE hE0
 obtain ⟨x0, x1, hxs⟩ := rowD hx; obtain ⟨r0, r1, hrs⟩ := rowD hr; obtain ⟨f0, f1⟩ := freeD2 hr
 go_enter Try.func16, Try.ntmps16
 generalize hQ0 : bodyPost Try.prog Try.f16 PE = Q0
 have HRET : Hid (∀ a w', bodyPost Try.prog Try.f16 PE .ret a w' → Q0 .ret a w') := show ∀ _ _, _ from fun a w' h => by rw [← hQ0]; exact h
 clear hQ0
 go_wp2_with (go_at_call 21; (with_reducible refine (cS _ hu).mono ?_); rintro e w3 ⟨rfl, hk⟩; clear x0 x1 hxs r0 r1 hrs f0 f1; replace hx := (hk.block (rowD hx).2.2).trans hx; replace hr := (hk.block (rowD hr).2.2).trans hr; replace hu := hu.call hk; clear hk; replace hx := heap_past (.cells #[.slice none 0 0, .slice none 0 0] 25) hx; replace hr := heap_past (.cells #[.slice none 0 0, .slice none 0 0] 25) hr; replace hu := hu.alloc (.cells #[.slice none 0 0, .slice none 0 0] 25); obtain ⟨x0, x1, hxs⟩ := rowD hx; obtain ⟨r0, r1, hrs⟩ := rowD hr; obtain ⟨f0, f1⟩ := freeD2 hr)
 have hr9 := setD2 hr (.slice none 0 0) (.slice none 0 0)
 have hu9 := hu.twoD (g := w.heap.size + 1) (by omega) (.slice none 0 0) (.slice none 0 0)
 exact HRET.out _ _ (end_dkE (p := 2) (q := 3) rfl rfl _ _ _ _ _ _ _ rfl rfl rfl hr9 rfl (HE.out _ hu9))
set_option maxHeartbeats 8000000 in
theorem undoRecover_seq (P Q : Option Addr) (cp cq : Nat) (l : List ByteArray) (m : List Wr) (w : World) (hh : HasD w P Q l m) (h0 : dkErr l m = 0) {E : Int} (hE0 : E ≠ 0) (t : ByteArray) (hS : ∀ u A c, LiesP u A (curP l m) → Calls Try.prog 14 #[.agg #[.slice A l.length c, .slice none 0 0]] u (Sq3 0 t E u)) : Calls Try.prog 16 #[.agg #[.slice P l.length cp, .slice Q m.length cq]] w (NoDisk E w) := by
 have hx := heap_past (.cells #[.slice none 0 0, .slice none 0 0] 25) (heap_new w (.cells #[.slice P l.length cp, .slice Q m.length cq] 25))
 have hr := heap_new (w.alloc (.cells #[.slice P l.length cp, .slice Q m.length cq] 25)) (.cells #[.slice none 0 0, .slice none 0 0] 25)
 rw [World.size_alloc] at hr
 have hu := ((Calm.refl w).alloc (.cells #[.slice P l.length cp, .slice Q m.length cq] 25)).alloc (.cells #[.slice none 0 0, .slice none 0 0] 25)
 have cS := fun u (hu : Calm w u) => (hh.calm hu).sync cp cq h0
 generalize curP l m = LS at hS cS
 have HE : Hid (∀ w', Calm w w' → NoDisk E w (.returned (.tuple #[.agg #[.slice none 0 0, .slice none 0 0], .int .i64 E])) w') := show ∀ _, _ from fun w' h => ⟨rfl, h⟩
 generalize NoDisk E w = PE at HE ⊢
 have b1 : (E != 0) = true := by rw [bne_iff_ne]; exact hE0
 clear hh h0 hE0
 obtain ⟨x0, x1, hxs⟩ := rowD hx; obtain ⟨r0, r1, hrs⟩ := rowD hr; obtain ⟨f0, f1⟩ := freeD2 hr
 go_enter Try.func16, Try.ntmps16
 generalize hQ0 : bodyPost Try.prog Try.f16 PE = Q0
 have HRET : Hid (∀ a w', bodyPost Try.prog Try.f16 PE .ret a w' → Q0 .ret a w') := show ∀ _ _, _ from fun a w' h => by rw [← hQ0]; exact h
 clear hQ0
 go_wp2_with (first
  |(go_at_call 21; (with_reducible refine (cS _ hu).mono ?_); rintro e w3 ⟨P6, cp6, rfl, ho6, hk⟩; clear x0 x1 hxs r0 r1 hrs f0 f1; replace hx := (hk.block (rowD hx).2.2).trans hx; replace hr := (hk.block (rowD hr).2.2).trans hr; replace hu := hu.call hk; clear hk; have HP := Lib.hid ((OwnP.at_ ho6).2.calm ((Calm.refl _).alloc (.cells #[.slice P6 l.length cp6, .slice none 0 0] 25))); clear ho6; replace hx := heap_past (.cells #[.slice P6 l.length cp6, .slice none 0 0] 25) hx; replace hr := heap_past (.cells #[.slice P6 l.length cp6, .slice none 0 0] 25) hr; replace hu := hu.alloc (.cells #[.slice P6 l.length cp6, .slice none 0 0] 25); have hy := heap_new w3 (.cells #[.slice P6 l.length cp6, .slice none 0 0] 25); obtain ⟨x0, x1, hxs⟩ := rowD hx; obtain ⟨r0, r1, hrs⟩ := rowD hr; obtain ⟨f0, f1⟩ := freeD2 hr; obtain ⟨y0, y1, hys⟩ := rowD hy)
  |(go_at_call 14; (with_reducible refine (hS _ _ _ HP.out).mono ?_); rintro e w5 ⟨rfl, hk⟩; clear y0 y1 hys hy HP; clear x0 x1 hxs r0 r1 hrs f0 f1; replace hx := (hk.block (rowD hx).2.2).trans hx; replace hr := (hk.block (rowD hr).2.2).trans hr; replace hu := hu.call hk; clear hk; obtain ⟨x0, x1, hxs⟩ := rowD hx; obtain ⟨r0, r1, hrs⟩ := rowD hr; obtain ⟨f0, f1⟩ := freeD2 hr))
 have hr9 := setD2 hr (.slice none 0 0) (.slice none 0 0)
 have hu9 := hu.twoD (g := w.heap.size + 1) (by omega) (.slice none 0 0) (.slice none 0 0)
 exact HRET.out _ _ (end_dkE (p := 2) (q := 3) rfl rfl _ _ _ _ _ _ _ rfl rfl rfl hr9 rfl (HE.out _ hu9))
set_option maxHeartbeats 8000000 in
theorem recovered_bad (P Q : Option Addr) (cp cq : Nat) (l : List ByteArray) (m : List Wr) (w : World) {E : Int} (hE0 : E ≠ 0) (t : ByteArray) (hS : ∀ u, Calm w u → Calls Try.prog 15 #[.agg #[.slice P l.length cp, .slice Q m.length cq]] u (Sq3 0 t E u)) : Calls Try.prog 17 #[.agg #[.slice P l.length cp, .slice Q m.length cq]] w (NoDisk E w) := by
 have hx := heap_past (.cells #[.slice none 0 0, .slice none 0 0] 25) (heap_new w (.cells #[.slice P l.length cp, .slice Q m.length cq] 25))
 have hr := heap_new (w.alloc (.cells #[.slice P l.length cp, .slice Q m.length cq] 25)) (.cells #[.slice none 0 0, .slice none 0 0] 25)
 rw [World.size_alloc] at hr
 have hu := ((Calm.refl w).alloc (.cells #[.slice P l.length cp, .slice Q m.length cq] 25)).alloc (.cells #[.slice none 0 0, .slice none 0 0] 25)
 have HE : Hid (∀ w', Calm w w' → NoDisk E w (.returned (.tuple #[.agg #[.slice none 0 0, .slice none 0 0], .int .i64 E])) w') := show ∀ _, _ from fun w' h => ⟨rfl, h⟩
 generalize NoDisk E w = PE at HE ⊢
 have b1 : (E != 0) = true := by rw [bne_iff_ne]; exact hE0
 clear hE0
 obtain ⟨x0, x1, hxs⟩ := rowD hx; obtain ⟨r0, r1, hrs⟩ := rowD hr; obtain ⟨f0, f1⟩ := freeD2 hr
 go_enter Try.func17, Try.ntmps17
 generalize hQ0 : bodyPost Try.prog Try.f17 PE = Q0
 have HRET : Hid (∀ a w', bodyPost Try.prog Try.f17 PE .ret a w' → Q0 .ret a w') := show ∀ _ _, _ from fun a w' h => by rw [← hQ0]; exact h
 clear hQ0
 go_wp2_with (go_at_call 15; (with_reducible refine (hS _ hu).mono ?_); rintro e w3 ⟨rfl, hk⟩; clear x0 x1 hxs r0 r1 hrs f0 f1; replace hx := (hk.block (rowD hx).2.2).trans hx; replace hr := (hk.block (rowD hr).2.2).trans hr; replace hu := hu.call hk; clear hk; obtain ⟨x0, x1, hxs⟩ := rowD hx; obtain ⟨r0, r1, hrs⟩ := rowD hr; obtain ⟨f0, f1⟩ := freeD2 hr)
 have hr9 := setD2 hr (.slice none 0 0) (.slice none 0 0)
 have hu9 := hu.twoD (g := w.heap.size + 1) (by omega) (.slice none 0 0) (.slice none 0 0)
 exact HRET.out _ _ (end_dkE (p := 2) (q := 3) rfl rfl _ _ _ _ _ _ _ rfl rfl rfl hr9 rfl (HE.out _ hu9))
open Go.RowKit
set_option maxHeartbeats 8000000 in
theorem recovered_ok (P Q : Option Addr) (cp cq : Nat) (l : List ByteArray) (m : List Wr) (w : World) (hh : HasD w P Q l m) (h0 : dkErr l m = 0) (hl : l.length = 201) (q : Nat) (hq : q ≤ 2147483647) (t : ByteArray) (hS : ∀ u, Calm w u → Calls Try.prog 15 #[.agg #[.slice P l.length cp, .slice Q m.length cq]] u (Sq3 (q : Int) t 0 u)) : Calls Try.prog 17 #[.agg #[.slice P l.length cp, .slice Q m.length cq]] w (RecEnd l.length (rvAll q (curP l m) 100) w) := by
 have hx := heap_past (.cells #[.slice none 0 0, .slice none 0 0] 25) (heap_new w (.cells #[.slice P l.length cp, .slice Q m.length cq] 25))
 have hr := heap_new (w.alloc (.cells #[.slice P l.length cp, .slice Q m.length cq] 25)) (.cells #[.slice none 0 0, .slice none 0 0] 25)
 rw [World.size_alloc] at hr
 have hu := ((Calm.refl w).alloc (.cells #[.slice P l.length cp, .slice Q m.length cq] 25)).alloc (.cells #[.slice none 0 0, .slice none 0 0] 25)
 have cS := fun u (hu : Calm w u) => synced_any P Q cp cq l m u (hh.calm hu).p (hh.calm hu).q h0
 have hLl : (curP l m).length = l.length := doneL_len _ _ _ _
 unfold DoneEnd at cS
 unfold curP at hLl ⊢
 generalize doneL (fun _ => true) 0 m l = LS at cS hLl ⊢
 have HE : Hid (∀ w' A c, LiesP w' A (rvAll q LS 100) → Calm w w' → RecEnd l.length (rvAll q LS 100) w (.returned (.tuple #[.agg #[.slice A l.length c, .slice none 0 0], .int .i64 0])) w') := show ∀ _, _ from fun w' A c h1 h2 => ⟨A, c, rfl, h1, h2⟩
 generalize RecEnd l.length (rvAll q LS 100) w = PE at HE ⊢
 obtain ⟨n, hn⟩ : ∃ n, n = l.length := ⟨_, rfl⟩
 rw [← hn] at hx hr hu cS hS HE hLl ⊢
 have HN := Lib.hid (show n = 201 by omega)
 have hq' : (q : Int) ≤ 2147483647 := by omega
 clear hh h0 hl hn
 obtain ⟨x0, x1, hxs⟩ := rowD hx
 obtain ⟨r0, r1, hrs⟩ := rowD hr
 go_enter Try.func17, Try.ntmps17
 generalize hQ0 : bodyPost Try.prog Try.f17 PE = Q0
 have HRET : Hid (∀ a w', bodyPost Try.prog Try.f17 PE .ret a w' → Q0 .ret a w') := show ∀ _ _, _ from fun a w' h => by rw [← hQ0]; exact h
 clear hQ0
 go_upto_region 5 with (first
  |(go_at_call 15; (with_reducible refine (hS _ hu).mono ?_); rintro e w2 ⟨rfl, hk⟩; clear x0 x1 hxs r0 r1 hrs; replace hx := (hk.block (rowD hx).2.2).trans hx; replace hr := (hk.block (rowD hr).2.2).trans hr; replace hu := hu.call hk; clear hk; obtain ⟨x0, x1, hxs⟩ := rowD hx; obtain ⟨r0, r1, hrs⟩ := rowD hr; have hw2 := hrs)
  |(go_at_call 59; (with_reducible refine (cS _ hu).mono ?_); rintro e w3 ⟨P6, cp6, rfl, ho6, hk⟩; clear x0 x1 hxs r0 r1 hrs; replace hx := (hk.block (rowD hx).2.2).trans hx; replace hr := (hk.block (rowD hr).2.2).trans hr; replace hu := hu.call hk; clear hk))
 replace ho6 := OwnG.weaken (base' := w.heap.size + 1 + 1) ho6 hw2
 obtain ⟨g, cap, hA⟩ := OwnG.some_ ho6 (by have := HN.out; omega)
 obtain rfl : P6 = some ⟨g, 0, none⟩ := by injection hA
 clear hA cap hx hw2 hS cS
 have hg1 := (OwnG.lt ho6 g rfl).1
 have hg2 := (OwnG.lt ho6 g rfl).2
 replace hr := heap_past (.cells #[.slice (some ⟨g, 0, none⟩) n cp6, .slice none 0 0] 25) hr
 have h4 := heap_new w3 (.cells #[.slice (some ⟨g, 0, none⟩) n cp6, .slice none 0 0] 25)
 replace hu := hu.alloc (.cells #[.slice (some ⟨g, 0, none⟩) n cp6, .slice none 0 0] 25)
 have HO := Lib.hid (OwnP.calm ho6 ((Calm.refl _).alloc (.cells #[.slice (some ⟨g, 0, none⟩) n cp6, .slice none 0 0] 25)))
 have hg3 : w3.heap.size ≠ g := by omega
 generalize w3.heap.size = g4 at h4 hg2 hg3 ⊢
 generalize w3.alloc (.cells #[.slice (some ⟨g, 0, none⟩) n cp6, .slice none 0 0] 25) = w4 at hr h4 hu HO ⊢
 clear ho6
 go_wp2_with fail
 go_loopw [8] (fun i wr => ∃ j : Nat, 101 ≤ j ∧ j ≤ 201 ∧ i = .int .i64 j ∧ Calm w wr ∧ Hid (OwnP (w.heap.size + 1 + 1) wr (.slice (some ⟨g, 0, none⟩) n cp6) (rvAll q LS (j - 101))) ∧ wr.heap[w.heap.size + 1]? = some (.cells #[.slice none 0 0, .slice none 0 0] 25 (0, 0)) ∧ wr.heap[g4]? = some (.cells #[.slice (some ⟨g, 0, none⟩) n cp6, .slice none 0 0] 25 (0, 0))) (fun i _ => 201 - (intOf i).toNat)
 case atStart => exact ⟨101, by omega, by omega, rfl, hu, HO, hr, h4⟩
 case round =>
  obtain ⟨j, hj1, hj2, rfl, hv, HOk, hr, h4⟩ := hrel
  by_cases hlt : j < 201
  rotate_left
  ·obtain rfl : j = 201 := by omega
   obtain ⟨y0, y1, hys⟩ := rowD h4
   obtain ⟨r0, r1, hrs⟩ := rowD hr
   obtain ⟨f0, f1⟩ := freeD2 hr
   have HO8 := HOk
   clear HOk
   go_wp2_with fail
   have hr9 := setD2 hr (.slice (some ⟨g, 0, none⟩) n cp6) (.slice none 0 0)
   have hu9 := hv.twoD (g := w.heap.size + 1) (by omega) (.slice (some ⟨g, 0, none⟩) n cp6) (.slice none 0 0)
   have ho9 := rowsG_set (rowsG_set HO8.out (Nat.lt_succ_self _) 0 (.slice (some ⟨g, 0, none⟩) n cp6)) (Nat.lt_succ_self _) 1 (.slice none 0 0)
   exact HRET.out _ _ (end_dkE (p := 2) (q := 3) rfl rfl _ _ _ _ _ _ _ rfl rfl rfl hr9 rfl (HE.out _ _ cp6 (OwnP.at_ ho9).2 hu9))
  have hjl : j < (rvAll q LS (j - 101)).length := by rw [rvAll_len, hLl, HN.out]; exact hlt
  have hll : (rvAll q LS (j - 101)).length = n := by rw [rvAll_len, hLl]
  obtain ⟨T, hT⟩ : ∃ T, T = (rvAll q LS (j - 101)).getD j { data := #[] } := ⟨_, rfl⟩
  have hg : (rvAll q LS (j - 101))[j]? = some T := by rw [hT, List.getD_eq_getElem?_getD, List.getElem?_eq_getElem hjl]; rfl
  have HX := Lib.hid (rvAll_next q LS hj1)
  rw [← hT] at HX
  clear hT
  generalize rvAll q LS (j - 101) = L at HOk hjl hll hg HX
  have c0 := rv_cell HOk.out hg
  have hj3 : (j : Int) ≤ 200 := by omega
  have hjn : (j : Int) < (n : Int) := by have := HN.out; omega
  have hrs := (rowD hr).2.2
  obtain ⟨y0, y1, hys⟩ := rowD h4
  have cU := fun u => unframe_any T u
  unfold FGetEnd at cU
  generalize hG : gN T.data.toList = G at cU
  clear hG hg hlt
  by_cases h1 : unErr T.data.toList = 0
  rotate_left
  ·have b1 : (unErr T.data.toList == 0) = false := by rw [beq_eq_false_iff_ne]; exact h1
   have HL := Lib.hid (HX.out.trans (rvL_no fun h => h1 h.1.1))
   generalize gB T.data.toList = D at cU
   generalize gK T.data.toList = K at cU
   clear h1 HX
   generalize unErr T.data.toList = E at cU b1
   go_wp2_with (go_at_call 58; (with_reducible refine (cU _).mono ?_); rintro e w6 ⟨rfl, hk⟩; clear c0 y0 y1; have hs6 := hk.size; replace h4 := (hk.block hys).trans h4; clear hys; replace hk := hk.alloc (.cells #[.int .i64 K, .string D] 87); replace h4 := heap_past (.cells #[.int .i64 K, .string D] 87) h4; have hz := heap_new w6 (.cells #[.int .i64 K, .string D] 87); obtain ⟨y0, y1, hys⟩ := rowD h4; obtain ⟨z0, z1, hzs⟩ := row2 hz)
   go_roundw
   case rel => exact ⟨j + 1, by omega, by omega, by go_num, hv.call hk, by rw [HL.out]; exact HOk.out.calm hk, (hk.block hrs).trans hr, h4⟩
   case measure => simp [intOf]; omega
  rw [h1] at cU
  by_cases h2 : gK T.data.toList = 9
  rotate_left
  ·have b1 : (gK T.data.toList == 9) = false := by rw [beq_eq_false_iff_ne]; exact h2
   have HL := Lib.hid (HX.out.trans (rvL_no fun h => h2 h.1.2.1))
   generalize gB T.data.toList = D at cU
   clear h2 HX h1
   generalize gK T.data.toList = K at cU b1
   go_wp2_with (go_at_call 58; (with_reducible refine (cU _).mono ?_); rintro e w6 ⟨rfl, hk⟩; clear c0 y0 y1; have hs6 := hk.size; replace h4 := (hk.block hys).trans h4; clear hys; replace hk := hk.alloc (.cells #[.int .i64 K, .string D] 87); replace h4 := heap_past (.cells #[.int .i64 K, .string D] 87) h4; have hz := heap_new w6 (.cells #[.int .i64 K, .string D] 87); obtain ⟨y0, y1, hys⟩ := rowD h4; obtain ⟨z0, z1, hzs⟩ := row2 hz)
   go_roundw
   case rel => exact ⟨j + 1, by omega, by omega, by go_num, hv.call hk, by rw [HL.out]; exact HOk.out.calm hk, (hk.block hrs).trans hr, h4⟩
   case measure => simp [intOf]; omega
  rw [h2] at cU
  by_cases h3 : 8 ≤ (gB T.data.toList).size
  rotate_left
  ·have HL := Lib.hid (HX.out.trans (rvL_no fun h => h3 (by have := h.1.2.2; omega)))
   clear HX h1 h2
   generalize gB T.data.toList = D at cU h3
   have h3' : (D.size : Int) < 8 := by omega
   clear h3
   go_wp2_with (go_at_call 58; (with_reducible refine (cU _).mono ?_); rintro e w6 ⟨rfl, hk⟩; clear c0 y0 y1; have hs6 := hk.size; replace h4 := (hk.block hys).trans h4; clear hys; replace hk := hk.alloc (.cells #[.int .i64 9, .string D] 87); replace h4 := heap_past (.cells #[.int .i64 9, .string D] 87) h4; have hz := heap_new w6 (.cells #[.int .i64 9, .string D] 87); obtain ⟨y0, y1, hys⟩ := rowD h4; obtain ⟨z0, z1, hzs⟩ := row2 hz)
   go_roundw
   case rel => exact ⟨j + 1, by omega, by omega, by go_num, hv.call hk, by rw [HL.out]; exact HOk.out.calm hk, (hk.block hrs).trans hr, h4⟩
   case measure => simp [intOf]; omega
  have hb : bdOk T.data.toList 9 2 := ⟨h1, h2, by omega⟩
  clear h1 h2
  have cD := fun u => calls_calm (refBig_any ((gB T.data.toList).extract 0 4) u (by rw [ByteArray.size_extract]; omega))
  rw [show ((gB T.data.toList).extract 0 4).data.toList = (gB T.data.toList).data.toList.take 4 from by rw [part_extract]; unfold part; rw [List.drop_zero]] at cD
  have cE := fun u => calls_calm (refBig_any ((gB T.data.toList).extract 4 8) u (by rw [ByteArray.size_extract]; omega))
  rw [part_extract, show num (part (gB T.data.toList).data.toList 4 (8 - 4)) = rvP T from rfl] at cE
  by_cases hgt : q < num ((gB T.data.toList).data.toList.take 4)
  rotate_left
  ·have HL := Lib.hid (HX.out.trans (rvL_no fun h => hgt h.2))
   clear HX hb cE
   generalize gB T.data.toList = D at cU cD h3 hgt
   generalize num (D.data.toList.take 4) = H at cD hgt
   have h3' : (8 : Int) ≤ (D.size : Int) := by omega
   have hgt' : (H : Int) ≤ (q : Int) := by omega
   clear h3 hgt
   go_wp2_with (first
    |(go_at_call 58; (with_reducible refine (cU _).mono ?_); rintro e w6 ⟨rfl, hk⟩; clear c0 y0 y1; have hs6 := hk.size; replace h4 := (hk.block hys).trans h4; clear hys; replace hk := hk.alloc (.cells #[.int .i64 9, .string D] 87); replace h4 := heap_past (.cells #[.int .i64 9, .string D] 87) h4; have hz := heap_new w6 (.cells #[.int .i64 9, .string D] 87); obtain ⟨y0, y1, hys⟩ := rowD h4; obtain ⟨z0, z1, hzs⟩ := row2 hz)
    |(go_at_call 60; (with_reducible refine (cD _).mono ?_); rintro e w7 ⟨rfl, hk2⟩; replace h4 := (hk2.block hys).trans h4; replace hz := (hk2.block hzs).trans hz; replace hk := hk.call hk2; clear hk2 y0 y1 hys z0 z1 hzs; obtain ⟨y0, y1, hys⟩ := rowD h4; obtain ⟨z0, z1, hzs⟩ := row2 hz))
   go_roundw
   case rel => exact ⟨j + 1, by omega, by omega, by go_num, hv.call hk, by rw [HL.out]; exact HOk.out.calm hk, (hk.block hrs).trans hr, h4⟩
   case measure => simp [intOf]; omega
  have hO := show rvOk T q from ⟨hb, hgt⟩
  by_cases hIs : rvIs T q
  ·have HL := Lib.hid (HX.out.trans (rvL_two hO hIs))
   obtain ⟨i1, i2, i3⟩ := hIs
   unfold rvT at HL
   clear HX hb hO
   generalize rvP T = p at cE HL i2 i3
   generalize gB T.data.toList = D at cU cD cE h3 hgt HL i1
   generalize num (D.data.toList.take 4) = H at cD hgt i1
   have h3' : (8 : Int) ≤ (D.size : Int) := by omega
   have hgt' : (q : Int) < (H : Int) := by omega
   have e1 : ((H : Int) == (q : Int) + 1) = true := by rw [beq_iff_eq]; omega
   have i2' : (1 : Int) ≤ (p : Int) := by omega
   have i3' : (p : Int) ≤ 100 := by omega
   have hpn : (p : Int) < (n : Int) := by omega
   have hpl : p < L.length := by omega
   have hpj : p ≠ j := by omega
   clear h3 hgt i1 i2 i3
   go_upto_region 12 with (first
    |(go_at_call 58; (with_reducible refine (cU _).mono ?_); rintro e w6 ⟨rfl, hk⟩; clear c0 y0 y1; have hs6 := hk.size; replace h4 := (hk.block hys).trans h4; clear hys; replace hk := hk.alloc (.cells #[.int .i64 9, .string D] 87); replace h4 := heap_past (.cells #[.int .i64 9, .string D] 87) h4; have hz := heap_new w6 (.cells #[.int .i64 9, .string D] 87); obtain ⟨y0, y1, hys⟩ := rowD h4; obtain ⟨z0, z1, hzs⟩ := row2 hz)
    |(go_at_call 60; (first | (with_reducible refine (cD _).mono ?_) | (with_reducible refine (cE _).mono ?_)); rintro e w7 ⟨rfl, hk2⟩; replace h4 := (hk2.block hys).trans h4; replace hz := (hk2.block hzs).trans hz; replace hk := hk.call hk2; clear hk2 y0 y1 hys z0 z1 hzs; obtain ⟨y0, y1, hys⟩ := rowD h4; obtain ⟨z0, z1, hzs⟩ := row2 hz))
   have hgw := (OwnG.lt HOk.out g rfl).2
   have hk0 := hk
   clear hk
   generalize w6.heap.size = g9 at hz z0 z1 hzs ⊢
   refine wp_region_plan_tail 7 [.val (.pointer (some ⟨g4, 0, none⟩)), .val (.slice (some ⟨g, 0, none⟩) n cp6), .val (.int .i64 (p)), .val (.pointer (some ⟨g9, 1, none⟩)), .val (.string D), .val (.string (D.extract 8 D.size)), .val (.pointer (some ⟨g, p, none⟩))] (by kernel_rfl) (by kernel_rfl) (by kernel_rfl) (by kernel_rfl) ?_
   intro X
   simp only [List.take_succ_cons, List.take_zero, List.drop_succ_cons, List.drop_zero]
   iterate 7
    refine plan_val (by kernel_rfl) (fun u hu => ?_) ?_
    ·obtain ⟨hc, hf, hz⟩ := hu.of_drew.facts
     go_simp
     all_goals first
      |(fail)
    simp only [Act.put, List.setIfInBounds_toArray, List.set_cons_zero, List.set_cons_succ, Nat.reduceAdd]
   refine plan_end ?_
   intro w' hB
   have hk := hB.calm.of_drew
   clear hB
   have hk1 := hk0.call hk
   replace h4 := (hk.block hys).trans h4
   have HO7 := Lib.hid (HOk.out.calm hk1)
   have c7 := rv_cell HO7.out (List.getElem?_eq_getElem hpl)
   have f7 := OwnG.frozen HO7.out p
   clear y0 y1 hys z0 z1 hzs hz hk hk0
   go_upto_region 13 with fail
   have HO8 := Lib.hid (rv_set HO7.out hpl (D.extract 8 D.size))
   have hv8 := (hv.call hk1).setCell (p := ⟨g, p, none⟩) (show w.heap.size ≤ g by omega) (.string (D.extract 8 D.size))
   have hr8 := (heap_setCell_other w' ⟨g, p, none⟩ (w.heap.size + 1) (.string (D.extract 8 D.size)) (by show w.heap.size + 1 ≠ g; omega)).trans ((hk1.block hrs).trans hr)
   have h48 := (heap_setCell_other w' ⟨g, p, none⟩ g4 (.string (D.extract 8 D.size)) hg3).trans h4
   clear c7 f7 HO7 h4 hr hk1 hrs
   generalize w'.setCell ⟨g, p, none⟩ (.string (D.extract 8 D.size)) = w8 at HO8 hv8 hr8 h48 ⊢
   obtain ⟨y0, y1, hys⟩ := rowD h48
   have hjl2 : j < (L.set p (D.extract 8 D.size)).length := by rw [List.length_set]; exact hjl
   have c8 := rv_cell HO8.out (List.getElem?_eq_getElem hjl2)
   have f8 := OwnG.frozen HO8.out j
   go_wp2_with fail
   go_roundw
   case rel => exact ⟨j + 1, by omega, by omega, by go_num, hv8.setCell (p := ⟨g, j, none⟩) (show w.heap.size ≤ g by omega) _, by rw [HL.out, List.set_comm _ _ (Ne.symm hpj)]; exact rv_set HO8.out hjl2 _, (heap_setCell_other _ _ _ _ (by show w.heap.size + 1 ≠ g; omega)).trans hr8, (heap_setCell_other _ _ _ _ hg3).trans h48⟩
   case measure => simp [intOf]; omega
  ·have HL := Lib.hid (HX.out.trans (rvL_one hO hIs))
   unfold rvIs at hIs
   clear HX hb hO
   generalize rvP T = p at cE hIs
   generalize gB T.data.toList = D at cU cD cE h3 hgt hIs
   generalize num (D.data.toList.take 4) = H at cD hgt hIs
   have h3' : (8 : Int) ≤ (D.size : Int) := by omega
   have hgt' : (q : Int) < (H : Int) := by omega
   clear h3 hgt
   by_cases e0 : H = q + 1
   rotate_left
   ·have e1 : ((H : Int) == (q : Int) + 1) = false := by rw [beq_eq_false_iff_ne]; omega
    clear e0 hIs
    go_upto_region 13 with (first
     |(go_at_call 58; (with_reducible refine (cU _).mono ?_); rintro e w6 ⟨rfl, hk⟩; clear c0 y0 y1; have hs6 := hk.size; replace h4 := (hk.block hys).trans h4; clear hys; replace hk := hk.alloc (.cells #[.int .i64 9, .string D] 87); replace h4 := heap_past (.cells #[.int .i64 9, .string D] 87) h4; have hz := heap_new w6 (.cells #[.int .i64 9, .string D] 87); obtain ⟨y0, y1, hys⟩ := rowD h4; obtain ⟨z0, z1, hzs⟩ := row2 hz)
     |(go_at_call 60; (first | (with_reducible refine (cD _).mono ?_) | (with_reducible refine (cE _).mono ?_)); rintro e w7 ⟨rfl, hk2⟩; replace h4 := (hk2.block hys).trans h4; replace hz := (hk2.block hzs).trans hz; replace hk := hk.call hk2; clear hk2 y0 y1 hys z0 z1 hzs; obtain ⟨y0, y1, hys⟩ := rowD h4; obtain ⟨z0, z1, hzs⟩ := row2 hz))
    have HO7 := Lib.hid (HOk.out.calm hk)
    have c7 := rv_cell HO7.out (List.getElem?_eq_getElem hjl)
    have f7 := OwnG.frozen HO7.out j
    go_wp2_with fail
    go_roundw
    case rel => exact ⟨j + 1, by omega, by omega, by go_num, (hv.call hk).setCell (p := ⟨g, j, none⟩) (show w.heap.size ≤ g by omega) _, by rw [HL.out]; exact rv_set HO7.out hjl _, (heap_setCell_other _ _ _ _ (by show w.heap.size + 1 ≠ g; omega)).trans ((hk.block hrs).trans hr), (heap_setCell_other _ _ _ _ hg3).trans h4⟩
    case measure => simp [intOf]; omega
   have e1 : ((H : Int) == (q : Int) + 1) = true := by rw [beq_iff_eq]; omega
   by_cases p1 : 1 ≤ p
   rotate_left
   ·have p2 : (p : Int) < 1 := by omega
    clear e0 hIs p1
    go_upto_region 13 with (first
     |(go_at_call 58; (with_reducible refine (cU _).mono ?_); rintro e w6 ⟨rfl, hk⟩; clear c0 y0 y1; have hs6 := hk.size; replace h4 := (hk.block hys).trans h4; clear hys; replace hk := hk.alloc (.cells #[.int .i64 9, .string D] 87); replace h4 := heap_past (.cells #[.int .i64 9, .string D] 87) h4; have hz := heap_new w6 (.cells #[.int .i64 9, .string D] 87); obtain ⟨y0, y1, hys⟩ := rowD h4; obtain ⟨z0, z1, hzs⟩ := row2 hz)
     |(go_at_call 60; (first | (with_reducible refine (cD _).mono ?_) | (with_reducible refine (cE _).mono ?_)); rintro e w7 ⟨rfl, hk2⟩; replace h4 := (hk2.block hys).trans h4; replace hz := (hk2.block hzs).trans hz; replace hk := hk.call hk2; clear hk2 y0 y1 hys z0 z1 hzs; obtain ⟨y0, y1, hys⟩ := rowD h4; obtain ⟨z0, z1, hzs⟩ := row2 hz))
    have HO7 := Lib.hid (HOk.out.calm hk)
    have c7 := rv_cell HO7.out (List.getElem?_eq_getElem hjl)
    have f7 := OwnG.frozen HO7.out j
    go_wp2_with fail
    go_roundw
    case rel => exact ⟨j + 1, by omega, by omega, by go_num, (hv.call hk).setCell (p := ⟨g, j, none⟩) (show w.heap.size ≤ g by omega) _, by rw [HL.out]; exact rv_set HO7.out hjl _, (heap_setCell_other _ _ _ _ (by show w.heap.size + 1 ≠ g; omega)).trans ((hk.block hrs).trans hr), (heap_setCell_other _ _ _ _ hg3).trans h4⟩
    case measure => simp [intOf]; omega
   ·have p2 : (1 : Int) ≤ (p : Int) := by omega
    have p3 : (100 : Int) < (p : Int) := by omega
    clear e0 hIs p1
    go_upto_region 13 with (first
     |(go_at_call 58; (with_reducible refine (cU _).mono ?_); rintro e w6 ⟨rfl, hk⟩; clear c0 y0 y1; have hs6 := hk.size; replace h4 := (hk.block hys).trans h4; clear hys; replace hk := hk.alloc (.cells #[.int .i64 9, .string D] 87); replace h4 := heap_past (.cells #[.int .i64 9, .string D] 87) h4; have hz := heap_new w6 (.cells #[.int .i64 9, .string D] 87); obtain ⟨y0, y1, hys⟩ := rowD h4; obtain ⟨z0, z1, hzs⟩ := row2 hz)
     |(go_at_call 60; (first | (with_reducible refine (cD _).mono ?_) | (with_reducible refine (cE _).mono ?_)); rintro e w7 ⟨rfl, hk2⟩; replace h4 := (hk2.block hys).trans h4; replace hz := (hk2.block hzs).trans hz; replace hk := hk.call hk2; clear hk2 y0 y1 hys z0 z1 hzs; obtain ⟨y0, y1, hys⟩ := rowD h4; obtain ⟨z0, z1, hzs⟩ := row2 hz))
    have HO7 := Lib.hid (HOk.out.calm hk)
    have c7 := rv_cell HO7.out (List.getElem?_eq_getElem hjl)
    have f7 := OwnG.frozen HO7.out j
    go_wp2_with fail
    go_roundw
    case rel => exact ⟨j + 1, by omega, by omega, by go_num, (hv.call hk).setCell (p := ⟨g, j, none⟩) (show w.heap.size ≤ g by omega) _, by rw [HL.out]; exact rv_set HO7.out hjl _, (heap_setCell_other _ _ _ _ (by show w.heap.size + 1 ≠ g; omega)).trans ((hk.block hrs).trans hr), (heap_setCell_other _ _ _ _ hg3).trans h4⟩
    case measure => simp [intOf]; omega
open Go.RowKit
theorem ur_bad (P Q : Option Addr) (cp cq : Nat) (l : List ByteArray) (m : List Wr) (w : World) (E : Int) (cU : ∀ u, Calm w u → Calls Try.prog 16 #[.agg #[.slice P l.length cp, .slice Q m.length cq]] u (NoDisk E u)) (cR : ∀ u, Calm w u → Calls Try.prog 17 #[.agg #[.slice P l.length cp, .slice Q m.length cq]] u (NoDisk E u)) :
    Calls Try.prog 4 #[.agg #[.slice P l.length cp, .slice Q m.length cq]] w fun e w' => e = .returned (.bool true) ∧ Calm w w' := by
  unfold NoDisk at cU cR
  have hu := (Calm.refl w).alloc (.cells #[.slice P l.length cp, .slice Q m.length cq] 25)
  have hx := heap_new w (.cells #[.slice P l.length cp, .slice Q m.length cq] 25)
  obtain ⟨x0, x1, hxs⟩ := rowD hx
  go_enter Try.func4, Try.ntmps4
  go_wp2_with (first
    | (go_at_call 16; (with_reducible refine (cU _ hu).mono ?_); rintro e w1 ⟨rfl, hk⟩; replace hx := heap_past (.cells #[.slice none 0 0, .slice none 0 0] 25) ((hk.block hxs).trans hx); have hy := heap_new w1 (.cells #[.slice none 0 0, .slice none 0 0] 25); replace hu := (hu.call hk).alloc (.cells #[.slice none 0 0, .slice none 0 0] 25); clear hk x0 x1 hxs; obtain ⟨x0, x1, hxs⟩ := rowD hx; obtain ⟨y0, y1, hys⟩ := rowD hy)
    | (go_at_call 17; (with_reducible refine (cR _ hu).mono ?_); rintro e w2 ⟨rfl, hk⟩; replace hy := heap_past (.cells #[.slice none 0 0, .slice none 0 0] 25) ((hk.block hys).trans hy); have hz := heap_new w2 (.cells #[.slice none 0 0, .slice none 0 0] 25); replace hu := (hu.call hk).alloc (.cells #[.slice none 0 0, .slice none 0 0] 25); clear hk x0 x1 hxs y0 y1 hys; obtain ⟨y0, y1, hys⟩ := rowD hy; obtain ⟨z0, z1, hzs⟩ := rowD hz)
    | (go_at_call 18; (with_reducible refine (sameDisk_zero _).mono ?_); rintro e w3 ⟨rfl, hk⟩; replace hu := hu.call hk; clear hk))
  go_ret
  exact ⟨rfl, hu⟩
theorem ur_same {u : World} {P P' : Option Addr} {n cp cp' : Nat} {L : List ByteArray} (hP : LiesP u P L) (hP' : LiesP u P' L) (hn : L.length = n) (hl : n ≤ 9223372036854775807) : Calls Try.prog 18 #[.agg #[.slice P n cp, .slice none 0 0], .agg #[.slice P' n cp', .slice none 0 0]] u fun e w' => e = .returned (.bool true) ∧ Calm u w' := by
 subst hn
 exact sameDisk_self P none P' none cp 0 cp' 0 L [] u hP LiesG.nil_ hP' LiesG.nil_ hl (by simp)
theorem ur_ok (P Q : Option Addr) (cp cq : Nat) (l : List ByteArray) (m : List Wr) (w : World) (L : List ByteArray) (n : Nat) (hL : L.length = n) (hl : n ≤ 9223372036854775807) (cU : ∀ u, Calm w u → Calls Try.prog 16 #[.agg #[.slice P l.length cp, .slice Q m.length cq]] u (RecEnd n L u)) (cR : ∀ u, Calm w u → Calls Try.prog 17 #[.agg #[.slice P l.length cp, .slice Q m.length cq]] u (RecEnd n L u)) :
    Calls Try.prog 4 #[.agg #[.slice P l.length cp, .slice Q m.length cq]] w fun e w' => e = .returned (.bool true) ∧ Calm w w' := by
  unfold RecEnd at cU cR
  have hu := (Calm.refl w).alloc (.cells #[.slice P l.length cp, .slice Q m.length cq] 25)
  have hx := heap_new w (.cells #[.slice P l.length cp, .slice Q m.length cq] 25)
  have cS := fun u A1 A2 c1 c2 (h1 : LiesP u A1 L) (h2 : LiesP u A2 L) => ur_same (cp := c1) (cp' := c2) h1 h2 hL hl
  clear hL hl
  obtain ⟨x0, x1, hxs⟩ := rowD hx
  go_enter Try.func4, Try.ntmps4
  go_wp2_with (first
    | (go_at_call 16; (with_reducible refine (cU _ hu).mono ?_); rintro e w1 ⟨A1, c1, rfl, h1, hk⟩; have H1 := Lib.hid (h1.calm ((Calm.refl _).alloc (.cells #[.slice A1 n c1, .slice none 0 0] 25))); replace hx := heap_past (.cells #[.slice A1 n c1, .slice none 0 0] 25) ((hk.block hxs).trans hx); have hy := heap_new w1 (.cells #[.slice A1 n c1, .slice none 0 0] 25); replace hu := (hu.call hk).alloc (.cells #[.slice A1 n c1, .slice none 0 0] 25); clear hk x0 x1 hxs h1; obtain ⟨x0, x1, hxs⟩ := rowD hx; obtain ⟨y0, y1, hys⟩ := rowD hy)
    | (go_at_call 17; (with_reducible refine (cR _ hu).mono ?_); rintro e w2 ⟨A2, c2, rfl, h2, hk⟩; replace H1 := Lib.hid ((H1.out.calm hk).calm ((Calm.refl _).alloc (.cells #[.slice A2 n c2, .slice none 0 0] 25))); have H2 := Lib.hid (h2.calm ((Calm.refl _).alloc (.cells #[.slice A2 n c2, .slice none 0 0] 25))); replace hy := heap_past (.cells #[.slice A2 n c2, .slice none 0 0] 25) ((hk.block hys).trans hy); have hz := heap_new w2 (.cells #[.slice A2 n c2, .slice none 0 0] 25); replace hu := (hu.call hk).alloc (.cells #[.slice A2 n c2, .slice none 0 0] 25); clear hk h2 x0 x1 hxs y0 y1 hys; obtain ⟨y0, y1, hys⟩ := rowD hy; obtain ⟨z0, z1, hzs⟩ := rowD hz)
    | (go_at_call 18; (with_reducible refine (cS _ _ _ _ _ H1.out H2.out).mono ?_); rintro e w3 ⟨rfl, hk⟩; replace hu := hu.call hk; clear hk))
  go_ret
  exact ⟨rfl, hu⟩
theorem undoRecovers_walk (P Q : Option Addr) (cp cq : Nat) (l : List ByteArray) (m : List Wr) (w : World) (hh : HasD w P Q l m) (hn : l.length ≤ 9223372036854775807) (hm : m.length ≤ 9223372036854775807) :
    Calls Try.prog 4 #[.agg #[.slice P l.length cp, .slice Q m.length cq]] w fun e w' => e = .returned (.bool true) ∧ Calm w w' := by
  by_cases h0 : dkErr l m = 0
  rotate_left
  · exact ur_bad P Q cp cq l m w _ (fun u hu => undoRecover_bad P Q cp cq l m u (hh.calm hu) hn hm rfl h0) (fun u hu => recovered_bad P Q cp cq l m u h0 { data := #[] } fun v hv => rSeq_bad P Q cp cq l m v ((hh.calm hu).calm hv) hn hm rfl h0)
  have hz : dkErr (curP l m) [] = 0 := done_err (fun _ => true) h0
  have hLl : (curP l m).length = l.length := doneL_len _ _ _ _
  have hcn : (curP l m).length ≤ 9223372036854775807 := by omega
  have h00 : ([] : List Wr).length ≤ 9223372036854775807 := by simp
  by_cases hl : l.length = 201
  rotate_left
  · refine ur_bad P Q cp cq l m w 3 (fun u hu => undoRecover_seq P Q cp cq l m u (hh.calm hu) h0 (by decide) { data := #[] } fun v A c h => ?_) (fun u hu => recovered_bad P Q cp cq l m u (by decide) { data := #[] } fun v hv => rSeq_form P Q cp cq l m v ((hh.calm hu).calm hv) hn hm h0 hl)
    have := uSeq_form A none c 0 (curP l m) [] v ⟨h, LiesG.nil_⟩ hcn h00 hz (by rw [hLl]; exact hl)
    rw [hLl] at this
    exact this
  obtain ⟨x, hx⟩ : ∃ x, l[0]? = some x := ⟨l[0]'(by omega), List.getElem?_eq_getElem (by omega)⟩
  have hT0 : (curP l m)[0]? = some (rdL 0 m x) := done_read rfl (dkErr_zero.1 h0).2.2.2 0 _ hx
  by_cases h : sqOk (rdL 0 m x)
  · refine ur_ok P Q cp cq l m w (rvAll (num ((gB (rdL 0 m x).data.toList).data.toList.take 4)) (curP l m) 100) l.length (by rw [rvAll_len, hLl]) hn (fun u hu => undoRecover_ok P Q cp cq l m u (hh.calm hu) h0 hl _ h.2 ((gB (rdL 0 m x).data.toList).extract 4 (gB (rdL 0 m x).data.toList).size) fun v A c hA => ?_) (fun u hu => recovered_ok P Q cp cq l m u (hh.calm hu) h0 hl _ h.2 _ fun v hv => rSeq_ok P Q cp cq l m v ((hh.calm hu).calm hv) hn hm h0 hl hx rfl h)
    have := uSeq_ok A none c 0 (curP l m) [] v ⟨hA, LiesG.nil_⟩ hcn h00 hz (by rw [hLl]; exact hl) hT0 rfl h
    rw [hLl] at this
    exact this
  · refine ur_bad P Q cp cq l m w 11 (fun u hu => undoRecover_seq P Q cp cq l m u (hh.calm hu) h0 (by decide) { data := #[] } fun v A c hA => ?_) (fun u hu => recovered_bad P Q cp cq l m u (by decide) { data := #[] } fun v hv => rSeq_no P Q cp cq l m v ((hh.calm hu).calm hv) hn hm h0 hl hx rfl h)
    have := uSeq_no A none c 0 (curP l m) [] v ⟨hA, LiesG.nil_⟩ hcn h00 hz (by rw [hLl]; exact hl) hT0 rfl h
    rw [hLl] at this
    exact this
end Go.Proofs.Ytmpgikplpohjnaa
