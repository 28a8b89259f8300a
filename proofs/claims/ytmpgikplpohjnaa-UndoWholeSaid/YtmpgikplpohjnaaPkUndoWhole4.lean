/- Texts of one kind in one file. -/
import Derived.Test.YtmpgikplpohjnaaPkUndoWhole3
set_option maxRecDepth 100000
namespace Go.Proofs.Ytmpgikplpohjnaa
open Go.RowKit
def RsEnd (d : Dc) (w : World) (e : Ending) (w' : World) : Prop := ∃ P cp Q cq, e = .returned (.tuple #[.agg #[.slice P d.1.length cp, .slice Q d.2.length cq], .bool true]) ∧ HasD w' P Q d.1 d.2 ∧ Calm w w'
section
variable {P Q A : Option Addr} {cp cq c : Nat} {l : List ByteArray} {m : List Wr} {w : World}
set_option maxHeartbeats 16000000 in
theorem refStep_ok (hh : HasD w P Q l m) (hz : dkErr l m = 0) (hd : ByteArray) (ws : List Wr) (hW : LiesW w A ws) {q : Nat} {t : ByteArray} (cS : ∀ u, Calm w u → Calls Try.prog 15 #[.agg #[.slice P l.length cp, .slice Q m.length cq]] u (Sq3 (q : Int) t 0 u)) (G : GpC q (curP l m) hd ws) (N : Nat) (hN : N < 2 * ws.length + 5) :
    Calls Try.prog 25 #[.agg #[.slice P l.length cp, .slice Q m.length cq], .string hd, .slice A ws.length c, .int .i64 (N : Int)] w (RsEnd (stD l m q hd ws (N + 1)) w) := by
  have HG := Lib.hid G
  have HZ := Lib.hid hz
  have HH := Lib.hid hh
  have hn100 : ws.length ≤ 100 := G.n
  have HL0 : Hid ((curP l m).length = l.length) := by show _ = _; unfold curP; rw [doneL_len]
  have hx := heap_past (.cells #[.slice none 0 0, .slice none 0 0] 25) (heap_new w (.cells #[.slice P l.length cp, .slice Q m.length cq] 25))
  have hr := heap_new (w.alloc (.cells #[.slice P l.length cp, .slice Q m.length cq] 25)) (.cells #[.slice none 0 0, .slice none 0 0] 25)
  rw [World.size_alloc] at hr
  have hu := ((Calm.refl w).alloc (.cells #[.slice P l.length cp, .slice Q m.length cq] 25)).alloc (.cells #[.slice none 0 0, .slice none 0 0] 25)
  clear G hz hh
  go_enter Try.func25, Try.ntmps25
  generalize hQ0 : bodyPost Try.prog Try.f25 (RsEnd (stD l m q hd ws (N + 1)) w) = Q0
  have HRET : Hid (∀ (a : Act) w' P cp Q cq, a.defers = [] → a.tmps.getD 8 undef = .pointer (some ⟨w.heap.size + 1, 0, none⟩) → a.tmps.getD 9 undef = .bool true → w'.heap[w.heap.size + 1]? = some (.cells #[.slice P (stD l m q hd ws (N + 1)).1.length cp, .slice Q (stD l m q hd ws (N + 1)).2.length cq] 25 (0, 0)) → HasD w' P Q (stD l m q hd ws (N + 1)).1 (stD l m q hd ws (N + 1)).2 → Calm w w' → Q0 .ret a w') := show ∀ _ _ _ _ _ _, _ from fun a w' P cp Q cq h0 h1 h2 h3 h4 h5 => by
    rw [← hQ0]
    exact end_dkE (p := 8) (q := 9) rfl rfl a w' (w.heap.size + 1) _ _ _ (0, 0) h0 h1 h2 h3 rfl ⟨P, cp, Q, cq, rfl, h4, h5⟩
  clear hQ0
  obtain ⟨x0, x1, hxs⟩ := rowD hx
  go_upto_region 3 with (first
    | (go_at_call 15; (with_reducible refine (cS _ hu).mono ?_); rintro e w1 ⟨rfl, hk⟩; replace hx := (hk.block hxs).trans hx; replace hr := (hk.block (rowD hr).2.2).trans hr; replace hu := hu.call hk; clear hk x0 x1 hxs; obtain ⟨x0, x1, hxs⟩ := rowD hx)
    | (go_at_call 59; refine (synced_any P Q cp cq l m _ (HH.out.calm hu).p (HH.out.calm hu).q HZ.out).mono ?_; rintro e w2 ⟨A2, c2, rfl, ho2, hk2⟩; have HO2 := Lib.hid ho2; have hr2 := (hk2.block (rowD hr).2.2).trans hr; have hu2 := hu.call hk2; clear hk2 ho2))
  have HR2 := Lib.hid hr2
  have hb3 := heap_new w2 (.cells #[.slice A2 l.length c2, .slice none 0 0] 25)
  have hw3 : (w2.alloc (.cells #[.slice A2 l.length c2, .slice none 0 0] 25)).heap.size = w2.heap.size + 1 := by simp
  have HO3 := Lib.hid (HO2.out.calm ((Calm.refl w2).alloc (.cells #[.slice A2 l.length c2, .slice none 0 0] 25)))
  have hv3 := (Calm.refl w2).alloc (.cells #[.slice A2 l.length c2, .slice none 0 0] 25)
  have cK := fun u (hk : Calm (w2.alloc (.cells #[.slice A2 l.length c2, .slice none 0 0] 25)) u) => cloneP_any A2 c2 (curP l m) u (by rw [HG.out.l0]; decide) (OwnP.at_ (HO3.out.calm hk)).2
  rw [HL0.out] at cK
  clear x0 x1 hxs hx hr hr2 hu cS HO2
  generalize w2.alloc (.cells #[.slice A2 l.length c2, .slice none 0 0] 25) = w3 at hb3 hw3 HO3 hv3 cK ⊢
  obtain ⟨x0, x1, hxs⟩ := rowD hb3
  go_upto_region 4 with (go_at_call 26; refine (cK _ (Calm.refl _)).mono ?_; rintro e wO ⟨vO, rfl, hoO, hkO⟩)
  obtain ⟨AO, cO, rfl, -, -⟩ := OwnG.slice hoO
  rw [HG.out.l0] at hoO
  have HOO := Lib.hid hoO
  have hsO : Hid (w2.heap.size + 1 ≤ wO.heap.size) := by show _ ≤ _; rw [← hw3]; exact hkO.size
  have HI := Lib.hid (show RxI w2 wO w2.heap.size (stD l m q hd ws 1).1 (stD l m q hd ws 1).2 wO from by
    rw [stD_one]
    exact ⟨⟨A2, c2, none, 0, by show wO.heap[w2.heap.size]? = some (.cells #[.slice A2 (curP l m).length c2, .slice none 0 0] _ _); rw [HL0.out]; exact (hkO.block hxs).trans hb3, OwnG.weaken (by rw [HL0.out]; exact HO3.out.calm hkO) (Nat.zero_le _), OwnW.nil _ _⟩, hv3.call hkO, fun _ _ _ => rfl, Nat.le_refl _⟩)
  have HOLD : Hid (∀ u L M, RxI w2 wO w2.heap.size L M u → LiesP u AO (curP l m)) := show ∀ _ _ _, _ from fun u L M h => by
    have h1 : OwnP w3.heap.size u (.slice AO 201 cO) (curP l m) := OwnG.same HOO.out fun k hk => h.ot k (OwnG.lt HOO.out k hk).2 (by have := (OwnG.lt HOO.out k hk).1; omega)
    exact (OwnP.at_ h1).2
  have HLL : Hid (l.length = 201) := by show _ = _; rw [← HL0.out]; exact HG.out.l0
  clear x0 x1 hxs hb3 hw3 HO3 hkO cK hoO hv3 HL0
  have hK1 : (ws.length : Int) ≤ 100 := by omega
  have hN1 : (N : Int) ≤ 2 * (ws.length : Int) + 4 := by omega
  have hN2 : ¬ ((N : Int) > 2 * (ws.length : Int) + 4) := by omega
  rw [HLL.out]
  clear hN hn100
  have hWt := hW
  go_upto_region 8 with fail
  go_loopw [16] (fun i wr => ∃ j : Nat, 1 ≤ j ∧ j ≤ N + 1 ∧ i = .int .i64 j ∧ Hid (RxI w2 wO w2.heap.size (stD l m q hd ws j).1 (stD l m q hd ws j).2 wr)) (fun i _ => N + 1 - (intOf i).toNat)
  case atStart => exact ⟨1, Nat.le_refl _, by omega, rfl, HI⟩
  case round =>
    obtain ⟨j, hj1, hj2, rfl, hI⟩ := hrel
    clear HI
    by_cases hlt : j ≤ N
    rotate_left
    · obtain rfl : j = N + 1 := by omega
      obtain ⟨P', cp', Q', cq', hb, hP', hQ'⟩ := hI.out.ex
      have HB := Lib.hid (show HasD wr P' Q' _ _ from ⟨(OwnP.at_ hP').2, (OwnW.at_ hQ').2⟩)
      have hc := hI.out.cw
      have hr := (hc.block (rowD HR2.out).2.2).trans HR2.out
      obtain ⟨b0, b1, hbs⟩ := rowD hb
      obtain ⟨y0, y1, hys⟩ := rowD hr
      obtain ⟨f0, f1⟩ := free2 hr
      have hne : Hid (w.heap.size ≤ w.heap.size + 1) := Nat.le_succ _
      have HB2 := Lib.hid (show HasD (World.setCell (World.setCell wr ⟨w.heap.size + 1, 0, none⟩ (.slice P' (stD l m q hd ws (N + 1)).1.length cp')) ⟨w.heap.size + 1, 1, none⟩ (.slice Q' (stD l m q hd ws (N + 1)).2.length cq')) P' Q' (stD l m q hd ws (N + 1)).1 (stD l m q hd ws (N + 1)).2 from by
        have p2 : OwnP 0 ((wr.setCell ⟨w.heap.size + 1, 0, none⟩ (.slice P' (stD l m q hd ws (N + 1)).1.length cp')).setCell ⟨w.heap.size + 1, 1, none⟩ (.slice Q' (stD l m q hd ws (N + 1)).2.length cq')) _ _ := OwnG.same hP' fun k hk => by
          have : k ≠ w.heap.size + 1 := fun e => own_box (by decide) hP' hr (hk.trans (by rw [e]))
          rw [heap_setCell_other _ ⟨w.heap.size + 1, 1, none⟩ k _ this, heap_setCell_other _ ⟨w.heap.size + 1, 0, none⟩ k _ this]
        have q2 : OwnW wO.heap.size ((wr.setCell ⟨w.heap.size + 1, 0, none⟩ (.slice P' (stD l m q hd ws (N + 1)).1.length cp')).setCell ⟨w.heap.size + 1, 1, none⟩ (.slice Q' (stD l m q hd ws (N + 1)).2.length cq')) _ _ := OwnG.same hQ' fun k hk => by
          have : k ≠ w.heap.size + 1 := fun e => own_box (by decide) hQ' hr (hk.trans (by rw [e]))
          rw [heap_setCell_other _ ⟨w.heap.size + 1, 1, none⟩ k _ this, heap_setCell_other _ ⟨w.heap.size + 1, 0, none⟩ k _ this]
        exact ⟨(OwnP.at_ p2).2, (OwnW.at_ q2).2⟩)
      have hr9 := set2 hr (.slice P' (stD l m q hd ws (N + 1)).1.length cp') (.slice Q' (stD l m q hd ws (N + 1)).2.length cq')
      have hu9 := (hu2.call hc).two (g := w.heap.size + 1) (by omega) (.slice P' (stD l m q hd ws (N + 1)).1.length cp') (.slice Q' (stD l m q hd ws (N + 1)).2.length cq')
      have HR9 := Lib.hid hr9
      have HU9 := Lib.hid hu9
      have hlt' : ¬ (((N + 1 : Nat) : Int) ≤ (N : Int)) := by omega
      clear hb hr hr9 hu9 hP' hQ' HOLD hI
      generalize (stD l m q hd ws (N + 1)).1 = L9 at *
      generalize (stD l m q hd ws (N + 1)).2 = M9 at *
      go_wp2_with fail
      exact HRET.out _ _ P' cp' Q' cq' rfl rfl rfl HR9.out HB2.out HU9.out
    have hdk := stD_ok (l := l) (m := m) HG.out j hj1 (by omega)
    obtain ⟨P', cp', Q', cq', hb, hP', hQ'⟩ := hI.out.ex
    have hcw := hI.out.cw
    have hOld := HOLD.out _ _ _ hI.out
    have hjn : (j : Int) ≤ (N : Int) := by omega
    have hj1' : (1 : Int) ≤ (j : Int) := by omega
    have hnx := fun a (h : (actsW q (curP l m) hd ws)[j]? = some a) => stD_next (l := l) (m := m) (q := q) (hd := hd) (ws := ws) h
    obtain ⟨L, hL⟩ : ∃ L, L = (stD l m q hd ws j).1 := ⟨_, rfl⟩
    obtain ⟨M, hM⟩ : ∃ M, M = (stD l m q hd ws j).2 := ⟨_, rfl⟩
    have hLM : stD l m q hd ws j = (L, M) := by rw [hL, hM]
    simp only [hLM] at hdk hb hP' hQ' hI hnx
    have HDK := Lib.hid hdk
    have HP' := Lib.hid hP'
    have HQ' := Lib.hid hQ'
    have HBX := Lib.hid hb
    obtain ⟨b0, b1, hbs⟩ := rowD hb
    clear hdk hP' hQ' hL hM hLM HOLD hb
    have hw2 : Hid (w2.heap.size < wO.heap.size) := show _ < _ from by have := hsO.out; omega
    by_cases hs : j = ws.length + 1 ∨ j = 2 * ws.length + 2 ∨ j = 2 * ws.length + 4
    · have hn2 : Hid (stD l m q hd ws (j + 1) = (curP L M, [])) := hnx none (by
        have A := @acts_at q (curP l m) hd ws
        rcases hs with rfl | rfl | rfl
        · exact A.2.2.1
        · exact A.2.2.2.2.1
        · exact A.2.2.2.2.2.2)
      have cY := fun u (hk : Calm wr u) => synced_any P' Q' cp' cq' L M u (OwnP.at_ (HP'.out.calm hk)).2 (OwnW.at_ (HQ'.out.calm hk)).2 HDK.out.1
      have hDE : ∀ u e w', DoneEnd L M (fun _ => true) u e w' ↔ ∃ A c, e = .returned (.agg #[.slice A L.length c, .slice none 0 0]) ∧ OwnP u.heap.size w' (.slice A L.length c) (curP L M) ∧ Calm u w' := fun u e w' => Iff.rfl
      have hcl : Hid ((curP L M).length = L.length) := by show _ = _; unfold curP; rw [doneL_len]
      have HB1 : Hid ((decide ((j : Int) = (ws.length : Int) + 1) || decide ((j : Int) = 2 * (ws.length : Int) + 2) || decide ((j : Int) = 2 * (ws.length : Int) + 4)) = true) := by
        show _ = _
        rcases hs with rfl | rfl | rfl <;> simp <;> omega
      clear hnx hjn
      by_cases s1 : j = ws.length + 1
      · have d0 : ((j : Int) == (ws.length : Int) + 1) = true := by rw [beq_iff_eq]; omega
        clear hs HB1
        go_wp2_with (go_at_call 59; refine (cY _ (Calm.refl _)).mono ?_; rintro e w6 ⟨A6, c6, rfl, ho6, hk6⟩; have HS6 := Lib.hid (RxI.sync hI.out (Nat.le_refl _) hw2.out hk6 (by rw [hcl.out]; exact ho6)); have hb6 := (hk6.block hbs).trans HBX.out; obtain ⟨b0, b1, hbs⟩ := rowD hb6; obtain ⟨f0, f1⟩ := free2 hb6; clear hb6 ho6)
        go_roundw
        case rel => exact ⟨j + 1, by omega, by omega, by go_num, by rw [hn2.out]; have h9 := HS6.out; rw [hcl.out] at h9; exact h9⟩
        case measure => simp [intOf]; omega
      by_cases s2 : j = 2 * ws.length + 2
      · have d0 : ((j : Int) == (ws.length : Int) + 1) = false := by rw [beq_eq_false_iff_ne]; omega
        have d1 : ((j : Int) == 2 * (ws.length : Int) + 2) = true := by rw [beq_iff_eq]; omega
        clear hs HB1
        go_wp2_with (go_at_call 59; refine (cY _ (Calm.refl _)).mono ?_; rintro e w6 ⟨A6, c6, rfl, ho6, hk6⟩; have HS6 := Lib.hid (RxI.sync hI.out (Nat.le_refl _) hw2.out hk6 (by rw [hcl.out]; exact ho6)); have hb6 := (hk6.block hbs).trans HBX.out; obtain ⟨b0, b1, hbs⟩ := rowD hb6; obtain ⟨f0, f1⟩ := free2 hb6; clear hb6 ho6)
        go_roundw
        case rel => exact ⟨j + 1, by omega, by omega, by go_num, by rw [hn2.out]; have h9 := HS6.out; rw [hcl.out] at h9; exact h9⟩
        case measure => simp [intOf]; omega
      · have d0 : ((j : Int) == (ws.length : Int) + 1) = false := by rw [beq_eq_false_iff_ne]; omega
        have d1 : ((j : Int) == 2 * (ws.length : Int) + 2) = false := by rw [beq_eq_false_iff_ne]; omega
        have d2 : ((j : Int) == 2 * (ws.length : Int) + 4) = true := by rw [beq_iff_eq]; omega
        clear hs HB1
        go_wp2_with (go_at_call 59; refine (cY _ (Calm.refl _)).mono ?_; rintro e w6 ⟨A6, c6, rfl, ho6, hk6⟩; have HS6 := Lib.hid (RxI.sync hI.out (Nat.le_refl _) hw2.out hk6 (by rw [hcl.out]; exact ho6)); have hb6 := (hk6.block hbs).trans HBX.out; obtain ⟨b0, b1, hbs⟩ := rowD hb6; obtain ⟨f0, f1⟩ := free2 hb6; clear hb6 ho6)
        go_roundw
        case rel => exact ⟨j + 1, by omega, by omega, by go_num, by rw [hn2.out]; have h9 := HS6.out; rw [hcl.out] at h9; exact h9⟩
        case measure => simp [intOf]; omega
    have n1 : ((j : Int) == (ws.length : Int) + 1) = false := by rw [beq_eq_false_iff_ne]; omega
    have n2 : ((j : Int) == 2 * (ws.length : Int) + 2) = false := by rw [beq_eq_false_iff_ne]; omega
    have n3 : ((j : Int) == 2 * (ws.length : Int) + 4) = false := by rw [beq_eq_false_iff_ne]; omega
    have cH := fun u => refHead_any ((q + 1 : Nat) : Int) hd u
    have cH2 : ∀ u, HdEnd ((q + 1 : Nat) : Int) hd u = fun e w' => e = .returned (.tuple #[.string (hdS ((q + 1 : Nat) : Int) hd), .int .i64 0]) ∧ Calm u w' := fun u => by
      unfold HdEnd; rw [HG.out.hd0]
    simp only [cH2] at cH
    have HWH : Hid (headW q hd = ⟨0, hdS ((q : Int) + 1) hd⟩) := by show _ = _; unfold headW; rw [show ((q + 1 : Nat) : Int) = (q : Int) + 1 from by omega]
    rw [show ((q + 1 : Nat) : Int) = (q : Int) + 1 from by omega] at cH
    clear cH2
    have hq1 : (q : Int) ≤ 2147483646 := by have := HG.out.q; omega
    have hMl : M.length ≤ 1000000 := by have := HDK.out.2.2; omega
    have HM := Lib.hid hMl
    by_cases t1 : j = 2 * ws.length + 3
    · have hn2 : Hid (stD l m q hd ws (j + 1) = (L, M ++ [⟨0, hdS ((q : Int) + 1) hd⟩])) := by
        show _ = _
        rw [← HWH.out]
        exact hnx _ (by rw [t1]; exact (@acts_at q (curP l m) hd ws).2.2.2.2.2.1)
      have g1 : (ws.length : Int) < (j : Int) := by omega
      have g2 : ((j : Int) == 2 * (ws.length : Int) + 3) = true := by rw [beq_iff_eq]; omega
      generalize hdS ((q : Int) + 1) hd = HT at cH hn2
      clear hs t1 hnx HWH hOld hMl HDK
      go_wp2_with (first
        | (go_at_call 13; (with_reducible refine (cH _).mono ?_); rintro e w5 ⟨rfl, hk5⟩; have HK5 := Lib.hid hk5; have hb5 := (hk5.block hbs).trans HBX.out; obtain ⟨b0, b1, hbs5⟩ := rowD hb5; have HB5 := Lib.hid hb5; clear hk5 hb5)
        | (at_builtin; go_must (refine wpList_append_w rfl _ _ rfl wO.heap.size _ M rfl (HQ'.out.calm (HK5.out.alloc _)) _ _ _ _ _ rfl (heap_new _ _) HM.out ?_ ?_); (· have := hI.out.sz; have := HK5.out.size; simp; omega); intro v6 w6 ho6 _ hg6; obtain ⟨A6, c6, rfl, -, -⟩ := OwnG.slice ho6; have HF := Lib.hid (RxI.put hI.out (Nat.le_refl _) hw2.out HBX.out HP'.out HQ'.out (HK5.out.alloc _) ho6 hg6); have hb6 := (hg6.block _ (Nat.lt_of_lt_of_le hbs5 (by simp)) (fun e => by have h8 := (OwnG.lt HQ'.out _ e.symm).1; have h9 := hw2.out; omega)).trans (heap_past _ HB5.out); obtain ⟨b0, b1, hbs6⟩ := rowD hb6; obtain ⟨f0, f1⟩ := free2 hb6; clear hb6 ho6 hg6))
      go_roundw
      case rel => exact ⟨j + 1, by omega, by omega, by go_num, by rw [hn2.out]; have h := HF.out; rw [List.length_append] at h; exact h⟩
      case measure => simp [intOf]; omega
    by_cases t2 : j ≤ ws.length
    · obtain ⟨k, rfl⟩ : ∃ k, j = k + 1 := ⟨j - 1, by omega⟩
      obtain ⟨b, p0, i, s, rfl, hb, HE, c0, c1⟩ := (hW.calm (hu2.call hcw)).get (show k < ws.length by omega)
      have hi := HG.out.g.r _ (List.mem_of_getElem? HE.out)
      obtain ⟨pg, rfl⟩ : ∃ n : Nat, i = (n : Int) := ⟨i.toNat, by have : 1 ≤ i := hi.1; omega⟩
      have hp1 : pg ≤ 100 := by have : (pg : Int) ≤ 100 := hi.2.1; omega
      obtain ⟨xo, hxo⟩ : ∃ x, (curP l m)[pg]? = some x := ⟨_, List.getElem?_eq_getElem (by rw [HG.out.l0]; omega)⟩
      have e1 := oldL_at (s := s) hxo
      have ho := HG.out.o _ (List.mem_of_getElem? HE.out)
      rw [e1] at ho
      have hn2 : Hid (stD l m q hd ws (k + 1 + 1) = (L, M ++ [⟨100 + ((k : Int) + 1), frS 9 ((⟨(be 4 (q + 1)).toArray⟩ : ByteArray) ++ ⟨(be 4 pg).toArray⟩ ++ xo)⟩])) := by
        show _ = _
        rw [hnx _ ((@acts_at q (curP l m) hd ws).2.1 k _ HE.out)]
        unfold recW
        rw [e1, Int.toNat_natCast, show ((101 + k : Nat) : Int) = 100 + ((k : Int) + 1) from by omega]; rfl
      obtain ⟨bo, qo, eAO, hbo, cxo⟩ := un_cell hOld hxo
      have hll : (curP l m).length = 201 := HG.out.l0
      have cB1 := fun u => big_at 4 (q + 1) 4 rfl _ rfl (by omega) (by omega) u
      rw [show ((q + 1 : Nat) : Int) = (q : Int) + 1 from by omega] at cB1
      have cB2 := fun u => big_at 4 pg 4 rfl _ rfl (by omega) (by omega) u
      have hB : (⟨(be 4 (q + 1)).toArray⟩ : ByteArray).size = 4 := by rw [bytes_size, be_length]
      have hC : (⟨(be 4 pg).toArray⟩ : ByteArray).size = 4 := by rw [bytes_size, be_length]
      have cF := fun u => refFrame_any 9 ((⟨(be 4 (q + 1)).toArray⟩ : ByteArray) ++ ⟨(be 4 pg).toArray⟩ ++ xo) u
      simp only [rec_put hB hC ho] at cF
      generalize (⟨(be 4 (q + 1)).toArray⟩ : ByteArray) = B1 at cB1 cF hB hn2
      generalize (⟨(be 4 pg).toArray⟩ : ByteArray) = B2 at cB2 cF hC hn2
      generalize frS 9 (B1 ++ B2 ++ xo) = RT at cF hn2
      have z1 : IntKind.i64.wrap (((k : Int) + 1) - 1) = (k : Int) := by rw [IntWalk.i64_in _ (by omega)]; omega
      have z2 : ((k : Int) + 1) - 1 = (k : Int) := by omega
      have hki : (k : Int) < (ws.length : Int) := by omega
      clear n1 n2 n3
      have n1 : ((k : Int) + 1 == (ws.length : Int) + 1) = false := by rw [beq_eq_false_iff_ne]; omega
      have n1b : ((k : Int) == (ws.length : Int)) = false := by rw [beq_eq_false_iff_ne]; omega
      have n1c : ¬ k = ws.length := by omega
      have n2 : ((k : Int) + 1 == 2 * (ws.length : Int) + 2) = false := by rw [beq_eq_false_iff_ne]; omega
      have n3 : ((k : Int) + 1 == 2 * (ws.length : Int) + 4) = false := by rw [beq_eq_false_iff_ne]; omega
      have g1 : (k : Int) + 1 ≤ (ws.length : Int) := by omega
      have hjn2 : (k : Int) + 1 ≤ (N : Int) := by omega
      have hpg : (pg : Int) < ((curP l m).length : Int) := by omega
      have hoi : 8 + xo.size ≤ 9223372036854775807 := by omega
      have hoj : ¬ (9223372036854775807 < 8 + xo.size) := by omega
      have zq1 : IntKind.i64.wrap ((q : Int) + 1) = (q : Int) + 1 := IntWalk.i64_in _ (by omega)
      subst eAO
      have HOL := Lib.hid hOld
      have CXO := Lib.hid cxo
      clear hll hi e1 hxo hOld hnx HWH t1 t2 hs hMl HDK cH
      generalize (curP l m).length = nO at *
      go_upto_region 15 with fail
      have hwb := heap_new wr (.cells #[.int .i64 (pg : Int), .string s] 45)
      have hb4 := heap_past (.cells #[.int .i64 (pg : Int), .string s] 45) HBX.out
      have HK4 := Lib.hid ((Calm.refl wr).alloc (.cells #[.int .i64 (pg : Int), .string s] 45))
      have cxo4 := (HK4.out.facts.1 bo _ hbo).trans CXO.out
      have hbo4 : bo < (wr.alloc (.cells #[.int .i64 (pg : Int), .string s] 45)).heap.size := by simp; omega
      have hws4 : wr.heap.size < (wr.alloc (.cells #[.int .i64 (pg : Int), .string s] 45)).heap.size := by simp
      generalize wr.alloc (.cells #[.int .i64 (pg : Int), .string s] 45) = w4 at hwb hb4 HK4 cxo4 hbo4 hws4 ⊢
      obtain ⟨y0, y1, hys⟩ := rowD hwb
      have HB4 := Lib.hid hb4
      clear hb4 b0 b1
      refine wp_region_plan [.val (.int .i64 (q)), .val (.int .i64 ((q : Int) + 1)), .val (.string B1), .val (.pointer (some ⟨wr.heap.size, 0, none⟩)), .val (.int .i64 ((pg : Int))), .val (.string B2), .val (.string (B1 ++ B2)), .val (.slice (some ⟨bo, qo, none⟩) nO cO), .val (.pointer (some ⟨wr.heap.size, 0, none⟩)), .val (.int .i64 ((pg : Int))), .val (.pointer (some ⟨bo, qo + pg, none⟩)), .val (.string xo), .val (.string (B1 ++ B2 ++ xo)), .val (.agg #[.int .i64 9, .string (B1 ++ B2 ++ xo)]), .val (.tuple #[.string RT, .int .i64 0]), .val (.tuple #[.string RT, .int .i64 0]), .val (.string RT), .val (.int .i64 (0)), .val (.string RT), .val (.int .i64 (0))] (by kernel_rfl) (by kernel_rfl) (by kernel_rfl) ?_
      intro X
      iterate 20
        refine plan_val (by kernel_rfl) (fun u hu => ?_) ?_
        · obtain ⟨hc, hf, hz⟩ := hu.of_drew.facts
          go_simp
          all_goals first
            | ((go_at_call 52; first | (with_reducible exact cB1 _) | (with_reducible exact cB2 _)))
            | ((go_at_call 51; exact cF _))
            | (exact zq1)
        simp only [Act.put, List.setIfInBounds_toArray, List.set_cons_zero, List.set_cons_succ, Nat.reduceAdd]
      refine plan_end ?_
      intro w' hB
      have hk := hB.calm.of_drew
      clear hB
      have HK5 := Lib.hid (HK4.out.call hk)
      have hb5 := (hk.block (rowD HB4.out).2.2).trans HB4.out
      obtain ⟨b0, b1, hbs5⟩ := rowD hb5
      have HB5 := Lib.hid hb5
      clear hk hb5 y0 y1 hys hwb HB4 HK4 cxo4 hbo4 hws4 cB1 cB2 cF
      go_wp2_with (at_builtin; go_must (refine wpList_append_w rfl _ _ rfl wO.heap.size _ M rfl (HQ'.out.calm (HK5.out.alloc _)) _ _ _ _ _ rfl (heap_new _ _) HM.out ?_ ?_); (· have := hI.out.sz; have := HK5.out.size; simp; omega); intro v6 w6 ho6 _ hg6; obtain ⟨A6, c6, rfl, -, -⟩ := OwnG.slice ho6; have HF := Lib.hid (RxI.put hI.out (Nat.le_refl _) hw2.out HBX.out HP'.out HQ'.out (HK5.out.alloc _) ho6 hg6); have hb6 := (hg6.block _ (Nat.lt_of_lt_of_le hbs5 (by simp)) (fun e => by have h8 := (OwnG.lt HQ'.out _ e.symm).1; have h9 := hw2.out; omega)).trans (heap_past _ HB5.out); obtain ⟨b0, b1, hbs6⟩ := rowD hb6; obtain ⟨f0, f1⟩ := free2 hb6; clear hb6 ho6 hg6)
      go_roundw
      case rel => exact ⟨k + 1 + 1, by omega, by omega, by go_num, by rw [hn2.out]; have h := HF.out; rw [List.length_append] at h; exact h⟩
      case measure => simp [intOf]; omega
    obtain ⟨k, rfl⟩ : ∃ k, j = ws.length + 2 + k := ⟨j - (ws.length + 2), by omega⟩
    have hkl : k < ws.length := by omega
    obtain ⟨b, p0, i, s, rfl, hb, HE, c0, c1⟩ := (hW.calm hu2).get hkl
    have hn2 : Hid (stD l m q hd ws (ws.length + 2 + k + 1) = (L, M ++ [⟨i, s⟩])) := hnx _ ((@acts_at q (curP l m) hd ws).2.2.2.1 k _ HE.out)
    obtain ⟨J, hJ⟩ : ∃ J, J = ws.length + 2 + k := ⟨_, rfl⟩
    have z1 : IntKind.i64.wrap ((J : Int) - (ws.length : Int)) = (k : Int) + 2 := by rw [IntWalk.i64_in _ (by omega)]; omega
    have z2 : (J : Int) - (ws.length : Int) = (k : Int) + 2 := by omega
    have z3 : IntKind.i64.wrap ((k : Int) + 2 - 2) = (k : Int) := by rw [IntWalk.i64_in _ (by omega)]; omega
    have z4 : IntKind.i64.wrap (k : Int) = (k : Int) := IntWalk.i64_in _ (by omega)
    have hki : (k : Int) < (ws.length : Int) := by omega
    have g1 : (ws.length : Int) < (J : Int) := by omega
    have g2 : ((J : Int) == 2 * (ws.length : Int) + 3) = false := by rw [beq_eq_false_iff_ne]; omega
    have HJ := Lib.hid hJ
    clear z2
    simp only [← hJ] at n1 n2 n3 hn2 hj1 hj2 hlt hjn hj1' hI ⊢
    clear hs t1 t2 hnx HWH hOld hMl HDK cH hJ c0 c1
    go_upto_region 10 with fail
    have hc0 := hW.calm hu2
    refine wp_region_stages [.val (.pointer (some ⟨w2.heap.size, 1, none⟩)), .val (.slice Q' M.length cq') [12], .val (.slice (some ⟨b, p0, none⟩) ws.length c), .val (.int .i64 (J : Int)), .val (.int .i64 (ws.length : Int)), .val (.int .i64 ((k : Int) + 2)), .val (.int .i64 (k : Int)), .val (.pointer (some ⟨b, p0 + k * 2, none⟩)), .val (.agg #[.int .i64 i, .string s]), .late, .late [9], .val (.pointer (some ⟨w2.heap.size, 1, none⟩)), .late [10]] [9, 10, 12]
      (ChainS 3 (PtS wr w2 wO w2.heap.size (.slice P' L.length cp') (.slice Q' M.length cq') L M i s)) (by kernel_rfl) (by kernel_rfl) (by kernel_rfl) (ChainS.stay PtS.calm)
      (fun Y => ChainS.start (late := [9, 10, 12]) (PtS.calm 0 _ _ _ (Calm.refl wr) ((Calm.refl _).drew))) (fun Y => ?_)
    refine planS_val (by kernel_rfl) (fun L' u hb hS => ?_) ?_
    · clear hS hb
      go_simp
    simp only [Act.put, List.setIfInBounds_toArray, List.set_cons_zero, List.set_cons_succ, Nat.reduceAdd]
    refine planS_val (by kernel_rfl) (fun L' u hb hS => ?_) ?_
    · obtain ⟨mm, hm, hA⟩ := ChainS.upto (late := [9, 10, 12]) (m := 2) hS rfl (hb 12 (by simp))
      obtain ⟨b0, b1, hbs⟩ := rowD (PtS.box HBX.out hm hA)
      clear hS hA hb
      go_simp
    simp only [Act.put, List.setIfInBounds_toArray, List.set_cons_zero, List.set_cons_succ, Nat.reduceAdd]
    refine planS_val (by kernel_rfl) (fun L' u hb hS => ?_) ?_
    · clear hS hb
      go_simp
    simp only [Act.put, List.setIfInBounds_toArray, List.set_cons_zero, List.set_cons_succ, Nat.reduceAdd]
    refine planS_val (by kernel_rfl) (fun L' u hb hS => ?_) ?_
    · clear hS hb
      go_simp
    simp only [Act.put, List.setIfInBounds_toArray, List.set_cons_zero, List.set_cons_succ, Nat.reduceAdd]
    refine planS_val (by kernel_rfl) (fun L' u hb hS => ?_) ?_
    · clear hS hb
      go_simp
    simp only [Act.put, List.setIfInBounds_toArray, List.set_cons_zero, List.set_cons_succ, Nat.reduceAdd]
    refine planS_val (by kernel_rfl) (fun L' u hb hS => ?_) ?_
    · clear hS hb
      go_simp
      all_goals first | exact z1 | exact z4
    simp only [Act.put, List.setIfInBounds_toArray, List.set_cons_zero, List.set_cons_succ, Nat.reduceAdd]
    refine planS_val (by kernel_rfl) (fun L' u hb hS => ?_) ?_
    · clear hS hb
      go_simp
      all_goals first | exact z3 | exact z4
    simp only [Act.put, List.setIfInBounds_toArray, List.set_cons_zero, List.set_cons_succ, Nat.reduceAdd]
    refine planS_val (by kernel_rfl) (fun L' u hb hS => ?_) ?_
    · clear hS hb
      go_simp
    simp only [Act.put, List.setIfInBounds_toArray, List.set_cons_zero, List.set_cons_succ, Nat.reduceAdd]
    refine planS_val (by kernel_rfl) (fun L' u hb hS => ?_) ?_
    · obtain ⟨mm, hm, hA⟩ := ChainS.any (late := [9, 10, 12]) hS
      obtain ⟨b', p', i', s', hAA, hbb, HEE, c0, c1⟩ := (hc0.calm (PtS.w2 hcw hA)).get hkl
      injection hAA with hAA
      injection hAA with u1 u2 _
      subst u1; subst u2
      have hxx := HEE.out.symm.trans HE.out
      injection hxx with hxx
      injection hxx with u3 u4
      subst u3; subst u4
      clear hS hA hb
      go_simp
    simp only [Act.put, List.setIfInBounds_toArray, List.set_cons_zero, List.set_cons_succ, Nat.reduceAdd]
    refine planS_late (fun L' u hi hb hS => ?_) ?_
    · obtain ⟨hA, hn⟩ := ChainS.step (late := [9, 10, 12]) (m := 0) hS rfl hi (fun j h0 h => by exact absurd h0 (Nat.lt_irrefl _)) (by decide)
      clear hS hb hi
      have HA : Hid (Calm wr u) := hA
      clear hA
      go_wp2_with fail
      exact hn _ _ ⟨⟨_, rfl, heap_new _ _⟩, HA.out.alloc _⟩
    simp only [Act.put, List.setIfInBounds_toArray, List.set_cons_zero, List.set_cons_succ, Nat.reduceAdd]
    refine planS_late (fun L' u hi hb hS => ?_) ?_
    · obtain ⟨hA, hn⟩ := ChainS.step (late := [9, 10, 12]) (m := 1) hS rfl hi (fun j _ h => by cases h; exact hb 9 (by simp)) (by decide)
      clear hS hb hi
      obtain ⟨⟨gl, hy9, hgl9⟩, h1⟩ := hA
      rw [hy9]
      refine wpList_append_w rfl _ _ rfl wO.heap.size _ M rfl (HQ'.out.calm h1) _ _ i s _ rfl hgl9 HM.out (by have := hI.out.sz; have := h1.size; omega) ?_
      intro v9 w9 ho9 _ hg9
      exact ⟨rfl, v9, rfl, hn v9 w9 (by have h9 := RxI.half hI.out (Nat.le_refl _) hw2.out HBX.out HP'.out HQ'.out h1 ho9 hg9; simpa [PtS, updV] using h9)⟩
    simp only [Act.put, List.setIfInBounds_toArray, List.set_cons_zero, List.set_cons_succ, Nat.reduceAdd]
    refine planS_val (by kernel_rfl) (fun L' u hb hS => ?_) ?_
    · clear hS hb
      go_simp
    simp only [Act.put, List.setIfInBounds_toArray, List.set_cons_zero, List.set_cons_succ, Nat.reduceAdd]
    refine planS_late (fun L' u hi hb hS => ?_) ?_
    · obtain ⟨hA, hn⟩ := ChainS.step (late := [9, 10, 12]) (m := 2) hS rfl hi (fun j _ h => by cases h; exact hb 10 (by simp)) (by decide)
      clear hS hb hi
      have hA : RxH _ _ _ _ _ _ _ _ _ := hA
      obtain ⟨A9, c9, hy, -, -⟩ := OwnG.slice hA.own
      rw [hy] at hA
      have hd9 := hA.done (Nat.le_refl _) hw2.out
      obtain ⟨N9, hN9⟩ : ∃ N, N = (M ++ [(⟨i, s⟩ : Wr)]).length := ⟨_, rfl⟩
      rw [← hN9] at hy hd9
      have hn9 := hn undef _ hd9
      obtain ⟨b0, b1, hbs⟩ := rowD hA.box
      obtain ⟨f0, f1⟩ := free2 hA.box
      rw [hy]
      clear hn hA hy hN9 hd9
      go_wp2_with fail
      exact ⟨undef, hn9⟩
    simp only [Act.put, Nat.reduceAdd]
    refine planS_end ?_
    intro w' hS
    have hA := ChainS.done (late := [9, 10, 12]) hS
    have HF : Hid (RxI _ _ _ _ _ _) := hA
    clear hS hA hc0
    go_wp2_with fail
    go_roundw
    case rel => exact ⟨J + 1, by omega, by omega, by go_num, by rw [hn2.out]; exact HF⟩
    case measure => simp [intOf]; omega
end
open Go.RowKit
theorem LiesQ.get {w : World} {A : Option Addr} {X : List (Value × Value)} (h : LiesG dqC 2 w A X) {k : Nat} {x : Value × Value} (hk : X[k]? = some x) : ∃ (b q : Nat), A = some ⟨b, q, none⟩ ∧ b < w.heap.size ∧ w.cell? ⟨b, q + k * 2, none⟩ = some x.1 ∧ w.cell? ⟨b, q + k * 2 + 1, none⟩ = some x.2 := by
 obtain ⟨b, q, hA, hlt, h2⟩ := h (by have := (List.getElem?_eq_some_iff.1 hk).1; omega)
 have h3 := h2 k _ hk
 exact ⟨b, q, hA, hlt, h3 0 (by omega), h3 1 (by omega)⟩
theorem AllD.get {B : Nat} {w : World} {X : List (Value × Value)} {D : List Dc} (h : AllD B w X D) {k : Nat} {d : Dc} (hd : D[k]? = some d) : ∃ P cp Q cq, X[k]? = some (.slice P d.1.length cp, .slice Q d.2.length cq) ∧ HasD w P Q d.1 d.2 := by
 obtain ⟨lo, -, -, -, hl, h4⟩ := h
 have hk := (List.getElem?_eq_some_iff.1 hd).1
 have hx := List.getElem?_eq_getElem (show k < X.length by omega)
 obtain ⟨P, cp, Q, cq, e, ho, -⟩ := h4 k _ d hx hd
 exact ⟨P, cp, Q, cq, by rw [hx, e], ho.has⟩
theorem AllD.len {B : Nat} {w : World} {X : List (Value × Value)} {D : List Dc} (h : AllD B w X D) : X.length = D.length := by
 obtain ⟨_, -, -, -, hl, -⟩ := h; exact hl
section
variable {P Q : Option Addr} {cp cq : Nat} {l : List ByteArray} {m : List Wr} {w : World}
def SeqC (P Q : Option Addr) (cp cq : Nat) (l : List ByteArray) (m : List Wr) (w : World) (n : Int) (t : ByteArray) (E : Int) : Prop :=
 (∀ u, Calm w u → Calls Try.prog 14 #[.agg #[.slice P l.length cp, .slice Q m.length cq]] u (Sq3 n t E u)) ∧ ∀ u, Calm w u → Calls Try.prog 15 #[.agg #[.slice P l.length cp, .slice Q m.length cq]] u (Sq3 n t E u)
theorem seq_two (hh : HasD w P Q l m) (hn : l.length ≤ 9223372036854775807) (hm : m.length ≤ 9223372036854775807) (cp cq : Nat) :
    (∃ E : Int, E ≠ 0 ∧ SeqC P Q cp cq l m w 0 { data := #[] } E) ∨ ∃ T : ByteArray, dkErr l m = 0 ∧ l.length = 201 ∧ (∃ x, l[0]? = some x ∧ T = rdL 0 m x) ∧ sqOk T ∧ SeqC P Q cp cq l m w (num ((gB T.data.toList).data.toList.take 4) : Int) ((gB T.data.toList).extract 4 (gB T.data.toList).size) 0 := by
  by_cases h0 : dkErr l m = 0
  rotate_left
  · exact .inl ⟨_, h0, fun u hu => uSeq_bad P Q cp cq l m u (hh.calm hu) hn hm rfl h0, fun u hu => rSeq_bad P Q cp cq l m u (hh.calm hu) hn hm rfl h0⟩
  by_cases hl : l.length = 201
  rotate_left
  · exact .inl ⟨3, by decide, fun u hu => uSeq_form P Q cp cq l m u (hh.calm hu) hn hm h0 hl, fun u hu => rSeq_form P Q cp cq l m u (hh.calm hu) hn hm h0 hl⟩
  obtain ⟨x, hx⟩ : ∃ x, l[0]? = some x := ⟨_, List.getElem?_eq_getElem (by omega)⟩
  by_cases hs : sqOk (rdL 0 m x)
  · exact .inr ⟨_, h0, hl, ⟨x, hx, rfl⟩, hs, fun u hu => uSeq_ok P Q cp cq l m u (hh.calm hu) hn hm h0 hl hx rfl hs, fun u hu => rSeq_ok P Q cp cq l m u (hh.calm hu) hn hm h0 hl hx rfl hs⟩
  · exact .inl ⟨11, by decide, fun u hu => uSeq_no P Q cp cq l m u (hh.calm hu) hn hm h0 hl hx rfl hs, fun u hu => rSeq_no P Q cp cq l m u (hh.calm hu) hn hm h0 hl hx rfl hs⟩
/-- Steps, and what the reference says of the group: refused alike, or not. -/
theorem steps_two (hh : HasD w P Q l m) (hn : l.length ≤ 9223372036854775807) (hm : m.length ≤ 9223372036854775807) (cp cq : Nat) (hd : ByteArray) {A : Option Addr} {c : Nat} (ws : List Wr) (hW : LiesW w A ws) (hwc : ws.length ≤ c) :
    (∃ E : Int, E ≠ 0 ∧ (∀ u, Calm w u → Calls Try.prog 20 #[.agg #[.slice P l.length cp, .slice Q m.length cq], .string hd, .slice A ws.length c] u (StBad E u)) ∧ ∀ u, Calm w u → Calls Try.prog 24 #[.agg #[.slice P l.length cp, .slice Q m.length cq], .string hd, .slice A ws.length c] u fun e w' => e = .returned (.int .i64 E) ∧ Calm u w') ∨
    ∃ (q : Nat) (T : ByteArray), q = num ((gB T.data.toList).data.toList.take 4) ∧ dkErr l m = 0 ∧ l.length = 201 ∧ (∃ x, l[0]? = some x ∧ T = rdL 0 m x) ∧ sqOk T ∧ GpC q (curP l m) hd ws ∧ SeqC P Q cp cq l m w (q : Int) ((gB T.data.toList).extract 4 (gB T.data.toList).size) 0 ∧
      (∀ u, Calm w u → Calls Try.prog 20 #[.agg #[.slice P l.length cp, .slice Q m.length cq], .string hd, .slice A ws.length c] u (StEnd (walkD (l, m) (actsW q (curP l m) hd ws)) u)) ∧ (∀ u, Calm w u → Calls Try.prog 24 #[.agg #[.slice P l.length cp, .slice Q m.length cq], .string hd, .slice A ws.length c] u fun e w' => e = .returned (.int .i64 0) ∧ Calm u w') ∧
      ∀ n : Nat, n < 2 * ws.length + 5 → ∀ u, Calm w u → Calls Try.prog 25 #[.agg #[.slice P l.length cp, .slice Q m.length cq], .string hd, .slice A ws.length c, .int .i64 (n : Int)] u (RsEnd (stD l m q hd ws (n + 1)) u) := by
  rcases seq_two hh hn hm cp cq with ⟨E, h0, hU, hR⟩ | ⟨T, hz, hl, hx, hs, hU, hR⟩
  · exact .inl ⟨E, h0, fun u hu => steps_bad hd _ (fun v hv => check_bad hd _ (fun y hy => hU y ((hu.call hv).call hy)) h0) h0, fun u hu => refGroup_bad hd _ (fun y hy => hR y (hu.call hy)) h0⟩
  · have hq := hs.2
    obtain ⟨q, hqq⟩ : ∃ q, q = num ((gB T.data.toList).data.toList.take 4) := ⟨_, rfl⟩
    rw [← hqq] at hU hR hq
    by_cases hg : gpE q (curP l m) hd ws = 0
    · have G := gp_ok hz hl hq hg
      refine .inr ⟨q, T, hqq, hz, hl, hx, hs, G, ⟨hU, hR⟩, fun u hu => ?_, fun u hu => ?_, fun n hn u hu => ?_⟩
      · refine steps_ok (hh.calm hu) hz hd ws (hW.calm hu) (fun v hv => ?_) G
        have h1 := check_ok (hh.calm (hu.call hv)) (cp := cp) (cq := cq) (c := c) hz hl hd ws (hW.calm (hu.call hv)) (fun y hy => hU y ((hu.call hv).call hy))
        rw [hg, if_pos rfl] at h1
        exact h1
      · have h1 := refGroup_ok (hh.calm hu) (cp := cp) (cq := cq) (c := c) hz hl hd ws (hW.calm hu) hwc (fun y hy => hR y (hu.call hy))
        rw [hg] at h1
        exact h1
      · exact refStep_ok (hh.calm hu) hz hd ws (hW.calm hu) (fun y hy => hR y (hu.call hy)) G n hn
    · refine .inl ⟨_, hg, fun u hu => steps_bad hd _ (fun v hv => ?_) hg, fun u hu => refGroup_ok (hh.calm hu) (cp := cp) (cq := cq) (c := c) hz hl hd ws (hW.calm hu) hwc (fun y hy => hR y (hu.call hy))⟩
      have h1 := check_ok (hh.calm (hu.call hv)) (cp := cp) (cq := cq) (c := c) hz hl hd ws (hW.calm (hu.call hv)) (fun y hy => hU y ((hu.call hv).call hy))
      rw [if_neg hg] at h1
      exact h1
end
open Go.RowKit
noncomputable def rvAll (q : Nat) (L : List ByteArray) : Nat → List ByteArray
 | 0 => L
 |k + 1 => rvL q (101 + k) ((rvAll q L k).getD (101 + k) { data := #[] }) (rvAll q L k)
theorem rvAll_len (q : Nat) (L : List ByteArray) : ∀ k, (rvAll q L k).length = L.length
 | 0 => rfl
 |k + 1 => by rw [rvAll, rvL_len, rvAll_len q L k]
theorem rvAll_next (q : Nat) (L : List ByteArray) {j : Nat} (hj : 101 ≤ j) : rvAll q L (j + 1 - 101) = rvL q j ((rvAll q L (j - 101)).getD j { data := #[] }) (rvAll q L (j - 101)) := by
 rw [show j + 1 - 101 = (j - 101) + 1 by omega, rvAll, show 101 + (j - 101) = j by omega]
open Go.RowKit
set_option maxHeartbeats 8000000 in
theorem undoRecover_bad (P Q : Option Addr) (cp cq : Nat) (l : List ByteArray) (m : List Wr) (w : World) (hh : HasD w P Q l m) (hn : l.length ≤ 9223372036854775807) (hm : m.length ≤ 9223372036854775807) {E : Int} (hE : dkErr l m = E) (hE0 : E ≠ 0) : Calls Try.prog 16 #[.agg #[.slice P l.length cp, .slice Q m.length cq]] w (NoDisk E w) := by
 have hx := heap_past (.cells #[.slice none 0 0, .slice none 0 0] 25) (heap_new w (.cells #[.slice P l.length cp, .slice Q m.length cq] 25))
 have hr := heap_new (w.alloc (.cells #[.slice P l.length cp, .slice Q m.length cq] 25)) (.cells #[.slice none 0 0, .slice none 0 0] 25)
 rw [World.size_alloc] at hr
 have hu := ((Calm.refl w).alloc (.cells #[.slice P l.length cp, .slice Q m.length cq] 25)).alloc (.cells #[.slice none 0 0, .slice none 0 0] 25)
 have cS := fun u (hu : Calm w u) => (hh.calm hu).sync_bad cp cq hn hm hE hE0
 unfold NoDisk at cS
 have HE : Hid (∀ w', Calm w w' → NoDisk E w (.returned (.tuple #[.agg #[.slice none 0 0, .slice none 0 0], .int .i64 E])) w') := show ∀ _, _ from fun w' h => ⟨rfl, h⟩
 generalize NoDisk E w = PE at HE ⊢
 have b1 : (E != 0) = true := by rw [bne_iff_ne]; exact hE0
 clear hh hn hm hE hE0
 obtain ⟨x0, x1, hxs⟩ := rowD hx; obtain ⟨r0, r1, hrs⟩ := rowD hr; obtain ⟨f0, f1⟩ := freeD2 hr
 go_enter Try.func16, Try.ntmps16
 generalize hQ0 : bodyPost Try.prog Try.f16 PE = Q0
 have HRET : Hid (∀ a w', bodyPost Try.prog Try.f16 PE .ret a w' → Q0 .ret a w') := show ∀ _ _, _ from fun a w' h => by rw [← hQ0]; exact h
 clear hQ0
 go_wp2_with (go_at_call 21; (with_reducible refine (cS _ hu).mono ?_); rintro e w3 ⟨rfl, hk⟩; clear x0 x1 hxs r0 r1 hrs f0 f1; replace hx := (hk.block (rowD hx).2.2).trans hx; replace hr := (hk.block (rowD hr).2.2).trans hr; replace hu := hu.call hk; clear hk; replace hx := heap_past (.cells #[.slice none 0 0, .slice none 0 0] 25) hx; replace hr := heap_past (.cells #[.slice none 0 0, .slice none 0 0] 25) hr; replace hu := hu.alloc (.cells #[.slice none 0 0, .slice none 0 0] 25); obtain ⟨x0, x1, hxs⟩ := rowD hx; obtain ⟨r0, r1, hrs⟩ := rowD hr; obtain ⟨f0, f1⟩ := freeD2 hr)
 have hr9 := setD2 hr (.slice none 0 0) (.slice none 0 0)
 have hu9 := hu.twoD (g := w.heap.size + 1) (by omega) (.slice none 0 0) (.slice none 0 0)
 exact HRET.out _ _ (end_dkE (p := 2) (q := 3) rfl rfl _ _ _ _ _ _ _ rfl rfl rfl hr9 rfl (HE.out _ hu9))
set_option maxHeartbeats 8000000 in
theorem undoRecover_seq (P Q : Option Addr) (cp cq : Nat) (l : List ByteArray) (m : List Wr) (w : World) (hh : HasD w P Q l m) (h0 : dkErr l m = 0) {E : Int} (hE0 : E ≠ 0) (t : ByteArray) (hS : ∀ u A c, LiesP u A (curP l m) → Calls Try.prog 14 #[.agg #[.slice A l.length c, .slice none 0 0]] u (Sq3 0 t E u)) : Calls Try.prog 16 #[.agg #[.slice P l.length cp, .slice Q m.length cq]] w (NoDisk E w) := by
 have hx := heap_past (.cells #[.slice none 0 0, .slice none 0 0] 25) (heap_new w (.cells #[.slice P l.length cp, .slice Q m.length cq] 25))
 have hr := heap_new (w.alloc (.cells #[.slice P l.length cp, .slice Q m.length cq] 25)) (.cells #[.slice none 0 0, .slice none 0 0] 25)
 rw [World.size_alloc] at hr
 have hu := ((Calm.refl w).alloc (.cells #[.slice P l.length cp, .slice Q m.length cq] 25)).alloc (.cells #[.slice none 0 0, .slice none 0 0] 25)
 have cS := fun u (hu : Calm w u) => (hh.calm hu).sync cp cq h0
 generalize curP l m = LS at hS cS
 have HE : Hid (∀ w', Calm w w' → NoDisk E w (.returned (.tuple #[.agg #[.slice none 0 0, .slice none 0 0], .int .i64 E])) w') := show ∀ _, _ from fun w' h => ⟨rfl, h⟩
 generalize NoDisk E w = PE at HE ⊢
 have b1 : (E != 0) = true := by rw [bne_iff_ne]; exact hE0
 clear hh h0 hE0
 obtain ⟨x0, x1, hxs⟩ := rowD hx; obtain ⟨r0, r1, hrs⟩ := rowD hr; obtain ⟨f0, f1⟩ := freeD2 hr
 go_enter Try.func16, Try.ntmps16
 generalize hQ0 : bodyPost Try.prog Try.f16 PE = Q0
 have HRET : Hid (∀ a w', bodyPost Try.prog Try.f16 PE .ret a w' → Q0 .ret a w') := show ∀ _ _, _ from fun a w' h => by rw [← hQ0]; exact h
 clear hQ0
 go_wp2_with (first
  |(go_at_call 21; (with_reducible refine (cS _ hu).mono ?_); rintro e w3 ⟨P6, cp6, rfl, ho6, hk⟩; clear x0 x1 hxs r0 r1 hrs f0 f1; replace hx := (hk.block (rowD hx).2.2).trans hx; replace hr := (hk.block (rowD hr).2.2).trans hr; replace hu := hu.call hk; clear hk; have HP := Lib.hid ((OwnP.at_ ho6).2.calm ((Calm.refl _).alloc (.cells #[.slice P6 l.length cp6, .slice none 0 0] 25))); clear ho6; replace hx := heap_past (.cells #[.slice P6 l.length cp6, .slice none 0 0] 25) hx; replace hr := heap_past (.cells #[.slice P6 l.length cp6, .slice none 0 0] 25) hr; replace hu := hu.alloc (.cells #[.slice P6 l.length cp6, .slice none 0 0] 25); have hy := heap_new w3 (.cells #[.slice P6 l.length cp6, .slice none 0 0] 25); obtain ⟨x0, x1, hxs⟩ := rowD hx; obtain ⟨r0, r1, hrs⟩ := rowD hr; obtain ⟨f0, f1⟩ := freeD2 hr; obtain ⟨y0, y1, hys⟩ := rowD hy)
  |(go_at_call 14; (with_reducible refine (hS _ _ _ HP.out).mono ?_); rintro e w5 ⟨rfl, hk⟩; clear y0 y1 hys hy HP; clear x0 x1 hxs r0 r1 hrs f0 f1; replace hx := (hk.block (rowD hx).2.2).trans hx; replace hr := (hk.block (rowD hr).2.2).trans hr; replace hu := hu.call hk; clear hk; obtain ⟨x0, x1, hxs⟩ := rowD hx; obtain ⟨r0, r1, hrs⟩ := rowD hr; obtain ⟨f0, f1⟩ := freeD2 hr))
 have hr9 := setD2 hr (.slice none 0 0) (.slice none 0 0)
 have hu9 := hu.twoD (g := w.heap.size + 1) (by omega) (.slice none 0 0) (.slice none 0 0)
 exact HRET.out _ _ (end_dkE (p := 2) (q := 3) rfl rfl _ _ _ _ _ _ _ rfl rfl rfl hr9 rfl (HE.out _ hu9))
open Go.RowKit
theorem rv_empty (q : Nat) : ¬ rvOk { data := #[] } q := fun h => absurd h.1.1 (by decide)
theorem rvL_at {q i : Nat} {T : ByteArray} {L : List ByteArray} {j : Nat} (hj : j ≠ i) (hp : 100 < j ∨ j = 0) : (rvL q i T L)[j]? = L[j]? := by
 by_cases h : rvOk T q
 ·by_cases h2 : rvIs T q
  ·rw [rvL_two h h2, List.getElem?_set_ne (by have := h2.2; omega), List.getElem?_set_ne (by omega)]
  ·rw [rvL_one h h2, List.getElem?_set_ne (by omega)]
 ·rw [rvL_no h]
theorem rvL_here {q i : Nat} {L : List ByteArray} (hi : 100 < i) (hl : i < L.length) : ¬ rvOk ((rvL q i (L.getD i { data := #[] }) L).getD i { data := #[] }) q := by
 by_cases h : rvOk (L.getD i { data := #[] }) q
 ·have : (rvL q i (L.getD i { data := #[] }) L).getD i { data := #[] } = { data := #[] } := by
   by_cases h2 : rvIs (L.getD i { data := #[] }) q
   ·rw [rvL_two h h2, List.getD_eq_getElem?_getD, List.getElem?_set_ne (by have := h2.2; omega), List.getElem?_set_self hl]; rfl
   ·rw [rvL_one h h2, List.getD_eq_getElem?_getD, List.getElem?_set_self hl]; rfl
  rw [this]; exact rv_empty q
 ·rw [rvL_no h]; exact h
theorem rvAll_done (q : Nat) (L : List ByteArray) : ∀ k, 101 + k ≤ L.length → ∀ j, 101 ≤ j → j < 101 + k → ¬ rvOk ((rvAll q L k).getD j { data := #[] }) q
 | 0, _, j, h1, h2 => absurd h2 (by omega)
 |k + 1, hk, j, h1, h2 => by
  rw [rvAll]
  by_cases e : j = 101 + k
  ·subst e
   exact rvL_here (by omega) (by rw [rvAll_len]; omega)
  ·rw [List.getD_eq_getElem?_getD, rvL_at e (by omega), ← List.getD_eq_getElem?_getD]
   exact rvAll_done q L k (by omega) j h1 (by omega)
theorem rvAll_still {q : Nat} {L : List ByteArray} : ∀ {k}, (∀ j, 101 ≤ j → j < 101 + k → ¬ rvOk (L.getD j { data := #[] }) q) → rvAll q L k = L
 | 0, _ => rfl
 |k + 1, h => by
  rw [rvAll, rvAll_still (k := k) fun j h1 h2 => h j h1 (by omega)]
  exact rvL_no (h _ (by omega) (by omega))
theorem rvAll_head (q : Nat) (L : List ByteArray) : ∀ k, (rvAll q L k)[0]? = L[0]?
 | 0 => rfl
 |k + 1 => by rw [rvAll, rvL_at (by omega) (Or.inr rfl), rvAll_head q L k]
theorem gB_size (l : List UInt8) : (gB l).size ≤ 3000 := by
 unfold gB
 by_cases h : unErr l = 0
 ·rw [if_pos h, bytes_size]
  have h3 : ¬ 3000 < unSize l := fun h3 => by
   unfold unErr at h
   by_cases h5 : l.length < 5
   ·rw [if_pos h5] at h; cases h
   ·rw [if_neg h5, if_pos (Or.inr h3)] at h; cases h
  unfold unBody part
  rw [List.length_take]; omega
 ·rw [if_neg h]; decide
theorem rvL_small {q i : Nat} {T : ByteArray} {L : List ByteArray} (h : ∀ s ∈ L, s.size ≤ 3500) : ∀ s ∈ rvL q i T L, s.size ≤ 3500 := by
 have he : ({ data := #[] } : ByteArray).size ≤ 3500 := by decide
 have h1 : ∀ s ∈ L.set i { data := #[] }, s.size ≤ 3500 := fun s hs => by
  rcases List.mem_or_eq_of_mem_set hs with hs | rfl
  ·exact h s hs
  ·exact he
 by_cases h2 : rvOk T q
 ·by_cases h3 : rvIs T q
  ·rw [rvL_two h2 h3]
   intro s hs
   rcases List.mem_or_eq_of_mem_set hs with hs | rfl
   ·exact h1 s hs
   ·unfold rvT
    have := gB_size T.data.toList
    rw [ByteArray.size_extract]; omega
  ·rw [rvL_one h2 h3]; exact h1
 ·rw [rvL_no h2]; exact h
theorem rvAll_small {q : Nat} {L : List ByteArray} (h : ∀ s ∈ L, s.size ≤ 3500) : ∀ k, ∀ s ∈ rvAll q L k, s.size ≤ 3500
 | 0 => h
 |k + 1 => by rw [rvAll]; exact rvL_small (rvAll_small h k)
open Go.RowKit
/-- make([]string, k). -/
theorem makeStrs (w : World) (k : Nat) (hk : k ≤ 1000000) : (Instr.makeSlice 22 (.int .i64 (k : Int)) (.int .i64 (k : Int))).run Try.prog w =
    .ok (.slice (some ⟨w.heap.size, 0, none⟩) k k) (w.alloc (.cells (cvs stC (List.replicate k ByteArray.empty)).toArray 9)) := by
  obtain ⟨i, hi, hz, h1, h2⟩ : ∃ i, Try.prog.info? 9 = some i ∧ i.zero = some (.string ByteArray.empty) ∧ i.size = 1 ∧ i.bytes = 16 := by
    have h : (Try.prog.info? 9).map (fun i => (i.zero, i.size, i.bytes)) = some (some (.string ByteArray.empty), 1, 16) := by kernel_rfl
    match hi : Try.prog.info? 9, h with
    | some i, h =>
      simp only [Option.map_some, Option.some.injEq, Prod.mk.injEq] at h
      exact ⟨i, rfl, h.1, h.2.1, h.2.2⟩
  rw [run_make w 22 9 i _ Try.underlying22 hi hz .i64 .i64 k k (by omega) (by omega) (by rw [h2]; omega) (by omega), h1]
  have e : madeCells (Value.string ByteArray.empty).cells (((k : Int)).toNat * 1) = (cvs stC (List.replicate k ByteArray.empty)).toArray := by
    have h0 : cvs stC (List.replicate k ByteArray.empty) = List.replicate k (Value.string ByteArray.empty) := by
      unfold cvs
      induction k with
      | zero => rfl
      | succ k ih => rw [List.replicate_succ, List.flatMap_cons, List.replicate_succ, ih (by omega)]; rfl
    rw [h0]
    simp only [madeCells, Value.cells, Int.toNat_natCast, Nat.mul_one]
    apply Array.ext
    · simp
    · intro i h1 h2
      simp [Nat.mod_one]
  rw [e]; rfl
theorem own_strs (w : World) (k : Nat) (hk : k ≤ 1000000) : OwnG 9 stC 1 w.heap.size (w.alloc (.cells (cvs stC (List.replicate k ByteArray.empty)).toArray 9)) (.slice (some ⟨w.heap.size, 0, none⟩) k k) (List.replicate k ByteArray.empty) := by
 have hl : (cvs stC (List.replicate k ByteArray.empty)).length = k := by rw [cvs_len stC_len, List.length_replicate, Nat.mul_one]
 refine ⟨cvs_len stC_len _, .inr ⟨w.heap.size, k, _, by rw [List.length_replicate], Nat.le_refl _, heap_new _ _, by rw [List.length_replicate]; exact Nat.le_refl _, by unfold maxLen; omega, by simp [hl], ?_⟩⟩
 simp only [List.length_replicate, Nat.mul_one]
 rw [List.take_of_length_le (by simp [hl])]
open Go.RowKit
def headT (n : Nat) (s : ByteArray) : ByteArray := frS 8 ((⟨(be 4 n).toArray⟩ : ByteArray) ++ s)
theorem app_list (a b : ByteArray) : (a ++ b).data.toList = a.data.toList ++ b.data.toList := by rw [ByteArray.data_append, Array.toList_append]
/-- Of any frame that was written: what is read of it. -/
theorem frS_read {k : Nat} {s : ByteArray} (h1 : 1 ≤ k) (h2 : k ≤ 255) (hs : s.size ≤ 3000) : unErr (frS k s).data.toList = 0 ∧ gK (frS k s).data.toList = k ∧ gB (frS k s).data.toList = s := by
 have e : frErr (k : Int) s.size = 0 := by unfold frErr; rw [if_neg (by omega), if_neg (by omega)]
 have eT : (frS k s).data.toList = encF k s.data.toList ++ [] := by
  unfold frS
  rw [if_pos e, List.append_nil, Int.toNat_natCast]
 have hl : s.data.toList.length = s.size := bytes_len s
 obtain ⟨u1, u2, u3, u4⟩ := un_enc (k := k) (b := s.data.toList) (by omega) (by rw [hl]; omega) (by omega) []
 rw [← eT] at u1 u2 u3 u4
 refine ⟨u1, ?_, ?_⟩
 ·unfold gK; rw [if_pos u1, u2]
 ·unfold gB
  rw [if_pos u1, u4]
theorem head_ok {n : Nat} {s : ByteArray} (hn : n ≤ 2147483647) (hs : s.size ≤ 2900) : sqOk (headT n s) ∧ num ((gB (headT n s).data.toList).data.toList.take 4) = n ∧ (gB (headT n s).data.toList).extract 4 (gB (headT n s).data.toList).size = s ∧ (headT n s).size ≤ 3500 := by
 have hB : ((⟨(be 4 n).toArray⟩ : ByteArray) ++ s).size = 4 + s.size := by rw [ByteArray.size_append, bytes_size, be_length]
 obtain ⟨u1, u2, u3⟩ := frS_read (k := 8) (s := (⟨(be 4 n).toArray⟩ : ByteArray) ++ s) (by decide) (by decide) (by omega)
 have u1 : unErr (headT n s).data.toList = 0 := u1
 have u2 : gK (headT n s).data.toList = 8 := u2
 have u3 : gB (headT n s).data.toList = (⟨(be 4 n).toArray⟩ : ByteArray) ++ s := u3
 have e4 : ((⟨(be 4 n).toArray⟩ : ByteArray) ++ s).data.toList.take 4 = be 4 n := by
  rw [app_list, List.take_left' (by simp [be_length])]
 have en : num (((⟨(be 4 n).toArray⟩ : ByteArray) ++ s).data.toList.take 4) = n := by rw [e4, num_be 4 n (by omega)]
 refine ⟨⟨⟨u1, u2, by rw [u3]; omega⟩, by rw [u3, en]; exact hn⟩, by rw [u3, en], ?_, ?_⟩
 ·rw [u3]
  apply ByteArray.ext
  apply Array.toList_inj.1
  rw [part_extract, hB, app_list]
  unfold part
  rw [List.drop_left' (by simp [be_length]), List.take_of_length_le (by simp)]
 ·unfold headT
  rw [frS_size (by decide) (by decide) (by omega)]; omega
def preL (h : ByteArray) : List ByteArray := (List.replicate 201 ByteArray.empty).set 0 h
theorem pre_len (h : ByteArray) : (preL h).length = 201 := by unfold preL; rw [List.length_set, List.length_replicate]
theorem pre_at (h : ByteArray) : (preL h)[0]? = some h ∧ ∀ i, 1 ≤ i → i ≤ 200 → (preL h)[i]? = some ByteArray.empty := by
 unfold preL
 refine ⟨by rw [List.getElem?_set, if_pos rfl, if_pos (by rw [List.length_replicate]; decide)], fun i h1 h2 => ?_⟩
 rw [List.getElem?_set, if_neg (by omega), List.getElem?_replicate, if_pos (by omega)]
theorem pre_dk {h : ByteArray} (hs : h.size ≤ 3500) : dkErr (preL h) [] = 0 := by
 refine dkErr_zero.2 ⟨by rw [pre_len]; decide, by simp, fun s hs' => ?_, by simp⟩
 unfold preL at hs'
 rcases List.mem_or_eq_of_mem_set hs' with h1 | h1
 ·rw [(List.mem_replicate.1 h1).2]; decide
 ·rw [h1]; exact hs
/-- make([]string, 201), a disk of it, its first page. -/
theorem pre_world (w : World) (h : ByteArray) : Calm w (((w.alloc (.cells (cvs stC (List.replicate 201 ByteArray.empty)).toArray 9)).alloc (.cells #[.slice (some ⟨w.heap.size, 0, none⟩) 201 201, .slice none 0 0] 25)).setCell ⟨w.heap.size, 0, none⟩ (.string h)) ∧
    OwnP w.heap.size (((w.alloc (.cells (cvs stC (List.replicate 201 ByteArray.empty)).toArray 9)).alloc (.cells #[.slice (some ⟨w.heap.size, 0, none⟩) 201 201, .slice none 0 0] 25)).setCell ⟨w.heap.size, 0, none⟩ (.string h)) (.slice (some ⟨w.heap.size, 0, none⟩) 201 201) (preL h) ∧
    (((w.alloc (.cells (cvs stC (List.replicate 201 ByteArray.empty)).toArray 9)).alloc (.cells #[.slice (some ⟨w.heap.size, 0, none⟩) 201 201, .slice none 0 0] 25)).setCell ⟨w.heap.size, 0, none⟩ (.string h)).heap[w.heap.size + 1]? = some (.cells #[.slice (some ⟨w.heap.size, 0, none⟩) 201 201, .slice none 0 0] 25 (0, 0)) := by
  have h1 : OwnP w.heap.size (w.alloc (.cells (cvs stC (List.replicate 201 ByteArray.empty)).toArray 9)) (.slice (some ⟨w.heap.size, 0, none⟩) 201 201) (List.replicate 201 ByteArray.empty) := own_strs w 201 (by omega)
  have h2 := h1.calm ((Calm.refl _).alloc (.cells #[.slice (some ⟨w.heap.size, 0, none⟩) 201 201, .slice none 0 0] 25))
  have h3 := rv_set h2 (i := 0) (by rw [List.length_replicate]; decide) h
  have hb := heap_new (w.alloc (.cells (cvs stC (List.replicate 201 ByteArray.empty)).toArray 9)) (.cells #[.slice (some ⟨w.heap.size, 0, none⟩) 201 201, .slice none 0 0] 25)
  rw [World.size_alloc] at hb
  exact ⟨((((Calm.refl w).alloc _).alloc _).setCell (p := ⟨w.heap.size, 0, none⟩) (Nat.le_refl _) _), h3, (heap_setCell_other _ ⟨w.heap.size, 0, none⟩ (w.heap.size + 1) _ (by show w.heap.size + 1 ≠ w.heap.size; omega)).trans hb⟩
def endL (q : Nat) (P0 : List ByteArray) (hd : ByteArray) (ws : List Wr) : List ByteArray := curP (curP (curP P0 (recsW q P0 ws)) ws) [headW q hd]
section
variable {q : Nat} {P0 : List ByteArray} {hd : ByteArray} {ws : List Wr} (G : GpC q P0 hd ws)
include G
theorem end_set : endL q P0 hd ws = (curP (curP P0 (recsW q P0 ws)) ws).set 0 (headT (q + 1) hd) := by
 unfold endL
 show (curP (curP P0 (recsW q P0 ws)) ws).set (headW q hd).i.toNat (headW q hd).s = _
 show (curP (curP P0 (recsW q P0 ws)) ws).set 0 (hdS ((q + 1 : Nat) : Int) hd) = _
 rw [G.hdS_]; rfl
theorem end_head : (endL q P0 hd ws)[0]? = some (headT (q + 1) hd) := by
 rw [end_set G, List.getElem?_set, if_pos rfl, if_pos (by rw [G.l2]; decide)]
theorem end_page {i : Nat} {x : ByteArray} (h1 : 1 ≤ i) (h2 : i ≤ 100) (hx : P0[i]? = some x) : (endL q P0 hd ws)[i]? = some (rdL i ws x) := by
 rw [end_set G, List.getElem?_set, if_neg (by omega)]
 have e1 : (curP P0 (recsW q P0 ws))[i]? = some x := by
  have h := cur_old (l := P0) (m := recsW q P0 ws) G.dkr hx
  have h3 := rd1_ (q := q) (P0 := P0) (ws := ws) (k := ws.length) h2 x
  rw [recs_all] at h3
  rw [h3] at h
  exact h
 exact cur_old G.dkw e1
end
/-- A page that one write of the group is to. -/
theorem rd_one {ws : List Wr} (hd : ∀ (j k : Nat) (x y : Wr), j < k → ws[j]? = some x → ws[k]? = some y → x.i ≠ y.i) {k : Nat} {y : Wr} (hy : ws[k]? = some y) (s : ByteArray) : rdL y.i ws s = y.s := by
 obtain ⟨hk, he⟩ := List.getElem?_eq_some_iff.1 hy
 have h1 : ∀ (a b : List Wr) (s : ByteArray), rdL y.i (a ++ b) s = rdL y.i b (rdL y.i a s) := fun a => by
  induction a with
  |nil => intros; rfl
  |cons x a ih => intro b s; exact ih b _
 have e : ws = ws.take k ++ (y :: ws.drop (k + 1)) := by
  conv => lhs; rw [← List.take_append_drop k ws, List.drop_eq_getElem_cons hk, he]
 rw [e, h1]
 show rdL y.i (ws.drop (k + 1)) (if y.i = y.i then y.s else _) = _
 rw [if_pos rfl]
 refine rdL_none fun x hx => ?_
 obtain ⟨j, hj⟩ := List.getElem?_of_mem hx
 rw [List.getElem?_drop] at hj
 exact fun e => hd k (k + 1 + j) y x (by omega) hy hj e.symm
open Go.RowKit
/-- What is read of an undo record. -/
theorem rec_read {q pg : Nat} {s : ByteArray} (hq : q + 1 < 4294967296) (h1 : 1 ≤ pg) (h2 : pg ≤ 100) (hs : s.size ≤ 2900) {T : ByteArray} (hT : T = frS 9 ((⟨(be 4 (q + 1)).toArray⟩ : ByteArray) ++ ⟨(be 4 pg).toArray⟩ ++ s)) :
    rvOk T q ∧ rvIs T q ∧ rvP T = pg ∧ rvT T = s ∧ ∀ r, q + 1 ≤ r → ¬ rvOk T r := by
  have hB : ((⟨(be 4 (q + 1)).toArray⟩ : ByteArray) ++ ⟨(be 4 pg).toArray⟩ ++ s).size = 8 + s.size := by rw [ByteArray.size_append, ByteArray.size_append, bytes_size, be_length, bytes_size, be_length]
  obtain ⟨u1, u2, u3⟩ := frS_read (k := 9) (s := (⟨(be 4 (q + 1)).toArray⟩ : ByteArray) ++ ⟨(be 4 pg).toArray⟩ ++ s) (by decide) (by decide) (by omega)
  have u1 : unErr T.data.toList = 0 := by rw [hT]; exact u1
  have u2 : gK T.data.toList = 9 := by rw [hT]; exact u2
  have u3 : gB T.data.toList = (⟨(be 4 (q + 1)).toArray⟩ : ByteArray) ++ ⟨(be 4 pg).toArray⟩ ++ s := by rw [hT]; exact u3
  have el : ((⟨(be 4 (q + 1)).toArray⟩ : ByteArray) ++ ⟨(be 4 pg).toArray⟩ ++ s).data.toList = be 4 (q + 1) ++ (be 4 pg ++ s.data.toList) := by
    rw [app_list, app_list, List.append_assoc]
  have en : num ((gB T.data.toList).data.toList.take 4) = q + 1 := by rw [u3, el, List.take_left' (be_length _ _), num_be 4 _ (by omega)]
  have ep : rvP T = pg := by
    unfold rvP
    rw [u3, el]
    unfold part
    rw [List.drop_left' (be_length _ _), List.take_left' (be_length _ _), num_be 4 _ (by omega)]
  refine ⟨⟨⟨u1, u2, by rw [u3, hB]; omega⟩, by rw [en]; omega⟩, ⟨en, by omega, by omega⟩, ep, ?_, fun r hr h => ?_⟩
  · unfold rvT
    rw [u3, hB]
    apply ByteArray.ext
    apply Array.toList_inj.1
    rw [part_extract, el]
    unfold part
    rw [← List.append_assoc, List.drop_left' (by rw [List.length_append, be_length, be_length]), List.take_of_length_le (by simp)]
  · have := h.2
    rw [en] at this; omega
theorem rvOk_up {T : ByteArray} {q r : Nat} (h : ¬ rvOk T q) (hr : q ≤ r) : ¬ rvOk T r := fun h2 => h ⟨h2.1, by have := h2.2; omega⟩
theorem done_other {f : Nat → Bool} {i : Nat} : ∀ {M : List Wr} {k : Nat} {L : List ByteArray}, (∀ x ∈ M, 0 ≤ x.i ∧ x.i ≠ (i : Int)) → (doneL f k M L)[i]? = L[i]?
 | [], _, _, _ => rfl
 |x :: M, k, L, h => by
  have hx := h x List.mem_cons_self
  show (doneL f (k + 1) M (if f k = true then L.set x.i.toNat x.s else L))[i]? = _
  rw [done_other (M := M) fun y hy => h y (List.mem_cons_of_mem _ hy)]
  split
  ·rw [List.getElem?_set_ne (by omega)]
  ·rfl
theorem rvAll_behind (q : Nat) (L : List ByteArray) : ∀ k j, 101 + k ≤ j → (rvAll q L k)[j]? = L[j]?
 | 0, _, _ => rfl
 |k + 1, j, h => by rw [rvAll, rvL_at (by omega) (Or.inl (by omega)), rvAll_behind q L k j (by omega)]
section
variable {q : Nat} {L : List ByteArray} {hd : ByteArray} {ws : List Wr}
def Hit (q : Nat) (L : List ByteArray) (ws : List Wr) (c : List ByteArray) (j : Nat) (x : Wr) : Prop := ws[j]? = some x ∧ c[101 + j]? = some (recW q L j x).s
theorem hit_read (G : GpC q L hd ws) {c : List ByteArray} {j : Nat} {x : Wr} (h : Hit q L ws c j x) : ∃ pg : Nat, x.i = (pg : Int) ∧ 1 ≤ pg ∧ pg ≤ 100 ∧ L[pg]? = some (oldL L x) ∧ rvOk (recW q L j x).s q ∧ rvIs (recW q L j x).s q ∧ rvP (recW q L j x).s = pg ∧ rvT (recW q L j x).s = oldL L x ∧ ∀ r, q + 1 ≤ r → ¬ rvOk (recW q L j x).s r := by
 obtain ⟨i, s⟩ := x
 have hx := G.g.r _ (List.mem_of_getElem? h.1)
 have ho := G.o _ (List.mem_of_getElem? h.1)
 obtain ⟨pg, rfl⟩ : ∃ k : Nat, i = (k : Int) := ⟨i.toNat, by have : 1 ≤ i := hx.1; omega⟩
 have h1 : 1 ≤ pg := by have : (1 : Int) ≤ (pg : Int) := hx.1; omega
 have h2 : pg ≤ 100 := by have : (pg : Int) ≤ 100 := hx.2.1; omega
 obtain ⟨y, hy⟩ : ∃ y, L[pg]? = some y := ⟨_, List.getElem?_eq_getElem (by rw [G.l0]; omega)⟩
 have hoy := oldL_at (s := s) hy
 have := G.q
 obtain ⟨a, b, c', d, e⟩ := rec_read (q := q) (pg := pg) (s := oldL L ⟨(pg : Int), s⟩) (by omega) h1 h2 ho (T := (recW q L j ⟨(pg : Int), s⟩).s) (by unfold recW; rw [Int.toNat_natCast])
 exact ⟨pg, rfl, h1, h2, by rw [hoy]; exact hy, a, b, c', d, e⟩
/-- Recovery puts the old pages back. -/
theorem rv_back (G : GpC q L hd ws) {c : List ByteArray} (hc : c.length = 201) (h : ∀ j, j < 100 → (¬ rvOk (c.getD (101 + j) { data := #[] }) q) ∨ ∃ x, Hit q L ws c j x) : ∀ n : Nat, n ≤ 100 → ∀ i : Nat, 1 ≤ i → i ≤ 100 → (c[i]? = L[i]? ∨ ∃ j x, j < n ∧ Hit q L ws c j x ∧ x.i = (i : Int)) → (rvAll q c n)[i]? = L[i]? := by
 intro n
 induction n with
 |zero =>
  intro _ i _ _ hi
  rcases hi with hi | ⟨j, _, hj, _⟩
  ·exact hi
  ·omega
 |succ n ih =>
  intro hn i h1 h2 hi
  have e : (rvAll q c n).getD (101 + n) { data := #[] } = c.getD (101 + n) { data := #[] } := by
   rw [List.getD_eq_getElem?_getD, rvAll_behind q c n _ (Nat.le_refl _), ← List.getD_eq_getElem?_getD]
  rw [rvAll, e]
  rcases h n (by omega) with hno | ⟨x, hx⟩
  ·rw [rvL_no hno]
   refine ih (by omega) i h1 h2 ?_
   rcases hi with hi | ⟨j, y, hj, hy, hyi⟩
   ·exact .inl hi
   ·rcases (by omega : j < n ∨ j = n) with hjn | rfl
    ·exact .inr ⟨j, y, hjn, hy, hyi⟩
    ·exfalso
     obtain ⟨_, -, -, -, -, hok, -⟩ := hit_read G hy
     apply hno
     rw [List.getD_eq_getElem?_getD, hy.2]
     exact hok
  ·obtain ⟨pg, hxi, p1, p2, hLp, hok, his, hP, hT, -⟩ := hit_read G hx
   have ec : c.getD (101 + n) { data := #[] } = (recW q L n x).s := by rw [List.getD_eq_getElem?_getD, hx.2]; rfl
   rw [ec, rvL_two hok his, hP, hT]
   by_cases hip : i = pg
   ·rw [hip, List.getElem?_set_self (by rw [List.length_set, rvAll_len, hc]; omega), hLp]
   ·rw [List.getElem?_set_ne (by omega), List.getElem?_set_ne (by omega)]
    refine ih (by omega) i h1 h2 ?_
    rcases hi with hi | ⟨j, y, hj, hy, hyi⟩
    ·exact .inl hi
    ·rcases (by omega : j < n ∨ j = n) with hjn | rfl
     ·exact .inr ⟨j, y, hjn, hy, hyi⟩
     ·exfalso
      have := hy.1.symm.trans hx.1
      injection this with this
      subst this
      omega
/-- The pages of undo records behind the first sync. -/
theorem p1_at (G : GpC q L hd ws) {f : Nat → Bool} {k : Nat} : (∀ i : Nat, i ≤ 100 → (doneL f 0 ((recsW q L ws).take k) L)[i]? = L[i]?) ∧ ∀ j, j < 100 → (doneL f 0 ((recsW q L ws).take k) L)[101 + j]? = L[101 + j]? ∨ ∃ x, Hit q L ws (doneL f 0 ((recsW q L ws).take k) L) j x := by
 have hm : ∀ y ∈ (recsW q L ws).take k, ∃ (a : Nat) (x : Wr), ws[a]? = some x ∧ y = recW q L a x := fun y hy => by
  obtain ⟨a, ha⟩ := List.getElem?_of_mem (List.mem_of_mem_take hy)
  have hal : a < ws.length := by have := (List.getElem?_eq_some_iff.1 ha).1; rwa [recs_len] at this
  have hx := List.getElem?_eq_getElem hal
  rw [recs_at hx] at ha
  injection ha with ha
  exact ⟨a, _, hx, ha.symm⟩
 refine ⟨fun i hi => done_other fun y hy => ?_, fun j hj => ?_⟩
 ·obtain ⟨a, x, -, rfl⟩ := hm y hy
  show (0 : Int) ≤ ((101 + a : Nat) : Int) ∧ ((101 + a : Nat) : Int) ≠ _
  omega
 ·obtain ⟨p, hp⟩ : ∃ p, L[101 + j]? = some p := ⟨_, List.getElem?_eq_getElem (by rw [G.l0]; omega)⟩
  obtain ⟨t, ht⟩ : ∃ t, (doneL f 0 ((recsW q L ws).take k) L)[101 + j]? = some t := ⟨_, List.getElem?_eq_getElem (by rw [doneL_len, G.l0]; omega)⟩
  rcases done_val (fun x hx => G.recs1 x (List.mem_of_mem_take hx)) hp ht with h | ⟨a, y, hy, hyi, hys, -⟩
  ·left; rw [ht, hp, h]
  ·right
   obtain ⟨b, x, hx, rfl⟩ := hm y (List.mem_of_getElem? hy)
   have : ((101 + b : Nat) : Int) = ((101 + j : Nat) : Int) := hyi
   have hbj : b = j := by omega
   subst hbj
   exact ⟨x, hx, by rw [ht, hys]⟩
theorem p1_all (G : GpC q L hd ws) {j : Nat} {x : Wr} (hx : ws[j]? = some x) : (curP L (recsW q L ws))[101 + j]? = some (recW q L j x).s := by
 have hj := (List.getElem?_eq_some_iff.1 hx).1
 have hn := G.n
 obtain ⟨p, hp⟩ : ∃ p, L[101 + j]? = some p := ⟨_, List.getElem?_eq_getElem (by rw [G.l0]; omega)⟩
 rw [cur_old G.dkr hp]
 have hd2 : ∀ (a b : Nat) (y z : Wr), a < b → (recsW q L ws)[a]? = some y → (recsW q L ws)[b]? = some z → y.i ≠ z.i := fun a b y z hab hy hz => by
  have ha : a < ws.length := by have := (List.getElem?_eq_some_iff.1 hy).1; rwa [recs_len] at this
  have hb : b < ws.length := by have := (List.getElem?_eq_some_iff.1 hz).1; rwa [recs_len] at this
  rw [recs_at (List.getElem?_eq_getElem ha)] at hy
  rw [recs_at (List.getElem?_eq_getElem hb)] at hz
  injection hy with hy
  injection hz with hz
  subst hy; subst hz
  show ((101 + a : Nat) : Int) ≠ ((101 + b : Nat) : Int)
  omega
 have h := rd_one hd2 (recs_at (q := q) (P0 := L) hx) p
 exact congrArg some h
/-- Whatever a crash at step j leaves: the old pages come back, or the new ones stay. -/
theorem whole_maths (G : GpC q L hd ws) (hno : ∀ j, j < 100 → ¬ rvOk (L.getD (101 + j) { data := #[] }) q) (j : Nat) (h1 : 1 ≤ j) (h2 : j ≤ 2 * ws.length + 5) (f : Nat → Bool) :
    (j ≤ 2 * ws.length + 4 ∧ (doneL f 0 (stD L [] q hd ws j).2 (stD L [] q hd ws j).1)[0]? = L[0]? ∧ ∀ i, 1 ≤ i → i ≤ 100 → (rvAll q (doneL f 0 (stD L [] q hd ws j).2 (stD L [] q hd ws j).1) 100)[i]? = L[i]?) ∨
    ((doneL f 0 (stD L [] q hd ws j).2 (stD L [] q hd ws j).1)[0]? = some (headT (q + 1) hd) ∧ ∀ i, 1 ≤ i → i ≤ 100 → (rvAll (q + 1) (doneL f 0 (stD L [] q hd ws j).2 (stD L [] q hd ws j).1) 100)[i]? = (curP L ws)[i]?) := by
  have hn := G.n
  have hL : curP L [] = L := rfl
  have hgetD : ∀ (c : List ByteArray) (a : Nat), c[a]? = L[a]? → c.getD a { data := #[] } = L.getD a { data := #[] } := fun c a h => by rw [List.getD_eq_getElem?_getD, h, ← List.getD_eq_getElem?_getD]
  have mid : ∀ (f : Nat → Bool) (k : Nat), (doneL f 0 (ws.take k) (curP L (recsW q L ws)))[0]? = L[0]? ∧ (∀ a, a < 100 → (doneL f 0 (ws.take k) (curP L (recsW q L ws)))[101 + a]? = (curP L (recsW q L ws))[101 + a]?) ∧ ∀ i, 1 ≤ i → i ≤ 100 → (rvAll q (doneL f 0 (ws.take k) (curP L (recsW q L ws))) 100)[i]? = L[i]? := fun f k => by
    have hw : ∀ x ∈ ws.take k, 0 ≤ x.i ∧ 1 ≤ x.i ∧ x.i ≤ 100 := fun x hx => by have := G.g.r x (List.mem_of_mem_take hx); omega
    have P := p1_at G (f := fun _ => true) (k := ws.length)
    rw [recs_all] at P
    have e101 : ∀ a, a < 100 → (doneL f 0 (ws.take k) (curP L (recsW q L ws)))[101 + a]? = (curP L (recsW q L ws))[101 + a]? := fun a _ => done_other fun x hx => ⟨(hw x hx).1, by have := (hw x hx).2.2; omega⟩
    have hcl : (doneL f 0 (ws.take k) (curP L (recsW q L ws))).length = 201 := by rw [doneL_len]; exact G.l1
    refine ⟨(done_other fun x hx => ⟨(hw x hx).1, by have := (hw x hx).2.1; omega⟩).trans (P.1 0 (by omega)), e101, fun i i1 i2 => ?_⟩
    refine rv_back G hcl (fun a ha => ?_) 100 (Nat.le_refl _) i i1 i2 ?_
    · rcases P.2 a ha with h | ⟨x, hx⟩
      · left
        rw [hgetD _ _ ((e101 a ha).trans h)]
        exact hno a ha
      · exact .inr ⟨x, hx.1, (e101 a ha).trans hx.2⟩
    · obtain ⟨p, hp⟩ : ∃ p, (curP L (recsW q L ws))[i]? = some p := ⟨_, List.getElem?_eq_getElem (by rw [G.l1]; omega)⟩
      obtain ⟨t, ht⟩ : ∃ t, (doneL f 0 (ws.take k) (curP L (recsW q L ws)))[i]? = some t := ⟨_, List.getElem?_eq_getElem (by rw [hcl]; omega)⟩
      rcases done_val (fun x hx => G.ws2 G.l1 x (List.mem_of_mem_take hx)) hp ht with h | ⟨a, y, hy, hyi, -, -⟩
      · left
        rw [ht, h, ← hp]
        exact P.1 i (by omega)
      · right
        have hy2 : ws[a]? = some y := by
          rw [List.getElem?_take] at hy
          split at hy
          · exact hy
          · cases hy
        have hal := (List.getElem?_eq_some_iff.1 hy2).1
        exact ⟨a, y, by omega, ⟨hy2, (e101 a (by omega)).trans (p1_all G hy2)⟩, hyi⟩
  have mid2 := mid (fun _ => true) ws.length
  rw [List.take_of_length_le (Nat.le_refl _)] at mid2
  have last : (endL q L hd ws)[0]? = some (headT (q + 1) hd) ∧ ∀ i, 1 ≤ i → i ≤ 100 → (rvAll (q + 1) (endL q L hd ws) 100)[i]? = (curP L ws)[i]? := by
    refine ⟨end_head G, fun i i1 i2 => ?_⟩
    rw [rvAll_still]
    · obtain ⟨p, hp⟩ : ∃ p, L[i]? = some p := ⟨_, List.getElem?_eq_getElem (by rw [G.l0]; omega)⟩
      rw [end_page G i1 i2 hp, cur_old (dk_puts G.d0 (by omega) (G.ws2 G.l0)) hp]
    · intro a a1 a2
      obtain ⟨b, rfl⟩ : ∃ b, a = 101 + b := ⟨a - 101, by omega⟩
      have eq : (endL q L hd ws)[101 + b]? = (curP L (recsW q L ws))[101 + b]? := by
        rw [end_set G, List.getElem?_set_ne (by omega)]
        exact mid2.2.1 b (by omega)
      have P := p1_at G (f := fun _ => true) (k := ws.length)
      rw [recs_all] at P
      rcases P.2 b (by omega) with h | ⟨x, hx⟩
      · rw [hgetD _ _ (eq.trans h)]
        exact rvOk_up (hno b (by omega)) (by omega)
      · obtain ⟨_, -, -, -, -, -, -, -, -, hr⟩ := hit_read G hx
        have hx2 : (curP L (recsW q L ws))[101 + b]? = some (recW q L b x).s := hx.2
        rw [List.getD_eq_getElem?_getD, eq, hx2]
        exact hr (q + 1) (Nat.le_refl _)
  rcases stD_cases (l := L) (m := []) (q := q) (hd := hd) (ws := ws) j h1 h2 with ⟨k, hk, hj, e⟩ | ⟨k, hk, hj, e⟩ | ⟨hj, e⟩ | ⟨hj, e⟩ | ⟨-, e⟩ <;> rw [e]
  · left
    rw [hL]
    have P := p1_at G (f := f) (k := k)
    refine ⟨by omega, P.1 0 (by omega), fun i i1 i2 => rv_back G (by rw [doneL_len]; exact G.l0) (fun a ha => ?_) 100 (Nat.le_refl _) i i1 i2 (.inl (P.1 i i2))⟩
    rcases P.2 a ha with h | ⟨x, hx⟩
    · left
      rw [hgetD _ _ h]
      exact hno a ha
    · exact .inr ⟨x, hx⟩
  · left
    rw [hL]
    exact ⟨by omega, (mid f k).1, (mid f k).2.2⟩
  · left
    rw [hL]
    exact ⟨by omega, mid2.1, mid2.2.2⟩
  · rw [hL]
    by_cases hf : f 0 = true
    · right
      have e2 : doneL f 0 [headW q hd] (curP (curP L (recsW q L ws)) ws) = endL q L hd ws := by
        unfold endL curP
        exact doneL_ext fun a ha => by
          have : a = 0 := by simp at ha; omega
          subst this
          exact hf
      rw [e2]
      exact last
    · left
      have e2 : doneL f 0 [headW q hd] (curP (curP L (recsW q L ws)) ws) = curP (curP L (recsW q L ws)) ws := doneL_none fun a ha => by
        have : a = 0 := by simp at ha; omega
        subst this
        simpa using hf
      rw [e2]
      exact ⟨by omega, mid2.1, mid2.2.2⟩
  · right
    rw [hL]
    exact last
end
open Go.RowKit
theorem LiesP.drop1 {w : World} {b q : Nat} {L : List ByteArray} (h : LiesP w (some ⟨b, q, none⟩) L) : LiesP w (some ⟨b, q + 1, none⟩) (L.drop 1) := fun hl => by
 rw [List.length_drop] at hl
 obtain ⟨b', q', e, hb, hc⟩ := h (by omega)
 injection e with e
 injection e with e1 e2
 subst e1; subst e2
 refine ⟨b, q + 1, rfl, hb, fun k x hx j hj => ?_⟩
 rw [List.getElem?_drop] at hx
 rw [← hc (1 + k) x hx j hj]
 congr 2; omega
theorem own_cap {α : Type} {cv : α → List Value} {N B n c : Nat} {t : TypeId} {w : World} {A : Option Addr} {l : List α} (h : OwnG t cv N B w (.slice A n c) l) : n ≤ c := by
 obtain ⟨A', c', e, h1, -⟩ := OwnG.slice h
 injection e with e1 e2 e3
 omega
theorem pre_pre (w : World) : ((w.alloc (.cells (cvs stC (List.replicate 201 ByteArray.empty)).toArray 9)).alloc (.cells #[.slice (some ⟨w.heap.size, 0, none⟩) 201 201, .slice none 0 0] 25)).heap[w.heap.size + 1]? = some (.cells #[.slice (some ⟨w.heap.size, 0, none⟩) 201 201, .slice none 0 0] 25 (0, 0)) ∧
    ((w.alloc (.cells (cvs stC (List.replicate 201 ByteArray.empty)).toArray 9)).alloc (.cells #[.slice (some ⟨w.heap.size, 0, none⟩) 201 201, .slice none 0 0] 25)).cell? ⟨w.heap.size, 0, none⟩ = some (.string ByteArray.empty) ∧
    ((w.alloc (.cells (cvs stC (List.replicate 201 ByteArray.empty)).toArray 9)).alloc (.cells #[.slice (some ⟨w.heap.size, 0, none⟩) 201 201, .slice none 0 0] 25)).frozen? ⟨w.heap.size, 0, none⟩ = false := by
  have h1 : OwnP w.heap.size (w.alloc (.cells (cvs stC (List.replicate 201 ByteArray.empty)).toArray 9)) (.slice (some ⟨w.heap.size, 0, none⟩) 201 201) (List.replicate 201 ByteArray.empty) := own_strs w 201 (by omega)
  have h2 := h1.calm ((Calm.refl _).alloc (.cells #[.slice (some ⟨w.heap.size, 0, none⟩) 201 201, .slice none 0 0] 25))
  have hb := heap_new (w.alloc (.cells (cvs stC (List.replicate 201 ByteArray.empty)).toArray 9)) (.cells #[.slice (some ⟨w.heap.size, 0, none⟩) 201 201, .slice none 0 0] 25)
  rw [World.size_alloc] at hb
  exact ⟨hb, rv_cell h2 (i := 0) (by rw [List.getElem?_replicate, if_pos (by decide)]), OwnG.frozen h2 0⟩
/-- What Seq answers on a disk with nothing pending whose first page is a head. -/
theorem seq_head {u : World} {A Q : Option Addr} {c cq N : Nat} {L : List ByteArray} {n : Nat} {s : ByteArray} (hL : LiesP u A L) (hz : dkErr L [] = 0) (hl : L.length = 201) (hN : N = 201) (h0 : L[0]? = some (headT n s)) (hn : n ≤ 2147483647) (hs : s.size ≤ 2900) : Calls Try.prog 14 #[.agg #[.slice A N c, .slice Q 0 cq]] u (Sq3 (n : Int) s 0 u) := by
 obtain ⟨h1, h2, h3, -⟩ := head_ok hn hs
 have h := uSeq_ok A Q c cq L [] u ⟨hL, LiesG.nil_⟩ (by omega) (by simp) hz hl (T := headT n s) h0 rfl h1
 rw [h2, h3, hl] at h
 rw [hN]
 exact h
open Go.RowKit
theorem pre_gpc {n : Nat} {s hd : ByteArray} {x : Wr} (hn : n ≤ 2147483646) (hs : s.size ≤ 2900) (hh : hd.size ≤ 2900) (hx : 1 ≤ x.i ∧ x.i ≤ 100 ∧ x.s.size ≤ 2900) : GpC n (preL (headT n s)) hd [x] ∧ gpE n (preL (headT n s)) hd [x] = 0 := by
 obtain ⟨-, -, -, h4⟩ := head_ok (n := n) (s := s) (by omega) hs
 obtain ⟨i, t⟩ := x
 obtain ⟨h1, h2, h3⟩ := hx
 have h1 : 1 ≤ i := h1
 have h2 : i ≤ 100 := h2
 have h3 : t.size ≤ 2900 := h3
 obtain ⟨pg, rfl⟩ : ∃ k : Nat, i = (k : Int) := ⟨i.toNat, by omega⟩
 have ho : oldL (preL (headT n s)) ⟨(pg : Int), t⟩ = ByteArray.empty := oldL_at ((pre_at _).2 pg (by omega) (by omega))
 have hz : (ByteArray.empty).size = 0 := rfl
 have hg : gwE [] ⟨(pg : Int), t⟩ = 0 := gwE_zero.2 ⟨h1, h2, h3, fun y hy => by simp at hy⟩
 have hg2 : gwsE [] [⟨(pg : Int), t⟩] = 0 := by unfold gwsE; rw [if_pos hg]; rfl
 refine ⟨⟨pre_len _, pre_dk h4, gw_ok hg2, fun y hy => ?_, by simp, hh, hn⟩, ?_⟩
 ·rw [List.mem_singleton] at hy
  rw [hy, ho, hz]; omega
 ·unfold gpE
  rw [if_neg (by simp; omega), if_pos hg2, if_neg, if_neg (by omega)]
  simp only [List.any_cons, List.any_nil, Bool.or_false, ho, hz]
  decide
theorem steps_pre {u : World} {A : Option Addr} {c n g : Nat} {s hd : ByteArray} {x : Wr} (h : LiesP u A (preL (headT n s))) (hg : u.heap[g]? = some (.cells #[.int .i64 x.i, .string x.s] 45 (0, 0))) (hn : n ≤ 2147483646) (hs : s.size ≤ 2900) (hh : hd.size ≤ 2900) (hx : 1 ≤ x.i ∧ x.i ≤ 100 ∧ x.s.size ≤ 2900) :
    Calls Try.prog 20 #[.agg #[.slice A 201 c, .slice none 0 0], .string hd, .slice (some ⟨g, 0, none⟩) 1 1] u (StEnd (walkD (preL (headT n s), []) (actsW n (preL (headT n s)) hd [x])) u) := by
  obtain ⟨G, hE⟩ := pre_gpc hn hs hh hx
  obtain ⟨-, -, -, h4⟩ := head_ok (n := n) (s := s) (by omega) hs
  have hW : LiesW u (some ⟨g, 0, none⟩) [x] := fun _ => ⟨g, 0, rfl, (Array.getElem?_eq_some_iff.1 hg).1, fun k y hk j hj => by
    have hk0 := (List.getElem?_eq_some_iff.1 hk).1
    have : k = 0 := by simp at hk0; omega
    subst this
    simp at hk
    subst hk
    rw [show 0 + 0 * 2 + j = j by omega, cell_of_row _ _ j _ _ _ hg]
    simp [wrC]⟩
  have hD : HasD u A none (preL (headT n s)) [] := ⟨h, LiesG.nil_⟩
  have hz := pre_dk h4
  have cS : ∀ v, Calm u v → Calls Try.prog 14 #[.agg #[.slice A (preL (headT n s)).length c, .slice none ([] : List Wr).length 0]] v (Sq3 (n : Int) s 0 v) := fun v hv => seq_head (Q := none) (cq := 0) (h.calm hv) hz (pre_len _) (pre_len _) (pre_at _).1 (by omega) hs
  have h1 := steps_ok (cp := c) (cq := 0) (c := 1) hD hz hd [x] hW (q := n) (fun v hv => by
    have h1 := check_ok (cp := c) (cq := 0) (c := 1) (hD.calm hv) hz (pre_len _) hd [x] (hW.calm hv) (fun y hy => cS y (hv.call hy))
    rw [show curP (preL (headT n s)) [] = preL (headT n s) from rfl, hE, if_pos rfl] at h1
    exact h1) G
  rw [pre_len] at h1
  exact h1
open Go.RowKit
def RecO (n : Nat) (L : List ByteArray) (w : World) (e : Ending) (w' : World) : Prop := ∃ A c, e = .returned (.tuple #[.agg #[.slice A n c, .slice none 0 0], .int .i64 0]) ∧ OwnP w.heap.size w' (.slice A n c) L ∧ Calm w w'
set_option maxHeartbeats 8000000 in
theorem undoRecover_own (P Q : Option Addr) (cp cq : Nat) (l : List ByteArray) (m : List Wr) (w : World) (hh : HasD w P Q l m) (h0 : dkErr l m = 0) (hl : l.length = 201) (q : Nat) (hq : q ≤ 2147483647) (t : ByteArray)
    (hS : ∀ u A c, LiesP u A (curP l m) → Calls Try.prog 14 #[.agg #[.slice A l.length c, .slice none 0 0]] u (Sq3 (q : Int) t 0 u)) :
    Calls Try.prog 16 #[.agg #[.slice P l.length cp, .slice Q m.length cq]] w (RecO l.length (rvAll q (curP l m) 100) w) := by
  have hx := heap_past (.cells #[.slice none 0 0, .slice none 0 0] 25) (heap_new w (.cells #[.slice P l.length cp, .slice Q m.length cq] 25))
  have hr := heap_new (w.alloc (.cells #[.slice P l.length cp, .slice Q m.length cq] 25)) (.cells #[.slice none 0 0, .slice none 0 0] 25)
  rw [World.size_alloc] at hr
  have hu := ((Calm.refl w).alloc (.cells #[.slice P l.length cp, .slice Q m.length cq] 25)).alloc (.cells #[.slice none 0 0, .slice none 0 0] 25)
  have cS := fun u (hu : Calm w u) => (hh.calm hu).sync cp cq h0
  have hLl : (curP l m).length = l.length := doneL_len _ _ _ _
  generalize curP l m = LS at hS cS hLl ⊢
  have HE : Hid (∀ w' A c, OwnP (w.heap.size + 1 + 1) w' (.slice A l.length c) (rvAll q LS 100) → Calm w w' → RecO l.length (rvAll q LS 100) w (.returned (.tuple #[.agg #[.slice A l.length c, .slice none 0 0], .int .i64 0])) w') := show ∀ _, _ from fun w' A c h1 h2 => ⟨A, c, rfl, OwnG.weaken h1 (Nat.le_trans (Nat.le_succ _) (Nat.le_succ _)), h2⟩
  generalize RecO l.length (rvAll q LS 100) w = PE at HE ⊢
  obtain ⟨n, hn⟩ : ∃ n, n = l.length := ⟨_, rfl⟩
  rw [← hn] at hx hr hu cS hS HE hLl ⊢
  have hn1 : n = 201 := by omega
  clear hh h0 hl hn
  obtain ⟨x0, x1, hxs⟩ := rowD hx
  obtain ⟨r0, r1, hrs⟩ := rowD hr
  have HN := Lib.hid hn1
  clear hn1
  go_enter Try.func16, Try.ntmps16
  generalize hQ0 : bodyPost Try.prog Try.f16 PE = Q0
  have HRET : Hid (∀ a w', bodyPost Try.prog Try.f16 PE .ret a w' → Q0 .ret a w') := show ∀ _ _, _ from fun a w' h => by rw [← hQ0]; exact h
  clear hQ0
  go_upto_region 2 with (go_at_call 21; (with_reducible refine (cS _ hu).mono ?_); rintro e w3 ⟨P6, cp6, rfl, ho6, hk⟩; replace hr := (hk.block hrs).trans hr; replace hu := hu.call hk; clear hk x0 x1 hxs hx)
  rw [World.size_alloc, World.size_alloc] at ho6
  obtain ⟨g, cap, hA⟩ := OwnG.some_ ho6 (by have := HN.out; omega)
  obtain rfl : P6 = some ⟨g, 0, none⟩ := by injection hA
  clear hA cap r0 r1 hrs
  have hg1 := (OwnG.lt ho6 g rfl).1
  have hg2 := (OwnG.lt ho6 g rfl).2
  replace hr := heap_past (.cells #[.slice (some ⟨g, 0, none⟩) n cp6, .slice none 0 0] 25) hr
  have h4 := heap_new w3 (.cells #[.slice (some ⟨g, 0, none⟩) n cp6, .slice none 0 0] 25)
  replace hu := hu.alloc (.cells #[.slice (some ⟨g, 0, none⟩) n cp6, .slice none 0 0] 25)
  have HO := Lib.hid (OwnP.calm ho6 ((Calm.refl _).alloc (.cells #[.slice (some ⟨g, 0, none⟩) n cp6, .slice none 0 0] 25)))
  have hg3 : w3.heap.size ≠ g := by omega
  generalize w3.heap.size = g4 at h4 hg2 hg3 ⊢
  generalize w3.alloc (.cells #[.slice (some ⟨g, 0, none⟩) n cp6, .slice none 0 0] 25) = w4 at hr h4 hu HO ⊢
  clear ho6 cS
  obtain ⟨y0, y1, hys⟩ := rowD h4
  have hrs := (rowD hr).2.2
  go_upto_region 7 with (go_at_call 14; (with_reducible refine (hS _ _ _ (OwnP.at_ HO.out).2).mono ?_); rintro e w5 ⟨rfl, hk⟩; replace hr := (hk.block hrs).trans hr; replace h4 := (hk.block hys).trans h4; replace hu := hu.call hk; replace HO := Lib.hid (HO.out.calm hk); clear hk y0 y1 hys hrs hS; obtain ⟨y0, y1, hys⟩ := rowD h4)
  clear y0 y1 hys
  go_wp2_with fail
  go_loopw [8] (fun i wr => ∃ j : Nat, 101 ≤ j ∧ j ≤ 201 ∧ i = .int .i64 j ∧ Calm w wr ∧ Hid (OwnP (w.heap.size + 1 + 1) wr (.slice (some ⟨g, 0, none⟩) n cp6) (rvAll q LS (j - 101))) ∧ wr.heap[w.heap.size + 1]? = some (.cells #[.slice none 0 0, .slice none 0 0] 25 (0, 0)) ∧ wr.heap[g4]? = some (.cells #[.slice (some ⟨g, 0, none⟩) n cp6, .slice none 0 0] 25 (0, 0))) (fun i _ => 201 - (intOf i).toNat)
  case atStart => exact ⟨101, by omega, by omega, rfl, hu, HO, hr, h4⟩
  case round =>
    obtain ⟨j, hj1, hj2, rfl, hv, HOk, hr, h4⟩ := hrel
    obtain ⟨y0, y1, hys⟩ := rowD h4
    by_cases hlt : j < 201
    · have hjl : j < (rvAll q LS (j - 101)).length := by rw [rvAll_len, hLl, HN.out]; exact hlt
      have HT := Lib.hid (rvAll_next q LS hj1)
      have hll : (rvAll q LS (j - 101)).length = n := by rw [rvAll_len, hLl]
      have hg : (rvAll q LS (j - 101))[j]? = some ((rvAll q LS (j - 101)).getD j { data := #[] }) := by rw [List.getD_eq_getElem?_getD, List.getElem?_eq_getElem hjl]; rfl
      have cR := revert_any HOk.out hll hg (by rw [HN.out]; omega) hq
      rw [← HT.out] at cR
      have hj3 : (j : Int) ≤ 200 := by omega
      have hrs := (rowD hr).2.2
      clear hjl hll hg HT
      go_wp2_with (go_at_call 61; (with_reducible refine cR.mono ?_); rintro e w6 ⟨rfl, ho, hcw, hot⟩; have HO9 := Lib.hid ho; have HC9 := Lib.hid hcw; have HT9 := Lib.hid hot; clear ho hcw hot)
      go_roundw
      case rel => exact ⟨j + 1, by omega, by omega, by go_num, HC9.out w (by omega) hv, HO9, (HT9.out _ hrs (by omega)).trans hr, (HT9.out _ hys hg3).trans h4⟩
      case measure => simp [intOf]; omega
    · obtain rfl : j = 201 := by omega
      obtain ⟨r0, r1, hrs⟩ := rowD hr
      obtain ⟨f0, f1⟩ := freeD2 hr
      have HO8 := HOk
      clear HOk
      go_wp2_with fail
      have hr9 := setD2 hr (.slice (some ⟨g, 0, none⟩) n cp6) (.slice none 0 0)
      have hu9 := hv.twoD (g := w.heap.size + 1) (by omega) (.slice (some ⟨g, 0, none⟩) n cp6) (.slice none 0 0)
      have ho9 := rowsG_set (rowsG_set HO8.out (Nat.lt_succ_self _) 0 (.slice (some ⟨g, 0, none⟩) n cp6)) (Nat.lt_succ_self _) 1 (.slice none 0 0)
      exact HRET.out _ _ (end_dkE (p := 2) (q := 3) rfl rfl _ _ _ _ _ _ _ rfl rfl rfl hr9 rfl (HE.out _ _ cp6 ho9 hu9))
open Go.RowKit
def midL (L : List ByteArray) : List ByteArray := (L.drop 1).take 100
theorem mid_len {L : List ByteArray} (h : L.length = 201) : (midL L).length = 100 := by unfold midL; rw [List.length_take, List.length_drop]; omega
theorem mid_at (L : List ByteArray) (j : Nat) : (midL L)[j]? = if j < 100 then L[1 + j]? else none := by
 unfold midL
 rw [List.getElem?_take, List.getElem?_drop]
theorem mid_ext {L R : List ByteArray} (h : ∀ i, 1 ≤ i → i ≤ 100 → R[i]? = L[i]?) : midL R = midL L := List.ext_getElem? fun j => by
 rw [mid_at, mid_at]
 split
 ·exact h (1 + j) (by omega) (by omega)
 ·rfl
theorem mid_set {L : List ByteArray} {p : Nat} (s : ByteArray) (h1 : 1 ≤ p) (h2 : p ≤ 100) (hl : L.length = 201) : midL (L.set p s) = (midL L).set (p - 1) s := List.ext_getElem? fun j => by
 rw [mid_at, List.getElem?_set, List.getElem?_set, mid_at, mid_len hl, hl]
 by_cases h : j < 100
 ·rw [if_pos h, if_pos h]
  by_cases e : p = 1 + j
  ·rw [if_pos e, if_pos (by omega), if_pos (by omega), if_pos (by omega)]
  ·rw [if_neg e, if_neg (by omega)]
 ·rw [if_neg h, if_neg h]
  split
  ·omega
  ·rfl
theorem lies_mid {w : World} {b q : Nat} {L : List ByteArray} (h : LiesP w (some ⟨b, q, none⟩) L) : LiesP w (some ⟨b, q + 1, none⟩) (midL L) := fun hl => by
 obtain ⟨b', q', e, h1, h2⟩ := h.drop1 (by unfold midL at hl; rw [List.length_take] at hl; omega)
 refine ⟨b', q', e, h1, fun k x hx => h2 k x ?_⟩
 unfold midL at hx
 rw [List.getElem?_take] at hx
 split at hx
 ·exact hx
 ·cases hx
structure SafeD (L : List ByteArray) (T : ByteArray) (q : Nat) (t : ByteArray) : Prop where
 l : L.length = 201
 d : dkErr L [] = 0
 h : L[0]? = some T
 s : sqOk T
 q : num ((gB T.data.toList).data.toList.take 4) = q
 t : (gB T.data.toList).extract 4 (gB T.data.toList).size = t
theorem SafeD.b {L : List ByteArray} {T t : ByteArray} {q : Nat} (S : SafeD L T q t) : q ≤ 2147483647 := by have := S.s.2; rw [S.q] at this; exact this
theorem SafeD.seq {L : List ByteArray} {T t : ByteArray} {q : Nat} (S : SafeD L T q t) {u : World} {A Q : Option Addr} {c cq : Nat} (h : LiesP u A L) : Calls Try.prog 14 #[.agg #[.slice A 201 c, .slice Q 0 cq]] u (Sq3 (q : Int) t 0 u) := by
 have h := uSeq_ok A Q c cq L [] u ⟨h, LiesG.nil_⟩ (by have := S.l; omega) (by simp) S.d S.l (T := T) S.h rfl S.s
 rw [S.q, S.t, S.l] at h
 exact h
theorem SafeD.rv {L : List ByteArray} {T t : ByteArray} {q : Nat} (S : SafeD L T q t) : SafeD (rvAll q L 100) T q t :=
 ⟨by rw [rvAll_len]; exact S.l, by
  obtain ⟨h1, -, h3, -⟩ := dkErr_zero.1 S.d
  exact dkErr_zero.2 ⟨by rw [rvAll_len]; exact h1, by simp, rvAll_small h3 100, by simp⟩, by rw [rvAll_head]; exact S.h, S.s, S.q, S.t⟩
theorem SafeD.recover {L : List ByteArray} {T t : ByteArray} {q : Nat} (S : SafeD L T q t) {u : World} {A : Option Addr} {c : Nat} (h : LiesP u A L) : Calls Try.prog 16 #[.agg #[.slice A 201 c, .slice none 0 0]] u (RecO 201 (rvAll q L 100) u) := by
 have h1 := undoRecover_own A none c 0 L [] u ⟨h, LiesG.nil_⟩ S.d S.l q S.b t (fun v A' c' h' => by rw [S.l]; exact S.seq h')
 rw [S.l] at h1
 exact h1
theorem recover_two {P Q : Option Addr} {l : List ByteArray} {m : List Wr} {w : World} (hh : HasD w P Q l m) (hn : l.length ≤ 9223372036854775807) (hm : m.length ≤ 9223372036854775807) (cp cq : Nat) :
    (∃ E : Int, E ≠ 0 ∧ ∀ u, Calm w u → Calls Try.prog 16 #[.agg #[.slice P l.length cp, .slice Q m.length cq]] u (NoDisk E u)) ∨
    ∃ L T q t, SafeD L T q t ∧ (∀ j, j < 100 → ¬ rvOk (L.getD (101 + j) { data := #[] }) q) ∧ ∀ u, Calm w u → Calls Try.prog 16 #[.agg #[.slice P l.length cp, .slice Q m.length cq]] u (RecO 201 L u) := by
  by_cases h0 : dkErr l m = 0
  rotate_left
  · exact .inl ⟨_, h0, fun u hu => undoRecover_bad P Q cp cq l m u (hh.calm hu) hn hm rfl h0⟩
  have hcl : (curP l m).length = l.length := by unfold curP; rw [doneL_len]
  have hcz : dkErr (curP l m) [] = 0 := done_err _ h0
  by_cases hl : l.length = 201
  rotate_left
  · refine .inl ⟨3, by decide, fun u hu => undoRecover_seq P Q cp cq l m u (hh.calm hu) h0 (by decide) { data := #[] } fun v A c h => ?_⟩
    have := uSeq_form A none c 0 (curP l m) [] v ⟨h, LiesG.nil_⟩ (by omega) (by simp) hcz (by rw [hcl]; exact hl)
    rw [hcl] at this
    exact this
  obtain ⟨T, hT⟩ : ∃ T, (curP l m)[0]? = some T := ⟨_, List.getElem?_eq_getElem (by omega)⟩
  by_cases hs : sqOk T
  · have S : SafeD (curP l m) T _ _ := ⟨by omega, hcz, hT, hs, rfl, rfl⟩
    refine .inr ⟨_, T, _, _, S.rv, fun j hj => ?_, fun u hu => ?_⟩
    · exact rvAll_done _ _ 100 (by rw [hcl]; omega) (101 + j) (by omega) (by omega)
    · refine (undoRecover_own P Q cp cq l m u (hh.calm hu) h0 hl _ S.b _ (fun v A' c' h' => by rw [hl]; exact S.seq h')).mono fun e w' h => ?_
      rw [hl] at h
      exact h
  · refine .inl ⟨11, by decide, fun u hu => undoRecover_seq P Q cp cq l m u (hh.calm hu) h0 (by decide) { data := #[] } fun v A c h => ?_⟩
    have := uSeq_no A none c 0 (curP l m) [] v ⟨h, LiesG.nil_⟩ (by omega) (by simp) hcz (by rw [hcl]; exact hl) (T := T) hT rfl hs
    rw [hcl] at this
    exact this
open Go.RowKit
set_option maxHeartbeats 16000000 in
theorem undoWhole_walk (P Q : Option Addr) (cp cq : Nat) (l : List ByteArray) (m : List Wr) (hd : ByteArray) (A : Option Addr) (c : Nat) (ws : List Wr) (n0 : Int) (AK : Option Addr) (cK : Nat) (K : List Bool) (w : World) (hh : HasD w P Q l m) (hn : l.length ≤ 9223372036854775807) (hm : m.length ≤ 9223372036854775807) (hwc : ws.length ≤ c) (hW : LiesW w A ws) (hK : LiesO w AK K) :
    Calls Try.prog 9 #[.agg #[.slice P l.length cp, .slice Q m.length cq], .string hd, .slice A ws.length c, .int .i64 n0, .slice AK K.length cK] w fun e w' => e = .returned (.bool true) ∧ Calm w w' := by
  have cH := fun u => undoHead_any 0 { data := #[] } u
  have hH : ∀ u, HdEnd 0 { data := #[] } u = fun e w' => e = .returned (.tuple #[.string (headT 0 { data := #[] }), .int .i64 0]) ∧ Calm u w' := fun u => HdEnd.good (n := 0) (by decide) u
  simp only [hH] at cH
  obtain ⟨-, -, -, hT4⟩ := head_ok (n := 0) (s := { data := #[] }) (by decide) (by decide)
  have cX := fun u A c h g hg => steps_pre (u := u) (A := A) (c := c) (n := 0) (s := { data := #[] }) (hd := { data := #[97] }) (x := ⟨1, { data := #[98] }⟩) (g := g) h hg (by decide) (by decide) (by decide) (by decide)
  generalize headT 0 { data := #[] } = T3 at cH cX
  have m1 : ∀ u : World, (Instr.makeSlice 22 (.int .i64 201) (.int .i64 201)).run Try.prog u = .ok (.slice (some ⟨u.heap.size, 0, none⟩) 201 201) (u.alloc (.cells (cvs stC (List.replicate 201 ByteArray.empty)).toArray 9)) := fun u => makeStrs u 201 (by omega)
  have hpre := fun u => pre_world u T3
  have hpp := fun u => pre_pre u
  generalize preL T3 = L0 at cX hpre
  obtain ⟨Z, hZ⟩ : ∃ Z, Z = (cvs stC (List.replicate 201 ByteArray.empty)).toArray := ⟨_, rfl⟩
  rw [← hZ] at m1
  simp only [← hZ] at hpre hpp
  clear hZ hH hT4
  have hx := heap_new w (.cells #[.slice P l.length cp, .slice Q m.length cq] 25)
  have hu := (Calm.refl w).alloc (.cells #[.slice P l.length cp, .slice Q m.length cq] 25)
  have hxs := (rowD hx).2.2
  have HX := Lib.hid hx
  have HH := Lib.hid hh
  have HW := Lib.hid hW
  clear hx hh hW
  have HKK := Lib.hid hK
  clear hK
  go_enter Try.func9, Try.ntmps9
  go_upto_region 3 with (go_at_call 12; refine (cH _).mono ?_; rintro e w1 ⟨rfl, hk⟩; have hx1 := (hk.block hxs).trans HX.out; replace hu := hu.call hk; clear hk)
  obtain ⟨hb3, c3, f3⟩ := hpp w1
  obtain ⟨hk3, ho3, hd3⟩ := hpre w1
  have hs3 : ((w1.alloc (.cells Z 9)).alloc (.cells #[.slice (some ⟨w1.heap.size, 0, none⟩) 201 201, .slice none 0 0] 25)).heap.size = w1.heap.size + 2 := by simp
  have HK3 := Lib.hid hk3
  have HO3 := Lib.hid ho3
  have HD3 := Lib.hid hd3
  clear hk3 ho3 hd3 hpp hpre
  generalize (w1.alloc (.cells Z 9)).alloc (.cells #[.slice (some ⟨w1.heap.size, 0, none⟩) 201 201, .slice none 0 0] 25) = w2 at *
  obtain ⟨y0, y1, hys⟩ := rowD hb3
  go_upto_region 4 with fail
  generalize w2.setCell ⟨w1.heap.size, 0, none⟩ (.string T3) = w3 at *
  clear hb3 c3 f3 hs3 y0 y1 hys
  replace hx1 := (HK3.out.block (rowD hx1).2.2).trans hx1
  replace hu := hu.call HK3.out
  obtain ⟨y0, y1, hys⟩ := rowD HD3.out
  go_upto_region 5 with (go_at_call 20; (refine (cX _ _ _ ((OwnP.at_ HO3.out).2.calm ((Calm.refl _).alloc _)) _ (heap_new _ _)).mono ?_); rintro e w4 ⟨A4, c4, X4, rfl, ho4, ha4, hk⟩; have HK4 := Lib.hid (((Calm.refl w3).alloc _).call hk); have HA4 := Lib.hid ha4; clear hk ho4 ha4)
  have hx4 := (HK4.out.block (rowD hx1).2.2).trans hx1
  replace hu := hu.call HK4.out
  have hl4 : X4.length = 7 := by rw [HA4.out.len, walk_len, acts_len]; rfl
  rw [hl4]
  clear HA4 hl4 cX HK3 HD3 HO3 cH m1 y0 y1 hys HX hx1 HK4
  obtain ⟨x0, x1, hxs4⟩ := rowD hx4
  go_upto_region 7 with fail
  obtain ⟨f0, f1⟩ := free2 hx4
  rcases recover_two HH.out hn hm cp cq with ⟨E, h0, cR⟩ | ⟨L, T, q, t, S, hno, cR⟩
  · have b1 : (E != 0) = true := by rw [bne_iff_ne]; exact h0
    unfold NoDisk at cR
    clear h0 HW HH HKK hn hm hwc
    go_wp2_with (go_at_call 16; (with_reducible refine (cR _ hu).mono ?_); rintro e w6 ⟨rfl, hk⟩; have hx6 := (hk.block hxs4).trans hx4; obtain ⟨x0, x1, hxs6⟩ := rowD hx6; obtain ⟨f0, f1⟩ := free2 hx6; have HU6 := Lib.hid (hu.call hk); clear hk)
    go_ret
    exact ⟨rfl, (HU6.out.setCell (p := ⟨w.heap.size, 0, none⟩) (Nat.le_refl _) _).setCell (p := ⟨w.heap.size, 1, none⟩) (Nat.le_refl _) _⟩
  have HS := Lib.hid S
  have HNO := Lib.hid hno
  unfold RecO at cR
  clear S hno
  go_upto_region 10 with (go_at_call 16; (with_reducible refine (cR _ hu).mono ?_); rintro e w6 ⟨A6, c6, rfl, hL6, hk⟩; have hx6 := (hk.block hxs4).trans hx4; obtain ⟨x0, x1, hxs6⟩ := rowD hx6; obtain ⟨f0, f1⟩ := free2 hx6; have HU6 := Lib.hid (hu.call hk); have HL6 := Lib.hid hL6; clear hk hL6)
  have hx7 := set2 hx6 (.slice A6 201 c6) (.slice none 0 0)
  have hu7 := (HU6.out.setCell (p := ⟨w.heap.size, 0, none⟩) (Nat.le_refl _) (.slice A6 201 c6)).setCell (p := ⟨w.heap.size, 1, none⟩) (Nat.le_refl _) (.slice none 0 0)
  have HL7 := Lib.hid (rowsG_set (rowsG_set HL6.out hxs4 0 (.slice A6 201 c6)) hxs4 1 (.slice none 0 0) : OwnP w4.heap.size ((w6.setCell ⟨w.heap.size, 0, none⟩ (.slice A6 201 c6)).setCell ⟨w.heap.size, 1, none⟩ (.slice none 0 0)) (.slice A6 201 c6) L)
  clear x0 x1 hxs6 f0 f1 HL6 HU6 hx6 cR hx4 hu hxs4
  generalize (w6.setCell ⟨w.heap.size, 0, none⟩ (.slice A6 201 c6)).setCell ⟨w.heap.size, 1, none⟩ (.slice none 0 0) = w7 at *
  obtain ⟨x0, x1, hxs7⟩ := rowD hx7
  have cS := fun (u : World) (hk : Calm w7 u) => HS.out.seq (u := u) (c := c6) (Q := none) (cq := 0) ((OwnP.at_ HL7.out).2.calm hk)
  have hD7 : HasD w7 A6 none L [] := ⟨(OwnP.at_ HL7.out).2, LiesG.nil_⟩
  have hSL := HS.out.l
  rcases steps_two hD7 (by omega) (by simp) c6 0 hd ws (HW.out.calm hu7) hwc with ⟨E, h0, cU, -⟩ | ⟨q', T', hq', -, -, ⟨y, hy, hTy⟩, -, G, -, cU, -, -⟩
  · have b1 : (E != 0) = true := by rw [bne_iff_ne]; exact h0
    rw [hSL] at cU
    simp only [List.length_nil] at cU
    have HSL := Lib.hid hSL
    clear h0 HW HH HKK hn hm hwc hD7 hSL
    go_wp2_with (first
      | (go_at_call 14; (with_reducible refine (cS _ (Calm.refl _)).mono ?_); rintro e w8 ⟨rfl, hk⟩; have hx8 := (hk.block hxs7).trans hx7; obtain ⟨x0, x1, hxs8⟩ := rowD hx8; have HK8 := Lib.hid hk; clear hk)
      | (go_at_call 20; (with_reducible refine (cU _ HK8.out).mono ?_); rintro e w9 ⟨rfl, hk⟩; have HK9 := Lib.hid (HK8.out.call hk); clear hk))
    go_ret
    exact ⟨rfl, hu7.call HK9.out⟩
  have hTT : T' = T := by
    have : some y = some T := hy.symm.trans HS.out.h
    injection this with this
    rw [hTy, this]; rfl
  have hqq : q' = q := by rw [hq', hTT, HS.out.q]
  subst hqq
  have G : GpC q' L hd ws := G
  clear hTy hy hTT hq'
  rw [hSL] at cU
  simp only [List.length_nil] at cU
  have hL0 : curP L [] = L := rfl
  rw [hL0] at cU
  have HG := Lib.hid G
  have hwn : (ws.length : Int) ≤ 100 := by have := G.n; omega
  have hq1 : (q' : Int) ≤ 2147483646 := by have := G.q; omega
  clear hD7 hL0 G hn hm hwc HH
  go_upto_region 12 with (first
    | (go_at_call 14; (with_reducible refine (cS _ (Calm.refl _)).mono ?_); rintro e w8 ⟨rfl, hk⟩; have hx8 := (hk.block hxs7).trans hx7; obtain ⟨x0, x1, hxs8⟩ := rowD hx8; have HK8 := Lib.hid hk; clear hk)
    | (go_at_call 20; (with_reducible refine (cU _ HK8.out).mono ?_); rintro e w9 ⟨A9, c9, X9, rfl, ho9, ha9, hk⟩; have hx9 := (hk.block hxs8).trans hx8; have HK9 := Lib.hid (HK8.out.call hk); have HO9 := Lib.hid ho9; have HA9 := Lib.hid ha9; clear hk ho9 ha9))
  have hl9 : X9.length = 2 * ws.length + 5 := by rw [HA9.out.len, walk_len, acts_len]
  obtain ⟨n, hnn, cW⟩ := within_any n0 X9.length (by omega) (by omega)
  obtain ⟨Pn, cpn, Qn, cqn, hxn, hDn⟩ := HA9.out.get (walk_stD (l := L) (m := []) (q := q') (hd := hd) (ws := ws) (k := n) (by omega))
  obtain ⟨b9, q9, rfl, hb9, c90, c91⟩ := LiesQ.get (OwnG.at_ dqC_len HO9.out).2 hxn
  have hsd := stD_ok (l := L) (m := []) HG.out (n + 1) (by omega) (by omega)
  have hWM := whole_maths HG.out HNO.out (n + 1) (by omega) (by omega) (selK K)
  have hcr := fun u (hu : Calm w9 u) => (hDn.calm hu).crash cpn cqn hsd.1 AK cK K ((HKK.out.calm (hu7.call HK9.out)).calm hu)
  have hdn := done_err (selK K) hsd.1
  have hdl : (doneL (selK K) 0 (stD L [] q' hd ws (n + 1)).2 (stD L [] q' hd ws (n + 1)).1).length = 201 := by rw [doneL_len]; exact hsd.2.1
  rw [hsd.2.1] at c90
  unfold ASync at hcr
  simp only [hsd.2.1] at hcr
  have hM100 := hsd.2.2
  have hz1 : Hid (n ≤ 2 * ws.length + 4) := show _ ≤ _ from by omega
  have HSL := Lib.hid hSL
  clear hsd hxn HO9 HA9 hDn HKK cU cS HNO hSL
  generalize doneL (selK K) 0 (stD L [] q' hd ws (n + 1)).2 (stD L [] q' hd ws (n + 1)).1 = C at *
  generalize (stD L [] q' hd ws (n + 1)).2.length = nM at *
  obtain ⟨n9, hn9⟩ : ∃ k, k = X9.length := ⟨_, rfl⟩
  rw [← hn9] at hl9 hnn cW ⊢
  have z1 : ((n9 : Int) == 0) = false := by rw [beq_eq_false_iff_ne]; omega
  have z2 : (n : Int) < (n9 : Int) := by omega
  have z3 : (n9 : Int) ≤ 300 := by omega
  clear hn9
  have HL9 := Lib.hid hl9
  clear hl9
  obtain ⟨x0, x1, hxs9⟩ := rowD hx9
  go_upto_region 15 with (go_at_call 23; refine (cW _).mono ?_; rintro e w1 ⟨rfl, rfl⟩)
  go_upto_region 18 with (go_at_call 19; (with_reducible refine (hcr _ (Calm.refl _)).mono ?_); rintro e w10 ⟨P10, c10, rfl, ho10, hk⟩; have HO10 := Lib.hid ho10; have hx10 := (hk.block hxs9).trans hx9; have HK10 := Lib.hid (HK9.out.call hk); clear hk ho10)
  have hy := heap_new w10 (.cells #[.slice P10 201 c10, .slice none 0 0] 25)
  have hkk := (Calm.refl w10).alloc (.cells #[.slice P10 201 c10, .slice none 0 0] 25)
  have hx11 := (hkk.block (rowD hx10).2.2).trans hx10
  have HO11 := Lib.hid (HO10.out.calm hkk)
  have HK11 := Lib.hid (HK10.out.call hkk)
  clear hx10 HO10 HK10 hkk c90 c91 hcr x0 x1 hxs9 hx9 cW hb9
  generalize w10.alloc (.cells #[.slice P10 201 c10, .slice none 0 0] 25) = w11 at *
  generalize w10.heap.size = g10 at *
  obtain ⟨x0, x1, hxs⟩ := rowD hx11
  obtain ⟨y0, y1, hys⟩ := rowD hy
  have HD := Lib.hid (show dkErr C [] = 0 ∧ C.length = 201 from ⟨hdn, hdl⟩)
  clear hdn hdl
  have hlt9 : n + 1 ≤ n9 := by omega
  rcases hWM with ⟨hjn, hC0, hR⟩ | ⟨hC0, hR⟩
  · have SC : SafeD C T q' t := ⟨HD.out.2, HD.out.1, hC0.trans HS.out.h, HS.out.s, HS.out.q, HS.out.t⟩
    have hmid := mid_ext hR
    have HM := Lib.hid hmid
    have hl1 : ((n : Int) == (n9 : Int) - 1) = false := by have := HL9.out; rw [beq_eq_false_iff_ne]; omega
    have HML := Lib.hid (mid_len HS.out.l)
    clear hR hmid hC0 hjn
    have cR2 := fun (u : World) (hk : Calm w11 u) => SC.recover (c := c10) ((OwnP.at_ HO11.out).2.calm hk)
    have SR := SC.rv
    have cS2 := fun (u : World) (A : Option Addr) (c : Nat) (h : LiesP u A (rvAll q' C 100)) => SR.seq (Q := none) (cq := 0) (c := c) h
    have HRL : Hid ((rvAll q' C 100).length = 201) := SR.l
    unfold RecO at cR2
    clear SC SR HS HD
    generalize rvAll q' C 100 = R at *
    go_upto_region 20 with (first
      | (go_at_call 16; (with_reducible refine (cR2 _ (Calm.refl _)).mono ?_); rintro e w12 ⟨A12, c12, rfl, ho12, hk⟩; have HO12 := Lib.hid ho12; have HX12 := Lib.hid ((hk.block hxs).trans hx11); have HK12 := Lib.hid (HK11.out.call hk); have hz12 := heap_new w12 (.cells #[.slice A12 201 c12, .slice none 0 0] 25); obtain ⟨z0, z1, hzs⟩ := rowD hz12; clear hk ho12)
      | (go_at_call 14; (with_reducible refine (cS2 _ _ _ ((OwnP.at_ HO12.out).2.calm ((Calm.refl _).alloc _))).mono ?_); rintro e w13 ⟨rfl, hk⟩; have hcc := ((Calm.refl w12).alloc (.cells #[.slice A12 201 c12, .slice none 0 0] 25)).call hk; have HO13 := Lib.hid (HO12.out.calm hcc); have hx13 := (hcc.block (rowD HX12.out).2.2).trans HX12.out; have HK13 := Lib.hid (HK12.out.call hcc); have hz13 := (hk.block hzs).trans hz12; clear hk hcc z0 z1 hzs hz12))
    clear x0 x1 hxs y0 y1 hys cR2 cS2 HO11 hx11 hy HK11
    generalize w12.heap.size = g12 at *
    obtain ⟨x0, x1, hxs⟩ := rowD hx13
    obtain ⟨z0, z1, hzs⟩ := rowD hz13
    obtain ⟨b6, q6, rfl, hb6, -⟩ := (OwnP.at_ HL7.out).2 (by have := HML.out; unfold midL at this; rw [List.length_take, List.length_drop] at this; omega)
    obtain ⟨b12, q12, rfl, hb12, -⟩ := (OwnP.at_ HO13.out).2 (by rw [HRL.out]; decide)
    have cK := fun u (hk : Calm w13 u) => cloneP_any (some ⟨b6, q6 + 1, none⟩) (c6 - 1) (midL L) u (by rw [HML.out]; decide) (lies_mid ((OwnP.at_ HL7.out).2.calm (HK13.out.call hk)))
    rw [HML.out] at cK
    have hc6 := own_cap HL7.out
    have hc12 := own_cap HO13.out
    go_upto_region 23 with (go_at_call 26; refine (cK _ (Calm.refl _)).mono ?_; rintro e w14 ⟨v14, rfl, ho14, hk⟩; have HO14 := Lib.hid ho14; have hx14 := (hk.block hxs).trans hx13; have hz14 := (hk.block hzs).trans hz13; have HK14 := Lib.hid hk; clear hk ho14)
    obtain ⟨b14, cap14, rfl⟩ := OwnG.some_ HO14.out (by rw [HML.out]; decide)
    rw [HML.out] at HO14 ⊢
    clear x0 x1 hxs z0 z1 hzs cK
    obtain ⟨x0, x1, hxs⟩ := rowD hx14
    obtain ⟨z0, z1, hzs⟩ := rowD hz14
    have cE := fun u (hk : Calm w13 u) (h : LiesP u (some ⟨b14, 0, none⟩) (midL L)) => equalP_any (some ⟨b12, q12 + 1, none⟩) (some ⟨b14, 0, none⟩) (c12 - 1) cap14 (midL R) (midL L) u (by rw [mid_len HRL.out]; decide) (lies_mid ((OwnP.at_ HO13.out).2.calm hk)) h
    rw [decide_eq_true HM.out, mid_len HRL.out, HML.out] at cE
    go_wp2_with (go_at_call 22; (refine (cE _ HK14.out (OwnP.at_ HO14.out).2).mono ?_); rintro e w15 ⟨rfl, hk⟩; have HK15 := Lib.hid hk; clear hk)
    go_ret
    exact ⟨rfl, (hu7.call (HK13.out.call HK14.out)).call HK15.out⟩
  · obtain ⟨e1, e2, e3, -⟩ := head_ok (n := q' + 1) (s := hd) (by omega) HG.out.h
    have SC : SafeD C (headT (q' + 1) hd) (q' + 1) hd := ⟨HD.out.2, HD.out.1, hC0, e1, e2, e3⟩
    have hmid := mid_ext hR
    have HM := Lib.hid hmid
    have HML := Lib.hid (mid_len HS.out.l)
    clear hR hmid hC0 e1 e2 e3
    have cR2 := fun (u : World) (hk : Calm w11 u) => SC.recover (c := c10) ((OwnP.at_ HO11.out).2.calm hk)
    have SR := SC.rv
    have cS2 := fun (u : World) (A : Option Addr) (c : Nat) (h : LiesP u A (rvAll (q' + 1) C 100)) => SR.seq (Q := none) (cq := 0) (c := c) h
    rw [show ((q' + 1 : Nat) : Int) = (q' : Int) + 1 from by omega] at cS2
    have HRL : Hid ((rvAll (q' + 1) C 100).length = 201) := SR.l
    unfold RecO at cR2
    clear SC SR HS HD
    generalize rvAll (q' + 1) C 100 = R at *
    go_upto_region 20 with (first
      | (go_at_call 16; (with_reducible refine (cR2 _ (Calm.refl _)).mono ?_); rintro e w12 ⟨A12, c12, rfl, ho12, hk⟩; have HO12 := Lib.hid ho12; have HX12 := Lib.hid ((hk.block hxs).trans hx11); have HK12 := Lib.hid (HK11.out.call hk); have hz12 := heap_new w12 (.cells #[.slice A12 201 c12, .slice none 0 0] 25); obtain ⟨z0, z1, hzs⟩ := rowD hz12; clear hk ho12)
      | (go_at_call 14; (with_reducible refine (cS2 _ _ _ ((OwnP.at_ HO12.out).2.calm ((Calm.refl _).alloc _))).mono ?_); rintro e w13 ⟨rfl, hk⟩; have hcc := ((Calm.refl w12).alloc (.cells #[.slice A12 201 c12, .slice none 0 0] 25)).call hk; have HO13 := Lib.hid (HO12.out.calm hcc); have hx13 := (hcc.block (rowD HX12.out).2.2).trans HX12.out; have HK13 := Lib.hid (HK12.out.call hcc); have hz13 := (hk.block hzs).trans hz12; clear hk hcc z0 z1 hzs hz12))
    clear x0 x1 hxs y0 y1 hys cR2 cS2 HO11 hx11 hy HK11
    generalize w12.heap.size = g12 at *
    obtain ⟨x0, x1, hxs⟩ := rowD hx13
    obtain ⟨z0, z1, hzs⟩ := rowD hz13
    obtain ⟨b6, q6, rfl, hb6, -⟩ := (OwnP.at_ HL7.out).2 (by have := HML.out; unfold midL at this; rw [List.length_take, List.length_drop] at this; omega)
    obtain ⟨b12, q12, rfl, hb12, -⟩ := (OwnP.at_ HO13.out).2 (by rw [HRL.out]; decide)
    have cK := fun u (hk : Calm w13 u) => cloneP_any (some ⟨b6, q6 + 1, none⟩) (c6 - 1) (midL L) u (by rw [HML.out]; decide) (lies_mid ((OwnP.at_ HL7.out).2.calm (HK13.out.call hk)))
    rw [HML.out] at cK
    have hc6 := own_cap HL7.out
    have hc12 := own_cap HO13.out
    go_upto_region 23 with (go_at_call 26; refine (cK _ (Calm.refl _)).mono ?_; rintro e w14 ⟨v14, rfl, ho14, hk⟩; have HO14 := Lib.hid ho14; have hx14 := (hk.block hxs).trans hx13; have hz14 := (hk.block hzs).trans hz13; have HK14 := Lib.hid hk; clear hk ho14)
    obtain ⟨b14, cap14, rfl⟩ := OwnG.some_ HO14.out (by rw [HML.out]; decide)
    rw [HML.out] at HO14 ⊢
    clear x0 x1 hxs z0 z1 hzs cK
    obtain ⟨x0, x1, hxs⟩ := rowD hx14
    obtain ⟨z0, z1, hzs⟩ := rowD hz14
    have HE : Hid (∀ u, Calm w13 u → LiesP u (some ⟨b14, 0, none⟩) (midL (curP L ws)) → Calls Try.prog 22 #[.slice (some ⟨b12, q12 + 1, none⟩) 100 (c12 - 1), .slice (some ⟨b14, 0, none⟩) 100 cap14] u fun e w' => e = .returned (.bool true) ∧ Calm u w') := show ∀ _, _ from fun u hk h => by
      have hcl : (curP L ws).length = 201 := by have h1 := HML.out; unfold curP; rw [doneL_len]; exact HSL.out
      have h1 := equalP_any (some ⟨b12, q12 + 1, none⟩) (some ⟨b14, 0, none⟩) (c12 - 1) cap14 (midL R) (midL (curP L ws)) u (by rw [mid_len HRL.out]; decide) (lies_mid ((OwnP.at_ HO13.out).2.calm hk)) h
      rw [decide_eq_true HM.out, mid_len HRL.out, mid_len hcl] at h1
      exact h1
    have hnq : (((q' : Int) + 1) != (q' : Int)) = true := by rw [bne_iff_ne]; omega
    have hnq2 : (((q' : Int) + 1) == (q' : Int)) = false := by rw [beq_eq_false_iff_ne]; omega
    have hsz14 : Hid (w13.heap.size ≤ w13.heap.size) := Nat.le_refl _
    clear x0 x1 hxs z0 z1 hzs HM
    go_upto_region 25 with fail
    have HX14 := Lib.hid hx14
    have HZ14 := Lib.hid hz14
    have HX13 := Lib.hid hx13
    have HZ13 := Lib.hid hz13
    clear hx14 hz14 hx13 hz13
    go_loopw [143] (fun i wr => ∃ k : Nat, k ≤ ws.length ∧ i = .int .i64 k ∧ Calm w13 wr ∧ Hid (OwnP w13.heap.size wr (.slice (some ⟨b14, 0, none⟩) 100 cap14) (midL (doneL (fun _ => true) 0 (ws.take k) L)))) (fun i _ => ws.length - (intOf i).toNat)
    case atStart => exact ⟨0, Nat.zero_le _, rfl, HK14.out, HO14⟩
    case round =>
      obtain ⟨k, hk, rfl, hc, hO⟩ := hrel
      clear HO14 HK14 HX14 HZ14
      have hll : (doneL (fun _ => true) 0 (ws.take k) L).length = 201 := by rw [doneL_len]; exact HSL.out
      by_cases hlt : k < ws.length
      · obtain ⟨b, p0, i, s, rfl, hb, HEL, c0, c1⟩ := (HW.out.calm (hu7.call (HK13.out.call hc))).get hlt
        have hi := HG.out.g.r _ (List.mem_of_getElem? HEL.out)
        obtain ⟨p1, rfl⟩ : ∃ p : Nat, i = (p : Int) + 1 := ⟨(i - 1).toNat, by have : 1 ≤ i := hi.1; omega⟩
        have hp1 : p1 < 100 := by have : (p1 : Int) + 1 ≤ 100 := hi.2.1; omega
        have hnx : Hid (midL (doneL (fun _ => true) 0 (ws.take (k + 1)) L) = (midL (doneL (fun _ => true) 0 (ws.take k) L)).set p1 s) := by
          show _ = _
          rw [doneL_take HEL.out, if_pos rfl, show ((⟨(p1 : Int) + 1, s⟩ : Wr).i).toNat = p1 + 1 from by show ((p1 : Int) + 1).toNat = _; omega, mid_set s (by omega) (by omega) hll]; rfl
        have hml := mid_len hll
        have hki : (k : Int) < (ws.length : Int) := by omega
        have z1' : IntKind.i64.wrap ((p1 : Int) + 1 - 1) = (p1 : Int) := by rw [IntWalk.i64_in _ (by omega)]; omega
        have z2' : (p1 : Int) + 1 - 1 = (p1 : Int) := by omega
        have hpi : (p1 : Int) < 100 := by omega
        obtain ⟨tx, htx⟩ : ∃ t, (midL (doneL (fun _ => true) 0 (ws.take k) L))[p1]? = some t := ⟨_, List.getElem?_eq_getElem (by omega)⟩
        have hal := hO.out.calm ((Calm.refl wr).alloc (.cells #[.int .i64 ((p1 : Int) + 1), .string s] 45))
        have HAL := Lib.hid hal
        have d0 := rv_cell hal htx
        have f0 := OwnG.frozen hal p1
        have hb14 := (OwnG.lt hO.out b14 rfl).1
        have HB14 := Lib.hid hb14
        clear hi HE htx hal hb14 hO hll
        go_wp2_with fail
        go_roundw
        case rel => exact ⟨k + 1, by omega, by go_num, (hc.alloc _).setCell (p := ⟨b14, p1, none⟩) HB14.out _, by rw [hnx.out]; exact rv_set HAL.out (by omega) s⟩
        case measure => simp [intOf]; omega
      obtain rfl : k = ws.length := by omega
      rw [List.take_of_length_le (Nat.le_refl _)] at hO
      have cE := HE.out _ hc (OwnP.at_ hO.out).2
      have hx14 := (hc.block (rowD HX13.out).2.2).trans HX13.out
      have hz14 := (hc.block (rowD HZ13.out).2.2).trans HZ13.out
      obtain ⟨x0, x1, hxs⟩ := rowD hx14
      obtain ⟨z0, z1, hzs⟩ := rowD hz14
      have zq : IntKind.i64.wrap ((q' : Int) + 1) = (q' : Int) + 1 := IntWalk.i64_in _ (by omega)
      clear HE hll
      go_wp2_with (go_at_call 22; (refine cE.mono ?_); rintro e w15 ⟨rfl, hk⟩; have HK15 := Lib.hid hk; clear hk)
      go_ret
      exact ⟨rfl, (hu7.call (HK13.out.call hc)).call HK15.out⟩
open Go.ChangeShapes Go.WideShapes Go.ChangeAt Go.RowKit
section
variable {H : Type} {enc : TypeId × Value → H} {w : World} {base : Nat} {spare : Nat → Bool} {held : Bool}
variable {r : Reach} {b0 : Nat} {v : Value} {d : DataW H} {ps : List MemPlace}
theorem open_writesC (hv : Value.okWide Try.prog w r b0 23 v) (h : DataW.Trod enc Try.prog w base spare held 23 v d ps) :
    ∃ (A : Option Addr) (c : Nat) (l : List Wr), v = .slice A l.length c ∧ l.length ≤ 9223372036854775807 ∧ l.length ≤ c ∧ LiesW w A l := by
  obtain ⟨A0, len, cap, rfl⟩ := okWide_slice Try.underlying23 hv
  obtain ⟨fuel, hf⟩ := h
  obtain ⟨A, c, l, e1, le1, lc1, -, at1, -⟩ := rows_open (α := Wr) wrC (fun _ => True) 2 Try.underlying23 cellsWr (by omega) (fun fuel cs x hx => write_cells hx) hf
  have e2 : Value.slice A0 len cap = .slice A l.length c := by simpa [Value.cells] using e1
  rw [e2]
  exact ⟨A, c, l, rfl, le1, lc1, at1⟩
end
end Go.Proofs.Ytmpgikplpohjnaa
