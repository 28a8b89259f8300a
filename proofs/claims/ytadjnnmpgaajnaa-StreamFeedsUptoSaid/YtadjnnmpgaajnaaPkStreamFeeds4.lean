/- Texts of one kind in one file. -/
import Derived.SizedLaws
import Derived.Test.YtadjnnmpgaajnaaPkStreamFeeds3
set_option maxRecDepth 100000
namespace Go.Proofs.Ytadjnnmpgaajnaa
open Go.RowKit
set_option maxHeartbeats 16000000 in
theorem refParse_any (S : ByteArray) (w : World) (hS : S.size ≤ 1073741824) : Calls Try.prog 18 #[.string S] w (ParEnd S.data.toList w) := by
  have hz := heap_past (.cells #[.int .i64 0, .int .i64 0, .int .i64 0, .slice none 0 0, .int .i64 0] 40) (heap_new w (.cells #[.int .i64 0, .int .i64 0, .int .i64 0, .slice none 0 0, .int .i64 0] 40))
  have hx : ((w.alloc (.cells #[.int .i64 0, .int .i64 0, .int .i64 0, .slice none 0 0, .int .i64 0] 40)).alloc (.cells #[.int .i64 0, .int .i64 0, .int .i64 0, .slice none 0 0, .int .i64 0] 40)).heap[w.heap.size + 1]? = some (.cells #[.int .i64 0, .int .i64 0, .int .i64 0, .slice none 0 0, .int .i64 0] 40 (0, 0)) := heap_new2 w (.cells #[.int .i64 0, .int .i64 0, .int .i64 0, .slice none 0 0, .int .i64 0] 40) (.cells #[.int .i64 0, .int .i64 0, .int .i64 0, .slice none 0 0, .int .i64 0] 40)
  have hu := ((Calm.refl w).alloc (.cells #[.int .i64 0, .int .i64 0, .int .i64 0, .slice none 0 0, .int .i64 0] 40)).alloc (.cells #[.int .i64 0, .int .i64 0, .int .i64 0, .slice none 0 0, .int .i64 0] 40)
  have hs1 : ((w.alloc (.cells #[.int .i64 0, .int .i64 0, .int .i64 0, .slice none 0 0, .int .i64 0] 40)).alloc (.cells #[.int .i64 0, .int .i64 0, .int .i64 0, .slice none 0 0, .int .i64 0] 40)).heap.size = w.heap.size + 2 := by simp
  have GB : ∀ n, n ≠ 0 → parErr S.data.toList = n → ∀ e w', e = .returned (.agg #[.int .i64 0, .int .i64 0, .int .i64 0, .slice none 0 0, .int .i64 n]) → Calm w w' → ParEnd S.data.toList w e w' := fun n hn hp e w' he hc => ParEnd.bad hp hn he hc
  have GG : ∀ v, parErr S.data.toList = 0 → ∀ e w', e = .returned (.agg #[.int .i64 (n0 S.data.toList), .int .i64 (n1 S.data.toList), .int .i64 (n2 S.data.toList), v, .int .i64 0]) → OwnR w.heap.size w' v (parL S.data.toList) → Calm w w' → ParEnd S.data.toList w e w' := fun v hp e w' he ho hc =>
    ⟨v, by rw [he]; unfold rdZ; rw [hp, if_pos rfl, if_pos rfl, if_pos rfl], ho, hc⟩
  generalize ParEnd S.data.toList w = Q at GB GG ⊢
  replace GB := Lib.hid GB
  replace GG := Lib.hid GG
  go_enter Try.func18, Try.ntmps18
  go_wp2_with fail
  generalize (w.alloc (.cells #[.int .i64 0, .int .i64 0, .int .i64 0, .slice none 0 0, .int .i64 0] 40)).alloc (.cells #[.int .i64 0, .int .i64 0, .int .i64 0, .slice none 0 0, .int .i64 0] 40) = w4 at hz hx hu hs1 ⊢
  obtain ⟨base, hbase⟩ : ∃ b, b = w4.heap.size := ⟨_, rfl⟩
  have hb4 : base ≤ w4.heap.size := by omega
  have q1 : w.heap.size + 1 < base := by omega
  clear hs1 hbase
  go_loopw [0, 4] (fun sv iv wr => ∃ (R : ByteArray) (i : Nat) (M : List El) (A : Option Addr) (c : Nat) (P F T : Int), sv = .string R ∧ iv = .int .i64 i ∧ Calm w wr ∧ wr.heap[w.heap.size]? = some (.cells #[.int .i64 0, .int .i64 0, .int .i64 0, .slice none 0 0, .int .i64 0] 40 (0, 0)) ∧ wr.heap[w.heap.size + 1]? = some (.cells #[.int .i64 P, .int .i64 F, .int .i64 T, .slice A M.length c, .int .i64 0] 40 (0, 0)) ∧ Hid (OwnR base wr (.slice A M.length c) M) ∧ Hid (base ≤ wr.heap.size) ∧ Hid (M.length + R.size ≤ 1073741824) ∧ Hid (Strm P F T M) ∧
      Hid ((i = 0 ∧ R = S ∧ M = [] ∧ P = 0 ∧ F = 0 ∧ T = 0) ∨ (i = M.length + 1 ∧ begErr S.data.toList = 0 ∧ P = n0 S.data.toList ∧ F = n1 S.data.toList ∧ T = n2 S.data.toList ∧ prsA P F T [] (rest S.data.toList) = prsA P F T M R.data.toList))) (fun sv _ _ => match sv with | .string R => R.size | _ => 0)
  case atStart => exact ⟨S, 0, [], none, 0, 0, 0, 0, rfl, rfl, hu, hz, hx, Lib.hid (OwnR.nil _ _), Lib.hid hb4, show _ ≤ _ from (by simp; omega), show Strm _ _ _ _ from ⟨List.Pairwise.nil, by simp⟩, show _ ∨ _ from .inl ⟨rfl, rfl, rfl, rfl, rfl, rfl⟩⟩
  case round =>
    obtain ⟨R, i, M, A, c, P, F, T, rfl, rfl, hu, hz, hx, ho, hbs, hMR, hST, hI⟩ := hrel
    by_cases hd : unErr R.data.toList = 0
    rotate_left
    · have hE : parErr S.data.toList = unErr R.data.toList := by
        rcases hI.out with ⟨-, rfl, -⟩ | ⟨-, h0, rfl, rfl, rfl, h5⟩
        · unfold parErr
          have : begErr R.data.toList = unErr R.data.toList := by unfold begErr; exact if_neg hd
          rw [this]; exact if_neg hd
        · unfold parErr; rw [if_pos h0, h5, prsA_bad hd]
      have cF := fun u => unf_bad R _ rfl hd u
      have b1 := ne_true' hd
      have HB2 := Lib.hid (GB.out _ hd hE)
      generalize unErr R.data.toList = E at cF b1 HB2
      clear hE hd GB GG hI hMR hST
      go_wp2_with (go_at_call 41; refine (cF _).mono ?_; rintro e w5 ⟨rfl, hb1⟩; replace hz := heap_past (.cells #[.int .i64 0, .string { data := #[] }] 73) ((hb1.block (row5P hz).2.2.2.2.2).trans hz); replace hu := (hu.call hb1).alloc (.cells #[.int .i64 0, .string { data := #[] }] 73); clear hb1; obtain ⟨z0, z1, z2, z3, z4, hzs⟩ := row5P hz; obtain ⟨f0, f1, f2, f3, f4⟩ := free5P hz)
      have hr := set5P hz (.int .i64 0) (.int .i64 0) (.int .i64 0) (.slice none 0 0) (.int .i64 E)
      have hu2 := hu.fiveP (g := w.heap.size) (Nat.le_refl _) (.int .i64 0) (.int .i64 0) (.int .i64 0) (.slice none 0 0) (.int .i64 E)
      unfold World.fiveP at hr hu2
      exact end_par rfl rfl _ _ _ _ _ _ rfl rfl hr rfl (HB2.out _ _ rfl hu2)
    have cF := fun u => unf_good R hd _ rfl _ rfl u
    have hUN := (unErr_zero hd).1
    rw [bytes_len] at hUN
    have hUi : ((5 + unSize R.data.toList : Nat) : Int) ≤ (R.size : Int) := by omega
    have hBody : (⟨(unBody R.data.toList).toArray⟩ : ByteArray).data.toList = unBody R.data.toList := bytes_list _
    have hL2 := ext_drop R (5 + unSize R.data.toList)
    have hsz : (R.extract (5 + unSize R.data.toList) R.size).size = R.size - (5 + unSize R.data.toList) := by rw [ByteArray.size_extract]; omega
    rcases hI.out with ⟨rfl, rfl, rfl, rfl, rfl, rfl⟩ | ⟨h0, h0b, hP0, hF0, hT0, h5⟩
    · have hKB : ∃ (K : Int) (B : ByteArray), K = (unKind R.data.toList : Int) ∧ B = ⟨(unBody R.data.toList).toArray⟩ := ⟨_, _, rfl, rfl⟩
      obtain ⟨K, B, hK, hB⟩ := hKB
      have hBl : B.size = (unBody R.data.toList).length := by rw [hB, bytes_size]
      rw [← hK, ← hB] at cF
      by_cases hk : K = 1 ∧ B.size = 12
      rotate_left
      · have hE : parErr R.data.toList = 3 := by
          have : begErr R.data.toList = 3 := by
            unfold begErr; rw [if_pos hd]
            exact if_neg fun h2 => hk ⟨by omega, by omega⟩
          unfold parErr; rw [this]; rfl
        have HB2 := Lib.hid (GB.out 3 (by decide) hE)
        have hc : ((K : Int) == 1) = false ∨ ((K : Int) == 1) = true ∧ ((B.size : Int) == 12) = false := by
          by_cases h1 : K = 1
          · right; refine ⟨by simpa using h1, ?_⟩; rw [beq_eq_false_iff_ne]; omega
          · left; simpa using h1
        clear hE hd GB GG hI hMR hST hk hK hB hBl hBody hL2
        generalize 5 + unSize R.data.toList = N at cF hUi hUN
        rcases hc with b1 | ⟨b1, b2⟩
        all_goals
          go_wp2_with (go_at_call 41; refine (cF _).mono ?_; rintro e w5 ⟨rfl, hb1⟩; replace hz := heap_past (.cells #[.int .i64 K, .string B] 73) ((hb1.block (row5P hz).2.2.2.2.2).trans hz); replace hu := (hu.call hb1).alloc (.cells #[.int .i64 K, .string B] 73); clear hb1; obtain ⟨z0, z1, z2, z3, z4, hzs⟩ := row5P hz; obtain ⟨f0, f1, f2, f3, f4⟩ := free5P hz)
          have hr := set5P hz (.int .i64 0) (.int .i64 0) (.int .i64 0) (.slice none 0 0) (.int .i64 3)
          have hu2 := hu.fiveP (g := w.heap.size) (Nat.le_refl _) (.int .i64 0) (.int .i64 0) (.int .i64 0) (.slice none 0 0) (.int .i64 3)
          unfold World.fiveP at hr hu2
          exact end_par rfl rfl _ _ _ _ _ _ rfl rfl hr rfl (HB2.out _ _ rfl hu2)
      obtain ⟨rfl, hB12⟩ := hk
      have hB12i : (B.size : Int) = 12 := by omega
      have c1 := fun u => quad_big B 0 4 (bg0 B.data.toList) rfl rfl u
      have c2 := fun u => quad_big B 4 8 (bg1 B.data.toList) rfl rfl u
      have c3 := fun u => quad_big B 8 12 (bg2 B.data.toList) rfl rfl u
      have hBd : Hid (B.data.toList = unBody R.data.toList) := show _ = _ by rw [hB]
      generalize hN : 5 + unSize R.data.toList = N at cF hUi hUN hL2 hsz
      have HN := Lib.hid hN
      have HK := Lib.hid hK
      have HL2 := Lib.hid hL2
      have HSZ := Lib.hid hsz
      clear hN hK hL2 hsz hB hBody hBl hI
      go_upto_region 12 with (go_at_call 41; refine (cF _).mono ?_; rintro e w5 ⟨rfl, hb1⟩; replace hz := heap_past (.cells #[.int .i64 1, .string B] 73) ((hb1.block (row5P hz).2.2.2.2.2).trans hz); replace hx := heap_past (.cells #[.int .i64 1, .string B] 73) ((hb1.block (row5P hx).2.2.2.2.2).trans hx); have hy := heap_new w5 (.cells #[.int .i64 1, .string B] 73); replace hu := (hu.call hb1).alloc (.cells #[.int .i64 1, .string B] 73); replace ho := Lib.hid (ho.out.calm (((Calm.refl _).call hb1).alloc (.cells #[.int .i64 1, .string B] 73))); have hbs5 := Nat.le_trans hbs.out hb1.size; clear hb1; obtain ⟨y0, y1, hys⟩ := row2 hy)
      have hu2s : base ≤ (w5.alloc (.cells #[.int .i64 1, .string B] 73)).heap.size := by simp; omega
      obtain ⟨x0, x1, x2, x3, x4, hxs⟩ := row5P hx
      have hg5 : w.heap.size + 1 < w5.heap.size := by have := (Array.getElem?_eq_some_iff.1 hx).1; simp at this; omega
      generalize w5.alloc (.cells #[.int .i64 1, .string B] 73) = w6 at hz hx hy hu ho hu2s x0 x1 x2 x3 x4 hxs y0 y1 hys ⊢
      refine wp_region_plan_tail 13 [.val (.pointer (some ⟨w5.heap.size, 1, none⟩)), .val (.string B), .val (.string (B.extract 0 4)), .val (.int .i64 ((bg0 B.data.toList : Int))), .val (.pointer (some ⟨w5.heap.size, 1, none⟩)), .val (.string B), .val (.string (B.extract 4 8)), .val (.int .i64 ((bg1 B.data.toList : Int))), .val (.pointer (some ⟨w5.heap.size, 1, none⟩)), .val (.string B), .val (.string (B.extract 8 12)), .val (.int .i64 ((bg2 B.data.toList : Int))), .val (.pointer (some ⟨w.heap.size+1, 0, none⟩))] (by kernel_rfl) (by kernel_rfl) (by kernel_rfl) (by kernel_rfl) ?_
      intro X
      simp only [List.take_succ_cons, List.take_zero, List.drop_succ_cons, List.drop_zero]
      iterate 13
        refine plan_val (by kernel_rfl) (fun u hu => ?_) ?_
        · obtain ⟨hc, hf, hz⟩ := hu.of_drew.facts
          go_simp
          all_goals first
            | ((go_at_call 42; first | (with_reducible exact calls_calm (c1 _)) | (with_reducible exact calls_calm (c2 _)) | (with_reducible exact calls_calm (c3 _))))
        simp only [Act.put, List.setIfInBounds_toArray, List.set_cons_zero, List.set_cons_succ, Nat.reduceAdd]
      refine plan_end ?_
      intro w' hB
      have hk := hB.calm.of_drew
      clear hB
      replace hz := (hk.block (row5P hz).2.2.2.2.2).trans hz
      replace hx := (hk.block hxs).trans hx
      replace hy := (hk.block hys).trans hy
      replace hu := hu.call hk
      replace ho := Lib.hid (ho.out.calm hk)
      clear x0 x1 x2 x3 x4 hxs y0 y1 hys
      obtain ⟨x0, x1, x2, x3, x4, hxs⟩ := row5P hx
      obtain ⟨i0, i1, i2, i3, i4⟩ := free5P hx
      go_upto_region 13 with fail
      generalize hga : bg0 B.data.toList = a at *
      generalize hgb : bg1 B.data.toList = b at *
      generalize hgc : bg2 B.data.toList = cc at *
      replace hx : ((((w'.setCell ⟨w.heap.size + 1, 0, none⟩ (.int .i64 (a : Int))).setCell ⟨w.heap.size + 1, 1, none⟩ (.int .i64 (b : Int))).setCell ⟨w.heap.size + 1, 2, none⟩ (.int .i64 (cc : Int)))).heap[w.heap.size + 1]? = some (.cells #[.int .i64 (a : Int), .int .i64 (b : Int), .int .i64 (cc : Int), .slice A 0 c, .int .i64 0] 40 (0, 0)) := heap_setCell_same _ (w.heap.size + 1) 2 _ _ (.int .i64 (cc : Int)) (heap_setCell_same _ (w.heap.size + 1) 1 _ _ (.int .i64 (b : Int)) (heap_setCell_same _ (w.heap.size + 1) 0 _ _ (.int .i64 (a : Int)) hx))
      replace hz := (one_other (j := 2) (show w.heap.size ≠ w.heap.size + 1 by omega) (.int .i64 (cc : Int))).trans ((one_other (j := 1) (show w.heap.size ≠ w.heap.size + 1 by omega) (.int .i64 (b : Int))).trans ((one_other (j := 0) (show w.heap.size ≠ w.heap.size + 1 by omega) (.int .i64 (a : Int))).trans hz))
      replace hu := ((hu.setCell (p := ⟨w.heap.size + 1, 0, none⟩) (by simp) (.int .i64 (a : Int))).setCell (p := ⟨w.heap.size + 1, 1, none⟩) (by simp) (.int .i64 (b : Int))).setCell (p := ⟨w.heap.size + 1, 2, none⟩) (by simp) (.int .i64 (cc : Int))
      replace ho := Lib.hid (own_apart (own_apart (own_apart ho.out (g := w.heap.size + 1) (j := 0) (x := .int .i64 (a : Int)) (by omega)) (g := w.heap.size + 1) (j := 1) (x := .int .i64 (b : Int)) (by omega)) (g := w.heap.size + 1) (j := 2) (x := .int .i64 (cc : Int)) (by omega))
      have hb7 : base ≤ (((w'.setCell ⟨w.heap.size + 1, 0, none⟩ (.int .i64 (a : Int))).setCell ⟨w.heap.size + 1, 1, none⟩ (.int .i64 (b : Int))).setCell ⟨w.heap.size + 1, 2, none⟩ (.int .i64 (cc : Int))).heap.size := by
        have h1 := hk.size
        have h2 := hu2s
        simp only [World.setCell, Array.size_modify]; omega
      generalize ((w'.setCell ⟨w.heap.size + 1, 0, none⟩ (.int .i64 (a : Int))).setCell ⟨w.heap.size + 1, 1, none⟩ (.int .i64 (b : Int))).setCell ⟨w.heap.size + 1, 2, none⟩ (.int .i64 (cc : Int)) = w8 at hx hz hu ho hb7 ⊢
      clear x0 x1 x2 x3 x4 hxs i0 i1 i2 i3 i4 hk
      obtain ⟨x0, x1, x2, x3, x4, hxs⟩ := row5P hx
      obtain ⟨z0, z1, z2, z3, z4, hzs⟩ := row5P hz
      have cS := fun u => refSpan_any (a : Int) b cc u
      have hbg : begErr R.data.toList = if spanErr (a : Int) b cc = 0 then 0 else 3 := by
        unfold begErr
        rw [if_pos hd]
        have e1 : n0 R.data.toList = (a : Int) := by rw [← hga, hBd.out]; rfl
        have e2 : n1 R.data.toList = (b : Int) := by rw [← hgb, hBd.out]; rfl
        have e3 : n2 R.data.toList = (cc : Int) := by rw [← hgc, hBd.out]; rfl
        rw [e1, e2, e3]
        have h12 : (unBody R.data.toList).length = 12 := by rw [← hBd.out, bytes_len]; exact hB12
        have hk1 : unKind R.data.toList = 1 := by have := HK.out; omega
        by_cases hsp : spanErr (a : Int) b cc = 0
        · rw [if_pos ⟨hk1, h12, hsp⟩, if_pos hsp]
        · rw [if_neg fun h => hsp h.2.2, if_neg hsp]
      by_cases hsp : spanErr (a : Int) b cc = 0
      · rw [hsp, if_pos rfl] at hbg
        rw [hsp] at cS
        have hpr : Hid (prsA (a : Int) b cc [] (rest R.data.toList) = prsA (a : Int) b cc [] (R.extract N R.size).data.toList) := show _ = _ by
          rw [HL2.out]; unfold rest; rw [HN.out]
        have e1 : n0 R.data.toList = (a : Int) := by rw [← hga, hBd.out]; rfl
        have e2 : n1 R.data.toList = (b : Int) := by rw [← hgb, hBd.out]; rfl
        have e3 : n2 R.data.toList = (cc : Int) := by rw [← hgc, hBd.out]; rfl
        have H1 := Lib.hid hbg
        have H2 := Lib.hid e1
        have H3 := Lib.hid e2
        have H4 := Lib.hid e3
        have HM0 : Hid (([] : List El).length + (R.extract N R.size).size ≤ 1073741824) := show _ ≤ _ by rw [HSZ.out]; simp; omega
        have hN5 : 5 ≤ N := by have := HN.out; omega
        have hzs := HSZ.out
        have hRN : (R.extract N R.size).size < R.size := by omega
        clear hzs e1 e2 e3 hga hgb hgc hbg hsp hd
        go_wp2_with (go_at_call 13; refine (cS _).mono ?_; rintro e w9 ⟨rfl, hb1⟩; replace hz := (hb1.block (row5P hz).2.2.2.2.2).trans hz; replace hx := (hb1.block hxs).trans hx; replace hu := hu.call hb1; replace ho := Lib.hid (ho.out.calm hb1); have hb9 := Lib.hid (Nat.le_trans hb7 hb1.size); clear hb1)
        go_roundw
        case rel => exact ⟨_, 1, [], A, c, _, _, _, rfl, by go_num, hu, hz, hx, ho, hb9, HM0, show Strm _ _ _ _ from ⟨List.Pairwise.nil, by simp⟩, show _ ∨ _ from .inr ⟨rfl, H1.out, H2.out.symm, H3.out.symm, H4.out.symm, hpr.out⟩⟩
        case measure => exact hRN
      · rw [if_neg hsp] at hbg
        have hE : parErr R.data.toList = 3 := by unfold parErr; rw [hbg]; rfl
        have HB2 := Lib.hid (GB.out 3 (by decide) hE)
        have b1 := eq_false'' hsp
        generalize spanErr (a : Int) b cc = E at cS b1
        clear hE hbg hd hga hgb hgc hsp
        go_wp2_with (go_at_call 13; refine (cS _).mono ?_; rintro e w9 ⟨rfl, hb1⟩; replace hz := (hb1.block (row5P hz).2.2.2.2.2).trans hz; replace hu := hu.call hb1; clear hb1 z0 z1 z2 z3 z4 hzs; obtain ⟨z0, z1, z2, z3, z4, hzs⟩ := row5P hz; obtain ⟨f0, f1, f2, f3, f4⟩ := free5P hz)
        have hr := set5P hz (.int .i64 0) (.int .i64 0) (.int .i64 0) (.slice none 0 0) (.int .i64 3)
        have hu2 := hu.fiveP (g := w.heap.size) (Nat.le_refl _) (.int .i64 0) (.int .i64 0) (.int .i64 0) (.slice none 0 0) (.int .i64 3)
        unfold World.fiveP at hr hu2
        exact end_par rfl rfl _ _ _ _ _ _ rfl rfl hr rfl (HB2.out _ _ rfl hu2)
    · obtain ⟨K, B, hK, hB⟩ : ∃ (K : Int) (B : ByteArray), K = (unKind R.data.toList : Int) ∧ B = ⟨(unBody R.data.toList).toArray⟩ := ⟨_, _, rfl, rfl⟩
      have hBd : Hid (B.data.toList = unBody R.data.toList) := show _ = _ by rw [hB]
      rw [← hK, ← hB] at cF
      have hi0 : ((i : Int) == 0) = false := by rw [beq_eq_false_iff_ne]; omega
      have HI := Lib.hid h0
      have hii : (i : Int) ≤ 1073741825 := by have := hMR.out; omega
      have zi : IntKind.i64.wrap ((i : Int) - 1) = (M.length : Int) := by rw [IntWalk.i64_in _ (by omega)]; omega
      have zk : IntKind.i64.wrap (M.length : Int) = (M.length : Int) := IntWalk.i64_in _ (by omega)
      have zj : (i : Int) - 1 = (M.length : Int) := by omega
      have HB0 := Lib.hid h0b
      have HPP := Lib.hid hP0
      have HPF := Lib.hid hF0
      have HPT := Lib.hid hT0
      have H5 := Lib.hid h5
      have hpe : Hid (parErr S.data.toList = (prsA P F T M R.data.toList).1 ∧ parL S.data.toList = (prsA P F T M R.data.toList).2) := show _ ∧ _ by
        unfold parErr parL
        rw [if_pos h0b, if_pos h0b, ← hP0, ← hF0, ← hT0, h5]
        exact ⟨rfl, rfl⟩
      have HK := Lib.hid hK
      have HD := Lib.hid hd
      generalize hN : 5 + unSize R.data.toList = N at cF hUi hUN hL2 hsz
      have HN := Lib.hid hN
      have HL2 := Lib.hid hL2
      have HSZ := Lib.hid hsz
      clear hN hK hL2 hsz hB hBody hI h0 h0b hP0 hF0 hT0 h5 hd
      by_cases h3 : K = 3
      · have hEnd := prsA_end (p := P) (f := F) (t := T) (M := M) HD.out (by have := HK.out; omega)
        rw [bytes_len, HN.out, ← hBd.out] at hEnd
        have cE := fun u => big_4 M.length u (by have := hMR.out; omega)
        have hbl : (be 4 M.length) = (⟨(be 4 M.length).toArray⟩ : ByteArray).data.toList := (bytes_list _).symm
        rw [hbl] at hEnd
        generalize (⟨(be 4 M.length).toArray⟩ : ByteArray) = E4 at cE hEnd
        have hEq : B.data.toList = E4.data.toList ↔ B = E4 := ⟨fun h => ByteArray.ext (Array.toList_inj.1 h), fun h => by rw [h]⟩
        have HPE : Hid (parErr S.data.toList = (if B = E4 ∧ R.size = N then 0 else 3) ∧ (B = E4 ∧ R.size = N → parL S.data.toList = M)) := show _ ∧ _ by
          rw [hpe.out.1, hpe.out.2, hEnd]
          simp only [hEq]
          by_cases hc : B = E4 ∧ R.size = N
          · rw [if_pos hc, if_pos hc]; exact ⟨rfl, fun _ => rfl⟩
          · rw [if_neg hc, if_neg hc]; exact ⟨rfl, fun h => absurd h hc⟩
        clear hEnd hEq hbl hpe
        have k3 : (K == 3) = true := by simpa using h3
        have k2 : (K == 2) = false := by rw [beq_eq_false_iff_ne]; omega
        replace h3 := Lib.hid h3
        by_cases hR0 : R.size = N
        · have hRe : R.extract N R.size = { data := #[] } := by
            apply ByteArray.ext
            apply Array.eq_empty_of_size_eq_zero
            have := HSZ.out
            show (R.extract N R.size).size = 0
            omega
          by_cases hBE : B = E4
          · subst hBE
            have hp0 : parErr S.data.toList = 0 := by rw [HPE.out.1, if_pos ⟨rfl, hR0⟩]
            have hpL := HPE.out.2 ⟨rfl, hR0⟩
            have HG2 := Lib.hid (GG.out (.slice A M.length c) hp0)
            have HPL := Lib.hid hpL
            have HR0 := Lib.hid hR0
            have HRE := Lib.hid hRe
            clear hp0 hpL HPE hR0 hRe
            go_upto_region 19 with (go_at_call 41; refine (cF _).mono ?_; rintro e w5 ⟨rfl, hb1⟩; replace hz := heap_past (.cells #[.int .i64 K, .string B] 73) ((hb1.block (row5P hz).2.2.2.2.2).trans hz); replace hx := heap_past (.cells #[.int .i64 K, .string B] 73) ((hb1.block (row5P hx).2.2.2.2.2).trans hx); have hy := heap_new w5 (.cells #[.int .i64 K, .string B] 73); replace hu := (hu.call hb1).alloc (.cells #[.int .i64 K, .string B] 73); replace ho := Lib.hid (ho.out.calm (((Calm.refl _).call hb1).alloc (.cells #[.int .i64 K, .string B] 73))); have hbs5 := Nat.le_trans hbs.out hb1.size; clear hb1; obtain ⟨y0, y1, hys⟩ := row2 hy; obtain ⟨x0, x1, x2, x3, x4, hxs⟩ := row5P hx; obtain ⟨z0, z1, z2, z3, z4, hzs⟩ := row5P hz; obtain ⟨f0, f1, f2, f3, f4⟩ := free5P hz)
            refine wp_region_plan [.val (.string (R.extract N R.size)), .val (.bool true), .val (.bool true), .val (.pointer (some ⟨w5.heap.size, 1, none⟩)), .val (.string B), .val (.int .i64 ((i : Int))), .val (.int .i64 ((M.length : Int))), .val (.string B), .val (.bool true), .val (.bool true)] (by kernel_rfl) (by kernel_rfl) (by kernel_rfl) ?_
            intro X
            iterate 10
              refine plan_val (by kernel_rfl) (fun u hu => ?_) ?_
              · obtain ⟨hc, hf, hz⟩ := hu.of_drew.facts
                go_simp
                all_goals first
                  | ((go_at_call 37; exact cE _))
                  | (exact zi)
                  | (exact zk)
                  | ((rw [HRE.out]; rfl))
                  | ((simp; done))
                  | ((simp [HRE.out]; done))
              simp only [Act.put, List.setIfInBounds_toArray, List.set_cons_zero, List.set_cons_succ, Nat.reduceAdd]
            refine plan_end ?_
            intro w' hB
            have hk := hB.calm.of_drew
            clear hB
            replace hz := (hk.block hzs).trans hz
            replace hx := (hk.block hxs).trans hx
            replace hu := hu.call hk
            replace ho := Lib.hid (ho.out.calm hk)
            clear hk x0 x1 x2 x3 x4 hxs z0 z1 z2 z3 z4 hzs f0 f1 f2 f3 f4
            obtain ⟨x0, x1, x2, x3, x4, hxs⟩ := row5P hx
            obtain ⟨z0, z1, z2, z3, z4, hzs⟩ := row5P hz
            obtain ⟨f0, f1, f2, f3, f4⟩ := free5P hz
            go_wp2_with fail
            have hr := set5P hz (.int .i64 P) (.int .i64 F) (.int .i64 T) (.slice A M.length c) (.int .i64 0)
            have hu2 := hu.fiveP (g := w.heap.size) (Nat.le_refl _) (.int .i64 P) (.int .i64 F) (.int .i64 T) (.slice A M.length c) (.int .i64 0)
            have ho2 := own_apart (own_apart (own_apart (own_apart (own_apart ho.out (g := w.heap.size) (j := 0) (x := .int .i64 P) (by omega)) (g := w.heap.size) (j := 1) (x := .int .i64 F) (by omega)) (g := w.heap.size) (j := 2) (x := .int .i64 T) (by omega)) (g := w.heap.size) (j := 3) (x := .slice A M.length c) (by omega)) (g := w.heap.size) (j := 4) (x := .int .i64 0) (by omega)
            unfold World.fiveP at hr hu2
            refine end_par rfl rfl _ _ _ _ _ _ rfl rfl hr rfl (HG2.out _ _ ?_ ?_ hu2)
            · rw [HPP.out, HPF.out, HPT.out]
            · rw [HPL.out]; exact ho2.less (by omega)
          · have hE : parErr S.data.toList = 3 := by rw [HPE.out.1, if_neg fun h => hBE h.1]
            have HB2 := Lib.hid (GB.out 3 (by decide) hE)
            have b4 := str_ne hBE
            have HRE := Lib.hid hRe
            clear hE HPE hRe
            go_upto_region 19 with (go_at_call 41; refine (cF _).mono ?_; rintro e w5 ⟨rfl, hb1⟩; replace hz := heap_past (.cells #[.int .i64 K, .string B] 73) ((hb1.block (row5P hz).2.2.2.2.2).trans hz); replace hx := heap_past (.cells #[.int .i64 K, .string B] 73) ((hb1.block (row5P hx).2.2.2.2.2).trans hx); have hy := heap_new w5 (.cells #[.int .i64 K, .string B] 73); replace hu := (hu.call hb1).alloc (.cells #[.int .i64 K, .string B] 73); replace ho := Lib.hid (ho.out.calm (((Calm.refl _).call hb1).alloc (.cells #[.int .i64 K, .string B] 73))); have hbs5 := Nat.le_trans hbs.out hb1.size; clear hb1; obtain ⟨y0, y1, hys⟩ := row2 hy; obtain ⟨x0, x1, x2, x3, x4, hxs⟩ := row5P hx; obtain ⟨z0, z1, z2, z3, z4, hzs⟩ := row5P hz; obtain ⟨f0, f1, f2, f3, f4⟩ := free5P hz)
            refine wp_region_plan [.val (.string (R.extract N R.size)), .val (.bool true), .val (.bool true), .val (.pointer (some ⟨w5.heap.size, 1, none⟩)), .val (.string B), .val (.int .i64 ((i : Int))), .val (.int .i64 ((M.length : Int))), .val (.string E4), .val (.bool false), .val (.bool false)] (by kernel_rfl) (by kernel_rfl) (by kernel_rfl) ?_
            intro X
            iterate 10
              refine plan_val (by kernel_rfl) (fun u hu => ?_) ?_
              · obtain ⟨hc, hf, hz⟩ := hu.of_drew.facts
                go_simp
                all_goals first
                  | ((go_at_call 37; exact cE _))
                  | (exact zi)
                  | (exact zk)
                  | ((rw [HRE.out]; rfl))
                  | ((simp [b4]; done))
                  | ((simp [HRE.out]; done))
                  | ((simp [hBE]; done))
              simp only [Act.put, List.setIfInBounds_toArray, List.set_cons_zero, List.set_cons_succ, Nat.reduceAdd]
            refine plan_end ?_
            intro w' hB
            have hk := hB.calm.of_drew
            clear hB
            replace hz := (hk.block hzs).trans hz
            replace hx := (hk.block hxs).trans hx
            replace hu := hu.call hk
            replace ho := Lib.hid (ho.out.calm hk)
            clear hk x0 x1 x2 x3 x4 hxs z0 z1 z2 z3 z4 hzs f0 f1 f2 f3 f4
            obtain ⟨x0, x1, x2, x3, x4, hxs⟩ := row5P hx
            obtain ⟨z0, z1, z2, z3, z4, hzs⟩ := row5P hz
            obtain ⟨f0, f1, f2, f3, f4⟩ := free5P hz
            go_wp2_with fail
            have hr := set5P hz (.int .i64 0) (.int .i64 0) (.int .i64 0) (.slice none 0 0) (.int .i64 3)
            have hu2 := hu.fiveP (g := w.heap.size) (Nat.le_refl _) (.int .i64 0) (.int .i64 0) (.int .i64 0) (.slice none 0 0) (.int .i64 3)
            unfold World.fiveP at hr hu2
            exact end_par rfl rfl _ _ _ _ _ _ rfl rfl hr rfl (HB2.out _ _ rfl hu2)
        · have hE : parErr S.data.toList = 3 := by rw [HPE.out.1, if_neg fun h => hR0 h.2]
          have HB2 := Lib.hid (GB.out 3 (by decide) hE)
          have hRe : ¬ R.extract N R.size = { data := #[] } := fun h => by
            have h1 := congrArg ByteArray.size h
            rw [HSZ.out] at h1
            have h2 : ({ data := #[] } : ByteArray).size = 0 := rfl
            omega
          have b5 := str_ne hRe
          have hne : ¬ (R.extract N R.size).toList = [] := fun h => by
            rw [ByteArray.toList_eq] at h
            have h1 := congrArg List.length h
            rw [bytes_len, HSZ.out] at h1
            simp only [List.length_nil] at h1
            omega
          have HRE := Lib.hid hRe
          clear hE HPE hRe
          go_upto_region 19 with (go_at_call 41; refine (cF _).mono ?_; rintro e w5 ⟨rfl, hb1⟩; replace hz := heap_past (.cells #[.int .i64 K, .string B] 73) ((hb1.block (row5P hz).2.2.2.2.2).trans hz); replace hx := heap_past (.cells #[.int .i64 K, .string B] 73) ((hb1.block (row5P hx).2.2.2.2.2).trans hx); have hy := heap_new w5 (.cells #[.int .i64 K, .string B] 73); replace hu := (hu.call hb1).alloc (.cells #[.int .i64 K, .string B] 73); replace ho := Lib.hid (ho.out.calm (((Calm.refl _).call hb1).alloc (.cells #[.int .i64 K, .string B] 73))); have hbs5 := Nat.le_trans hbs.out hb1.size; clear hb1; obtain ⟨y0, y1, hys⟩ := row2 hy; obtain ⟨x0, x1, x2, x3, x4, hxs⟩ := row5P hx; obtain ⟨z0, z1, z2, z3, z4, hzs⟩ := row5P hz; obtain ⟨f0, f1, f2, f3, f4⟩ := free5P hz)
          refine wp_region_plan [.val (.string (R.extract N R.size)), .val (.bool false), .val (.bool false), .idle, .idle, .idle, .idle, .idle, .idle, .val (.bool false)] (by kernel_rfl) (by kernel_rfl) (by kernel_rfl) ?_
          intro X
          iterate 3
            refine plan_val (by kernel_rfl) (fun u hu => ?_) ?_
            · obtain ⟨hc, hf, hz⟩ := hu.of_drew.facts
              go_simp
              all_goals first
                | ((simp [b5]; done))
                | ((simp [HRE.out]; done))
                | (exact b5)
                | (exact hne)
            simp only [Act.put, List.setIfInBounds_toArray, List.set_cons_zero, List.set_cons_succ, Nat.reduceAdd]
          iterate 6
            refine plan_idle (by kernel_rfl) ?_
            simp only [Act.put, List.setIfInBounds_toArray, List.set_cons_zero, List.set_cons_succ, Nat.reduceAdd]
          iterate 1
            refine plan_val (by kernel_rfl) (fun u hu => ?_) ?_
            · obtain ⟨hc, hf, hz⟩ := hu.of_drew.facts
              go_simp
              all_goals first
                | ((simp [b5]; done))
                | ((simp [HRE.out]; done))
                | (exact b5)
                | (exact hne)
            simp only [Act.put, List.setIfInBounds_toArray, List.set_cons_zero, List.set_cons_succ, Nat.reduceAdd]
          refine plan_end ?_
          intro w' hB
          have hk := hB.calm.of_drew
          clear hB
          replace hz := (hk.block hzs).trans hz
          replace hx := (hk.block hxs).trans hx
          replace hu := hu.call hk
          replace ho := Lib.hid (ho.out.calm hk)
          clear hk x0 x1 x2 x3 x4 hxs z0 z1 z2 z3 z4 hzs f0 f1 f2 f3 f4
          obtain ⟨x0, x1, x2, x3, x4, hxs⟩ := row5P hx
          obtain ⟨z0, z1, z2, z3, z4, hzs⟩ := row5P hz
          obtain ⟨f0, f1, f2, f3, f4⟩ := free5P hz
          go_wp2_with fail
          have hr := set5P hz (.int .i64 0) (.int .i64 0) (.int .i64 0) (.slice none 0 0) (.int .i64 3)
          have hu2 := hu.fiveP (g := w.heap.size) (Nat.le_refl _) (.int .i64 0) (.int .i64 0) (.int .i64 0) (.slice none 0 0) (.int .i64 3)
          unfold World.fiveP at hr hu2
          exact end_par rfl rfl _ _ _ _ _ _ rfl rfl hr rfl (HB2.out _ _ rfl hu2)
      · by_cases h2 : K = 2
        rotate_left
        · have hE : parErr S.data.toList = 3 := by
            rw [hpe.out.1, prsA_no HD.out (by have := HK.out; omega) (fun h => h2 (by have := HK.out; omega))]
          have HB2 := Lib.hid (GB.out 3 (by decide) hE)
          have k3 : (K == 3) = false := by simpa using h3
          have k2 : (K == 2) = false := by simpa using h2
          clear hE hpe
          go_wp2_with (go_at_call 41; refine (cF _).mono ?_; rintro e w5 ⟨rfl, hb1⟩; replace hz := heap_past (.cells #[.int .i64 K, .string B] 73) ((hb1.block (row5P hz).2.2.2.2.2).trans hz); replace hx := heap_past (.cells #[.int .i64 K, .string B] 73) ((hb1.block (row5P hx).2.2.2.2.2).trans hx); have hy := heap_new w5 (.cells #[.int .i64 K, .string B] 73); replace hu := (hu.call hb1).alloc (.cells #[.int .i64 K, .string B] 73); replace ho := Lib.hid (ho.out.calm (((Calm.refl _).call hb1).alloc (.cells #[.int .i64 K, .string B] 73))); have hbs5 := Nat.le_trans hbs.out hb1.size; clear hb1; obtain ⟨y0, y1, hys⟩ := row2 hy; obtain ⟨x0, x1, x2, x3, x4, hxs⟩ := row5P hx; obtain ⟨z0, z1, z2, z3, z4, hzs⟩ := row5P hz; obtain ⟨f0, f1, f2, f3, f4⟩ := free5P hz)
          have hr := set5P hz (.int .i64 0) (.int .i64 0) (.int .i64 0) (.slice none 0 0) (.int .i64 3)
          have hu2 := hu.fiveP (g := w.heap.size) (Nat.le_refl _) (.int .i64 0) (.int .i64 0) (.int .i64 0) (.slice none 0 0) (.int .i64 3)
          unfold World.fiveP at hr hu2
          exact end_par rfl rfl _ _ _ _ _ _ rfl rfl hr rfl (HB2.out _ _ rfl hu2)
        · obtain ⟨X, N2, E, cG, hXw, hnx⟩ : ∃ (X : El) (N2 E : Int), (∀ u, Calls Try.prog 43 #[.string B] u fun e w' => e = .returned (.tuple #[.agg #[.int .i64 X.p, .int .i64 X.o, .int .i64 X.f, .int .i64 X.m, .int .i64 X.g, .string X.s], .int .i64 N2, .int .i64 E]) ∧ Calm u w') ∧ X.wf ∧ (nxtB P F T M B.data.toList = true ↔ E = 0 ∧ N2 = (B.size : Int) ∧ X.p = P ∧ F < X.last ∧ X.last ≤ T ∧ folB M X = true) ∧ (E = 0 → decEl B.data.toList = X) := by
            by_cases hdd : decErr B.data.toList = 0
            · refine ⟨decEl B.data.toList, _, 0, fun u => get_good' B _ _ hdd rfl rfl u, good_wf (decErr_zero hdd).2.2, ?_, fun _ => rfl⟩
              unfold nxtB
              rw [decide_eq_true_eq, bytes_len]
              constructor
              · rintro ⟨_, r2, r3, r4, r5, r6⟩; exact ⟨rfl, by omega, r3, r4, r5, r6⟩
              · rintro ⟨_, r2, r3, r4, r5, r6⟩; exact ⟨hdd, by omega, r3, r4, r5, r6⟩
            · refine ⟨nilEl, 0, _, fun u => get_bad' B _ rfl hdd u, by unfold El.wf nilEl; simp only; omega, ?_, fun h => absurd h hdd⟩
              unfold nxtB
              rw [decide_eq_true_eq]
              exact ⟨fun h => absurd h.1 hdd, fun h => absurd h.1 hdd⟩
          obtain ⟨hnx, hdX⟩ := hnx
          subst h2
          have hwf9 : Hid (∀ e ∈ M ++ [X], El.wf e) := show ∀ e ∈ _, _ from fun e he => by
            rcases List.mem_append.1 he with he | he
            · exact good_wf (hST.out.2 e he).1
            · rw [List.mem_singleton] at he; rw [he]; exact hXw
          have hlen : Hid ((M ++ [X]).length = M.length + 1) := show _ = _ by simp
          have hMb : (M.length + 1) * 56 ≤ 140737488355328 := by have := hMR.out; omega
          have HOL : Hid (∀ k, (Value.slice A M.length c).ownBlock = some k → k < wr.heap.size) := show ∀ _, _ from fun k h => (ho.out.lt k h).2
          have hRs := folB_iff (e := X) hST.out.1
          have cRi0 := fun (ao : Option Addr) (cp : Nat) (u : World) (hl : Lies u ao (M ++ [X])) => rising_any ao cp (M ++ [X]) u (by rw [hlen.out]; have := hMR.out; omega) hl
          rw [hlen.out] at cRi0
          have hno : nxtB P F T M B.data.toList = false → parErr S.data.toList = 3 := fun h => by
            rw [hpe.out.1, prsA_no HD.out (by have := HK.out; omega) (fun h2 => by rw [← hBd.out, h] at h2; exact absurd h2.2 (by decide))]
          have hyes : nxtB P F T M B.data.toList = true → prsA P F T M R.data.toList = prsA P F T (M ++ [decEl B.data.toList]) (R.extract N R.size).data.toList := fun h => by
            rw [prsA_step HD.out (by have := HK.out; omega) (by rw [← hBd.out]; exact h), ← hBd.out, HN.out, HL2.out]
          have hno' : nxtB P F T M B.data.toList ≠ true → parErr S.data.toList = 3 := fun h => hno (by simpa using h)
          obtain ⟨p, o, f, m, g, s⟩ := X
          simp only at cG
          have cL := fun u => refLast_any p o f m g s u
          have hLA : ((⟨p, o, f, m, g, s⟩ : El)).last = lastOf m g := rfl
          rw [hLA] at hnx
          generalize lastOf m g = LA at cL hnx
          clear hLA hpe hno hXw
          by_cases e1 : E = 0
          rotate_left
          · have HB2 := Lib.hid (GB.out 3 (by decide) (hno' fun h => e1 (hnx.1 h).1))
            clear hnx hdX hyes hno' hRs cRi0
            go_upto_region 17 with (first
              | (go_at_call 41; refine (cF _).mono ?_; rintro e w5 ⟨rfl, hb1⟩; replace hz := heap_past (.cells #[.int .i64 2, .string B] 73) ((hb1.block (row5P hz).2.2.2.2.2).trans hz); replace hx := heap_past (.cells #[.int .i64 2, .string B] 73) ((hb1.block (row5P hx).2.2.2.2.2).trans hx); have hy := heap_new w5 (.cells #[.int .i64 2, .string B] 73); replace hu := (hu.call hb1).alloc (.cells #[.int .i64 2, .string B] 73); replace ho := Lib.hid (ho.out.calm (((Calm.refl _).call hb1).alloc (.cells #[.int .i64 2, .string B] 73))); have hbs5 := Nat.le_trans hbs.out hb1.size; have hs5 := hb1.size; clear hb1; obtain ⟨y0, y1, hys⟩ := row2 hy; obtain ⟨x0, x1, x2, x3, x4, hxs⟩ := row5P hx; obtain ⟨z0, z1, z2, z3, z4, hzs⟩ := row5P hz)
              | (go_at_call 43; refine (cG _).mono ?_; rintro e w7 ⟨rfl, hb1⟩; have hs7 := hb1.size; replace hz := heap_past (.cells #[.int .i64 p, .int .i64 o, .int .i64 f, .int .i64 m, .int .i64 g, .string s] 34) ((hb1.block hzs).trans hz); replace hx := heap_past (.cells #[.int .i64 p, .int .i64 o, .int .i64 f, .int .i64 m, .int .i64 g, .string s] 34) ((hb1.block hxs).trans hx); replace hy := heap_past (.cells #[.int .i64 p, .int .i64 o, .int .i64 f, .int .i64 m, .int .i64 g, .string s] 34) ((hb1.block (row2 hy).2.2).trans hy); have hv := heap_new w7 (.cells #[.int .i64 p, .int .i64 o, .int .i64 f, .int .i64 m, .int .i64 g, .string s] 34); replace hu := (hu.call hb1).alloc (.cells #[.int .i64 p, .int .i64 o, .int .i64 f, .int .i64 m, .int .i64 g, .string s] 34); replace ho := Lib.hid (ho.out.calm (((Calm.refl _).call hb1).alloc (.cells #[.int .i64 p, .int .i64 o, .int .i64 f, .int .i64 m, .int .i64 g, .string s] 34))); clear hb1 x0 x1 x2 x3 x4 hxs y0 y1 hys z0 z1 z2 z3 z4 hzs; obtain ⟨y0, y1, hys⟩ := row2 hy; obtain ⟨x0, x1, x2, x3, x4, hxs⟩ := row5P hx; obtain ⟨v0, v1, v2, v3, v4, v5, hvs⟩ := row6 hv; simp only [World.size_alloc] at hs7)
              | (at_builtin; go_must (refine wpList_append_elH rfl _ _ rfl base _ M rfl (ho.out.calm ((Calm.refl _).alloc _)) _ _ p o f m g s _ rfl (heap_new2 _ _ _) hMb (by simp only [World.size_alloc]; omega) ?_); intro v' w9 ho9 hc9 hk9 hs9; have hu9 := hc9 w (by omega) (hu.alloc _); obtain ⟨ao, n', cp, rfl⟩ := slice_of ho9; obtain rfl := (OwnR.reads ho9 hwf9.out).1; have hx9 := (hk9 (w.heap.size + 1) (by simp only [World.size_alloc]; omega) (fun e => by have := ho.out.lt _ e; omega)).trans (heap_past _ hx); have hz9 := (hk9 w.heap.size (by simp only [World.size_alloc]; omega) (fun e => by have := ho.out.lt _ e; omega)).trans (heap_past _ hz); have hy9 := (hk9 w5.heap.size (by simp only [World.size_alloc]; omega) (fun e => by have := HOL.out _ e; omega)).trans (heap_past _ hy); have hv9 := (hk9 w7.heap.size (by simp only [World.size_alloc]; omega) (fun e => by have := HOL.out _ e; omega)).trans (heap_past _ hv); have hi9 := frozen_of_row w9 (w.heap.size + 1) 3 _ _ hx9; simp only [World.size_alloc] at hs9; clear x0 x1 x2 x3 x4 hxs hk9; obtain ⟨x0, x1, x2, x3, x4, hxs⟩ := row5P hx9))
            rw [hlen.out] at ho9
            have hx10 : (w9.setCell ⟨w.heap.size + 1, 3, none⟩ (.slice ao (M.length + 1) cp)).heap[w.heap.size + 1]? = some (.cells #[.int .i64 P, .int .i64 F, .int .i64 T, (.slice ao (M.length + 1) cp), .int .i64 0] 40 (0, 0)) := heap_setCell_same _ (w.heap.size + 1) 3 _ _ (.slice ao (M.length + 1) cp) hx9
            have hz10 := (one_other (j := 3) (show w.heap.size ≠ w.heap.size + 1 by omega) (.slice ao (M.length + 1) cp)).trans hz9
            have hy10 := (one_other (j := 3) (show w5.heap.size ≠ w.heap.size + 1 by omega) (.slice ao (M.length + 1) cp)).trans hy9
            have hv10 := (one_other (j := 3) (show w7.heap.size ≠ w.heap.size + 1 by omega) (.slice ao (M.length + 1) cp)).trans hv9
            have hu10 := hu9.setCell (p := ⟨w.heap.size + 1, 3, none⟩) (by simp) (.slice ao (M.length + 1) cp)
            have ho10 := Lib.hid (own_apart (j := 3) (x := (.slice ao (M.length + 1) cp)) ho9 (show w.heap.size + 1 < base by omega))
            have hb10 : Hid (base ≤ (w9.setCell ⟨w.heap.size + 1, 3, none⟩ (.slice ao (M.length + 1) cp)).heap.size) := show _ ≤ _ by
              simp only [World.setCell, Array.size_modify]; omega
            generalize w9.setCell ⟨w.heap.size + 1, 3, none⟩ (.slice ao (M.length + 1) cp) = w10 at hx10 hz10 hy10 hv10 hu10 ho10 hb10 ⊢
            clear x0 x1 x2 x3 x4 hxs y0 y1 hys v0 v1 v2 v3 v4 v5 hvs hx hz hy hv hu hc9 ho ho9 hx9 hz9 hy9 hv9 hi9 hu9
            obtain ⟨y0, y1, hys⟩ := row2 hy10
            obtain ⟨x0, x1, x2, x3, x4, hxs⟩ := row5P hx10
            obtain ⟨z0, z1, z2, z3, z4, hzs⟩ := row5P hz10
            obtain ⟨v0, v1, v2, v3, v4, v5, hvs⟩ := row6 hv10
            have hl10 := (ho10.out.reads hwf9.out).2
            refine wp_region_plan [.val (.int .i64 (E)), .val (.bool false), .val (.bool false), .idle, .idle, .idle, .idle, .idle, .val (.bool false), .val (.bool false), .idle, .idle, .idle, .idle, .idle, .idle, .val (.bool false), .val (.bool false), .idle, .idle, .idle, .idle, .idle, .val (.bool false), .val (.bool false), .idle, .idle, .idle, .idle, .idle, .val (.bool false), .val (.bool false), .idle, .idle, .idle, .val (.bool false), .val (.bool false)] (by kernel_rfl) (by kernel_rfl) (by kernel_rfl) ?_
            intro X
            iterate 3
              refine plan_val (by kernel_rfl) (fun u hu => ?_) ?_
              · obtain ⟨hc, hf, hz⟩ := hu.of_drew.facts
                go_simp
                all_goals first
                  | ((go_at_call 35; exact cL _))
                  | ((go_at_call 44; exact cRi _ _ _ (hl10.calm hu.of_drew)))
                  | (assumption)
                  | ((simp; done))
                  | (omega)
                  | ((simp [*]; done))
              simp only [Act.put, List.setIfInBounds_toArray, List.set_cons_zero, List.set_cons_succ, Nat.reduceAdd]
            iterate 5
              refine plan_idle (by kernel_rfl) ?_
              simp only [Act.put, List.setIfInBounds_toArray, List.set_cons_zero, List.set_cons_succ, Nat.reduceAdd]
            iterate 2
              refine plan_val (by kernel_rfl) (fun u hu => ?_) ?_
              · obtain ⟨hc, hf, hz⟩ := hu.of_drew.facts
                go_simp
                all_goals first
                  | ((go_at_call 35; exact cL _))
                  | ((go_at_call 44; exact cRi _ _ _ (hl10.calm hu.of_drew)))
                  | (assumption)
                  | ((simp; done))
                  | (omega)
                  | ((simp [*]; done))
              simp only [Act.put, List.setIfInBounds_toArray, List.set_cons_zero, List.set_cons_succ, Nat.reduceAdd]
            iterate 6
              refine plan_idle (by kernel_rfl) ?_
              simp only [Act.put, List.setIfInBounds_toArray, List.set_cons_zero, List.set_cons_succ, Nat.reduceAdd]
            iterate 2
              refine plan_val (by kernel_rfl) (fun u hu => ?_) ?_
              · obtain ⟨hc, hf, hz⟩ := hu.of_drew.facts
                go_simp
                all_goals first
                  | ((go_at_call 35; exact cL _))
                  | ((go_at_call 44; exact cRi _ _ _ (hl10.calm hu.of_drew)))
                  | (assumption)
                  | ((simp; done))
                  | (omega)
                  | ((simp [*]; done))
              simp only [Act.put, List.setIfInBounds_toArray, List.set_cons_zero, List.set_cons_succ, Nat.reduceAdd]
            iterate 5
              refine plan_idle (by kernel_rfl) ?_
              simp only [Act.put, List.setIfInBounds_toArray, List.set_cons_zero, List.set_cons_succ, Nat.reduceAdd]
            iterate 2
              refine plan_val (by kernel_rfl) (fun u hu => ?_) ?_
              · obtain ⟨hc, hf, hz⟩ := hu.of_drew.facts
                go_simp
                all_goals first
                  | ((go_at_call 35; exact cL _))
                  | ((go_at_call 44; exact cRi _ _ _ (hl10.calm hu.of_drew)))
                  | (assumption)
                  | ((simp; done))
                  | (omega)
                  | ((simp [*]; done))
              simp only [Act.put, List.setIfInBounds_toArray, List.set_cons_zero, List.set_cons_succ, Nat.reduceAdd]
            iterate 5
              refine plan_idle (by kernel_rfl) ?_
              simp only [Act.put, List.setIfInBounds_toArray, List.set_cons_zero, List.set_cons_succ, Nat.reduceAdd]
            iterate 2
              refine plan_val (by kernel_rfl) (fun u hu => ?_) ?_
              · obtain ⟨hc, hf, hz⟩ := hu.of_drew.facts
                go_simp
                all_goals first
                  | ((go_at_call 35; exact cL _))
                  | ((go_at_call 44; exact cRi _ _ _ (hl10.calm hu.of_drew)))
                  | (assumption)
                  | ((simp; done))
                  | (omega)
                  | ((simp [*]; done))
              simp only [Act.put, List.setIfInBounds_toArray, List.set_cons_zero, List.set_cons_succ, Nat.reduceAdd]
            iterate 3
              refine plan_idle (by kernel_rfl) ?_
              simp only [Act.put, List.setIfInBounds_toArray, List.set_cons_zero, List.set_cons_succ, Nat.reduceAdd]
            iterate 2
              refine plan_val (by kernel_rfl) (fun u hu => ?_) ?_
              · obtain ⟨hc, hf, hz⟩ := hu.of_drew.facts
                go_simp
                all_goals first
                  | ((go_at_call 35; exact cL _))
                  | ((go_at_call 44; exact cRi _ _ _ (hl10.calm hu.of_drew)))
                  | (assumption)
                  | ((simp; done))
                  | (omega)
                  | ((simp [*]; done))
              simp only [Act.put, List.setIfInBounds_toArray, List.set_cons_zero, List.set_cons_succ, Nat.reduceAdd]
            refine plan_end ?_
            intro w' hB
            have hk := hB.calm.of_drew
            clear hB
            replace hz10 := (hk.block hzs).trans hz10
            replace hu10 := hu10.call hk
            clear hk x0 x1 x2 x3 x4 hxs z0 z1 z2 z3 z4 hzs
            obtain ⟨z0, z1, z2, z3, z4, hzs⟩ := row5P hz10
            obtain ⟨f0, f1, f2, f3, f4⟩ := free5P hz10
            go_wp2_with fail
            have hr := set5P hz10 (.int .i64 0) (.int .i64 0) (.int .i64 0) (.slice none 0 0) (.int .i64 3)
            have hu2 := hu10.fiveP (g := w.heap.size) (Nat.le_refl _) (.int .i64 0) (.int .i64 0) (.int .i64 0) (.slice none 0 0) (.int .i64 3)
            unfold World.fiveP at hr hu2
            exact end_par rfl rfl _ _ _ _ _ _ rfl rfl hr rfl (HB2.out _ _ rfl hu2)
          subst e1
          by_cases e2 : N2 = (B.size : Int)
          rotate_left
          · have HB2 := Lib.hid (GB.out 3 (by decide) (hno' fun h => e2 (hnx.1 h).2.1))
            clear hnx hdX hyes hno' hRs cRi0
            go_upto_region 17 with (first
              | (go_at_call 41; refine (cF _).mono ?_; rintro e w5 ⟨rfl, hb1⟩; replace hz := heap_past (.cells #[.int .i64 2, .string B] 73) ((hb1.block (row5P hz).2.2.2.2.2).trans hz); replace hx := heap_past (.cells #[.int .i64 2, .string B] 73) ((hb1.block (row5P hx).2.2.2.2.2).trans hx); have hy := heap_new w5 (.cells #[.int .i64 2, .string B] 73); replace hu := (hu.call hb1).alloc (.cells #[.int .i64 2, .string B] 73); replace ho := Lib.hid (ho.out.calm (((Calm.refl _).call hb1).alloc (.cells #[.int .i64 2, .string B] 73))); have hbs5 := Nat.le_trans hbs.out hb1.size; have hs5 := hb1.size; clear hb1; obtain ⟨y0, y1, hys⟩ := row2 hy; obtain ⟨x0, x1, x2, x3, x4, hxs⟩ := row5P hx; obtain ⟨z0, z1, z2, z3, z4, hzs⟩ := row5P hz)
              | (go_at_call 43; refine (cG _).mono ?_; rintro e w7 ⟨rfl, hb1⟩; have hs7 := hb1.size; replace hz := heap_past (.cells #[.int .i64 p, .int .i64 o, .int .i64 f, .int .i64 m, .int .i64 g, .string s] 34) ((hb1.block hzs).trans hz); replace hx := heap_past (.cells #[.int .i64 p, .int .i64 o, .int .i64 f, .int .i64 m, .int .i64 g, .string s] 34) ((hb1.block hxs).trans hx); replace hy := heap_past (.cells #[.int .i64 p, .int .i64 o, .int .i64 f, .int .i64 m, .int .i64 g, .string s] 34) ((hb1.block (row2 hy).2.2).trans hy); have hv := heap_new w7 (.cells #[.int .i64 p, .int .i64 o, .int .i64 f, .int .i64 m, .int .i64 g, .string s] 34); replace hu := (hu.call hb1).alloc (.cells #[.int .i64 p, .int .i64 o, .int .i64 f, .int .i64 m, .int .i64 g, .string s] 34); replace ho := Lib.hid (ho.out.calm (((Calm.refl _).call hb1).alloc (.cells #[.int .i64 p, .int .i64 o, .int .i64 f, .int .i64 m, .int .i64 g, .string s] 34))); clear hb1 x0 x1 x2 x3 x4 hxs y0 y1 hys z0 z1 z2 z3 z4 hzs; obtain ⟨y0, y1, hys⟩ := row2 hy; obtain ⟨x0, x1, x2, x3, x4, hxs⟩ := row5P hx; obtain ⟨v0, v1, v2, v3, v4, v5, hvs⟩ := row6 hv; simp only [World.size_alloc] at hs7)
              | (at_builtin; go_must (refine wpList_append_elH rfl _ _ rfl base _ M rfl (ho.out.calm ((Calm.refl _).alloc _)) _ _ p o f m g s _ rfl (heap_new2 _ _ _) hMb (by simp only [World.size_alloc]; omega) ?_); intro v' w9 ho9 hc9 hk9 hs9; have hu9 := hc9 w (by omega) (hu.alloc _); obtain ⟨ao, n', cp, rfl⟩ := slice_of ho9; obtain rfl := (OwnR.reads ho9 hwf9.out).1; have hx9 := (hk9 (w.heap.size + 1) (by simp only [World.size_alloc]; omega) (fun e => by have := ho.out.lt _ e; omega)).trans (heap_past _ hx); have hz9 := (hk9 w.heap.size (by simp only [World.size_alloc]; omega) (fun e => by have := ho.out.lt _ e; omega)).trans (heap_past _ hz); have hy9 := (hk9 w5.heap.size (by simp only [World.size_alloc]; omega) (fun e => by have := HOL.out _ e; omega)).trans (heap_past _ hy); have hv9 := (hk9 w7.heap.size (by simp only [World.size_alloc]; omega) (fun e => by have := HOL.out _ e; omega)).trans (heap_past _ hv); have hi9 := frozen_of_row w9 (w.heap.size + 1) 3 _ _ hx9; simp only [World.size_alloc] at hs9; clear x0 x1 x2 x3 x4 hxs hk9; obtain ⟨x0, x1, x2, x3, x4, hxs⟩ := row5P hx9))
            rw [hlen.out] at ho9
            have hx10 : (w9.setCell ⟨w.heap.size + 1, 3, none⟩ (.slice ao (M.length + 1) cp)).heap[w.heap.size + 1]? = some (.cells #[.int .i64 P, .int .i64 F, .int .i64 T, (.slice ao (M.length + 1) cp), .int .i64 0] 40 (0, 0)) := heap_setCell_same _ (w.heap.size + 1) 3 _ _ (.slice ao (M.length + 1) cp) hx9
            have hz10 := (one_other (j := 3) (show w.heap.size ≠ w.heap.size + 1 by omega) (.slice ao (M.length + 1) cp)).trans hz9
            have hy10 := (one_other (j := 3) (show w5.heap.size ≠ w.heap.size + 1 by omega) (.slice ao (M.length + 1) cp)).trans hy9
            have hv10 := (one_other (j := 3) (show w7.heap.size ≠ w.heap.size + 1 by omega) (.slice ao (M.length + 1) cp)).trans hv9
            have hu10 := hu9.setCell (p := ⟨w.heap.size + 1, 3, none⟩) (by simp) (.slice ao (M.length + 1) cp)
            have ho10 := Lib.hid (own_apart (j := 3) (x := (.slice ao (M.length + 1) cp)) ho9 (show w.heap.size + 1 < base by omega))
            have hb10 : Hid (base ≤ (w9.setCell ⟨w.heap.size + 1, 3, none⟩ (.slice ao (M.length + 1) cp)).heap.size) := show _ ≤ _ by
              simp only [World.setCell, Array.size_modify]; omega
            generalize w9.setCell ⟨w.heap.size + 1, 3, none⟩ (.slice ao (M.length + 1) cp) = w10 at hx10 hz10 hy10 hv10 hu10 ho10 hb10 ⊢
            clear x0 x1 x2 x3 x4 hxs y0 y1 hys v0 v1 v2 v3 v4 v5 hvs hx hz hy hv hu hc9 ho ho9 hx9 hz9 hy9 hv9 hi9 hu9
            obtain ⟨y0, y1, hys⟩ := row2 hy10
            obtain ⟨x0, x1, x2, x3, x4, hxs⟩ := row5P hx10
            obtain ⟨z0, z1, z2, z3, z4, hzs⟩ := row5P hz10
            obtain ⟨v0, v1, v2, v3, v4, v5, hvs⟩ := row6 hv10
            have hl10 := (ho10.out.reads hwf9.out).2
            refine wp_region_plan [.val (.int .i64 (0)), .val (.bool true), .val (.bool true), .val (.int .i64 (N2)), .val (.pointer (some ⟨w5.heap.size, 1, none⟩)), .val (.string B), .val (.int .i64 ((B.size : Int))), .val (.bool false), .val (.bool false), .val (.bool false), .idle, .idle, .idle, .idle, .idle, .idle, .val (.bool false), .val (.bool false), .idle, .idle, .idle, .idle, .idle, .val (.bool false), .val (.bool false), .idle, .idle, .idle, .idle, .idle, .val (.bool false), .val (.bool false), .idle, .idle, .idle, .val (.bool false), .val (.bool false)] (by kernel_rfl) (by kernel_rfl) (by kernel_rfl) ?_
            intro X
            iterate 10
              refine plan_val (by kernel_rfl) (fun u hu => ?_) ?_
              · obtain ⟨hc, hf, hz⟩ := hu.of_drew.facts
                go_simp
                all_goals first
                  | ((go_at_call 35; exact cL _))
                  | ((go_at_call 44; exact cRi _ _ _ (hl10.calm hu.of_drew)))
                  | (assumption)
                  | ((simp; done))
                  | (omega)
                  | ((simp [*]; done))
              simp only [Act.put, List.setIfInBounds_toArray, List.set_cons_zero, List.set_cons_succ, Nat.reduceAdd]
            iterate 6
              refine plan_idle (by kernel_rfl) ?_
              simp only [Act.put, List.setIfInBounds_toArray, List.set_cons_zero, List.set_cons_succ, Nat.reduceAdd]
            iterate 2
              refine plan_val (by kernel_rfl) (fun u hu => ?_) ?_
              · obtain ⟨hc, hf, hz⟩ := hu.of_drew.facts
                go_simp
                all_goals first
                  | ((go_at_call 35; exact cL _))
                  | ((go_at_call 44; exact cRi _ _ _ (hl10.calm hu.of_drew)))
                  | (assumption)
                  | ((simp; done))
                  | (omega)
                  | ((simp [*]; done))
              simp only [Act.put, List.setIfInBounds_toArray, List.set_cons_zero, List.set_cons_succ, Nat.reduceAdd]
            iterate 5
              refine plan_idle (by kernel_rfl) ?_
              simp only [Act.put, List.setIfInBounds_toArray, List.set_cons_zero, List.set_cons_succ, Nat.reduceAdd]
            iterate 2
              refine plan_val (by kernel_rfl) (fun u hu => ?_) ?_
              · obtain ⟨hc, hf, hz⟩ := hu.of_drew.facts
                go_simp
                all_goals first
                  | ((go_at_call 35; exact cL _))
                  | ((go_at_call 44; exact cRi _ _ _ (hl10.calm hu.of_drew)))
                  | (assumption)
                  | ((simp; done))
                  | (omega)
                  | ((simp [*]; done))
              simp only [Act.put, List.setIfInBounds_toArray, List.set_cons_zero, List.set_cons_succ, Nat.reduceAdd]
            iterate 5
              refine plan_idle (by kernel_rfl) ?_
              simp only [Act.put, List.setIfInBounds_toArray, List.set_cons_zero, List.set_cons_succ, Nat.reduceAdd]
            iterate 2
              refine plan_val (by kernel_rfl) (fun u hu => ?_) ?_
              · obtain ⟨hc, hf, hz⟩ := hu.of_drew.facts
                go_simp
                all_goals first
                  | ((go_at_call 35; exact cL _))
                  | ((go_at_call 44; exact cRi _ _ _ (hl10.calm hu.of_drew)))
                  | (assumption)
                  | ((simp; done))
                  | (omega)
                  | ((simp [*]; done))
              simp only [Act.put, List.setIfInBounds_toArray, List.set_cons_zero, List.set_cons_succ, Nat.reduceAdd]
            iterate 3
              refine plan_idle (by kernel_rfl) ?_
              simp only [Act.put, List.setIfInBounds_toArray, List.set_cons_zero, List.set_cons_succ, Nat.reduceAdd]
            iterate 2
              refine plan_val (by kernel_rfl) (fun u hu => ?_) ?_
              · obtain ⟨hc, hf, hz⟩ := hu.of_drew.facts
                go_simp
                all_goals first
                  | ((go_at_call 35; exact cL _))
                  | ((go_at_call 44; exact cRi _ _ _ (hl10.calm hu.of_drew)))
                  | (assumption)
                  | ((simp; done))
                  | (omega)
                  | ((simp [*]; done))
              simp only [Act.put, List.setIfInBounds_toArray, List.set_cons_zero, List.set_cons_succ, Nat.reduceAdd]
            refine plan_end ?_
            intro w' hB
            have hk := hB.calm.of_drew
            clear hB
            replace hz10 := (hk.block hzs).trans hz10
            replace hu10 := hu10.call hk
            clear hk x0 x1 x2 x3 x4 hxs z0 z1 z2 z3 z4 hzs
            obtain ⟨z0, z1, z2, z3, z4, hzs⟩ := row5P hz10
            obtain ⟨f0, f1, f2, f3, f4⟩ := free5P hz10
            go_wp2_with fail
            have hr := set5P hz10 (.int .i64 0) (.int .i64 0) (.int .i64 0) (.slice none 0 0) (.int .i64 3)
            have hu2 := hu10.fiveP (g := w.heap.size) (Nat.le_refl _) (.int .i64 0) (.int .i64 0) (.int .i64 0) (.slice none 0 0) (.int .i64 3)
            unfold World.fiveP at hr hu2
            exact end_par rfl rfl _ _ _ _ _ _ rfl rfl hr rfl (HB2.out _ _ rfl hu2)
          subst e2
          by_cases e3 : p = P
          rotate_left
          · have HB2 := Lib.hid (GB.out 3 (by decide) (hno' fun h => e3 (hnx.1 h).2.2.1))
            clear hnx hdX hyes hno' hRs cRi0
            go_upto_region 17 with (first
              | (go_at_call 41; refine (cF _).mono ?_; rintro e w5 ⟨rfl, hb1⟩; replace hz := heap_past (.cells #[.int .i64 2, .string B] 73) ((hb1.block (row5P hz).2.2.2.2.2).trans hz); replace hx := heap_past (.cells #[.int .i64 2, .string B] 73) ((hb1.block (row5P hx).2.2.2.2.2).trans hx); have hy := heap_new w5 (.cells #[.int .i64 2, .string B] 73); replace hu := (hu.call hb1).alloc (.cells #[.int .i64 2, .string B] 73); replace ho := Lib.hid (ho.out.calm (((Calm.refl _).call hb1).alloc (.cells #[.int .i64 2, .string B] 73))); have hbs5 := Nat.le_trans hbs.out hb1.size; have hs5 := hb1.size; clear hb1; obtain ⟨y0, y1, hys⟩ := row2 hy; obtain ⟨x0, x1, x2, x3, x4, hxs⟩ := row5P hx; obtain ⟨z0, z1, z2, z3, z4, hzs⟩ := row5P hz)
              | (go_at_call 43; refine (cG _).mono ?_; rintro e w7 ⟨rfl, hb1⟩; have hs7 := hb1.size; replace hz := heap_past (.cells #[.int .i64 p, .int .i64 o, .int .i64 f, .int .i64 m, .int .i64 g, .string s] 34) ((hb1.block hzs).trans hz); replace hx := heap_past (.cells #[.int .i64 p, .int .i64 o, .int .i64 f, .int .i64 m, .int .i64 g, .string s] 34) ((hb1.block hxs).trans hx); replace hy := heap_past (.cells #[.int .i64 p, .int .i64 o, .int .i64 f, .int .i64 m, .int .i64 g, .string s] 34) ((hb1.block (row2 hy).2.2).trans hy); have hv := heap_new w7 (.cells #[.int .i64 p, .int .i64 o, .int .i64 f, .int .i64 m, .int .i64 g, .string s] 34); replace hu := (hu.call hb1).alloc (.cells #[.int .i64 p, .int .i64 o, .int .i64 f, .int .i64 m, .int .i64 g, .string s] 34); replace ho := Lib.hid (ho.out.calm (((Calm.refl _).call hb1).alloc (.cells #[.int .i64 p, .int .i64 o, .int .i64 f, .int .i64 m, .int .i64 g, .string s] 34))); clear hb1 x0 x1 x2 x3 x4 hxs y0 y1 hys z0 z1 z2 z3 z4 hzs; obtain ⟨y0, y1, hys⟩ := row2 hy; obtain ⟨x0, x1, x2, x3, x4, hxs⟩ := row5P hx; obtain ⟨v0, v1, v2, v3, v4, v5, hvs⟩ := row6 hv; simp only [World.size_alloc] at hs7)
              | (at_builtin; go_must (refine wpList_append_elH rfl _ _ rfl base _ M rfl (ho.out.calm ((Calm.refl _).alloc _)) _ _ p o f m g s _ rfl (heap_new2 _ _ _) hMb (by simp only [World.size_alloc]; omega) ?_); intro v' w9 ho9 hc9 hk9 hs9; have hu9 := hc9 w (by omega) (hu.alloc _); obtain ⟨ao, n', cp, rfl⟩ := slice_of ho9; obtain rfl := (OwnR.reads ho9 hwf9.out).1; have hx9 := (hk9 (w.heap.size + 1) (by simp only [World.size_alloc]; omega) (fun e => by have := ho.out.lt _ e; omega)).trans (heap_past _ hx); have hz9 := (hk9 w.heap.size (by simp only [World.size_alloc]; omega) (fun e => by have := ho.out.lt _ e; omega)).trans (heap_past _ hz); have hy9 := (hk9 w5.heap.size (by simp only [World.size_alloc]; omega) (fun e => by have := HOL.out _ e; omega)).trans (heap_past _ hy); have hv9 := (hk9 w7.heap.size (by simp only [World.size_alloc]; omega) (fun e => by have := HOL.out _ e; omega)).trans (heap_past _ hv); have hi9 := frozen_of_row w9 (w.heap.size + 1) 3 _ _ hx9; simp only [World.size_alloc] at hs9; clear x0 x1 x2 x3 x4 hxs hk9; obtain ⟨x0, x1, x2, x3, x4, hxs⟩ := row5P hx9))
            rw [hlen.out] at ho9
            have hx10 : (w9.setCell ⟨w.heap.size + 1, 3, none⟩ (.slice ao (M.length + 1) cp)).heap[w.heap.size + 1]? = some (.cells #[.int .i64 P, .int .i64 F, .int .i64 T, (.slice ao (M.length + 1) cp), .int .i64 0] 40 (0, 0)) := heap_setCell_same _ (w.heap.size + 1) 3 _ _ (.slice ao (M.length + 1) cp) hx9
            have hz10 := (one_other (j := 3) (show w.heap.size ≠ w.heap.size + 1 by omega) (.slice ao (M.length + 1) cp)).trans hz9
            have hy10 := (one_other (j := 3) (show w5.heap.size ≠ w.heap.size + 1 by omega) (.slice ao (M.length + 1) cp)).trans hy9
            have hv10 := (one_other (j := 3) (show w7.heap.size ≠ w.heap.size + 1 by omega) (.slice ao (M.length + 1) cp)).trans hv9
            have hu10 := hu9.setCell (p := ⟨w.heap.size + 1, 3, none⟩) (by simp) (.slice ao (M.length + 1) cp)
            have ho10 := Lib.hid (own_apart (j := 3) (x := (.slice ao (M.length + 1) cp)) ho9 (show w.heap.size + 1 < base by omega))
            have hb10 : Hid (base ≤ (w9.setCell ⟨w.heap.size + 1, 3, none⟩ (.slice ao (M.length + 1) cp)).heap.size) := show _ ≤ _ by
              simp only [World.setCell, Array.size_modify]; omega
            generalize w9.setCell ⟨w.heap.size + 1, 3, none⟩ (.slice ao (M.length + 1) cp) = w10 at hx10 hz10 hy10 hv10 hu10 ho10 hb10 ⊢
            clear x0 x1 x2 x3 x4 hxs y0 y1 hys v0 v1 v2 v3 v4 v5 hvs hx hz hy hv hu hc9 ho ho9 hx9 hz9 hy9 hv9 hi9 hu9
            obtain ⟨y0, y1, hys⟩ := row2 hy10
            obtain ⟨x0, x1, x2, x3, x4, hxs⟩ := row5P hx10
            obtain ⟨z0, z1, z2, z3, z4, hzs⟩ := row5P hz10
            obtain ⟨v0, v1, v2, v3, v4, v5, hvs⟩ := row6 hv10
            have hl10 := (ho10.out.reads hwf9.out).2
            refine wp_region_plan [.val (.int .i64 (0)), .val (.bool true), .val (.bool true), .val (.int .i64 ((B.size : Int))), .val (.pointer (some ⟨w5.heap.size, 1, none⟩)), .val (.string B), .val (.int .i64 ((B.size : Int))), .val (.bool true), .val (.bool true), .val (.bool true), .val (.pointer (some ⟨w7.heap.size, 0, none⟩)), .val (.pointer (some ⟨w7.heap.size, 0, none⟩)), .val (.int .i64 (p)), .val (.pointer (some ⟨w.heap.size+1, 0, none⟩)), .val (.int .i64 (P)), .val (.bool false), .val (.bool false), .val (.bool false), .idle, .idle, .idle, .idle, .idle, .val (.bool false), .val (.bool false), .idle, .idle, .idle, .idle, .idle, .val (.bool false), .val (.bool false), .idle, .idle, .idle, .val (.bool false), .val (.bool false)] (by kernel_rfl) (by kernel_rfl) (by kernel_rfl) ?_
            intro X
            iterate 18
              refine plan_val (by kernel_rfl) (fun u hu => ?_) ?_
              · obtain ⟨hc, hf, hz⟩ := hu.of_drew.facts
                go_simp
                all_goals first
                  | ((go_at_call 35; exact cL _))
                  | ((go_at_call 44; exact cRi _ _ _ (hl10.calm hu.of_drew)))
                  | (assumption)
                  | ((simp; done))
                  | (omega)
                  | ((simp [*]; done))
              simp only [Act.put, List.setIfInBounds_toArray, List.set_cons_zero, List.set_cons_succ, Nat.reduceAdd]
            iterate 5
              refine plan_idle (by kernel_rfl) ?_
              simp only [Act.put, List.setIfInBounds_toArray, List.set_cons_zero, List.set_cons_succ, Nat.reduceAdd]
            iterate 2
              refine plan_val (by kernel_rfl) (fun u hu => ?_) ?_
              · obtain ⟨hc, hf, hz⟩ := hu.of_drew.facts
                go_simp
                all_goals first
                  | ((go_at_call 35; exact cL _))
                  | ((go_at_call 44; exact cRi _ _ _ (hl10.calm hu.of_drew)))
                  | (assumption)
                  | ((simp; done))
                  | (omega)
                  | ((simp [*]; done))
              simp only [Act.put, List.setIfInBounds_toArray, List.set_cons_zero, List.set_cons_succ, Nat.reduceAdd]
            iterate 5
              refine plan_idle (by kernel_rfl) ?_
              simp only [Act.put, List.setIfInBounds_toArray, List.set_cons_zero, List.set_cons_succ, Nat.reduceAdd]
            iterate 2
              refine plan_val (by kernel_rfl) (fun u hu => ?_) ?_
              · obtain ⟨hc, hf, hz⟩ := hu.of_drew.facts
                go_simp
                all_goals first
                  | ((go_at_call 35; exact cL _))
                  | ((go_at_call 44; exact cRi _ _ _ (hl10.calm hu.of_drew)))
                  | (assumption)
                  | ((simp; done))
                  | (omega)
                  | ((simp [*]; done))
              simp only [Act.put, List.setIfInBounds_toArray, List.set_cons_zero, List.set_cons_succ, Nat.reduceAdd]
            iterate 3
              refine plan_idle (by kernel_rfl) ?_
              simp only [Act.put, List.setIfInBounds_toArray, List.set_cons_zero, List.set_cons_succ, Nat.reduceAdd]
            iterate 2
              refine plan_val (by kernel_rfl) (fun u hu => ?_) ?_
              · obtain ⟨hc, hf, hz⟩ := hu.of_drew.facts
                go_simp
                all_goals first
                  | ((go_at_call 35; exact cL _))
                  | ((go_at_call 44; exact cRi _ _ _ (hl10.calm hu.of_drew)))
                  | (assumption)
                  | ((simp; done))
                  | (omega)
                  | ((simp [*]; done))
              simp only [Act.put, List.setIfInBounds_toArray, List.set_cons_zero, List.set_cons_succ, Nat.reduceAdd]
            refine plan_end ?_
            intro w' hB
            have hk := hB.calm.of_drew
            clear hB
            replace hz10 := (hk.block hzs).trans hz10
            replace hu10 := hu10.call hk
            clear hk x0 x1 x2 x3 x4 hxs z0 z1 z2 z3 z4 hzs
            obtain ⟨z0, z1, z2, z3, z4, hzs⟩ := row5P hz10
            obtain ⟨f0, f1, f2, f3, f4⟩ := free5P hz10
            go_wp2_with fail
            have hr := set5P hz10 (.int .i64 0) (.int .i64 0) (.int .i64 0) (.slice none 0 0) (.int .i64 3)
            have hu2 := hu10.fiveP (g := w.heap.size) (Nat.le_refl _) (.int .i64 0) (.int .i64 0) (.int .i64 0) (.slice none 0 0) (.int .i64 3)
            unfold World.fiveP at hr hu2
            exact end_par rfl rfl _ _ _ _ _ _ rfl rfl hr rfl (HB2.out _ _ rfl hu2)
          subst e3
          by_cases e4 : F < LA
          rotate_left
          · have HB2 := Lib.hid (GB.out 3 (by decide) (hno' fun h => e4 (hnx.1 h).2.2.2.1))
            clear hnx hdX hyes hno' hRs cRi0
            go_upto_region 17 with (first
              | (go_at_call 41; refine (cF _).mono ?_; rintro e w5 ⟨rfl, hb1⟩; replace hz := heap_past (.cells #[.int .i64 2, .string B] 73) ((hb1.block (row5P hz).2.2.2.2.2).trans hz); replace hx := heap_past (.cells #[.int .i64 2, .string B] 73) ((hb1.block (row5P hx).2.2.2.2.2).trans hx); have hy := heap_new w5 (.cells #[.int .i64 2, .string B] 73); replace hu := (hu.call hb1).alloc (.cells #[.int .i64 2, .string B] 73); replace ho := Lib.hid (ho.out.calm (((Calm.refl _).call hb1).alloc (.cells #[.int .i64 2, .string B] 73))); have hbs5 := Nat.le_trans hbs.out hb1.size; have hs5 := hb1.size; clear hb1; obtain ⟨y0, y1, hys⟩ := row2 hy; obtain ⟨x0, x1, x2, x3, x4, hxs⟩ := row5P hx; obtain ⟨z0, z1, z2, z3, z4, hzs⟩ := row5P hz)
              | (go_at_call 43; refine (cG _).mono ?_; rintro e w7 ⟨rfl, hb1⟩; have hs7 := hb1.size; replace hz := heap_past (.cells #[.int .i64 p, .int .i64 o, .int .i64 f, .int .i64 m, .int .i64 g, .string s] 34) ((hb1.block hzs).trans hz); replace hx := heap_past (.cells #[.int .i64 p, .int .i64 o, .int .i64 f, .int .i64 m, .int .i64 g, .string s] 34) ((hb1.block hxs).trans hx); replace hy := heap_past (.cells #[.int .i64 p, .int .i64 o, .int .i64 f, .int .i64 m, .int .i64 g, .string s] 34) ((hb1.block (row2 hy).2.2).trans hy); have hv := heap_new w7 (.cells #[.int .i64 p, .int .i64 o, .int .i64 f, .int .i64 m, .int .i64 g, .string s] 34); replace hu := (hu.call hb1).alloc (.cells #[.int .i64 p, .int .i64 o, .int .i64 f, .int .i64 m, .int .i64 g, .string s] 34); replace ho := Lib.hid (ho.out.calm (((Calm.refl _).call hb1).alloc (.cells #[.int .i64 p, .int .i64 o, .int .i64 f, .int .i64 m, .int .i64 g, .string s] 34))); clear hb1 x0 x1 x2 x3 x4 hxs y0 y1 hys z0 z1 z2 z3 z4 hzs; obtain ⟨y0, y1, hys⟩ := row2 hy; obtain ⟨x0, x1, x2, x3, x4, hxs⟩ := row5P hx; obtain ⟨v0, v1, v2, v3, v4, v5, hvs⟩ := row6 hv; simp only [World.size_alloc] at hs7)
              | (at_builtin; go_must (refine wpList_append_elH rfl _ _ rfl base _ M rfl (ho.out.calm ((Calm.refl _).alloc _)) _ _ p o f m g s _ rfl (heap_new2 _ _ _) hMb (by simp only [World.size_alloc]; omega) ?_); intro v' w9 ho9 hc9 hk9 hs9; have hu9 := hc9 w (by omega) (hu.alloc _); obtain ⟨ao, n', cp, rfl⟩ := slice_of ho9; obtain rfl := (OwnR.reads ho9 hwf9.out).1; have hx9 := (hk9 (w.heap.size + 1) (by simp only [World.size_alloc]; omega) (fun e => by have := ho.out.lt _ e; omega)).trans (heap_past _ hx); have hz9 := (hk9 w.heap.size (by simp only [World.size_alloc]; omega) (fun e => by have := ho.out.lt _ e; omega)).trans (heap_past _ hz); have hy9 := (hk9 w5.heap.size (by simp only [World.size_alloc]; omega) (fun e => by have := HOL.out _ e; omega)).trans (heap_past _ hy); have hv9 := (hk9 w7.heap.size (by simp only [World.size_alloc]; omega) (fun e => by have := HOL.out _ e; omega)).trans (heap_past _ hv); have hi9 := frozen_of_row w9 (w.heap.size + 1) 3 _ _ hx9; simp only [World.size_alloc] at hs9; clear x0 x1 x2 x3 x4 hxs hk9; obtain ⟨x0, x1, x2, x3, x4, hxs⟩ := row5P hx9))
            rw [hlen.out] at ho9
            have hx10 : (w9.setCell ⟨w.heap.size + 1, 3, none⟩ (.slice ao (M.length + 1) cp)).heap[w.heap.size + 1]? = some (.cells #[.int .i64 p, .int .i64 F, .int .i64 T, (.slice ao (M.length + 1) cp), .int .i64 0] 40 (0, 0)) := heap_setCell_same _ (w.heap.size + 1) 3 _ _ (.slice ao (M.length + 1) cp) hx9
            have hz10 := (one_other (j := 3) (show w.heap.size ≠ w.heap.size + 1 by omega) (.slice ao (M.length + 1) cp)).trans hz9
            have hy10 := (one_other (j := 3) (show w5.heap.size ≠ w.heap.size + 1 by omega) (.slice ao (M.length + 1) cp)).trans hy9
            have hv10 := (one_other (j := 3) (show w7.heap.size ≠ w.heap.size + 1 by omega) (.slice ao (M.length + 1) cp)).trans hv9
            have hu10 := hu9.setCell (p := ⟨w.heap.size + 1, 3, none⟩) (by simp) (.slice ao (M.length + 1) cp)
            have ho10 := Lib.hid (own_apart (j := 3) (x := (.slice ao (M.length + 1) cp)) ho9 (show w.heap.size + 1 < base by omega))
            have hb10 : Hid (base ≤ (w9.setCell ⟨w.heap.size + 1, 3, none⟩ (.slice ao (M.length + 1) cp)).heap.size) := show _ ≤ _ by
              simp only [World.setCell, Array.size_modify]; omega
            generalize w9.setCell ⟨w.heap.size + 1, 3, none⟩ (.slice ao (M.length + 1) cp) = w10 at hx10 hz10 hy10 hv10 hu10 ho10 hb10 ⊢
            clear x0 x1 x2 x3 x4 hxs y0 y1 hys v0 v1 v2 v3 v4 v5 hvs hx hz hy hv hu hc9 ho ho9 hx9 hz9 hy9 hv9 hi9 hu9
            obtain ⟨y0, y1, hys⟩ := row2 hy10
            obtain ⟨x0, x1, x2, x3, x4, hxs⟩ := row5P hx10
            obtain ⟨z0, z1, z2, z3, z4, hzs⟩ := row5P hz10
            obtain ⟨v0, v1, v2, v3, v4, v5, hvs⟩ := row6 hv10
            have hl10 := (ho10.out.reads hwf9.out).2
            refine wp_region_plan [.val (.int .i64 (0)), .val (.bool true), .val (.bool true), .val (.int .i64 ((B.size : Int))), .val (.pointer (some ⟨w5.heap.size, 1, none⟩)), .val (.string B), .val (.int .i64 ((B.size : Int))), .val (.bool true), .val (.bool true), .val (.bool true), .val (.pointer (some ⟨w7.heap.size, 0, none⟩)), .val (.pointer (some ⟨w7.heap.size, 0, none⟩)), .val (.int .i64 (p)), .val (.pointer (some ⟨w.heap.size+1, 0, none⟩)), .val (.int .i64 (p)), .val (.bool true), .val (.bool true), .val (.bool true), .val (.agg #[.int .i64 p, .int .i64 o, .int .i64 f, .int .i64 m, .int .i64 g, .string s]), .val (.int .i64 (LA)), .val (.pointer (some ⟨w.heap.size+1, 1, none⟩)), .val (.int .i64 (F)), .val (.bool false), .val (.bool false), .val (.bool false), .idle, .idle, .idle, .idle, .idle, .val (.bool false), .val (.bool false), .idle, .idle, .idle, .val (.bool false), .val (.bool false)] (by kernel_rfl) (by kernel_rfl) (by kernel_rfl) ?_
            intro X
            iterate 25
              refine plan_val (by kernel_rfl) (fun u hu => ?_) ?_
              · obtain ⟨hc, hf, hz⟩ := hu.of_drew.facts
                go_simp
                all_goals first
                  | ((go_at_call 35; exact cL _))
                  | ((go_at_call 44; exact cRi _ _ _ (hl10.calm hu.of_drew)))
                  | (assumption)
                  | ((simp; done))
                  | (omega)
                  | ((simp [*]; done))
              simp only [Act.put, List.setIfInBounds_toArray, List.set_cons_zero, List.set_cons_succ, Nat.reduceAdd]
            iterate 5
              refine plan_idle (by kernel_rfl) ?_
              simp only [Act.put, List.setIfInBounds_toArray, List.set_cons_zero, List.set_cons_succ, Nat.reduceAdd]
            iterate 2
              refine plan_val (by kernel_rfl) (fun u hu => ?_) ?_
              · obtain ⟨hc, hf, hz⟩ := hu.of_drew.facts
                go_simp
                all_goals first
                  | ((go_at_call 35; exact cL _))
                  | ((go_at_call 44; exact cRi _ _ _ (hl10.calm hu.of_drew)))
                  | (assumption)
                  | ((simp; done))
                  | (omega)
                  | ((simp [*]; done))
              simp only [Act.put, List.setIfInBounds_toArray, List.set_cons_zero, List.set_cons_succ, Nat.reduceAdd]
            iterate 3
              refine plan_idle (by kernel_rfl) ?_
              simp only [Act.put, List.setIfInBounds_toArray, List.set_cons_zero, List.set_cons_succ, Nat.reduceAdd]
            iterate 2
              refine plan_val (by kernel_rfl) (fun u hu => ?_) ?_
              · obtain ⟨hc, hf, hz⟩ := hu.of_drew.facts
                go_simp
                all_goals first
                  | ((go_at_call 35; exact cL _))
                  | ((go_at_call 44; exact cRi _ _ _ (hl10.calm hu.of_drew)))
                  | (assumption)
                  | ((simp; done))
                  | (omega)
                  | ((simp [*]; done))
              simp only [Act.put, List.setIfInBounds_toArray, List.set_cons_zero, List.set_cons_succ, Nat.reduceAdd]
            refine plan_end ?_
            intro w' hB
            have hk := hB.calm.of_drew
            clear hB
            replace hz10 := (hk.block hzs).trans hz10
            replace hu10 := hu10.call hk
            clear hk x0 x1 x2 x3 x4 hxs z0 z1 z2 z3 z4 hzs
            obtain ⟨z0, z1, z2, z3, z4, hzs⟩ := row5P hz10
            obtain ⟨f0, f1, f2, f3, f4⟩ := free5P hz10
            go_wp2_with fail
            have hr := set5P hz10 (.int .i64 0) (.int .i64 0) (.int .i64 0) (.slice none 0 0) (.int .i64 3)
            have hu2 := hu10.fiveP (g := w.heap.size) (Nat.le_refl _) (.int .i64 0) (.int .i64 0) (.int .i64 0) (.slice none 0 0) (.int .i64 3)
            unfold World.fiveP at hr hu2
            exact end_par rfl rfl _ _ _ _ _ _ rfl rfl hr rfl (HB2.out _ _ rfl hu2)
          by_cases e5 : LA ≤ T
          rotate_left
          · have HB2 := Lib.hid (GB.out 3 (by decide) (hno' fun h => e5 (hnx.1 h).2.2.2.2.1))
            clear hnx hdX hyes hno' hRs cRi0
            go_upto_region 17 with (first
              | (go_at_call 41; refine (cF _).mono ?_; rintro e w5 ⟨rfl, hb1⟩; replace hz := heap_past (.cells #[.int .i64 2, .string B] 73) ((hb1.block (row5P hz).2.2.2.2.2).trans hz); replace hx := heap_past (.cells #[.int .i64 2, .string B] 73) ((hb1.block (row5P hx).2.2.2.2.2).trans hx); have hy := heap_new w5 (.cells #[.int .i64 2, .string B] 73); replace hu := (hu.call hb1).alloc (.cells #[.int .i64 2, .string B] 73); replace ho := Lib.hid (ho.out.calm (((Calm.refl _).call hb1).alloc (.cells #[.int .i64 2, .string B] 73))); have hbs5 := Nat.le_trans hbs.out hb1.size; have hs5 := hb1.size; clear hb1; obtain ⟨y0, y1, hys⟩ := row2 hy; obtain ⟨x0, x1, x2, x3, x4, hxs⟩ := row5P hx; obtain ⟨z0, z1, z2, z3, z4, hzs⟩ := row5P hz)
              | (go_at_call 43; refine (cG _).mono ?_; rintro e w7 ⟨rfl, hb1⟩; have hs7 := hb1.size; replace hz := heap_past (.cells #[.int .i64 p, .int .i64 o, .int .i64 f, .int .i64 m, .int .i64 g, .string s] 34) ((hb1.block hzs).trans hz); replace hx := heap_past (.cells #[.int .i64 p, .int .i64 o, .int .i64 f, .int .i64 m, .int .i64 g, .string s] 34) ((hb1.block hxs).trans hx); replace hy := heap_past (.cells #[.int .i64 p, .int .i64 o, .int .i64 f, .int .i64 m, .int .i64 g, .string s] 34) ((hb1.block (row2 hy).2.2).trans hy); have hv := heap_new w7 (.cells #[.int .i64 p, .int .i64 o, .int .i64 f, .int .i64 m, .int .i64 g, .string s] 34); replace hu := (hu.call hb1).alloc (.cells #[.int .i64 p, .int .i64 o, .int .i64 f, .int .i64 m, .int .i64 g, .string s] 34); replace ho := Lib.hid (ho.out.calm (((Calm.refl _).call hb1).alloc (.cells #[.int .i64 p, .int .i64 o, .int .i64 f, .int .i64 m, .int .i64 g, .string s] 34))); clear hb1 x0 x1 x2 x3 x4 hxs y0 y1 hys z0 z1 z2 z3 z4 hzs; obtain ⟨y0, y1, hys⟩ := row2 hy; obtain ⟨x0, x1, x2, x3, x4, hxs⟩ := row5P hx; obtain ⟨v0, v1, v2, v3, v4, v5, hvs⟩ := row6 hv; simp only [World.size_alloc] at hs7)
              | (at_builtin; go_must (refine wpList_append_elH rfl _ _ rfl base _ M rfl (ho.out.calm ((Calm.refl _).alloc _)) _ _ p o f m g s _ rfl (heap_new2 _ _ _) hMb (by simp only [World.size_alloc]; omega) ?_); intro v' w9 ho9 hc9 hk9 hs9; have hu9 := hc9 w (by omega) (hu.alloc _); obtain ⟨ao, n', cp, rfl⟩ := slice_of ho9; obtain rfl := (OwnR.reads ho9 hwf9.out).1; have hx9 := (hk9 (w.heap.size + 1) (by simp only [World.size_alloc]; omega) (fun e => by have := ho.out.lt _ e; omega)).trans (heap_past _ hx); have hz9 := (hk9 w.heap.size (by simp only [World.size_alloc]; omega) (fun e => by have := ho.out.lt _ e; omega)).trans (heap_past _ hz); have hy9 := (hk9 w5.heap.size (by simp only [World.size_alloc]; omega) (fun e => by have := HOL.out _ e; omega)).trans (heap_past _ hy); have hv9 := (hk9 w7.heap.size (by simp only [World.size_alloc]; omega) (fun e => by have := HOL.out _ e; omega)).trans (heap_past _ hv); have hi9 := frozen_of_row w9 (w.heap.size + 1) 3 _ _ hx9; simp only [World.size_alloc] at hs9; clear x0 x1 x2 x3 x4 hxs hk9; obtain ⟨x0, x1, x2, x3, x4, hxs⟩ := row5P hx9))
            rw [hlen.out] at ho9
            have hx10 : (w9.setCell ⟨w.heap.size + 1, 3, none⟩ (.slice ao (M.length + 1) cp)).heap[w.heap.size + 1]? = some (.cells #[.int .i64 p, .int .i64 F, .int .i64 T, (.slice ao (M.length + 1) cp), .int .i64 0] 40 (0, 0)) := heap_setCell_same _ (w.heap.size + 1) 3 _ _ (.slice ao (M.length + 1) cp) hx9
            have hz10 := (one_other (j := 3) (show w.heap.size ≠ w.heap.size + 1 by omega) (.slice ao (M.length + 1) cp)).trans hz9
            have hy10 := (one_other (j := 3) (show w5.heap.size ≠ w.heap.size + 1 by omega) (.slice ao (M.length + 1) cp)).trans hy9
            have hv10 := (one_other (j := 3) (show w7.heap.size ≠ w.heap.size + 1 by omega) (.slice ao (M.length + 1) cp)).trans hv9
            have hu10 := hu9.setCell (p := ⟨w.heap.size + 1, 3, none⟩) (by simp) (.slice ao (M.length + 1) cp)
            have ho10 := Lib.hid (own_apart (j := 3) (x := (.slice ao (M.length + 1) cp)) ho9 (show w.heap.size + 1 < base by omega))
            have hb10 : Hid (base ≤ (w9.setCell ⟨w.heap.size + 1, 3, none⟩ (.slice ao (M.length + 1) cp)).heap.size) := show _ ≤ _ by
              simp only [World.setCell, Array.size_modify]; omega
            generalize w9.setCell ⟨w.heap.size + 1, 3, none⟩ (.slice ao (M.length + 1) cp) = w10 at hx10 hz10 hy10 hv10 hu10 ho10 hb10 ⊢
            clear x0 x1 x2 x3 x4 hxs y0 y1 hys v0 v1 v2 v3 v4 v5 hvs hx hz hy hv hu hc9 ho ho9 hx9 hz9 hy9 hv9 hi9 hu9
            obtain ⟨y0, y1, hys⟩ := row2 hy10
            obtain ⟨x0, x1, x2, x3, x4, hxs⟩ := row5P hx10
            obtain ⟨z0, z1, z2, z3, z4, hzs⟩ := row5P hz10
            obtain ⟨v0, v1, v2, v3, v4, v5, hvs⟩ := row6 hv10
            have hl10 := (ho10.out.reads hwf9.out).2
            refine wp_region_plan [.val (.int .i64 (0)), .val (.bool true), .val (.bool true), .val (.int .i64 ((B.size : Int))), .val (.pointer (some ⟨w5.heap.size, 1, none⟩)), .val (.string B), .val (.int .i64 ((B.size : Int))), .val (.bool true), .val (.bool true), .val (.bool true), .val (.pointer (some ⟨w7.heap.size, 0, none⟩)), .val (.pointer (some ⟨w7.heap.size, 0, none⟩)), .val (.int .i64 (p)), .val (.pointer (some ⟨w.heap.size+1, 0, none⟩)), .val (.int .i64 (p)), .val (.bool true), .val (.bool true), .val (.bool true), .val (.agg #[.int .i64 p, .int .i64 o, .int .i64 f, .int .i64 m, .int .i64 g, .string s]), .val (.int .i64 (LA)), .val (.pointer (some ⟨w.heap.size+1, 1, none⟩)), .val (.int .i64 (F)), .val (.bool true), .val (.bool true), .val (.bool true), .val (.agg #[.int .i64 p, .int .i64 o, .int .i64 f, .int .i64 m, .int .i64 g, .string s]), .val (.int .i64 (LA)), .val (.pointer (some ⟨w.heap.size+1, 2, none⟩)), .val (.int .i64 (T)), .val (.bool false), .val (.bool false), .val (.bool false), .idle, .idle, .idle, .val (.bool false), .val (.bool false)] (by kernel_rfl) (by kernel_rfl) (by kernel_rfl) ?_
            intro X
            iterate 32
              refine plan_val (by kernel_rfl) (fun u hu => ?_) ?_
              · obtain ⟨hc, hf, hz⟩ := hu.of_drew.facts
                go_simp
                all_goals first
                  | ((go_at_call 35; exact cL _))
                  | ((go_at_call 44; exact cRi _ _ _ (hl10.calm hu.of_drew)))
                  | (assumption)
                  | ((simp; done))
                  | (omega)
                  | ((simp [*]; done))
              simp only [Act.put, List.setIfInBounds_toArray, List.set_cons_zero, List.set_cons_succ, Nat.reduceAdd]
            iterate 3
              refine plan_idle (by kernel_rfl) ?_
              simp only [Act.put, List.setIfInBounds_toArray, List.set_cons_zero, List.set_cons_succ, Nat.reduceAdd]
            iterate 2
              refine plan_val (by kernel_rfl) (fun u hu => ?_) ?_
              · obtain ⟨hc, hf, hz⟩ := hu.of_drew.facts
                go_simp
                all_goals first
                  | ((go_at_call 35; exact cL _))
                  | ((go_at_call 44; exact cRi _ _ _ (hl10.calm hu.of_drew)))
                  | (assumption)
                  | ((simp; done))
                  | (omega)
                  | ((simp [*]; done))
              simp only [Act.put, List.setIfInBounds_toArray, List.set_cons_zero, List.set_cons_succ, Nat.reduceAdd]
            refine plan_end ?_
            intro w' hB
            have hk := hB.calm.of_drew
            clear hB
            replace hz10 := (hk.block hzs).trans hz10
            replace hu10 := hu10.call hk
            clear hk x0 x1 x2 x3 x4 hxs z0 z1 z2 z3 z4 hzs
            obtain ⟨z0, z1, z2, z3, z4, hzs⟩ := row5P hz10
            obtain ⟨f0, f1, f2, f3, f4⟩ := free5P hz10
            go_wp2_with fail
            have hr := set5P hz10 (.int .i64 0) (.int .i64 0) (.int .i64 0) (.slice none 0 0) (.int .i64 3)
            have hu2 := hu10.fiveP (g := w.heap.size) (Nat.le_refl _) (.int .i64 0) (.int .i64 0) (.int .i64 0) (.slice none 0 0) (.int .i64 3)
            unfold World.fiveP at hr hu2
            exact end_par rfl rfl _ _ _ _ _ _ rfl rfl hr rfl (HB2.out _ _ rfl hu2)
          by_cases e6 : (M ++ [(⟨p, o, f, m, g, s⟩ : El)]).Pairwise Rise
          rotate_left
          · have HB2 := Lib.hid (GB.out 3 (by decide) (hno' fun h => e6 (hRs.1 (hnx.1 h).2.2.2.2.2)))
            have cRi : ∀ (ao : Option Addr) (cp : Nat) (u : World) (hl : Lies u ao (M ++ [(⟨p, o, f, m, g, s⟩ : El)])), Calls Try.prog 44 #[.slice ao (M.length + 1) cp] u fun e w' => e = .returned (.bool false) ∧ Calm u w' := fun ao cp u hl => by
              have := cRi0 ao cp u hl
              rwa [decide_eq_false e6] at this
            have E6 := Lib.hid e6
            clear hnx hdX hyes hno' hRs cRi0 e6
            go_upto_region 17 with (first
              | (go_at_call 41; refine (cF _).mono ?_; rintro e w5 ⟨rfl, hb1⟩; replace hz := heap_past (.cells #[.int .i64 2, .string B] 73) ((hb1.block (row5P hz).2.2.2.2.2).trans hz); replace hx := heap_past (.cells #[.int .i64 2, .string B] 73) ((hb1.block (row5P hx).2.2.2.2.2).trans hx); have hy := heap_new w5 (.cells #[.int .i64 2, .string B] 73); replace hu := (hu.call hb1).alloc (.cells #[.int .i64 2, .string B] 73); replace ho := Lib.hid (ho.out.calm (((Calm.refl _).call hb1).alloc (.cells #[.int .i64 2, .string B] 73))); have hbs5 := Nat.le_trans hbs.out hb1.size; have hs5 := hb1.size; clear hb1; obtain ⟨y0, y1, hys⟩ := row2 hy; obtain ⟨x0, x1, x2, x3, x4, hxs⟩ := row5P hx; obtain ⟨z0, z1, z2, z3, z4, hzs⟩ := row5P hz)
              | (go_at_call 43; refine (cG _).mono ?_; rintro e w7 ⟨rfl, hb1⟩; have hs7 := hb1.size; replace hz := heap_past (.cells #[.int .i64 p, .int .i64 o, .int .i64 f, .int .i64 m, .int .i64 g, .string s] 34) ((hb1.block hzs).trans hz); replace hx := heap_past (.cells #[.int .i64 p, .int .i64 o, .int .i64 f, .int .i64 m, .int .i64 g, .string s] 34) ((hb1.block hxs).trans hx); replace hy := heap_past (.cells #[.int .i64 p, .int .i64 o, .int .i64 f, .int .i64 m, .int .i64 g, .string s] 34) ((hb1.block (row2 hy).2.2).trans hy); have hv := heap_new w7 (.cells #[.int .i64 p, .int .i64 o, .int .i64 f, .int .i64 m, .int .i64 g, .string s] 34); replace hu := (hu.call hb1).alloc (.cells #[.int .i64 p, .int .i64 o, .int .i64 f, .int .i64 m, .int .i64 g, .string s] 34); replace ho := Lib.hid (ho.out.calm (((Calm.refl _).call hb1).alloc (.cells #[.int .i64 p, .int .i64 o, .int .i64 f, .int .i64 m, .int .i64 g, .string s] 34))); clear hb1 x0 x1 x2 x3 x4 hxs y0 y1 hys z0 z1 z2 z3 z4 hzs; obtain ⟨y0, y1, hys⟩ := row2 hy; obtain ⟨x0, x1, x2, x3, x4, hxs⟩ := row5P hx; obtain ⟨v0, v1, v2, v3, v4, v5, hvs⟩ := row6 hv; simp only [World.size_alloc] at hs7)
              | (at_builtin; go_must (refine wpList_append_elH rfl _ _ rfl base _ M rfl (ho.out.calm ((Calm.refl _).alloc _)) _ _ p o f m g s _ rfl (heap_new2 _ _ _) hMb (by simp only [World.size_alloc]; omega) ?_); intro v' w9 ho9 hc9 hk9 hs9; have hu9 := hc9 w (by omega) (hu.alloc _); obtain ⟨ao, n', cp, rfl⟩ := slice_of ho9; obtain rfl := (OwnR.reads ho9 hwf9.out).1; have hx9 := (hk9 (w.heap.size + 1) (by simp only [World.size_alloc]; omega) (fun e => by have := ho.out.lt _ e; omega)).trans (heap_past _ hx); have hz9 := (hk9 w.heap.size (by simp only [World.size_alloc]; omega) (fun e => by have := ho.out.lt _ e; omega)).trans (heap_past _ hz); have hy9 := (hk9 w5.heap.size (by simp only [World.size_alloc]; omega) (fun e => by have := HOL.out _ e; omega)).trans (heap_past _ hy); have hv9 := (hk9 w7.heap.size (by simp only [World.size_alloc]; omega) (fun e => by have := HOL.out _ e; omega)).trans (heap_past _ hv); have hi9 := frozen_of_row w9 (w.heap.size + 1) 3 _ _ hx9; simp only [World.size_alloc] at hs9; clear x0 x1 x2 x3 x4 hxs hk9; obtain ⟨x0, x1, x2, x3, x4, hxs⟩ := row5P hx9))
            rw [hlen.out] at ho9
            have hx10 : (w9.setCell ⟨w.heap.size + 1, 3, none⟩ (.slice ao (M.length + 1) cp)).heap[w.heap.size + 1]? = some (.cells #[.int .i64 p, .int .i64 F, .int .i64 T, (.slice ao (M.length + 1) cp), .int .i64 0] 40 (0, 0)) := heap_setCell_same _ (w.heap.size + 1) 3 _ _ (.slice ao (M.length + 1) cp) hx9
            have hz10 := (one_other (j := 3) (show w.heap.size ≠ w.heap.size + 1 by omega) (.slice ao (M.length + 1) cp)).trans hz9
            have hy10 := (one_other (j := 3) (show w5.heap.size ≠ w.heap.size + 1 by omega) (.slice ao (M.length + 1) cp)).trans hy9
            have hv10 := (one_other (j := 3) (show w7.heap.size ≠ w.heap.size + 1 by omega) (.slice ao (M.length + 1) cp)).trans hv9
            have hu10 := hu9.setCell (p := ⟨w.heap.size + 1, 3, none⟩) (by simp) (.slice ao (M.length + 1) cp)
            have ho10 := Lib.hid (own_apart (j := 3) (x := (.slice ao (M.length + 1) cp)) ho9 (show w.heap.size + 1 < base by omega))
            have hb10 : Hid (base ≤ (w9.setCell ⟨w.heap.size + 1, 3, none⟩ (.slice ao (M.length + 1) cp)).heap.size) := show _ ≤ _ by
              simp only [World.setCell, Array.size_modify]; omega
            generalize w9.setCell ⟨w.heap.size + 1, 3, none⟩ (.slice ao (M.length + 1) cp) = w10 at hx10 hz10 hy10 hv10 hu10 ho10 hb10 ⊢
            clear x0 x1 x2 x3 x4 hxs y0 y1 hys v0 v1 v2 v3 v4 v5 hvs hx hz hy hv hu hc9 ho ho9 hx9 hz9 hy9 hv9 hi9 hu9
            obtain ⟨y0, y1, hys⟩ := row2 hy10
            obtain ⟨x0, x1, x2, x3, x4, hxs⟩ := row5P hx10
            obtain ⟨z0, z1, z2, z3, z4, hzs⟩ := row5P hz10
            obtain ⟨v0, v1, v2, v3, v4, v5, hvs⟩ := row6 hv10
            have hl10 := (ho10.out.reads hwf9.out).2
            refine wp_region_plan [.val (.int .i64 (0)), .val (.bool true), .val (.bool true), .val (.int .i64 ((B.size : Int))), .val (.pointer (some ⟨w5.heap.size, 1, none⟩)), .val (.string B), .val (.int .i64 ((B.size : Int))), .val (.bool true), .val (.bool true), .val (.bool true), .val (.pointer (some ⟨w7.heap.size, 0, none⟩)), .val (.pointer (some ⟨w7.heap.size, 0, none⟩)), .val (.int .i64 (p)), .val (.pointer (some ⟨w.heap.size+1, 0, none⟩)), .val (.int .i64 (p)), .val (.bool true), .val (.bool true), .val (.bool true), .val (.agg #[.int .i64 p, .int .i64 o, .int .i64 f, .int .i64 m, .int .i64 g, .string s]), .val (.int .i64 (LA)), .val (.pointer (some ⟨w.heap.size+1, 1, none⟩)), .val (.int .i64 (F)), .val (.bool true), .val (.bool true), .val (.bool true), .val (.agg #[.int .i64 p, .int .i64 o, .int .i64 f, .int .i64 m, .int .i64 g, .string s]), .val (.int .i64 (LA)), .val (.pointer (some ⟨w.heap.size+1, 2, none⟩)), .val (.int .i64 (T)), .val (.bool true), .val (.bool true), .val (.bool true), .val (.pointer (some ⟨w.heap.size+1, 3, none⟩)), .val (.slice ao (M.length + 1) cp), .val (.bool false), .val (.bool false), .val (.bool false)] (by kernel_rfl) (by kernel_rfl) (by kernel_rfl) ?_
            intro X
            iterate 37
              refine plan_val (by kernel_rfl) (fun u hu => ?_) ?_
              · obtain ⟨hc, hf, hz⟩ := hu.of_drew.facts
                go_simp
                all_goals first
                  | ((go_at_call 35; exact cL _))
                  | ((go_at_call 44; exact cRi _ _ _ (hl10.calm hu.of_drew)))
                  | (assumption)
                  | ((simp; done))
                  | (omega)
                  | ((simp [*]; done))
              simp only [Act.put, List.setIfInBounds_toArray, List.set_cons_zero, List.set_cons_succ, Nat.reduceAdd]
            refine plan_end ?_
            intro w' hB
            have hk := hB.calm.of_drew
            clear hB
            replace hz10 := (hk.block hzs).trans hz10
            replace hu10 := hu10.call hk
            clear hk x0 x1 x2 x3 x4 hxs z0 z1 z2 z3 z4 hzs
            obtain ⟨z0, z1, z2, z3, z4, hzs⟩ := row5P hz10
            obtain ⟨f0, f1, f2, f3, f4⟩ := free5P hz10
            go_wp2_with fail
            have hr := set5P hz10 (.int .i64 0) (.int .i64 0) (.int .i64 0) (.slice none 0 0) (.int .i64 3)
            have hu2 := hu10.fiveP (g := w.heap.size) (Nat.le_refl _) (.int .i64 0) (.int .i64 0) (.int .i64 0) (.slice none 0 0) (.int .i64 3)
            unfold World.fiveP at hr hu2
            exact end_par rfl rfl _ _ _ _ _ _ rfl rfl hr rfl (HB2.out _ _ rfl hu2)
          have hnt := hnx.2 ⟨rfl, rfl, rfl, e4, e5, hRs.2 e6⟩
          have HST2 : Hid (Strm p F T (M ++ [(⟨p, o, f, m, g, s⟩ : El)])) := show Strm _ _ _ _ from ⟨e6, fun e he => by
            rcases List.mem_append.1 he with he | he
            · exact hST.out.2 e he
            · rw [List.mem_singleton] at he; subst he
              have h7 := hnt
              unfold nxtB at h7
              rw [decide_eq_true_eq] at h7
              have h8 := (decErr_zero h7.1).2.2
              rw [hdX rfl] at h7 h8
              exact ⟨h8, h7.2.2.1, h7.2.2.2.1, h7.2.2.2.2.1⟩⟩
          have H6 : Hid (prsA p F T [] (rest S.data.toList) = prsA p F T (M ++ [(⟨p, o, f, m, g, s⟩ : El)]) (R.extract N R.size).data.toList) := show _ = _ by
            rw [H5.out, hyes hnt, hdX rfl]
          have HM2 : Hid ((M ++ [(⟨p, o, f, m, g, s⟩ : El)]).length + (R.extract N R.size).size ≤ 1073741824) := show _ ≤ _ by
            rw [hlen.out, HSZ.out]; have h1 := hMR.out; have h2 := HN.out; omega
          have cRi : ∀ (ao : Option Addr) (cp : Nat) (u : World) (hl : Lies u ao (M ++ [(⟨p, o, f, m, g, s⟩ : El)])), Calls Try.prog 44 #[.slice ao (M.length + 1) cp] u fun e w' => e = .returned (.bool true) ∧ Calm u w' := fun ao cp u hl => by
            have := cRi0 ao cp u hl
            rwa [decide_eq_true e6] at this
          clear hnx hdX hyes hno' hRs cRi0 e6 hnt
          go_upto_region 17 with (first
            | (go_at_call 41; refine (cF _).mono ?_; rintro e w5 ⟨rfl, hb1⟩; replace hz := heap_past (.cells #[.int .i64 2, .string B] 73) ((hb1.block (row5P hz).2.2.2.2.2).trans hz); replace hx := heap_past (.cells #[.int .i64 2, .string B] 73) ((hb1.block (row5P hx).2.2.2.2.2).trans hx); have hy := heap_new w5 (.cells #[.int .i64 2, .string B] 73); replace hu := (hu.call hb1).alloc (.cells #[.int .i64 2, .string B] 73); replace ho := Lib.hid (ho.out.calm (((Calm.refl _).call hb1).alloc (.cells #[.int .i64 2, .string B] 73))); have hbs5 := Nat.le_trans hbs.out hb1.size; have hs5 := hb1.size; clear hb1; obtain ⟨y0, y1, hys⟩ := row2 hy; obtain ⟨x0, x1, x2, x3, x4, hxs⟩ := row5P hx; obtain ⟨z0, z1, z2, z3, z4, hzs⟩ := row5P hz)
            | (go_at_call 43; refine (cG _).mono ?_; rintro e w7 ⟨rfl, hb1⟩; have hs7 := hb1.size; replace hz := heap_past (.cells #[.int .i64 p, .int .i64 o, .int .i64 f, .int .i64 m, .int .i64 g, .string s] 34) ((hb1.block hzs).trans hz); replace hx := heap_past (.cells #[.int .i64 p, .int .i64 o, .int .i64 f, .int .i64 m, .int .i64 g, .string s] 34) ((hb1.block hxs).trans hx); replace hy := heap_past (.cells #[.int .i64 p, .int .i64 o, .int .i64 f, .int .i64 m, .int .i64 g, .string s] 34) ((hb1.block (row2 hy).2.2).trans hy); have hv := heap_new w7 (.cells #[.int .i64 p, .int .i64 o, .int .i64 f, .int .i64 m, .int .i64 g, .string s] 34); replace hu := (hu.call hb1).alloc (.cells #[.int .i64 p, .int .i64 o, .int .i64 f, .int .i64 m, .int .i64 g, .string s] 34); replace ho := Lib.hid (ho.out.calm (((Calm.refl _).call hb1).alloc (.cells #[.int .i64 p, .int .i64 o, .int .i64 f, .int .i64 m, .int .i64 g, .string s] 34))); clear hb1 x0 x1 x2 x3 x4 hxs y0 y1 hys z0 z1 z2 z3 z4 hzs; obtain ⟨y0, y1, hys⟩ := row2 hy; obtain ⟨x0, x1, x2, x3, x4, hxs⟩ := row5P hx; obtain ⟨v0, v1, v2, v3, v4, v5, hvs⟩ := row6 hv; simp only [World.size_alloc] at hs7)
            | (at_builtin; go_must (refine wpList_append_elH rfl _ _ rfl base _ M rfl (ho.out.calm ((Calm.refl _).alloc _)) _ _ p o f m g s _ rfl (heap_new2 _ _ _) hMb (by simp only [World.size_alloc]; omega) ?_); intro v' w9 ho9 hc9 hk9 hs9; have hu9 := hc9 w (by omega) (hu.alloc _); obtain ⟨ao, n', cp, rfl⟩ := slice_of ho9; obtain rfl := (OwnR.reads ho9 hwf9.out).1; have hx9 := (hk9 (w.heap.size + 1) (by simp only [World.size_alloc]; omega) (fun e => by have := ho.out.lt _ e; omega)).trans (heap_past _ hx); have hz9 := (hk9 w.heap.size (by simp only [World.size_alloc]; omega) (fun e => by have := ho.out.lt _ e; omega)).trans (heap_past _ hz); have hy9 := (hk9 w5.heap.size (by simp only [World.size_alloc]; omega) (fun e => by have := HOL.out _ e; omega)).trans (heap_past _ hy); have hv9 := (hk9 w7.heap.size (by simp only [World.size_alloc]; omega) (fun e => by have := HOL.out _ e; omega)).trans (heap_past _ hv); have hi9 := frozen_of_row w9 (w.heap.size + 1) 3 _ _ hx9; simp only [World.size_alloc] at hs9; clear x0 x1 x2 x3 x4 hxs hk9; obtain ⟨x0, x1, x2, x3, x4, hxs⟩ := row5P hx9))
          rw [hlen.out] at ho9
          have hx10 : (w9.setCell ⟨w.heap.size + 1, 3, none⟩ (.slice ao (M.length + 1) cp)).heap[w.heap.size + 1]? = some (.cells #[.int .i64 p, .int .i64 F, .int .i64 T, (.slice ao (M.length + 1) cp), .int .i64 0] 40 (0, 0)) := heap_setCell_same _ (w.heap.size + 1) 3 _ _ (.slice ao (M.length + 1) cp) hx9
          have hz10 := (one_other (j := 3) (show w.heap.size ≠ w.heap.size + 1 by omega) (.slice ao (M.length + 1) cp)).trans hz9
          have hy10 := (one_other (j := 3) (show w5.heap.size ≠ w.heap.size + 1 by omega) (.slice ao (M.length + 1) cp)).trans hy9
          have hv10 := (one_other (j := 3) (show w7.heap.size ≠ w.heap.size + 1 by omega) (.slice ao (M.length + 1) cp)).trans hv9
          have hu10 := hu9.setCell (p := ⟨w.heap.size + 1, 3, none⟩) (by simp) (.slice ao (M.length + 1) cp)
          have ho10 := Lib.hid (own_apart (j := 3) (x := (.slice ao (M.length + 1) cp)) ho9 (show w.heap.size + 1 < base by omega))
          have hb10 : Hid (base ≤ (w9.setCell ⟨w.heap.size + 1, 3, none⟩ (.slice ao (M.length + 1) cp)).heap.size) := show _ ≤ _ by
            simp only [World.setCell, Array.size_modify]; omega
          generalize w9.setCell ⟨w.heap.size + 1, 3, none⟩ (.slice ao (M.length + 1) cp) = w10 at hx10 hz10 hy10 hv10 hu10 ho10 hb10 ⊢
          clear x0 x1 x2 x3 x4 hxs y0 y1 hys v0 v1 v2 v3 v4 v5 hvs hx hz hy hv hu hc9 ho ho9 hx9 hz9 hy9 hv9 hi9 hu9
          obtain ⟨y0, y1, hys⟩ := row2 hy10
          obtain ⟨x0, x1, x2, x3, x4, hxs⟩ := row5P hx10
          obtain ⟨z0, z1, z2, z3, z4, hzs⟩ := row5P hz10
          obtain ⟨v0, v1, v2, v3, v4, v5, hvs⟩ := row6 hv10
          have hl10 := (ho10.out.reads hwf9.out).2
          refine wp_region_plan [.val (.int .i64 (0)), .val (.bool true), .val (.bool true), .val (.int .i64 ((B.size : Int))), .val (.pointer (some ⟨w5.heap.size, 1, none⟩)), .val (.string B), .val (.int .i64 ((B.size : Int))), .val (.bool true), .val (.bool true), .val (.bool true), .val (.pointer (some ⟨w7.heap.size, 0, none⟩)), .val (.pointer (some ⟨w7.heap.size, 0, none⟩)), .val (.int .i64 (p)), .val (.pointer (some ⟨w.heap.size+1, 0, none⟩)), .val (.int .i64 (p)), .val (.bool true), .val (.bool true), .val (.bool true), .val (.agg #[.int .i64 p, .int .i64 o, .int .i64 f, .int .i64 m, .int .i64 g, .string s]), .val (.int .i64 (LA)), .val (.pointer (some ⟨w.heap.size+1, 1, none⟩)), .val (.int .i64 (F)), .val (.bool true), .val (.bool true), .val (.bool true), .val (.agg #[.int .i64 p, .int .i64 o, .int .i64 f, .int .i64 m, .int .i64 g, .string s]), .val (.int .i64 (LA)), .val (.pointer (some ⟨w.heap.size+1, 2, none⟩)), .val (.int .i64 (T)), .val (.bool true), .val (.bool true), .val (.bool true), .val (.pointer (some ⟨w.heap.size+1, 3, none⟩)), .val (.slice ao (M.length + 1) cp), .val (.bool true), .val (.bool true), .val (.bool true)] (by kernel_rfl) (by kernel_rfl) (by kernel_rfl) ?_
          intro X
          iterate 37
            refine plan_val (by kernel_rfl) (fun u hu => ?_) ?_
            · obtain ⟨hc, hf, hz⟩ := hu.of_drew.facts
              go_simp
              all_goals first
                | ((go_at_call 35; exact cL _))
                | ((go_at_call 44; exact cRi _ _ _ (hl10.calm hu.of_drew)))
                | (assumption)
                | ((simp; done))
                | (omega)
                | ((simp [*]; done))
            simp only [Act.put, List.setIfInBounds_toArray, List.set_cons_zero, List.set_cons_succ, Nat.reduceAdd]
          refine plan_end ?_
          intro w' hB
          have hk := hB.calm.of_drew
          clear hB
          replace hz10 := (hk.block hzs).trans hz10
          replace hx10 := (hk.block hxs).trans hx10
          replace hu10 := hu10.call hk
          replace ho10 := Lib.hid (ho10.out.calm hk)
          replace hb10 := Lib.hid (Nat.le_trans hb10.out hk.size)
          clear hk x0 x1 x2 x3 x4 hxs z0 z1 z2 z3 z4 hzs
          obtain ⟨z0, z1, z2, z3, z4, hzs⟩ := row5P hz10
          go_wp2_with fail
          go_roundw
          case rel => exact ⟨_, i + 1, M ++ [(⟨p, o, f, m, g, s⟩ : El)], ao, cp, p, F, T, rfl, by go_num, hu10, hz10, by rw [hlen.out]; exact hx10, by rw [hlen.out]; exact ho10, hb10, HM2, HST2, show _ ∨ _ from .inr ⟨by rw [hlen.out, HI.out], HB0.out, HPP.out, HPF.out, HPT.out, H6.out⟩⟩
          case measure => show (R.extract N R.size).size < R.size; have h1 := HSZ.out; have h2 := HN.out; omega
open Go.ChangeShapes Go.WideShapes Go.ChangeAt Go.RowKit
theorem prs_len5 : ∀ (n : Nat) {p f t : Int} {M : List El} {s : List UInt8}, (prs n p f t M s).2.length * 5 ≤ M.length * 5 + s.length
 | 0, _, _, _, _, _ => by simp [prs]
 |n + 1, p, f, t, M, s => by
  unfold prs
  by_cases hu : unErr s = 0
  ·have hz := (unErr_zero hu).1
   rw [if_neg (by simpa using hu)]
   split
   ·split <;> simp
   split
   ·have := prs_len5 n (p := p) (f := f) (t := t) (M := M ++ [decEl (unBody s)]) (s := s.drop (5 + unSize s))
    rw [List.length_append, List.length_singleton, List.length_drop] at this
    omega
   ·simp
  ·rw [if_pos (by simpa using hu)]; simp
theorem parL_len5 (s : List UInt8) : (parL s).length * 5 ≤ s.length := by
 unfold parL
 split
 ·have := prs_len5 ((rest s).length + 1) (p := n0 s) (f := n1 s) (t := n2 s) (M := []) (s := rest s)
  unfold prsA
  unfold rest at this ⊢
  rw [List.length_drop] at this
  simp only [List.length_nil] at this
  rw [List.length_drop]
  omega
 ·simp
set_option maxHeartbeats 8000000 in
theorem streamFeeds_walk (A : Option Addr) (d : Nat) (l : List El) (S : ByteArray) (w : World) (hn : l.length ≤ 9223372036854775807) (hd : l.length ≤ d) (hL : Lies w A l) (hS : S.size ≤ 1048576) :
    Calls Try.prog 4 #[.slice A l.length d, .string S] w fun e w' => e = .returned (.bool true) ∧ Calm w w' := by
  have cF := strFeed_any A d l S w hn hd (by omega) hL
  have cP := fun u => refParse_any S u (by omega)
  have cR := fun u (hu : Calm w u) => refRun_any A d l u hn (hL.calm hu)
  have hu := Calm.refl w
  by_cases hr : runErr l = 0 ∧ parErr S.data.toList = 0
  rotate_left
  · have e0 : ∃ E, feedErr l S.data.toList = E ∧ E ≠ 0 ∧ (runErr l = E ∨ (runErr l = 0 ∧ parErr S.data.toList = E)) := by
      by_cases h : runErr l = 0
      · have h2 : parErr S.data.toList ≠ 0 := fun h2 => hr ⟨h, h2⟩
        exact ⟨_, by unfold feedErr; rw [if_pos h]; exact if_neg h2, h2, .inr ⟨h, rfl⟩⟩
      · exact ⟨_, by unfold feedErr; exact if_neg h, h, .inl rfl⟩
    obtain ⟨E, e1, hE, e3⟩ := e0
    have e2 : feedL l S.data.toList = [] := by unfold feedL; rw [e1]; exact if_neg hE
    rw [e1, e2] at cF
    unfold ParEnd at cP
    have b1 := ne_true' hE
    have cE : ∀ (A1 : Option Addr) (c1 : Nat) (u : World), Lies u A1 [] → Calls Try.prog 14 #[.slice A1 0 c1, .slice none 0 0] u fun e w' => e = .returned (.bool true) ∧ Calm u w' := fun A1 c1 u h => equal_self A1 none c1 0 [] u (by simp) h lies_none
    have sE : ∀ {b : Nat} {u : World} {v : Value}, OwnR b u v [] → ∃ A1 c1, v = .slice A1 0 c1 := fun h => slice_own h
    have hw0 : ∀ e ∈ ([] : List El), e.wf := by simp
    have W0 := Lib.hid hw0
    generalize runErr l = RE at cR e3
    generalize rdZ S.data.toList (n0 S.data.toList) = x0 at cP
    generalize rdZ S.data.toList (n1 S.data.toList) = x1 at cP
    generalize rdZ S.data.toList (n2 S.data.toList) = x2 at cP
    generalize parErr S.data.toList = PE at cP e3
    generalize parL S.data.toList = PL at cP
    clear hr e1 e2 hw0 hL
    rcases e3 with e3 | ⟨e3, e4⟩
    · rw [e3] at cR
      clear e3
      go_enter Try.func4, Try.ntmps4
      go_wp2_with (first
        | (go_at_call 17; refine cF.mono ?_; rintro e w1 ⟨v, rfl, ho, hb1⟩; obtain ⟨ao, c1, hv⟩ := sE ho; subst hv; have hLA := Lib.hid (ho.reads W0.out).2; replace hu := hu.call hb1; clear hb1 cF ho)
        | (go_at_call 18; refine (cP _).mono ?_; rintro e w2 ⟨v2, rfl, ho2, hb2⟩; obtain ⟨ao2, n2, c2, rfl⟩ := slice_of ho2; replace hLA := Lib.hid ((hLA.out.calm hb2).calm ((Calm.refl _).alloc (.cells #[.int .i64 x0, .int .i64 x1, .int .i64 x2, .slice ao2 n2 c2, .int .i64 PE] 40))); replace hu := (hu.call hb2).alloc (.cells #[.int .i64 x0, .int .i64 x1, .int .i64 x2, .slice ao2 n2 c2, .int .i64 PE] 40); clear hb2 cP ho2)
        | (go_at_call 12; refine (cR _ hu).mono ?_; rintro e w3 ⟨rfl, hb3⟩; replace hLA := Lib.hid (hLA.out.calm hb3); replace hu := hu.call hb3; clear hb3 cR)
        | (go_at_call 14; (with_reducible refine (cE _ _ _ hLA.out).mono ?_); rintro e w4 ⟨rfl, hb4⟩; replace hu := hu.call hb4; clear hb4))
      go_ret
      exact ⟨rfl, hu⟩
    · rw [e3] at cR
      subst e4
      clear e3
      go_enter Try.func4, Try.ntmps4
      go_wp2_with (first
        | (go_at_call 17; refine cF.mono ?_; rintro e w1 ⟨v, rfl, ho, hb1⟩; obtain ⟨ao, c1, hv⟩ := sE ho; subst hv; have hLA := Lib.hid (ho.reads W0.out).2; replace hu := hu.call hb1; clear hb1 cF ho)
        | (go_at_call 18; refine (cP _).mono ?_; rintro e w2 ⟨v2, rfl, ho2, hb2⟩; obtain ⟨ao2, n2, c2, rfl⟩ := slice_of ho2; have hz := heap_new w2 (.cells #[.int .i64 x0, .int .i64 x1, .int .i64 x2, .slice ao2 n2 c2, .int .i64 PE] 40); replace hLA := Lib.hid ((hLA.out.calm hb2).calm ((Calm.refl _).alloc (.cells #[.int .i64 x0, .int .i64 x1, .int .i64 x2, .slice ao2 n2 c2, .int .i64 PE] 40))); replace hu := (hu.call hb2).alloc (.cells #[.int .i64 x0, .int .i64 x1, .int .i64 x2, .slice ao2 n2 c2, .int .i64 PE] 40); clear hb2 cP ho2)
        | (go_at_call 12; refine (cR _ hu).mono ?_; rintro e w3 ⟨rfl, hb3⟩; replace hz := (hb3.block (row5P hz).2.2.2.2.2).trans hz; obtain ⟨z0, z1, z2, z3, z4, hzs⟩ := row5P hz; replace hLA := Lib.hid (hLA.out.calm hb3); replace hu := hu.call hb3; clear hb3 cR)
        | (go_at_call 14; (with_reducible refine (cE _ _ _ hLA.out).mono ?_); rintro e w4 ⟨rfl, hb4⟩; replace hu := hu.call hb4; clear hb4))
      go_ret
      exact ⟨rfl, hu⟩
  obtain ⟨hr, hp⟩ := hr
  have hG := runErr_zero.1 hr
  have hl4 : l.length ≤ 400 := hG.1
  have hpl : (parL S.data.toList).length ≤ 500000 := by
    have := parL_len5 S.data.toList
    rw [bytes_len] at this
    omega
  have hwp := parL_wf S.data.toList
  have e0 : feedErr l S.data.toList = fedErr l (parL S.data.toList) := by unfold feedErr; rw [if_pos hr, if_pos hp]
  have e2 : feedL l S.data.toList = if fedErr l (parL S.data.toList) = 0 then fedL l (parL S.data.toList) else [] := by unfold feedL; rw [e0]
  rw [e0, e2] at cF
  rw [hr] at cR
  unfold ParEnd at cP
  rw [hp] at cP
  have cD := fun (A2 : Option Addr) (c2 : Nat) (u : World) (hu : Calm w u) (h2 : Lies u A2 (parL S.data.toList)) => refFed_any A A2 d c2 l _ u hl4 hpl (hL.calm hu) h2
  have hwR : ∀ e ∈ (if fedErr l (parL S.data.toList) = 0 then fedL l (parL S.data.toList) else []), e.wf := fun e he => by
    by_cases h : fedErr l (parL S.data.toList) = 0
    · rw [if_pos h] at he; exact fedL_wfE (Good.wf hG) hwp e he
    · rw [if_neg h] at he; cases he
  have hnR : (if fedErr l (parL S.data.toList) = 0 then fedL l (parL S.data.toList) else []).length ≤ 500400 := by
    by_cases h : fedErr l (parL S.data.toList) = 0
    · rw [if_pos h]
      have := fedL_len (parL S.data.toList) l
      omega
    · rw [if_neg h]; simp
  generalize (if fedErr l (parL S.data.toList) = 0 then fedL l (parL S.data.toList) else []) = RL at cF cD hwR hnR
  generalize fedErr l (parL S.data.toList) = E at cF cD
  generalize rdZ S.data.toList (n0 S.data.toList) = x0 at cP
  generalize rdZ S.data.toList (n1 S.data.toList) = x1 at cP
  generalize rdZ S.data.toList (n2 S.data.toList) = x2 at cP
  generalize parL S.data.toList = PL at cP cD hwp
  have WR := Lib.hid hwR
  have WP := Lib.hid hwp
  have cE := fun (A1 A2 : Option Addr) (c1 c2 : Nat) (u : World) h1 h2 => equal_self A1 A2 c1 c2 RL u (by omega) h1 h2
  clear hr hp hG hl4 hpl e0 e2 hwR hwp hL
  go_enter Try.func4, Try.ntmps4
  go_wp2_with (first
    | (go_at_call 17; refine cF.mono ?_; rintro e w1 ⟨v, rfl, ho, hb1⟩; obtain ⟨ao, c1, hv⟩ := slice_own ho; subst hv; have hLA := Lib.hid (ho.reads WR.out).2; replace hu := hu.call hb1; clear hb1 cF ho)
    | (go_at_call 18; refine (cP _).mono ?_; rintro e w2 ⟨v2, rfl, ho2, hb2⟩; obtain ⟨ao2, c2, hv2⟩ := slice_own ho2; subst hv2; have hz := heap_new w2 (.cells #[.int .i64 x0, .int .i64 x1, .int .i64 x2, .slice ao2 PL.length c2, .int .i64 0] 40); have hLP := Lib.hid ((ho2.reads WP.out).2.calm ((Calm.refl _).alloc (.cells #[.int .i64 x0, .int .i64 x1, .int .i64 x2, .slice ao2 PL.length c2, .int .i64 0] 40))); replace hLA := Lib.hid ((hLA.out.calm hb2).calm ((Calm.refl _).alloc (.cells #[.int .i64 x0, .int .i64 x1, .int .i64 x2, .slice ao2 PL.length c2, .int .i64 0] 40))); replace hu := (hu.call hb2).alloc (.cells #[.int .i64 x0, .int .i64 x1, .int .i64 x2, .slice ao2 PL.length c2, .int .i64 0] 40); clear hb2 cP ho2)
    | (go_at_call 12; refine (cR _ hu).mono ?_; rintro e w3 ⟨rfl, hb3⟩; replace hz := (hb3.block (row5P hz).2.2.2.2.2).trans hz; obtain ⟨z0, z1, z2, z3, z4, hzs⟩ := row5P hz; replace hLA := Lib.hid (hLA.out.calm hb3); replace hLP := Lib.hid (hLP.out.calm hb3); replace hu := hu.call hb3; clear hb3 cR)
    | (go_at_call 19; refine (cD _ _ _ hu hLP.out).mono ?_; rintro e w5 ⟨v5, rfl, ho5, hb5⟩; obtain ⟨ao5, c5, hv5⟩ := slice_own ho5; subst hv5; have hLB := Lib.hid (ho5.reads WR.out).2; replace hLA := Lib.hid (hLA.out.calm hb5); replace hu := hu.call hb5; clear hb5 cD ho5 z0 z1 z2 z3 z4 hzs hz)
    | (go_at_call 14; (with_reducible refine (cE _ _ _ _ _ hLA.out hLB.out).mono ?_); rintro e w4 ⟨rfl, hb4⟩; replace hu := hu.call hb4; clear hb4))
  go_ret
  exact ⟨rfl, hu⟩
open Go.ChangeShapes Go.WideShapes Go.ChangeAt Go.RowKit
theorem elems_cap {H : Type} {enc : TypeId × Value → H} {w : World} {base : Nat} {spare : Nat → Bool} {held : Bool} {d : DataW H} {ps : List MemPlace} {A : Option Addr} {n c : Nat} (h : DataW.Trod enc Try.prog w base spare held 22 (.slice A n c) d ps) : n ≤ c := by
 obtain ⟨fuel, hf⟩ := h
 rcases Go.Deep.open_slice Try.underlying22 hf with ⟨h0, _⟩ | ⟨a, len', cap', m, k, D, Pl, hcs, _, hl, hm, hmm, hx, hi⟩
 ·have h0' : Value.slice A n c = .slice none 0 0 := by simpa [Value.cells] using h0
  injection h0' with h1 h2 h3
  omega
 ·have h0' : Value.slice A n c = .slice (some a) len' cap' := by simpa [Value.cells] using hcs
  injection h0' with h1 h2 h3
  omega
end Go.Proofs.Ytadjnnmpgaajnaa
