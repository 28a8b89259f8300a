/- PageBack: the law's own walk. -/
import Derived.Test.YtpmibedgjhjjfaaQLawP2
namespace Go.Proofs.Ytpmibedgjhjjfaa
open Go.ChangeShapes Go.WideShapes Go.ChangeAt Go.RowKit

def pg1 : ByteArray := ⟨(pgEnc 1 [] [] [] []).toArray⟩
set_option maxRecDepth 100000 in
theorem pg1_size : pg1.size = 5 := by decide +kernel
set_option maxRecDepth 100000 in
theorem wr_leaf (w : World) : Calls Try.prog 10 #[.agg #[.int .i64 1, .slice none 0 0, .slice none 0 0, .slice none 0 0, .slice none 0 0]] w fun e w' => e = .returned (.tuple #[.string pg1, .int .i64 0]) ∧ Calm w w' :=
  wr_good 1 none none none none 0 0 0 0 [] [] [] [] w (NdOwn.zero 0 w).at_ (by decide +kernel) pg1 (by simp [pg1])
set_option maxRecDepth 100000 in
theorem leaf_nil (w : World) : Calls Try.prog 22 #[.slice none 0 0] w fun e w' => e = .returned (.agg #[.int .i64 1, .slice none 0 0, .slice none 0 0, .slice none 0 0, .slice none 0 0]) ∧ Calm w w' := by
  go_enter Try.func22, Try.ntmps22
  go_wp2
  go_returns
  exact ⟨rfl, by repeat (first | (with_reducible exact Calm.refl _) | (with_reducible refine Calm.alloc ?_ _) | (with_reducible refine Calm.drew ?_) | (with_reducible refine Calm.drewN ?_ _) | (refine Calm.call ?_ (by with_reducible assumption)))⟩
set_option maxRecDepth 100000 in
theorem rdErr_of {l : List UInt8} {n : Int} (h : unErr l = n) (hn : n ≠ 0) : rdErr l = n := by unfold rdErr; rw [h, if_neg hn]

set_option maxRecDepth 100000 in
set_option maxHeartbeats 8000000 in
theorem pageBack_walk (kd : Int) (A1 A2 A3 A4 : Option Addr) (c1 c2 c3 c4 : Nat) (E : List El) (K : List Int) (S : List Sp) (T : List Int) (k : Int) (w : World) (h : NdAt w A1 A2 A3 A4 E K S T) :
    Calls Try.prog 5 #[.agg #[.int .i64 kd, .slice A1 E.length c1, .slice A2 K.length c2, .slice A3 S.length c3, .slice A4 T.length c4], .int .i64 k] w fun e w' => e = .returned (.bool true) ∧ Calm w w' := by
  have hx := heap_new w (.cells #[.int .i64 kd, .slice A1 E.length c1, .slice A2 K.length c2, .slice A3 S.length c3, .slice A4 T.length c4] 26)
  have hu := (Calm.refl w).alloc (.cells #[.int .i64 kd, .slice A1 E.length c1, .slice A2 K.length c2, .slice A3 S.length c3, .slice A4 T.length c4] 26)
  have c0 := fun u => wr_leaf u
  have z5 := pg1_size
  generalize pg1 = Z at c0 z5
  have z5i : (Z.size : Int) = 5 := by omega
  obtain ⟨x0, x1, x2, x3, x4, hxs⟩ := row5 hx
  by_cases he : ndErr kd E K S T = 0
  rotate_left
  · have cA := fun u (hu : Calm w u) => wr_bad kd A1 A2 A3 A4 c1 c2 c3 c4 E K S T u (h.calm hu) _ rfl he
    have cC := fun u (hu : Calm w u) => nodeCheck_any kd A1 A2 A3 A4 c1 c2 c3 c4 E K S T u (h.calm hu)
    have b1 : (ndErr kd E K S T != 0) = true := by simpa using he
    generalize ndErr kd E K S T = N at cA cC b1
    clear he h
    go_enter Try.func5, Try.ntmps5
    go_wp2_with (first
      | (go_at_call 22; (with_reducible refine (leaf_nil _).mono ?_); rintro e w1 ⟨rfl, hb1⟩; replace hx := (hb1.block (row5 hx).2.2.2.2.2).trans hx; replace hu := hu.call hb1; clear hb1; obtain ⟨x0, x1, x2, x3, x4, hxs⟩ := row5 hx)
      | (go_at_call 10; (with_reducible refine (c0 _).mono ?_); rintro e w1 ⟨rfl, hb1⟩; replace hx := (hb1.block (row5 hx).2.2.2.2.2).trans hx; replace hu := hu.call hb1; clear hb1; obtain ⟨x0, x1, x2, x3, x4, hxs⟩ := row5 hx)
      | (go_at_call 10; (with_reducible refine (cA _ hu).mono ?_); rintro e w1 ⟨rfl, hb1⟩; replace hx := (hb1.block (row5 hx).2.2.2.2.2).trans hx; replace hu := hu.call hb1; clear hb1; obtain ⟨x0, x1, x2, x3, x4, hxs⟩ := row5 hx)
      | (go_at_call 23; (with_reducible refine (cC _ hu).mono ?_); rintro e w1 ⟨rfl, hb1⟩; replace hx := (hb1.block (row5 hx).2.2.2.2.2).trans hx; replace hu := hu.call hb1; clear hb1; obtain ⟨x0, x1, x2, x3, x4, hxs⟩ := row5 hx))
    go_ret
    exact ⟨rfl, hu⟩
  have hd := ndd_of he
  have hkd := hd.kd
  have hbl := pgBody_length hd
  have hel := pgEnc_length hd
  have cA := fun u (hu : Calm w u) => wr_good kd A1 A2 A3 A4 c1 c2 c3 c4 E K S T u (h.calm hu) he ⟨(pgEnc kd E K S T).toArray⟩ (by simp)
  obtain ⟨W, hW⟩ : ∃ W : ByteArray, W = ⟨(pgEnc kd E K S T).toArray⟩ := ⟨_, rfl⟩
  have hWd : W.data.toList = pgEnc kd E K S T := by rw [hW]
  have hWs : W.size = (pgEnc kd E K S T).length := by rw [hW, bytes_size]
  have hl5 : (pgEnc kd E K S T).length = 5 + (pgBody E K S T).length := by rw [pgEnc, encF_length]
  rw [← hW] at cA
  have cR := fun u => rd_good W (kd := kd) (E := E) (K := K) (S := S) (T := T) ⟨he, hWd.symm⟩ u
  obtain ⟨x, hxl, cX⟩ := within_any k W.size (by omega) (by omega)
  have hxx : (W.extract 0 x).data.toList = (pgEnc kd E K S T).take x := by rw [part_extract, hWd]; simp [part]
  have cS := fun u => rd_bad (W.extract 0 x) 7 (rdErr_of (by rw [hxx]; exact un_short (by omega) (by omega) (by omega) (by rw [← pgEnc]; omega)) (by decide)) (IsPg.not (by rw [hxx, pgEnc, un_short (by omega) (by omega) (by omega) (by rw [← pgEnc]; omega)]; decide)) u
  have hpp : (W ++ { data := #[0] }).data.toList = pgEnc kd E K S T ++ [0] := by rw [ByteArray.data_append]; simp [hWd]
  have hue := un_enc (k := kd.toNat + 1) (b := pgBody E K S T) (by omega) (by omega) (by omega) [0]
  have cF := fun u => rd_bad (W ++ { data := #[0] }) 3 (by unfold rdErr; rw [hpp, pgEnc, hue.1, if_pos rfl]) (fun kd' E' K' S' T' hP => by
    have hl := hP.un.2.2.2
    rw [hpp, List.length_append, List.length_singleton, pgEnc, hue.2.2.1, encF_length] at hl
    omega) u
  have hWi : (W.size : Int) ≤ 2900 := by omega
  have hxi : (x : Int) ≤ (W.size : Int) := by omega
  have hxn : x ≤ W.size := by omega
  have hWb : W.size ≤ 3000 := by omega
  have HN := Lib.hid h
  clear hue hpp hxx hl5 hWs hWd hW hel hbl hkd hd he h hxl
  go_enter Try.func5, Try.ntmps5
  go_upto_region 8 with (first
    | (go_at_call 22; (with_reducible refine (leaf_nil _).mono ?_); rintro e w1 ⟨rfl, hb1⟩; replace hx := (hb1.block (row5 hx).2.2.2.2.2).trans hx; replace hu := hu.call hb1; clear hb1; obtain ⟨x0, x1, x2, x3, x4, hxs⟩ := row5 hx)
    | (go_at_call 10; (with_reducible refine (c0 _).mono ?_); rintro e w1 ⟨rfl, hb1⟩; replace hx := (hb1.block (row5 hx).2.2.2.2.2).trans hx; replace hu := hu.call hb1; clear hb1; obtain ⟨x0, x1, x2, x3, x4, hxs⟩ := row5 hx)
    | (go_at_call 10; (with_reducible refine (cA _ hu).mono ?_); rintro e w1 ⟨rfl, hb1⟩; replace hx := (hb1.block (row5 hx).2.2.2.2.2).trans hx; replace hu := hu.call hb1; clear hb1; obtain ⟨x0, x1, x2, x3, x4, hxs⟩ := row5 hx)
    | (go_at_call 13; (with_reducible refine (cR _).mono ?_); rintro e w2 ⟨B1, B2, B3, B4, d1, d2, d3, d4, rfl, hO, hb1⟩; replace hb1 := hb1.alloc (.cells #[.int .i64 kd, .slice B1 E.length d1, .slice B2 K.length d2, .slice B3 S.length d3, .slice B4 T.length d4] 26); have hm := heap_new w2 (.cells #[.int .i64 kd, .slice B1 E.length d1, .slice B2 K.length d2, .slice B3 S.length d3, .slice B4 T.length d4] 26); have HM := Lib.hid (hO.at_.calm ((Calm.refl w2).alloc (.cells #[.int .i64 kd, .slice B1 E.length d1, .slice B2 K.length d2, .slice B3 S.length d3, .slice B4 T.length d4] 26))); replace hx := (hb1.block (row5 hx).2.2.2.2.2).trans hx; replace hu := hu.call hb1; clear hb1 hO))
  generalize w2.alloc (.cells #[.int .i64 kd, .slice B1 E.length d1, .slice B2 K.length d2, .slice B3 S.length d3, .slice B4 T.length d4] 26) = wm at hx hm hu HM ⊢
  generalize w2.heap.size = mb at hm ⊢
  have cD := fun u (hu : Calm w u) (hv : Calm wm u) => sameNode_any kd B1 B2 B3 B4 d1 d2 d3 d4 E K S T kd A1 A2 A3 A4 c1 c2 c3 c4 E K S T u (HM.out.calm hv) (HN.out.calm hu)
  rw [decide_eq_true ⟨rfl, rfl, rfl, rfl, rfl⟩] at cD
  have hv := Calm.refl wm
  clear cR cA c0 x0 x1 x2 x3 x4 hxs HM
  go_wp2_with (first
    | (go_at_call 24; (with_reducible refine (cX _).mono ?_); rintro e w1 ⟨rfl, rfl⟩)
    | (go_at_call 13; (first | (with_reducible refine (cS _).mono ?_) | (with_reducible refine (cF _).mono ?_)); rintro e w2 ⟨rfl, hb1⟩; replace hb1 := hb1.alloc (.cells #[.int .i64 0, .slice none 0 0, .slice none 0 0, .slice none 0 0, .slice none 0 0] 26); replace hx := (hb1.block (row5 hx).2.2.2.2.2).trans hx; replace hm := (hb1.block (row5 hm).2.2.2.2.2).trans hm; replace hu := hu.call hb1; replace hv := hv.call hb1; clear hb1; obtain ⟨x0, x1, x2, x3, x4, hxs⟩ := row5 hx; obtain ⟨m0, m1, m2, m3, m4, hms⟩ := row5 hm)
    | (go_at_call 15; (with_reducible refine (cD _ hu hv).mono ?_); rintro e w3 ⟨rfl, hb1⟩; replace hu := hu.call hb1; clear hb1))
  go_ret
  exact ⟨rfl, hu⟩
end Go.Proofs.Ytpmibedgjhjjfaa
