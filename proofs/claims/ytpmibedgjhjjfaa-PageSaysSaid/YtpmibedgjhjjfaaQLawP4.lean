/- PageSays: the law's own walk. -/
import Derived.Test.YtpmibedgjhjjfaaQRefP2
import Derived.Test.YtpmibedgjhjjfaaMH
import Derived.Test.YtpmibedgjhjjfaaMC
namespace Go.Proofs.Ytpmibedgjhjjfaa
open Go.ChangeShapes Go.WideShapes Go.ChangeAt Go.RowKit

set_option maxRecDepth 100000 in
theorem un_bad (s : ByteArray) (n : Int) (hE : rdErr s.data.toList = n) (hN : ∀ kd E K S T, ¬ IsPg s.data.toList kd E K S T) (w : World) : Calls Try.prog 14 #[.string s] w fun e w' => e = .returned (.tuple #[.agg #[.int .i64 0, .slice none 0 0, .slice none 0 0, .slice none 0 0, .slice none 0 0], .int .i64 n]) ∧ Calm w w' :=
  (unpage_any s w).mono fun e w' ⟨hc, h⟩ => by
    rcases h with ⟨rfl, _⟩ | ⟨kd, _, _, _, _, _, _, _, _, E, K, S, T, _, _, hP⟩
    · exact ⟨by rw [hE], hc⟩
    · exact absurd hP (hN kd E K S T)
set_option maxRecDepth 100000 in
theorem un_good (s : ByteArray) {kd : Int} {E : List El} {K : List Int} {S : List Sp} {T : List Int} (h : IsPg s.data.toList kd E K S T) (w : World) : Calls Try.prog 14 #[.string s] w fun e w' =>
    ∃ (A1 A2 A3 A4 : Option Addr) (c1 c2 c3 c4 : Nat), e = .returned (.tuple #[.agg #[.int .i64 kd, .slice A1 E.length c1, .slice A2 K.length c2, .slice A3 S.length c3, .slice A4 T.length c4], .int .i64 0]) ∧ NdOwn w.heap.size w' A1 A2 A3 A4 c1 c2 c3 c4 E K S T ∧ Calm w w' :=
  (unpage_any s w).mono fun e w' ⟨hc, h2⟩ => by
    rcases h2 with ⟨rfl, hN⟩ | ⟨kd', A1, A2, A3, A4, c1, c2, c3, c4, E', K', S', T', rfl, hO, hP⟩
    · exact absurd h (hN kd E K S T)
    · obtain ⟨rfl, rfl, rfl, rfl, rfl⟩ := h.one hP
      exact ⟨A1, A2, A3, A4, c1, c2, c3, c4, rfl, hO, hc⟩

set_option maxRecDepth 100000 in
set_option maxHeartbeats 8000000 in
theorem pageSays_walk (kd : Int) (A1 A2 A3 A4 : Option Addr) (c1 c2 c3 c4 : Nat) (E : List El) (K : List Int) (S : List Sp) (T : List Int) (s : ByteArray) (w : World) (h : NdAt w A1 A2 A3 A4 E K S T) (hcap : E.length ≤ c1)
    (hz : E.length ≤ 140737488351232 ∧ K.length ≤ 140737488351232 ∧ S.length ≤ 140737488351232 ∧ T.length ≤ 140737488351232) :
    Calls Try.prog 3 #[.agg #[.int .i64 kd, .slice A1 E.length c1, .slice A2 K.length c2, .slice A3 S.length c3, .slice A4 T.length c4], .string s] w fun e w' => e = .returned (.bool true) ∧ Calm w w' := by
  have hx := heap_new w (.cells #[.int .i64 kd, .slice A1 E.length c1, .slice A2 K.length c2, .slice A3 S.length c3, .slice A4 T.length c4] 26)
  have hu := (Calm.refl w).alloc (.cells #[.int .i64 kd, .slice A1 E.length c1, .slice A2 K.length c2, .slice A3 S.length c3, .slice A4 T.length c4] 26)
  have cN := fun u (hu : Calm w u) => refNode_any kd A1 A2 A3 A4 c1 c2 c3 c4 E K S T u (h.calm hu) hcap (by omega) (by omega) (by omega) (by omega)
  obtain ⟨x0, x1, x2, x3, x4, hxs⟩ := row5 hx
  by_cases hP : ∃ kd E K S T, IsPg s.data.toList kd E K S T
  rotate_left
  · have cR := fun u => rd_bad s _ rfl (fun kd E K S T h => hP ⟨kd, E, K, S, T, h⟩) u
    have cU := fun u => un_bad s _ rfl (fun kd E K S T h => hP ⟨kd, E, K, S, T, h⟩) u
    generalize rdErr s.data.toList = N9 at cR cU
    clear hP
    by_cases he : ndErr kd E K S T = 0
    · have cW := fun u (hu : Calm w u) => wr_good kd A1 A2 A3 A4 c1 c2 c3 c4 E K S T u (h.calm hu) he ⟨(pgEnc kd E K S T).toArray⟩ (by simp)
      have cP := fun u (hu : Calm w u) => refPage_any kd A1 A2 A3 A4 c1 c2 c3 c4 E K S T u (h.calm hu) he
      rw [he] at cN
      generalize (⟨(pgEnc kd E K S T).toArray⟩ : ByteArray) = W at cW cP
      clear he h hz hcap
      go_enter Try.func3, Try.ntmps3
      go_wp2_with (first
            | (go_at_call 10; (with_reducible refine (cW _ hu).mono ?_); rintro e w1 ⟨rfl, hb1⟩; replace hx := (hb1.block (row5 hx).2.2.2.2.2).trans hx; replace hu := hu.call hb1; clear hb1; obtain ⟨x0, x1, x2, x3, x4, hxs⟩ := row5 hx)
            | (go_at_call 11; (with_reducible refine (cN _ hu).mono ?_); rintro e w1 ⟨rfl, hb1⟩; replace hx := (hb1.block (row5 hx).2.2.2.2.2).trans hx; replace hu := hu.call hb1; clear hb1; obtain ⟨x0, x1, x2, x3, x4, hxs⟩ := row5 hx)
            | (go_at_call 12; (with_reducible refine (cP _ hu).mono ?_); rintro e w1 ⟨rfl, hb1⟩; replace hx := (hb1.block (row5 hx).2.2.2.2.2).trans hx; replace hu := hu.call hb1; clear hb1; obtain ⟨x0, x1, x2, x3, x4, hxs⟩ := row5 hx)
            | (go_at_call 13; (with_reducible refine (cR _).mono ?_); rintro e w2 ⟨rfl, hb1⟩; replace hu := (hu.call hb1).alloc (.cells #[.int .i64 0, .slice none 0 0, .slice none 0 0, .slice none 0 0, .slice none 0 0] 26); have hm := heap_new w2 (.cells #[.int .i64 0, .slice none 0 0, .slice none 0 0, .slice none 0 0, .slice none 0 0] 26); clear hb1)
            | (go_at_call 14; (with_reducible refine (cU _).mono ?_); rintro e w3 ⟨rfl, hb1⟩; replace hb1 := hb1.alloc (.cells #[.int .i64 0, .slice none 0 0, .slice none 0 0, .slice none 0 0, .slice none 0 0] 26); replace hu := hu.call hb1; have hl := heap_new w3 (.cells #[.int .i64 0, .slice none 0 0, .slice none 0 0, .slice none 0 0, .slice none 0 0] 26); replace hm := (hb1.block (row5 hm).2.2.2.2.2).trans hm; clear hb1; obtain ⟨m0, m1, m2, m3, m4, hms⟩ := row5 hm; obtain ⟨l0, l1, l2, l3, l4, hls⟩ := row5 hl)
            | (go_at_call 15; (with_reducible refine (same_zero _).mono ?_); rintro e w4 ⟨rfl, hb1⟩; replace hu := hu.call hb1; clear hb1))
      go_ret
      exact ⟨rfl, hu⟩
    · have cW := fun u (hu : Calm w u) => wr_bad kd A1 A2 A3 A4 c1 c2 c3 c4 E K S T u (h.calm hu) _ rfl he
      have b1 : (ndErr kd E K S T != 0) = true := by simpa using he
      generalize ndErr kd E K S T = N at cN cW b1
      clear he h hz hcap
      go_enter Try.func3, Try.ntmps3
      go_wp2_with (first
            | (go_at_call 10; (with_reducible refine (cW _ hu).mono ?_); rintro e w1 ⟨rfl, hb1⟩; replace hx := (hb1.block (row5 hx).2.2.2.2.2).trans hx; replace hu := hu.call hb1; clear hb1; obtain ⟨x0, x1, x2, x3, x4, hxs⟩ := row5 hx)
            | (go_at_call 11; (with_reducible refine (cN _ hu).mono ?_); rintro e w1 ⟨rfl, hb1⟩; replace hx := (hb1.block (row5 hx).2.2.2.2.2).trans hx; replace hu := hu.call hb1; clear hb1; obtain ⟨x0, x1, x2, x3, x4, hxs⟩ := row5 hx)
            | (go_at_call 13; (with_reducible refine (cR _).mono ?_); rintro e w2 ⟨rfl, hb1⟩; replace hu := (hu.call hb1).alloc (.cells #[.int .i64 0, .slice none 0 0, .slice none 0 0, .slice none 0 0, .slice none 0 0] 26); have hm := heap_new w2 (.cells #[.int .i64 0, .slice none 0 0, .slice none 0 0, .slice none 0 0, .slice none 0 0] 26); clear hb1)
            | (go_at_call 14; (with_reducible refine (cU _).mono ?_); rintro e w3 ⟨rfl, hb1⟩; replace hb1 := hb1.alloc (.cells #[.int .i64 0, .slice none 0 0, .slice none 0 0, .slice none 0 0, .slice none 0 0] 26); replace hu := hu.call hb1; have hl := heap_new w3 (.cells #[.int .i64 0, .slice none 0 0, .slice none 0 0, .slice none 0 0, .slice none 0 0] 26); replace hm := (hb1.block (row5 hm).2.2.2.2.2).trans hm; clear hb1; obtain ⟨m0, m1, m2, m3, m4, hms⟩ := row5 hm; obtain ⟨l0, l1, l2, l3, l4, hls⟩ := row5 hl)
            | (go_at_call 15; (with_reducible refine (same_zero _).mono ?_); rintro e w4 ⟨rfl, hb1⟩; replace hu := hu.call hb1; clear hb1))
      go_ret
      exact ⟨rfl, hu⟩
  obtain ⟨KD, EE, KK, SS, TT, hP⟩ := hP
  have cR := fun u => rd_good s hP u
  have cU := fun u => un_good s hP u
  clear hP
  by_cases he : ndErr kd E K S T = 0
  · have cW := fun u (hu : Calm w u) => wr_good kd A1 A2 A3 A4 c1 c2 c3 c4 E K S T u (h.calm hu) he ⟨(pgEnc kd E K S T).toArray⟩ (by simp)
    have cP := fun u (hu : Calm w u) => refPage_any kd A1 A2 A3 A4 c1 c2 c3 c4 E K S T u (h.calm hu) he
    rw [he] at cN
    generalize (⟨(pgEnc kd E K S T).toArray⟩ : ByteArray) = W at cW cP
    clear he h hz hcap
    go_enter Try.func3, Try.ntmps3
    go_wp2_with (first
          | (go_at_call 10; (with_reducible refine (cW _ hu).mono ?_); rintro e w1 ⟨rfl, hb1⟩; replace hx := (hb1.block (row5 hx).2.2.2.2.2).trans hx; replace hu := hu.call hb1; clear hb1; obtain ⟨x0, x1, x2, x3, x4, hxs⟩ := row5 hx)
          | (go_at_call 11; (with_reducible refine (cN _ hu).mono ?_); rintro e w1 ⟨rfl, hb1⟩; replace hx := (hb1.block (row5 hx).2.2.2.2.2).trans hx; replace hu := hu.call hb1; clear hb1; obtain ⟨x0, x1, x2, x3, x4, hxs⟩ := row5 hx)
          | (go_at_call 12; (with_reducible refine (cP _ hu).mono ?_); rintro e w1 ⟨rfl, hb1⟩; replace hx := (hb1.block (row5 hx).2.2.2.2.2).trans hx; replace hu := hu.call hb1; clear hb1; obtain ⟨x0, x1, x2, x3, x4, hxs⟩ := row5 hx)
          | (go_at_call 13; (with_reducible refine (cR _).mono ?_); rintro e w2 ⟨B1, B2, B3, B4, d1, d2, d3, d4, rfl, hO, hb1⟩; replace hu := (hu.call hb1).alloc (.cells #[.int .i64 KD, .slice B1 EE.length d1, .slice B2 KK.length d2, .slice B3 SS.length d3, .slice B4 TT.length d4] 26); have hm := heap_new w2 (.cells #[.int .i64 KD, .slice B1 EE.length d1, .slice B2 KK.length d2, .slice B3 SS.length d3, .slice B4 TT.length d4] 26); have HM := Lib.hid (hO.at_.calm ((Calm.refl w2).alloc (.cells #[.int .i64 KD, .slice B1 EE.length d1, .slice B2 KK.length d2, .slice B3 SS.length d3, .slice B4 TT.length d4] 26))); clear hb1 hO)
          | (go_at_call 14; (with_reducible refine (cU _).mono ?_); rintro e w3 ⟨C1, C2, C3, C4, e1, e2, e3, e4, rfl, hO, hb1⟩; replace hb1 := hb1.alloc (.cells #[.int .i64 KD, .slice C1 EE.length e1, .slice C2 KK.length e2, .slice C3 SS.length e3, .slice C4 TT.length e4] 26); replace hu := hu.call hb1; have hl := heap_new w3 (.cells #[.int .i64 KD, .slice C1 EE.length e1, .slice C2 KK.length e2, .slice C3 SS.length e3, .slice C4 TT.length e4] 26); replace hm := (hb1.block (row5 hm).2.2.2.2.2).trans hm; have cS := sameNode_any KD B1 B2 B3 B4 d1 d2 d3 d4 EE KK SS TT KD C1 C2 C3 C4 e1 e2 e3 e4 EE KK SS TT _ (HM.out.calm hb1) (hO.at_.calm ((Calm.refl w3).alloc (.cells #[.int .i64 KD, .slice C1 EE.length e1, .slice C2 KK.length e2, .slice C3 SS.length e3, .slice C4 TT.length e4] 26))); rw [decide_eq_true ⟨rfl, rfl, rfl, rfl, rfl⟩] at cS; clear hb1 hO; obtain ⟨m0, m1, m2, m3, m4, hms⟩ := row5 hm; obtain ⟨l0, l1, l2, l3, l4, hls⟩ := row5 hl)
          | (go_at_call 15; (with_reducible refine cS.mono ?_); rintro e w4 ⟨rfl, hb1⟩; replace hu := hu.call hb1; clear hb1))
    go_ret
    exact ⟨rfl, hu⟩
  · have cW := fun u (hu : Calm w u) => wr_bad kd A1 A2 A3 A4 c1 c2 c3 c4 E K S T u (h.calm hu) _ rfl he
    have b1 : (ndErr kd E K S T != 0) = true := by simpa using he
    generalize ndErr kd E K S T = N at cN cW b1
    clear he h hz hcap
    go_enter Try.func3, Try.ntmps3
    go_wp2_with (first
          | (go_at_call 10; (with_reducible refine (cW _ hu).mono ?_); rintro e w1 ⟨rfl, hb1⟩; replace hx := (hb1.block (row5 hx).2.2.2.2.2).trans hx; replace hu := hu.call hb1; clear hb1; obtain ⟨x0, x1, x2, x3, x4, hxs⟩ := row5 hx)
          | (go_at_call 11; (with_reducible refine (cN _ hu).mono ?_); rintro e w1 ⟨rfl, hb1⟩; replace hx := (hb1.block (row5 hx).2.2.2.2.2).trans hx; replace hu := hu.call hb1; clear hb1; obtain ⟨x0, x1, x2, x3, x4, hxs⟩ := row5 hx)
          | (go_at_call 13; (with_reducible refine (cR _).mono ?_); rintro e w2 ⟨B1, B2, B3, B4, d1, d2, d3, d4, rfl, hO, hb1⟩; replace hu := (hu.call hb1).alloc (.cells #[.int .i64 KD, .slice B1 EE.length d1, .slice B2 KK.length d2, .slice B3 SS.length d3, .slice B4 TT.length d4] 26); have hm := heap_new w2 (.cells #[.int .i64 KD, .slice B1 EE.length d1, .slice B2 KK.length d2, .slice B3 SS.length d3, .slice B4 TT.length d4] 26); have HM := Lib.hid (hO.at_.calm ((Calm.refl w2).alloc (.cells #[.int .i64 KD, .slice B1 EE.length d1, .slice B2 KK.length d2, .slice B3 SS.length d3, .slice B4 TT.length d4] 26))); clear hb1 hO)
          | (go_at_call 14; (with_reducible refine (cU _).mono ?_); rintro e w3 ⟨C1, C2, C3, C4, e1, e2, e3, e4, rfl, hO, hb1⟩; replace hb1 := hb1.alloc (.cells #[.int .i64 KD, .slice C1 EE.length e1, .slice C2 KK.length e2, .slice C3 SS.length e3, .slice C4 TT.length e4] 26); replace hu := hu.call hb1; have hl := heap_new w3 (.cells #[.int .i64 KD, .slice C1 EE.length e1, .slice C2 KK.length e2, .slice C3 SS.length e3, .slice C4 TT.length e4] 26); replace hm := (hb1.block (row5 hm).2.2.2.2.2).trans hm; have cS := sameNode_any KD B1 B2 B3 B4 d1 d2 d3 d4 EE KK SS TT KD C1 C2 C3 C4 e1 e2 e3 e4 EE KK SS TT _ (HM.out.calm hb1) (hO.at_.calm ((Calm.refl w3).alloc (.cells #[.int .i64 KD, .slice C1 EE.length e1, .slice C2 KK.length e2, .slice C3 SS.length e3, .slice C4 TT.length e4] 26))); rw [decide_eq_true ⟨rfl, rfl, rfl, rfl, rfl⟩] at cS; clear hb1 hO; obtain ⟨m0, m1, m2, m3, m4, hms⟩ := row5 hm; obtain ⟨l0, l1, l2, l3, l4, hls⟩ := row5 hl)
          | (go_at_call 15; (with_reducible refine cS.mono ?_); rintro e w4 ⟨rfl, hb1⟩; replace hu := hu.call hb1; clear hb1))
    go_ret
    exact ⟨rfl, hu⟩
end Go.Proofs.Ytpmibedgjhjjfaa
