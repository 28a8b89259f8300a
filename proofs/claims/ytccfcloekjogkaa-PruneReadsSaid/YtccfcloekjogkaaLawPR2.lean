/- PruneReads: the law's own walk. -/
import Derived.Test.YtccfcloekjogkaaLawPR
namespace Go.Proofs.Ytccfcloekjogkaa
open Go.ChangeShapes Go.WideShapes Go.ChangeAt Go.RowKit

set_option maxRecDepth 100000 in
theorem keepErr_good {l : List El} {keep : List Int} (h : keepErr l keep = 0) : Good l ∧ keep.length ≤ 20 ∧ ∀ t ∈ keep, 0 ≤ t ∧ t ≤ 2147483647 := by
  unfold keepErr at h
  split at h
  · rename_i h0
    refine ⟨runErr_zero.1 h0, ?_⟩
    unfold timesErr at h
    split at h
    · cases h
    · split at h
      · rename_i h1 h2; exact ⟨by omega, h2⟩
      · cases h
  · rename_i h0; exact absurd h h0
set_option maxRecDepth 100000 in
theorem keepErr_of {l : List El} {keep : List Int} (h0 : Good l) (h1 : keep.length ≤ 20) (h2 : ∀ t ∈ keep, 0 ≤ t ∧ t ≤ 2147483647) : keepErr l keep = 0 := by
  unfold keepErr
  rw [runErr_zero.2 h0, if_pos rfl]
  unfold timesErr
  rw [if_neg (by omega), if_pos h2]
set_option maxRecDepth 100000 in
set_option maxHeartbeats 16000000 in
theorem pruneReads_walk (A : Option Addr) (d : Nat) (l : List El) (AK : Option Addr) (dK : Nat) (keep : List Int) (more kp ko kf lp lo lf hp ho hf : Int) (w : World) (hn : l.length ≤ 9223372036854775807) (hnk : keep.length ≤ 9223372036854775807) (hL : Lies w A l) (hK : LiesI w AK keep) :
    Calls Try.prog 7 #[.slice A l.length d, .slice AK keep.length dK, .int .i64 more, .agg #[.int .i64 kp, .int .i64 ko, .int .i64 kf], .agg #[.int .i64 lp, .int .i64 lo, .int .i64 lf], .agg #[.int .i64 hp, .int .i64 ho, .int .i64 hf]] w fun e w' => e = .returned (.bool true) ∧ Calm w w' := by
  have cL1 := fun u gB g2 h h2 => keptLit_one 1 3 2 [⟨0, 0, 1, 1, 3, { data := #[] }⟩] { data := #[] } (by omega) (by omega) rfl (by omega) (by rw [if_pos (by omega)]) u gB g2 33 3 h h2
  have cL2 := fun u gB g2 h h2 => keptLit_one 1 3 3 [] { data := #[] } (by omega) (by omega) rfl (by omega) (by rw [if_neg (by omega)]) u gB g2 33 3 h h2
  have cN : ∀ u, Calm w u → Calls Try.prog 36 #[.slice A l.length d, .slice AK keep.length dK] u (KpEnd (if keepErr l keep = 0 then keptR l keep else []) (keepErr l keep) u) := fun u hu => kept_any A AK d dK l keep u hn (hL.calm hu) hnk (hK.calm hu)
  have hx := heap_past (.cells #[.int .i64 hp, .int .i64 ho, .int .i64 hf] 31) (heap_past (.cells #[.int .i64 lp, .int .i64 lo, .int .i64 lf] 31) (heap_new w (.cells #[.int .i64 kp, .int .i64 ko, .int .i64 kf] 31)))
  have hy := heap_past (.cells #[.int .i64 hp, .int .i64 ho, .int .i64 hf] 31) (heap_new (w.alloc (.cells #[.int .i64 kp, .int .i64 ko, .int .i64 kf] 31)) (.cells #[.int .i64 lp, .int .i64 lo, .int .i64 lf] 31))
  have hz := heap_new ((w.alloc (.cells #[.int .i64 kp, .int .i64 ko, .int .i64 kf] 31)).alloc (.cells #[.int .i64 lp, .int .i64 lo, .int .i64 lf] 31)) (.cells #[.int .i64 hp, .int .i64 ho, .int .i64 hf] 31)
  rw [World.size_alloc] at hy hz
  rw [World.size_alloc] at hz
  have hu := (((Calm.refl w).alloc (.cells #[.int .i64 kp, .int .i64 ko, .int .i64 kf] 31)).alloc (.cells #[.int .i64 lp, .int .i64 lo, .int .i64 lf] 31)).alloc (.cells #[.int .i64 hp, .int .i64 ho, .int .i64 hf] 31)
  obtain ⟨x0, x1, x2, hxs⟩ := row3 hx
  obtain ⟨y0, y1, y2, hys⟩ := row3 hy
  obtain ⟨z0, z1, z2, hzs⟩ := row3 hz
  by_cases he : keepErr l keep = 0
  rotate_left
  · rw [if_neg he] at cN
    have b1 : (keepErr l keep != 0) = true := by simpa using he
    generalize keepErr l keep = E at *
    clear he hL hK
    go_enter Try.func7, Try.ntmps7
    have hq := heap_new (((w.alloc (.cells #[.int .i64 kp, .int .i64 ko, .int .i64 kf] 31)).alloc (.cells #[.int .i64 lp, .int .i64 lo, .int .i64 lf] 31)).alloc (.cells #[.int .i64 hp, .int .i64 ho, .int .i64 hf] 31)) (.cells #[.int .i64 0, .int .i64 0, .int .i64 1, .int .i64 1, .int .i64 3, .string { data := #[] }] 33)
    rw [World.size_alloc, World.size_alloc, World.size_alloc] at hq
    replace hx := heap_past (.cells #[.int .i64 0, .int .i64 0, .int .i64 1, .int .i64 1, .int .i64 3, .string { data := #[] }] 33) hx
    replace hy := heap_past (.cells #[.int .i64 0, .int .i64 0, .int .i64 1, .int .i64 1, .int .i64 3, .string { data := #[] }] 33) hy
    replace hz := heap_past (.cells #[.int .i64 0, .int .i64 0, .int .i64 1, .int .i64 1, .int .i64 3, .string { data := #[] }] 33) hz
    replace hu := hu.alloc (.cells #[.int .i64 0, .int .i64 0, .int .i64 1, .int .i64 1, .int .i64 3, .string { data := #[] }] 33)
    clear x0 x1 x2 y0 y1 y2 z0 z1 z2 hxs hys hzs
    go_upto_region 2 with fail
    generalize (((w.alloc (.cells #[.int .i64 kp, .int .i64 ko, .int .i64 kf] 31)).alloc (.cells #[.int .i64 lp, .int .i64 lo, .int .i64 lf] 31)).alloc (.cells #[.int .i64 hp, .int .i64 ho, .int .i64 hf] 31)).alloc (.cells #[.int .i64 0, .int .i64 0, .int .i64 1, .int .i64 1, .int .i64 3, .string { data := #[] }] 33) = w0 at hx hy hz hq hu ⊢
    obtain ⟨x0, x1, x2, hxs⟩ := row3 hx
    obtain ⟨y0, y1, y2, hys⟩ := row3 hy
    obtain ⟨z0, z1, z2, hzs⟩ := row3 hz
    obtain ⟨q0, q1, q2, q3, q4, q5, hqs⟩ := row6 hq
    go_wp2_with (first
        | (go_at_call 36; (with_reducible refine (cL1 _ _ _ (heap_past _ (heap_new _ _)) (heap_alloc2_new _ _ _)).mono ?_); rintro e w1 ⟨v, rfl, ho1, hb1⟩; obtain ⟨A1, c1, rfl, -, -, -⟩ := ho1.lies (by simp [El.wf]); replace hx := (hb1.block (row3 (heap_past _ (heap_past _ hx))).2.2.2).trans (heap_past _ (heap_past _ hx)); replace hy := (hb1.block (row3 (heap_past _ (heap_past _ hy))).2.2.2).trans (heap_past _ (heap_past _ hy)); replace hz := (hb1.block (row3 (heap_past _ (heap_past _ hz))).2.2.2).trans (heap_past _ (heap_past _ hz)); replace hq := (hb1.block (row6 (heap_past _ (heap_past _ hq))).2.2.2.2.2.2).trans (heap_past _ (heap_past _ hq)); replace hu := ((hu.alloc _).alloc _).call hb1; clear hb1 ho1 cL1; obtain ⟨x0, x1, x2, hxs⟩ := row3 hx; obtain ⟨y0, y1, y2, hys⟩ := row3 hy; obtain ⟨z0, z1, z2, hzs⟩ := row3 hz; obtain ⟨q0, q1, q2, q3, q4, q5, hqs⟩ := row6 hq)
        | (go_at_call 36; (with_reducible refine (cL2 _ _ _ (heap_past _ (heap_new _ _)) (heap_alloc2_new _ _ _)).mono ?_); rintro e w2 ⟨v, rfl, ho1, hb1⟩; obtain ⟨A2, c2, rfl, -, -, -⟩ := ho1.lies (by simp); replace hx := (hb1.block (row3 (heap_past _ (heap_past _ hx))).2.2.2).trans (heap_past _ (heap_past _ hx)); replace hy := (hb1.block (row3 (heap_past _ (heap_past _ hy))).2.2.2).trans (heap_past _ (heap_past _ hy)); replace hz := (hb1.block (row3 (heap_past _ (heap_past _ hz))).2.2.2).trans (heap_past _ (heap_past _ hz)); replace hu := ((hu.alloc _).alloc _).call hb1; clear hb1 ho1 cL2 hq q0 q1 q2 q3 q4 q5 hqs; obtain ⟨x0, x1, x2, hxs⟩ := row3 hx; obtain ⟨y0, y1, y2, hys⟩ := row3 hy; obtain ⟨z0, z1, z2, hzs⟩ := row3 hz)
        | (go_at_call 36; (with_reducible refine (cN _ hu).mono ?_); rintro e w3 ⟨v, rfl, ho3, hb1⟩; obtain ⟨A3, c3, rfl, -, -, hL3⟩ := ho3.lies (by simp); replace hx := (hb1.block (row3 hx).2.2.2).trans hx; replace hy := (hb1.block (row3 hy).2.2.2).trans hy; replace hz := (hb1.block (row3 hz).2.2.2).trans hz; replace hu := hu.call hb1; clear hb1 ho3 cN; obtain ⟨x0, x1, x2, hxs⟩ := row3 hx; obtain ⟨y0, y1, y2, hys⟩ := row3 hy; obtain ⟨z0, z1, z2, hzs⟩ := row3 hz))
    go_ret
    exact ⟨rfl, hu⟩
  obtain ⟨hG, hk20, hkr⟩ := keepErr_good he
  rw [if_pos he, he] at cN
  have cTw := fun A3 c3 u (h : Lies u A3 (keptR l keep)) (h2 : LiesI u AK keep) => (by
    have := kept_any A3 AK c3 dK (keptR l keep) keep u (by have := kept_len l keep; omega) h hnk h2
    rw [keepErr_of (kept_good hG keep) hk20 hkr, if_pos rfl, kept_twice] at this
    exact this : Calls Try.prog 36 #[.slice A3 (keptR l keep).length c3, .slice AK keep.length dK] u (KpEnd (keptR l keep) 0 u))
  have cMo := fun (x : Nat) (hx : x < 100) (hk : keep.length < 20) A4 c4 u (h : Lies u A l) (h2 : LiesI u A4 (keep ++ [(x : Int)])) => (by
    have := kept_any A A4 d c4 l (keep ++ [(x : Int)]) u hn h (by simp; omega) h2
    rw [keepErr_of hG (by simp; omega) (fun t ht => by
      rcases List.mem_append.1 ht with h | h
      · exact hkr t h
      · rw [List.mem_singleton.1 h]; omega), if_pos rfl] at this
    exact this : Calls Try.prog 36 #[.slice A l.length d, .slice A4 (keep ++ [(x : Int)]).length c4] u (KpEnd (keptR l (keep ++ [(x : Int)])) 0 u))
  have hSub := fun t => kept_more (l := l) (keep := keep) t
  have hRd := fun t (ht : t ∈ keep ∨ t = 2147483647) => kept_reads hG ht (kp, ko, kf) (lp, lo, lf) (hp, ho, hf)
  have hwf := hG.wf
  have hwf3 : ∀ e ∈ keptR l keep, e.wf := fun e he => hwf e (List.mem_filter.1 he).1
  have hl3 := kept_len l keep
  have hl4 := hG.1
  have HL := Lib.hid hL
  have HK := Lib.hid hK
  have HWF4 : Hid (∀ (x : Int), ∀ e ∈ keptR l (keep ++ [x]), e.wf) := show ∀ _, _ from fun x e he => hwf e (List.mem_filter.1 he).1
  have HSub := Lib.hid hSub
  have HRd := Lib.hid hRd
  have HWF := Lib.hid hwf
  have HG := Lib.hid hG
  have HLm : Hid (∀ x : Int, (keptR l (keep ++ [x])).length ≤ 400) := show ∀ _, _ from fun x => by have := kept_len l (keep ++ [x]); omega
  clear he hG hL hK hSub hRd hwf hkr
  generalize keptR l keep = R at cN cTw HSub HRd hwf3 hl3
  go_enter Try.func7, Try.ntmps7
  have hq := heap_new (((w.alloc (.cells #[.int .i64 kp, .int .i64 ko, .int .i64 kf] 31)).alloc (.cells #[.int .i64 lp, .int .i64 lo, .int .i64 lf] 31)).alloc (.cells #[.int .i64 hp, .int .i64 ho, .int .i64 hf] 31)) (.cells #[.int .i64 0, .int .i64 0, .int .i64 1, .int .i64 1, .int .i64 3, .string { data := #[] }] 33)
  rw [World.size_alloc, World.size_alloc, World.size_alloc] at hq
  replace hx := heap_past (.cells #[.int .i64 0, .int .i64 0, .int .i64 1, .int .i64 1, .int .i64 3, .string { data := #[] }] 33) hx
  replace hy := heap_past (.cells #[.int .i64 0, .int .i64 0, .int .i64 1, .int .i64 1, .int .i64 3, .string { data := #[] }] 33) hy
  replace hz := heap_past (.cells #[.int .i64 0, .int .i64 0, .int .i64 1, .int .i64 1, .int .i64 3, .string { data := #[] }] 33) hz
  replace hu := hu.alloc (.cells #[.int .i64 0, .int .i64 0, .int .i64 1, .int .i64 1, .int .i64 3, .string { data := #[] }] 33)
  clear x0 x1 x2 y0 y1 y2 z0 z1 z2 hxs hys hzs
  go_upto_region 2 with fail
  generalize (((w.alloc (.cells #[.int .i64 kp, .int .i64 ko, .int .i64 kf] 31)).alloc (.cells #[.int .i64 lp, .int .i64 lo, .int .i64 lf] 31)).alloc (.cells #[.int .i64 hp, .int .i64 ho, .int .i64 hf] 31)).alloc (.cells #[.int .i64 0, .int .i64 0, .int .i64 1, .int .i64 1, .int .i64 3, .string { data := #[] }] 33) = w0 at hx hy hz hq hu ⊢
  obtain ⟨x0, x1, x2, hxs⟩ := row3 hx
  obtain ⟨y0, y1, y2, hys⟩ := row3 hy
  obtain ⟨z0, z1, z2, hzs⟩ := row3 hz
  obtain ⟨q0, q1, q2, q3, q4, q5, hqs⟩ := row6 hq
  go_wp2_with (first
      | (go_at_call 36; (with_reducible refine (cL1 _ _ _ (heap_past _ (heap_new _ _)) (heap_alloc2_new _ _ _)).mono ?_); rintro e w1 ⟨v, rfl, ho1, hb1⟩; obtain ⟨A1, c1, rfl, -, -, -⟩ := ho1.lies (by simp [El.wf]); replace hx := (hb1.block (row3 (heap_past _ (heap_past _ hx))).2.2.2).trans (heap_past _ (heap_past _ hx)); replace hy := (hb1.block (row3 (heap_past _ (heap_past _ hy))).2.2.2).trans (heap_past _ (heap_past _ hy)); replace hz := (hb1.block (row3 (heap_past _ (heap_past _ hz))).2.2.2).trans (heap_past _ (heap_past _ hz)); replace hq := (hb1.block (row6 (heap_past _ (heap_past _ hq))).2.2.2.2.2.2).trans (heap_past _ (heap_past _ hq)); replace hu := ((hu.alloc _).alloc _).call hb1; clear hb1 ho1 cL1; obtain ⟨x0, x1, x2, hxs⟩ := row3 hx; obtain ⟨y0, y1, y2, hys⟩ := row3 hy; obtain ⟨z0, z1, z2, hzs⟩ := row3 hz; obtain ⟨q0, q1, q2, q3, q4, q5, hqs⟩ := row6 hq)
      | (go_at_call 36; (with_reducible refine (cL2 _ _ _ (heap_past _ (heap_new _ _)) (heap_alloc2_new _ _ _)).mono ?_); rintro e w2 ⟨v, rfl, ho1, hb1⟩; obtain ⟨A2, c2, rfl, -, -, -⟩ := ho1.lies (by simp); replace hx := (hb1.block (row3 (heap_past _ (heap_past _ hx))).2.2.2).trans (heap_past _ (heap_past _ hx)); replace hy := (hb1.block (row3 (heap_past _ (heap_past _ hy))).2.2.2).trans (heap_past _ (heap_past _ hy)); replace hz := (hb1.block (row3 (heap_past _ (heap_past _ hz))).2.2.2).trans (heap_past _ (heap_past _ hz)); replace hu := ((hu.alloc _).alloc _).call hb1; clear hb1 ho1 cL2 hq q0 q1 q2 q3 q4 q5 hqs; obtain ⟨x0, x1, x2, hxs⟩ := row3 hx; obtain ⟨y0, y1, y2, hys⟩ := row3 hy; obtain ⟨z0, z1, z2, hzs⟩ := row3 hz)
      | (go_at_call 36; (with_reducible refine (cN _ hu).mono ?_); rintro e w3 ⟨v, rfl, ho3, hb1⟩; obtain ⟨A3, c3, rfl, -, -, hL3⟩ := ho3.lies hwf3; replace hx := (hb1.block (row3 hx).2.2.2).trans hx; replace hy := (hb1.block (row3 hy).2.2.2).trans hy; replace hz := (hb1.block (row3 hz).2.2.2).trans hz; replace hu := hu.call hb1; clear hb1 ho3 cN; obtain ⟨x0, x1, x2, hxs⟩ := row3 hx; obtain ⟨y0, y1, y2, hys⟩ := row3 hy; obtain ⟨z0, z1, z2, hzs⟩ := row3 hz))
  have HL3 := Lib.hid hL3
  have HU := Lib.hid hu
  obtain ⟨KM, hKM⟩ : ∃ KM, keep ++ [2147483647] = KM := ⟨_, rfl⟩
  have HKM := Lib.hid hKM
  have hKl : KM.length ≤ 21 := by rw [← hKM]; simp; omega
  have cCl := fun u (hu : Calm w3 u) => cloneI_any AK dK keep u (by omega) (HK.out.calm (HU.out.call hu))
  clear hL3 hu hKM
  go_wp2_with (first
    | (go_at_call 37; (with_reducible refine (cCl _ (Calm.refl _)).mono ?_); rintro e w4 ⟨v4, rfl, ho4, hb4⟩; have HO4 := Lib.hid ho4; clear ho4)
    | (at_builtin; refine wpList_append_i rfl _ _ rfl _ _ _ rfl (HO4.out.calm ((Calm.refl _).alloc _)) _ _ 2147483647 _ rfl (heap_new _ _) (by omega) (by have := hb4.size; simp; omega) ?_; intro v5 w5 ho5 hc5; have hur5 := hc5 w3 (Nat.le_refl _) (hb4.alloc _); rw [HKM.out] at ho5; obtain ⟨A5, c5, rfl, hL5⟩ := ho5.lies; have HL5 := Lib.hid hL5; clear ho5 hL5 hc5))
  replace hx := (hur5.block (row3 hx).2.2.2).trans hx
  replace hy := (hur5.block (row3 hy).2.2.2).trans hy
  replace hz := (hur5.block (row3 hz).2.2.2).trans hz
  have HU5 := Lib.hid (HU.out.call hur5)
  have HL35 := Lib.hid (HL3.out.calm hur5)
  clear HO4 hb4 x0 x1 x2 hxs y0 y1 y2 hys z0 z1 z2 hzs HU HL3 hur5 cCl
  go_loopw [78] (fun i wr => ∃ k : Nat, k ≤ KM.length ∧ i = .int .i64 k ∧ Calm w5 wr) (fun i _ => KM.length - (intOf i).toNat)
  case atStart => exact ⟨0, Nat.zero_le _, rfl, Calm.refl _⟩
  case round =>
    obtain ⟨k, hk, rfl, hu⟩ := hrel
    replace hx := (hu.block (row3 hx).2.2.2).trans hx
    replace hy := (hu.block (row3 hy).2.2.2).trans hy
    replace hz := (hu.block (row3 hz).2.2.2).trans hz
    obtain ⟨x0, x1, x2, hxs⟩ := row3 hx
    obtain ⟨y0, y1, y2, hys⟩ := row3 hy
    obtain ⟨z0, z1, z2, hzs⟩ := row3 hz
    by_cases hlt : k < KM.length
    · obtain ⟨b, q, t, rfl, hb, HT, c0⟩ := (HL5.out.calm hu).get hlt
      have ht : t ∈ keep ∨ t = 2147483647 := by
        have h1 := List.mem_of_getElem? HT.out
        rw [← HKM.out] at h1
        rcases List.mem_append.1 h1 with h | h
        · exact .inl h
        · exact .inr (List.mem_singleton.1 h)
      obtain ⟨r1, r2, r3, r4⟩ := HRd.out t ht
      have cA1 := fun u (hu : Calm w5 u) => runAt_any A d l kp ko kf t u hn (HL.out.calm (HU5.out.call hu))
      have cA2 := fun u (hu : Calm w5 u) => runAt_any A3 c3 R kp ko kf t u (by omega) (HL35.out.calm hu)
      have cR1 := fun u (hu : Calm w5 u) => runRange_any A d l lp lo lf hp ho hf t u hn (HL.out.calm (HU5.out.call hu))
      have cR2 := fun u (hu : Calm w5 u) => runRange_any A3 c3 R lp lo lf hp ho hf t u (by omega) (HL35.out.calm hu)
      rw [r1, r2] at cA2
      rw [r3, r4] at cR2
      have hPl : (if rgErr l (lp, lo, lf) (hp, ho, hf) = 0 then rangeR l (lp, lo, lf) (hp, ho, hf) t else []).length ≤ 400 := by
        split
        · have := rangeR_le l (lp, lo, lf) (hp, ho, hf) t; omega
        · simp
      generalize (if rgErr l (lp, lo, lf) (hp, ho, hf) = 0 then rangeR l (lp, lo, lf) (hp, ho, hf) t else []) = PL at cR1 cR2 hPl
      generalize rgErr l (lp, lo, lf) (hp, ho, hf) = e2 at cR1 cR2
      generalize atErr l (kp, ko, kf) t = e1 at cA1 cA2
      generalize atVal l (kp, ko, kf) t = X1 at cA1 cA2
      obtain ⟨p, o, f, m, g, s⟩ := X1
      have cA1 : ∀ u, Calm w5 u → Calls Try.prog 33 #[.slice A l.length d, .agg #[.int .i64 kp, .int .i64 ko, .int .i64 kf], .int .i64 t] u fun e w' => e = .returned (.tuple #[.agg #[.int .i64 p, .int .i64 o, .int .i64 f, .int .i64 m, .int .i64 g, .string s], .int .i64 e1]) ∧ Calm u w' := cA1
      have cA2 : ∀ u, Calm w5 u → Calls Try.prog 33 #[.slice A3 R.length c3, .agg #[.int .i64 kp, .int .i64 ko, .int .i64 kf], .int .i64 t] u fun e w' => e = .returned (.tuple #[.agg #[.int .i64 p, .int .i64 o, .int .i64 f, .int .i64 m, .int .i64 g, .string s], .int .i64 e1]) ∧ Calm u w' := cA2
      have b1 : (e1 != e1) = false := by simp
      have b2 : (e2 != e2) = false := by simp
      clear ht r1 r2 r3 r4
      go_wp2_with (first
        | (go_at_call 33; (with_reducible refine (cA1 _ hu).mono ?_); rintro e wa ⟨rfl, hb1⟩; replace hx := (hb1.block (row3 hx).2.2.2).trans hx; replace hy := (hb1.block (row3 hy).2.2.2).trans hy; replace hz := (hb1.block (row3 hz).2.2.2).trans hz; obtain ⟨x0, x1, x2, hxs⟩ := row3 hx; obtain ⟨y0, y1, y2, hys⟩ := row3 hy; obtain ⟨z0, z1, z2, hzs⟩ := row3 hz; replace hu := hu.call hb1; clear hb1 cA1)
        | (go_at_call 33; (with_reducible refine (cA2 _ (hu.alloc _)).mono ?_); rintro e wb ⟨rfl, hb1⟩; replace hx := (hb1.block (row3 (heap_past _ hx)).2.2.2).trans (heap_past _ hx); replace hy := (hb1.block (row3 (heap_past _ hy)).2.2.2).trans (heap_past _ hy); replace hz := (hb1.block (row3 (heap_past _ hz)).2.2.2).trans (heap_past _ hz); obtain ⟨x0, x1, x2, hxs⟩ := row3 hx; obtain ⟨y0, y1, y2, hys⟩ := row3 hy; obtain ⟨z0, z1, z2, hzs⟩ := row3 hz; have hp1 := (hb1.block (row6 (heap_new wa (.cells #[.int .i64 p, .int .i64 o, .int .i64 f, .int .i64 m, .int .i64 g, .string s] 33))).2.2.2.2.2.2).trans (heap_new wa (.cells #[.int .i64 p, .int .i64 o, .int .i64 f, .int .i64 m, .int .i64 g, .string s] 33)); replace hu := (hu.alloc _).call hb1; clear hb1 cA2)
        | (go_at_call 35; (with_reducible refine (cR1 _ (hu.alloc _)).mono ?_); rintro e wc ⟨v, rfl, hS, hb1⟩; obtain ⟨A6, c6, rfl, -, hL6⟩ := hS; replace hx := (hb1.block (row3 (heap_past _ hx)).2.2.2).trans (heap_past _ hx); replace hy := (hb1.block (row3 (heap_past _ hy)).2.2.2).trans (heap_past _ hy); replace hz := (hb1.block (row3 (heap_past _ hz)).2.2.2).trans (heap_past _ hz); obtain ⟨x0, x1, x2, hxs⟩ := row3 hx; obtain ⟨y0, y1, y2, hys⟩ := row3 hy; obtain ⟨z0, z1, z2, hzs⟩ := row3 hz; replace hp1 := (hb1.block (row6 (heap_past (.cells #[.int .i64 p, .int .i64 o, .int .i64 f, .int .i64 m, .int .i64 g, .string s] 33) hp1)).2.2.2.2.2.2).trans (heap_past (.cells #[.int .i64 p, .int .i64 o, .int .i64 f, .int .i64 m, .int .i64 g, .string s] 33) hp1); have hp2 := (hb1.block (row6 (heap_new wb (.cells #[.int .i64 p, .int .i64 o, .int .i64 f, .int .i64 m, .int .i64 g, .string s] 33))).2.2.2.2.2.2).trans (heap_new wb (.cells #[.int .i64 p, .int .i64 o, .int .i64 f, .int .i64 m, .int .i64 g, .string s] 33)); replace hu := (hu.alloc _).call hb1; clear hb1 cR1)
        | (go_at_call 35; (with_reducible refine (cR2 _ hu).mono ?_); rintro e wd ⟨v, rfl, hS, hb1⟩; obtain ⟨A7, c7, rfl, -, hL7⟩ := hS; replace hx := (hb1.block (row3 hx).2.2.2).trans hx; replace hy := (hb1.block (row3 hy).2.2.2).trans hy; replace hz := (hb1.block (row3 hz).2.2.2).trans hz; obtain ⟨x0, x1, x2, hxs⟩ := row3 hx; obtain ⟨y0, y1, y2, hys⟩ := row3 hy; obtain ⟨z0, z1, z2, hzs⟩ := row3 hz; replace hp1 := (hb1.block (row6 hp1).2.2.2.2.2.2).trans hp1; replace hp2 := (hb1.block (row6 hp2).2.2.2.2.2.2).trans hp2; obtain ⟨p0, p1, p2, p3, p4, p5, hps⟩ := row6 hp1; obtain ⟨q0, q1, q2, q3, q4, q5, hqs⟩ := row6 hp2; replace hL6 := hL6.calm hb1; replace hu := hu.call hb1; clear hb1 cR2)
        | (go_at_call 23; (with_reducible refine (equal_self _ _ _ _ PL _ (by omega) hL6 hL7).mono ?_); rintro e we ⟨rfl, hb1⟩; replace hu := hu.call hb1; clear hb1))
      go_roundw
      case rel => exact ⟨k + 1, by omega, by go_num, hu⟩
      case measure => simp [intOf]; omega
    · have HU6 := Lib.hid (HU5.out.call hu)
      have HL36 := Lib.hid (HL35.out.calm hu)
      have cT := fun u (hu : Calm wr u) => cTw A3 c3 u (HL36.out.calm hu) (HK.out.calm (HU6.out.call hu))
      have cQ := fun A8 c8 u (hu : Calm wr u) (h : Lies u A8 R) => equal_self A3 A8 c3 c8 R u (by omega) (HL36.out.calm hu) h
      have hw6 := Calm.refl wr
      by_cases h20 : keep.length < 20
      rotate_left
      · have h20' : 20 ≤ keep.length := by omega
        go_wp2_with (first
          | (go_at_call 36; (with_reducible refine (cT _ (Calm.refl _)).mono ?_); rintro e w8 ⟨v, rfl, ho8, hb8⟩; obtain ⟨A8, c8, rfl, -, -, hL8⟩ := ho8.lies hwf3; clear ho8)
          | (go_at_call 23; (with_reducible refine (cQ _ _ _ hb8 hL8).mono ?_); rintro e w9 ⟨rfl, hb9⟩))
        go_ret
        exact ⟨rfl, HU6.out.call (hb8.call hb9)⟩
      obtain ⟨x, hx100, hW⟩ := within_any more 100 (by omega) (by omega)
      rw [show ((100 : Nat) : Int) = 100 from rfl] at hW
      have cM := fun A4 c4 u (hu : Calm wr u) h => cMo x hx100 h20 A4 c4 u (HL.out.calm (HU6.out.call hu)) h
      have hSx := HSub.out (x : Int)
      have hWf4 := HWF4.out (x : Int)
      have hOl := HLm.out (x : Int)
      generalize keptR l (keep ++ [(x : Int)]) = O at cM hSx hWf4 hOl
      have cCl := fun u (hu : Calm wr u) => cloneI_any AK dK keep u (by omega) (HK.out.calm (HU6.out.call hu))
      have cP := fun (B1 : Nat) (Ao : Option Addr) (co : Nat) (u : World) (hu : Calm wr u) (hB : u.heap[B1]? = some (.cells #[.slice Ao O.length co] 22 (0, 0))) (hO : Lies u Ao O) => hasP_any B1 A3 Ao c3 co R O u (by omega) (HL36.out.calm hu) hB (by omega) hO hSx
      obtain ⟨KX, hKX⟩ : ∃ KX, keep ++ [(x : Int)] = KX := ⟨_, rfl⟩
      rw [hKX] at cM
      have HKX := Lib.hid hKX
      clear cMo HSub HWF4 HLm hKX cTw HRd
      go_wp2_with (first
        | (go_at_call 36; (with_reducible refine (cT _ (Calm.refl _)).mono ?_); rintro e w8 ⟨v, rfl, ho8, hb8⟩; obtain ⟨A8, c8, rfl, -, -, hL8⟩ := ho8.lies hwf3; clear ho8)
        | (go_at_call 23; (with_reducible refine (cQ _ _ _ hb8 hL8).mono ?_); rintro e w9 ⟨rfl, hb9⟩; have hv9 := hb8.call hb9; clear hb8 hb9 hL8)
        | (go_at_call 37; (with_reducible refine (cCl _ hv9).mono ?_); rintro e w10 ⟨v4, rfl, ho4, hb4⟩; have HO4 := Lib.hid ho4; clear ho4; have hv10 := hv9.call hb4; have hs10 := hb4.size)
        | (go_at_call 25; (with_reducible refine (hW _).mono ?_); rintro e w1 ⟨rfl, rfl⟩)
        | (at_builtin; refine wpList_append_i rfl _ _ rfl _ _ _ rfl (HO4.out.calm ((Calm.refl _).alloc _)) _ _ (x : Int) _ rfl (heap_new _ _) (by omega) (by simp; omega) ?_; intro v5 w11 ho5 hc5; have hv11 := hc5 wr hv9.size (hv10.alloc _); rw [HKX.out] at ho5; obtain ⟨A9, c9, rfl, hL9⟩ := ho5.lies; clear ho5 hc5)
        | (go_at_call 36; (with_reducible refine (cM _ _ _ hv11 hL9).mono ?_); rintro e w12 ⟨v, rfl, ho12, hb12⟩; obtain ⟨A12, c12, rfl, -, -, hL12⟩ := ho12.lies hWf4; clear ho12; have hv12 := hv11.call hb12)
        | (go_at_call 38; (with_reducible refine (cP _ _ _ _ (hv12.alloc _) (heap_new _ _) (hL12.calm ((Calm.refl _).alloc _))).mono ?_); rintro e w13 ⟨rfl, hb13⟩; have hv13 := (hv12.alloc _).call hb13))
      go_ret
      exact ⟨rfl, HU6.out.call hv13⟩
end Go.Proofs.Ytccfcloekjogkaa
