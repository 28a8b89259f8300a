/- annalref.Node whole, annalref.Kid. -/
import Derived.Test.YtimfjjnlbfcccaaRefN3
namespace Go.Proofs.Ytimfjjnlbfcccaa
open Go.RowKit

set_option maxRecDepth 100000 in
set_option maxHeartbeats 4000000 in
theorem refNode_any (kd : Int) (A1 A2 A3 A4 : Option Addr) (c1 c2 c3 c4 : Nat) (E : List El) (K : List Int) (S : List Sp) (T : List Int) (w : World) (h : NdAt w A1 A2 A3 A4 E K S T) (hcap : E.length ≤ c1) (he : E.length ≤ 1125899906842624) (hk : K.length ≤ 1125899906842624) (hs : S.length ≤ 1125899906842624) (ht : T.length ≤ 1125899906842624) :
    Calls Try.prog 15 #[.agg #[.int .i64 kd, .slice A1 E.length c1, .slice A2 K.length c2, .slice A3 S.length c3, .slice A4 T.length c4]] w fun e w' => e = .returned (.int .i64 (ndErr kd E K S T)) ∧ Calm w w' := by
  by_cases h0 : kd = 0
  · rw [show ndErr kd E K S T = freeErr E K S T from by rw [h0, nd_free]]
    exact refNode0_any kd A1 A2 A3 A4 c1 c2 c3 c4 E K S T w h0 he hk hs ht
  by_cases h1 : kd = 1
  · rw [show ndErr kd E K S T = leafErr E K S T from by rw [h1, nd_leaf]]
    exact refNode1_any kd A1 A2 A3 A4 c1 c2 c3 c4 E K S T w h1 h hcap hk hs ht
  have hx := heap_new w (.cells #[.int .i64 kd, .slice A1 E.length c1, .slice A2 K.length c2, .slice A3 S.length c3, .slice A4 T.length c4] 34)
  have hu := (Calm.refl w).alloc (.cells #[.int .i64 kd, .slice A1 E.length c1, .slice A2 K.length c2, .slice A3 S.length c3, .slice A4 T.length c4] 34)
  by_cases h2 : kd = 2
  · rw [show ndErr kd E K S T = innerErr E K S T from by rw [h2, nd_inner]]
    have cI := fun u (hu : Calm w u) => refInner_any kd A1 A2 A3 A4 c1 c2 c3 c4 E K S T u (h.calm hu) hs
    subst h2
    clear h h0 h1
    obtain ⟨x0, x1, x2, x3, x4, hxs⟩ := row5 hx
    go_enter Try.func15, Try.ntmps15
    go_wp2_with (go_at_call 33; (with_reducible refine (cI _ hu).mono ?_); rintro e w1 ⟨rfl, hb1⟩; replace hu := hu.call hb1; clear hb1)
    go_ret
    exact ⟨rfl, hu⟩
  rw [nd_other h0 h1 h2]
  have b0 : (kd == 0) = false := by rw [beq_eq_false_iff_ne]; exact h0
  have b1 : (kd == 1) = false := by rw [beq_eq_false_iff_ne]; exact h1
  have b2 : (kd == 2) = false := by rw [beq_eq_false_iff_ne]; exact h2
  clear h h0 h1 h2
  obtain ⟨x0, x1, x2, x3, x4, hxs⟩ := row5 hx
  go_enter Try.func15, Try.ntmps15
  go_wp2_with fail
  go_ret
  exact ⟨rfl, hu⟩

theorem pos_step {S : List Sp} {k : Nat} {p o f m : Int} (h : S[k]? = some ⟨p, o, f, m⟩) (p' o' f' m' : Int) : pos ((S.take (k + 1)).map Sp.el) (p', o', f') m' = pos ((S.take k).map Sp.el) (p', o', f') m' + (if aheadS p' o' f' m' p o f m then 0 else 1) := by
  have hk : k < S.length := (List.getElem?_eq_some_iff.1 h).1
  have hA : aheadS p' o' f' m' p o f m = decide (sLt (p', o', f') m' (p, o, f) m) := ahead_rise p' o' f' m' 0 { data := #[] } p o f m 0 { data := #[] }
  rw [List.take_succ_eq_append_getElem hk, List.map_append, pos, List.countP_append, (List.getElem?_eq_some_iff.1 h).2, hA]
  show _ = pos _ _ _ + _
  unfold pos
  congr 1
  simp only [List.map_cons, List.map_nil, List.countP_cons, List.countP_nil, Sp.el, El.key]
  by_cases hs : sLt (p', o', f') m' (p, o, f) m
  · simp [hs]
  · simp [hs]

set_option maxRecDepth 100000 in
set_option maxHeartbeats 4000000 in
theorem refKid_any (kd : Int) (A1 A2 A3 A4 : Option Addr) (c1 c2 c3 c4 : Nat) (E : List El) (K : List Int) (S : List Sp) (T : List Int) (p' o' f' m' : Int) (w : World) (hns : S.length ≤ 400) (hLS : LiesS w A3 S) :
    Calls Try.prog 20 #[.agg #[.int .i64 kd, .slice A1 E.length c1, .slice A2 K.length c2, .slice A3 S.length c3, .slice A4 T.length c4], .agg #[.int .i64 p', .int .i64 o', .int .i64 f', .int .i64 m']] w fun e w' => e = .returned (.int .i64 (ndKid S p' o' f' m')) ∧ Calm w w' := by
  have hx := heap_past (.cells #[.int .i64 p', .int .i64 o', .int .i64 f', .int .i64 m'] 38) (heap_new w (.cells #[.int .i64 kd, .slice A1 E.length c1, .slice A2 K.length c2, .slice A3 S.length c3, .slice A4 T.length c4] 34))
  have hy := (show (((w.alloc (.cells #[.int .i64 kd, .slice A1 E.length c1, .slice A2 K.length c2, .slice A3 S.length c3, .slice A4 T.length c4] 34)).alloc (.cells #[.int .i64 p', .int .i64 o', .int .i64 f', .int .i64 m'] 38)).heap[w.heap.size + 1]? = some (.cells #[.int .i64 p', .int .i64 o', .int .i64 f', .int .i64 m'] 38 (0, 0))) from by simpa using heap_new (w.alloc (.cells #[.int .i64 kd, .slice A1 E.length c1, .slice A2 K.length c2, .slice A3 S.length c3, .slice A4 T.length c4] 34)) (.cells #[.int .i64 p', .int .i64 o', .int .i64 f', .int .i64 m'] 38))
  have hu := ((Calm.refl w).alloc (.cells #[.int .i64 kd, .slice A1 E.length c1, .slice A2 K.length c2, .slice A3 S.length c3, .slice A4 T.length c4] 34)).alloc (.cells #[.int .i64 p', .int .i64 o', .int .i64 f', .int .i64 m'] 38)
  have HL := Lib.hid hLS
  obtain ⟨x0, x1, x2, x3, x4, hxs⟩ := row5 hx
  obtain ⟨y0, y1, y2, y3, hys⟩ := row4 hy
  clear hLS hx
  go_enter Try.func20, Try.ntmps20
  go_wp2_with fail
  go_loopw [5, 11] (fun t i wr => ∃ k : Nat, k ≤ S.length ∧ i = .int .i64 k ∧ t = .int .i64 (pos ((S.take k).map Sp.el) (p', o', f') m') ∧ Calm w wr ∧ wr.heap[w.heap.size + 1]? = some (.cells #[.int .i64 p', .int .i64 o', .int .i64 f', .int .i64 m'] 38 (0, 0))) (fun _ i _ => S.length - (intOf i).toNat)
  case atStart => exact ⟨0, Nat.zero_le _, rfl, rfl, hu, hy⟩
  case round =>
    obtain ⟨k, hk, rfl, rfl, hz, hy2⟩ := hrel
    clear x0 x1 x2 x3 x4 hxs y0 y1 y2 y3 hys hy hu
    by_cases hlt : k < S.length
    rotate_left
    · have K1 : Hid (pos ((S.take k).map Sp.el) (p', o', f') m' = ndKid S p' o' f' m') := by show _ = _; rw [List.take_of_length_le (by omega)]; rfl
      go_wp2_with fail
      go_ret
      exact ⟨by rw [← K1.out]; rfl, hz⟩
    obtain ⟨b, q, p, o, f, m, rfl, hb, HE, hm, e0, e1, e2, e3⟩ := (HL.out.calm hz).get hlt
    have K1 := Lib.hid (pos_step HE.out p' o' f' m')
    have hpl := pos_le ((S.take k).map Sp.el) (p', o', f') m'
    rw [List.length_map, List.length_take] at hpl
    generalize pos ((S.take k).map Sp.el) (p', o', f') m' = n0 at K1 hpl ⊢
    have hn9 : (n0 : Int) ≤ 400 := by omega
    have cA := fun u => aheadSpot_any p' o' f' m' p o f m u
    have hg9 := (row4 hy2).2.2.2.2
    obtain ⟨y0, y1, y2, y3, hys⟩ := row4 hy2
    cases hr : aheadS p' o' f' m' p o f m
    · rw [hr] at cA K1
      go_wp2_with (go_at_call 42; (with_reducible refine (cA _).mono ?_); rintro e w1 ⟨rfl, hb1⟩; have hy3 := (hb1.block (by simp; omega)).trans (heap_past _ hy2))
      go_roundw
      case rel => exact ⟨k + 1, by omega, by go_num, by rw [K1.out]; go_num, (hz.alloc _).call hb1, hy3⟩
      case measure => simp [intOf]; omega
    · rw [hr] at cA K1
      go_wp2_with (go_at_call 42; (with_reducible refine (cA _).mono ?_); rintro e w1 ⟨rfl, hb1⟩; have hy3 := (hb1.block (by simp; omega)).trans (heap_past _ hy2))
      go_roundw
      case rel => exact ⟨k + 1, by omega, by go_num, by rw [K1.out]; rfl, (hz.alloc _).call hb1, hy3⟩
      case measure => simp [intOf]; omega
end Go.Proofs.Ytimfjjnlbfcccaa
