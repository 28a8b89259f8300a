/- annalref.Node whole, annalref.Kid. -/
import Derived.Test.YtccfcloekjogkaaRefN3
namespace Go.Proofs.Ytccfcloekjogkaa
open Go.RowKit

set_option maxRecDepth 100000 in
set_option maxHeartbeats 4000000 in
theorem refNode_any (kd : Int) (A1 A2 A3 A4 : Option Addr) (c1 c2 c3 c4 : Nat) (E : List El) (K : List Int) (S : List Sp) (T : List Int) (w : World) (h : NdAt w A1 A2 A3 A4 E K S T) (hcap : E.length ≤ c1) (he : E.length ≤ 1125899906842624) (hk : K.length ≤ 1125899906842624) (hs : S.length ≤ 1125899906842624) (ht : T.length ≤ 1125899906842624) :
    Calls Try.prog 54 #[.agg #[.int .i64 kd, .slice A1 E.length c1, .slice A2 K.length c2, .slice A3 S.length c3, .slice A4 T.length c4]] w fun e w' => e = .returned (.int .i64 (ndErr kd E K S T)) ∧ Calm w w' := by
  by_cases h0 : kd = 0
  · rw [show ndErr kd E K S T = freeErr E K S T from by rw [h0, nd_free]]
    exact refNode0_any kd A1 A2 A3 A4 c1 c2 c3 c4 E K S T w h0 he hk hs ht
  by_cases h1 : kd = 1
  · rw [show ndErr kd E K S T = leafErr E K S T from by rw [h1, nd_leaf]]
    exact refNode1_any kd A1 A2 A3 A4 c1 c2 c3 c4 E K S T w h1 h hcap hk hs ht
  have hx := heap_new w (.cells #[.int .i64 kd, .slice A1 E.length c1, .slice A2 K.length c2, .slice A3 S.length c3, .slice A4 T.length c4] 59)
  have hu := (Calm.refl w).alloc (.cells #[.int .i64 kd, .slice A1 E.length c1, .slice A2 K.length c2, .slice A3 S.length c3, .slice A4 T.length c4] 59)
  by_cases h2 : kd = 2
  · rw [show ndErr kd E K S T = innerErr E K S T from by rw [h2, nd_inner]]
    have cI := fun u (hu : Calm w u) => refInner_any kd A1 A2 A3 A4 c1 c2 c3 c4 E K S T u (h.calm hu) hs
    subst h2
    clear h h0 h1
    obtain ⟨x0, x1, x2, x3, x4, hxs⟩ := row5 hx
    go_enter Try.func54, Try.ntmps54
    go_wp2_with (go_at_call 88; (with_reducible refine (cI _ hu).mono ?_); rintro e w1 ⟨rfl, hb1⟩; replace hu := hu.call hb1; clear hb1)
    go_ret
    exact ⟨rfl, hu⟩
  rw [nd_other h0 h1 h2]
  have b0 : (kd == 0) = false := by rw [beq_eq_false_iff_ne]; exact h0
  have b1 : (kd == 1) = false := by rw [beq_eq_false_iff_ne]; exact h1
  have b2 : (kd == 2) = false := by rw [beq_eq_false_iff_ne]; exact h2
  clear h h0 h1 h2
  obtain ⟨x0, x1, x2, x3, x4, hxs⟩ := row5 hx
  go_enter Try.func54, Try.ntmps54
  go_wp2_with fail
  go_ret
  exact ⟨rfl, hu⟩

set_option maxRecDepth 100000 in
theorem pos_step {S : List Sp} {k : Nat} {p o f m : Int} (h : S[k]? = some ⟨p, o, f, m⟩) (p' o' f' m' : Int) : pos ((S.take (k + 1)).map Sp.el) (p', o', f') m' = pos ((S.take k).map Sp.el) (p', o', f') m' + (if aheadS p' o' f' m' p o f m then 0 else 1) := by
  have hk : k < S.length := (List.getElem?_eq_some_iff.1 h).1
  have hA : aheadS p' o' f' m' p o f m = decide (sLt (p', o', f') m' (p, o, f) m) := ahead_rise p' o' f' m' 0 { data := #[] } p o f m 0 { data := #[] }
  rw [List.take_succ_eq_append_getElem hk, List.map_append, pos, List.countP_append, (List.getElem?_eq_some_iff.1 h).2, hA]
  show _ = pos _ _ _ + _
  unfold pos
  congr 1
  simp only [List.map_cons, List.map_nil, List.countP_cons, List.countP_nil, Sp.el, El.key]
  by_cases hs : sLt (p', o', f') m' (p, o, f) m
  · simp [hs]
  · simp [hs]

end Go.Proofs.Ytccfcloekjogkaa
