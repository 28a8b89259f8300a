/- node.hasKids, node.checkFree. -/
import Derived.Test.YtccfcloekjogkaaMemN
namespace Go.Proofs.Ytccfcloekjogkaa
open Go.RowKit

set_option maxRecDepth 100000 in
set_option maxHeartbeats 2000000 in
theorem hasKids_any (kd : Int) (A1 A2 A3 A4 : Option Addr) (c1 c2 c3 c4 : Nat) (E : List El) (K : List Int) (S : List Sp) (T : List Int) (w : World) (hk : K.length ≤ 9223372036854775807) (hs : S.length ≤ 9223372036854775807) (ht : T.length ≤ 9223372036854775807) :
    Calls Try.prog 126 #[.agg #[.int .i64 kd, .slice A1 E.length c1, .slice A2 K.length c2, .slice A3 S.length c3, .slice A4 T.length c4]] w fun e w' => e = .returned (.bool (decide (0 < K.length ∨ 0 < S.length ∨ 0 < T.length))) ∧ Calm w w' := by
  have hx := heap_new w (.cells #[.int .i64 kd, .slice A1 E.length c1, .slice A2 K.length c2, .slice A3 S.length c3, .slice A4 T.length c4] 59)
  have hu := (Calm.refl w).alloc (.cells #[.int .i64 kd, .slice A1 E.length c1, .slice A2 K.length c2, .slice A3 S.length c3, .slice A4 T.length c4] 59)
  obtain ⟨x0, x1, x2, x3, x4, hxs⟩ := row5 hx
  clear hx
  generalize K.length = nk at *
  generalize S.length = ns at *
  generalize T.length = nt at *
  go_enter Try.func126, Try.ntmps126
  go_wp2
  all_goals
    go_ret
    exact ⟨ret_bool (Bool.eq_iff_iff.2 (by simp at * <;> omega)), (Calm.refl _).alloc _⟩

set_option maxRecDepth 100000 in
set_option maxHeartbeats 2000000 in
theorem checkFree_any (kd : Int) (A1 A2 A3 A4 : Option Addr) (c1 c2 c3 c4 : Nat) (E : List El) (K : List Int) (S : List Sp) (T : List Int) (w : World) (he : E.length ≤ 9223372036854775807) (hk : K.length ≤ 9223372036854775807) (hs : S.length ≤ 9223372036854775807) (ht : T.length ≤ 9223372036854775807) :
    Calls Try.prog 99 #[.agg #[.int .i64 kd, .slice A1 E.length c1, .slice A2 K.length c2, .slice A3 S.length c3, .slice A4 T.length c4]] w fun e w' => e = .returned (.int .i64 (freeErr E K S T)) ∧ Calm w w' := by
  have hx := heap_new w (.cells #[.int .i64 kd, .slice A1 E.length c1, .slice A2 K.length c2, .slice A3 S.length c3, .slice A4 T.length c4] 59)
  have hu := (Calm.refl w).alloc (.cells #[.int .i64 kd, .slice A1 E.length c1, .slice A2 K.length c2, .slice A3 S.length c3, .slice A4 T.length c4] 59)
  have cH := fun u => hasKids_any kd A1 A2 A3 A4 c1 c2 c3 c4 E K S T u hk hs ht
  have hG : Hid (freeErr E K S T = if 0 < E.length ∨ decide (0 < K.length ∨ 0 < S.length ∨ 0 < T.length) = true then 3 else 0) := by show _ = _; unfold freeErr; simp
  generalize freeErr E K S T = R at hG ⊢
  generalize decide (0 < K.length ∨ 0 < S.length ∨ 0 < T.length) = b at cH hG
  obtain ⟨x0, x1, x2, x3, x4, hxs⟩ := row5 hx
  clear hx
  generalize E.length = ne at *
  rcases Nat.eq_zero_or_pos ne with rfl | h0
  · cases b
    all_goals
      go_enter Try.func99, Try.ntmps99
      go_wp2_with (go_at_call 126; (with_reducible refine (cH _).mono ?_); rintro e w1 ⟨rfl, hb1⟩; replace hu := hu.call hb1; clear hb1)
      go_ret
      exact ⟨ret_int (by rw [hG.out]; simp), hu⟩
  · go_enter Try.func99, Try.ntmps99
    go_wp2_with fail
    go_ret
    exact ⟨ret_int (by rw [hG.out]; simp [h0]), hu⟩
end Go.Proofs.Ytccfcloekjogkaa
