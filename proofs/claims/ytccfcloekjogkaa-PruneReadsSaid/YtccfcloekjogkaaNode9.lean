/- node.Kid. -/
import Derived.Test.YtccfcloekjogkaaNode8
namespace Go.Proofs.Ytccfcloekjogkaa
open Go.RowKit

def kidErr (kd : Int) (E : List El) (K : List Int) (S : List Sp) (T : List Int) : Int := if ndErr kd E K S T = 0 then (if kd = 2 then 0 else 3) else ndErr kd E K S T
def kidVal (kd : Int) (E : List El) (K : List Int) (S : List Sp) (T : List Int) (p o f m : Int) : Int := if kidErr kd E K S T = 0 then (ndKid S p o f m : Int) else 0
set_option maxRecDepth 100000 in
/-- What a right inner node is. -/
theorem inner_good {E : List El} {K : List Int} {S : List Sp} {T : List Int} (h : ndErr 2 E K S T = 0) : E.length = 0 ∧ 2 ≤ K.length ∧ K.length ≤ 8 ∧ S.length + 1 = K.length ∧ T.length = K.length ∧ (∀ y ∈ T, 0 ≤ y ∧ y ≤ 2147483647) ∧ (∀ e ∈ S.map Sp.el, e.err = 0) ∧ (S.map Sp.el).Pairwise Rise := by
  rw [nd_inner] at h
  unfold innerErr at h
  split at h
  · cases h
  · rename_i hF
    unfold formI at hF
    split at h
    · cases h
    · split at h
      · rename_i h2; exact absurd h h2
      · rename_i h2
        obtain ⟨h3, h4⟩ := elsErr_zero.1 h
        have h5 := (kidsErr_zero (by omega)).1 (Classical.not_not.1 h2)
        exact ⟨by omega, by omega, by omega, by omega, by omega, h5.2, h3, h4⟩
set_option maxRecDepth 100000 in
/-- What a right leaf is. -/
theorem leaf_good {E : List El} {K : List Int} {S : List Sp} {T : List Int} (h : ndErr 1 E K S T = 0) : K.length = 0 ∧ S.length = 0 ∧ T.length = 0 ∧ E.length ≤ 8 ∧ (∀ e ∈ E, e.err = 0) ∧ E.Pairwise Rise := by
  rw [nd_leaf] at h
  unfold leafErr at h
  split at h
  · cases h
  · split at h
    · cases h
    · obtain ⟨h3, h4⟩ := elsErr_zero.1 h
      exact ⟨by omega, by omega, by omega, by omega, h3, h4⟩
set_option maxRecDepth 100000 in
theorem free_good {E : List El} {K : List Int} {S : List Sp} {T : List Int} (h : ndErr 0 E K S T = 0) : E.length = 0 ∧ K.length = 0 ∧ S.length = 0 ∧ T.length = 0 := by
  rw [nd_free] at h
  unfold freeErr at h
  split at h
  · cases h
  · omega
set_option maxRecDepth 100000 in
theorem nd_kinds {kd : Int} {E : List El} {K : List Int} {S : List Sp} {T : List Int} (h : ndErr kd E K S T = 0) : kd = 0 ∨ kd = 1 ∨ kd = 2 := by
  by_cases h0 : kd = 0
  · exact Or.inl h0
  by_cases h1 : kd = 1
  · exact Or.inr (Or.inl h1)
  by_cases h2 : kd = 2
  · exact Or.inr (Or.inr h2)
  rw [nd_other h0 h1 h2] at h
  cases h

set_option maxRecDepth 100000 in
set_option maxHeartbeats 4000000 in
theorem nodeKid_any (kd : Int) (A1 A2 A3 A4 : Option Addr) (c1 c2 c3 c4 : Nat) (E : List El) (K : List Int) (S : List Sp) (T : List Int) (p o f m : Int) (w : World) (h : NdAt w A1 A2 A3 A4 E K S T) :
    Calls Try.prog 120 #[.agg #[.int .i64 kd, .slice A1 E.length c1, .slice A2 K.length c2, .slice A3 S.length c3, .slice A4 T.length c4], .agg #[.int .i64 p, .int .i64 o, .int .i64 f, .int .i64 m]] w fun e w' => e = .returned (.tuple #[.int .i64 (kidVal kd E K S T p o f m), .int .i64 (kidErr kd E K S T)]) ∧ Calm w w' := by
  have hx := heap_past (.cells #[.int .i64 p, .int .i64 o, .int .i64 f, .int .i64 m] 47) (heap_new w (.cells #[.int .i64 kd, .slice A1 E.length c1, .slice A2 K.length c2, .slice A3 S.length c3, .slice A4 T.length c4] 59))
  have hy := (show (((w.alloc (.cells #[.int .i64 kd, .slice A1 E.length c1, .slice A2 K.length c2, .slice A3 S.length c3, .slice A4 T.length c4] 59)).alloc (.cells #[.int .i64 p, .int .i64 o, .int .i64 f, .int .i64 m] 47)).heap[w.heap.size + 1]? = some (.cells #[.int .i64 p, .int .i64 o, .int .i64 f, .int .i64 m] 47 (0, 0))) from by simpa using heap_new (w.alloc (.cells #[.int .i64 kd, .slice A1 E.length c1, .slice A2 K.length c2, .slice A3 S.length c3, .slice A4 T.length c4] 59)) (.cells #[.int .i64 p, .int .i64 o, .int .i64 f, .int .i64 m] 47))
  have hu := ((Calm.refl w).alloc (.cells #[.int .i64 kd, .slice A1 E.length c1, .slice A2 K.length c2, .slice A3 S.length c3, .slice A4 T.length c4] 59)).alloc (.cells #[.int .i64 p, .int .i64 o, .int .i64 f, .int .i64 m] 47)
  have cC := fun u (hu : Calm w u) => nodeCheck_any kd A1 A2 A3 A4 c1 c2 c3 c4 E K S T u (h.calm hu)
  by_cases he : ndErr kd E K S T = 0
  rotate_left
  · have b1 : (ndErr kd E K S T != 0) = true := by simpa using he
    have k1 : kidErr kd E K S T = ndErr kd E K S T := if_neg he
    have k2 : kidVal kd E K S T p o f m = 0 := by unfold kidVal; rw [k1, if_neg he]
    rw [k1, k2]
    generalize ndErr kd E K S T = R at cC b1 ⊢
    clear he k1 k2 hx hy
    go_enter Try.func120, Try.ntmps120
    go_wp2_with (go_at_call 72; (with_reducible refine (cC _ hu).mono ?_); rintro e w1 ⟨rfl, hb1⟩; replace hu := hu.call hb1; clear hb1)
    go_ret2
    exact ⟨rfl, hu⟩
  by_cases h2 : kd = 2
  rotate_left
  · have k1 : kidErr kd E K S T = 3 := by unfold kidErr; rw [if_pos he, if_neg h2]
    have k2 : kidVal kd E K S T p o f m = 0 := by unfold kidVal; rw [k1, if_neg (by decide)]
    rw [k1, k2]
    rw [he] at cC
    have b1 : (kd != 2) = true := by rw [bne_iff_ne]; exact h2
    clear he k1 k2 h2 hy
    go_enter Try.func120, Try.ntmps120
    go_wp2_with (go_at_call 72; (with_reducible refine (cC _ hu).mono ?_); rintro e w1 ⟨rfl, hb1⟩; replace hu := hu.call hb1; replace hx := (hb1.block (row5 hx).2.2.2.2.2).trans hx; clear hb1; obtain ⟨x0, x1, x2, x3, x4, hxs⟩ := row5 hx)
    go_ret2
    exact ⟨rfl, hu⟩
  subst h2
  have k1 : kidErr 2 E K S T = 0 := by unfold kidErr; rw [if_pos he, if_pos rfl]
  have k2 : kidVal 2 E K S T p o f m = (ndKid S p o f m : Int) := by unfold kidVal; rw [if_pos k1]
  rw [k1, k2]
  rw [he] at cC
  obtain ⟨g1, g2, g3, g4, g5, g6, g7, g8⟩ := inner_good he
  have C : ∀ u, Calm w u → BoxesN w.heap.size (w.heap.size + 1) 2 A1 A2 A3 A4 c1 c2 c3 c4 E K S T p o f m u → Calls Try.prog 122 #[.int .i64 S.length, .func (.func 134) #[] #[.pointer (some ⟨w.heap.size, 0, none⟩), .pointer (some ⟨w.heap.size + 1, 0, none⟩)]] u fun e w' => e = .returned (.int .i64 (ndKid S p o f m)) ∧ Calm u w' :=
    fun u hu hB => by
      have := searchN_any w.heap.size (w.heap.size + 1) 2 A1 A2 A3 A4 c1 c2 c3 c4 E K S T p o f m (S.map Sp.el) rfl u (by omega) (h.s.calm hu) g8 hB
      rw [List.length_map] at this
      exact this
  have hBx : Hid (BoxesN w.heap.size (w.heap.size + 1) 2 A1 A2 A3 A4 c1 c2 c3 c4 E K S T p o f m _) := Lib.hid ⟨hx, hy⟩
  generalize ndKid S p o f m = R at C ⊢
  clear he k1 k2 g1 g2 g3 g4 g5 g6 g7 g8 h hx hy
  go_enter Try.func120, Try.ntmps120
  go_wp2_with (first
    | (go_at_call 72; (with_reducible refine (cC _ hu).mono ?_); rintro e w1 ⟨rfl, hb1⟩; replace hu := hu.call hb1; have hB1 := hBx.out.calm hb1; replace hBx := Lib.hid hB1; clear hb1; obtain ⟨x0, x1, x2, x3, x4, hxs⟩ := row5 hB1.1; clear hB1)
    | (go_at_call 122; refine (C _ hu hBx.out).mono ?_; rintro e w1 ⟨rfl, hb1⟩; replace hu := hu.call hb1; clear hb1))
  go_ret2
  exact ⟨rfl, hu⟩
end Go.Proofs.Ytccfcloekjogkaa
