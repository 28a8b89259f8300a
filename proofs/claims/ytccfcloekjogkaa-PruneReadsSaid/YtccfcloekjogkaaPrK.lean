/- prune.without, prune.check, prune.Kept. -/
import Derived.Test.YtccfcloekjogkaaPrI
namespace Go.Proofs.Ytccfcloekjogkaa
open Go.RowKit

set_option maxRecDepth 100000 in
set_option maxHeartbeats 8000000 in
theorem without_any (A A2 : Option Addr) (d d2 : Nat) (l : List El) (keep : List Int) (n : Int) (w : World) (hn : n ≤ 9223372036854775807) (hl : l.length ≤ 3200) (hL : Lies w A l) (hk2 : keep.length ≤ 9223372036854775807) (hK : LiesI w A2 keep) :
    Calls Try.prog 70 #[.slice A l.length d, .slice A2 keep.length d2, .int .i64 n] w fun e w' => ∃ v, e = .returned v ∧ OwnR w.heap.size w' v (withoutR l keep n) ∧ Calm w w' := by
  have HL := Lib.hid hL
  have HK := Lib.hid hK
  clear hL hK
  go_enter Try.func70, Try.ntmps70
  go_wp2_with fail
  go_loopw [2, 7, 12] (fun nv v i wr => ∃ (k : Nat) (n' : Int) (pre : List El), k ≤ l.length ∧ nv = .int .i64 n' ∧ i = .int .i64 k ∧ n' ≤ 9223372036854775807 ∧ pre.length ≤ k ∧ Calm w wr ∧ Hid (OwnR w.heap.size wr v pre) ∧ Hid (pre ++ withoutR (l.drop k) keep n' = withoutR l keep n)) (fun _ _ i _ => l.length - (intOf i).toNat)
  case atStart => exact ⟨0, n, [], Nat.zero_le _, rfl, rfl, hn, Nat.le_refl _, Calm.refl _, show OwnR _ _ _ _ from OwnR.nil _ _, show _ = _ from rfl⟩
  case round =>
    obtain ⟨k, n', pre, hk, rfl, rfl, hn', hpl, hur, ho, hW⟩ := hrel
    by_cases hlt : k < l.length
    rotate_left
    · have K : Hid (pre = withoutR l keep n) := show _ = _ by
        have := hW.out
        rw [List.drop_eq_nil_of_le (by omega)] at this
        simpa [withoutR] using this
      rw [K.out] at ho
      clear K hW
      go_wp2_with fail
      go_ret
      exact ⟨_, rfl, ho.out, hur⟩
    obtain ⟨b, q, p, o, f, m, g, s, rfl, hb, HE, hm, c0, c1, c2, c3, c4, c5⟩ := (HL.out.calm hur).get hlt
    have hW2 := hW.out
    rw [List.drop_eq_getElem_cons hlt, (List.getElem?_eq_some_iff.1 HE.out).2] at hW2
    rw [without_cons] at hW2
    have hz : (wr.alloc (.cells #[.int .i64 p, .int .i64 o, .int .i64 f, .int .i64 m, .int .i64 g, .string s] 33)).heap[wr.heap.size]? = some (.cells #[.int .i64 p, .int .i64 o, .int .i64 f, .int .i64 m, .int .i64 g, .string s] 33 (0, 0)) := heap_new _ _
    replace ho := Lib.hid (ho.out.calm ((Calm.refl wr).alloc (.cells #[.int .i64 p, .int .i64 o, .int .i64 f, .int .i64 m, .int .i64 g, .string s] 33)))
    replace hur := hur.alloc (.cells #[.int .i64 p, .int .i64 o, .int .i64 f, .int .i64 m, .int .i64 g, .string s] 33)
    obtain ⟨z0, z1, z2, z3, z4, z5, hzs⟩ := row6 hz
    have cR := fun u (hu : Calm w u) => retained_any A2 d2 keep p o f m g s u hk2 (HK.out.calm hu)
    clear hW
    by_cases h0 : 0 < n'
    rotate_left
    · rw [if_neg (fun h => h0 h.1)] at hW2
      have HW := Lib.hid hW2
      clear hW2 cR
      clear z0 z1 z2 z3 z4 z5 hzs
      go_upto_region 5 with fail
      generalize wr.alloc (.cells #[.int .i64 p, .int .i64 o, .int .i64 f, .int .i64 m, .int .i64 g, .string s] 33) = wc at hur ho hz ⊢
      obtain ⟨z0, z1, z2, z3, z4, z5, hzs⟩ := row6 hz
      go_wp2_with (at_builtin; refine wpList_append_el rfl _ _ rfl _ _ _ rfl (ho.out.calm ((Calm.refl _).alloc _)) _ _ p o f m g s _ rfl (heap_new _ _) (by omega) (by have := hur.size; simp at this ⊢; omega) ?_; intro v' w9 ho9 hc9; have hur9 := hc9 _ (Nat.le_refl _) (hur.alloc _))
      have HO := Lib.hid ho9
      clear ho9 hc9
      go_roundw
      case rel => exact ⟨k + 1, n', pre ++ [⟨p, o, f, m, g, s⟩], by omega, rfl, by go_num, hn', by simp; omega, hur9, HO, show _ = _ by rw [← HW.out]; simp⟩
      case measure => simp [intOf]; omega
    · cases hkp : isKept keep ⟨p, o, f, m, g, s⟩
      · rw [if_pos ⟨h0, hkp⟩] at hW2
        have HW := Lib.hid hW2
        rw [hkp] at cR
        clear hW2 hkp
        go_wp2_with (go_at_call 98; refine (cR _ hur).mono ?_; rintro e w1 ⟨rfl, hb1⟩; replace ho := Lib.hid (ho.out.calm hb1); replace hur := hur.call hb1; clear hb1)
        go_roundw
        case rel => exact ⟨k + 1, n' - 1, pre, by omega, by go_num, by go_num, by omega, by omega, hur, ho, show _ = _ from HW.out⟩
        case measure => simp [intOf]; omega
      · rw [if_neg (fun h => by rw [hkp] at h; cases h.2)] at hW2
        have HW := Lib.hid hW2
        rw [hkp] at cR
        clear hW2 hkp
        go_wp2_with (first
          | (go_at_call 98; refine (cR _ hur).mono ?_; rintro e w1 ⟨rfl, hb1⟩; replace hz := (hb1.block (row6 hz).2.2.2.2.2.2).trans hz; replace ho := Lib.hid (ho.out.calm hb1); replace hur := hur.call hb1; clear hb1; obtain ⟨z0, z1, z2, z3, z4, z5, hzs⟩ := row6 hz)
          | (at_builtin; refine wpList_append_el rfl _ _ rfl _ _ _ rfl (ho.out.calm ((Calm.refl _).alloc _)) _ _ p o f m g s _ rfl (heap_new _ _) (by omega) (by have := hur.size; simp at this ⊢; omega) ?_; intro v' w9 ho9 hc9; have hur9 := hc9 _ (Nat.le_refl _) (hur.alloc _)))
        have HO := Lib.hid ho9
        clear ho9 hc9
        go_roundw
        case rel => exact ⟨k + 1, n', pre ++ [⟨p, o, f, m, g, s⟩], by omega, rfl, by go_num, hn', by simp; omega, hur9, HO, show _ = _ by rw [← HW.out]; simp⟩
        case measure => simp [intOf]; omega
end Go.Proofs.Ytccfcloekjogkaa
