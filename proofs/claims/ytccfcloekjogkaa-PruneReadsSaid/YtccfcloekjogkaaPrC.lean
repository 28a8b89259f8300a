/- prune.check, prune.Kept. -/
import Derived.Test.YtccfcloekjogkaaPrK
namespace Go.Proofs.Ytccfcloekjogkaa
open Go.RowKit

set_option maxRecDepth 100000 in
theorem OwnR.weaker {B B' : Nat} {w : World} {v : Value} {l : List El} (h : OwnR B w v l) (hb : B' ≤ B) : OwnR B' w v l := ⟨h.1, h.2.imp id fun ⟨g, cap, cur, h1, h2, h3⟩ => ⟨g, cap, cur, h1, Nat.le_trans hb h2, h3⟩⟩
def KpEnd (L : List El) (n : Int) (w : World) (e : Ending) (w' : World) : Prop := ∃ v, e = .returned (.tuple #[v, .int .i64 n]) ∧ OwnR w.heap.size w' v L ∧ Calm w w'
set_option maxRecDepth 100000 in
set_option maxHeartbeats 8000000 in
theorem pruneCheck_any (A A2 : Option Addr) (d d2 : Nat) (l : List El) (keep : List Int) (w : World) (hn : l.length ≤ 9223372036854775807) (hL : Lies w A l) (hk2 : keep.length ≤ 9223372036854775807) (hK : LiesI w A2 keep) :
    Calls Try.prog 69 #[.slice A l.length d, .slice A2 keep.length d2] w fun e w' => e = .returned (.int .i64 (keepErr l keep)) ∧ Calm w w' := by
  have cR := runCheck_any A d l w hn hL
  have HK := Lib.hid hK
  clear hL hK
  have hE : keepErr l keep = if runErr l = 0 then timesErr keep else runErr l := rfl
  generalize keepErr l keep = E at hE ⊢
  generalize runErr l = r at cR hE
  by_cases hr : r = 0
  rotate_left
  · rw [if_neg hr] at hE
    have b1 : (E != 0) = true := by rw [hE]; simpa using hr
    subst hE
    clear hr
    go_enter Try.func69, Try.ntmps69
    go_wp2_with (go_at_call 32; refine cR.mono ?_; rintro e w1 ⟨rfl, hb1⟩)
    go_ret
    exact ⟨rfl, hb1⟩
  rw [if_pos hr] at hE
  subst hr
  by_cases hbig : 20 < keep.length
  · have : E = 2 := by rw [hE]; unfold timesErr; rw [if_pos hbig]
    subst this
    clear hE
    go_enter Try.func69, Try.ntmps69
    go_wp2_with (go_at_call 32; refine cR.mono ?_; rintro e w1 ⟨rfl, hb1⟩)
    go_ret
    exact ⟨rfl, hb1⟩
  unfold timesErr at hE
  rw [if_neg hbig] at hE
  have HE := Lib.hid hE
  clear hE
  go_enter Try.func69, Try.ntmps69
  go_wp2_with (go_at_call 32; refine cR.mono ?_; rintro e w1 ⟨rfl, hb1⟩)
  go_loopw [18] (fun i wr => ∃ k : Nat, k ≤ keep.length ∧ i = .int .i64 k ∧ Calm w wr ∧ Hid (∀ j (hj : j < keep.length), j < k → 0 ≤ keep[j] ∧ keep[j] ≤ 2147483647)) (fun i _ => keep.length - (intOf i).toNat)
  case atStart => exact ⟨0, Nat.zero_le _, rfl, hb1, show ∀ _, _ from fun j hj h => absurd h (Nat.not_lt_zero _)⟩
  case round =>
    obtain ⟨k, hk, rfl, hu, hN⟩ := hrel
    by_cases hlt : k < keep.length
    rotate_left
    · have K : Hid (E = 0) := show _ = _ by
        rw [HE.out, if_pos]
        intro t ht
        obtain ⟨j, hj, rfl⟩ := List.getElem_of_mem ht
        exact hN.out j hj (by omega)
      go_wp2_with fail
      go_ret
      exact ⟨by rw [K.out]; rfl, hu⟩
    obtain ⟨b, q, t, rfl, hb, HT, c0⟩ := (HK.out.calm hu).get hlt
    have hTT := (List.getElem?_eq_some_iff.1 HT.out).2
    by_cases ht : 0 ≤ t ∧ t ≤ 2147483647
    rotate_left
    · have K : Hid (E = 9) := show _ = _ by
        rw [HE.out, if_neg]
        exact fun h => ht (h t (by rw [← hTT]; exact List.getElem_mem hlt))
      clear hTT
      have hc : t < 0 ∨ (¬ t < 0 ∧ 2147483647 < t) := by omega
      clear ht
      rcases hc with h1 | ⟨h1, h2⟩
      all_goals
        go_wp2_with fail
        go_ret
        exact ⟨by rw [K.out]; rfl, hu⟩
    · obtain ⟨t1, t2⟩ := ht
      have hN2 : Hid (∀ j (hj : j < keep.length), j < k + 1 → 0 ≤ keep[j] ∧ keep[j] ≤ 2147483647) := show ∀ _, _ from fun j hj h => by
        rcases Nat.lt_or_ge j k with h2 | h2
        · exact hN.out j hj h2
        · rw [show keep[j] = keep[k] from by congr 1; omega, hTT]; exact ⟨t1, t2⟩
      clear hTT
      have t1' : ¬ t < 0 := by omega
      have t2' : ¬ 2147483647 < t := by omega
      go_wp2_with fail
      go_roundw
      case rel => exact ⟨k + 1, by omega, by go_num, hu, hN2⟩
      case measure => simp [intOf]; omega
set_option maxRecDepth 100000 in
set_option maxHeartbeats 8000000 in
theorem kept_any (A A2 : Option Addr) (d d2 : Nat) (l : List El) (keep : List Int) (w : World) (hn : l.length ≤ 9223372036854775807) (hL : Lies w A l) (hk2 : keep.length ≤ 9223372036854775807) (hK : LiesI w A2 keep) :
    Calls Try.prog 36 #[.slice A l.length d, .slice A2 keep.length d2] w (KpEnd (if keepErr l keep = 0 then keptR l keep else []) (keepErr l keep) w) := by
  have cC := pruneCheck_any A A2 d d2 l keep w hn hL hk2 hK
  have cW : Good l → ∀ u, Calm w u → Calls Try.prog 70 #[.slice A l.length d, .slice A2 keep.length d2, .int .i64 l.length] u fun e w' => ∃ v, e = .returned v ∧ OwnR u.heap.size w' v (keptR l keep) ∧ Calm u w' := fun hG u hu => by
    have := without_any A A2 d d2 l keep l.length u (by omega) (by have := hG.1; omega) (hL.calm hu) hk2 (hK.calm hu)
    rw [without_all keep l _ (by omega)] at this
    exact this
  have hz : keepErr l keep = 0 → Good l := fun h => by
    unfold keepErr at h
    split at h
    · rename_i h0; exact runErr_zero.1 h0
    · rename_i h0; exact absurd h h0
  clear hL hK
  generalize keepErr l keep = E at cC hz ⊢
  generalize keptR l keep = R at cW ⊢
  by_cases hE : E = 0
  · rw [if_pos hE]
    have cW := cW (hz hE)
    subst hE
    clear hz
    go_enter Try.func36, Try.ntmps36
    go_wp2_with (first
      | (go_at_call 69; refine cC.mono ?_; rintro e w1 ⟨rfl, hb1⟩)
      | (go_at_call 70; refine (cW _ hb1).mono ?_; rintro e w2 ⟨v, rfl, ho, hb2⟩; have HO := Lib.hid ho; clear ho))
    go_ret2
    exact ⟨_, rfl, OwnR.weaker HO.out hb1.size, hb1.call hb2⟩
  · rw [if_neg hE]
    have b1 : (E != 0) = true := by simpa using hE
    clear hz cW hE
    go_enter Try.func36, Try.ntmps36
    go_wp2_with (go_at_call 69; refine cC.mono ?_; rintro e w1 ⟨rfl, hb1⟩)
    go_ret2
    exact ⟨_, rfl, OwnR.nil _ _, hb1⟩
end Go.Proofs.Ytccfcloekjogkaa
