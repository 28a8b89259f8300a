/- annalref.Node. -/
import Derived.Test.YtccfcloekjogkaaRefN2
namespace Go.Proofs.Ytccfcloekjogkaa
open Go.RowKit

set_option maxRecDepth 100000 in
set_option maxHeartbeats 4000000 in
theorem refNode0_any (kd : Int) (A1 A2 A3 A4 : Option Addr) (c1 c2 c3 c4 : Nat) (E : List El) (K : List Int) (S : List Sp) (T : List Int) (w : World) (hkd : kd = 0) (he : E.length ≤ 1125899906842624) (hk : K.length ≤ 1125899906842624) (hs : S.length ≤ 1125899906842624) (ht : T.length ≤ 1125899906842624) :
    Calls Try.prog 54 #[.agg #[.int .i64 kd, .slice A1 E.length c1, .slice A2 K.length c2, .slice A3 S.length c3, .slice A4 T.length c4]] w fun e w' => e = .returned (.int .i64 (freeErr E K S T)) ∧ Calm w w' := by
  subst hkd
  have hG : Hid (freeErr E K S T = if 0 < E.length ∨ 0 < K.length ∨ 0 < S.length ∨ 0 < T.length then 3 else 0) := rfl
  generalize freeErr E K S T = R at hG ⊢
  have hx := heap_new w (.cells #[.int .i64 0, .slice A1 E.length c1, .slice A2 K.length c2, .slice A3 S.length c3, .slice A4 T.length c4] 59)
  have hu := (Calm.refl w).alloc (.cells #[.int .i64 0, .slice A1 E.length c1, .slice A2 K.length c2, .slice A3 S.length c3, .slice A4 T.length c4] 59)
  generalize E.length = ne at *
  generalize K.length = nk at *
  generalize S.length = ns at *
  generalize T.length = nt at *
  obtain ⟨x0, x1, x2, x3, x4, hxs⟩ := row5 hx
  clear hx
  have he' : (ne : Int) ≤ 1125899906842624 := by omega
  have hk' : (nk : Int) ≤ 1125899906842624 := by omega
  have hs' : (ns : Int) ≤ 1125899906842624 := by omega
  have ht' : (nt : Int) ≤ 1125899906842624 := by omega
  clear he hk hs ht
  by_cases h0 : (0 : Int) < (ne : Int) + nk + ns + nt
  · have hR : Hid (R = 3) := hG.out.trans (if_pos (by omega))
    clear hG
    go_enter Try.func54, Try.ntmps54
    go_wp2_with fail
    go_ret
    exact ⟨ret_int hR.out.symm, hu⟩
  · have hR : Hid (R = 0) := hG.out.trans (if_neg (by omega))
    have h0' : (ne : Int) + nk + ns + nt ≤ 0 := by omega
    clear hG h0
    go_enter Try.func54, Try.ntmps54
    go_wp2_with fail
    go_ret
    exact ⟨ret_int hR.out.symm, hu⟩

set_option maxRecDepth 100000 in
set_option maxHeartbeats 4000000 in
theorem refNode1_any (kd : Int) (A1 A2 A3 A4 : Option Addr) (c1 c2 c3 c4 : Nat) (E : List El) (K : List Int) (S : List Sp) (T : List Int) (w : World) (hkd : kd = 1) (h : NdAt w A1 A2 A3 A4 E K S T) (hcap : E.length ≤ c1) (hk : K.length ≤ 1125899906842624) (hs : S.length ≤ 1125899906842624) (ht : T.length ≤ 1125899906842624) :
    Calls Try.prog 54 #[.agg #[.int .i64 kd, .slice A1 E.length c1, .slice A2 K.length c2, .slice A3 S.length c3, .slice A4 T.length c4]] w fun e w' => e = .returned (.int .i64 (leafErr E K S T)) ∧ Calm w w' := by
  subst hkd
  have hx := heap_new w (.cells #[.int .i64 1, .slice A1 E.length c1, .slice A2 K.length c2, .slice A3 S.length c3, .slice A4 T.length c4] 59)
  have hu := (Calm.refl w).alloc (.cells #[.int .i64 1, .slice A1 E.length c1, .slice A2 K.length c2, .slice A3 S.length c3, .slice A4 T.length c4] 59)
  have hk' : (K.length : Int) ≤ 1125899906842624 := by omega
  have hs' : (S.length : Int) ≤ 1125899906842624 := by omega
  have ht' : (T.length : Int) ≤ 1125899906842624 := by omega
  have hne := h.ne
  obtain ⟨x0, x1, x2, x3, x4, hxs⟩ := row5 hx
  by_cases hB : 0 < K.length ∨ 0 < S.length ∨ 0 < T.length
  · have hG : Hid (3 = leafErr E K S T) := (if_pos hB).symm
    have h0 : (0 : Int) < (K.length : Int) + S.length + T.length := by omega
    clear hB hk hs ht hx h
    generalize K.length = nk at *
    generalize S.length = ns at *
    generalize T.length = nt at *
    go_enter Try.func54, Try.ntmps54
    go_wp2_with fail
    go_ret
    exact ⟨ret_int hG.out, hu⟩
  have h0 : (K.length : Int) + S.length + T.length ≤ 0 := by omega
  by_cases h8 : 8 < E.length
  · have hG : Hid (2 = leafErr E K S T) := by show _ = _; unfold leafErr; rw [if_neg hB, if_pos h8]
    have h8' : (8 : Int) < E.length := by omega
    clear hB h8 hk hs ht hx h
    generalize K.length = nk at *
    generalize S.length = ns at *
    generalize T.length = nt at *
    go_enter Try.func54, Try.ntmps54
    go_wp2_with fail
    go_ret
    exact ⟨ret_int hG.out, hu⟩
  have hG : Hid (leafErr E K S T = elsErr E) := by show _ = _; unfold leafErr; rw [if_neg hB, if_neg h8]
  have h8' : (E.length : Int) ≤ 8 := by omega
  have hL : Hid (Lies w A1 E) := h.e
  generalize leafErr E K S T = R at hG ⊢
  clear hB h8 hk hs ht h
  generalize K.length = nk at *
  generalize S.length = ns at *
  generalize T.length = nt at *
  go_enter Try.func54, Try.ntmps54
  go_wp2_with fail
  go_loopw [47] (fun i wr => ∃ k : Nat, k ≤ E.length ∧ i = .int .i64 k ∧ Calm w wr ∧ wr.heap[w.heap.size]? = some (.cells #[.int .i64 1, .slice A1 E.length c1, .slice A2 nk c2, .slice A3 ns c3, .slice A4 nt c4] 59 (0, 0)) ∧ NoStep E k) (fun i _ => E.length - (intOf i).toNat)
  case atStart => exact ⟨0, Nat.zero_le _, rfl, hu, hx, NoStep.zero E⟩
  case round =>
    obtain ⟨k, hk, rfl, hz, hy, hN⟩ := hrel
    clear x0 x1 x2 x3 x4 hxs hx hu
    by_cases hlt : k < E.length
    rotate_left
    · have K1 : Hid (0 = R) := (hN.good (by omega)).trans hG.out.symm
      go_wp2_with fail
      go_ret
      exact ⟨ret_int K1.out, hz⟩
    obtain ⟨b, q, p, o, f, m, g, s, rfl, hb, HE, hm, e0, e1, e2, e3, e4, e5⟩ := (hL.out.calm hz).get hlt
    by_cases he : elemErr p o f m g s.size = 0
    rotate_left
    · have b1 : (elemErr p o f m g s.size != 0) = true := by simpa using he
      have K1 : Hid (elemErr p o f m g s.size = R) := by
        have h1 := sStep_err HE.out (show El.err ⟨p, o, f, m, g, s⟩ ≠ 0 from he)
        show _ = _
        rw [hG.out, ← hN.bad (by rw [h1]; exact he) hlt, h1]; rfl
      clear he
      go_wp2_with (go_at_call 13; refine (refElem_any _ _ _ _ _ _ _ hm).mono ?_; rintro e w1 ⟨rfl, hb1⟩)
      go_ret
      exact ⟨ret_int K1.out, (hz.alloc _).call hb1⟩
    have b1 : (elemErr p o f m g s.size != 0) = false := by simpa using he
    have HE0 : Hid (elemErr p o f m g s.size = 0) := he
    clear he
    have hg9 := (row5 hy).2.2.2.2.2
    have hkc : (k : Int) + 1 ≤ (c1 : Int) := by omega
    have hkc2 : k + 1 ≤ c1 := by omega
    by_cases hk0 : k = 0
    · subst hk0
      have hN1 : NoStep E 1 := hN.succ (sStep_first HE.out HE0.out)
      simp only [Nat.zero_mul, Nat.add_zero] at e0 e1 e2 e3 e4 e5
      go_wp2_with (first
        | (go_at_call 13; refine (refElem_any _ _ _ _ _ _ _ hm).mono ?_; rintro e w1 ⟨rfl, hb1⟩; have hy1 := (hb1.block (by simp; omega)).trans (heap_past _ hy); obtain ⟨x0, x1, x2, x3, x4, hxs⟩ := row5 hy1)
        | (go_at_call 14; refine (rising1_any _ _ _).mono ?_; rintro e w2 ⟨rfl, hb2⟩))
      exact ⟨⟨1, by omega, rfl, ((hz.alloc _).call hb1).call hb2, (hb2.block hxs).trans hy1, hN1⟩, by simp [intOf]; omega⟩
    obtain ⟨p', o', f', m', g', s', HE', hm', d0, d1, d2, d3, d4, d5⟩ := (hL.out.calm hz).get2 (k := k - 1) (by omega)
    have hS := sStep_form HE.out HE0.out (by omega) HE'.out
    have hk1 : 1 ≤ k := by omega
    have hge := ahead_rise p' o' f' m' g' s' p o f m g s
    have z1 : IntKind.i64.wrap ((k : Int) - 1) = (k : Int) - 1 := IntWalk.i64_in _ (by omega)
    have z2 : ((k : Int) - 1).toNat = k - 1 := by omega
    have z3 : 0 ≤ (k : Int) - 1 := by omega
    have z5 : 1 ≤ (k : Int) := by omega
    have P0 : ElAt wr b (q + (k - 1) * 6) ⟨p', o', f', m', g', s'⟩ := ⟨d0, d1, d2, d3, d4, d5⟩
    have P1 : ElAt wr b (q + k * 6) ⟨p, o, f, m, g, s⟩ := ⟨e0, e1, e2, e3, e4, e5⟩
    rw [show q + k * 6 = q + (k - 1) * 6 + 6 from by omega] at P1
    clear d0 d1 d2 d3 d4 d5
    by_cases hF : Rise ⟨p', o', f', m', g', s'⟩ ⟨p, o, f, m, g, s⟩
    · rw [if_pos hF] at hS
      rw [decide_eq_true hF] at hge
      have hN1 : NoStep E (k + 1) := hN.succ hS
      by_cases hk2 : k = 1
      · subst hk2
        simp only [Nat.sub_self, Nat.zero_mul, Nat.add_zero] at P0 P1
        clear hk0 hk1 z1 z2 z3 z5 hS hF
        go_wp2_with (first
          | (go_at_call 13; refine (refElem_any _ _ _ _ _ _ _ hm).mono ?_; rintro e w1 ⟨rfl, hb1⟩; have hy1 := (hb1.block (by simp; omega)).trans (heap_past _ hy); have hv := ((Calm.refl wr).alloc _).call hb1; replace P0 := P0.calm hv hb; replace P1 := P1.calm hv hb; have hb2 := Nat.lt_of_lt_of_le hb hv.size; have hv1 := hz.call hv; clear hb1 hv; obtain ⟨x0, x1, x2, x3, x4, hxs⟩ := row5 hy1)
          | (go_at_call 14; skip; refine (rising2_any b q _ p' o' f' m' g' p o f m g s' s true _ hb2 hge P0 P1).mono ?_; rintro e w2 ⟨rfl, hb9⟩; replace hv1 := hv1.call hb9; have hy2 := (hb9.block hxs).trans hy1; clear hb9))
        go_roundw
        case rel => exact ⟨2, by omega, by go_num, hv1, hy2, hN1⟩
        case measure => simp [intOf]; omega
      · have z6 : (0 : Int) < (k : Int) - 1 := by omega
        clear hk0 hS hF
        go_wp2_with (first
          | (go_at_call 13; refine (refElem_any _ _ _ _ _ _ _ hm).mono ?_; rintro e w1 ⟨rfl, hb1⟩; have hy1 := (hb1.block (by simp; omega)).trans (heap_past _ hy); have hv := ((Calm.refl wr).alloc _).call hb1; replace P0 := P0.calm hv hb; replace P1 := P1.calm hv hb; have hb2 := Nat.lt_of_lt_of_le hb hv.size; have hv1 := hz.call hv; clear hb1 hv; obtain ⟨x0, x1, x2, x3, x4, hxs⟩ := row5 hy1)
          | (go_at_call 14; rw [show k + 1 - (k - 1) = 2 from by omega]; refine (rising2_any b (q + (k - 1) * 6) _ p' o' f' m' g' p o f m g s' s true _ hb2 hge P0 P1).mono ?_; rintro e w2 ⟨rfl, hb9⟩; replace hv1 := hv1.call hb9; have hy2 := (hb9.block hxs).trans hy1; clear hb9))
        go_roundw
        case rel => exact ⟨k + 1, by omega, by go_num, hv1, hy2, hN1⟩
        case measure => simp [intOf]; omega
    · rw [if_neg hF] at hS
      rw [decide_eq_false hF] at hge
      have K1 : Hid (3 = R) := (hS.symm.trans (hN.bad (by rw [hS]; decide) hlt)).trans hG.out.symm
      by_cases hk2 : k = 1
      · subst hk2
        simp only [Nat.sub_self, Nat.zero_mul, Nat.add_zero] at P0 P1
        clear hk0 hk1 z1 z2 z3 z5 hS hF
        go_wp2_with (first
          | (go_at_call 13; refine (refElem_any _ _ _ _ _ _ _ hm).mono ?_; rintro e w1 ⟨rfl, hb1⟩; have hy1 := (hb1.block (by simp; omega)).trans (heap_past _ hy); have hv := ((Calm.refl wr).alloc _).call hb1; replace P0 := P0.calm hv hb; replace P1 := P1.calm hv hb; have hb2 := Nat.lt_of_lt_of_le hb hv.size; have hv1 := hz.call hv; clear hb1 hv; obtain ⟨x0, x1, x2, x3, x4, hxs⟩ := row5 hy1)
          | (go_at_call 14; skip; refine (rising2_any b q _ p' o' f' m' g' p o f m g s' s false _ hb2 hge P0 P1).mono ?_; rintro e w2 ⟨rfl, hb9⟩; replace hv1 := hv1.call hb9; have hy2 := (hb9.block hxs).trans hy1; clear hb9))
        go_ret
        exact ⟨ret_int K1.out, hv1⟩
      · have z6 : (0 : Int) < (k : Int) - 1 := by omega
        clear hk0 hS hF
        go_wp2_with (first
          | (go_at_call 13; refine (refElem_any _ _ _ _ _ _ _ hm).mono ?_; rintro e w1 ⟨rfl, hb1⟩; have hy1 := (hb1.block (by simp; omega)).trans (heap_past _ hy); have hv := ((Calm.refl wr).alloc _).call hb1; replace P0 := P0.calm hv hb; replace P1 := P1.calm hv hb; have hb2 := Nat.lt_of_lt_of_le hb hv.size; have hv1 := hz.call hv; clear hb1 hv; obtain ⟨x0, x1, x2, x3, x4, hxs⟩ := row5 hy1)
          | (go_at_call 14; rw [show k + 1 - (k - 1) = 2 from by omega]; refine (rising2_any b (q + (k - 1) * 6) _ p' o' f' m' g' p o f m g s' s false _ hb2 hge P0 P1).mono ?_; rintro e w2 ⟨rfl, hb9⟩; replace hv1 := hv1.call hb9; have hy2 := (hb9.block hxs).trans hy1; clear hb9))
        go_ret
        exact ⟨ret_int K1.out, hv1⟩
end Go.Proofs.Ytccfcloekjogkaa
