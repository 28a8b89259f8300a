/- slices.Contains at numbers; prune.Kept of one record. -/
import Derived.Test.YtccfcloekjogkaaPrC
namespace Go.Proofs.Ytccfcloekjogkaa
open Go.RowKit

set_option maxRecDepth 100000 in
set_option maxHeartbeats 4000000 in
theorem indexN_any (A : Option Addr) (c : Nat) (l : List Int) (x r : Int) (w : World) (hn : l.length ≤ 9223372036854775807) (hL : LiesI w A l) (hF : FIX (fun e => decide (e = x)) l r) :
    Calls Try.prog 81 #[.slice A l.length c, .int .i64 x] w fun e w' => e = .returned (.int .i64 r) ∧ Calm w w' := by
  have HF := Lib.hid hF
  clear hF
  go_enter Try.func81, Try.ntmps81
  go_wp2_with fail
  go_loopw [8] (fun i wr => ∃ k : Nat, k ≤ l.length ∧ i = .int .i64 k ∧ Calm w wr ∧ Hid (∀ j (hj : j < l.length), j < k → decide (l[j] = x) = false)) (fun i _ => l.length - (intOf i).toNat)
  case atStart => exact ⟨0, Nat.zero_le _, rfl, Calm.refl _, show ∀ _, _ from fun j hj h => absurd h (Nat.not_lt_zero _)⟩
  case round =>
    obtain ⟨k, hk, rfl, hu, hN⟩ := hrel
    by_cases hlt : k < l.length
    rotate_left
    · have K : Hid (r = -1) := by
        rcases HF.out with h | ⟨i, hi, _, h2, _⟩
        · exact h.1
        · have h2 : decide (l[i] = x) = true := h2
          rw [hN.out i hi (by omega)] at h2; cases h2
      go_wp2_with fail
      go_ret
      exact ⟨by rw [K.out]; rfl, hu⟩
    obtain ⟨b, q, y, rfl, hb, HE, c0⟩ := (hL.calm hu).get hlt
    have HE2 := (List.getElem?_eq_some_iff.1 HE.out).2
    by_cases hxy : x = y
    · have K : Hid (r = k) := by
        have hp : decide (l[k] = x) = true := by rw [HE2]; exact decide_eq_true hxy.symm
        rcases HF.out with h | ⟨i, hi, hr, h2, h3⟩
        · have : decide (l[k] = x) = false := h.2 _ (List.getElem_mem hlt)
          rw [hp] at this; cases this
        · rw [hr]
          rcases Nat.lt_trichotomy i k with h4 | h4 | h4
          · have h2 : decide (l[i] = x) = true := h2
            rw [hN.out i hi h4] at h2; cases h2
          · show _ = _; rw [h4]
          · have : decide (l[k] = x) = false := h3 k hlt h4
            rw [hp] at this; cases this
      subst hxy
      clear HE2 hN
      go_wp2_with fail
      go_ret
      exact ⟨by rw [K.out]; rfl, hu⟩
    · have hN2 : Hid (∀ j (hj : j < l.length), j < k + 1 → decide (l[j] = x) = false) := show ∀ _, _ from fun j hj h => by
        rcases Nat.lt_or_ge j k with h2 | h2
        · exact hN.out j hj h2
        · rw [show l[j] = l[k] from by congr 1; omega, HE2]; exact decide_eq_false fun e => hxy e.symm
      clear HE2 hN
      go_wp2_with fail
      go_roundw
      case rel => exact ⟨k + 1, by omega, by go_num, hu, hN2⟩
      case measure => simp [intOf]; omega
set_option maxRecDepth 100000 in
theorem FIX.memI {l : List Int} {x : Int} {r : Int} (h : FIX (fun e => decide (e = x)) l r) : (0 ≤ r ∧ x ∈ l) ∨ (r = -1 ∧ ¬ x ∈ l) := by
  rcases h with ⟨h1, h2⟩ | ⟨i, h1, h2, h3, -⟩
  · exact .inr ⟨h1, fun h => by have := h2 x h; simp at this⟩
  · have h3 : l[i] = x := of_decide_eq_true h3
    exact .inl ⟨by omega, by rw [← h3]; exact List.getElem_mem h1⟩
set_option maxRecDepth 100000 in
set_option maxHeartbeats 4000000 in
theorem containsI_any (A : Option Addr) (c : Nat) (l : List Int) (x : Int) (w : World) (hn : l.length ≤ 9223372036854775807) (hL : LiesI w A l) :
    Calls Try.prog 45 #[.slice A l.length c, .int .i64 x] w fun e w' => e = .returned (.bool (decide (x ∈ l))) ∧ Calm w w' := by
  obtain ⟨r, hr⟩ := FIX_ex (fun e => decide (e = x)) l
  have cI := indexN_any A c l x r w hn hL hr
  have hm := hr.memI
  clear hr hL
  rcases hm with ⟨h1, h2⟩ | ⟨rfl, h2⟩
  · rw [decide_eq_true h2]
    clear h2
    go_enter Try.func45, Try.ntmps45
    go_wp2_with (go_at_call 81; refine cI.mono ?_; rintro e w1 ⟨rfl, hb1⟩)
    go_ret
    exact ⟨ret_bool (by simp), hb1⟩
  · rw [decide_eq_false h2]
    clear h2
    go_enter Try.func45, Try.ntmps45
    go_wp2_with (go_at_call 81; refine cI.mono ?_; rintro e w1 ⟨rfl, hb1⟩)
    go_ret
    exact ⟨rfl, hb1⟩
set_option maxRecDepth 100000 in
/-- One record that is deleted. -/
theorem lit_good (f g : Int) (s : ByteArray) (hf : 0 ≤ f ∧ f ≤ 1073741824) (hg : 1 < g ∧ g ≤ 2147483647) (hs : s.size = 0) : Good [⟨0, 0, f, 1, g, s⟩] := by
  refine ⟨by simp, fun e he => ?_, by simp⟩
  rw [List.mem_singleton.1 he]
  show elemErr 0 0 f 1 g s.size = 0
  exact elemErr_ok (keyErr_ok (by omega) (by omega) (by omega) (by omega) hf.1 hf.2) (by unfold timeOk; omega) (by omega)
set_option maxRecDepth 100000 in
theorem lit_liesE {w : World} {gB : Nat} {f g : Int} {s : ByteArray} {t : TypeId} (h : w.heap[gB]? = some (.cells #[.int .i64 0, .int .i64 0, .int .i64 f, .int .i64 1, .int .i64 g, .string s] t (0, 0))) : Lies w (some ⟨gB, 0, none⟩) [⟨0, 0, f, 1, g, s⟩] := by
  have c := fun j => cell_of_row _ gB j _ _ _ h
  refine ⟨fun e he => ?_, fun _ => ⟨gB, 0, rfl, (Array.getElem?_eq_some_iff.1 h).1, fun k e he => ?_⟩⟩
  · rw [List.mem_singleton.1 he]; unfold El.wf; simp only; omega
  · match k, he with
    | 0, he => simp at he; subst he; exact ⟨c 0, c 1, c 2, c 3, c 4, c 5⟩
    | k + 1, he => simp at he
set_option maxRecDepth 100000 in
theorem lit_liesI {w : World} {gB : Nat} {x : Int} {t : TypeId} (h : w.heap[gB]? = some (.cells #[.int .i64 x] t (0, 0))) : LiesI w (some ⟨gB, 0, none⟩) [x] := fun _ => by
  refine ⟨gB, 0, rfl, (Array.getElem?_eq_some_iff.1 h).1, fun k e he => ?_⟩
  match k, he with
  | 0, he => simp at he; subst he; exact cell_of_row _ gB 0 _ _ _ h
  | k + 1, he => simp at he
set_option maxRecDepth 100000 in
theorem keptLit_nil (f g : Int) (s : ByteArray) (hf : 0 ≤ f ∧ f ≤ 1073741824) (hg : 1 < g ∧ g ≤ 2147483647) (hs : s.size = 0) (u : World) (gB : Nat) (t : TypeId) (h : u.heap[gB]? = some (.cells #[.int .i64 0, .int .i64 0, .int .i64 f, .int .i64 1, .int .i64 g, .string s] t (0, 0))) :
    Calls Try.prog 36 #[.slice (some ⟨gB, 0, none⟩) 1 1, .slice none 0 0] u (KpEnd [] 0 u) := by
  have := kept_any (some ⟨gB, 0, none⟩) none 1 0 [⟨0, 0, f, 1, g, s⟩] [] u (by simp) (lit_liesE h) (by simp) (fun h => absurd h (by simp))
  have e1 : keepErr [⟨0, 0, f, 1, g, s⟩] [] = 0 := by unfold keepErr; rw [runErr_zero.2 (lit_good f g s hf hg hs)]; rfl
  have e2 : keptR [⟨0, 0, f, 1, g, s⟩] [] = [] := by unfold keptR isKept; simp; omega
  rw [e1, if_pos rfl, e2] at this
  exact this
set_option maxRecDepth 100000 in
theorem keptLit_one (f g x : Int) (R : List El) (s : ByteArray) (hf : 0 ≤ f ∧ f ≤ 1073741824) (hg : 1 < g ∧ g ≤ 2147483647) (hs : s.size = 0) (hx : 0 ≤ x ∧ x ≤ 2147483647) (hR : R = if 1 ≤ x ∧ x < g then [⟨0, 0, f, 1, g, s⟩] else []) (u : World) (gB g2 : Nat) (t t2 : TypeId) (h : u.heap[gB]? = some (.cells #[.int .i64 0, .int .i64 0, .int .i64 f, .int .i64 1, .int .i64 g, .string s] t (0, 0)))
    (h2 : u.heap[g2]? = some (.cells #[.int .i64 x] t2 (0, 0))) :
    Calls Try.prog 36 #[.slice (some ⟨gB, 0, none⟩) 1 1, .slice (some ⟨g2, 0, none⟩) 1 1] u (KpEnd R 0 u) := by
  have := kept_any (some ⟨gB, 0, none⟩) (some ⟨g2, 0, none⟩) 1 1 [⟨0, 0, f, 1, g, s⟩] [x] u (by simp) (lit_liesE h) (by simp) (lit_liesI h2)
  have e1 : keepErr [⟨0, 0, f, 1, g, s⟩] [x] = 0 := by
    unfold keepErr
    rw [runErr_zero.2 (lit_good f g s hf hg hs), if_pos rfl]
    unfold timesErr
    rw [if_neg (by simp), if_pos (by simpa using hx)]
  have e2 : keptR [⟨0, 0, f, 1, g, s⟩] [x] = R := by
    rw [hR]
    unfold keptR isKept
    have h0 : decide (g = 0) = false := decide_eq_false (by omega)
    by_cases hc : 1 ≤ x ∧ x < g
    · rw [if_pos hc]; simp [El.live, liveP, hc]
    · rw [if_neg hc]
      simp only [List.filter_cons, List.filter_nil, h0, List.any_cons, List.any_nil, Bool.or_false, Bool.false_or, El.live, liveP]
      exact if_neg fun h => hc (by have := of_decide_eq_true h; omega)
  rw [e1, if_pos rfl, e2] at this
  exact this
end Go.Proofs.Ytccfcloekjogkaa
