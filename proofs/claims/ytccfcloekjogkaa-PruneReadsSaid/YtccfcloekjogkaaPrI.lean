/- prune.retained, prune.check, prune.without, prune.Kept. -/
import Derived.Test.YtccfcloekjogkaaPrP
import Derived.Test.YtccfcloekjogkaaRange
import Derived.Test.YtccfcloekjogkaaEqual
import Derived.Test.YtccfcloekjogkaaOwnI
namespace Go.Proofs.Ytccfcloekjogkaa
open Go.RowKit

/-- The first place of a list where q holds, or -1. -/
def FIX {α : Type} (q : α → Bool) (l : List α) (r : Int) : Prop := (r = -1 ∧ ∀ e ∈ l, q e = false) ∨ (∃ (i : Nat) (h : i < l.length), r = i ∧ q l[i] = true ∧ ∀ j (hj : j < l.length), j < i → q l[j] = false)
set_option maxRecDepth 100000 in
theorem FIX_ex {α : Type} (q : α → Bool) (l : List α) : ∃ r, FIX q l r := by
  have E : ∀ n, n ≤ l.length → (∃ (i : Nat) (h : i < l.length), q l[i] = true ∧ ∀ j (hj : j < l.length), j < i → q l[j] = false) ∨ ∀ j (hj : j < l.length), j < n → q l[j] = false := fun n => by
    induction n with
    | zero => intro _; right; intro j hj h0; omega
    | succ n ih =>
      intro hn
      rcases ih (by omega) with h | h
      · exact .inl h
      · cases hp : q l[n]
        · right; intro j hj h1
          rcases Nat.lt_or_ge j n with h2 | h2
          · exact h j hj h2
          · rw [show l[j] = l[n] from by congr 1; omega]; exact hp
        · exact .inl ⟨n, by omega, hp, h⟩
  rcases E l.length (Nat.le_refl _) with ⟨i, h, h1, h2⟩ | h
  · exact ⟨i, .inr ⟨i, h, rfl, h1, h2⟩⟩
  · exact ⟨-1, .inl ⟨rfl, fun e he => by obtain ⟨j, hj, rfl⟩ := List.getElem_of_mem he; exact h j hj hj⟩⟩
set_option maxRecDepth 100000 in
theorem FIX.any {α : Type} {q : α → Bool} {l : List α} {r : Int} (h : FIX q l r) : (0 ≤ r ∧ l.any q = true) ∨ (r = -1 ∧ l.any q = false) := by
  rcases h with ⟨h1, h2⟩ | ⟨i, h1, h2, h3, -⟩
  · exact .inr ⟨h1, List.any_eq_false.2 fun e he => by simp [h2 e he]⟩
  · exact .inl ⟨by omega, List.any_eq_true.2 ⟨_, List.getElem_mem h1, h3⟩⟩
/-- A block that holds a record. -/
def EBx (B1 : Nat) (p o f m g : Int) (s : ByteArray) (w : World) : Prop := w.heap[B1]? = some (.cells #[.int .i64 p, .int .i64 o, .int .i64 f, .int .i64 m, .int .i64 g, .string s] 33 (0, 0))
set_option maxRecDepth 100000 in
theorem EBx.calm {B1 : Nat} {p o f m g : Int} {s : ByteArray} {w w' : World} (h : EBx B1 p o f m g s w) (hb : Calm w w') : EBx B1 p o f m g s w' := (hb.block (Array.getElem?_eq_some_iff.1 h).1).trans h
set_option maxRecDepth 100000 in
set_option maxHeartbeats 4000000 in
theorem ret1_any (B1 : Nat) (p o f m g t : Int) (s : ByteArray) (w : World) (hB : EBx B1 p o f m g s w) :
    Calls Try.prog 125 #[.int .i64 t, .pointer (some ⟨B1, 0, none⟩)] w fun e w' => e = .returned (.bool (decide (liveP m g t))) ∧ Calm w w' := by
  have hb := hB
  obtain ⟨x0, x1, x2, x3, x4, x5, hxs⟩ := row6 hb
  go_enter Try.func125, Try.ntmps125
  go_wp2_with (go_at_call 68; refine (live_any _ _ _ _ _ _ _ _).mono ?_; rintro e w1 ⟨rfl, hb1⟩)
  go_ret
  exact ⟨rfl, by repeat (first | (with_reducible exact Calm.refl _) | (with_reducible refine Calm.alloc ?_ _) | (with_reducible refine Calm.drew ?_) | (with_reducible refine Calm.drewN ?_ _) | (refine Calm.call ?_ (by with_reducible assumption)))⟩
set_option maxRecDepth 100000 in
set_option maxHeartbeats 4000000 in
theorem idxT_any (B1 : Nat) (A : Option Addr) (c : Nat) (l : List Int) (p o f m g r : Int) (s : ByteArray) (w : World) (hn : l.length ≤ 9223372036854775807) (hL : LiesI w A l) (hB : EBx B1 p o f m g s w) (hF : FIX (fun t => decide (liveP m g t)) l r) :
    Calls Try.prog 135 #[.slice A l.length c, .func (.func 125) #[] #[.pointer (some ⟨B1, 0, none⟩)]] w fun e w' => e = .returned (.int .i64 r) ∧ Calm w w' := by
  have HF := Lib.hid hF
  have C : ∀ (u : World) (t : Int), Calm w u → Calls Try.prog 125 (#[.int .i64 t] ++ #[.pointer (some ⟨B1, 0, none⟩)]) u fun e w' => e = .returned (.bool (decide (liveP m g t))) ∧ Calm u w' := fun u t hu => ret1_any B1 p o f m g t s u (hB.calm hu)
  clear hF hB
  go_enter Try.func135, Try.ntmps135
  go_wp2_with fail
  go_loopw [8] (fun i wr => ∃ k : Nat, k ≤ l.length ∧ i = .int .i64 k ∧ Calm w wr ∧ Hid (∀ j (hj : j < l.length), j < k → decide (liveP m g l[j]) = false)) (fun i _ => l.length - (intOf i).toNat)
  case atStart => exact ⟨0, Nat.zero_le _, rfl, Calm.refl _, show ∀ _, _ from fun j hj h => absurd h (Nat.not_lt_zero _)⟩
  case round =>
    obtain ⟨k, hk, rfl, hu, hN⟩ := hrel
    by_cases hlt : k < l.length
    rotate_left
    · have K : Hid (r = -1) := by
        rcases HF.out with h | ⟨i, hi, _, h2, _⟩
        · exact h.1
        · have h2 : decide (liveP m g l[i]) = true := h2
          rw [hN.out i hi (by omega)] at h2; cases h2
      clear C
      go_wp2_with fail
      go_ret
      exact ⟨by rw [K.out]; rfl, hu⟩
    obtain ⟨b, q, t, rfl, hb, HE, c0⟩ := (hL.calm hu).get hlt
    have HE2 := (List.getElem?_eq_some_iff.1 HE.out).2
    have hc := C wr t hu
    cases hp : decide (liveP m g t)
    · rw [hp] at hc
      have hN2 : Hid (∀ j (hj : j < l.length), j < k + 1 → decide (liveP m g l[j]) = false) := show ∀ _, _ from fun j hj h => by
        rcases Nat.lt_or_ge j k with h2 | h2
        · exact hN.out j hj h2
        · rw [show l[j] = l[k] from by congr 1; omega, HE2]; exact hp
      clear hp C HE2
      go_wp2_with (go_at_call 125; refine hc.mono ?_; rintro e w1 ⟨rfl, hb1⟩)
      go_roundw
      case rel => exact ⟨k + 1, by omega, by go_num, hu.call hb1, hN2⟩
      case measure => simp [intOf]; omega
    · rw [hp] at hc
      have K : Hid (r = k) := by
        rcases HF.out with h | ⟨i, hi, hr, h2, h3⟩
        · have : decide (liveP m g l[k]) = false := h.2 _ (List.getElem_mem hlt)
          rw [HE2, hp] at this; cases this
        · rw [hr]
          rcases Nat.lt_trichotomy i k with h4 | h4 | h4
          · have h2 : decide (liveP m g l[i]) = true := h2
            rw [hN.out i hi h4] at h2; cases h2
          · show _ = _; rw [h4]
          · have : decide (liveP m g l[k]) = false := h3 k hlt h4
            rw [HE2, hp] at this; cases this
      clear hp C HE2
      go_wp2_with (go_at_call 125; refine hc.mono ?_; rintro e w1 ⟨rfl, hb1⟩)
      go_ret
      exact ⟨by rw [K.out]; rfl, hu.call hb1⟩
set_option maxRecDepth 100000 in
set_option maxHeartbeats 4000000 in
theorem hasT_any (B1 : Nat) (A : Option Addr) (c : Nat) (l : List Int) (p o f m g : Int) (s : ByteArray) (w : World) (hn : l.length ≤ 9223372036854775807) (hL : LiesI w A l) (hB : EBx B1 p o f m g s w) :
    Calls Try.prog 124 #[.slice A l.length c, .func (.func 125) #[] #[.pointer (some ⟨B1, 0, none⟩)]] w fun e w' => e = .returned (.bool (l.any fun t => decide (liveP m g t))) ∧ Calm w w' := by
  obtain ⟨r, hr⟩ := FIX_ex (fun t => decide (liveP m g t)) l
  have cI := idxT_any B1 A c l p o f m g r s w hn hL hB hr
  have hany := hr.any
  generalize (l.any fun t => decide (liveP m g t)) = R at hany ⊢
  clear hr hL hB
  rcases hany with ⟨h1, rfl⟩ | ⟨rfl, rfl⟩
  · go_enter Try.func124, Try.ntmps124
    go_wp2_with (go_at_call 135; refine cI.mono ?_; rintro e w1 ⟨rfl, hb1⟩)
    go_ret
    exact ⟨ret_bool (by simp), hb1⟩
  · go_enter Try.func124, Try.ntmps124
    go_wp2_with (go_at_call 135; refine cI.mono ?_; rintro e w1 ⟨rfl, hb1⟩)
    go_ret
    exact ⟨rfl, hb1⟩
set_option maxRecDepth 100000 in
set_option maxHeartbeats 4000000 in
theorem retained_any (A : Option Addr) (c : Nat) (l : List Int) (p o f m g : Int) (s : ByteArray) (w : World) (hn : l.length ≤ 9223372036854775807) (hL : LiesI w A l) :
    Calls Try.prog 98 #[.agg #[.int .i64 p, .int .i64 o, .int .i64 f, .int .i64 m, .int .i64 g, .string s], .slice A l.length c] w fun e w' => e = .returned (.bool (isKept l ⟨p, o, f, m, g, s⟩)) ∧ Calm w w' := by
  have hx := heap_new w (.cells #[.int .i64 p, .int .i64 o, .int .i64 f, .int .i64 m, .int .i64 g, .string s] 33)
  have hu := (Calm.refl w).alloc (.cells #[.int .i64 p, .int .i64 o, .int .i64 f, .int .i64 m, .int .i64 g, .string s] 33)
  have hL2 := Lib.hid (hL.calm hu)
  have hR : isKept l ⟨p, o, f, m, g, s⟩ = (decide (g = 0) || l.any fun t => decide (liveP m g t)) := rfl
  obtain ⟨R, hRR⟩ : ∃ R, (l.any fun t => decide (liveP m g t)) = R := ⟨_, rfl⟩
  rw [hRR] at hR
  have HRR := Lib.hid hRR
  clear hRR
  generalize isKept l ⟨p, o, f, m, g, s⟩ = q at hR ⊢
  clear hL
  by_cases h0 : g = 0
  · have hq : q = true := by rw [hR, decide_eq_true h0]; rfl
    subst hq
    subst h0
    clear hR
    obtain ⟨x0, x1, x2, x3, x4, x5, hxs⟩ := row6 hx
    go_enter Try.func98, Try.ntmps98
    go_wp2_with fail
    go_ret
    exact ⟨rfl, hu⟩
  · have hq : q = R := by rw [hR, decide_eq_false h0]; rfl
    subst hq
    clear hR
    have cG : ∀ u, Calm (w.alloc (.cells #[.int .i64 p, .int .i64 o, .int .i64 f, .int .i64 m, .int .i64 g, .string s] 33)) u → Calls Try.prog 124 #[.slice A l.length c, .func (.func 125) #[] #[.pointer (some ⟨w.heap.size, 0, none⟩)]] u fun e w' => e = .returned (.bool q) ∧ Calm u w' := fun u hv => by
      have := hasT_any w.heap.size A c l p o f m g s u hn (hL2.out.calm hv) (EBx.calm hx hv)
      rw [HRR.out] at this
      exact this
    obtain ⟨x0, x1, x2, x3, x4, x5, hxs⟩ := row6 hx
    clear hx
    have e1 : decide (g = 0) = false := decide_eq_false h0
    go_enter Try.func98, Try.ntmps98
    go_wp2_with (go_at_call 124; refine (cG _ (by repeat (first | (with_reducible exact Calm.refl _) | (with_reducible refine Calm.alloc ?_ _) | (with_reducible refine Calm.drew ?_) | (with_reducible refine Calm.drewN ?_ _) | (refine Calm.call ?_ (by with_reducible assumption))))).mono ?_; rintro e w1 ⟨rfl, hb1⟩)
    go_ret
    exact ⟨ret_bool (by simp [h0]), hu.call hb1⟩
end Go.Proofs.Ytccfcloekjogkaa
