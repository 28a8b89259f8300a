/- annalref.At, with slices.IndexFunc. -/
import Derived.Test.YtgebilpdinbfgaaQAt
namespace Go.Proofs.Ytgebilpdinbfgaa
open Go.RowKit

/-- The closure's boxes: a key and a time. -/
def KBox (B1 B2 : Nat) (p o f t : Int) (w : World) : Prop :=
  w.heap[B1]? = some (.cells #[.int .i64 p, .int .i64 o, .int .i64 f] 26 (0, 0)) ∧ w.heap[B2]? = some (.cells #[.int .i64 t] 3 (0, 0))
set_option maxRecDepth 100000 in
theorem KBox.calm {B1 B2 : Nat} {p o f t : Int} {w w' : World} (h : KBox B1 B2 p o f t w) (hb : Calm w w') : KBox B1 B2 p o f t w' :=
  ⟨(hb.block (Array.getElem?_eq_some_iff.1 h.1).1).trans h.1, (hb.block (Array.getElem?_eq_some_iff.1 h.2).1).trans h.2⟩

set_option maxRecDepth 100000 in
set_option maxHeartbeats 4000000 in
theorem at1_any (B1 B2 : Nat) (p o f m g : Int) (s : ByteArray) (p' o' f' t : Int) (w : World) (hB : KBox B1 B2 p' o' f' t w) :
    Calls Try.prog 33 #[.agg #[.int .i64 p, .int .i64 o, .int .i64 f, .int .i64 m, .int .i64 g, .string s], .pointer (some ⟨B1, 0, none⟩), .pointer (some ⟨B2, 0, none⟩)] w fun e w' => e = .returned (.bool (isAt (p', o', f') t ⟨p, o, f, m, g, s⟩)) ∧ Calm w w' := by
  obtain ⟨hx, hy⟩ := hB
  obtain ⟨x0, x1, x2, hxs⟩ := row3 hx
  have y0 := cell_of_row _ _ 0 _ _ _ hy
  simp only [List.getElem?_toArray, List.getElem?_cons_zero] at y0
  have hys := (Array.getElem?_eq_some_iff.1 hy).1
  have hH : Hid (isAt (p', o', f') t ⟨p, o, f, m, g, s⟩ = decide ((p = p' ∧ o = o' ∧ f = f') ∧ liveP m g t)) := by
    show _ = _
    unfold isAt; simp only [El.key, El.live, Prod.mk.injEq]
  generalize isAt (p', o', f') t ⟨p, o, f, m, g, s⟩ = r at hH ⊢
  clear hx hy
  go_enter Try.func33, Try.ntmps33
  go_wp2_with (go_at_call 34; refine (refLive_any _ _ _ _ _ _ _ _).mono ?_; rintro e w1 ⟨rfl, hb1⟩)
  all_goals
    go_ret
    exact ⟨ret_bool (by rw [hH.out]; simp [*]), by repeat (first | (with_reducible exact Calm.refl _) | (with_reducible refine Calm.alloc ?_ _) | (with_reducible refine Calm.drew ?_) | (with_reducible refine Calm.drewN ?_ _) | (refine Calm.call ?_ (by with_reducible assumption)))⟩

def FI (l : List El) (k : Int × Int × Int) (t r : Int) : Prop := (r = -1 ∧ ∀ e ∈ l, isAt k t e = false) ∨ (∃ (i : Nat) (h : i < l.length), r = i ∧ isAt k t l[i] = true ∧ ∀ j (hj : j < l.length), j < i → isAt k t l[j] = false)
set_option maxRecDepth 100000 in
theorem FI_ex (l : List El) (k : Int × Int × Int) (t : Int) : ∃ r, FI l k t r := by
  have E : ∀ n, n ≤ l.length → (∃ (i : Nat) (h : i < l.length), isAt k t l[i] = true ∧ ∀ j (hj : j < l.length), j < i → isAt k t l[j] = false) ∨ ∀ j (hj : j < l.length), j < n → isAt k t l[j] = false := fun n => by
    induction n with
    | zero => intro _; right; intro j hj h0; omega
    | succ n ih =>
      intro hn
      rcases ih (by omega) with h | h
      · exact .inl h
      · cases hp : isAt k t l[n]
        · right; intro j hj h1
          rcases Nat.lt_or_ge j n with h2 | h2
          · exact h j hj h2
          · rw [show l[j] = l[n] from by congr 1; omega]; exact hp
        · exact .inl ⟨n, by omega, hp, h⟩
  rcases E l.length (Nat.le_refl _) with ⟨i, h, h1, h2⟩ | h
  · exact ⟨i, .inr ⟨i, h, rfl, h1, h2⟩⟩
  · exact ⟨-1, .inl ⟨rfl, fun e he => by obtain ⟨j, hj, rfl⟩ := List.getElem_of_mem he; exact h j hj hj⟩⟩

set_option maxRecDepth 100000 in
set_option maxHeartbeats 4000000 in
theorem indexFunc_any (B1 B2 : Nat) (A : Option Addr) (c : Nat) (l : List El) (p' o' f' t r : Int) (w : World) (hn : l.length ≤ 9223372036854775807) (hL : Lies w A l) (hB : KBox B1 B2 p' o' f' t w) (hF : FI l (p', o', f') t r) :
    Calls Try.prog 32 #[.slice A l.length c, .func (.func 33) #[] #[.pointer (some ⟨B1, 0, none⟩), .pointer (some ⟨B2, 0, none⟩)]] w fun e w' => e = .returned (.int .i64 r) ∧ Calm w w' := by
  have HF := Lib.hid hF
  have C : ∀ (u : World) (p o f m g : Int) (s : ByteArray), Calm w u → Calls Try.prog 33 (#[.agg #[.int .i64 p, .int .i64 o, .int .i64 f, .int .i64 m, .int .i64 g, .string s]] ++ #[.pointer (some ⟨B1, 0, none⟩), .pointer (some ⟨B2, 0, none⟩)]) u fun e w' => e = .returned (.bool (isAt (p', o', f') t ⟨p, o, f, m, g, s⟩)) ∧ Calm u w' := fun u p o f m g s hu => at1_any B1 B2 p o f m g s p' o' f' t u (hB.calm hu)
  clear hF hB
  go_enter Try.func32, Try.ntmps32
  go_wp2_with fail
  go_loopw [8] (fun i wr => ∃ k : Nat, k ≤ l.length ∧ i = .int .i64 k ∧ Calm w wr ∧ Hid (∀ j (hj : j < l.length), j < k → isAt (p', o', f') t l[j] = false)) (fun i _ => l.length - (intOf i).toNat)
  case atStart => exact ⟨0, Nat.zero_le _, rfl, Calm.refl _, show ∀ _, _ from fun j hj h => absurd h (Nat.not_lt_zero _)⟩
  case round =>
    obtain ⟨k, hk, rfl, hu, hN⟩ := hrel
    by_cases hlt : k < l.length
    rotate_left
    · have K : Hid (r = -1) := by
        rcases HF.out with h | ⟨i, hi, _, h2, _⟩
        · exact h.1
        · rw [hN.out i hi (by omega)] at h2; cases h2
      clear C
      go_wp2_with fail
      go_ret
      exact ⟨by rw [K.out]; rfl, hu⟩
    obtain ⟨b, q, p, o, f, m, g, s, rfl, hb, HE, hm, c0, c1, c2, c3, c4, c5⟩ := (hL.calm hu).get hlt
    have HE2 := (List.getElem?_eq_some_iff.1 HE.out).2
    have hc := C wr p o f m g s hu
    cases hp : isAt (p', o', f') t ⟨p, o, f, m, g, s⟩
    · rw [hp] at hc
      have hN2 : Hid (∀ j (hj : j < l.length), j < k + 1 → isAt (p', o', f') t l[j] = false) := show ∀ _, _ from fun j hj h => by
        rcases Nat.lt_or_ge j k with h2 | h2
        · exact hN.out j hj h2
        · rw [show l[j] = l[k] from by congr 1; omega, HE2]; exact hp
      clear hp C HE2
      go_wp2_with (go_at_call 33; refine hc.mono ?_; rintro e w1 ⟨rfl, hb1⟩)
      go_roundw
      case rel => exact ⟨k + 1, by omega, by go_num, hu.call hb1, hN2⟩
      case measure => simp [intOf]; omega
    · rw [hp] at hc
      have K : Hid (r = k) := by
        rcases HF.out with h | ⟨i, hi, hr, h2, h3⟩
        · have := h.2 _ (List.getElem_mem hlt); rw [HE2, hp] at this; cases this
        · rw [hr]
          rcases Nat.lt_trichotomy i k with h4 | h4 | h4
          · rw [hN.out i hi h4] at h2; cases h2
          · show _ = _; rw [h4]
          · have := h3 k hlt h4; rw [HE2, hp] at this; cases this
      clear hp C HE2
      go_wp2_with (go_at_call 33; refine hc.mono ?_; rintro e w1 ⟨rfl, hb1⟩)
      go_ret
      exact ⟨by rw [K.out]; rfl, hu.call hb1⟩

def RefAtEnd (x : El) (b : Bool) (w : World) (e : Ending) (w' : World) : Prop := e = .returned (.tuple #[x.val, .bool b]) ∧ Calm w w'

set_option maxRecDepth 100000 in
set_option maxHeartbeats 4000000 in
theorem refAt_any (A : Option Addr) (d : Nat) (l : List El) (p' o' f' t : Int) (w : World) (hn : l.length ≤ 9223372036854775807) (hL : Lies w A l) :
    Calls Try.prog 10 #[.slice A l.length d, .agg #[.int .i64 p', .int .i64 o', .int .i64 f'], .int .i64 t] w (RefAtEnd ((atR l (p', o', f') t).getD zeroEl) (atR l (p', o', f') t).isSome w) := by
  obtain ⟨r, hF⟩ := FI_ex l (p', o', f') t
  have hz : (((w.alloc (.cells #[.int .i64 p', .int .i64 o', .int .i64 f'] 26)).alloc (.cells #[.int .i64 t] 3)).alloc (.cells #[.int .i64 0, .int .i64 0, .int .i64 0, .int .i64 0, .int .i64 0, .string { data := #[] }] 33)).heap[w.heap.size + 1 + 1]? = some (.cells #[.int .i64 0, .int .i64 0, .int .i64 0, .int .i64 0, .int .i64 0, .string { data := #[] }] 33 (0, 0)) := by simpa using heap_new ((w.alloc (.cells #[.int .i64 p', .int .i64 o', .int .i64 f'] 26)).alloc (.cells #[.int .i64 t] 3)) (.cells #[.int .i64 0, .int .i64 0, .int .i64 0, .int .i64 0, .int .i64 0, .string { data := #[] }] 33)
  have hu := (((Calm.refl w).alloc (.cells #[.int .i64 p', .int .i64 o', .int .i64 f'] 26)).alloc (.cells #[.int .i64 t] 3)).alloc (.cells #[.int .i64 0, .int .i64 0, .int .i64 0, .int .i64 0, .int .i64 0, .string { data := #[] }] 33)
  have hB : KBox w.heap.size (w.heap.size + 1) p' o' f' t (((w.alloc (.cells #[.int .i64 p', .int .i64 o', .int .i64 f'] 26)).alloc (.cells #[.int .i64 t] 3)).alloc (.cells #[.int .i64 0, .int .i64 0, .int .i64 0, .int .i64 0, .int .i64 0, .string { data := #[] }] 33)) := ⟨heap_past _ (heap_past _ (heap_new _ _)), heap_past _ (by simpa using heap_new (w.alloc (.cells #[.int .i64 p', .int .i64 o', .int .i64 f'] 26)) (.cells #[.int .i64 t] 3))⟩
  have cI := indexFunc_any w.heap.size (w.heap.size + 1) A d l p' o' f' t r _ hn (hL.calm hu) hB hF
  clear hB
  rcases hF with ⟨rfl, h2⟩ | ⟨i, hi, rfl, h2, h3⟩
  · rw [find_none h2]
    clear h2 hL
    go_enter Try.func10, Try.ntmps10
    go_wp2_with (go_at_call 32; refine cI.mono ?_; rintro e w1 ⟨rfl, hb1⟩; replace hz := (hb1.block (row6 hz).2.2.2.2.2.2).trans hz; replace hu := hu.call hb1; clear hb1; obtain ⟨z0, z1, z2, z3, z4, z5, hzs⟩ := row6 hz; obtain ⟨f0, f1, f2, f3, f4, f5⟩ := free6 hz)
    have hr := set6 hz (.int .i64 0) (.int .i64 0) (.int .i64 0) (.int .i64 0) (.int .i64 0) (.string { data := #[] })
    have hu2 := hu.six (g := w.heap.size + 1 + 1) (by omega) (.int .i64 0) (.int .i64 0) (.int .i64 0) (.int .i64 0) (.int .i64 0) (.string { data := #[] })
    unfold World.six at hr hu2
    exact end_two rfl rfl _ _ _ _ _ _ _ rfl rfl rfl hr rfl ⟨rfl, hu2⟩
  · have e0 : atR l (p', o', f') t = some l[i] := by
      unfold atR
      rw [List.find?_eq_some_iff_getElem]
      exact ⟨h2, i, hi, rfl, fun j hj => by rw [h3 j (by omega) hj]; rfl⟩
    rw [e0]
    clear h2 h3 e0
    obtain ⟨b, q, p, o, f, m, g, s, rfl, hb, HE, hm, c0, c1, c2, c3, c4, c5⟩ := hL.get hi
    have e3 : Hid (l[i] = ⟨p, o, f, m, g, s⟩) := (List.getElem?_eq_some_iff.1 HE.out).2
    have hC : ∀ u, Calm w u → u.cell? ⟨b, q + i * 6, none⟩ = some (.int .i64 p) ∧ u.cell? ⟨b, q + i * 6 + 1, none⟩ = some (.int .i64 o) ∧ u.cell? ⟨b, q + i * 6 + 2, none⟩ = some (.int .i64 f) ∧ u.cell? ⟨b, q + i * 6 + 3, none⟩ = some (.int .i64 m) ∧ u.cell? ⟨b, q + i * 6 + 4, none⟩ = some (.int .i64 g) ∧ u.cell? ⟨b, q + i * 6 + 5, none⟩ = some (.string s) := fun u hu =>
      have hc := hu.facts.1
      ⟨(hc _ _ hb).trans c0, (hc _ _ hb).trans c1, (hc _ _ hb).trans c2, (hc _ _ hb).trans c3, (hc _ _ hb).trans c4, (hc _ _ hb).trans c5⟩
    have hiz : (i : Int) < (l.length : Int) := by omega
    clear hL HE c0 c1 c2 c3 c4 c5
    go_enter Try.func10, Try.ntmps10
    go_wp2_with (go_at_call 32; refine cI.mono ?_; rintro e w1 ⟨rfl, hb1⟩; replace hz := (hb1.block (row6 hz).2.2.2.2.2.2).trans hz; replace hu := hu.call hb1; clear hb1; obtain ⟨z0, z1, z2, z3, z4, z5, hzs⟩ := row6 hz; obtain ⟨f0, f1, f2, f3, f4, f5⟩ := free6 hz; obtain ⟨c0, c1, c2, c3, c4, c5⟩ := hC _ hu)
    have hr := set6 hz (.int .i64 p) (.int .i64 o) (.int .i64 f) (.int .i64 m) (.int .i64 g) (.string s)
    have hu2 := hu.six (g := w.heap.size + 1 + 1) (by omega) (.int .i64 p) (.int .i64 o) (.int .i64 f) (.int .i64 m) (.int .i64 g) (.string s)
    unfold World.six at hr hu2
    exact end_two rfl rfl _ _ _ _ _ _ _ rfl rfl rfl hr rfl ⟨by rw [Option.getD_some, e3.out]; rfl, hu2⟩
end Go.Proofs.Ytgebilpdinbfgaa
