/- slices.Index and slices.Contains at records. -/
import Derived.Test.YtccfcloekjogkaaPrI
import Derived.Test.YtccfcloekjogkaaEqual
namespace Go.Proofs.Ytccfcloekjogkaa
open Go.RowKit

set_option maxRecDepth 100000 in
set_option maxHeartbeats 8000000 in
theorem indexE_any (A : Option Addr) (c : Nat) (l : List El) (p' o' f' m' g' r : Int) (s' : ByteArray) (w : World) (hn : l.length ≤ 9223372036854775807) (hL : Lies w A l) (hF : FIX (fun e => decide (e = ⟨p', o', f', m', g', s'⟩)) l r) :
    Calls Try.prog 62 #[.slice A l.length c, .agg #[.int .i64 p', .int .i64 o', .int .i64 f', .int .i64 m', .int .i64 g', .string s']] w fun e w' => e = .returned (.int .i64 r) ∧ Calm w w' := by
  have HF := Lib.hid hF
  have hx := heap_new w (.cells #[.int .i64 p', .int .i64 o', .int .i64 f', .int .i64 m', .int .i64 g', .string s'] 33)
  have hu := (Calm.refl w).alloc (.cells #[.int .i64 p', .int .i64 o', .int .i64 f', .int .i64 m', .int .i64 g', .string s'] 33)
  have HL := Lib.hid (hL.calm hu)
  have HX : Hid (EBx w.heap.size p' o' f' m' g' s' (w.alloc (.cells #[.int .i64 p', .int .i64 o', .int .i64 f', .int .i64 m', .int .i64 g', .string s'] 33))) := hx
  have HU := Lib.hid hu
  clear hF hx hL hu
  go_enter Try.func62, Try.ntmps62
  go_upto_region 1 with fail
  generalize w.alloc (.cells #[.int .i64 p', .int .i64 o', .int .i64 f', .int .i64 m', .int .i64 g', .string s'] 33) = w1 at HU HX HL ⊢
  go_wp2_with fail
  go_loopw [8] (fun i wr => ∃ k : Nat, k ≤ l.length ∧ i = .int .i64 k ∧ Calm w1 wr ∧ Hid (∀ j (hj : j < l.length), j < k → decide (l[j] = (⟨p', o', f', m', g', s'⟩ : El)) = false)) (fun i _ => l.length - (intOf i).toNat)
  case atStart => exact ⟨0, Nat.zero_le _, rfl, Calm.refl _, show ∀ _, _ from fun j hj h => absurd h (Nat.not_lt_zero _)⟩
  case round =>
    obtain ⟨k, hk, rfl, hu, hN⟩ := hrel
    by_cases hlt : k < l.length
    rotate_left
    · have K : Hid (r = -1) := by
        rcases HF.out with h | ⟨i, hi, _, h2, _⟩
        · exact h.1
        · have h2 : decide (l[i] = (⟨p', o', f', m', g', s'⟩ : El)) = true := h2
          rw [hN.out i hi (by omega)] at h2; cases h2
      go_wp2_with fail
      go_ret
      exact ⟨by rw [K.out]; rfl, HU.out.call hu⟩
    obtain ⟨b, q, p, o, f, m, g, s, rfl, hb, HE, hm, c0, c1, c2, c3, c4, c5⟩ := (HL.out.calm hu).get hlt
    have HE2 := (List.getElem?_eq_some_iff.1 HE.out).2
    have hx : wr.heap[w.heap.size]? = some (.cells #[.int .i64 p', .int .i64 o', .int .i64 f', .int .i64 m', .int .i64 g', .string s'] 33 (0, 0)) := HX.out.calm hu
    obtain ⟨x0, x1, x2, x3, x4, x5, hxs⟩ := row6 hx
    have hiz : (k : Int) < (l.length : Int) := by omega
    have hEq : (⟨p, o, f, m, g, s⟩ : El) = ⟨p', o', f', m', g', s'⟩ → Hid (r = k) := fun e => by
      have hp : decide (l[k] = (⟨p', o', f', m', g', s'⟩ : El)) = true := by rw [HE2]; exact decide_eq_true e
      rcases HF.out with h | ⟨i, hi, hr, h2, h3⟩
      · have : decide (l[k] = (⟨p', o', f', m', g', s'⟩ : El)) = false := h.2 _ (List.getElem_mem hlt)
        rw [hp] at this; cases this
      · rw [hr]
        rcases Nat.lt_trichotomy i k with h4 | h4 | h4
        · have h2 : decide (l[i] = (⟨p', o', f', m', g', s'⟩ : El)) = true := h2
          rw [hN.out i hi h4] at h2; cases h2
        · show _ = _; rw [h4]
        · have : decide (l[k] = (⟨p', o', f', m', g', s'⟩ : El)) = false := h3 k hlt h4
          rw [hp] at this; cases this
    have hN1 : (⟨p, o, f, m, g, s⟩ : El) ≠ ⟨p', o', f', m', g', s'⟩ → Hid (∀ j (hj : j < l.length), j < k + 1 → decide (l[j] = (⟨p', o', f', m', g', s'⟩ : El)) = false) := fun hne => show ∀ _, _ from fun j hj h => by
      rcases Nat.lt_or_ge j k with h2 | h2
      · exact hN.out j hj h2
      · rw [show l[j] = l[k] from by congr 1; omega, HE2]; exact decide_eq_false hne
    clear hx HE HE2 hm hN
    have hcs : ¬ p' = p ∨ (p' = p ∧ ¬ o' = o) ∨ (p' = p ∧ o' = o ∧ ¬ f' = f) ∨ (p' = p ∧ o' = o ∧ f' = f ∧ ¬ m' = m) ∨ (p' = p ∧ o' = o ∧ f' = f ∧ m' = m ∧ ¬ g' = g) ∨ (p' = p ∧ o' = o ∧ f' = f ∧ m' = m ∧ g' = g ∧ ¬ s' = s) ∨ (p' = p ∧ o' = o ∧ f' = f ∧ m' = m ∧ g' = g ∧ s' = s) := by
      by_cases e0 : p' = p <;> by_cases e1 : o' = o <;> by_cases e2 : f' = f <;> by_cases e3 : m' = m <;> by_cases e4 : g' = g <;> by_cases e5 : s' = s <;> simp [*]
    rcases hcs with h0 | ⟨h0, h1⟩ | ⟨h0, h1, h2⟩ | ⟨h0, h1, h2, h3⟩ | ⟨h0, h1, h2, h3, h4⟩ | ⟨h0, h1, h2, h3, h4, h5⟩ | ⟨h0, h1, h2, h3, h4, h5⟩
    · skip
      have hN2 := hN1 (fun e => by injection e with a0 a1 a2 a3 a4 a5; exact h0 a0.symm)
      clear hN1 hEq
      go_wp2_with fail
      refine wp_region_plan [.val (.agg #[.int .i64 p', .int .i64 o', .int .i64 f', .int .i64 m', .int .i64 g', .string s']), .val (.slice (some ⟨b, q, none⟩) l.length c), .val (.int .i64 ((k : Int))), .val (.pointer (some ⟨b, q + k * 6, none⟩)), .val (.agg #[.int .i64 p, .int .i64 o, .int .i64 f, .int .i64 m, .int .i64 g, .string s]), .val (.bool false)] (by kernel_rfl) (by kernel_rfl) (by kernel_rfl) ?_
      intro X
      iterate 6
        refine plan_val (by kernel_rfl) (fun u hu => ?_) ?_
        · obtain ⟨hc, hf, hz⟩ := hu.of_drew.facts
          go_simp
        simp only [Act.put, List.setIfInBounds_toArray, List.set_cons_zero, List.set_cons_succ, Nat.reduceAdd]
      refine plan_end ?_
      intro w' hB
      have hk := hB.calm.of_drew
      clear hB
      go_wp2_with fail
      go_roundw
      case rel => exact ⟨k + 1, by omega, by go_num, hu.call hk, hN2⟩
      case measure => simp [intOf]; omega
    · skip
      subst h0
      have hN2 := hN1 (fun e => by injection e with a0 a1 a2 a3 a4 a5; exact h1 a1.symm)
      clear hN1 hEq
      go_wp2_with fail
      refine wp_region_plan [.val (.agg #[.int .i64 p', .int .i64 o', .int .i64 f', .int .i64 m', .int .i64 g', .string s']), .val (.slice (some ⟨b, q, none⟩) l.length c), .val (.int .i64 ((k : Int))), .val (.pointer (some ⟨b, q + k * 6, none⟩)), .val (.agg #[.int .i64 p', .int .i64 o, .int .i64 f, .int .i64 m, .int .i64 g, .string s]), .val (.bool false)] (by kernel_rfl) (by kernel_rfl) (by kernel_rfl) ?_
      intro X
      iterate 6
        refine plan_val (by kernel_rfl) (fun u hu => ?_) ?_
        · obtain ⟨hc, hf, hz⟩ := hu.of_drew.facts
          go_simp
        simp only [Act.put, List.setIfInBounds_toArray, List.set_cons_zero, List.set_cons_succ, Nat.reduceAdd]
      refine plan_end ?_
      intro w' hB
      have hk := hB.calm.of_drew
      clear hB
      go_wp2_with fail
      go_roundw
      case rel => exact ⟨k + 1, by omega, by go_num, hu.call hk, hN2⟩
      case measure => simp [intOf]; omega
    · skip
      subst h0
      subst h1
      have hN2 := hN1 (fun e => by injection e with a0 a1 a2 a3 a4 a5; exact h2 a2.symm)
      clear hN1 hEq
      go_wp2_with fail
      refine wp_region_plan [.val (.agg #[.int .i64 p', .int .i64 o', .int .i64 f', .int .i64 m', .int .i64 g', .string s']), .val (.slice (some ⟨b, q, none⟩) l.length c), .val (.int .i64 ((k : Int))), .val (.pointer (some ⟨b, q + k * 6, none⟩)), .val (.agg #[.int .i64 p', .int .i64 o', .int .i64 f, .int .i64 m, .int .i64 g, .string s]), .val (.bool false)] (by kernel_rfl) (by kernel_rfl) (by kernel_rfl) ?_
      intro X
      iterate 6
        refine plan_val (by kernel_rfl) (fun u hu => ?_) ?_
        · obtain ⟨hc, hf, hz⟩ := hu.of_drew.facts
          go_simp
        simp only [Act.put, List.setIfInBounds_toArray, List.set_cons_zero, List.set_cons_succ, Nat.reduceAdd]
      refine plan_end ?_
      intro w' hB
      have hk := hB.calm.of_drew
      clear hB
      go_wp2_with fail
      go_roundw
      case rel => exact ⟨k + 1, by omega, by go_num, hu.call hk, hN2⟩
      case measure => simp [intOf]; omega
    · skip
      subst h0
      subst h1
      subst h2
      have hN2 := hN1 (fun e => by injection e with a0 a1 a2 a3 a4 a5; exact h3 a3.symm)
      clear hN1 hEq
      go_wp2_with fail
      refine wp_region_plan [.val (.agg #[.int .i64 p', .int .i64 o', .int .i64 f', .int .i64 m', .int .i64 g', .string s']), .val (.slice (some ⟨b, q, none⟩) l.length c), .val (.int .i64 ((k : Int))), .val (.pointer (some ⟨b, q + k * 6, none⟩)), .val (.agg #[.int .i64 p', .int .i64 o', .int .i64 f', .int .i64 m, .int .i64 g, .string s]), .val (.bool false)] (by kernel_rfl) (by kernel_rfl) (by kernel_rfl) ?_
      intro X
      iterate 6
        refine plan_val (by kernel_rfl) (fun u hu => ?_) ?_
        · obtain ⟨hc, hf, hz⟩ := hu.of_drew.facts
          go_simp
        simp only [Act.put, List.setIfInBounds_toArray, List.set_cons_zero, List.set_cons_succ, Nat.reduceAdd]
      refine plan_end ?_
      intro w' hB
      have hk := hB.calm.of_drew
      clear hB
      go_wp2_with fail
      go_roundw
      case rel => exact ⟨k + 1, by omega, by go_num, hu.call hk, hN2⟩
      case measure => simp [intOf]; omega
    · skip
      subst h0
      subst h1
      subst h2
      subst h3
      have hN2 := hN1 (fun e => by injection e with a0 a1 a2 a3 a4 a5; exact h4 a4.symm)
      clear hN1 hEq
      go_wp2_with fail
      refine wp_region_plan [.val (.agg #[.int .i64 p', .int .i64 o', .int .i64 f', .int .i64 m', .int .i64 g', .string s']), .val (.slice (some ⟨b, q, none⟩) l.length c), .val (.int .i64 ((k : Int))), .val (.pointer (some ⟨b, q + k * 6, none⟩)), .val (.agg #[.int .i64 p', .int .i64 o', .int .i64 f', .int .i64 m', .int .i64 g, .string s]), .val (.bool false)] (by kernel_rfl) (by kernel_rfl) (by kernel_rfl) ?_
      intro X
      iterate 6
        refine plan_val (by kernel_rfl) (fun u hu => ?_) ?_
        · obtain ⟨hc, hf, hz⟩ := hu.of_drew.facts
          go_simp
        simp only [Act.put, List.setIfInBounds_toArray, List.set_cons_zero, List.set_cons_succ, Nat.reduceAdd]
      refine plan_end ?_
      intro w' hB
      have hk := hB.calm.of_drew
      clear hB
      go_wp2_with fail
      go_roundw
      case rel => exact ⟨k + 1, by omega, by go_num, hu.call hk, hN2⟩
      case measure => simp [intOf]; omega
    · skip
      subst h0
      subst h1
      subst h2
      subst h3
      subst h4
      have hs1 : (s'.toList == s.toList) = false := str_ne h5
      have hN2 := hN1 (fun e => by injection e with a0 a1 a2 a3 a4 a5; exact h5 a5.symm)
      clear hN1 hEq
      go_wp2_with fail
      refine wp_region_plan [.val (.agg #[.int .i64 p', .int .i64 o', .int .i64 f', .int .i64 m', .int .i64 g', .string s']), .val (.slice (some ⟨b, q, none⟩) l.length c), .val (.int .i64 ((k : Int))), .val (.pointer (some ⟨b, q + k * 6, none⟩)), .val (.agg #[.int .i64 p', .int .i64 o', .int .i64 f', .int .i64 m', .int .i64 g', .string s]), .val (.bool false)] (by kernel_rfl) (by kernel_rfl) (by kernel_rfl) ?_
      intro X
      iterate 6
        refine plan_val (by kernel_rfl) (fun u hu => ?_) ?_
        · obtain ⟨hc, hf, hz⟩ := hu.of_drew.facts
          go_simp
        simp only [Act.put, List.setIfInBounds_toArray, List.set_cons_zero, List.set_cons_succ, Nat.reduceAdd]
      refine plan_end ?_
      intro w' hB
      have hk := hB.calm.of_drew
      clear hB
      clear hs1
      go_wp2_with fail
      go_roundw
      case rel => exact ⟨k + 1, by omega, by go_num, hu.call hk, hN2⟩
      case measure => simp [intOf]; omega
    · skip
      subst h0
      subst h1
      subst h2
      subst h3
      subst h4
      subst h5
      have K := hEq rfl
      clear hN1 hEq
      go_wp2_with fail
      refine wp_region_plan [.val (.agg #[.int .i64 p', .int .i64 o', .int .i64 f', .int .i64 m', .int .i64 g', .string s']), .val (.slice (some ⟨b, q, none⟩) l.length c), .val (.int .i64 ((k : Int))), .val (.pointer (some ⟨b, q + k * 6, none⟩)), .val (.agg #[.int .i64 p', .int .i64 o', .int .i64 f', .int .i64 m', .int .i64 g', .string s']), .val (.bool true)] (by kernel_rfl) (by kernel_rfl) (by kernel_rfl) ?_
      intro X
      iterate 6
        refine plan_val (by kernel_rfl) (fun u hu => ?_) ?_
        · obtain ⟨hc, hf, hz⟩ := hu.of_drew.facts
          go_simp
        simp only [Act.put, List.setIfInBounds_toArray, List.set_cons_zero, List.set_cons_succ, Nat.reduceAdd]
      refine plan_end ?_
      intro w' hB
      have hk := hB.calm.of_drew
      clear hB
      go_wp2_with fail
      go_ret
      exact ⟨by rw [K.out]; rfl, HU.out.call (hu.call hk)⟩

set_option maxRecDepth 100000 in
theorem FIX.mem {l : List El} {x : El} {r : Int} (h : FIX (fun e => decide (e = x)) l r) : (0 ≤ r ∧ x ∈ l) ∨ (r = -1 ∧ ¬ x ∈ l) := by
  rcases h with ⟨h1, h2⟩ | ⟨i, h1, h2, h3, -⟩
  · exact .inr ⟨h1, fun h => by have := h2 x h; simp at this⟩
  · have h3 : l[i] = x := of_decide_eq_true h3
    exact .inl ⟨by omega, by rw [← h3]; exact List.getElem_mem h1⟩
set_option maxRecDepth 100000 in
set_option maxHeartbeats 4000000 in
theorem containsE_any (A : Option Addr) (c : Nat) (l : List El) (p' o' f' m' g' : Int) (s' : ByteArray) (w : World) (hn : l.length ≤ 9223372036854775807) (hL : Lies w A l) :
    Calls Try.prog 29 #[.slice A l.length c, .agg #[.int .i64 p', .int .i64 o', .int .i64 f', .int .i64 m', .int .i64 g', .string s']] w fun e w' => e = .returned (.bool (decide ((⟨p', o', f', m', g', s'⟩ : El) ∈ l))) ∧ Calm w w' := by
  obtain ⟨r, hr⟩ := FIX_ex (fun e => decide (e = (⟨p', o', f', m', g', s'⟩ : El))) l
  have hx := heap_new w (.cells #[.int .i64 p', .int .i64 o', .int .i64 f', .int .i64 m', .int .i64 g', .string s'] 33)
  have hu := (Calm.refl w).alloc (.cells #[.int .i64 p', .int .i64 o', .int .i64 f', .int .i64 m', .int .i64 g', .string s'] 33)
  have cI := indexE_any A c l p' o' f' m' g' r s' _ hn (hL.calm hu) hr
  have hm := hr.mem
  obtain ⟨x0, x1, x2, x3, x4, x5, hxs⟩ := row6 hx
  clear hr hL hx
  rcases hm with ⟨h1, h2⟩ | ⟨rfl, h2⟩
  · rw [decide_eq_true h2]
    clear h2
    go_enter Try.func29, Try.ntmps29
    go_wp2_with (go_at_call 62; refine cI.mono ?_; rintro e w1 ⟨rfl, hb1⟩)
    go_ret
    exact ⟨ret_bool (by simp), hu.call hb1⟩
  · rw [decide_eq_false h2]
    clear h2
    go_enter Try.func29, Try.ntmps29
    go_wp2_with (go_at_call 62; refine cI.mono ?_; rintro e w1 ⟨rfl, hb1⟩)
    go_ret
    exact ⟨rfl, hu.call hb1⟩
end Go.Proofs.Ytccfcloekjogkaa
