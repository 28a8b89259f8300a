/- annalref.Range. -/
import Derived.Test.YtgebilpdinbfgaaQRange
namespace Go.Proofs.Ytgebilpdinbfgaa
open Go.RowKit

set_option maxRecDepth 100000 in
theorem inR_ahead (p o f m g : Int) (s : ByteArray) (p' o' f' p2 o2 f2 t : Int) : inR (p', o', f') (p2, o2, f2) t ⟨p, o, f, m, g, s⟩ = true ↔ aheadB p o f p' o' f' = false ∧ aheadB p2 o2 f2 p o f = false ∧ liveP m g t := by
  unfold inR aheadB
  rw [decide_eq_true_eq, decide_eq_false_iff_not, decide_eq_false_iff_not, kcmp_kLt, kcmp_kLt]
  exact Iff.rfl

set_option maxRecDepth 100000 in
set_option maxHeartbeats 8000000 in
theorem refRange_any (A : Option Addr) (d : Nat) (l : List El) (p' o' f' p2 o2 f2 t : Int) (w : World) (hn4 : l.length ≤ 400) (hL : Lies w A l) :
    Calls Try.prog 14 #[.slice A l.length d, .agg #[.int .i64 p', .int .i64 o', .int .i64 f'], .agg #[.int .i64 p2, .int .i64 o2, .int .i64 f2], .int .i64 t] w (Sl1End (rangeR l (p', o', f') (p2, o2, f2) t) w) := by
  have hx : ((w.alloc (.cells #[.int .i64 p', .int .i64 o', .int .i64 f'] 26)).alloc (.cells #[.int .i64 p2, .int .i64 o2, .int .i64 f2] 26)).heap[w.heap.size]? = some (.cells #[.int .i64 p', .int .i64 o', .int .i64 f'] 26 (0, 0)) := heap_past _ (heap_new _ _)
  have hy : ((w.alloc (.cells #[.int .i64 p', .int .i64 o', .int .i64 f'] 26)).alloc (.cells #[.int .i64 p2, .int .i64 o2, .int .i64 f2] 26)).heap[w.heap.size + 1]? = some (.cells #[.int .i64 p2, .int .i64 o2, .int .i64 f2] 26 (0, 0)) := by simpa using heap_new (w.alloc (.cells #[.int .i64 p', .int .i64 o', .int .i64 f'] 26)) (.cells #[.int .i64 p2, .int .i64 o2, .int .i64 f2] 26)
  have hu := ((Calm.refl w).alloc (.cells #[.int .i64 p', .int .i64 o', .int .i64 f'] 26)).alloc (.cells #[.int .i64 p2, .int .i64 o2, .int .i64 f2] 26)
  have hwz : ((w.alloc (.cells #[.int .i64 p', .int .i64 o', .int .i64 f'] 26)).alloc (.cells #[.int .i64 p2, .int .i64 o2, .int .i64 f2] 26)).heap.size = w.heap.size + 1 + 1 := by simp
  go_enter Try.func14, Try.ntmps14
  go_wp2_with fail
  generalize ((w.alloc (.cells #[.int .i64 p', .int .i64 o', .int .i64 f'] 26)).alloc (.cells #[.int .i64 p2, .int .i64 o2, .int .i64 f2] 26)) = w1 at hx hy hu hwz ⊢
  have hRL : ∀ k, (rangeR (l.take k) (p', o', f') (p2, o2, f2) t).length ≤ 400 := fun k => by
    have h1 := rangeR_le (l.take k) (p', o', f') (p2, o2, f2) t
    have h2 : (l.take k).length ≤ l.length := List.length_take_le' _ _
    omega
  replace hL := hL.calm hu
  obtain ⟨w3, hw3⟩ : ∃ w3 : World, w3 = w1 := ⟨_, rfl⟩
  subst hw3
  go_loopw [9, 14] (fun v i wr => ∃ k : Nat, k ≤ l.length ∧ i = .int .i64 k ∧ Calm w3 wr ∧ Hid (OwnR w3.heap.size wr v (rangeR (l.take k) (p', o', f') (p2, o2, f2) t))) (fun _ i _ => l.length - (intOf i).toNat)
  case atStart => exact ⟨0, Nat.zero_le _, rfl, Calm.refl _, show OwnR _ _ _ _ from OwnR.nil _ _⟩
  case round =>
    obtain ⟨k, hk, rfl, hur, ho⟩ := hrel
    by_cases hlt : k < l.length
    rotate_left
    · have K : Hid (rangeR (l.take k) (p', o', f') (p2, o2, f2) t = rangeR l (p', o', f') (p2, o2, f2) t) := by show _ = _; rw [List.take_of_length_le (by omega)]
      rw [K.out] at ho
      have hS := ho.out.sl fun e he => hL.1 e (List.mem_filter.1 he).1
      replace hur := hu.call hur
      clear K ho
      go_wp2_with fail
      go_ret
      exact ⟨_, rfl, hS, hur⟩
    replace hx := (hur.block (row3 hx).2.2.2).trans hx
    replace hy := (hur.block (row3 hy).2.2.2).trans hy
    obtain ⟨b, q, p, o, f, m, g, s, rfl, hb, HE, hm, c0, c1, c2, c3, c4, c5⟩ := (hL.calm hur).get hlt
    have hT := rangeR_take HE.out (p', o', f') (p2, o2, f2) t
    have hI := inR_ahead p o f m g s p' o' f' p2 o2 f2 t
    have hz : (wr.alloc (.cells #[.int .i64 p, .int .i64 o, .int .i64 f, .int .i64 m, .int .i64 g, .string s] 33)).heap[wr.heap.size]? = some (.cells #[.int .i64 p, .int .i64 o, .int .i64 f, .int .i64 m, .int .i64 g, .string s] 33 (0, 0)) := heap_new _ _
    replace hx := heap_past (.cells #[.int .i64 p, .int .i64 o, .int .i64 f, .int .i64 m, .int .i64 g, .string s] 33) hx
    replace hy := heap_past (.cells #[.int .i64 p, .int .i64 o, .int .i64 f, .int .i64 m, .int .i64 g, .string s] 33) hy
    replace ho := Lib.hid (ho.out.calm ((Calm.refl wr).alloc (.cells #[.int .i64 p, .int .i64 o, .int .i64 f, .int .i64 m, .int .i64 g, .string s] 33)))
    replace hur := hur.alloc (.cells #[.int .i64 p, .int .i64 o, .int .i64 f, .int .i64 m, .int .i64 g, .string s] 33)
    have hRk := hRL k
    obtain ⟨x0, x1, x2, hxs⟩ := row3 hx
    obtain ⟨y0, y1, y2, hys⟩ := row3 hy
    obtain ⟨z0, z1, z2, z3, z4, z5, hzs⟩ := row6 hz
    clear HE hRL hL
    have cA := ahead_any p o f p' o' f'
    have cB := ahead_any p2 o2 f2 p o f
    have cL := refLive_any p o f m g t s
    generalize aheadB p o f p' o' f' = k1 at cA hI
    generalize aheadB p2 o2 f2 p o f = k2 at cB hI
    by_cases hin : inR (p', o', f') (p2, o2, f2) t ⟨p, o, f, m, g, s⟩ = true
    · rw [if_pos hin] at hT
      obtain ⟨rfl, rfl, h3⟩ := hI.1 hin
      rw [decide_eq_true h3] at cL
      have HT := Lib.hid hT
      clear hI hin h3 hT
      go_wp2_with (first
        | (go_at_call 36; refine (cA _).mono ?_; rintro e w1 ⟨rfl, hb1⟩; replace hx := (hb1.block (row3 hx).2.2.2).trans hx; replace hy := (hb1.block (row3 hy).2.2.2).trans hy; replace hz := (hb1.block (row6 hz).2.2.2.2.2.2).trans hz; replace ho := Lib.hid (ho.out.calm hb1); replace hur := hur.call hb1; clear hb1; obtain ⟨x0, x1, x2, hxs⟩ := row3 hx; obtain ⟨y0, y1, y2, hys⟩ := row3 hy; obtain ⟨z0, z1, z2, z3, z4, z5, hzs⟩ := row6 hz; clear cA)
        | (go_at_call 36; refine (cB _).mono ?_; rintro e w1 ⟨rfl, hb1⟩; replace hx := (hb1.block (row3 hx).2.2.2).trans hx; replace hy := (hb1.block (row3 hy).2.2.2).trans hy; replace hz := (hb1.block (row6 hz).2.2.2.2.2.2).trans hz; replace ho := Lib.hid (ho.out.calm hb1); replace hur := hur.call hb1; clear hb1; obtain ⟨x0, x1, x2, hxs⟩ := row3 hx; obtain ⟨y0, y1, y2, hys⟩ := row3 hy; obtain ⟨z0, z1, z2, z3, z4, z5, hzs⟩ := row6 hz; clear cB)
        | (go_at_call 34; refine (cL _).mono ?_; rintro e w1 ⟨rfl, hb1⟩; replace hx := (hb1.block (row3 hx).2.2.2).trans hx; replace hy := (hb1.block (row3 hy).2.2.2).trans hy; replace hz := (hb1.block (row6 hz).2.2.2.2.2.2).trans hz; replace ho := Lib.hid (ho.out.calm hb1); replace hur := hur.call hb1; clear hb1; obtain ⟨x0, x1, x2, hxs⟩ := row3 hx; obtain ⟨y0, y1, y2, hys⟩ := row3 hy; obtain ⟨z0, z1, z2, z3, z4, z5, hzs⟩ := row6 hz)
        | (at_builtin; refine wpList_append_el rfl _ _ rfl _ _ _ rfl (ho.out.calm ((Calm.refl _).alloc _)) _ _ p o f m g s _ rfl (heap_new _ _) (by omega) (by simp; exact Nat.le_succ_of_le hur.size) ?_; intro v' w9 ho9 hc9; have hur9 := hc9 _ (Nat.le_refl _) (hur.alloc _); rw [← HT.out] at ho9))
      have HO := Lib.hid ho9
      clear ho9 HT hc9
      go_roundw
      case rel => exact ⟨k + 1, by omega, by go_num, hur9, HO⟩
      case measure => simp [intOf]; omega
    · rw [if_neg hin, List.append_nil] at hT
      rw [← hT] at ho
      clear hT
      have hc : liveP m g t ∧ k1 = true ∨ (liveP m g t ∧ k1 = false ∧ k2 = true) ∨ ¬ liveP m g t := by
        by_cases a3 : liveP m g t
        · cases k1
          · cases k2
            · exact absurd (hI.2 ⟨rfl, rfl, a3⟩) hin
            · exact .inr (.inl ⟨a3, rfl, rfl⟩)
          · exact .inl ⟨a3, rfl⟩
        · exact .inr (.inr a3)
      clear hI hin
      rcases hc with ⟨h3, rfl⟩ | ⟨h3, rfl, rfl⟩ | h3
      all_goals
        first | rw [decide_eq_false h3] at cL | rw [decide_eq_true h3] at cL
        clear h3
        go_wp2_with (first
          | (go_at_call 36; refine (cA _).mono ?_; rintro e w1 ⟨rfl, hb1⟩; replace hx := (hb1.block (row3 hx).2.2.2).trans hx; replace hy := (hb1.block (row3 hy).2.2.2).trans hy; replace hz := (hb1.block (row6 hz).2.2.2.2.2.2).trans hz; replace ho := Lib.hid (ho.out.calm hb1); replace hur := hur.call hb1; clear hb1; obtain ⟨x0, x1, x2, hxs⟩ := row3 hx; obtain ⟨y0, y1, y2, hys⟩ := row3 hy; obtain ⟨z0, z1, z2, z3, z4, z5, hzs⟩ := row6 hz; clear cA)
          | (go_at_call 36; refine (cB _).mono ?_; rintro e w1 ⟨rfl, hb1⟩; replace hx := (hb1.block (row3 hx).2.2.2).trans hx; replace hy := (hb1.block (row3 hy).2.2.2).trans hy; replace hz := (hb1.block (row6 hz).2.2.2.2.2.2).trans hz; replace ho := Lib.hid (ho.out.calm hb1); replace hur := hur.call hb1; clear hb1; obtain ⟨x0, x1, x2, hxs⟩ := row3 hx; obtain ⟨y0, y1, y2, hys⟩ := row3 hy; obtain ⟨z0, z1, z2, z3, z4, z5, hzs⟩ := row6 hz; clear cB)
          | (go_at_call 34; refine (cL _).mono ?_; rintro e w1 ⟨rfl, hb1⟩; replace hx := (hb1.block (row3 hx).2.2.2).trans hx; replace hy := (hb1.block (row3 hy).2.2.2).trans hy; replace hz := (hb1.block (row6 hz).2.2.2.2.2.2).trans hz; replace ho := Lib.hid (ho.out.calm hb1); replace hur := hur.call hb1; clear hb1; obtain ⟨x0, x1, x2, hxs⟩ := row3 hx; obtain ⟨y0, y1, y2, hys⟩ := row3 hy; obtain ⟨z0, z1, z2, z3, z4, z5, hzs⟩ := row6 hz))
        go_roundw
        case rel => exact ⟨k + 1, by omega, by go_num, hur, ho⟩
        case measure => simp [intOf]; omega
end Go.Proofs.Ytgebilpdinbfgaa
