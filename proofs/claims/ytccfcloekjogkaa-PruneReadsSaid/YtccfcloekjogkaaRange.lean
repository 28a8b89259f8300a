/- run.Range, annalref.Range. -/
import Derived.Test.YtccfcloekjogkaaOwn
import Derived.Test.YtccfcloekjogkaaRun1
import Derived.Test.YtccfcloekjogkaaPure2
import Derived.Lib.Hide
namespace Go.Proofs.Ytccfcloekjogkaa
open Go.RowKit

/-- A call hands back a slice that reads as l, and an error. -/
def SlEnd (l : List El) (n : Int) (w : World) (e : Ending) (w' : World) : Prop := ∃ v, e = .returned (.tuple #[v, .int .i64 n]) ∧ Sl w' v l ∧ Calm w w'
def Sl1End (l : List El) (w : World) (e : Ending) (w' : World) : Prop := ∃ v, e = .returned v ∧ Sl w' v l ∧ Calm w w'
set_option maxRecDepth 100000 in
theorem OwnR.sl {base : Nat} {w : World} {v : Value} {l : List El} (h : OwnR base w v l) (hw : ∀ e ∈ l, e.wf) : Sl w v l := by
  obtain ⟨A, c, hv, h1, h2, h3⟩ := h.lies hw
  exact ⟨A, c, hv, by omega, h3⟩

set_option maxRecDepth 100000 in
theorem inR_iff (p o f m g : Int) (s : ByteArray) (p' o' f' p2 o2 f2 t : Int) : inR (p', o', f') (p2, o2, f2) t ⟨p, o, f, m, g, s⟩ = true ↔ kcmp p' o' f' p o f ≤ 0 ∧ kcmp p o f p2 o2 f2 ≤ 0 ∧ liveP m g t := by
  unfold inR
  rw [decide_eq_true_eq]
  have h1 : kLt (p, o, f) (p', o', f') ↔ kcmp p' o' f' p o f = 1 := kcmp_kGt.symm
  have h2 : kLt (p2, o2, f2) (p, o, f) ↔ kcmp p o f p2 o2 f2 = 1 := kcmp_kGt.symm
  simp only [El.key, El.live]
  rw [h1, h2]
  rcases kcmp_or p' o' f' p o f with h | h | h <;> rcases kcmp_or p o f p2 o2 f2 with h' | h' | h' <;> simp [h, h']

set_option maxRecDepth 100000 in
set_option maxHeartbeats 8000000 in
theorem runRange_any (A : Option Addr) (d : Nat) (l : List El) (p' o' f' p2 o2 f2 t : Int) (w : World) (hn : l.length ≤ 9223372036854775807) (hL : Lies w A l) :
    Calls Try.prog 35 #[.slice A l.length d, .agg #[.int .i64 p', .int .i64 o', .int .i64 f'], .agg #[.int .i64 p2, .int .i64 o2, .int .i64 f2], .int .i64 t] w (SlEnd (if rgErr l (p', o', f') (p2, o2, f2) = 0 then rangeR l (p', o', f') (p2, o2, f2) t else []) (rgErr l (p', o', f') (p2, o2, f2)) w) := by
  have cC : ∀ u, Calm w u → Calls Try.prog 32 #[.slice A l.length d] u fun e w' => e = .returned (.int .i64 (runErr l)) ∧ Calm u w' := fun u hu => runCheck_any A d l u hn (hL.calm hu)
  have cK := keyCheck_any p' o' f'
  have cK2 := keyCheck_any p2 o2 f2
  have hx : ((w.alloc (.cells #[.int .i64 p', .int .i64 o', .int .i64 f'] 31)).alloc (.cells #[.int .i64 p2, .int .i64 o2, .int .i64 f2] 31)).heap[w.heap.size]? = some (.cells #[.int .i64 p', .int .i64 o', .int .i64 f'] 31 (0, 0)) := heap_past _ (heap_new _ _)
  have hy : ((w.alloc (.cells #[.int .i64 p', .int .i64 o', .int .i64 f'] 31)).alloc (.cells #[.int .i64 p2, .int .i64 o2, .int .i64 f2] 31)).heap[w.heap.size + 1]? = some (.cells #[.int .i64 p2, .int .i64 o2, .int .i64 f2] 31 (0, 0)) := by simpa using heap_new (w.alloc (.cells #[.int .i64 p', .int .i64 o', .int .i64 f'] 31)) (.cells #[.int .i64 p2, .int .i64 o2, .int .i64 f2] 31)
  have hu := ((Calm.refl w).alloc (.cells #[.int .i64 p', .int .i64 o', .int .i64 f'] 31)).alloc (.cells #[.int .i64 p2, .int .i64 o2, .int .i64 f2] 31)
  by_cases he : runErr l = 0
  rotate_left
  · have e1 : rgErr l (p', o', f') (p2, o2, f2) = runErr l := by simp [rgErr, he]
    rw [e1, if_neg he]
    have b1 : (runErr l != 0) = true := by simpa using he
    clear he e1 hL cK cK2
    go_enter Try.func35, Try.ntmps35
    go_wp2_with (go_at_call 32; refine (cC _ hu).mono ?_; rintro e w1 ⟨rfl, hb1⟩; replace hx := (hb1.block (row3 hx).2.2.2).trans hx; replace hy := (hb1.block (row3 hy).2.2.2).trans hy; replace hu := hu.call hb1; clear hb1; obtain ⟨x0, x1, x2, hxs⟩ := row3 hx; obtain ⟨y0, y1, y2, hys⟩ := row3 hy)
    go_ret2
    exact ⟨_, rfl, Sl.nil _ _ _, hu⟩
  have hG := runErr_zero.1 he
  rw [he] at cC
  by_cases hk : keyErr p' o' f' = 0
  rotate_left
  · have e1 : rgErr l (p', o', f') (p2, o2, f2) = keyErr p' o' f' := by simp [rgErr, he, kErr, hk]
    rw [e1, if_neg hk]
    have b1 : (keyErr p' o' f' != 0) = true := by simpa using hk
    clear he hk e1 hL hG cK2
    go_enter Try.func35, Try.ntmps35
    go_wp2_with (first
      | (go_at_call 32; refine (cC _ hu).mono ?_; rintro e w1 ⟨rfl, hb1⟩; replace hx := (hb1.block (row3 hx).2.2.2).trans hx; replace hy := (hb1.block (row3 hy).2.2.2).trans hy; replace hu := hu.call hb1; clear hb1; obtain ⟨x0, x1, x2, hxs⟩ := row3 hx; obtain ⟨y0, y1, y2, hys⟩ := row3 hy)
      | (go_at_call 65; refine (cK _).mono ?_; rintro e w1 ⟨rfl, hb1⟩; replace hx := (hb1.block (row3 hx).2.2.2).trans hx; replace hy := (hb1.block (row3 hy).2.2.2).trans hy; replace hu := hu.call hb1; clear hb1; obtain ⟨x0, x1, x2, hxs⟩ := row3 hx; obtain ⟨y0, y1, y2, hys⟩ := row3 hy))
    go_ret2
    exact ⟨_, rfl, Sl.nil _ _ _, hu⟩
  by_cases hk2 : keyErr p2 o2 f2 = 0
  rotate_left
  · have e1 : rgErr l (p', o', f') (p2, o2, f2) = keyErr p2 o2 f2 := by simp [rgErr, he, kErr, hk]
    rw [e1, if_neg hk2]
    rw [hk] at cK
    have b1 : (keyErr p2 o2 f2 != 0) = true := by simpa using hk2
    clear he hk hk2 e1 hL hG
    go_enter Try.func35, Try.ntmps35
    go_wp2_with (first
      | (go_at_call 32; refine (cC _ hu).mono ?_; rintro e w1 ⟨rfl, hb1⟩; replace hx := (hb1.block (row3 hx).2.2.2).trans hx; replace hy := (hb1.block (row3 hy).2.2.2).trans hy; replace hu := hu.call hb1; clear hb1; obtain ⟨x0, x1, x2, hxs⟩ := row3 hx; obtain ⟨y0, y1, y2, hys⟩ := row3 hy)
      | (go_at_call 65; refine (cK _).mono ?_; rintro e w1 ⟨rfl, hb1⟩; replace hx := (hb1.block (row3 hx).2.2.2).trans hx; replace hy := (hb1.block (row3 hy).2.2.2).trans hy; replace hu := hu.call hb1; clear hb1; obtain ⟨x0, x1, x2, hxs⟩ := row3 hx; obtain ⟨y0, y1, y2, hys⟩ := row3 hy; clear cK)
      | (go_at_call 65; refine (cK2 _).mono ?_; rintro e w1 ⟨rfl, hb1⟩; replace hx := (hb1.block (row3 hx).2.2.2).trans hx; replace hy := (hb1.block (row3 hy).2.2.2).trans hy; replace hu := hu.call hb1; clear hb1; obtain ⟨x0, x1, x2, hxs⟩ := row3 hx; obtain ⟨y0, y1, y2, hys⟩ := row3 hy))
    go_ret2
    exact ⟨_, rfl, Sl.nil _ _ _, hu⟩
  have e1 : rgErr l (p', o', f') (p2, o2, f2) = 0 := by simp [rgErr, he, kErr, hk, hk2]
  rw [e1, if_pos rfl]
  rw [hk] at cK
  rw [hk2] at cK2
  have hn4 : l.length ≤ 400 := hG.1
  clear he hk hk2 e1 hG
  go_enter Try.func35, Try.ntmps35
  go_wp2_with (first
    | (go_at_call 32; refine (cC _ hu).mono ?_; rintro e w1 ⟨rfl, hb1⟩; replace hx := (hb1.block (row3 hx).2.2.2).trans hx; replace hy := (hb1.block (row3 hy).2.2.2).trans hy; replace hu := hu.call hb1; clear hb1; obtain ⟨x0, x1, x2, hxs⟩ := row3 hx; obtain ⟨y0, y1, y2, hys⟩ := row3 hy; clear cC)
    | (go_at_call 65; refine (cK _).mono ?_; rintro e w1 ⟨rfl, hb1⟩; replace hx := (hb1.block (row3 hx).2.2.2).trans hx; replace hy := (hb1.block (row3 hy).2.2.2).trans hy; replace hu := hu.call hb1; clear hb1; obtain ⟨x0, x1, x2, hxs⟩ := row3 hx; obtain ⟨y0, y1, y2, hys⟩ := row3 hy; clear cK)
    | (go_at_call 65; refine (cK2 _).mono ?_; rintro e w1 ⟨rfl, hb1⟩; replace hx := (hb1.block (row3 hx).2.2.2).trans hx; replace hy := (hb1.block (row3 hy).2.2.2).trans hy; replace hu := hu.call hb1; clear hb1; obtain ⟨x0, x1, x2, hxs⟩ := row3 hx; obtain ⟨y0, y1, y2, hys⟩ := row3 hy; clear cK2))
  have hRL : ∀ k, (rangeR (l.take k) (p', o', f') (p2, o2, f2) t).length ≤ 400 := fun k => by
    have h1 := rangeR_le (l.take k) (p', o', f') (p2, o2, f2) t
    have h2 : (l.take k).length ≤ l.length := List.length_take_le' _ _
    omega
  replace hL := hL.calm hu
  clear x0 x1 x2 y0 y1 y2 hxs hys
  obtain ⟨w3, hw3⟩ : ∃ w3 : World, w3 = w1 := ⟨_, rfl⟩
  subst hw3
  go_loopw [13, 33] (fun v i wr => ∃ k : Nat, k ≤ l.length ∧ i = .int .i64 k ∧ Calm w3 wr ∧ Hid (OwnR w3.heap.size wr v (rangeR (l.take k) (p', o', f') (p2, o2, f2) t))) (fun _ i _ => l.length - (intOf i).toNat)
  case atStart => exact ⟨0, Nat.zero_le _, rfl, Calm.refl _, show OwnR _ _ _ _ from OwnR.nil _ _⟩
  case round =>
    obtain ⟨k, hk, rfl, hur, ho⟩ := hrel
    by_cases hlt : k < l.length
    rotate_left
    · have K : Hid (rangeR (l.take k) (p', o', f') (p2, o2, f2) t = rangeR l (p', o', f') (p2, o2, f2) t) := by show _ = _; rw [List.take_of_length_le (by omega)]
      rw [K.out] at ho
      have hS := ho.out.sl fun e he => hL.1 e (List.mem_filter.1 he).1
      replace hur := hu.call hur
      clear K ho
      go_wp2_with fail
      go_ret2
      exact ⟨_, rfl, hS, hur⟩
    replace hx := (hur.block (row3 hx).2.2.2).trans hx
    replace hy := (hur.block (row3 hy).2.2.2).trans hy
    obtain ⟨b, q, p, o, f, m, g, s, rfl, hb, HE, hm, c0, c1, c2, c3, c4, c5⟩ := (hL.calm hur).get hlt
    have hT := rangeR_take HE.out (p', o', f') (p2, o2, f2) t
    have hI := inR_iff p o f m g s p' o' f' p2 o2 f2 t
    have hz : (wr.alloc (.cells #[.int .i64 p, .int .i64 o, .int .i64 f, .int .i64 m, .int .i64 g, .string s] 33)).heap[wr.heap.size]? = some (.cells #[.int .i64 p, .int .i64 o, .int .i64 f, .int .i64 m, .int .i64 g, .string s] 33 (0, 0)) := heap_new _ _
    replace hx := heap_past (.cells #[.int .i64 p, .int .i64 o, .int .i64 f, .int .i64 m, .int .i64 g, .string s] 33) hx
    replace hy := heap_past (.cells #[.int .i64 p, .int .i64 o, .int .i64 f, .int .i64 m, .int .i64 g, .string s] 33) hy
    replace ho := Lib.hid (ho.out.calm ((Calm.refl wr).alloc (.cells #[.int .i64 p, .int .i64 o, .int .i64 f, .int .i64 m, .int .i64 g, .string s] 33)))
    replace hur := hur.alloc (.cells #[.int .i64 p, .int .i64 o, .int .i64 f, .int .i64 m, .int .i64 g, .string s] 33)
    have hRk := hRL k
    obtain ⟨x0, x1, x2, hxs⟩ := row3 hx
    obtain ⟨y0, y1, y2, hys⟩ := row3 hy
    obtain ⟨z0, z1, z2, z3, z4, z5, hzs⟩ := row6 hz
    clear HE hRL hL
    have cA := cmp_any p' o' f' p o f
    have cB := cmp_any p o f p2 o2 f2
    have cL := live_any p o f m g t s
    generalize kcmp p' o' f' p o f = k1 at cA hI
    generalize kcmp p o f p2 o2 f2 = k2 at cB hI
    by_cases hin : inR (p', o', f') (p2, o2, f2) t ⟨p, o, f, m, g, s⟩ = true
    · rw [if_pos hin] at hT
      obtain ⟨h1, h2, h3⟩ := hI.1 hin
      rw [decide_eq_true h3] at cL
      have HT := Lib.hid hT
      clear hI hin h3 hT
      go_wp2_with (first
        | (go_at_call 67; refine (cA _).mono ?_; rintro e w1 ⟨rfl, hb1⟩; replace hx := (hb1.block (row3 hx).2.2.2).trans hx; replace hy := (hb1.block (row3 hy).2.2.2).trans hy; replace hz := (hb1.block (row6 hz).2.2.2.2.2.2).trans hz; replace ho := Lib.hid (ho.out.calm hb1); replace hur := hur.call hb1; clear hb1; obtain ⟨x0, x1, x2, hxs⟩ := row3 hx; obtain ⟨y0, y1, y2, hys⟩ := row3 hy; obtain ⟨z0, z1, z2, z3, z4, z5, hzs⟩ := row6 hz; clear cA)
        | (go_at_call 67; refine (cB _).mono ?_; rintro e w1 ⟨rfl, hb1⟩; replace hx := (hb1.block (row3 hx).2.2.2).trans hx; replace hy := (hb1.block (row3 hy).2.2.2).trans hy; replace hz := (hb1.block (row6 hz).2.2.2.2.2.2).trans hz; replace ho := Lib.hid (ho.out.calm hb1); replace hur := hur.call hb1; clear hb1; obtain ⟨x0, x1, x2, hxs⟩ := row3 hx; obtain ⟨y0, y1, y2, hys⟩ := row3 hy; obtain ⟨z0, z1, z2, z3, z4, z5, hzs⟩ := row6 hz; clear cB)
        | (go_at_call 68; refine (cL _).mono ?_; rintro e w1 ⟨rfl, hb1⟩; replace hx := (hb1.block (row3 hx).2.2.2).trans hx; replace hy := (hb1.block (row3 hy).2.2.2).trans hy; replace hz := (hb1.block (row6 hz).2.2.2.2.2.2).trans hz; replace ho := Lib.hid (ho.out.calm hb1); replace hur := hur.call hb1; clear hb1; obtain ⟨x0, x1, x2, hxs⟩ := row3 hx; obtain ⟨y0, y1, y2, hys⟩ := row3 hy; obtain ⟨z0, z1, z2, z3, z4, z5, hzs⟩ := row6 hz)
        | (at_builtin; refine wpList_append_el rfl _ _ rfl _ _ _ rfl (ho.out.calm ((Calm.refl _).alloc _)) _ _ p o f m g s _ rfl (heap_new _ _) (by omega) (by simp; exact Nat.le_succ_of_le hur.size) ?_; intro v' w9 ho9 hc9; have hur9 := hc9 _ (Nat.le_refl _) (hur.alloc _); rw [← HT.out] at ho9))
      have HO := Lib.hid ho9
      clear ho9 HT hc9
      go_roundw
      case rel => exact ⟨k + 1, by omega, by go_num, hur9, HO⟩
      case measure => simp [intOf]; omega
    · rw [if_neg hin, List.append_nil] at hT
      rw [← hT] at ho
      clear hT
      have hc : ¬ k1 ≤ 0 ∨ (k1 ≤ 0 ∧ ¬ k2 ≤ 0) ∨ (k1 ≤ 0 ∧ k2 ≤ 0 ∧ ¬ liveP m g t) := by
        by_cases a1 : k1 ≤ 0
        · by_cases a2 : k2 ≤ 0
          · exact .inr (.inr ⟨a1, a2, fun a3 => hin (hI.2 ⟨a1, a2, a3⟩)⟩)
          · exact .inr (.inl ⟨a1, a2⟩)
        · exact .inl a1
      clear hI hin
      rcases hc with h1 | ⟨h1, h2⟩ | ⟨h1, h2, h3⟩
      all_goals
        try rw [decide_eq_false h3] at cL
        try clear h3
        go_wp2_with (first
          | (go_at_call 67; refine (cA _).mono ?_; rintro e w1 ⟨rfl, hb1⟩; replace hx := (hb1.block (row3 hx).2.2.2).trans hx; replace hy := (hb1.block (row3 hy).2.2.2).trans hy; replace hz := (hb1.block (row6 hz).2.2.2.2.2.2).trans hz; replace ho := Lib.hid (ho.out.calm hb1); replace hur := hur.call hb1; clear hb1; obtain ⟨x0, x1, x2, hxs⟩ := row3 hx; obtain ⟨y0, y1, y2, hys⟩ := row3 hy; obtain ⟨z0, z1, z2, z3, z4, z5, hzs⟩ := row6 hz; clear cA)
          | (go_at_call 67; refine (cB _).mono ?_; rintro e w1 ⟨rfl, hb1⟩; replace hx := (hb1.block (row3 hx).2.2.2).trans hx; replace hy := (hb1.block (row3 hy).2.2.2).trans hy; replace hz := (hb1.block (row6 hz).2.2.2.2.2.2).trans hz; replace ho := Lib.hid (ho.out.calm hb1); replace hur := hur.call hb1; clear hb1; obtain ⟨x0, x1, x2, hxs⟩ := row3 hx; obtain ⟨y0, y1, y2, hys⟩ := row3 hy; obtain ⟨z0, z1, z2, z3, z4, z5, hzs⟩ := row6 hz; clear cB)
          | (go_at_call 68; refine (cL _).mono ?_; rintro e w1 ⟨rfl, hb1⟩; replace hx := (hb1.block (row3 hx).2.2.2).trans hx; replace hy := (hb1.block (row3 hy).2.2.2).trans hy; replace hz := (hb1.block (row6 hz).2.2.2.2.2.2).trans hz; replace ho := Lib.hid (ho.out.calm hb1); replace hur := hur.call hb1; clear hb1; obtain ⟨x0, x1, x2, hxs⟩ := row3 hx; obtain ⟨y0, y1, y2, hys⟩ := row3 hy; obtain ⟨z0, z1, z2, z3, z4, z5, hzs⟩ := row6 hz))
        go_roundw
        case rel => exact ⟨k + 1, by omega, by go_num, hur, ho⟩
        case measure => simp [intOf]; omega
end Go.Proofs.Ytccfcloekjogkaa
