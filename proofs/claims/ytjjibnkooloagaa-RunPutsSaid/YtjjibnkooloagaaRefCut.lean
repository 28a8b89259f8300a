/- annalref.Cut. -/
import Derived.Test.YtjjibnkooloagaaRefPut
namespace Go.Proofs.Ytjjibnkooloagaa
open Go.RowKit

theorem cut_take {l : List El} {k : Nat} {e : El} (h : l[k]? = some e) (q : El → Option El) : (l.take (k + 1)).filterMap q = (l.take k).filterMap q ++ (match q e with | some x => [x] | none => []) := by
  rw [take_snoc h, List.filterMap_append]
  congr 1
  rw [List.filterMap_cons]
  cases q e <;> rfl
theorem cutStep_mem {l : List El} {k : Int × Int × Int} {t : Int} {e : El} (h : e ∈ l.filterMap (cutStep k t)) : ∃ x ∈ l, x.m = e.m := by
  obtain ⟨x, hx, h2⟩ := List.mem_filterMap.1 h
  refine ⟨x, hx, ?_⟩
  unfold cutStep at h2
  split at h2
  · split at h2
    · cases h2
    · injection h2 with h2; subst h2; rfl
  · injection h2 with h2; subst h2; rfl

set_option maxRecDepth 100000 in
set_option maxHeartbeats 16000000 in
theorem refCut_any (A : Option Addr) (d : Nat) (l : List El) (p' o' f' : Int) (t : Int) (w : World) (hn : l.length ≤ 9223372036854775807) (hL : Lies w A l) :
    Calls Try.prog 28 #[.slice A l.length d, .agg #[.int .i64 p', .int .i64 o', .int .i64 f'], .int .i64 t] w (SlEnd (if cutErr l (p', o', f') t = 0 then cutR l (p', o', f') t else []) (cutErr l (p', o', f') t) w) := by
  have hy := heap_new w (.cells #[.int .i64 p', .int .i64 o', .int .i64 f'] 30)
  have hu := (Calm.refl w).alloc (.cells #[.int .i64 p', .int .i64 o', .int .i64 f'] 30)
  have cR : ∀ u, Calm w u → Calls Try.prog 15 #[.slice A l.length d] u fun e w' => e = .returned (.int .i64 (runErr l)) ∧ Calm u w' := fun u hu => refRun_any A d l u hn (hL.calm hu)
  have cE := refKey_any p' o' f'
  have cT : ∀ u, Calm w u → Calls Try.prog 18 #[.slice A l.length d] u fun e w' => e = .returned (.int .i64 (latest l)) ∧ Calm u w' := fun u hu => refLatest_any A d l u hn (hL.calm hu)
  have hxe : (fresh (p', o', f') { data := #[] } t).err = elemErr p' o' f' t 0 0 := rfl
  by_cases he : runErr l = 0
  rotate_left
  · have e1 : cutErr l (p', o', f') t = runErr l := by simp [cutErr, wrErr, he]
    rw [e1, if_neg he]
    have b1 : (runErr l != 0) = true := by simpa using he
    clear he e1 hL
    go_enter Try.func28, Try.ntmps28
    go_wp2_with (go_at_call 15; refine (cR _ hu).mono ?_; rintro e w1 ⟨rfl, hb1⟩; replace hy := (hb1.block (row3 hy).2.2.2).trans hy; replace hu := hu.call hb1; clear hb1; obtain ⟨y0, y1, y2, hys⟩ := row3 hy)
    go_ret2
    exact ⟨_, rfl, Sl.nil _ _ _, hu⟩
  have hG := runErr_zero.1 he
  rw [he] at cR
  by_cases h2 : keyErr p' o' f' = 0
  rotate_left
  · have e1 : cutErr l (p', o', f') t = keyErr p' o' f' := by
      have h3 : elemErr p' o' f' t 0 0 = keyErr p' o' f' := elemErr_key h2
      simp [cutErr, wrErr, he, hxe, h3, h2]
    rw [e1, if_neg h2]
    have b1 : (keyErr p' o' f' != 0) = true := by simpa using h2
    clear he e1 hL hxe h2 hG
    go_enter Try.func28, Try.ntmps28
    go_wp2_with (first
      | (go_at_call 15; refine (cR _ hu).mono ?_; rintro e w1 ⟨rfl, hb1⟩; replace hy := (hb1.block (row3 hy).2.2.2).trans hy; replace hu := hu.call hb1; clear hb1; obtain ⟨y0, y1, y2, hys⟩ := row3 hy)
      | (go_at_call 47; refine (cE _).mono ?_; rintro e w1 ⟨rfl, hb1⟩; replace hy := (hb1.block (row3 hy).2.2.2).trans hy; replace hu := hu.call hb1; clear hb1; obtain ⟨y0, y1, y2, hys⟩ := row3 hy))
    go_ret2
    exact ⟨_, rfl, Sl.nil _ _ _, hu⟩
  rw [h2] at cE
  by_cases h3 : 1 ≤ t ∧ t ≤ 2147483647
  rotate_left
  · have e1 : cutErr l (p', o', f') t = 9 := by
      have h4 : elemErr p' o' f' t 0 0 = 9 := elemErr_time h2 (by unfold timeOk; omega)
      simp [cutErr, wrErr, he, hxe, h4]
    rw [e1, if_neg (by decide)]
    have h5 : t < 1 ∨ (1 ≤ t ∧ 2147483647 < t) := by omega
    clear he e1 hL hxe h2 hG h3
    rcases h5 with h5 | ⟨h5, h6⟩
    all_goals
      go_enter Try.func28, Try.ntmps28
      go_wp2_with (first
        | (go_at_call 15; refine (cR _ hu).mono ?_; rintro e w1 ⟨rfl, hb1⟩; replace hy := (hb1.block (row3 hy).2.2.2).trans hy; replace hu := hu.call hb1; clear hb1; obtain ⟨y0, y1, y2, hys⟩ := row3 hy)
        | (go_at_call 47; refine (cE _).mono ?_; rintro e w1 ⟨rfl, hb1⟩; replace hy := (hb1.block (row3 hy).2.2.2).trans hy; replace hu := hu.call hb1; clear hb1; obtain ⟨y0, y1, y2, hys⟩ := row3 hy))
      go_ret2
      exact ⟨_, rfl, Sl.nil _ _ _, hu⟩
  obtain ⟨h3, h4⟩ := h3
  have hxz : elemErr p' o' f' t 0 0 = 0 := elemErr_ok h2 (by unfold timeOk; omega) (by omega)
  by_cases h5 : t < latest l
  · have e1 : cutErr l (p', o', f') t = 9 := by
      have : (fresh (p', o', f') { data := #[] } t).m = t := rfl
      simp [cutErr, wrErr, he, hxe, hxz, this, h5]
    rw [e1, if_neg (by decide)]
    generalize latest l = t1 at cT h5
    clear he e1 hL hxe h2 hG hxz
    go_enter Try.func28, Try.ntmps28
    go_wp2_with (first
      | (go_at_call 15; refine (cR _ hu).mono ?_; rintro e w1 ⟨rfl, hb1⟩; replace hy := (hb1.block (row3 hy).2.2.2).trans hy; replace hu := hu.call hb1; clear hb1; obtain ⟨y0, y1, y2, hys⟩ := row3 hy)
      | (go_at_call 47; refine (cE _).mono ?_; rintro e w1 ⟨rfl, hb1⟩; replace hy := (hb1.block (row3 hy).2.2.2).trans hy; replace hu := hu.call hb1; clear hb1; obtain ⟨y0, y1, y2, hys⟩ := row3 hy)
      | (go_at_call 18; refine (cT _ hu).mono ?_; rintro e w1 ⟨rfl, hb1⟩; replace hy := (hb1.block (row3 hy).2.2.2).trans hy; replace hu := hu.call hb1; clear hb1; obtain ⟨y0, y1, y2, hys⟩ := row3 hy))
    go_ret2
    exact ⟨_, rfl, Sl.nil _ _ _, hu⟩
  have hw : wrErr l (fresh (p', o', f') { data := #[] } t) = 0 := wrErr_zero.2 ⟨hG, by rw [hxe]; exact hxz, by show latest l ≤ t; omega⟩
  have hpe : cutErr l (p', o', f') t = if l.any (isOpen (p', o', f')) then 0 else 4 := by unfold cutErr; rw [if_pos hw]
  have hn4 := hG.1
  have HG := Lib.hid hG
  generalize latest l = t1 at cT h5
  clear he h2 hw hG hxe hxz
  generalize hPE : cutErr l (p', o', f') t = pe at hpe ⊢
  generalize hPR : (if pe = 0 then cutR l (p', o', f') t else []) = pr
  have HPR := Lib.hid hPR
  have HPE := Lib.hid hpe
  clear hPE hPR hpe
  go_enter Try.func28, Try.ntmps28
  go_wp2_with (first
    | (go_at_call 15; refine (cR _ hu).mono ?_; rintro e w1 ⟨rfl, hb1⟩; replace hy := (hb1.block (row3 hy).2.2.2).trans hy; replace hu := hu.call hb1; clear hb1; obtain ⟨y0, y1, y2, hys⟩ := row3 hy; clear cR)
    | (go_at_call 47; refine (cE _).mono ?_; rintro e w1 ⟨rfl, hb1⟩; replace hy := (hb1.block (row3 hy).2.2.2).trans hy; replace hu := hu.call hb1; clear hb1; obtain ⟨y0, y1, y2, hys⟩ := row3 hy; clear cE)
    | (go_at_call 18; refine (cT _ hu).mono ?_; rintro e w1 ⟨rfl, hb1⟩; replace hy := (hb1.block (row3 hy).2.2.2).trans hy; replace hu := hu.call hb1; clear hb1; obtain ⟨y0, y1, y2, hys⟩ := row3 hy; clear cT))
  replace hL := hL.calm hu
  clear y0 y1 y2 hys h5
  obtain ⟨w3, hw3⟩ : ∃ w3 : World, w3 = w1 := ⟨_, rfl⟩
  subst hw3
  go_loopw [10, 11, 38] (fun v b i wr => ∃ k : Nat, k ≤ l.length ∧ i = .int .i64 k ∧ b = .bool ((l.take k).any (isOpen (p', o', f'))) ∧ Calm w3 wr ∧ Hid (OwnR w3.heap.size wr v ((l.take k).filterMap (cutStep (p', o', f') t)))) (fun _ _ i _ => l.length - (intOf i).toNat)
  case atStart => exact ⟨0, Nat.zero_le _, rfl, rfl, Calm.refl _, show OwnR _ _ _ _ from OwnR.nil _ _⟩
  case round =>
    obtain ⟨k, hk, rfl, rfl, hur, ho⟩ := hrel
    replace hy := (hur.block (row3 hy).2.2.2).trans hy
    by_cases hlt : k < l.length
    rotate_left
    · have hkl : l.take k = l := List.take_of_length_le (by omega)
      rw [hkl] at ho ⊢
      cases hsm : l.any (isOpen (p', o', f'))
      · have e3 : pe = 4 := by rw [HPE.out, hsm]; rfl
        subst e3
        have e4 : Hid (pr = []) := HPR.out.symm.trans (if_neg (by decide))
        replace hur := hu.call hur
        clear ho hy hsm hkl HPR HPE HG
        go_wp2_with fail
        go_ret2
        exact ⟨_, rfl, by rw [e4.out]; exact Sl.nil _ _ _, hur⟩
      · have e3 : pe = 0 := by rw [HPE.out, hsm]; rfl
        subst e3
        have hR : pr = l.filterMap (cutStep (p', o', f') t) := by rw [← HPR.out, if_pos rfl]; rfl
        have hwm : ∀ e ∈ l.filterMap (cutStep (p', o', f') t), e.wf := fun e he => by
          obtain ⟨x, hx, h9⟩ := cutStep_mem he
          unfold El.wf; rw [← h9]; exact HG.out.wf x hx
        have HS := Lib.hid (ho.out.sl hwm)
        have HR := Lib.hid hR
        replace hur := hu.call hur
        clear ho hy hsm hkl HPR HPE HG hR hwm
        go_wp2_with fail
        go_ret2
        exact ⟨_, rfl, by rw [HR.out]; exact HS.out, hur⟩
    obtain ⟨b, q, p, o, f, m, g, s, rfl, hb, HE, hm, c0, c1, c2, c3, c4, c5⟩ := (hL.calm hur).get hlt
    have hmt := cut_take HE.out (cutStep (p', o', f') t)
    have hat := any_take HE.out (isOpen (p', o', f'))
    have hlk : ((l.take k).filterMap (cutStep (p', o', f') t)).length ≤ 400 := Nat.le_trans (List.length_filterMap_le _ _) (by rw [List.length_take]; omega)
    replace hy := heap_past (.cells #[.int .i64 p, .int .i64 o, .int .i64 f, .int .i64 m, .int .i64 g, .string s] 32) hy
    obtain ⟨y0, y1, y2, hys⟩ := row3 hy
    clear HE hL HPR HPE HG
    generalize (l.take k).filterMap (cutStep (p', o', f') t) = pre at ho hmt hlk ⊢
    generalize (l.take k).any (isOpen (p', o', f')) = sm at hat ⊢
    by_cases hK : p = p' ∧ o = o' ∧ f = f'
    · obtain ⟨rfl, rfl, rfl⟩ := hK
      by_cases hg0 : g = 0
      · subst hg0
        have e2 : isOpen (p, o, f) ⟨p, o, f, m, 0, s⟩ = true := by simp [isOpen, El.key]
        rw [e2, Bool.or_true] at hat
        have HA := Lib.hid hat
        by_cases hmt2 : m = t
        · subst hmt2
          have e1 : cutStep (p, o, f) m ⟨p, o, f, m, 0, s⟩ = none := by simp [cutStep, El.key]
          rw [e1, List.append_nil] at hmt
          have ho8 := ho.out.calm ((Calm.refl wr).alloc (.cells #[.int .i64 p, .int .i64 o, .int .i64 f, .int .i64 m, .int .i64 0, .string s] 32))
          rw [← hmt] at ho8
          have HO9 := Lib.hid ho8
          clear ho8
          clear e1 e2 hmt hat ho
          go_wp2_with fail
          go_roundw
          case rel => exact ⟨k + 1, by omega, by go_num, by rw [HA.out], hur.alloc _, HO9⟩
          case measure => simp [intOf]; omega
        · have e1 : cutStep (p, o, f) t ⟨p, o, f, m, 0, s⟩ = some ⟨p, o, f, m, t, s⟩ := by simp [cutStep, El.key, hmt2]
          rw [e1] at hmt
          have HS := Lib.hid hmt
          clear e1 e2 hmt hat
          go_wp2_with (at_builtin; refine wpList_append_el rfl _ _ rfl _ _ _ rfl (ho.out.calm (((Calm.refl _).alloc _).alloc _)) _ _ p o f m t s _ rfl (heap_alloc2_new _ _ _) (by omega) (by have := hur.size; simp; omega) ?_; intro v' w9 ho9 hc9)
          rw [← HS.out] at ho9
          have HO9 := Lib.hid ho9
          have hur9 := hc9 _ (Nat.le_refl _) ((hur.alloc _).alloc _)
          clear ho9 hc9 HS
          go_roundw
          case rel => exact ⟨k + 1, by omega, by go_num, by rw [HA.out], hur9, HO9⟩
          case measure => simp [intOf]; omega
      · have e1 : cutStep (p, o, f) t ⟨p, o, f, m, g, s⟩ = some ⟨p, o, f, m, g, s⟩ := by simp [cutStep, El.key, hg0]
        have e2 : isOpen (p, o, f) ⟨p, o, f, m, g, s⟩ = false := by simp [isOpen, El.key, hg0]
        rw [e1] at hmt
        rw [e2, Bool.or_false] at hat
        have HS := Lib.hid hmt
        have HA := Lib.hid hat
        clear e1 e2 hmt hat
        go_wp2_with (at_builtin; refine wpList_append_el rfl _ _ rfl _ _ _ rfl (ho.out.calm (((Calm.refl _).alloc _).alloc _)) _ _ p o f m g s _ rfl (heap_alloc2_new _ _ _) (by omega) (by have := hur.size; simp; omega) ?_; intro v' w9 ho9 hc9)
        rw [← HS.out] at ho9
        have HO9 := Lib.hid ho9
        have hur9 := hc9 _ (Nat.le_refl _) ((hur.alloc _).alloc _)
        clear ho9 hc9 HS
        go_roundw
        case rel => exact ⟨k + 1, by omega, by go_num, by rw [HA.out], hur9, HO9⟩
        case measure => simp [intOf]; omega
    · have e1 : cutStep (p', o', f') t ⟨p, o, f, m, g, s⟩ = some ⟨p, o, f, m, g, s⟩ := by
        unfold cutStep; rw [if_neg (fun h => hK (by simpa [El.key] using h.1))]
      have e2 : isOpen (p', o', f') ⟨p, o, f, m, g, s⟩ = false := by
        unfold isOpen; rw [decide_eq_false_iff_not]; exact fun h => hK (by simpa [El.key] using h.1)
      rw [e1] at hmt
      rw [e2, Bool.or_false] at hat
      have HS := Lib.hid hmt
      have HA := Lib.hid hat
      have h3 : ¬ p = p' ∨ (p = p' ∧ ¬ o = o') ∨ (p = p' ∧ o = o' ∧ ¬ f = f') := by omega
      clear e1 e2 hmt hat hK
      rcases h3 with h3 | ⟨h3, h4⟩ | ⟨h3, h4, h5⟩
      · go_wp2_with (at_builtin; refine wpList_append_el rfl _ _ rfl _ _ _ rfl (ho.out.calm (((Calm.refl _).alloc _).alloc _)) _ _ p o f m g s _ rfl (heap_alloc2_new _ _ _) (by omega) (by have := hur.size; simp; omega) ?_; intro v' w9 ho9 hc9)
        rw [← HS.out] at ho9
        have HO9 := Lib.hid ho9
        have hur9 := hc9 _ (Nat.le_refl _) ((hur.alloc _).alloc _)
        clear ho9 hc9 HS
        go_roundw
        case rel => exact ⟨k + 1, by omega, by go_num, by rw [HA.out], hur9, HO9⟩
        case measure => simp [intOf]; omega
      · subst h3
        go_wp2_with (at_builtin; refine wpList_append_el rfl _ _ rfl _ _ _ rfl (ho.out.calm (((Calm.refl _).alloc _).alloc _)) _ _ p o f m g s _ rfl (heap_alloc2_new _ _ _) (by omega) (by have := hur.size; simp; omega) ?_; intro v' w9 ho9 hc9)
        rw [← HS.out] at ho9
        have HO9 := Lib.hid ho9
        have hur9 := hc9 _ (Nat.le_refl _) ((hur.alloc _).alloc _)
        clear ho9 hc9 HS
        go_roundw
        case rel => exact ⟨k + 1, by omega, by go_num, by rw [HA.out], hur9, HO9⟩
        case measure => simp [intOf]; omega
      · subst h3
        subst h4
        go_wp2_with (at_builtin; refine wpList_append_el rfl _ _ rfl _ _ _ rfl (ho.out.calm (((Calm.refl _).alloc _).alloc _)) _ _ p o f m g s _ rfl (heap_alloc2_new _ _ _) (by omega) (by have := hur.size; simp; omega) ?_; intro v' w9 ho9 hc9)
        rw [← HS.out] at ho9
        have HO9 := Lib.hid ho9
        have hur9 := hc9 _ (Nat.le_refl _) ((hur.alloc _).alloc _)
        clear ho9 hc9 HS
        go_roundw
        case rel => exact ⟨k + 1, by omega, by go_num, by rw [HA.out], hur9, HO9⟩
        case measure => simp [intOf]; omega
end Go.Proofs.Ytjjibnkooloagaa
