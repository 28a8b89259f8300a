/- annalref.Put. -/
import Derived.Test.YtjjibnkooloagaaSorted
import Derived.Test.YtjjibnkooloagaaRun2
namespace Go.Proofs.Ytjjibnkooloagaa
open Go.RowKit

theorem any_take {l : List El} {k : Nat} {e : El} (h : l[k]? = some e) (q : El → Bool) : (l.take (k + 1)).any q = ((l.take k).any q || q e) := by
  rw [take_snoc h, List.any_append, List.any_cons, List.any_nil, Bool.or_false]
theorem map_take {l : List El} {k : Nat} {e : El} (h : l[k]? = some e) (q : El → El) : (l.take (k + 1)).map q = (l.take k).map q ++ [q e] := by
  rw [take_snoc h, List.map_append]; rfl

set_option maxRecDepth 100000 in
set_option maxHeartbeats 16000000 in
theorem refPut_any (A : Option Addr) (d : Nat) (l : List El) (p' o' f' : Int) (s' : ByteArray) (t : Int) (w : World) (hn : l.length ≤ 9223372036854775807) (ht0 : -9223372036854775808 ≤ t) (hL : Lies w A l) :
    Calls Try.prog 26 #[.slice A l.length d, .agg #[.int .i64 p', .int .i64 o', .int .i64 f'], .string s', .int .i64 t] w (SlEnd (if putErr l (p', o', f') s' t = 0 then putR l (p', o', f') s' t else []) (putErr l (p', o', f') s' t) w) := by
  have hy := heap_new w (.cells #[.int .i64 p', .int .i64 o', .int .i64 f'] 30)
  have hu := (Calm.refl w).alloc (.cells #[.int .i64 p', .int .i64 o', .int .i64 f'] 30)
  have cR : ∀ u, Calm w u → Calls Try.prog 15 #[.slice A l.length d] u fun e w' => e = .returned (.int .i64 (runErr l)) ∧ Calm u w' := fun u hu => refRun_any A d l u hn (hL.calm hu)
  have cE := fun u => refElem_any p' o' f' t 0 s' u ht0
  have cT : ∀ u, Calm w u → Calls Try.prog 18 #[.slice A l.length d] u fun e w' => e = .returned (.int .i64 (latest l)) ∧ Calm u w' := fun u hu => refLatest_any A d l u hn (hL.calm hu)
  by_cases he : runErr l = 0
  rotate_left
  · have e1 : putErr l (p', o', f') s' t = runErr l := by simp [putErr, wrErr, he]
    rw [e1, if_neg he]
    have b1 : (runErr l != 0) = true := by simpa using he
    clear he e1 hL
    go_enter Try.func26, Try.ntmps26
    go_wp2_with (go_at_call 15; refine (cR _ hu).mono ?_; rintro e w1 ⟨rfl, hb1⟩; replace hy := (hb1.block (row3 hy).2.2.2).trans hy; replace hu := hu.call hb1; clear hb1; obtain ⟨y0, y1, y2, hys⟩ := row3 hy)
    go_ret2
    exact ⟨_, rfl, Sl.nil _ _ _, hu⟩
  have hG := runErr_zero.1 he
  by_cases h2 : elemErr p' o' f' t 0 s'.size = 0
  rotate_left
  · have hx : (fresh (p', o', f') s' t).err = elemErr p' o' f' t 0 s'.size := rfl
    have e1 : putErr l (p', o', f') s' t = elemErr p' o' f' t 0 s'.size := by simp [putErr, wrErr, he, hx, h2]
    rw [e1, if_neg h2]
    rw [he] at cR
    have b1 : (elemErr p' o' f' t 0 s'.size != 0) = true := by simpa using h2
    clear he e1 hL hx h2 hG
    go_enter Try.func26, Try.ntmps26
    go_wp2_with (first
      | (go_at_call 15; refine (cR _ hu).mono ?_; rintro e w1 ⟨rfl, hb1⟩; replace hy := (hb1.block (row3 hy).2.2.2).trans hy; replace hu := hu.call hb1; clear hb1; obtain ⟨y0, y1, y2, hys⟩ := row3 hy)
      | (go_at_call 39; refine (cE _).mono ?_; rintro e w1 ⟨rfl, hb1⟩; have hz := (hb1.block (by simp)).trans (heap_new _ _); replace hy := (hb1.block (row3 (heap_past _ hy)).2.2.2).trans (heap_past _ hy); replace hu := (hu.alloc _).call hb1; clear hb1; obtain ⟨y0, y1, y2, hys⟩ := row3 hy; obtain ⟨z0, z1, z2, z3, z4, z5, hzs⟩ := row6 hz))
    go_ret2
    exact ⟨_, rfl, Sl.nil _ _ _, hu⟩
  have hx : (fresh (p', o', f') s' t).err = 0 := h2
  rw [he] at cR
  rw [h2] at cE
  by_cases h3 : t < latest l
  · have e1 : putErr l (p', o', f') s' t = 9 := by
      have : (fresh (p', o', f') s' t).m = t := rfl
      simp [putErr, wrErr, he, hx, this, h3]
    rw [e1, if_neg (by decide)]
    generalize latest l = t1 at cT h3
    clear he e1 hL hx h2 hG
    go_enter Try.func26, Try.ntmps26
    go_wp2_with (first
      | (go_at_call 15; refine (cR _ hu).mono ?_; rintro e w1 ⟨rfl, hb1⟩; replace hy := (hb1.block (row3 hy).2.2.2).trans hy; replace hu := hu.call hb1; clear hb1; obtain ⟨y0, y1, y2, hys⟩ := row3 hy)
      | (go_at_call 39; refine (cE _).mono ?_; rintro e w1 ⟨rfl, hb1⟩; have hz := (hb1.block (by simp)).trans (heap_new _ _); replace hy := (hb1.block (row3 (heap_past _ hy)).2.2.2).trans (heap_past _ hy); replace hu := (hu.alloc _).call hb1; clear hb1; obtain ⟨y0, y1, y2, hys⟩ := row3 hy; obtain ⟨z0, z1, z2, z3, z4, z5, hzs⟩ := row6 hz)
      | (go_at_call 18; refine (cT _ hu).mono ?_; rintro e w1 ⟨rfl, hb1⟩; replace hz := (hb1.block (row6 hz).2.2.2.2.2.2).trans hz; replace hy := (hb1.block (row3 hy).2.2.2).trans hy; replace hu := hu.call hb1; clear hb1; obtain ⟨y0, y1, y2, hys⟩ := row3 hy; obtain ⟨z0, z1, z2, z3, z4, z5, hzs⟩ := row6 hz))
    go_ret2
    exact ⟨_, rfl, Sl.nil _ _ _, hu⟩
  have hw : wrErr l (fresh (p', o', f') s' t) = 0 := wrErr_zero.2 ⟨hG, hx, by show latest l ≤ t; omega⟩
  have hgood := fun hp : putErr l (p', o', f') s' t = 0 => put_good hw hp
  have hpe : putErr l (p', o', f') s' t = if l.any (isSame (p', o', f') t) then 0 else if 400 ≤ l.length then 8 else 0 := by unfold putErr; rw [if_pos hw]
  have hn4 := hG.1
  have HG := Lib.hid hG
  have HW := Lib.hid hw
  generalize latest l = t1 at cT h3
  clear he hx h2 hw hG
  generalize hPE : putErr l (p', o', f') s' t = pe at hgood hpe ⊢
  generalize hPR : (if pe = 0 then putR l (p', o', f') s' t else []) = pr
  have HPR := Lib.hid hPR
  have HGD := Lib.hid hgood
  have HPE := Lib.hid hpe
  clear hPE hPR hgood hpe
  go_enter Try.func26, Try.ntmps26
  go_wp2_with (first
    | (go_at_call 15; refine (cR _ hu).mono ?_; rintro e w1 ⟨rfl, hb1⟩; replace hy := (hb1.block (row3 hy).2.2.2).trans hy; replace hu := hu.call hb1; clear hb1; obtain ⟨y0, y1, y2, hys⟩ := row3 hy; clear cR)
    | (go_at_call 39; refine (cE _).mono ?_; rintro e w1 ⟨rfl, hb1⟩; have hz := (hb1.block (by simp)).trans (heap_new _ _); replace hy := (hb1.block (row3 (heap_past _ hy)).2.2.2).trans (heap_past _ hy); replace hu := (hu.alloc _).call hb1; clear hb1; obtain ⟨y0, y1, y2, hys⟩ := row3 hy; obtain ⟨z0, z1, z2, z3, z4, z5, hzs⟩ := row6 hz; clear cE)
    | (go_at_call 18; refine (cT _ hu).mono ?_; rintro e w1 ⟨rfl, hb1⟩; replace hz := (hb1.block (row6 hz).2.2.2.2.2.2).trans hz; replace hy := (hb1.block (row3 hy).2.2.2).trans hy; replace hu := hu.call hb1; clear hb1; obtain ⟨y0, y1, y2, hys⟩ := row3 hy; obtain ⟨z0, z1, z2, z3, z4, z5, hzs⟩ := row6 hz; clear cT))
  replace hL := hL.calm hu
  clear z0 z1 z2 z3 z4 z5 hzs y0 y1 y2 hys h3
  obtain ⟨w3, hw3⟩ : ∃ w3 : World, w3 = w1 := ⟨_, rfl⟩
  subst hw3
  go_loopw [13, 14, 37] (fun v b i wr => ∃ k : Nat, k ≤ l.length ∧ i = .int .i64 k ∧ b = .bool ((l.take k).any (isSame (p', o', f') t)) ∧ Calm w3 wr ∧ Hid (OwnR w3.heap.size wr v ((l.take k).map (upd (p', o', f') s' t)))) (fun _ _ i _ => l.length - (intOf i).toNat)
  case atStart => exact ⟨0, Nat.zero_le _, rfl, rfl, Calm.refl _, show OwnR _ _ _ _ from OwnR.nil _ _⟩
  case round =>
    obtain ⟨k, hk, rfl, rfl, hur, ho⟩ := hrel
    replace hy := (hur.block (row3 hy).2.2.2).trans hy
    replace hz := (hur.block (row6 hz).2.2.2.2.2.2).trans hz
    by_cases hlt : k < l.length
    rotate_left
    · have hkl : l.take k = l := List.take_of_length_le (by omega)
      rw [hkl] at ho ⊢
      have hlm : (l.map (upd (p', o', f') s' t)).length = l.length := List.length_map _
      cases hsm : l.any (isSame (p', o', f') t)
      · by_cases hfull : 400 ≤ l.length
        · have e3 : pe = 8 := by rw [HPE.out, hsm, if_pos hfull]; rfl
          subst e3
          have e4 : Hid (pr = []) := HPR.out.symm.trans (if_neg (by decide))
          have hl4 : (400 : Int) ≤ (l.length : Int) := by omega
          replace hur := hu.call hur
          clear ho hy hz hsm hkl HPR HPE HGD HG HW hlm
          go_wp2_with fail
          go_ret2
          exact ⟨_, rfl, by rw [e4.out]; exact Sl.nil _ _ _, hur⟩
        · have e3 : pe = 0 := by rw [HPE.out, hsm, if_neg hfull]; rfl
          subst e3
          have hR : pr = ins (fresh (p', o', f') s' t) (l.map (upd (p', o', f') s' t)) := by
            rw [← HPR.out, if_pos rfl]; unfold putR; rw [hsm]; rfl
          have hgd := HGD.out rfl
          have hwm : ∀ e ∈ l.map (upd (p', o', f') s' t), e.wf := fun e he => by
            obtain ⟨x, hx, rfl⟩ := List.mem_map.1 he
            unfold El.wf; rw [upd_m]; exact HG.out.wf x hx
          have hwf2 : Hid (El.wf (fresh (p', o', f') s' t)) := ht0
          obtain ⟨A9, c9, hv9, _, _, hL9⟩ := ho.out.lies hwm
          rw [hlm] at hv9
          subst hv9
          have hl4 : ¬ ((400 : Int) ≤ (l.length : Int)) := by omega
          have cS := sorted_any A9 c9 (l.map (upd (p', o', f') s' t)) p' o' f' t 0 s' wr (by rw [hlm]; exact hn4) hL9 hwf2.out
          rw [hlm] at cS
          have HR := Lib.hid hR
          obtain ⟨z0, z1, z2, z3, z4, z5, hzs⟩ := row6 hz
          replace hur := hu.call hur
          clear ho hy hz hsm hkl HPR HPE HGD HG HW hlm hR hgd hwm hL9 hfull
          go_wp2_with (go_at_call 57; refine cS.mono ?_; rintro e w9 ⟨v9, rfl, hS9, hb9⟩; have HS9 := Lib.hid hS9; replace hur := hur.call hb9; clear hS9 hb9)
          go_ret2
          exact ⟨_, rfl, by rw [HR.out]; exact HS9.out, hur⟩
      · have e3 : pe = 0 := by rw [HPE.out, hsm]; rfl
        subst e3
        have hR : pr = l.map (upd (p', o', f') s' t) := by
          rw [← HPR.out, if_pos rfl]; unfold putR; rw [hsm]; rfl
        have hwm : ∀ e ∈ l.map (upd (p', o', f') s' t), e.wf := fun e he => by
          obtain ⟨x, hx, rfl⟩ := List.mem_map.1 he
          unfold El.wf; rw [upd_m]; exact HG.out.wf x hx
        have HS := Lib.hid (ho.out.sl hwm)
        have HR := Lib.hid hR
        replace hur := hu.call hur
        clear ho hy hz hsm hkl HPR HPE HGD HG HW hlm hR hwm
        go_wp2_with fail
        go_ret2
        exact ⟨_, rfl, by rw [HR.out]; exact HS.out, hur⟩
    obtain ⟨b, q, p, o, f, m, g, s, rfl, hb, HE, hm, c0, c1, c2, c3, c4, c5⟩ := (hL.calm hur).get hlt
    have hmt := map_take HE.out (upd (p', o', f') s' t)
    have hat := any_take HE.out (isSame (p', o', f') t)
    have hlk : ((l.take k).map (upd (p', o', f') s' t)).length ≤ 400 := by rw [List.length_map, List.length_take]; omega
    replace hy := heap_past (.cells #[.int .i64 p, .int .i64 o, .int .i64 f, .int .i64 m, .int .i64 g, .string s] 32) hy
    replace hz := heap_past (.cells #[.int .i64 p, .int .i64 o, .int .i64 f, .int .i64 m, .int .i64 g, .string s] 32) hz
    obtain ⟨y0, y1, y2, hys⟩ := row3 hy
    clear HE hL HPR HGD HPE HG HW
    generalize (l.take k).map (upd (p', o', f') s' t) = pre at ho hmt hlk ⊢
    generalize (l.take k).any (isSame (p', o', f') t) = sm at hat ⊢
    by_cases hK : p = p' ∧ o = o' ∧ f = f'
    · obtain ⟨rfl, rfl, rfl⟩ := hK
      by_cases hg0 : g = 0
      · subst hg0
        by_cases hmt2 : m = t
        · subst hmt2
          have e1 : upd (p, o, f) s' m ⟨p, o, f, m, 0, s⟩ = ⟨p, o, f, m, 0, s'⟩ := by simp [upd, El.key]
          have e2 : isSame (p, o, f) m ⟨p, o, f, m, 0, s⟩ = true := by simp [isSame, El.key]
          rw [e1] at hmt
          rw [e2, Bool.or_true] at hat
          have HS := Lib.hid hmt
          have HA := Lib.hid hat
          clear e1 e2 hmt hat
          go_wp2_with (at_builtin; refine wpList_append_el rfl _ _ rfl _ _ _ rfl (ho.out.calm (((Calm.refl _).alloc _).alloc _)) _ _ p o f m 0 s' _ rfl (heap_alloc2_new _ _ _) (by omega) (by have := hur.size; simp; omega) ?_; intro v' w9 ho9 hc9)
          rw [← HS.out] at ho9
          have HO9 := Lib.hid ho9
          have hur9 := hc9 _ (Nat.le_refl _) ((hur.alloc _).alloc _)
          clear ho9 hc9 HS
          go_roundw
          case rel => exact ⟨k + 1, by omega, by go_num, by rw [HA.out], hur9, HO9⟩
          case measure => simp [intOf]; omega
        · have e1 : upd (p, o, f) s' t ⟨p, o, f, m, 0, s⟩ = ⟨p, o, f, m, t, s⟩ := by simp [upd, El.key, hmt2]
          have e2 : isSame (p, o, f) t ⟨p, o, f, m, 0, s⟩ = false := by simp [isSame, El.key, hmt2]
          rw [e1] at hmt
          rw [e2, Bool.or_false] at hat
          have HS := Lib.hid hmt
          have HA := Lib.hid hat
          clear e1 e2 hmt hat
          go_wp2_with (at_builtin; refine wpList_append_el rfl _ _ rfl _ _ _ rfl (ho.out.calm (((Calm.refl _).alloc _).alloc _)) _ _ p o f m t s _ rfl (heap_alloc2_new _ _ _) (by omega) (by have := hur.size; simp; omega) ?_; intro v' w9 ho9 hc9)
          rw [← HS.out] at ho9
          have HO9 := Lib.hid ho9
          have hur9 := hc9 _ (Nat.le_refl _) ((hur.alloc _).alloc _)
          clear ho9 hc9 HS
          go_roundw
          case rel => exact ⟨k + 1, by omega, by go_num, by rw [HA.out], hur9, HO9⟩
          case measure => simp [intOf]; omega
      · have e1 : upd (p, o, f) s' t ⟨p, o, f, m, g, s⟩ = ⟨p, o, f, m, g, s⟩ := by simp [upd, El.key, hg0]
        have e2 : isSame (p, o, f) t ⟨p, o, f, m, g, s⟩ = false := by simp [isSame, El.key, hg0]
        rw [e1] at hmt
        rw [e2, Bool.or_false] at hat
        have HS := Lib.hid hmt
        have HA := Lib.hid hat
        clear e1 e2 hmt hat
        go_wp2_with (at_builtin; refine wpList_append_el rfl _ _ rfl _ _ _ rfl (ho.out.calm (((Calm.refl _).alloc _).alloc _)) _ _ p o f m g s _ rfl (heap_alloc2_new _ _ _) (by omega) (by have := hur.size; simp; omega) ?_; intro v' w9 ho9 hc9)
        rw [← HS.out] at ho9
        have HO9 := Lib.hid ho9
        have hur9 := hc9 _ (Nat.le_refl _) ((hur.alloc _).alloc _)
        clear ho9 hc9 HS
        go_roundw
        case rel => exact ⟨k + 1, by omega, by go_num, by rw [HA.out], hur9, HO9⟩
        case measure => simp [intOf]; omega
    · have e1 : upd (p', o', f') s' t ⟨p, o, f, m, g, s⟩ = ⟨p, o, f, m, g, s⟩ := by
        unfold upd; rw [if_neg (fun h => hK (by simpa [El.key] using h.1))]
      have e2 : isSame (p', o', f') t ⟨p, o, f, m, g, s⟩ = false := by
        unfold isSame; rw [decide_eq_false_iff_not]; exact fun h => hK (by simpa [El.key] using h.1)
      rw [e1] at hmt
      rw [e2, Bool.or_false] at hat
      have HS := Lib.hid hmt
      have HA := Lib.hid hat
      have h3 : ¬ p = p' ∨ (p = p' ∧ ¬ o = o') ∨ (p = p' ∧ o = o' ∧ ¬ f = f') := by omega
      clear e1 e2 hmt hat hK
      rcases h3 with h3 | ⟨h3, h4⟩ | ⟨h3, h4, h5⟩
      · go_wp2_with (at_builtin; refine wpList_append_el rfl _ _ rfl _ _ _ rfl (ho.out.calm (((Calm.refl _).alloc _).alloc _)) _ _ p o f m g s _ rfl (heap_alloc2_new _ _ _) (by omega) (by have := hur.size; simp; omega) ?_; intro v' w9 ho9 hc9)
        rw [← HS.out] at ho9
        have HO9 := Lib.hid ho9
        have hur9 := hc9 _ (Nat.le_refl _) ((hur.alloc _).alloc _)
        clear ho9 hc9 HS
        go_roundw
        case rel => exact ⟨k + 1, by omega, by go_num, by rw [HA.out], hur9, HO9⟩
        case measure => simp [intOf]; omega
      · subst h3
        go_wp2_with (at_builtin; refine wpList_append_el rfl _ _ rfl _ _ _ rfl (ho.out.calm (((Calm.refl _).alloc _).alloc _)) _ _ p o f m g s _ rfl (heap_alloc2_new _ _ _) (by omega) (by have := hur.size; simp; omega) ?_; intro v' w9 ho9 hc9)
        rw [← HS.out] at ho9
        have HO9 := Lib.hid ho9
        have hur9 := hc9 _ (Nat.le_refl _) ((hur.alloc _).alloc _)
        clear ho9 hc9 HS
        go_roundw
        case rel => exact ⟨k + 1, by omega, by go_num, by rw [HA.out], hur9, HO9⟩
        case measure => simp [intOf]; omega
      · subst h3
        subst h4
        go_wp2_with (at_builtin; refine wpList_append_el rfl _ _ rfl _ _ _ rfl (ho.out.calm (((Calm.refl _).alloc _).alloc _)) _ _ p o f m g s _ rfl (heap_alloc2_new _ _ _) (by omega) (by have := hur.size; simp; omega) ?_; intro v' w9 ho9 hc9)
        rw [← HS.out] at ho9
        have HO9 := Lib.hid ho9
        have hur9 := hc9 _ (Nat.le_refl _) ((hur.alloc _).alloc _)
        clear ho9 hc9 HS
        go_roundw
        case rel => exact ⟨k + 1, by omega, by go_num, by rw [HA.out], hur9, HO9⟩
        case measure => simp [intOf]; omega
end Go.Proofs.Ytjjibnkooloagaa
