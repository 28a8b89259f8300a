/- PruneEnds: the law's own walk. -/
import Derived.Test.YtccfcloekjogkaaConI
import Derived.Test.YtccfcloekjogkaaConE
import Derived.Test.YtccfcloekjogkaaRead
import Derived.Test.YtccfcloekjogkaaSlices
namespace Go.Proofs.Ytccfcloekjogkaa
open Go.ChangeShapes Go.WideShapes Go.ChangeAt Go.RowKit

set_option maxRecDepth 100000 in
theorem keptNil_err {l : List El} : keepErr l [] = runErr l := by
  unfold keepErr
  split
  · rename_i h; rw [h]; rfl
  · rfl
set_option maxRecDepth 100000 in
theorem keptAll_err {l : List El} (hG : Good l) {T : List Int} (hT : T.length ≤ 20) (h : ∀ t ∈ T, ∃ e ∈ l, t = e.m) : keepErr l T = 0 := by
  unfold keepErr
  rw [runErr_zero.2 hG, if_pos rfl]
  unfold timesErr
  rw [if_neg (by omega), if_pos]
  intro t ht
  obtain ⟨e, he, rfl⟩ := h t ht
  have := err_time (hG.2.1 e he)
  unfold timeOk at this
  omega
set_option maxRecDepth 100000 in
set_option maxHeartbeats 16000000 in
theorem pruneEnds_walk (A : Option Addr) (d : Nat) (l : List El) (w : World) (hn : l.length ≤ 9223372036854775807) (hL : Lies w A l) :
    Calls Try.prog 11 #[.slice A l.length d] w fun e w' => e = .returned (.bool true) ∧ Calm w w' := by
  have cL0 := fun u gB h => keptLit_nil 0 2 { data := #[] } (by omega) (by omega) rfl u gB 33 h
  have cL1 := fun u gB g2 h h2 => keptLit_one 0 2 1 [⟨0, 0, 0, 1, 2, { data := #[] }⟩] { data := #[] } (by omega) (by omega) rfl (by omega) (by rw [if_pos (by omega)]) u gB g2 33 3 h h2
  have cN : ∀ u, Calm w u → Calls Try.prog 36 #[.slice A l.length d, .slice none 0 0] u (KpEnd (if runErr l = 0 then keptR l [] else []) (runErr l) u) := fun u hu => by
    have := kept_any A none d 0 l [] u hn (hL.calm hu) (by simp) (fun h => absurd h (by simp))
    rw [keptNil_err] at this
    exact this
  have hu := Calm.refl w
  by_cases he : runErr l = 0
  rotate_left
  · rw [if_neg he] at cN
    have cC := fun u (hu : Calm w u) => runCheck_any A d l u hn (hL.calm hu)
    have b1 : (runErr l != 0) = true := by simpa using he
    generalize runErr l = E at *
    have b4 : (E == E) = true := by simp
    clear he hL
    go_enter Try.func11, Try.ntmps11
    go_wp2_with (first
      | (go_at_call 36; (with_reducible refine (cL0 _ _ (heap_new _ _)).mono ?_); rintro e w1 ⟨v, rfl, ho, hb1⟩; obtain ⟨A1, c1, rfl, -, -, -⟩ := ho.lies (by simp); replace hu := (hu.alloc _).call hb1; clear hb1 ho)
      | (go_at_call 36; (with_reducible refine (cL1 _ _ _ (heap_past _ (heap_new _ _)) (heap_alloc2_new _ _ _)).mono ?_); rintro e w2 ⟨v, rfl, ho, hb1⟩; obtain ⟨A2, c2, rfl, -, -, -⟩ := ho.lies (by simp [El.wf]); replace hu := ((hu.alloc _).alloc _).call hb1; clear hb1 ho)
      | (go_at_call 36; (with_reducible refine (cN _ hu).mono ?_); rintro e w3 ⟨v, rfl, ho, hb1⟩; obtain ⟨A3, c3, rfl, -, -, hL3⟩ := ho.lies (by simp); replace hu := hu.call hb1; clear hb1 ho)
      | (go_at_call 32; (with_reducible refine (cC _ hu).mono ?_); rintro e w4 ⟨rfl, hb1⟩; replace hu := hu.call hb1; clear hb1))
    go_ret
    exact ⟨rfl, hu⟩
  have hG := runErr_zero.1 he
  rw [if_pos he, he] at cN
  have cA := fun u (hu : Calm w u) (T : List Int) AT cT (hT : T.length ≤ 20) (hM : ∀ t ∈ T, ∃ e ∈ l, t = e.m) (hE : ∀ e ∈ l, e.m ∈ T) (hK : LiesI u AT T) => (by
    have := kept_any A AT d cT l T u hn (hL.calm hu) (by omega) hK
    rw [keptAll_err hG hT hM, if_pos rfl, kept_all hG hE] at this
    exact this : Calls Try.prog 36 #[.slice A l.length d, .slice AT T.length cT] u (KpEnd l 0 u))
  have hM3 := fun e => kept_none e l
  have hwf := hG.wf
  have hwf3 : ∀ e ∈ keptR l [], e.wf := fun e he => hwf e ((hM3 e).1 he).1
  have hl3 := kept_len l []
  have hl4 := hG.1
  have HL := Lib.hid hL
  clear he hG hL
  generalize keptR l [] = R at cN hM3 hwf3 hl3
  have HM3 := Lib.hid hM3
  clear hM3
  go_enter Try.func11, Try.ntmps11
  go_wp2_with (first
      | (go_at_call 36; (with_reducible refine (cL0 _ _ (heap_new _ _)).mono ?_); rintro e w1 ⟨v, rfl, ho, hb1⟩; obtain ⟨A1, c1, rfl, -, -, -⟩ := ho.lies (by simp); replace hu := (hu.alloc _).call hb1; clear hb1 ho)
      | (go_at_call 36; (with_reducible refine (cL1 _ _ _ (heap_past _ (heap_new _ _)) (heap_alloc2_new _ _ _)).mono ?_); rintro e w2 ⟨v, rfl, ho, hb1⟩; obtain ⟨A2, c2, rfl, -, -, -⟩ := ho.lies (by simp [El.wf]); replace hu := ((hu.alloc _).alloc _).call hb1; clear hb1 ho)
      | (go_at_call 36; (with_reducible refine (cN _ hu).mono ?_); rintro e w3 ⟨v, rfl, ho, hb1⟩; obtain ⟨A3, c3, rfl, -, -, hL3⟩ := ho.lies hwf3; replace hu := hu.call hb1; clear hb1 ho))
  have HL3 := Lib.hid hL3
  have HU := Lib.hid hu
  clear cL0 cL1 cN hL3 hu
  go_loopw [60] (fun i wr => ∃ k : Nat, k ≤ l.length ∧ i = .int .i64 k ∧ Calm w3 wr) (fun i _ => l.length - (intOf i).toNat)
  case atStart => exact ⟨0, Nat.zero_le _, rfl, Calm.refl _⟩
  case round =>
    obtain ⟨k, hk, rfl, hur⟩ := hrel
    by_cases hlt : k < l.length
    · obtain ⟨b, q, p, o, f, m, g, s, rfl, hb, HE, hm, c0, c1', c2', c3', c4, c5⟩ := (HL.out.calm (HU.out.call hur)).get hlt
      have hin := List.mem_of_getElem? HE.out
      have hmm := HM3.out ⟨p, o, f, m, g, s⟩
      have cE := fun u (hu : Calm wr u) => containsE_any A3 c3 R p o f m g s u (by omega) (HL3.out.calm (hur.call hu))
      have hur2 := hur.alloc (.cells #[.int .i64 p, .int .i64 o, .int .i64 f, .int .i64 m, .int .i64 g, .string s] 33)
      have hx := heap_new wr (.cells #[.int .i64 p, .int .i64 o, .int .i64 f, .int .i64 m, .int .i64 g, .string s] 33)
      have hcc := (Calm.refl wr).alloc (.cells #[.int .i64 p, .int .i64 o, .int .i64 f, .int .i64 m, .int .i64 g, .string s] 33)
      by_cases h0 : g = 0
      · have h1 : (⟨p, o, f, m, g, s⟩ : El) ∈ R := hmm.2 ⟨hin, h0⟩
        have cE := fun u (hu : Calm wr u) => (decide_eq_true h1 ▸ cE u hu : Calls Try.prog 29 #[.slice A3 R.length c3, .agg #[.int .i64 p, .int .i64 o, .int .i64 f, .int .i64 m, .int .i64 g, .string s]] u fun e w' => e = .returned (.bool true) ∧ Calm u w')
        clear hmm h1 hin HE
        subst h0
        go_upto_region 13 with fail
        generalize wr.alloc (.cells #[.int .i64 p, .int .i64 o, .int .i64 f, .int .i64 m, .int .i64 0, .string s] 33) = wc at hur2 hx hcc ⊢
        obtain ⟨z0, z1, z2, z3, z4, z5, hzs⟩ := row6 hx
        refine wp_region_plan [.val (.slice A3 R.length c3), .val (.agg #[.int .i64 p, .int .i64 o, .int .i64 f, .int .i64 m, .int .i64 0, .string s]), .val (.bool true), .val (.pointer (some ⟨wr.heap.size, 4, none⟩)), .val (.int .i64 (0)), .val (.bool true), .val (.bool false)] (by kernel_rfl) (by kernel_rfl) (by kernel_rfl) ?_
        intro X
        iterate 7
          refine plan_val (by kernel_rfl) (fun u hu => ?_) ?_
          · obtain ⟨hc, hf, hz⟩ := hu.of_drew.facts
            go_simp
            all_goals first
              | ((go_at_call 29; exact cE _ (hcc.call hu.of_drew)))
          simp only [Act.put, List.setIfInBounds_toArray, List.set_cons_zero, List.set_cons_succ, Nat.reduceAdd]
        refine plan_end ?_
        intro w' hB
        have hk := hB.calm.of_drew
        clear hB
        replace hur2 := hur2.call hk
        clear cE hcc hx z0 z1 z2 z3 z4 z5 hzs
        go_wp2_with fail
        go_roundw
        case rel => exact ⟨k + 1, by omega, by go_num, hur2⟩
        case measure => simp [intOf]; omega
      · have h1 : ¬ (⟨p, o, f, m, g, s⟩ : El) ∈ R := fun h => h0 (hmm.1 h).2
        have cE := fun u (hu : Calm wr u) => (decide_eq_false h1 ▸ cE u hu : Calls Try.prog 29 #[.slice A3 R.length c3, .agg #[.int .i64 p, .int .i64 o, .int .i64 f, .int .i64 m, .int .i64 g, .string s]] u fun e w' => e = .returned (.bool false) ∧ Calm u w')
        have e1 : (g == 0) = false := by simpa using h0
        clear hmm h1 hin HE
        go_upto_region 13 with fail
        generalize wr.alloc (.cells #[.int .i64 p, .int .i64 o, .int .i64 f, .int .i64 m, .int .i64 g, .string s] 33) = wc at hur2 hx hcc ⊢
        obtain ⟨z0, z1, z2, z3, z4, z5, hzs⟩ := row6 hx
        refine wp_region_plan [.val (.slice A3 R.length c3), .val (.agg #[.int .i64 p, .int .i64 o, .int .i64 f, .int .i64 m, .int .i64 g, .string s]), .val (.bool false), .val (.pointer (some ⟨wr.heap.size, 4, none⟩)), .val (.int .i64 (g)), .val (.bool false), .val (.bool false)] (by kernel_rfl) (by kernel_rfl) (by kernel_rfl) ?_
        intro X
        iterate 7
          refine plan_val (by kernel_rfl) (fun u hu => ?_) ?_
          · obtain ⟨hc, hf, hz⟩ := hu.of_drew.facts
            go_simp
            all_goals first
              | ((go_at_call 29; exact cE _ (hcc.call hu.of_drew)))
          simp only [Act.put, List.setIfInBounds_toArray, List.set_cons_zero, List.set_cons_succ, Nat.reduceAdd]
        refine plan_end ?_
        intro w' hB
        have hk := hB.calm.of_drew
        clear hB
        replace hur2 := hur2.call hk
        clear cE hcc hx z0 z1 z2 z3 z4 z5 hzs
        go_wp2_with fail
        go_roundw
        case rel => exact ⟨k + 1, by omega, by go_num, hur2⟩
        case measure => simp [intOf]; omega
    · have HU2 := Lib.hid (HU.out.call hur)
      clear hur HL3 HM3 HU hl3 hwf3
      go_wp2_with fail
      obtain ⟨wo, hwo⟩ : ∃ wo : World, wo = wr := ⟨_, rfl⟩
      subst hwo
      go_loopw [11, 74] (fun v i wq => ∃ (k : Nat) (T : List Int), k ≤ l.length ∧ i = .int .i64 k ∧ Calm wo wq ∧ Hid (OwnI wo.heap.size wq v T) ∧ T.length ≤ k ∧ Hid (∀ t ∈ T, ∃ e ∈ l, t = e.m) ∧ Hid (∀ j (hj : j < l.length), j < k → l[j].m ∈ T)) (fun _ i _ => l.length - (intOf i).toNat)
      case atStart => exact ⟨0, [], Nat.zero_le _, rfl, Calm.refl _, show OwnI _ _ _ _ from OwnI.nil _ _, Nat.le_refl _, show ∀ _, _ from fun t ht => absurd ht List.not_mem_nil, show ∀ _, _ from fun j hj h => absurd h (Nat.not_lt_zero _)⟩
      case round =>
        obtain ⟨k, T, hk, rfl, hur, ho, hTl, HM, HA⟩ := hrel
        obtain ⟨AT, cT, rfl, hLT⟩ := ho.out.lies
        have HLT := Lib.hid hLT
        clear hLT
        by_cases hlt : k < l.length
        · obtain ⟨b, q, p, o, f, m, g, s, rfl, hb, HE, hm, c0, c1', c2', c3', c4, c5⟩ := (HL.out.calm (HU2.out.call hur)).get hlt
          have HE2 := Lib.hid (List.getElem?_eq_some_iff.1 HE.out).2
          have hx := heap_new wr (.cells #[.int .i64 p, .int .i64 o, .int .i64 f, .int .i64 m, .int .i64 g, .string s] 33)
          have hcc := (Calm.refl wr).alloc (.cells #[.int .i64 p, .int .i64 o, .int .i64 f, .int .i64 m, .int .i64 g, .string s] 33)
          have hur2 := hur.alloc (.cells #[.int .i64 p, .int .i64 o, .int .i64 f, .int .i64 m, .int .i64 g, .string s] 33)
          have ho2 := Lib.hid (ho.out.calm hcc)
          have cC := fun u (hu : Calm wr u) => containsI_any AT cT T m u (by omega) (HLT.out.calm hu)
          by_cases hin : m ∈ T
          · have cC := fun u (hu : Calm wr u) => (decide_eq_true hin ▸ cC u hu : Calls Try.prog 45 #[.slice AT T.length cT, .int .i64 m] u fun e w' => e = .returned (.bool true) ∧ Calm u w')
            have HA2 : Hid (∀ j (hj : j < l.length), j < k + 1 → l[j].m ∈ T) := show ∀ _, _ from fun j hj h => by
              rcases Nat.lt_or_ge j k with h2 | h2
              · exact HA.out j hj h2
              · rw [show l[j] = l[k] from by congr 1; omega, HE2.out]; exact hin
            clear hin ho
            go_upto_region 20 with fail
            generalize wr.alloc (.cells #[.int .i64 p, .int .i64 o, .int .i64 f, .int .i64 m, .int .i64 g, .string s] 33) = wc at hur2 hx hcc ho2 ⊢
            obtain ⟨z0, z1, z2, z3, z4, z5, hzs⟩ := row6 hx
            go_wp2_with (go_at_call 45; (with_reducible refine (cC _ hcc).mono ?_); rintro e w8 ⟨rfl, hb1⟩; replace hur2 := hur2.call hb1; replace ho2 := Lib.hid (ho2.out.calm hb1); clear hb1)
            go_roundw
            case rel => exact ⟨k + 1, T, by omega, by go_num, hur2, ho2, by omega, HM, HA2⟩
            case measure => simp [intOf]; omega
          · have cC := fun u (hu : Calm wr u) => (decide_eq_false hin ▸ cC u hu : Calls Try.prog 45 #[.slice AT T.length cT, .int .i64 m] u fun e w' => e = .returned (.bool false) ∧ Calm u w')
            have HA2 : Hid (∀ j (hj : j < l.length), j < k + 1 → l[j].m ∈ T ++ [m]) := show ∀ _, _ from fun j hj h => by
              rcases Nat.lt_or_ge j k with h2 | h2
              · exact List.mem_append_left _ (HA.out j hj h2)
              · rw [show l[j] = l[k] from by congr 1; omega, HE2.out]; simp
            have HM2 : Hid (∀ t ∈ T ++ [m], ∃ e ∈ l, t = e.m) := show ∀ _, _ from fun t ht => by
              rcases List.mem_append.1 ht with h | h
              · exact HM.out t h
              · exact ⟨_, List.mem_of_getElem? HE.out, List.mem_singleton.1 h⟩
            have hs0 := hur.size
            clear hin ho
            go_upto_region 20 with fail
            generalize wr.alloc (.cells #[.int .i64 p, .int .i64 o, .int .i64 f, .int .i64 m, .int .i64 g, .string s] 33) = wc at hur2 hx hcc ho2 ⊢
            obtain ⟨z0, z1, z2, z3, z4, z5, hzs⟩ := row6 hx
            go_wp2_with (first
              | (go_at_call 45; (with_reducible refine (cC _ hcc).mono ?_); rintro e w8 ⟨rfl, hb1⟩; replace hx := (hb1.block (row6 hx).2.2.2.2.2.2).trans hx; replace hur2 := hur2.call hb1; replace ho2 := Lib.hid (ho2.out.calm hb1); clear hb1; obtain ⟨z0, z1, z2, z3, z4, z5, hzs⟩ := row6 hx)
              | (at_builtin; refine wpList_append_i rfl _ _ rfl _ _ _ rfl (ho2.out.calm ((Calm.refl _).alloc _)) _ _ m _ rfl (heap_new _ _) (by omega) (by have := hur2.size; simp at this ⊢; omega) ?_; intro v' w9 ho9 hc9; have hur9 := hc9 _ (Nat.le_refl _) (hur2.alloc _)))
            have HO := Lib.hid ho9
            clear ho9 hc9
            go_roundw
            case rel => exact ⟨k + 1, T ++ [m], by omega, by go_num, hur9, HO, by simp; omega, HM2, HA2⟩
            case measure => simp [intOf]; omega
        · have HU3 := Lib.hid (HU2.out.call hur)
          have HA3 : Hid (∀ e ∈ l, e.m ∈ T) := show ∀ _, _ from fun e he => by
            obtain ⟨j, hj, rfl⟩ := List.getElem_of_mem he
            exact HA.out j hj (by omega)
          by_cases hbig : 20 < T.length
          · go_wp2_with fail
            go_ret
            exact ⟨rfl, HU3.out⟩
          · have cK := fun u (hu : Calm wr u) => cA u (HU3.out.call hu) T AT cT (by omega) HM.out HA3.out (HLT.out.calm hu)
            have cQ := fun A' c' u (hu : Calm wr u) (h : Lies u A' l) => equal_self A' A c' d l u hn h (HL.out.calm (HU3.out.call hu))
            clear cA
            go_wp2_with (first
              | (go_at_call 36; (with_reducible refine (cK _ (Calm.refl _)).mono ?_); rintro e w8 ⟨v, rfl, ho8, hb8⟩; obtain ⟨A8, c8, rfl, -, -, hL8⟩ := ho8.lies hwf; clear ho8)
              | (go_at_call 23; (with_reducible refine (cQ _ _ _ hb8 hL8).mono ?_); rintro e w9 ⟨rfl, hb9⟩))
            go_ret
            exact ⟨rfl, HU3.out.call (hb8.call hb9)⟩
end Go.Proofs.Ytccfcloekjogkaa
