/- Texts of one kind in one file. -/
import Derived.Test.YtnhlcpneflllgaaPkFileApart2
set_option maxRecDepth 100000
namespace Go.Proofs.Ytnhlcpneflllgaa
open Go.RowKit Go.Maps
theorem emp_ne {x : ByteArray} (h : x ≠ { data := #[] }) : x.toList.isEmpty = false := by
 have h1 := str_ne h
 cases hT : x.toList with
 |nil => rw [hT, ByteArray.toList_eq] at h1; exact absurd h1 (by decide)
 |cons a l => rfl
theorem stS_stop {l : List El} {P O t : Int} {S : List UInt8} {j : Nat} (h : (stS l P O S t j).1 ≠ 0) : ∀ n, stS l P O S t (j + n) = stS l P O S t j
 | 0 => rfl
 |n + 1 => by
  rw [← Nat.add_assoc, stS_succ, stS_stop h n]
  unfold stpR
  rw [if_neg h]
structure Steps (old fr : Nat → Option ByteArray) (P O t : Int) (F : Nat → Int × List El) (E : Int) (RES : List El) : Prop where
 good : ∀ (j : Nat) M, j ≤ 20 → F j = (0, M) → Good M
 was : ∀ (j : Nat) M, j < 20 → F j = (0, M) → sV M (P, O, (j : Int) + 1) 2147483647 = old j
 same : ∀ (j : Nat) M, j < 20 → F j = (0, M) → old j = fr j → F (j + 1) = (0, M)
 put : ∀ (j : Nat) M s, j < 20 → F j = (0, M) → old j ≠ fr j → fr j = some s → (putErr M (P, O, (j : Int) + 1) s t = 0 ∧ F (j + 1) = (0, putR M (P, O, (j : Int) + 1) s t)) ∨ (putErr M (P, O, (j : Int) + 1) s t = 8 ∧ E = 8 ∧ RES = [])
 cut : ∀ (j : Nat) M s, j < 20 → F j = (0, M) → old j = some s → fr j = none → cutErr M (P, O, (j : Int) + 1) t = 0 ∧ F (j + 1) = (0, cutR M (P, O, (j : Int) + 1) t)
 fin : ∀ M, F 20 = (0, M) → E = 0 ∧ RES = M
theorem stS_steps {l : List El} {P O t : Int} (S : List UInt8) (hG : Good l) (hk : kErr (P, O, 0) = 0) (h1 : 1 ≤ t) (h2 : t ≤ 2147483647) (hl : latest l ≤ t) :
    Steps (fun j => sV l (bkK P O j) 2147483647) (frV S) P O t (stS l P O S t) (stS l P O S t 20).1 (if (stS l P O S t 20).1 = 0 then (stS l P O S t 20).2 else []) := by
  have hI := stS_inv S hG hk h1 h2 hl
  have inv : ∀ j M, j ≤ 20 → stS l P O S t j = (0, M) → FInv l M P O S t j := fun j M hj he => by
    rcases hI j hj with ⟨_, h⟩ | ⟨h, _⟩
    · rw [he] at h; exact h
    · rw [he] at h; simp at h
  refine ⟨fun j M hj he => (inv j M hj he).good, fun j M hj he => ?_, fun j M hj he hs => ?_, fun j M s hj he hs hf => ?_, fun j M s hj he ho hf => ?_, fun M he => ?_⟩
  · show (atR M (bkK P O j) _).map _ = _
    rw [(inv j M (by omega) he).other _ (fun i hi => bkK_ne (by omega))]; rfl
  · rw [stS_succ, he]
    unfold stpR
    rw [if_pos rfl, if_pos hs]
  · have I := inv j M (by omega) he
    have hw : wrErr M (fresh (bkK P O j) s t) = 0 := wr_of I.good hk h1 h2 I.late (by omega) (by have := frV_size hf; omega)
    have hstep : stS l P O S t (j + 1) = (putErr M (bkK P O j) s t, if putErr M (bkK P O j) s t = 0 then putR M (bkK P O j) s t else []) := by
      rw [stS_succ, he]
      unfold stpR
      rw [if_pos rfl, if_neg hs, hf]
    rcases put8 hw with hp | hp
    · left
      rw [hp, if_pos rfl] at hstep
      exact ⟨hp, hstep⟩
    · right
      rw [hp, if_neg (by decide)] at hstep
      have h9 := stS_stop (l := l) (P := P) (O := O) (t := t) (S := S) (j := j + 1) (by rw [hstep]; decide) (20 - (j + 1))
      rw [show j + 1 + (20 - (j + 1)) = 20 by omega, hstep] at h9
      rw [h9]
      exact ⟨hp, rfl, if_neg (by decide)⟩
  · have I := inv j M (by omega) he
    have hw : wrErr M (fresh (bkK P O j) { data := #[] } t) = 0 := wr_of I.good hk h1 h2 I.late (by omega) (by decide)
    have hm : sV M (bkK P O j) 2147483647 = some s := by
      rw [← ho]
      show (atR M (bkK P O j) _).map _ = _
      rw [I.other _ (fun i hi => bkK_ne (by omega))]; rfl
    have hc := cut0 hw hm
    refine ⟨hc, ?_⟩
    rw [stS_succ, he]
    unfold stpR
    rw [if_pos rfl, if_neg (by rw [ho, hf]; exact fun h => by cases h), hf]
    show (cutErr M (bkK P O j) t, if cutErr M (bkK P O j) t = 0 then cutR M (bkK P O j) t else []) = _
    rw [hc, if_pos rfl]; rfl
  · rw [he]; exact ⟨rfl, if_pos rfl⟩
set_option maxHeartbeats 4000000 in
theorem fileSet_any (A : Option Addr) (d : Nat) (l : List El) (P O : Int) (S : ByteArray) (t : Int) (w : World) (hn : l.length ≤ 9223372036854775807) (hL : Lies w A l) :
    Calls Try.prog 14 #[.slice A l.length d, .int .i64 P, .int .i64 O, .string S, .int .i64 t] w (SlEnd (setR l P O S.data.toList t) (setE l P O S.data.toList t) w) := by
  have cS := stored_any A d l P O 2147483647 w hn hL
  unfold StoEnd at cS
  have hSl : S.data.toList.length = S.size := by simp
  by_cases hE : objErr l P O = 0
  rotate_left
  · have e1 : setE l P O S.data.toList t = objErr l P O := by unfold setE; rw [if_neg hE]
    have e2 : setR l P O S.data.toList t = [] := by unfold setR; rw [e1, if_neg hE]
    rw [e1, e2]
    simp only [if_neg hE] at cS
    have b1 : (objErr l P O != 0) = true := by simpa using hE
    generalize objErr l P O = E at *
    clear e1 e2
    go_enter Try.func14, Try.ntmps14
    go_wp2_with (go_at_call 28; refine cS.mono ?_; rintro e w1 ⟨hb1, rfl⟩)
    go_ret2
    exact ⟨_, rfl, Sl.nil _ _ _, hb1⟩
  simp only [if_pos hE] at cS
  obtain ⟨hG, hk⟩ := objErr_zero hE
  by_cases h320 : 320 < S.size
  · have e1 : setE l P O S.data.toList t = 2 := by unfold setE; rw [if_pos hE, if_pos (by omega)]
    have e2 : setR l P O S.data.toList t = [] := by unfold setR; rw [e1, if_neg (by decide)]
    rw [e1, e2]
    have hz : (320 : Int) < (S.size : Int) := by omega
    clear e1 e2 hSl
    go_enter Try.func14, Try.ntmps14
    go_wp2_with (go_at_call 28; refine cS.mono ?_; rintro e w1 ⟨hb1, b, rfl, hbw, hmp⟩)
    go_ret2
    exact ⟨_, rfl, Sl.nil _ _ _, hb1⟩
  have cT := fun u (hu : Calm w u) => checkTime_any A d l t u hn (hL.calm hu) hG
  unfold timeE at cT
  have hz : ¬ (320 : Int) < (S.size : Int) := by omega
  by_cases ht : 1 ≤ t ∧ t ≤ 2147483647 ∧ latest l ≤ t
  rotate_left
  · have e1 : setE l P O S.data.toList t = 9 := by unfold setE; rw [if_pos hE, if_neg (by omega), if_neg ht]
    have e2 : setR l P O S.data.toList t = [] := by unfold setR; rw [e1, if_neg (by decide)]
    rw [e1, e2]
    rw [if_neg ht] at cT
    clear e1 e2 hSl ht
    go_enter Try.func14, Try.ntmps14
    go_wp2_with (first
      | (go_at_call 28; refine cS.mono ?_; rintro e w1 ⟨hb1, b, rfl, hbw, hmp⟩)
      | (go_at_call 34; refine (cT _ hb1).mono ?_; rintro e w2 ⟨rfl, hb2⟩))
    go_ret2
    exact ⟨_, rfl, Sl.nil _ _ _, hb1.call hb2⟩
  rw [if_pos ht] at cT
  have hSt := stS_steps S.data.toList hG hk ht.1 ht.2.1 ht.2.2
  have e1 : setE l P O S.data.toList t = (stS l P O S.data.toList t 20).1 := by unfold setE; rw [if_pos hE, if_neg (by omega), if_pos ht]
  have e2 : setR l P O S.data.toList t = if (stS l P O S.data.toList t 20).1 = 0 then (stS l P O S.data.toList t 20).2 else [] := by unfold setR; rw [e1]
  rw [e1, e2]
  have hF0 : stS l P O S.data.toList t 0 = (0, l) := rfl
  have cSp := fun u => split_any S (by omega) u
  have cCl := fun u (hu : Calm w u) => clone_any A d l u hG.1 (hL.calm hu)
  have hwf := hG.wf
  obtain ⟨old, hold⟩ : ∃ old : Nat → Option ByteArray, old = fun j => sV l (bkK P O j) 2147483647 := ⟨_, rfl⟩
  have hMo : ∀ j : Nat, j < 20 → mL (rangeR l (P, O, 1) (P, O, 20) 2147483647) ((j : Int) + 1) = old j := fun j hj => by rw [hold]; exact mL_range hG P O _ hj
  rw [← hold] at hSt
  have hMf : ∀ j : Nat, j < 20 → frM S.data.toList 20 ((j : Int) + 1) = frV S.data.toList j := fun j hj => frM_at hj
  have hfz : ∀ j s, frV S.data.toList j = some s → s ≠ { data := #[] } := fun j s h e => by
    subst e
    by_cases hj : 16 * j < S.data.toList.length
    · unfold frV at h
      rw [if_pos hj] at h
      injection h with h
      have := congrArg ByteArray.size h
      rw [bytes_size, List.length_take, List.length_drop] at this
      have h0 : (({ data := #[] } : ByteArray)).size = 0 := rfl
      omega
    · unfold frV at h
      rw [if_neg hj] at h
      cases h
  have HST := Lib.hid hSt
  have HF0 := Lib.hid hF0
  have HMO := Lib.hid hMo
  have HMF := Lib.hid hMf
  have HFZ := Lib.hid hfz
  clear e1 e2 hSl h320 hE hk ht hSt hF0 hMo hMf hfz hold hG
  generalize (if (stS l P O S.data.toList t 20).1 = 0 then (stS l P O S.data.toList t 20).2 else []) = RES at *
  generalize (stS l P O S.data.toList t 20).1 = E at *
  generalize stS l P O S.data.toList t = F at *
  generalize mL (rangeR l (P, O, 1) (P, O, 20) 2147483647) = MO at *
  generalize frM S.data.toList 20 = MF at *
  generalize frV S.data.toList = fr at *
  go_enter Try.func14, Try.ntmps14
  go_wp2_with (first
    | (go_at_call 28; refine cS.mono ?_; rintro e w1 ⟨hb1, bo, rfl, hbw, hmp⟩; have HA := Lib.hid hmp; replace hu := hb1; clear hmp hb1)
    | (go_at_call 34; refine (cT _ hu).mono ?_; rintro e w2 ⟨rfl, hb2⟩; replace HA := Lib.hid (HA.out.calm hb2); replace hu := hu.call hb2; clear hb2)
    | (go_at_call 35; refine (cSp _).mono ?_; rintro e w3 ⟨bf, rfl, hbf, hmf, hb3⟩; replace HA := Lib.hid (HA.out.calm hb3); have HB := Lib.hid hmf; replace hu := hu.call hb3; clear hb3 hmf)
    | (go_at_call 36; refine (cCl _ hu).mono ?_; rintro e w4 ⟨v, rfl, ho, hb4⟩; obtain ⟨A1, c1, hv, hlc, _, hl1⟩ := ho.lies hwf; subst hv; have HL1 := Lib.hid hl1; replace HA := Lib.hid (HA.out.calm hb4); replace HB := Lib.hid (HB.out.calm hb4); replace hu := hu.call hb4; clear hb4 ho hl1))
  clear cS cT cSp cCl
  go_loopw [16, 17] (fun mv iv wr => ∃ (j : Nat) (A' : Option Addr) (c' : Nat) (M : List El) (y : Int), mv = .slice A' M.length c' ∧ iv = .int .i64 y ∧ Hid (y = (j : Int) + 1) ∧ 1 ≤ y ∧ y ≤ 21 ∧ j ≤ 20 ∧ Calm w4 wr ∧ Hid (F j = (0, M)) ∧ Hid (Lies wr A' M)) (fun _ iv _ => 21 - (intOf iv).toNat)
  case atStart => exact ⟨0, A1, c1, l, 1, rfl, rfl, show (1 : Int) = _ from rfl, by omega, by omega, by omega, Calm.refl _, HF0, HL1⟩
  case round =>
    obtain ⟨j, A', c', M, y, rfl, rfl, HY, hy1, hy2, hj, hur, HF, HL⟩ := hrel
    have hMg : M.length ≤ 400 := (HST.out.good j M hj HF.out).1
    by_cases hlt9 : y ≤ 20
    rotate_left
    · obtain rfl : j = 20 := by have := HY.out; omega
      obtain ⟨rfl, rfl⟩ := HST.out.fin M HF.out
      go_wp2_with fail
      go_ret2
      exact ⟨_, rfl, ⟨A', c', rfl, by omega, HL.out⟩, hu.call hur⟩
    have hlt : j < 20 := by have := HY.out; omega
    have HA1 := Lib.hid (HA.out.calm hur)
    have HB1 := Lib.hid (HB.out.calm hur)
    have HW := Lib.hid (wf_small (k := y) (by omega) (by omega))
    have q1 := HMO.out j hlt
    have q2 := HMF.out j hlt
    have HS1 := Lib.hid (HST.out.same j M hlt HF.out)
    have HS2 := Lib.hid (fun s => HST.out.put j M s hlt HF.out)
    have HS3 := Lib.hid (fun s => HST.out.cut j M s hlt HF.out)
    have HNZ := Lib.hid (HFZ.out j)
    simp only [← HY.out] at q1 q2 HS2 HS3
    generalize old j = O1 at *
    generalize fr j = R1 at *
    have cB := fun u => block_any P O y u
    have cP := fun s u (hl : Lies u A' M) => runPut_any A' c' M P O y s t u (by omega) hl
    have cC := fun u (hl : Lies u A' M) => runCut_any A' c' M P O y t u (by omega) hl
    by_cases hs : O1 = R1
    · subst hs
      have HF1 := Lib.hid (HS1.out rfl)
      have hs1 : (MO y).getD { data := #[] } = O1.getD { data := #[] } := by rw [q1]
      have hz1 : (MO y).isSome = O1.isSome := by rw [q1]
      have hs2 : (MF y).getD { data := #[] } = O1.getD { data := #[] } := by rw [q2]
      have hz2 : (MF y).isSome = O1.isSome := by rw [q2]
      generalize O1.getD { data := #[] } = s at *
      have hzz : O1.isSome = true ∨ O1.isSome = false := by cases O1.isSome <;> simp
      generalize O1.isSome = z at *
      have G1 := Lib.hid hs1
      have G2 := Lib.hid hz1
      have G3 := Lib.hid hs2
      have G4 := Lib.hid hz2
      clear q1 q2 hs1 hz1 hs2 hz2 HS1 HS2 HS3 HNZ cB cP cC
      rcases hzz with rfl | rfl
      all_goals
        go_wp2_with (first
          | (at_lookup; refine wpList_map_ok rfl _ _ rfl bo 400 MO rfl HA1.out y s _ rfl HW.out G1.out G2.out ?_)
          | (at_lookup; refine wpList_map_ok rfl _ _ rfl bf 20 MF rfl HB1.out y s _ rfl HW.out G3.out G4.out ?_))
        go_roundw
        case rel => exact ⟨j + 1, A', c', M, y + 1, rfl, by go_num, show y + 1 = _ from (by have := HY.out; omega), by omega, by omega, by omega, hur, HF1, HL⟩
        case measure => simp [intOf]; omega
    cases R1 with
    | some s =>
      have hs1 : (MO y).getD { data := #[] } = O1.getD { data := #[] } := by rw [q1]
      have hz1 : (MO y).isSome = O1.isSome := by rw [q1]
      have hs2 : (MF y).getD { data := #[] } = s := by rw [q2]; rfl
      have hz2 : (MF y).isSome = true := by rw [q2]; rfl
      have hne : O1.getD { data := #[] } ≠ s := by
        cases O1 with
        | none => exact fun h => HNZ.out s rfl h.symm
        | some x => exact fun h => hs (by rw [show x = s from h])
      have hP := HS2.out s hs rfl
      generalize O1.getD { data := #[] } = x at *
      generalize O1.isSome = z at *
      have bne := str_ne hne
      have G1 := Lib.hid hs1
      have G2 := Lib.hid hz1
      have G3 := Lib.hid hs2
      have G4 := Lib.hid hz2
      replace cP := cP s
      clear q1 q2 hs1 hz1 hs2 hz2 HS1 HS2 HS3 HNZ cC hne hs
      rcases hP with ⟨hp, hF⟩ | ⟨hp, rfl, rfl⟩
      · rw [hp, if_pos rfl] at cP
        have HF1 := Lib.hid hF
        clear hp hF
        generalize putR M (P, O, y) s t = M2 at *
        go_wp2_with (first
          | (at_lookup; refine wpList_map_ok rfl _ _ rfl bo 400 MO rfl HA1.out y x z rfl HW.out G1.out G2.out ?_)
          | (at_lookup; refine wpList_map_ok rfl _ _ rfl bf 20 MF rfl HB1.out y s true rfl HW.out G3.out G4.out ?_)
          | (go_at_call 38; refine (cB _).mono ?_; rintro e w5 ⟨rfl, hb5⟩; have hu5 := hur.call hb5; have HL5 := Lib.hid (HL.out.calm hb5); clear hb5)
          | (go_at_call 37; refine (cP _ HL5.out).mono ?_; rintro e w6 ⟨v, rfl, ⟨A2, c2, rfl, _, hl2⟩, hb6⟩; have HL6 := Lib.hid hl2; have hu6 := hu5.call hb6; clear hl2 hb6))
        go_roundw
        case rel => exact ⟨j + 1, A2, c2, M2, y + 1, rfl, by go_num, show y + 1 = _ from (by have := HY.out; omega), by omega, by omega, by omega, hu6, HF1, HL6⟩
        case measure => simp [intOf]; omega
      · rw [hp, if_neg (by decide)] at cP
        clear hp
        go_wp2_with (first
          | (at_lookup; refine wpList_map_ok rfl _ _ rfl bo 400 MO rfl HA1.out y x z rfl HW.out G1.out G2.out ?_)
          | (at_lookup; refine wpList_map_ok rfl _ _ rfl bf 20 MF rfl HB1.out y s true rfl HW.out G3.out G4.out ?_)
          | (go_at_call 38; refine (cB _).mono ?_; rintro e w5 ⟨rfl, hb5⟩; have hu5 := hur.call hb5; have HL5 := Lib.hid (HL.out.calm hb5); clear hb5)
          | (go_at_call 37; refine (cP _ HL5.out).mono ?_; rintro e w6 ⟨v, rfl, ⟨A2, c2, rfl, _, hl2⟩, hb6⟩; have hu6 := hu5.call hb6; clear hl2 hb6))
        go_ret2
        exact ⟨_, rfl, Sl.nil _ _ _, hu.call hu6⟩
    | none =>
      cases O1 with
      | none => exact absurd rfl hs
      | some x =>
        have hs1 : (MO y).getD { data := #[] } = x := by rw [q1]; rfl
        have hz1 : (MO y).isSome = true := by rw [q1]; rfl
        have hs2 : (MF y).getD { data := #[] } = { data := #[] } := by rw [q2]; rfl
        have hz2 : (MF y).isSome = false := by rw [q2]; rfl
        obtain ⟨hp, hF⟩ := HS3.out x rfl rfl
        rw [hp, if_pos rfl] at cC
        have HF1 := Lib.hid hF
        have G1 := Lib.hid hs1
        have G2 := Lib.hid hz1
        have G3 := Lib.hid hs2
        have G4 := Lib.hid hz2
        clear q1 q2 hs1 hz1 hs2 hz2 HS1 HS2 HS3 HNZ cP hs hp hF
        generalize cutR M (P, O, y) t = M2 at *
        have hxx : x = { data := #[] } ∨ x.toList.isEmpty = false := by
          by_cases h : x = { data := #[] }
          · exact .inl h
          · exact .inr (emp_ne h)
        rcases hxx with rfl | bne
        all_goals
          go_wp2_with (first
            | (at_lookup; refine wpList_map_ok rfl _ _ rfl bo 400 MO rfl HA1.out y _ true rfl HW.out G1.out G2.out ?_)
            | (at_lookup; refine wpList_map_ok rfl _ _ rfl bf 20 MF rfl HB1.out y { data := #[] } false rfl HW.out G3.out G4.out ?_)
            | (go_at_call 38; refine (cB _).mono ?_; rintro e w5 ⟨rfl, hb5⟩; have hu5 := hur.call hb5; have HL5 := Lib.hid (HL.out.calm hb5); clear hb5)
            | (go_at_call 39; refine (cC _ HL5.out).mono ?_; rintro e w6 ⟨v, rfl, ⟨A2, c2, rfl, _, hl2⟩, hb6⟩; have HL6 := Lib.hid hl2; have hu6 := hu5.call hb6; clear hl2 hb6))
          go_roundw
          case rel => exact ⟨j + 1, A2, c2, M2, y + 1, rfl, by go_num, show y + 1 = _ from (by have := HY.out; omega), by omega, by omega, by omega, hu6, HF1, HL6⟩
          case measure => simp [intOf]; omega
open Go.RowKit
theorem getS {A : Option Addr} {c : Nat} {l : List El} {P O t : Int} {u : World} (S : ByteArray) (hn : l.length ≤ 9223372036854775807) (hl : Lies u A l) (hE : objErr l P O = 0) (hT : txtL l P O t = S.data.toList) :
    Calls Try.prog 11 #[.slice A l.length c, .int .i64 P, .int .i64 O, .int .i64 t] u fun e w' => e = .returned (.tuple #[.string S, .int .i64 0]) ∧ Calm u w' := by
  have h := fileGet_any A c l P O t u hn hl
  unfold getTxt at h
  rw [hE, if_pos rfl, hT] at h
  have h3 : (⟨S.data.toList.toArray⟩ : ByteArray) = S := by simp
  rwa [h3] at h
theorem setG {A : Option Addr} {c : Nat} {l R : List El} {P O t : Int} {u : World} {S : ByteArray} (hn : l.length ≤ 9223372036854775807) (hl : Lies u A l) (h : setE l P O S.data.toList t = 0) (hR : setR l P O S.data.toList t = R) :
    Calls Try.prog 14 #[.slice A l.length c, .int .i64 P, .int .i64 O, .string S, .int .i64 t] u fun e w' => ∃ A' c', e = .returned (.tuple #[.slice A' R.length c', .int .i64 0]) ∧ Lies w' A' R ∧ Calm u w' := by
  have h1 := fileSet_any A c l P O S t u hn hl
  rw [h, hR] at h1
  exact h1.mono fun e w' ⟨v, e1, ⟨A', c', e2, _, h2⟩, h3⟩ => ⟨A', c', by rw [e1, e2], h2, h3⟩
theorem setBd {A : Option Addr} {c : Nat} {l : List El} {P O t E : Int} {u : World} {S : ByteArray} (hn : l.length ≤ 9223372036854775807) (hl : Lies u A l) (h : setE l P O S.data.toList t = E) (hE : E ≠ 0) :
    Calls Try.prog 14 #[.slice A l.length c, .int .i64 P, .int .i64 O, .string S, .int .i64 t] u fun e w' => ∃ A' c', e = .returned (.tuple #[.slice A' 0 c', .int .i64 E]) ∧ Calm u w' := by
  have h1 := fileSet_any A c l P O S t u hn hl
  have hR : setR l P O S.data.toList t = [] := by unfold setR; rw [h, if_neg hE]
  rw [h, hR] at h1
  exact h1.mono fun e w' ⟨v, e1, ⟨A', c', e2, _, h2⟩, h3⟩ => ⟨A', c', by rw [e1, e2]; rfl, h3⟩
theorem lies_nil (u : World) : Lies u none [] := ⟨by simp, fun h => absurd h (by simp)⟩
open Go.RowKit
theorem set_objE {l : List El} {P O t : Int} {S : List UInt8} (h : setE l P O S t = 0) (P' O' : Int) : objErr (setR l P O S t) P' O' = objErr l P' O' := by
 obtain ⟨hG, _, _, _, _, _, I⟩ := setE_zero h
 unfold objErr
 rw [runErr_zero.2 hG, runErr_zero.2 I.good]
theorem getTxt_else {l : List El} {P O t : Int} {S : List UInt8} (h : setE l P O S t = 0) (u : Int) {P' O' : Int} (hne : P' ≠ P ∨ O' ≠ O) : getTxt (setR l P O S t) P' O' u = getTxt l P' O' u := by
 unfold getTxt
 rw [set_objE h, set_else h u hne]
set_option maxHeartbeats 8000000 in
theorem fileApart_walk (A : Option Addr) (d : Nat) (l : List El) (a b : Int) (S : ByteArray) (t : Int) (w : World) (hn : l.length ≤ 9223372036854775807) (hL : Lies w A l) :
    Calls Try.prog 8 #[.slice A l.length d, .int .i64 a, .int .i64 b, .string S, .int .i64 t] w fun e w' => e = .returned (.bool true) ∧ Calm w w' := by
  have h0 : setE [] 0 5 ({ data := #[97, 98, 99] } : ByteArray).data.toList 1 = 0 := by kernel_rfl
  have hX : setR [] 0 5 ({ data := #[97, 98, 99] } : ByteArray).data.toList 1 = [⟨0, 5, 1, 1, 0, { data := #[97, 98, 99] }⟩] := by kernel_rfl
  have hO0 : objErr [⟨0, 5, 1, 1, 0, { data := #[97, 98, 99] }⟩] 0 6 = 0 := by kernel_rfl
  have hT0 : txtL [⟨0, 5, 1, 1, 0, { data := #[97, 98, 99] }⟩] 0 6 1 = ({ data := #[] } : ByteArray).data.toList := by kernel_rfl
  have cS0 := fun u => setG (A := none) (c := 0) (u := u) (by simp) (lies_nil u) h0 hX
  have cG0 := fun A1 c1 u (hl : Lies u A1 [⟨0, 5, 1, 1, 0, { data := #[97, 98, 99] }⟩]) => getS (c := c1) (P := 0) (O := 6) (t := 1) { data := #[] } (by simp) hl hO0 hT0
  simp only [List.length_nil, List.length_singleton] at cS0 cG0
  clear h0 hX hO0 hT0
  have hu := Calm.refl w
  by_cases hE : setE l 0 a S.data.toList t = 0
  rotate_left
  · have cS := fun u (hu : Calm w u) => setBd (c := d) (hn := hn) (hL.calm hu) (h := rfl) hE
    have b1 : (setE l 0 a S.data.toList t != 0) = true := by simpa using hE
    have b2 : (setE l 0 a S.data.toList t == 0) = false := by simpa using hE
    generalize setE l 0 a S.data.toList t = E at *
    clear hE
    go_enter Try.func8, Try.ntmps8
    go_wp2_with (first
      | (go_at_call 14; (with_reducible refine (cS0 _).mono ?_); rintro e w1 ⟨A1, c1, rfl, hl1, hb1⟩; have HL1 := Lib.hid hl1; replace hu := hu.call hb1; clear hb1 hl1 cS0)
      | (go_at_call 11; (with_reducible refine (cG0 _ _ _ HL1.out).mono ?_); rintro e w2 ⟨rfl, hb2⟩; replace hu := hu.call hb2; clear hb2 cG0 HL1)
      | (go_at_call 14; (with_reducible refine (cS _ hu).mono ?_); rintro e w3 ⟨A3, c3, rfl, hb3⟩; replace hu := hu.call hb3; clear hb3 cS))
    go_ret
    exact ⟨rfl, hu⟩
  obtain ⟨M, hM⟩ : ∃ M, setR l 0 a S.data.toList t = M := ⟨_, rfl⟩
  have hMn : M.length ≤ 9223372036854775807 := by have := (setE_zero hE).2.2.2.2.2.2.good.1; rw [hM] at this; omega
  have cS := fun u (hu : Calm w u) => setG (c := d) hn (hL.calm hu) hE hM
  by_cases hab : a = b
  · subst hab
    clear hE hM hMn
    generalize M.length = nM at *
    go_enter Try.func8, Try.ntmps8
    go_wp2_with (first
      | (go_at_call 14; (with_reducible refine (cS0 _).mono ?_); rintro e w1 ⟨A1, c1, rfl, hl1, hb1⟩; have HL1 := Lib.hid hl1; replace hu := hu.call hb1; clear hb1 hl1 cS0)
      | (go_at_call 11; (with_reducible refine (cG0 _ _ _ HL1.out).mono ?_); rintro e w2 ⟨rfl, hb2⟩; replace hu := hu.call hb2; clear hb2 cG0 HL1)
      | (go_at_call 14; (with_reducible refine (cS _ hu).mono ?_); rintro e w3 ⟨A3, c3, rfl, hl3, hb3⟩; replace hu := hu.call hb3; clear hb3 cS))
    go_ret
    exact ⟨rfl, hu⟩
  have cG1 := fun u (hu : Calm w u) => fileGet_any A d l 0 b t u hn (hL.calm hu)
  have cG2 := fun A1 c1 u (hl : Lies u A1 M) => fileGet_any A1 c1 M 0 b t u hMn hl
  have cG3 := fun A1 c1 u (hl : Lies u A1 M) => fileGet_any A1 c1 M 1 a t u hMn hl
  have cG4 := fun u (hu : Calm w u) => fileGet_any A d l 1 a t u hn (hL.calm hu)
  have e1 : objErr M 0 b = objErr l 0 b := by rw [← hM]; exact set_objE hE 0 b
  have e2 : objErr M 1 a = objErr l 1 a := by rw [← hM]; exact set_objE hE 1 a
  have e3 : getTxt M 0 b t = getTxt l 0 b t := by rw [← hM]; exact getTxt_else hE t (.inr (Ne.symm hab))
  have e4 : getTxt M 1 a t = getTxt l 1 a t := by rw [← hM]; exact getTxt_else hE t (.inl (by decide))
  rw [e1, e3] at cG2
  rw [e2, e4] at cG3
  have b0 : (a == b) = false := by simpa using hab
  clear hE hM hMn e1 e2 e3 e4
  generalize M.length = nM at *
  generalize objErr l 0 b = E1 at *
  generalize objErr l 1 a = E2 at *
  generalize getTxt l 0 b t = T1 at *
  generalize getTxt l 1 a t = T2 at *
  go_enter Try.func8, Try.ntmps8
  go_wp2_with (first
    | (go_at_call 14; (with_reducible refine (cS0 _).mono ?_); rintro e w1 ⟨A1, c1, rfl, hl1, hb1⟩; have HL1 := Lib.hid hl1; replace hu := hu.call hb1; clear hb1 hl1 cS0)
    | (go_at_call 11; (with_reducible refine (cG0 _ _ _ HL1.out).mono ?_); rintro e w2 ⟨rfl, hb2⟩; replace hu := hu.call hb2; clear hb2 cG0 HL1)
    | (go_at_call 14; (with_reducible refine (cS _ hu).mono ?_); rintro e w3 ⟨A3, c3, rfl, hl3, hb3⟩; have HL3 := Lib.hid hl3; replace hu := hu.call hb3; clear hb3 hl3 cS)
    | (go_at_call 11; (with_reducible refine (cG1 _ hu).mono ?_); rintro e w4 ⟨rfl, hb4⟩; replace HL3 := Lib.hid (HL3.out.calm hb4); replace hu := hu.call hb4; clear hb4 cG1)
    | (go_at_call 11; (with_reducible refine (cG2 _ _ _ HL3.out).mono ?_); rintro e w5 ⟨rfl, hb5⟩; replace HL3 := Lib.hid (HL3.out.calm hb5); replace hu := hu.call hb5; clear hb5 cG2)
    | (go_at_call 11; (with_reducible refine (cG3 _ _ _ HL3.out).mono ?_); rintro e w6 ⟨rfl, hb6⟩; replace hu := hu.call hb6; clear hb6 cG3)
    | (go_at_call 11; (with_reducible refine (cG4 _ hu).mono ?_); rintro e w7 ⟨rfl, hb7⟩; replace hu := hu.call hb7; clear hb7 cG4))
  go_ret
  exact ⟨rfl, hu⟩
end Go.Proofs.Ytnhlcpneflllgaa
