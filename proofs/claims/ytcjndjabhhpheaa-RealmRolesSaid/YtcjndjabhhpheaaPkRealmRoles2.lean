/- Texts of one kind in one file. -/
import Derived.Laws.StructEq
import Derived.Maps.AppendAt
import Derived.Deep.MidRow
import Derived.Test.YtcjndjabhhpheaaPkRealmRoles1
set_option maxRecDepth 100000
namespace Go.Proofs.Ytcjndjabhhpheaa
open Go.ChangeShapes Go.WideShapes Go.ChangeAt Go.RowKit
theorem ne_rl {E : Int} (h : E ≠ 0) : (E != 0) = true := by simpa using h
theorem info16 : (Try.prog.info? 23).map (·.size) = some 16 := by kernel_rfl
theorem range_role {w : World} {g : Nat} {A : Option Addr} {n c : Nat} {R F : List Int} {t : TypeId} {fr : Nat × Nat} (hR : R.length = 16) (h : w.heap[g]? = some (.cells (bkC A n c R F).toArray t fr)) : w.rangeAt g 1 (R.map (Value.int .i64)) := fun j v hj => by
 have hj2 : j < 16 := by
  have := (List.getElem?_eq_some_iff.1 hj).1
  rw [List.length_map] at this; omega
 refine (cell_of_row _ _ (1 + j) _ _ _ h).trans ?_
 rw [bk_role hR hj2, ← hj, List.getElem?_map]
 unfold gI
 rw [List.getD_eq_getElem?_getD, List.getElem?_eq_getElem (by omega)]
 rfl
theorem range_all {w : World} {g : Nat} {CL : List Value} {t : TypeId} {fr : Nat × Nat} (h : w.heap[g]? = some (.cells CL.toArray t fr)) : w.rangeAt g 0 CL := fun j v hj => by
 refine (cell_of_row _ _ (0 + j) _ _ _ h).trans ?_
 rw [Nat.zero_add, List.getElem?_toArray]; exact hj
theorem infoBook : (Try.prog.info? 25).map (·.size) = some 33 := by kernel_rfl
theorem bkC_len {A : Option Addr} {n c : Nat} {R F : List Int} (hR : R.length = 16) (hF : F.length = 16) : (bkC A n c R F).length = 33 := by
 unfold bkC
 rw [List.length_cons, List.length_append, List.length_map, List.length_map, hR, hF]
def bkRoles (R F : List Int) : Prop := ∀ k, k < 16 → fedFit (gI R k) (gI F k) = true
def bkOk (l : List El) (R F : List Int) : Prop := bkRoles R F ∧ ∀ e ∈ l, elFit R F e = true
open Classical in
noncomputable def bkErr (l : List El) (R F : List Int) : Int := if runErr l = 0 then (if bkOk l R F then 0 else 3) else runErr l
set_option maxHeartbeats 4000000 in
theorem realmCheck_any (A : Option Addr) (c : Nat) (l : List El) (R F : List Int) (w : World) (hn : l.length ≤ 9223372036854775807) (hL : Lies w A l) (hR : R.length = 16) (hF : F.length = 16) :
    Calls Try.prog 11 #[.agg (bkC A l.length c R F).toArray] w fun e w' => e = .returned (.int .i64 (bkErr l R F)) ∧ Calm w w' := by
  have cC := fun u (hu : Calm w u) => runCheck_any A c l u hn (hL.calm hu)
  have hE : runErr l ≠ 0 → bkErr l R F = runErr l := fun h => by unfold bkErr; exact if_neg h
  have hE0 : runErr l = 0 → bkOk l R F → bkErr l R F = 0 := fun h h2 => by unfold bkErr; rw [if_pos h]; exact if_pos h2
  have hE3 : runErr l = 0 → ¬ bkOk l R F → bkErr l R F = 3 := fun h h2 => by unfold bkErr; rw [if_pos h]; exact if_neg h2
  generalize bkErr l R F = E at hE hE0 hE3 ⊢
  have cE := fun p o f m g s u h0 h15 => elemFits_any A l.length c R F p o f m g s u hR hF h0 h15
  have hx := heap_new w (.cells (bkC A l.length c R F).toArray 25)
  have hu := (Calm.refl w).alloc (.cells (bkC A l.length c R F).toArray 25)
  have c0 := (cell_of_row _ _ 0 _ _ _ hx).trans (show (bkC A l.length c R F).toArray[0]? = some (.slice A l.length c) from rfl)
  have hxl : w.heap.size < (w.alloc (.cells (bkC A l.length c R F).toArray 25)).heap.size := by simp
  have HX := Lib.hid hx
  have RR : ∀ u : World, u.heap[w.heap.size]? = some (.cells (bkC A l.length c R F).toArray 25 (0, 0)) → u.rangeAt w.heap.size 1 (R.map (Value.int .i64)) := fun u h => range_role hR h
  have RF : ∀ u : World, u.heap[w.heap.size]? = some (.cells (bkC A l.length c R F).toArray 25 (0, 0)) → ∀ k, k < 16 → u.cell? ⟨w.heap.size, 17 + k, none⟩ = some (.int .i64 (gI F k)) := fun u h k hk => (cell_of_row _ _ (17 + k) _ _ _ h).trans (bk_fed hR hF hk)
  have RA : ∀ u : World, u.heap[w.heap.size]? = some (.cells (bkC A l.length c R F).toArray 25 (0, 0)) → u.cell? ⟨w.heap.size, 0, none⟩ = some (.slice A l.length c) := fun u h => (cell_of_row _ _ 0 _ _ _ h).trans rfl
  have RH := Lib.hid RR
  have RFH := Lib.hid RF
  have RAH := Lib.hid RA
  have hJ : Hid ((Try.prog.info? 25).map (·.size) = some (bkC A l.length c R F).length) := show _ = _ by rw [bkC_len hR hF]; exact infoBook
  clear hx RR RF RA
  generalize (bkC A l.length c R F) = CL at *
  have hRk : ∀ k, k < 16 → (R.map (Value.int .i64)).toArray[k]? = some (.int .i64 (gI R k)) := fun k hk => by
    unfold gI
    rw [List.getElem?_toArray, List.getElem?_map, List.getD_eq_getElem?_getD, List.getElem?_eq_getElem (by omega)]
    rfl
  have hRl : (R.map (Value.int .i64)).length = 16 := by rw [List.length_map, hR]
  have hI : Hid ((Try.prog.info? 23).map (·.size) = some (R.map (Value.int .i64)).length) := show _ = _ by rw [hRl]; exact info16
  have HRk := Lib.hid hRk
  clear hRk
  generalize R.map (Value.int .i64) = RL at *
  by_cases hr : runErr l = 0
  rotate_left
  · rw [hE hr]
    have b1 := ne_rl hr
    generalize runErr l = X at cC b1 ⊢
    clear hE hE0 hE3 hr
    go_enter Try.func11, Try.ntmps11
    go_wp2_with (go_at_call 31; refine (cC _ hu).mono ?_; rintro e w1 ⟨rfl, hb1⟩; replace hu := hu.call hb1; clear hb1 cC)
    go_ret
    exact ⟨rfl, hu⟩
  have hG := runErr_zero.1 hr
  rw [hr] at cC
  have HE0 := Lib.hid (hE0 hr)
  have HE3 := Lib.hid (hE3 hr)
  have HG := Lib.hid hG
  clear hE hE0 hE3 hr hG
  go_enter Try.func11, Try.ntmps11
  go_wp2_with (first
    | (go_at_call 31; refine (cC _ hu).mono ?_; rintro e w1 ⟨rfl, hb1⟩; replace HX := Lib.hid ((hb1.block hxl).trans HX.out); replace hu := hu.call hb1; clear hb1 cC)
    | (refine wpList_load_mid rfl 23 (.tmp 14) rfl w.heap.size 1 rfl RL _ (RH.out _ HX.out) Try.underlying23 rfl hI.out ?_))
  clear c0 hxl hI RH
  go_loopw [16] (fun i wr => ∃ k : Nat, k ≤ 16 ∧ i = .int .i64 k ∧ Calm w wr ∧ Hid (wr.heap[w.heap.size]? = some (.cells CL.toArray 25 (0, 0))) ∧ Hid (∀ j, j < k → fedFit (gI R j) (gI F j) = true)) (fun i _ => 16 - (intOf i).toNat)
  case atStart => exact ⟨0, by omega, rfl, hu, HX, show ∀ _, _ from fun j hj => absurd hj (Nat.not_lt_zero _)⟩
  case round =>
    obtain ⟨k, hk, rfl, hu, HX, HK⟩ := hrel
    by_cases hlt : k < 16
    rotate_left
    · have HR : Hid (bkRoles R F) := show ∀ k, _ from fun j hj => HK.out j (by omega)
      have c0 := RAH.out _ HX.out
      go_wp2_with fail
      clear c0
      go_loopw [31] (fun i wr => ∃ n : Nat, n ≤ l.length ∧ i = .int .i64 n ∧ Calm w wr ∧ Hid (wr.heap[w.heap.size]? = some (.cells CL.toArray 25 (0, 0))) ∧ Hid (∀ j (hj : j < l.length), j < n → elFit R F l[j] = true)) (fun i _ => l.length - (intOf i).toNat)
      case atStart => exact ⟨0, Nat.zero_le _, rfl, hu, HX, show ∀ _, _ from fun j _ hj => absurd hj (Nat.not_lt_zero _)⟩
      case round =>
        obtain ⟨n, hn2, rfl, hu, HX, HN⟩ := hrel
        by_cases hlt : n < l.length
        rotate_left
        · have E0 := HE0.out ⟨HR.out, fun e he => by
            obtain ⟨j, hj, rfl⟩ := List.getElem_of_mem he
            exact HN.out j hj (by omega)⟩
          subst E0
          go_wp2_with fail
          go_ret
          exact ⟨rfl, hu⟩
        obtain ⟨b, q, p, o, f, m, g, s, rfl, hb, HEe, hm, c0, c1, c2, c3, c4, c5⟩ := (hL.calm hu).get hlt
        have hel : l[n] = ⟨p, o, f, m, g, s⟩ := (List.getElem?_eq_some_iff.1 HEe.out).2
        have hpp := err_zero (HG.out.2.1 _ (List.getElem_mem hlt))
        rw [hel] at hpp
        have hxl : w.heap.size < wr.heap.size := (Array.getElem?_eq_some_iff.1 HX.out).1
        have cf := fun u => cE p o f m g s u hpp.1 hpp.2.1
        generalize hfr : elFit R F ⟨p, o, f, m, g, s⟩ = fr at cf
        have HFR := Lib.hid hfr
        have HEL := Lib.hid hel
        clear hfr hel hpp HEe
        have HX2 := Lib.hid (((((Calm.refl wr).alloc (.cells #[.int .i64 p, .int .i64 o, .int .i64 f, .int .i64 m, .int .i64 g, .string s] 41)).block hxl).trans HX.out))
        replace hu := hu.alloc (.cells #[.int .i64 p, .int .i64 o, .int .i64 f, .int .i64 m, .int .i64 g, .string s] 41)
        have hxl2 : w.heap.size < (wr.alloc (.cells #[.int .i64 p, .int .i64 o, .int .i64 f, .int .i64 m, .int .i64 g, .string s] 41)).heap.size := by simp; omega
        cases fr
        · have E3 := HE3.out fun h => by
            have := h.2 _ (List.getElem_mem hlt)
            rw [HEL.out, HFR.out] at this
            exact absurd this (by decide)
          subst E3
          go_wp2_with (first
            | (refine wpList_load_mid rfl 25 (.tmp 1) rfl w.heap.size 0 rfl CL _ (range_all HX2.out) Try.underlying25 rfl hJ.out ?_)
            | (go_at_call 33; refine (cf _).mono ?_; rintro e w1 ⟨rfl, hb1⟩; replace hu := hu.call hb1))
          go_ret
          exact ⟨rfl, hu⟩
        · have HN2 : Hid (∀ j (hj : j < l.length), j < n + 1 → elFit R F l[j] = true) := show ∀ _, _ from fun j hj h => by
            rcases Nat.lt_or_ge j n with h2 | h2
            · exact HN.out j hj h2
            · rw [show l[j] = l[n] from by congr 1; omega, HEL.out]; exact HFR.out
          go_wp2_with (first
            | (refine wpList_load_mid rfl 25 (.tmp 1) rfl w.heap.size 0 rfl CL _ (range_all HX2.out) Try.underlying25 rfl hJ.out ?_)
            | (go_at_call 33; refine (cf _).mono ?_; rintro e w1 ⟨rfl, hb1⟩; replace HX2 := Lib.hid ((hb1.block hxl2).trans HX2.out); replace hu := hu.call hb1))
          go_roundw
          case rel => exact ⟨n + 1, by omega, by go_num, hu, HX2, HN2⟩
          case measure => simp [intOf]; omega
    have c2 := RFH.out _ HX.out k hlt
    have r1 := fun u => index16 RL.toArray k _ hlt (HRk.out k hlt) u
    have hki : (k : Int) < 16 := by omega
    have hxl : w.heap.size < wr.heap.size := (Array.getElem?_eq_some_iff.1 HX.out).1
    have cf := fun u => fedFits_any (gI R k) (gI F k) u
    generalize hfr : fedFit (gI R k) (gI F k) = fr at cf
    have HFR := Lib.hid hfr
    clear hfr
    cases fr
    · have E3 := HE3.out fun h => by rw [h.1 k hlt] at HFR; exact absurd HFR.out (by decide)
      subst E3
      go_wp2_with (go_at_call 32; refine (cf _).mono ?_; rintro e w1 ⟨rfl, hb1⟩; replace hu := hu.call hb1)
      go_ret
      exact ⟨rfl, hu⟩
    · have HK2 : Hid (∀ j, j < k + 1 → fedFit (gI R j) (gI F j) = true) := show ∀ _, _ from fun j hj => by
        rcases Nat.lt_or_ge j k with h | h
        · exact HK.out j h
        · rw [show j = k by omega]; exact HFR.out
      go_wp2_with (go_at_call 32; refine (cf _).mono ?_; rintro e w1 ⟨rfl, hb1⟩; replace HX := Lib.hid ((hb1.block hxl).trans HX.out); replace hu := hu.call hb1)
      go_roundw
      case rel => exact ⟨k + 1, by omega, by go_num, hu, HX, HK2⟩
      case measure => simp [intOf]; omega
open Go.ChangeShapes Go.WideShapes Go.ChangeAt Go.RowKit
theorem isRealm_any (p : Int) (w : World) : Calls Try.prog 23 #[.int .i64 p] w fun e w' => e = .returned (.bool (decide (0 ≤ p ∧ p ≤ 15))) ∧ Calm w w' := by
 by_cases h0 : 0 ≤ p <;> by_cases h1 : p ≤ 15
 all_goals
  go_enter Try.func23, Try.ntmps23
  go_wp2_with fail
  go_ret
  exact ⟨by simp [h0, h1], Calm.refl _⟩
noncomputable def roleErr (l : List El) (R F : List Int) (p r : Int) : Int := if bkErr l R F = 0 then (if 0 ≤ p ∧ p ≤ 15 then (if gI R p.toNat = r then 0 else 10) else 1) else bkErr l R F
set_option maxHeartbeats 4000000 in
theorem checkRole_any (A : Option Addr) (c : Nat) (l : List El) (R F : List Int) (p r : Int) (w : World) (hn : l.length ≤ 9223372036854775807) (hL : Lies w A l) (hR : R.length = 16) (hF : F.length = 16) :
    Calls Try.prog 25 #[.agg (bkC A l.length c R F).toArray, .int .i64 p, .int .i64 r] w fun e w' => e = .returned (.int .i64 (roleErr l R F p r)) ∧ Calm w w' := by
  have cC := fun u (hu : Calm w u) => realmCheck_any A c l R F u hn (hL.calm hu) hR hF
  have hx := heap_new w (.cells (bkC A l.length c R F).toArray 25)
  have hu := (Calm.refl w).alloc (.cells (bkC A l.length c R F).toArray 25)
  have hxl : w.heap.size < (w.alloc (.cells (bkC A l.length c R F).toArray 25)).heap.size := by simp
  have HX := Lib.hid hx
  have RR : ∀ u : World, u.heap[w.heap.size]? = some (.cells (bkC A l.length c R F).toArray 25 (0, 0)) → ∀ k, k < 16 → u.cell? ⟨w.heap.size, 1 + k, none⟩ = some (.int .i64 (gI R k)) := fun u h k hk => (cell_of_row _ _ (1 + k) _ _ _ h).trans (bk_role hR hk)
  have RRH := Lib.hid RR
  have hJ : Hid ((Try.prog.info? 25).map (·.size) = some (bkC A l.length c R F).length) := show _ = _ by rw [bkC_len hR hF]; exact infoBook
  clear hx RR
  generalize (bkC A l.length c R F) = CL at *
  unfold roleErr
  generalize bkErr l R F = E at cC ⊢
  by_cases hE : E = 0
  rotate_left
  · rw [if_neg hE]
    have b1 := ne_rl hE
    go_enter Try.func25, Try.ntmps25
    go_wp2_with (first
      | (refine wpList_load_mid rfl 25 (.tmp 3) rfl w.heap.size 0 rfl CL _ (range_all HX.out) Try.underlying25 rfl hJ.out ?_)
      | (go_at_call 11; refine (cC _ hu).mono ?_; rintro e w1 ⟨rfl, hb1⟩; replace hu := hu.call hb1))
    go_ret
    exact ⟨rfl, hu⟩
  rw [if_pos hE]
  subst hE
  by_cases hp : 0 ≤ p ∧ p ≤ 15
  rotate_left
  · rw [if_neg hp]
    have cI := fun u => isRealm_any p u
    rw [decide_eq_false hp] at cI
    go_enter Try.func25, Try.ntmps25
    go_wp2_with (first
      | (refine wpList_load_mid rfl 25 (.tmp 3) rfl w.heap.size 0 rfl CL _ (range_all HX.out) Try.underlying25 rfl hJ.out ?_)
      | (go_at_call 11; refine (cC _ hu).mono ?_; rintro e w1 ⟨rfl, hb1⟩; replace hu := hu.call hb1)
      | (go_at_call 23; refine (cI _).mono ?_; rintro e w2 ⟨rfl, hb2⟩; replace hu := hu.call hb2))
    go_ret
    exact ⟨rfl, hu⟩
  rw [if_pos hp]
  have cI := fun u => isRealm_any p u
  rw [decide_eq_true hp] at cI
  obtain ⟨k, rfl⟩ : ∃ k : Nat, p = k := ⟨p.toNat, by omega⟩
  have hk : k < 16 := by omega
  have hki : (k : Int) < 16 := by omega
  rw [Int.toNat_natCast]
  by_cases hr : gI R k = r
  · rw [if_pos hr]
    subst hr
    go_enter Try.func25, Try.ntmps25
    go_wp2_with (first
      | (refine wpList_load_mid rfl 25 (.tmp 3) rfl w.heap.size 0 rfl CL _ (range_all HX.out) Try.underlying25 rfl hJ.out ?_)
      | (go_at_call 11; refine (cC _ hu).mono ?_; rintro e w1 ⟨rfl, hb1⟩; replace HX := Lib.hid ((hb1.block hxl).trans HX.out); replace hxl := Nat.lt_of_lt_of_le hxl hb1.size; replace hu := hu.call hb1)
      | (go_at_call 23; refine (cI _).mono ?_; rintro e w2 ⟨rfl, hb2⟩; replace HX := Lib.hid ((hb2.block hxl).trans HX.out); have c1 := RRH.out _ HX.out k hk; replace hu := hu.call hb2))
    go_ret
    exact ⟨rfl, hu⟩
  · rw [if_neg hr]
    have b1 := ne_rl (show gI R k - r ≠ 0 by omega)
    have b2 : (gI R k != r) = true := by simpa using hr
    clear b1
    go_enter Try.func25, Try.ntmps25
    go_wp2_with (first
      | (refine wpList_load_mid rfl 25 (.tmp 3) rfl w.heap.size 0 rfl CL _ (range_all HX.out) Try.underlying25 rfl hJ.out ?_)
      | (go_at_call 11; refine (cC _ hu).mono ?_; rintro e w1 ⟨rfl, hb1⟩; replace HX := Lib.hid ((hb1.block hxl).trans HX.out); replace hxl := Nat.lt_of_lt_of_le hxl hb1.size; replace hu := hu.call hb1)
      | (go_at_call 23; refine (cI _).mono ?_; rintro e w2 ⟨rfl, hb2⟩; replace HX := Lib.hid ((hb2.block hxl).trans HX.out); have c1 := RRH.out _ HX.out k hk; replace hu := hu.call hb2))
    go_ret
    exact ⟨rfl, hu⟩
open Go.ChangeShapes Go.WideShapes Go.ChangeAt Go.RowKit
theorem slice_ownR {base : Nat} {w : World} {v : Value} {l : List El} (h : OwnR base w v l) : ∃ A c, v = .slice A l.length c := by
 rcases h.2 with ⟨h1, h2⟩ | ⟨g, cap, cur, h1, _⟩
 ·exact ⟨none, 0, by rw [h1, h2]⟩
 ·exact ⟨_, _, h1⟩
theorem bk_set3 {A A' : Option Addr} {n n' c c' k : Nat} {R F : List Int} (r f : Int) (hR : R.length = 16) (hF : F.length = 16) (hk : k < 16) :
    ((((bkC A n c R F).toArray.setIfInBounds 0 (.slice A' n' c')).setIfInBounds (1 + k) (.int .i64 r)).setIfInBounds (17 + k) (.int .i64 f)) = (bkC A' n' c' (R.set k r) (F.set k f)).toArray := by
  apply Array.toList_inj.1
  simp only [Array.toList_setIfInBounds, List.toList_toArray]
  unfold bkC
  rw [List.set_cons_zero, Nat.add_comm 1 k, List.set_cons_succ, show 17 + k = (16 + k) + 1 by omega, List.set_cons_succ, List.set_append_left _ _ (by rw [List.length_map]; omega), List.set_append_right _ _ (by rw [List.length_set, List.length_map]; omega), List.length_set, List.length_map, hR, Nat.add_sub_cancel_left, List.map_set, List.map_set]
theorem wpList_store_rowB {P : Program} {ops : Array Oper} {rest : List Oper} {op : Oper} {a : Act} {w : World} {Q : Exit → Act → World → Prop} (hgd : op.guard = none) (ty : TypeId) (x y : Operand) (ho : op.op = .store ty x y)
    (g : Nat) (t : TypeId) (old cells : Array Value) (hx : a.eval x = .pointer (some ⟨g, 0, none⟩)) (hy : a.eval y = .agg cells) (hg : w.heap[g]? = some (.cells old t (0, 0))) (hi : (P.info? ty).map (·.size) = some cells.size)
    (hs : old.size = cells.size) (h1 : cells.all (·.oneCell') = true)
    (h : wpList P ops Q rest (a.put op.dst undef) (w.setRow g cells)) : wpList P ops Q (op :: rest) a w :=
  wpList_plain hgd fun _ hK => by
    unfold Oper.wp execOp
    simp only [ho, hx, hy, Instr.storeAt, Instr.sureAddr, Sem.run_bind, Sem.run_pure, Result.andThen_ok, run_storeVar_row w g t ty old cells hg hi hs h1]
    exact hK _ _ h
theorem bk_one {A : Option Addr} {n c : Nat} {R F : List Int} : (bkC A n c R F).toArray.all (·.oneCell') = true := by
 refine all_oneCell_toArray fun v hv => ?_
 unfold bkC at hv
 rcases List.mem_cons.1 hv with rfl | hv
 ·rfl
 ·rcases List.mem_append.1 hv with hv | hv <;> (obtain ⟨z, _, rfl⟩ := List.mem_map.1 hv; rfl)
theorem results_bk {fn : Func} {p : Tmp} (h : fn.results = #[.cell p 25]) (tmps : Array Value) (w : World) (g : Nat) (t : TypeId) (cs : Array Value) (fr : Nat × Nat)
    (hp : tmps.getD p undef = .pointer (some ⟨g, 0, none⟩)) (hg : w.heap[g]? = some (.cells cs t fr)) (hsz : cs.size = 33) :
    (results fn tmps).run Try.prog w = .ok (.agg cs) w := by
  have hp' : tmps[p]?.getD undef = .pointer (some ⟨g, 0, none⟩) := by simpa using hp
  have hi : (Try.prog.info? 25).map (·.size) = some cs.size := by rw [hsz]; kernel_rfl
  simp [results, h, hp', asAddr, run_loadVar_row w g t 25 cs fr _ hg Try.underlying25 rfl hi]
theorem end_bk {P : Program} {fn : Func} {p : Tmp} {Q : Ending → World → Prop} (hP : P = Try.prog) (h : fn.results = #[.cell p 25]) (a : Act) (w : World) (g : Nat) (t : TypeId) (cs : Array Value) (fr : Nat × Nat) (hd : a.defers = [])
    (hp : a.tmps.getD p undef = .pointer (some ⟨g, 0, none⟩)) (hg : w.heap[g]? = some (.cells cs t fr)) (hsz : cs.size = 33) (hQ : Q (.returned (.agg cs)) w) : bodyPost P fn Q .ret a w := by
  subst hP
  exact bodyPost_ret (v := .agg cs) (results_bk h a.tmps w g t cs fr hp hg hsz) hd hQ
theorem two_new (w : World) (o o' : Obj) : ((w.alloc o).alloc o').heap[w.heap.size + 1]? = some o' := by simpa using heap_new (w.alloc o) o'
theorem OwnR.keep {base : Nat} {w w' : World} {v : Value} {l : List El} (h : OwnR base w v l) (hb : ∀ k, base ≤ k → w'.heap[k]? = w.heap[k]?) : OwnR base w' v l := by
 refine ⟨h.1, ?_⟩
 rcases h.2 with h1 | ⟨g, cap, cur, rfl, h2, h3, h4⟩
 ·exact .inl h1
 ·exact .inr ⟨g, cap, cur, rfl, h2, (hb g h2).trans h3, h4⟩
theorem OwnR.down {base base' : Nat} {w : World} {v : Value} {l : List El} (h : OwnR base w v l) (hb : base' ≤ base) : OwnR base' w v l := ⟨h.1, h.2.imp id fun ⟨g, cap, cur, h1, h2, h3⟩ => ⟨g, cap, cur, h1, Nat.le_trans hb h2, h3⟩⟩
set_option maxHeartbeats 4000000 in
theorem assign_any (A : Option Addr) (c : Nat) (l : List El) (R F : List Int) (k : Nat) (r f : Int) (w : World) (hn4 : l.length ≤ 400) (hL : Lies w A l) (hR : R.length = 16) (hF : F.length = 16) (hk : k < 16) :
    Calls Try.prog 24 #[.agg (bkC A l.length c R F).toArray, .int .i64 k, .int .i64 r, .int .i64 f] w fun e w' => ∃ A' c', e = .returned (.agg (bkC A' l.length c' (R.set k r) (F.set k f)).toArray) ∧ OwnR w.heap.size w' (.slice A' l.length c') l ∧ Calm w w' := by
  have cC := fun u (hu : Calm w u) => clone_any A c l u hn4 (hL.calm hu)
  have hx := heap_past (.cells #[.slice none 0 0, .int .i64 0, .int .i64 0, .int .i64 0, .int .i64 0, .int .i64 0, .int .i64 0, .int .i64 0, .int .i64 0, .int .i64 0, .int .i64 0, .int .i64 0, .int .i64 0, .int .i64 0, .int .i64 0, .int .i64 0, .int .i64 0, .int .i64 0, .int .i64 0, .int .i64 0, .int .i64 0, .int .i64 0, .int .i64 0, .int .i64 0, .int .i64 0, .int .i64 0, .int .i64 0, .int .i64 0, .int .i64 0, .int .i64 0, .int .i64 0, .int .i64 0, .int .i64 0] 25) (heap_new w (.cells (bkC A l.length c R F).toArray 25))
  have hz : ((w.alloc (.cells (bkC A l.length c R F).toArray 25)).alloc (.cells #[.slice none 0 0, .int .i64 0, .int .i64 0, .int .i64 0, .int .i64 0, .int .i64 0, .int .i64 0, .int .i64 0, .int .i64 0, .int .i64 0, .int .i64 0, .int .i64 0, .int .i64 0, .int .i64 0, .int .i64 0, .int .i64 0, .int .i64 0, .int .i64 0, .int .i64 0, .int .i64 0, .int .i64 0, .int .i64 0, .int .i64 0, .int .i64 0, .int .i64 0, .int .i64 0, .int .i64 0, .int .i64 0, .int .i64 0, .int .i64 0, .int .i64 0, .int .i64 0, .int .i64 0] 25)).heap[w.heap.size + 1]? = some (.cells #[.slice none 0 0, .int .i64 0, .int .i64 0, .int .i64 0, .int .i64 0, .int .i64 0, .int .i64 0, .int .i64 0, .int .i64 0, .int .i64 0, .int .i64 0, .int .i64 0, .int .i64 0, .int .i64 0, .int .i64 0, .int .i64 0, .int .i64 0, .int .i64 0, .int .i64 0, .int .i64 0, .int .i64 0, .int .i64 0, .int .i64 0, .int .i64 0, .int .i64 0, .int .i64 0, .int .i64 0, .int .i64 0, .int .i64 0, .int .i64 0, .int .i64 0, .int .i64 0, .int .i64 0] 25 (0, 0)) := two_new w _ _
  have hu := ((Calm.refl w).alloc (.cells (bkC A l.length c R F).toArray 25)).alloc (.cells #[.slice none 0 0, .int .i64 0, .int .i64 0, .int .i64 0, .int .i64 0, .int .i64 0, .int .i64 0, .int .i64 0, .int .i64 0, .int .i64 0, .int .i64 0, .int .i64 0, .int .i64 0, .int .i64 0, .int .i64 0, .int .i64 0, .int .i64 0, .int .i64 0, .int .i64 0, .int .i64 0, .int .i64 0, .int .i64 0, .int .i64 0, .int .i64 0, .int .i64 0, .int .i64 0, .int .i64 0, .int .i64 0, .int .i64 0, .int .i64 0, .int .i64 0, .int .i64 0, .int .i64 0] 25)
  have hsz : ((w.alloc (.cells (bkC A l.length c R F).toArray 25)).alloc (.cells #[.slice none 0 0, .int .i64 0, .int .i64 0, .int .i64 0, .int .i64 0, .int .i64 0, .int .i64 0, .int .i64 0, .int .i64 0, .int .i64 0, .int .i64 0, .int .i64 0, .int .i64 0, .int .i64 0, .int .i64 0, .int .i64 0, .int .i64 0, .int .i64 0, .int .i64 0, .int .i64 0, .int .i64 0, .int .i64 0, .int .i64 0, .int .i64 0, .int .i64 0, .int .i64 0, .int .i64 0, .int .i64 0, .int .i64 0, .int .i64 0, .int .i64 0, .int .i64 0, .int .i64 0] 25)).heap.size = w.heap.size + 2 := by simp
  have hki : (k : Int) < 16 := by omega
  have hJ : Hid ((Try.prog.info? 25).map (·.size) = some 33) := show _ = _ from infoBook
  go_enter Try.func24, Try.ntmps24
  go_upto_region 1 with fail
  generalize ((w.alloc (.cells (bkC A l.length c R F).toArray 25)).alloc (.cells #[.slice none 0 0, .int .i64 0, .int .i64 0, .int .i64 0, .int .i64 0, .int .i64 0, .int .i64 0, .int .i64 0, .int .i64 0, .int .i64 0, .int .i64 0, .int .i64 0, .int .i64 0, .int .i64 0, .int .i64 0, .int .i64 0, .int .i64 0, .int .i64 0, .int .i64 0, .int .i64 0, .int .i64 0, .int .i64 0, .int .i64 0, .int .i64 0, .int .i64 0, .int .i64 0, .int .i64 0, .int .i64 0, .int .i64 0, .int .i64 0, .int .i64 0, .int .i64 0, .int .i64 0] 25)) = w2 at hx hz hu hsz ⊢
  obtain ⟨ZC, hZC⟩ : ∃ z : Array Value, z = #[.slice none 0 0, .int .i64 0, .int .i64 0, .int .i64 0, .int .i64 0, .int .i64 0, .int .i64 0, .int .i64 0, .int .i64 0, .int .i64 0, .int .i64 0, .int .i64 0, .int .i64 0, .int .i64 0, .int .i64 0, .int .i64 0, .int .i64 0, .int .i64 0, .int .i64 0, .int .i64 0, .int .i64 0, .int .i64 0, .int .i64 0, .int .i64 0, .int .i64 0, .int .i64 0, .int .i64 0, .int .i64 0, .int .i64 0, .int .i64 0, .int .i64 0, .int .i64 0, .int .i64 0] := ⟨_, rfl⟩
  rw [← hZC] at hz
  have hZs : Hid (ZC.size = 33) := show _ = _ by rw [hZC]; rfl
  clear hZC
  have c0 := (cell_of_row _ _ 0 _ _ _ hx).trans (show (bkC A l.length c R F).toArray[0]? = some (.slice A l.length c) from rfl)
  have HX := Lib.hid hx
  have HZ := Lib.hid hz
  have hxl : w.heap.size < w2.heap.size := by omega
  have hzl : w.heap.size + 1 < w2.heap.size := by omega
  clear hx hz
  go_upto_region 4 with (go_at_call 37; refine (cC _ hu).mono ?_; rintro e w3 ⟨v, rfl, ho, hb1⟩; obtain ⟨A', c', hv⟩ := slice_ownR ho; subst hv; have hO2 := ho.down (show w.heap.size + 2 ≤ w2.heap.size by omega); have HO := Lib.hid hO2; clear hO2; have hx3 := (hb1.block hxl).trans HX.out; replace HZ := Lib.hid ((hb1.block hzl).trans HZ.out); replace hu := hu.call hb1; have d0 := (cell_of_row _ _ 0 _ _ _ hx3).trans (show (bkC A l.length c R F).toArray[0]? = some (.slice A l.length c) from rfl); have d1 := (cell_of_row _ _ (1 + k) _ _ _ hx3).trans (bk_role hR hk); have d2 := (cell_of_row _ _ (17 + k) _ _ _ hx3).trans (bk_fed hR hF hk); have f0 := frozen_of_row _ _ 0 _ _ hx3; have f1 := frozen_of_row _ _ (1 + k) _ _ hx3; have f2 := frozen_of_row _ _ (17 + k) _ _ hx3; have HX3 := Lib.hid hx3; clear hx3 hb1 ho c0 cC)
  have hx6 := heap_setCell_same _ _ (17 + k) _ _ (Value.int .i64 f) (heap_setCell_same _ _ (1 + k) _ _ (Value.int .i64 r) (heap_setCell_same w3 w.heap.size 0 _ _ (Value.slice A' l.length c') HX3.out))
  rw [bk_set3 r f hR hF hk] at hx6
  have hot : ∀ j, w.heap.size + 1 ≤ j → (((w3.setCell ⟨w.heap.size, 0, none⟩ (Value.slice A' l.length c')).setCell ⟨w.heap.size, 1 + k, none⟩ (Value.int .i64 r)).setCell ⟨w.heap.size, 17 + k, none⟩ (Value.int .i64 f)).heap[j]? = w3.heap[j]? := fun j hj =>
    have hne : j ≠ w.heap.size := by omega
    ((Below.heap_setCell _ _ _ _ hne).trans (Below.heap_setCell _ _ _ _ hne)).trans (Below.heap_setCell _ _ _ _ hne)
  have hz6 := (hot _ (Nat.le_refl _)).trans HZ.out
  have ho6 := OwnR.keep HO.out fun j hj => hot j (by omega)
  have hu6 := ((hu.setCell (p := ⟨w.heap.size, 0, none⟩) (Nat.le_refl _) (Value.slice A' l.length c')).setCell (p := ⟨w.heap.size, 1 + k, none⟩) (Nat.le_refl _) (Value.int .i64 r)).setCell (p := ⟨w.heap.size, 17 + k, none⟩) (Nat.le_refl _) (Value.int .i64 f)
  generalize (((w3.setCell ⟨w.heap.size, 0, none⟩ (Value.slice A' l.length c')).setCell ⟨w.heap.size, 1 + k, none⟩ (Value.int .i64 r)).setCell ⟨w.heap.size, 17 + k, none⟩ (Value.int .i64 f)) = w6 at hx6 hz6 ho6 hu6 ⊢
  have hlen : (bkC A' l.length c' (R.set k r) (F.set k f)).length = 33 := bkC_len (by rw [List.length_set, hR]) (by rw [List.length_set, hF])
  have hone : (bkC A' l.length c' (R.set k r) (F.set k f)).toArray.all (·.oneCell') = true := bk_one
  have HO6 := Lib.hid ho6
  have HX6 := Lib.hid hx6
  have HZ6 := Lib.hid hz6
  clear hot d0 d1 d2 f0 f1 f2 HX3 HX HZ HO ho6 hx6 hz6 hu
  generalize hCL : bkC A' l.length c' (R.set k r) (F.set k f) = CL at *
  have hj2 : Hid ((Try.prog.info? 25).map (·.size) = some CL.length) := show _ = _ by rw [hlen]; exact hJ.out
  have hj3 : Hid ((Try.prog.info? 25).map (·.size) = some CL.toArray.size) := show _ = _ by rw [List.size_toArray, hlen]; exact hJ.out
  have hsc : CL.toArray.size = 33 := by rw [← hlen]; simp
  have hzz : Hid (ZC.size = CL.toArray.size) := show _ = _ by rw [hsc]; exact hZs.out
  have HCL := Lib.hid hCL
  have HONE := Lib.hid hone
  have HSC := Lib.hid hsc
  clear hCL hone hlen hJ hZs hsc
  go_wp2_with (first
    | (refine wpList_load_mid rfl 25 (.tmp 4) rfl w.heap.size 0 rfl CL _ (range_all HX6.out) Try.underlying25 rfl hj2.out ?_)
    | (refine wpList_store_rowB rfl 25 (.tmp 8) (.tmp 21) rfl (w.heap.size + 1) _ ZC CL.toArray rfl rfl HZ6.out hj3.out hzz.out HONE.out ?_))
  refine end_bk rfl rfl _ _ (w.heap.size + 1) _ CL.toArray _ rfl rfl (setRow_heap _ _ _ _ _ _ HZ6.out) HSC.out ?_
  refine ⟨A', c', by rw [HCL.out], ?_, hu6.setRow (by omega) _⟩
  exact (OwnR.keep HO6.out fun j hj => setRow_other w6 _ j _ (by omega)).down (by omega)
open Go.ChangeShapes Go.WideShapes Go.ChangeAt Go.RowKit
def z16 : List Int := List.replicate 16 0
theorem zb_eq : (#[.slice none 0 0, .int .i64 0, .int .i64 0, .int .i64 0, .int .i64 0, .int .i64 0, .int .i64 0, .int .i64 0, .int .i64 0, .int .i64 0, .int .i64 0, .int .i64 0, .int .i64 0, .int .i64 0, .int .i64 0, .int .i64 0, .int .i64 0, .int .i64 0, .int .i64 0, .int .i64 0, .int .i64 0, .int .i64 0, .int .i64 0, .int .i64 0, .int .i64 0, .int .i64 0, .int .i64 0, .int .i64 0, .int .i64 0, .int .i64 0, .int .i64 0, .int .i64 0, .int .i64 0] : Array Value) = (bkC none 0 0 z16 z16).toArray := rfl
theorem results_bkE {fn : Func} {p q : Tmp} (h : fn.results = #[.cell p 25, .tmp q]) (tmps : Array Value) (w : World) (g : Nat) (t : TypeId) (cs : Array Value) (v : Value) (fr : Nat × Nat)
    (hp : tmps.getD p undef = .pointer (some ⟨g, 0, none⟩)) (hq : tmps.getD q undef = v) (hg : w.heap[g]? = some (.cells cs t fr)) (hsz : cs.size = 33) :
    (results fn tmps).run Try.prog w = .ok (.tuple #[.agg cs, v]) w := by
  have hp' : tmps[p]?.getD undef = .pointer (some ⟨g, 0, none⟩) := by simpa using hp
  have hq' : tmps[q]?.getD undef = v := by simpa using hq
  have hi : (Try.prog.info? 25).map (·.size) = some cs.size := by rw [hsz]; kernel_rfl
  simp [results, h, hp', hq', asAddr, run_loadVar_row w g t 25 cs fr _ hg Try.underlying25 rfl hi]
theorem end_bkE {P : Program} {fn : Func} {p q : Tmp} {Q : Ending → World → Prop} (hP : P = Try.prog) (h : fn.results = #[.cell p 25, .tmp q]) (a : Act) (w : World) (g : Nat) (t : TypeId) (cs : Array Value) (v : Value) (fr : Nat × Nat) (hd : a.defers = [])
    (hp : a.tmps.getD p undef = .pointer (some ⟨g, 0, none⟩)) (hq : a.tmps.getD q undef = v) (hg : w.heap[g]? = some (.cells cs t fr)) (hsz : cs.size = 33) (hQ : Q (.returned (.tuple #[.agg cs, v])) w) : bodyPost P fn Q .ret a w := by
  subst hP
  exact bodyPost_ret (v := .tuple #[.agg cs, v]) (results_bkE h a.tmps w g t cs v fr hp hq hg hsz) hd hQ
def BkEnd (E : Int) (l : List El) (R F : List Int) (w : World) (e : Ending) (w' : World) : Prop := ∃ A c, e = .returned (.tuple #[.agg (bkC A l.length c R F).toArray, .int .i64 E]) ∧ OwnR w.heap.size w' (.slice A l.length c) l ∧ Calm w w'
theorem BkEnd.none {E : Int} {w w' : World} {e : Ending} (he : e = .returned (.tuple #[.agg #[.slice none 0 0, .int .i64 0, .int .i64 0, .int .i64 0, .int .i64 0, .int .i64 0, .int .i64 0, .int .i64 0, .int .i64 0, .int .i64 0, .int .i64 0, .int .i64 0, .int .i64 0, .int .i64 0, .int .i64 0, .int .i64 0, .int .i64 0, .int .i64 0, .int .i64 0, .int .i64 0, .int .i64 0, .int .i64 0, .int .i64 0, .int .i64 0, .int .i64 0, .int .i64 0, .int .i64 0, .int .i64 0, .int .i64 0, .int .i64 0, .int .i64 0, .int .i64 0, .int .i64 0], .int .i64 E])) (hc : Calm w w') : BkEnd E [] z16 z16 w e w' := ⟨Option.none, 0, he, OwnR.nil _ _, hc⟩
set_option maxHeartbeats 4000000 in
theorem realmUp_any (A : Option Addr) (c : Nat) (l : List El) (R F : List Int) (p : Int) (w : World) (hn : l.length ≤ 9223372036854775807) (hL : Lies w A l) (hR : R.length = 16) (hF : F.length = 16) :
    Calls Try.prog 8 #[.agg (bkC A l.length c R F).toArray, .int .i64 p] w (BkEnd (roleErr l R F p 2) (if roleErr l R F p 2 = 0 then l else []) (if roleErr l R F p 2 = 0 then R.set p.toNat 1 else z16) (if roleErr l R F p 2 = 0 then F.set p.toNat 0 else z16) w) := by
  have cC := fun u (hu : Calm w u) => checkRole_any A c l R F p 2 u hn (hL.calm hu) hR hF
  have hx := heap_past (.cells #[.slice none 0 0, .int .i64 0, .int .i64 0, .int .i64 0, .int .i64 0, .int .i64 0, .int .i64 0, .int .i64 0, .int .i64 0, .int .i64 0, .int .i64 0, .int .i64 0, .int .i64 0, .int .i64 0, .int .i64 0, .int .i64 0, .int .i64 0, .int .i64 0, .int .i64 0, .int .i64 0, .int .i64 0, .int .i64 0, .int .i64 0, .int .i64 0, .int .i64 0, .int .i64 0, .int .i64 0, .int .i64 0, .int .i64 0, .int .i64 0, .int .i64 0, .int .i64 0, .int .i64 0] 25) (heap_new w (.cells (bkC A l.length c R F).toArray 25))
  have hz : ((w.alloc (.cells (bkC A l.length c R F).toArray 25)).alloc (.cells #[.slice none 0 0, .int .i64 0, .int .i64 0, .int .i64 0, .int .i64 0, .int .i64 0, .int .i64 0, .int .i64 0, .int .i64 0, .int .i64 0, .int .i64 0, .int .i64 0, .int .i64 0, .int .i64 0, .int .i64 0, .int .i64 0, .int .i64 0, .int .i64 0, .int .i64 0, .int .i64 0, .int .i64 0, .int .i64 0, .int .i64 0, .int .i64 0, .int .i64 0, .int .i64 0, .int .i64 0, .int .i64 0, .int .i64 0, .int .i64 0, .int .i64 0, .int .i64 0, .int .i64 0] 25)).heap[w.heap.size + 1]? = some (.cells #[.slice none 0 0, .int .i64 0, .int .i64 0, .int .i64 0, .int .i64 0, .int .i64 0, .int .i64 0, .int .i64 0, .int .i64 0, .int .i64 0, .int .i64 0, .int .i64 0, .int .i64 0, .int .i64 0, .int .i64 0, .int .i64 0, .int .i64 0, .int .i64 0, .int .i64 0, .int .i64 0, .int .i64 0, .int .i64 0, .int .i64 0, .int .i64 0, .int .i64 0, .int .i64 0, .int .i64 0, .int .i64 0, .int .i64 0, .int .i64 0, .int .i64 0, .int .i64 0, .int .i64 0] 25 (0, 0)) := two_new w _ _
  have hu := ((Calm.refl w).alloc (.cells (bkC A l.length c R F).toArray 25)).alloc (.cells #[.slice none 0 0, .int .i64 0, .int .i64 0, .int .i64 0, .int .i64 0, .int .i64 0, .int .i64 0, .int .i64 0, .int .i64 0, .int .i64 0, .int .i64 0, .int .i64 0, .int .i64 0, .int .i64 0, .int .i64 0, .int .i64 0, .int .i64 0, .int .i64 0, .int .i64 0, .int .i64 0, .int .i64 0, .int .i64 0, .int .i64 0, .int .i64 0, .int .i64 0, .int .i64 0, .int .i64 0, .int .i64 0, .int .i64 0, .int .i64 0, .int .i64 0, .int .i64 0, .int .i64 0] 25)
  have hsz : ((w.alloc (.cells (bkC A l.length c R F).toArray 25)).alloc (.cells #[.slice none 0 0, .int .i64 0, .int .i64 0, .int .i64 0, .int .i64 0, .int .i64 0, .int .i64 0, .int .i64 0, .int .i64 0, .int .i64 0, .int .i64 0, .int .i64 0, .int .i64 0, .int .i64 0, .int .i64 0, .int .i64 0, .int .i64 0, .int .i64 0, .int .i64 0, .int .i64 0, .int .i64 0, .int .i64 0, .int .i64 0, .int .i64 0, .int .i64 0, .int .i64 0, .int .i64 0, .int .i64 0, .int .i64 0, .int .i64 0, .int .i64 0, .int .i64 0, .int .i64 0] 25)).heap.size = w.heap.size + 2 := by simp
  have hJ : Hid ((Try.prog.info? 25).map (·.size) = some (bkC A l.length c R F).length) := show _ = _ by rw [bkC_len hR hF]; exact infoBook
  have hJ3 : Hid ((Try.prog.info? 25).map (·.size) = some 33) := show _ = _ from infoBook
  have hZ1 : Hid ((#[.slice none 0 0, .int .i64 0, .int .i64 0, .int .i64 0, .int .i64 0, .int .i64 0, .int .i64 0, .int .i64 0, .int .i64 0, .int .i64 0, .int .i64 0, .int .i64 0, .int .i64 0, .int .i64 0, .int .i64 0, .int .i64 0, .int .i64 0, .int .i64 0, .int .i64 0, .int .i64 0, .int .i64 0, .int .i64 0, .int .i64 0, .int .i64 0, .int .i64 0, .int .i64 0, .int .i64 0, .int .i64 0, .int .i64 0, .int .i64 0, .int .i64 0, .int .i64 0, .int .i64 0] : Array Value).all (·.oneCell') = true) := show _ = _ by rw [zb_eq]; exact bk_one
  by_cases hE : roleErr l R F p 2 = 0
  rotate_left
  · rw [if_neg hE, if_neg hE, if_neg hE]
    have b1 := ne_rl hE
    generalize roleErr l R F p 2 = E at cC b1 hE ⊢
    generalize (bkC A l.length c R F) = CL at *
    go_enter Try.func8, Try.ntmps8
    go_upto_region 1 with fail
    generalize ((w.alloc (.cells CL.toArray 25)).alloc (.cells #[.slice none 0 0, .int .i64 0, .int .i64 0, .int .i64 0, .int .i64 0, .int .i64 0, .int .i64 0, .int .i64 0, .int .i64 0, .int .i64 0, .int .i64 0, .int .i64 0, .int .i64 0, .int .i64 0, .int .i64 0, .int .i64 0, .int .i64 0, .int .i64 0, .int .i64 0, .int .i64 0, .int .i64 0, .int .i64 0, .int .i64 0, .int .i64 0, .int .i64 0, .int .i64 0, .int .i64 0, .int .i64 0, .int .i64 0, .int .i64 0, .int .i64 0, .int .i64 0, .int .i64 0] 25)) = w2 at hx hz hu hsz ⊢
    have HX := Lib.hid hx
    obtain ⟨ZC, hZC⟩ : ∃ z : Array Value, z = #[.slice none 0 0, .int .i64 0, .int .i64 0, .int .i64 0, .int .i64 0, .int .i64 0, .int .i64 0, .int .i64 0, .int .i64 0, .int .i64 0, .int .i64 0, .int .i64 0, .int .i64 0, .int .i64 0, .int .i64 0, .int .i64 0, .int .i64 0, .int .i64 0, .int .i64 0, .int .i64 0, .int .i64 0, .int .i64 0, .int .i64 0, .int .i64 0, .int .i64 0, .int .i64 0, .int .i64 0, .int .i64 0, .int .i64 0, .int .i64 0, .int .i64 0, .int .i64 0, .int .i64 0] := ⟨_, rfl⟩
    rw [← hZC] at hz
    have hZs : Hid (ZC.size = 33) := show _ = _ by rw [hZC]; rfl
    have hZ2 : Hid (ZC.all (·.oneCell') = true) := show _ = _ by rw [hZC]; exact hZ1.out
    have HQ := Lib.hid hZC
    have HZ := Lib.hid hz
    have hzl : w.heap.size + 1 < w2.heap.size := by omega
    clear hx hz hZC
    go_upto_region 3 with (first
      | (refine wpList_load_mid rfl 25 (.tmp 2) rfl w.heap.size 0 rfl CL _ (range_all HX.out) Try.underlying25 rfl hJ.out ?_)
      | (go_at_call 25; refine (cC _ hu).mono ?_; rintro e w3 ⟨rfl, hb1⟩; replace HZ := Lib.hid ((hb1.block hzl).trans HZ.out); replace hu := hu.call hb1; clear hb1))
    go_wp2_with (refine wpList_store_rowB rfl 25 (.tmp 4) (.tmp 12) rfl (w.heap.size + 1) _ ZC ZC rfl (by rw [HQ.out]; rfl) HZ.out (by rw [hZs.out]; exact hJ3.out) rfl hZ2.out ?_)
    (try simp only [Exit.inBlock, Exit.then])
    refine end_bkE (p := 4) (q := 5) rfl rfl _ _ (w.heap.size + 1) _ ZC _ _ rfl rfl rfl (setRow_heap _ _ _ _ _ _ HZ.out) hZs.out ?_
    exact BkEnd.none (by rw [HQ.out]; rfl) (hu.setRow (by omega) _)
  clear hZ1
  rw [if_pos hE, if_pos hE, if_pos hE]
  obtain ⟨hB, hp⟩ : bkErr l R F = 0 ∧ (0 ≤ p ∧ p ≤ 15) := by
    unfold roleErr at hE
    by_cases h : bkErr l R F = 0
    · rw [if_pos h] at hE
      by_cases h2 : 0 ≤ p ∧ p ≤ 15
      · exact ⟨h, h2⟩
      · rw [if_neg h2] at hE; exact absurd hE (by decide)
    · rw [if_neg h] at hE; exact absurd hE h
  have hl4 : l.length ≤ 400 := by
    unfold bkErr at hB
    by_cases h : runErr l = 0
    · exact (runErr_zero.1 h).1
    · rw [if_neg h] at hB; exact absurd hB h
  rw [hE] at cC ⊢
  obtain ⟨k, rfl⟩ : ∃ k : Nat, p = k := ⟨p.toNat, by omega⟩
  rw [Int.toNat_natCast]
  have cA := fun u (hu : Calm w u) => assign_any A c l R F k 1 0 u hl4 (hL.calm hu) hR hF (by omega)
  have h2 : ∀ A' c', (bkC A' l.length c' (R.set k 1) (F.set k 0)).toArray.size = 33 := fun A' c' => by
    have := bkC_len (A := A') (n := l.length) (c := c') (R := R.set k 1) (F := F.set k 0) (by rw [List.length_set, hR]) (by rw [List.length_set, hF])
    rw [← this]; simp
  have h3 : ∀ A' c', (bkC A' l.length c' (R.set k 1) (F.set k 0)).toArray.all (·.oneCell') = true := fun A' c' => bk_one
  have H2 := Lib.hid h2
  have H3 := Lib.hid h3
  clear h2 h3 hB hE hp hR hF
  generalize (bkC A l.length c R F) = CL at *
  go_enter Try.func8, Try.ntmps8
  go_upto_region 1 with fail
  generalize ((w.alloc (.cells CL.toArray 25)).alloc (.cells #[.slice none 0 0, .int .i64 0, .int .i64 0, .int .i64 0, .int .i64 0, .int .i64 0, .int .i64 0, .int .i64 0, .int .i64 0, .int .i64 0, .int .i64 0, .int .i64 0, .int .i64 0, .int .i64 0, .int .i64 0, .int .i64 0, .int .i64 0, .int .i64 0, .int .i64 0, .int .i64 0, .int .i64 0, .int .i64 0, .int .i64 0, .int .i64 0, .int .i64 0, .int .i64 0, .int .i64 0, .int .i64 0, .int .i64 0, .int .i64 0, .int .i64 0, .int .i64 0, .int .i64 0] 25)) = w2 at hx hz hu hsz ⊢
  obtain ⟨ZC, hZC⟩ : ∃ z : Array Value, z = #[.slice none 0 0, .int .i64 0, .int .i64 0, .int .i64 0, .int .i64 0, .int .i64 0, .int .i64 0, .int .i64 0, .int .i64 0, .int .i64 0, .int .i64 0, .int .i64 0, .int .i64 0, .int .i64 0, .int .i64 0, .int .i64 0, .int .i64 0, .int .i64 0, .int .i64 0, .int .i64 0, .int .i64 0, .int .i64 0, .int .i64 0, .int .i64 0, .int .i64 0, .int .i64 0, .int .i64 0, .int .i64 0, .int .i64 0, .int .i64 0, .int .i64 0, .int .i64 0, .int .i64 0] := ⟨_, rfl⟩
  rw [← hZC] at hz
  have hZs : Hid (ZC.size = 33) := show _ = _ by rw [hZC]; rfl
  clear hZC
  have HX := Lib.hid hx
  have HZ := Lib.hid hz
  have hxl : w.heap.size < w2.heap.size := by omega
  have hzl : w.heap.size + 1 < w2.heap.size := by omega
  clear hx hz
  go_wp2_with (first
    | (refine wpList_load_mid rfl 25 (.tmp 2) rfl w.heap.size 0 rfl CL _ (range_all HX.out) Try.underlying25 rfl hJ.out ?_)
    | (go_at_call 25; refine (cC _ hu).mono ?_; rintro e w3 ⟨rfl, hb1⟩; replace HX := Lib.hid ((hb1.block hxl).trans HX.out); replace HZ := Lib.hid ((hb1.block hzl).trans HZ.out); have hs3 := hb1.size; replace hu := hu.call hb1; clear hb1)
    | (go_at_call 24; refine (cA _ hu).mono ?_; rintro e w4 ⟨A', c', rfl, ho4, hb2⟩; replace HZ := Lib.hid ((hb2.block (by omega)).trans HZ.out); have HO4 := Lib.hid (ho4.down (show w.heap.size + 2 ≤ w3.heap.size by omega)); replace hu := hu.call hb2; clear hb2 ho4)
    | (refine wpList_load_mid rfl 25 (.tmp 2) rfl w.heap.size 0 rfl CL _ (range_all HX.out) Try.underlying25 rfl hJ.out ?_)
    | (refine wpList_store_rowB rfl 25 (.tmp 4) (.tmp 16) rfl (w.heap.size + 1) _ ZC _ rfl rfl HZ.out (by rw [H2.out]; exact hJ3.out) (hZs.out.trans (H2.out _ _).symm) (H3.out _ _) ?_))
  refine end_bkE (p := 4) (q := 5) rfl rfl _ _ (w.heap.size + 1) _ _ _ _ rfl rfl rfl (setRow_heap _ _ _ _ _ _ HZ.out) (H2.out _ _) ?_
  exact ⟨A', c', rfl, (OwnR.keep HO4.out fun j hj => setRow_other _ _ j _ (by omega)).down (by omega), hu.setRow (by omega) _⟩
open Go.ChangeShapes Go.WideShapes Go.ChangeAt Go.RowKit
def IsZk (z : Array Value) : Prop := z = #[.slice none 0 0, .int .i64 0, .int .i64 0, .int .i64 0, .int .i64 0, .int .i64 0, .int .i64 0, .int .i64 0, .int .i64 0, .int .i64 0, .int .i64 0, .int .i64 0, .int .i64 0, .int .i64 0, .int .i64 0, .int .i64 0, .int .i64 0, .int .i64 0, .int .i64 0, .int .i64 0, .int .i64 0, .int .i64 0, .int .i64 0, .int .i64 0, .int .i64 0, .int .i64 0, .int .i64 0, .int .i64 0, .int .i64 0, .int .i64 0, .int .i64 0, .int .i64 0, .int .i64 0]
theorem IsZk.size {z : Array Value} (h : IsZk z) : z.size = 33 := by rw [show z = _ from h]; rfl
theorem IsZk.one {z : Array Value} (h : IsZk z) : z.all (·.oneCell') = true := by rw [show z = _ from h, zb_eq]; exact bk_one
noncomputable def mkErr (l : List El) (R F : List Int) (p r : Int) : Int := if bkErr l R F = 0 then (if (0 ≤ p ∧ p ≤ 15) ∧ (r = 1 ∨ r = 2) then (if gI R p.toNat = 0 then 0 else 5) else 1) else bkErr l R F
theorem mkErr_zero {l : List El} {R F : List Int} {p r : Int} (h : mkErr l R F p r = 0) : bkErr l R F = 0 ∧ (0 ≤ p ∧ p ≤ 15) ∧ (r = 1 ∨ r = 2) ∧ gI R p.toNat = 0 := by
 unfold mkErr at h
 by_cases h1 : bkErr l R F = 0
 ·rw [if_pos h1] at h
  by_cases h2 : (0 ≤ p ∧ p ≤ 15) ∧ (r = 1 ∨ r = 2)
  ·rw [if_pos h2] at h
   by_cases h3 : gI R p.toNat = 0
   ·exact ⟨h1, h2.1, h2.2, h3⟩
   ·rw [if_neg h3] at h; exact absurd h (by decide)
  ·rw [if_neg h2] at h; exact absurd h (by decide)
 ·rw [if_neg h1] at h; exact absurd h h1
set_option maxHeartbeats 4000000 in
theorem realmMake_any (A : Option Addr) (c : Nat) (l : List El) (R F : List Int) (p r : Int) (w : World) (hn : l.length ≤ 9223372036854775807) (hL : Lies w A l) (hR : R.length = 16) (hF : F.length = 16) :
    Calls Try.prog 7 #[.agg (bkC A l.length c R F).toArray, .int .i64 p, .int .i64 r] w (BkEnd (mkErr l R F p r) (if mkErr l R F p r = 0 then l else []) (if mkErr l R F p r = 0 then R.set p.toNat r else z16) (if mkErr l R F p r = 0 then F.set p.toNat 0 else z16) w) := by
  have cC := fun u (hu : Calm w u) => realmCheck_any A c l R F u hn (hL.calm hu) hR hF
  have hx := heap_past (.cells #[.slice none 0 0, .int .i64 0, .int .i64 0, .int .i64 0, .int .i64 0, .int .i64 0, .int .i64 0, .int .i64 0, .int .i64 0, .int .i64 0, .int .i64 0, .int .i64 0, .int .i64 0, .int .i64 0, .int .i64 0, .int .i64 0, .int .i64 0, .int .i64 0, .int .i64 0, .int .i64 0, .int .i64 0, .int .i64 0, .int .i64 0, .int .i64 0, .int .i64 0, .int .i64 0, .int .i64 0, .int .i64 0, .int .i64 0, .int .i64 0, .int .i64 0, .int .i64 0, .int .i64 0] 25) (heap_new w (.cells (bkC A l.length c R F).toArray 25))
  have hz : ((w.alloc (.cells (bkC A l.length c R F).toArray 25)).alloc (.cells #[.slice none 0 0, .int .i64 0, .int .i64 0, .int .i64 0, .int .i64 0, .int .i64 0, .int .i64 0, .int .i64 0, .int .i64 0, .int .i64 0, .int .i64 0, .int .i64 0, .int .i64 0, .int .i64 0, .int .i64 0, .int .i64 0, .int .i64 0, .int .i64 0, .int .i64 0, .int .i64 0, .int .i64 0, .int .i64 0, .int .i64 0, .int .i64 0, .int .i64 0, .int .i64 0, .int .i64 0, .int .i64 0, .int .i64 0, .int .i64 0, .int .i64 0, .int .i64 0, .int .i64 0] 25)).heap[w.heap.size + 1]? = some (.cells #[.slice none 0 0, .int .i64 0, .int .i64 0, .int .i64 0, .int .i64 0, .int .i64 0, .int .i64 0, .int .i64 0, .int .i64 0, .int .i64 0, .int .i64 0, .int .i64 0, .int .i64 0, .int .i64 0, .int .i64 0, .int .i64 0, .int .i64 0, .int .i64 0, .int .i64 0, .int .i64 0, .int .i64 0, .int .i64 0, .int .i64 0, .int .i64 0, .int .i64 0, .int .i64 0, .int .i64 0, .int .i64 0, .int .i64 0, .int .i64 0, .int .i64 0, .int .i64 0, .int .i64 0] 25 (0, 0)) := two_new w _ _
  have hu := ((Calm.refl w).alloc (.cells (bkC A l.length c R F).toArray 25)).alloc (.cells #[.slice none 0 0, .int .i64 0, .int .i64 0, .int .i64 0, .int .i64 0, .int .i64 0, .int .i64 0, .int .i64 0, .int .i64 0, .int .i64 0, .int .i64 0, .int .i64 0, .int .i64 0, .int .i64 0, .int .i64 0, .int .i64 0, .int .i64 0, .int .i64 0, .int .i64 0, .int .i64 0, .int .i64 0, .int .i64 0, .int .i64 0, .int .i64 0, .int .i64 0, .int .i64 0, .int .i64 0, .int .i64 0, .int .i64 0, .int .i64 0, .int .i64 0, .int .i64 0, .int .i64 0] 25)
  have hsz : ((w.alloc (.cells (bkC A l.length c R F).toArray 25)).alloc (.cells #[.slice none 0 0, .int .i64 0, .int .i64 0, .int .i64 0, .int .i64 0, .int .i64 0, .int .i64 0, .int .i64 0, .int .i64 0, .int .i64 0, .int .i64 0, .int .i64 0, .int .i64 0, .int .i64 0, .int .i64 0, .int .i64 0, .int .i64 0, .int .i64 0, .int .i64 0, .int .i64 0, .int .i64 0, .int .i64 0, .int .i64 0, .int .i64 0, .int .i64 0, .int .i64 0, .int .i64 0, .int .i64 0, .int .i64 0, .int .i64 0, .int .i64 0, .int .i64 0, .int .i64 0] 25)).heap.size = w.heap.size + 2 := by simp
  have hJ : Hid ((Try.prog.info? 25).map (·.size) = some (bkC A l.length c R F).length) := show _ = _ by rw [bkC_len hR hF]; exact infoBook
  have hJ3 : Hid ((Try.prog.info? 25).map (·.size) = some 33) := show _ = _ from infoBook
  have RR : ∀ u : World, u.heap[w.heap.size]? = some (.cells (bkC A l.length c R F).toArray 25 (0, 0)) → ∀ k, k < 16 → u.cell? ⟨w.heap.size, 1 + k, none⟩ = some (.int .i64 (gI R k)) := fun u h k hk => (cell_of_row _ _ (1 + k) _ _ _ h).trans (bk_role hR hk)
  have RRH := Lib.hid RR
  clear RR
  have cI := fun u => isRealm_any p u
  by_cases hE : bkErr l R F = 0
  rotate_left
  · have hM : mkErr l R F p r = bkErr l R F := by unfold mkErr; rw [if_neg hE]
    rw [hM, if_neg hE, if_neg hE, if_neg hE]
    have b1 := ne_rl hE
    generalize bkErr l R F = E at cC b1 hE ⊢
    clear cI hM RRH
    generalize (bkC A l.length c R F) = CL at *
    go_enter Try.func7, Try.ntmps7
    go_upto_region 1 with fail
    generalize ((w.alloc (.cells CL.toArray 25)).alloc (.cells #[.slice none 0 0, .int .i64 0, .int .i64 0, .int .i64 0, .int .i64 0, .int .i64 0, .int .i64 0, .int .i64 0, .int .i64 0, .int .i64 0, .int .i64 0, .int .i64 0, .int .i64 0, .int .i64 0, .int .i64 0, .int .i64 0, .int .i64 0, .int .i64 0, .int .i64 0, .int .i64 0, .int .i64 0, .int .i64 0, .int .i64 0, .int .i64 0, .int .i64 0, .int .i64 0, .int .i64 0, .int .i64 0, .int .i64 0, .int .i64 0, .int .i64 0, .int .i64 0, .int .i64 0] 25)) = w2 at hx hz hu hsz ⊢
    obtain ⟨ZC, hZC⟩ : ∃ z : Array Value, z = #[.slice none 0 0, .int .i64 0, .int .i64 0, .int .i64 0, .int .i64 0, .int .i64 0, .int .i64 0, .int .i64 0, .int .i64 0, .int .i64 0, .int .i64 0, .int .i64 0, .int .i64 0, .int .i64 0, .int .i64 0, .int .i64 0, .int .i64 0, .int .i64 0, .int .i64 0, .int .i64 0, .int .i64 0, .int .i64 0, .int .i64 0, .int .i64 0, .int .i64 0, .int .i64 0, .int .i64 0, .int .i64 0, .int .i64 0, .int .i64 0, .int .i64 0, .int .i64 0, .int .i64 0] := ⟨_, rfl⟩
    rw [← hZC] at hz
    have hIZ : IsZk ZC := hZC
    clear hZC
    have HX := Lib.hid hx
    have HZ := Lib.hid hz
    have hxl : w.heap.size < w2.heap.size := by omega
    have hzl : w.heap.size + 1 < w2.heap.size := by omega
    clear hx hz
    go_upto_region 3 with (first
      | (refine wpList_load_mid rfl 25 (.tmp 3) rfl w.heap.size 0 rfl CL _ (range_all HX.out) Try.underlying25 rfl hJ.out ?_)
      | (go_at_call 11; refine (cC _ hu).mono ?_; rintro e w3 ⟨rfl, hb1⟩; replace HX := Lib.hid ((hb1.block hxl).trans HX.out); replace HZ := Lib.hid ((hb1.block hzl).trans HZ.out); replace hxl := Nat.lt_of_lt_of_le hxl hb1.size; replace hzl := Nat.lt_of_lt_of_le hzl hb1.size; replace hu := hu.call hb1; clear hb1))
    go_wp2_with (refine wpList_store_rowB rfl 25 (.tmp 6) (.tmp 13) rfl (w.heap.size + 1) _ ZC ZC rfl (by rw [show ZC = _ from hIZ]; rfl) HZ.out (by rw [hIZ.size]; exact hJ3.out) rfl hIZ.one ?_)
    (try simp only [Exit.inBlock, Exit.then])
    refine end_bkE (p := 6) (q := 7) rfl rfl _ _ (w.heap.size + 1) _ ZC _ _ rfl rfl rfl (setRow_heap _ _ _ _ _ _ HZ.out) hIZ.size ?_
    exact BkEnd.none (by rw [show ZC = _ from hIZ]; rfl) (hu.setRow (by omega) _)
  have hl4 : l.length ≤ 400 := by
    unfold bkErr at hE
    by_cases h : runErr l = 0
    · exact (runErr_zero.1 h).1
    · rw [if_neg h] at hE; exact absurd hE h
  rw [hE] at cC
  by_cases hp : 0 ≤ p ∧ p ≤ 15
  rotate_left
  · have hM : mkErr l R F p r = 1 := by unfold mkErr; rw [if_pos hE, if_neg (fun h => hp h.1)]
    rw [hM, if_neg (by decide), if_neg (by decide), if_neg (by decide)]
    rw [decide_eq_false hp] at cI
    clear hM RRH hE
    generalize (bkC A l.length c R F) = CL at *
    go_enter Try.func7, Try.ntmps7
    go_upto_region 1 with fail
    generalize ((w.alloc (.cells CL.toArray 25)).alloc (.cells #[.slice none 0 0, .int .i64 0, .int .i64 0, .int .i64 0, .int .i64 0, .int .i64 0, .int .i64 0, .int .i64 0, .int .i64 0, .int .i64 0, .int .i64 0, .int .i64 0, .int .i64 0, .int .i64 0, .int .i64 0, .int .i64 0, .int .i64 0, .int .i64 0, .int .i64 0, .int .i64 0, .int .i64 0, .int .i64 0, .int .i64 0, .int .i64 0, .int .i64 0, .int .i64 0, .int .i64 0, .int .i64 0, .int .i64 0, .int .i64 0, .int .i64 0, .int .i64 0, .int .i64 0] 25)) = w2 at hx hz hu hsz ⊢
    obtain ⟨ZC, hZC⟩ : ∃ z : Array Value, z = #[.slice none 0 0, .int .i64 0, .int .i64 0, .int .i64 0, .int .i64 0, .int .i64 0, .int .i64 0, .int .i64 0, .int .i64 0, .int .i64 0, .int .i64 0, .int .i64 0, .int .i64 0, .int .i64 0, .int .i64 0, .int .i64 0, .int .i64 0, .int .i64 0, .int .i64 0, .int .i64 0, .int .i64 0, .int .i64 0, .int .i64 0, .int .i64 0, .int .i64 0, .int .i64 0, .int .i64 0, .int .i64 0, .int .i64 0, .int .i64 0, .int .i64 0, .int .i64 0, .int .i64 0] := ⟨_, rfl⟩
    rw [← hZC] at hz
    have hIZ : IsZk ZC := hZC
    clear hZC
    have HX := Lib.hid hx
    have HZ := Lib.hid hz
    have hxl : w.heap.size < w2.heap.size := by omega
    have hzl : w.heap.size + 1 < w2.heap.size := by omega
    clear hx hz
    go_upto_region 5 with (first
      | (refine wpList_load_mid rfl 25 (.tmp 3) rfl w.heap.size 0 rfl CL _ (range_all HX.out) Try.underlying25 rfl hJ.out ?_)
      | (go_at_call 11; refine (cC _ hu).mono ?_; rintro e w3 ⟨rfl, hb1⟩; replace HX := Lib.hid ((hb1.block hxl).trans HX.out); replace HZ := Lib.hid ((hb1.block hzl).trans HZ.out); replace hxl := Nat.lt_of_lt_of_le hxl hb1.size; replace hzl := Nat.lt_of_lt_of_le hzl hb1.size; replace hu := hu.call hb1; clear hb1)
      | (go_at_call 23; refine (cI _).mono ?_; rintro e w4 ⟨rfl, hb2⟩; replace HX := Lib.hid ((hb2.block hxl).trans HX.out); replace HZ := Lib.hid ((hb2.block hzl).trans HZ.out);  replace hxl := Nat.lt_of_lt_of_le hxl hb2.size; replace hzl := Nat.lt_of_lt_of_le hzl hb2.size; replace hu := hu.call hb2; clear hb2))
    go_wp2_with (refine wpList_store_rowB rfl 25 (.tmp 6) (.tmp 26) rfl (w.heap.size + 1) _ ZC ZC rfl (by rw [show ZC = _ from hIZ]; rfl) HZ.out (by rw [hIZ.size]; exact hJ3.out) rfl hIZ.one ?_)
    (try simp only [Exit.inBlock, Exit.then])
    refine end_bkE (p := 6) (q := 7) rfl rfl _ _ (w.heap.size + 1) _ ZC _ _ rfl rfl rfl (setRow_heap _ _ _ _ _ _ HZ.out) hIZ.size ?_
    exact BkEnd.none (by rw [show ZC = _ from hIZ]; rfl) (hu.setRow (by omega) _)
  rw [decide_eq_true hp] at cI
  by_cases hr : r = 1 ∨ r = 2
  rotate_left
  · have hM : mkErr l R F p r = 1 := by unfold mkErr; rw [if_pos hE, if_neg (fun h => hr h.2)]
    rw [hM, if_neg (by decide), if_neg (by decide), if_neg (by decide)]
    have b1 : (r != 1) = true := by simp; omega
    have b2 : (r != 2) = true := by simp; omega
    clear hM RRH hE hr hp
    generalize (bkC A l.length c R F) = CL at *
    go_enter Try.func7, Try.ntmps7
    go_upto_region 1 with fail
    generalize ((w.alloc (.cells CL.toArray 25)).alloc (.cells #[.slice none 0 0, .int .i64 0, .int .i64 0, .int .i64 0, .int .i64 0, .int .i64 0, .int .i64 0, .int .i64 0, .int .i64 0, .int .i64 0, .int .i64 0, .int .i64 0, .int .i64 0, .int .i64 0, .int .i64 0, .int .i64 0, .int .i64 0, .int .i64 0, .int .i64 0, .int .i64 0, .int .i64 0, .int .i64 0, .int .i64 0, .int .i64 0, .int .i64 0, .int .i64 0, .int .i64 0, .int .i64 0, .int .i64 0, .int .i64 0, .int .i64 0, .int .i64 0, .int .i64 0] 25)) = w2 at hx hz hu hsz ⊢
    obtain ⟨ZC, hZC⟩ : ∃ z : Array Value, z = #[.slice none 0 0, .int .i64 0, .int .i64 0, .int .i64 0, .int .i64 0, .int .i64 0, .int .i64 0, .int .i64 0, .int .i64 0, .int .i64 0, .int .i64 0, .int .i64 0, .int .i64 0, .int .i64 0, .int .i64 0, .int .i64 0, .int .i64 0, .int .i64 0, .int .i64 0, .int .i64 0, .int .i64 0, .int .i64 0, .int .i64 0, .int .i64 0, .int .i64 0, .int .i64 0, .int .i64 0, .int .i64 0, .int .i64 0, .int .i64 0, .int .i64 0, .int .i64 0, .int .i64 0] := ⟨_, rfl⟩
    rw [← hZC] at hz
    have hIZ : IsZk ZC := hZC
    clear hZC
    have HX := Lib.hid hx
    have HZ := Lib.hid hz
    have hxl : w.heap.size < w2.heap.size := by omega
    have hzl : w.heap.size + 1 < w2.heap.size := by omega
    clear hx hz
    go_upto_region 5 with (first
      | (refine wpList_load_mid rfl 25 (.tmp 3) rfl w.heap.size 0 rfl CL _ (range_all HX.out) Try.underlying25 rfl hJ.out ?_)
      | (go_at_call 11; refine (cC _ hu).mono ?_; rintro e w3 ⟨rfl, hb1⟩; replace HX := Lib.hid ((hb1.block hxl).trans HX.out); replace HZ := Lib.hid ((hb1.block hzl).trans HZ.out); replace hxl := Nat.lt_of_lt_of_le hxl hb1.size; replace hzl := Nat.lt_of_lt_of_le hzl hb1.size; replace hu := hu.call hb1; clear hb1)
      | (go_at_call 23; refine (cI _).mono ?_; rintro e w4 ⟨rfl, hb2⟩; replace HX := Lib.hid ((hb2.block hxl).trans HX.out); replace HZ := Lib.hid ((hb2.block hzl).trans HZ.out);  replace hxl := Nat.lt_of_lt_of_le hxl hb2.size; replace hzl := Nat.lt_of_lt_of_le hzl hb2.size; replace hu := hu.call hb2; clear hb2))
    go_wp2_with (refine wpList_store_rowB rfl 25 (.tmp 6) (.tmp 26) rfl (w.heap.size + 1) _ ZC ZC rfl (by rw [show ZC = _ from hIZ]; rfl) HZ.out (by rw [hIZ.size]; exact hJ3.out) rfl hIZ.one ?_)
    (try simp only [Exit.inBlock, Exit.then])
    refine end_bkE (p := 6) (q := 7) rfl rfl _ _ (w.heap.size + 1) _ ZC _ _ rfl rfl rfl (setRow_heap _ _ _ _ _ _ HZ.out) hIZ.size ?_
    exact BkEnd.none (by rw [show ZC = _ from hIZ]; rfl) (hu.setRow (by omega) _)
  obtain ⟨k, rfl⟩ : ∃ k : Nat, p = k := ⟨p.toNat, by omega⟩
  have hk : k < 16 := by omega
  have hki : (k : Int) < 16 := by omega
  by_cases h0 : gI R k = 0
  rotate_left
  · have hM : mkErr l R F k r = 5 := by unfold mkErr; rw [if_pos hE, if_pos ⟨hp, hr⟩, Int.toNat_natCast, if_neg h0]
    rw [hM, if_neg (by decide), if_neg (by decide), if_neg (by decide)]
    have b1 := ne_rl h0
    replace RRH := Lib.hid (fun u h => RRH.out u h k hk)
    generalize gI R k = G at *
    clear hM hE hp h0
    generalize (bkC A l.length c R F) = CL at *
    rcases hr with rfl | rfl
    all_goals
      go_enter Try.func7, Try.ntmps7
      go_upto_region 1 with fail
      generalize ((w.alloc (.cells CL.toArray 25)).alloc (.cells #[.slice none 0 0, .int .i64 0, .int .i64 0, .int .i64 0, .int .i64 0, .int .i64 0, .int .i64 0, .int .i64 0, .int .i64 0, .int .i64 0, .int .i64 0, .int .i64 0, .int .i64 0, .int .i64 0, .int .i64 0, .int .i64 0, .int .i64 0, .int .i64 0, .int .i64 0, .int .i64 0, .int .i64 0, .int .i64 0, .int .i64 0, .int .i64 0, .int .i64 0, .int .i64 0, .int .i64 0, .int .i64 0, .int .i64 0, .int .i64 0, .int .i64 0, .int .i64 0, .int .i64 0] 25)) = w2 at hx hz hu hsz ⊢
      obtain ⟨ZC, hZC⟩ : ∃ z : Array Value, z = #[.slice none 0 0, .int .i64 0, .int .i64 0, .int .i64 0, .int .i64 0, .int .i64 0, .int .i64 0, .int .i64 0, .int .i64 0, .int .i64 0, .int .i64 0, .int .i64 0, .int .i64 0, .int .i64 0, .int .i64 0, .int .i64 0, .int .i64 0, .int .i64 0, .int .i64 0, .int .i64 0, .int .i64 0, .int .i64 0, .int .i64 0, .int .i64 0, .int .i64 0, .int .i64 0, .int .i64 0, .int .i64 0, .int .i64 0, .int .i64 0, .int .i64 0, .int .i64 0, .int .i64 0] := ⟨_, rfl⟩
      rw [← hZC] at hz
      have hIZ : IsZk ZC := hZC
      clear hZC
      have HX := Lib.hid hx
      have HZ := Lib.hid hz
      have hxl : w.heap.size < w2.heap.size := by omega
      have hzl : w.heap.size + 1 < w2.heap.size := by omega
      clear hx hz
      go_upto_region 7 with (first
        | (refine wpList_load_mid rfl 25 (.tmp 3) rfl w.heap.size 0 rfl CL _ (range_all HX.out) Try.underlying25 rfl hJ.out ?_)
        | (go_at_call 11; refine (cC _ hu).mono ?_; rintro e w3 ⟨rfl, hb1⟩; replace HX := Lib.hid ((hb1.block hxl).trans HX.out); replace HZ := Lib.hid ((hb1.block hzl).trans HZ.out); replace hxl := Nat.lt_of_lt_of_le hxl hb1.size; replace hzl := Nat.lt_of_lt_of_le hzl hb1.size; replace hu := hu.call hb1; clear hb1)
        | (go_at_call 23; refine (cI _).mono ?_; rintro e w4 ⟨rfl, hb2⟩; replace HX := Lib.hid ((hb2.block hxl).trans HX.out); replace HZ := Lib.hid ((hb2.block hzl).trans HZ.out); have c1 := RRH.out _ HX.out; replace hxl := Nat.lt_of_lt_of_le hxl hb2.size; replace hzl := Nat.lt_of_lt_of_le hzl hb2.size; replace hu := hu.call hb2; clear hb2))
      go_wp2_with (refine wpList_store_rowB rfl 25 (.tmp 6) (.tmp 32) rfl (w.heap.size + 1) _ ZC ZC rfl (by rw [show ZC = _ from hIZ]; rfl) HZ.out (by rw [hIZ.size]; exact hJ3.out) rfl hIZ.one ?_)
      (try simp only [Exit.inBlock, Exit.then])
      refine end_bkE (p := 6) (q := 7) rfl rfl _ _ (w.heap.size + 1) _ ZC _ _ rfl rfl rfl (setRow_heap _ _ _ _ _ _ HZ.out) hIZ.size ?_
      exact BkEnd.none (by rw [show ZC = _ from hIZ]; rfl) (hu.setRow (by omega) _)
  have hM : mkErr l R F k r = 0 := by unfold mkErr; rw [if_pos hE, if_pos ⟨hp, hr⟩, Int.toNat_natCast, if_pos h0]
  rw [hM, if_pos rfl, if_pos rfl, if_pos rfl, Int.toNat_natCast]
  have cA := fun u (hu : Calm w u) => assign_any A c l R F k r 0 u hl4 (hL.calm hu) hR hF (by omega)
  have h2 : ∀ A' c', (bkC A' l.length c' (R.set k r) (F.set k 0)).toArray.size = 33 := fun A' c' => by
    have := bkC_len (A := A') (n := l.length) (c := c') (R := R.set k r) (F := F.set k 0) (by rw [List.length_set, hR]) (by rw [List.length_set, hF])
    rw [← this]; simp
  have h3 : ∀ A' c', (bkC A' l.length c' (R.set k r) (F.set k 0)).toArray.all (·.oneCell') = true := fun A' c' => bk_one
  have H2 := Lib.hid h2
  have H3 := Lib.hid h3
  replace RRH := Lib.hid (fun u h => RRH.out u h k hk)
  rw [h0] at RRH
  clear h2 h3 hE hp hR hF hM h0
  generalize (bkC A l.length c R F) = CL at *
  rcases hr with rfl | rfl
  all_goals
    go_enter Try.func7, Try.ntmps7
    go_upto_region 1 with fail
    generalize ((w.alloc (.cells CL.toArray 25)).alloc (.cells #[.slice none 0 0, .int .i64 0, .int .i64 0, .int .i64 0, .int .i64 0, .int .i64 0, .int .i64 0, .int .i64 0, .int .i64 0, .int .i64 0, .int .i64 0, .int .i64 0, .int .i64 0, .int .i64 0, .int .i64 0, .int .i64 0, .int .i64 0, .int .i64 0, .int .i64 0, .int .i64 0, .int .i64 0, .int .i64 0, .int .i64 0, .int .i64 0, .int .i64 0, .int .i64 0, .int .i64 0, .int .i64 0, .int .i64 0, .int .i64 0, .int .i64 0, .int .i64 0, .int .i64 0] 25)) = w2 at hx hz hu hsz ⊢
    obtain ⟨ZC, hZC⟩ : ∃ z : Array Value, z = #[.slice none 0 0, .int .i64 0, .int .i64 0, .int .i64 0, .int .i64 0, .int .i64 0, .int .i64 0, .int .i64 0, .int .i64 0, .int .i64 0, .int .i64 0, .int .i64 0, .int .i64 0, .int .i64 0, .int .i64 0, .int .i64 0, .int .i64 0, .int .i64 0, .int .i64 0, .int .i64 0, .int .i64 0, .int .i64 0, .int .i64 0, .int .i64 0, .int .i64 0, .int .i64 0, .int .i64 0, .int .i64 0, .int .i64 0, .int .i64 0, .int .i64 0, .int .i64 0, .int .i64 0] := ⟨_, rfl⟩
    rw [← hZC] at hz
    have hIZ : IsZk ZC := hZC
    clear hZC
    have HX := Lib.hid hx
    have HZ := Lib.hid hz
    have hxl : w.heap.size < w2.heap.size := by omega
    have hzl : w.heap.size + 1 < w2.heap.size := by omega
    clear hx hz
    go_wp2_with (first
      | (refine wpList_load_mid rfl 25 (.tmp 3) rfl w.heap.size 0 rfl CL _ (range_all HX.out) Try.underlying25 rfl hJ.out ?_)
      | (go_at_call 11; refine (cC _ hu).mono ?_; rintro e w3 ⟨rfl, hb1⟩; replace HX := Lib.hid ((hb1.block hxl).trans HX.out); replace HZ := Lib.hid ((hb1.block hzl).trans HZ.out); replace hxl := Nat.lt_of_lt_of_le hxl hb1.size; replace hzl := Nat.lt_of_lt_of_le hzl hb1.size; replace hu := hu.call hb1; clear hb1)
      | (go_at_call 23; refine (cI _).mono ?_; rintro e w4 ⟨rfl, hb2⟩; replace HX := Lib.hid ((hb2.block hxl).trans HX.out); replace HZ := Lib.hid ((hb2.block hzl).trans HZ.out); have c1 := RRH.out _ HX.out; replace hxl := Nat.lt_of_lt_of_le hxl hb2.size; replace hzl := Nat.lt_of_lt_of_le hzl hb2.size; replace hu := hu.call hb2; clear hb2)
      | (go_at_call 24; refine (cA _ hu).mono ?_; rintro e w5 ⟨A', c', rfl, ho5, hb3⟩; replace HZ := Lib.hid ((hb3.block hzl).trans HZ.out); have HO5 := Lib.hid (ho5.down (show w.heap.size + 2 ≤ w4.heap.size by omega)); replace hzl := Nat.lt_of_lt_of_le hzl hb3.size; replace hu := hu.call hb3; clear hb3 ho5)
      | (refine wpList_load_mid rfl 25 (.tmp 3) rfl w.heap.size 0 rfl CL _ (range_all HX.out) Try.underlying25 rfl hJ.out ?_)
      | (refine wpList_store_rowB rfl 25 (.tmp 6) (.tmp 36) rfl (w.heap.size + 1) _ ZC _ rfl rfl HZ.out (by rw [H2.out]; exact hJ3.out) (hIZ.size.trans (H2.out _ _).symm) (H3.out _ _) ?_))
    refine end_bkE (p := 6) (q := 7) rfl rfl _ _ (w.heap.size + 1) _ _ _ _ rfl rfl rfl (setRow_heap _ _ _ _ _ _ HZ.out) (H2.out _ _) ?_
    exact ⟨A', c', rfl, (OwnR.keep HO5.out fun j hj => setRow_other _ _ j _ (by omega)).down (by omega), hu.setRow (by omega) _⟩
theorem goodSub {l l' : List El} (h : Good l) (hs : l'.Sublist l) : Good l' :=
 ⟨Nat.le_trans hs.length_le h.1, fun e he => h.2.1 e (hs.subset he), h.2.2.sublist hs⟩
open Go.ChangeShapes Go.WideShapes Go.ChangeAt Go.RowKit
def posP (l : List El) (p : Int) : Nat := (l.filter fun e => decide (e.p < p)).length
theorem posP_part {l : List El} {p : Int} {h : Nat} (hn : h ≤ l.length) (h1 : ∀ i (hi : i < l.length), i < h → l[i].p < p) (h2 : ∀ i (hi : i < l.length), h ≤ i → ¬ l[i].p < p) : posP l p = h := by
 unfold posP
 have e1 : (l.take h).filter (fun e => decide (e.p < p)) = l.take h := List.filter_eq_self.2 fun e he => by
  obtain ⟨i, hi, rfl⟩ := List.getElem_of_mem he
  rw [List.length_take] at hi
  rw [List.getElem_take]
  exact decide_eq_true (h1 i (by omega) (by omega))
 have e2 : (l.drop h).filter (fun e => decide (e.p < p)) = [] := List.filter_eq_nil_iff.2 fun e he => by
  obtain ⟨i, hi, rfl⟩ := List.getElem_of_mem he
  rw [List.length_drop] at hi
  rw [List.getElem_drop, decide_eq_true_eq]
  exact h2 (h + i) (by omega) (by omega)
 rw [← List.take_append_drop h l, List.filter_append, e1, e2, List.append_nil, List.length_take]
 omega
theorem Fol.p_le {a b : El} (h : Fol a b) : a.p ≤ b.p := by
 have h1 := h.1
 rcases Int.lt_or_le b.p a.p with h2 | h2
 ·exfalso
  unfold sLt kLt at h1
  simp only [El.key, Prod.mk.injEq] at h1
  omega
 ·exact h2
def RiseP (l : List El) : Prop := l.Pairwise fun a b => a.p ≤ b.p
theorem riseP {l : List El} (h : l.Pairwise Fol) : RiseP l := h.imp fun h => h.p_le
theorem rise_split {p : Int} : ∀ {l : List El}, RiseP l → l.take (posP l p) = l.filter (fun e => decide (e.p < p)) ∧ l.drop (posP l p) = l.filter (fun e => !decide (e.p < p))
 | [], _ => ⟨rfl, rfl⟩
 |e :: l, h => by
  have h1 := List.pairwise_cons.1 h
  have ih := rise_split (p := p) h1.2
  by_cases he : e.p < p
  ·have e1 : posP (e :: l) p = posP l p + 1 := by unfold posP; rw [List.filter_cons_of_pos (by simpa using he)]; rfl
   rw [e1, List.take_succ_cons, List.drop_succ_cons, List.filter_cons_of_pos (by simpa using he), List.filter_cons_of_neg (by simpa using he), ih.1, ih.2]
   exact ⟨rfl, rfl⟩
  ·have hn : ∀ x ∈ l, ¬ x.p < p := fun x hx => by have := h1.1 x hx; omega
   have e2 : l.filter (fun e => decide (e.p < p)) = [] := List.filter_eq_nil_iff.2 fun x hx => by simpa using hn x hx
   have e1 : posP (e :: l) p = 0 := by unfold posP; rw [List.filter_cons_of_neg (by simpa using he), e2]; rfl
   rw [e1, List.take_zero, List.drop_zero, List.filter_cons_of_neg (by simpa using he), e2, List.filter_eq_self.2 (fun x hx => by
    rcases List.mem_cons.1 hx with rfl | hx
    ·simpa using he
    ·simpa using hn x hx)]
   exact ⟨rfl, rfl⟩
def mineL (l : List El) (p : Int) : List El := l.filter fun e => decide (e.p = p)
def otherL (l : List El) (p : Int) : List El := l.filter fun e => !decide (e.p = p)
theorem posP_le (l : List El) (p : Int) : posP l p ≤ l.length := List.length_filter_le _ _
theorem posP_mono (l : List El) (p : Int) : posP l p ≤ posP l (p + 1) := by
 unfold posP
 refine List.Sublist.length_le ?_
 rw [show (l.filter fun e => decide (e.p < p)) = (l.filter fun e => decide (e.p < p + 1)).filter fun e => decide (e.p < p) from by
  rw [List.filter_filter]
  congr 1
  funext e
  by_cases h : e.p < p
  ·simp [h]; omega
  ·simp [h]]
 exact List.filter_sublist
theorem RiseP.drop {l : List El} (h : RiseP l) (n : Nat) : RiseP (l.drop n) := List.Pairwise.sublist (List.drop_sublist _ _) h
theorem posP_drop {l : List El} (h : RiseP l) (p : Int) : posP l (p + 1) = posP l p + posP (l.drop (posP l p)) (p + 1) := by
 have h1 := rise_split (p := p) h
 conv => lhs; rw [← List.take_append_drop (posP l p) l]
 unfold posP at *
 rw [List.filter_append, List.length_append]
 congr 1
 rw [h1.1, List.filter_filter]
 congr 2
 funext e
 by_cases h : e.p < p
 ·simp [h]; omega
 ·simp [h]
theorem mine_part {l : List El} (h : RiseP l) (p : Int) : (l.drop (posP l p)).take (posP l (p + 1) - posP l p) = mineL l p := by
 have h1 := rise_split (p := p) h
 have h2 := rise_split (p := p + 1) (h.drop (posP l p))
 rw [posP_drop h, Nat.add_sub_cancel_left, h2.1, h1.2, List.filter_filter]
 unfold mineL
 congr 1
 funext e
 by_cases ha : e.p < p <;> by_cases hb : e.p < p + 1 <;> by_cases hc : e.p = p <;> simp [ha, hb, hc] <;> omega
set_option maxHeartbeats 4000000 in
theorem first1_any (B1 B2 : Nat) (A : Option Addr) (c : Nat) (l : List El) (p' : Int) (i : Nat) (w : World) (hi : i < l.length) (hL : Lies w A l)
    (hx : w.heap[B1]? = some (.cells #[.slice A l.length c] 22 (0, 0))) (hy : w.heap[B2]? = some (.cells #[.int .i64 p'] 3 (0, 0))) :
    Calls Try.prog 50 #[.int .i64 i, .pointer (some ⟨B1, 0, none⟩), .pointer (some ⟨B2, 0, none⟩)] w fun e w' => e = .returned (.bool (decide (p' ≤ l[i].p))) ∧ Calm w w' := by
  obtain ⟨b, q, p, o, f, m, g, s, rfl, hb, HE, hm, c0, c1, c2, c3, c4, c5⟩ := hL.get hi
  have hK : Hid (decide (p' ≤ p) = decide (p' ≤ l[i].p)) := by
    rw [(List.getElem?_eq_some_iff.1 HE.out).2]; rfl
  generalize decide (p' ≤ l[i].p) = r at hK ⊢
  clear hL HE
  have x0 := cell_of_row _ _ 0 _ _ _ hx
  simp only [List.getElem?_toArray, List.getElem?_cons_zero] at x0
  have hxs := (Array.getElem?_eq_some_iff.1 hx).1
  have y0 := cell_of_row _ _ 0 _ _ _ hy
  simp only [List.getElem?_toArray, List.getElem?_cons_zero] at y0
  have hys := (Array.getElem?_eq_some_iff.1 hy).1
  have hiz : (i : Int) < (l.length : Int) := by omega
  generalize l.length = n at *
  clear hx hy
  go_enter Try.func50, Try.ntmps50
  go_wp2_with fail
  refine wp_region_plan [.val (.slice (some ⟨b, q, none⟩) n c), .val (.int .i64 (i)), .val (.pointer (some ⟨b, q + i * 6, none⟩)), .val (.pointer (some ⟨b, q + i * 6, none⟩)), .val (.pointer (some ⟨b, q + i * 6, none⟩)), .val (.int .i64 (p)), .val (.int .i64 (p')), .val (.bool (decide (p' ≤ p))), .val (.bool (decide (p' ≤ p)))] (by kernel_rfl) (by kernel_rfl) (by kernel_rfl) ?_
  intro X
  iterate 9
    refine plan_val (by kernel_rfl) (fun u hu => ?_) ?_
    · obtain ⟨hc, hf, hz⟩ := hu.of_drew.facts
      go_simp
      all_goals first
        | (fail)
    simp only [Act.put, List.setIfInBounds_toArray, List.set_cons_zero, List.set_cons_succ, Nat.reduceAdd]
  refine plan_end ?_
  intro w' hB
  have hk := hB.calm.of_drew
  clear hB
  go_wp2_with fail
  go_ret
  exact ⟨ret_bool hK.out, hk⟩
def BoxesP (B1 B2 : Nat) (A : Option Addr) (n c : Nat) (p' : Int) (w : World) : Prop :=
 w.heap[B1]? = some (.cells #[.slice A n c] 22 (0, 0)) ∧ w.heap[B2]? = some (.cells #[.int .i64 p'] 3 (0, 0))
theorem BoxesP.calm {B1 B2 : Nat} {A : Option Addr} {n c : Nat} {p' : Int} {w w' : World} (h : BoxesP B1 B2 A n c p' w) (hb : Calm w w') : BoxesP B1 B2 A n c p' w' :=
 ⟨(hb.block (Array.getElem?_eq_some_iff.1 h.1).1).trans h.1, (hb.block (Array.getElem?_eq_some_iff.1 h.2).1).trans h.2⟩
set_option maxHeartbeats 4000000 in
theorem searchP_any (B1 B2 : Nat) (A : Option Addr) (c : Nat) (l : List El) (p' : Int) (w : World) (hn : l.length ≤ 400) (hL : Lies w A l) (hS : RiseP l) (hB : BoxesP B1 B2 A l.length c p' w) :
    Calls Try.prog 49 #[.int .i64 l.length, .func (.func 50) #[] #[.pointer (some ⟨B1, 0, none⟩), .pointer (some ⟨B2, 0, none⟩)]] w fun e w' => e = .returned (.int .i64 (posP l p')) ∧ Calm w w' := by
  have C : ∀ (u : World) (i : Nat) (r : Bool) (h : i < l.length), Calm w u → decide (p' ≤ l[i].p) = r →
      Calls Try.prog 50 (#[.int .i64 i] ++ #[.pointer (some ⟨B1, 0, none⟩), .pointer (some ⟨B2, 0, none⟩)]) u fun e w' => e = .returned (.bool r) ∧ Calm u w' := fun u i r h hu hr => by
    rw [← hr]; exact first1_any B1 B2 A c l p' i u h (hL.calm hu) (hB.calm hu).1 (hB.calm hu).2
  have M : ∀ i j (hi : i < l.length) (hj : j < l.length), i ≤ j → p' ≤ l[i].p → p' ≤ l[j].p := fun i j hi hj hij h => by
    rcases Nat.lt_or_eq_of_le hij with h1 | h1
    · have := List.pairwise_iff_getElem.1 hS i j hi hj h1; omega
    · subst h1; exact h
  clear hL hB hS
  go_enter Try.func49, Try.ntmps49
  go_wp2_with fail
  go_loopg [5, 6] l.length (fun kx s5 s6 wr => ∃ lo hi : Nat, s5 = .int .i64 lo ∧ s6 = .int .i64 hi ∧ lo ≤ hi ∧ hi ≤ l.length ∧ hi - lo ≤ kx ∧ Calm w wr ∧
    Hid ((∀ t (h : t < l.length), t < lo → ¬ p' ≤ l[t].p) ∧ (∀ t (h : t < l.length), hi ≤ t → p' ≤ l[t].p)))
  case atStart => exact ⟨0, l.length, rfl, rfl, Nat.zero_le _, Nat.le_refl _, by omega, Calm.refl _, show _ ∧ _ from ⟨fun t h ht => absurd ht (Nat.not_lt_zero _), fun t h1 h2 => by omega⟩⟩
  case round =>
    obtain ⟨lo, hi, rfl, rfl, hlh, hin, hg, hu, I⟩ := hrel
    by_cases hlt : lo < hi
    · have hmid : (lo + hi) / 2 < l.length := by omega
      cases hp : decide (p' ≤ l[(lo + hi) / 2].p)
      · have hc := C wr ((lo + hi) / 2) false hmid hu hp
        rw [show (((lo + hi) / 2 : Nat) : Int) = ((lo : Int) + (hi : Int)) / 2 by omega] at hc
        have I2 : Hid ((∀ t (h : t < l.length), t < (lo + hi) / 2 + 1 → ¬ p' ≤ l[t].p) ∧ (∀ t (h : t < l.length), hi ≤ t → p' ≤ l[t].p)) := show _ ∧ _ from
          ⟨fun t h ht h2 => absurd (M t _ h hmid (by omega) h2) (of_decide_eq_false hp), I.out.2⟩
        clear hp C
        go_wp2_with (go_at_call 50; refine hc.mono ?_; rintro e w1 ⟨rfl, hb1⟩)
        go_roundg (hi - ((lo + hi) / 2 + 1))
        case measure => omega
        case rel => exact ⟨(lo + hi) / 2 + 1, hi, by rw [show ((lo : Int) + (hi : Int)) / 2 + 1 = (((lo + hi) / 2 + 1 : Nat) : Int) by omega], rfl, by omega, hin, Nat.le_refl _, hu.call hb1, I2⟩
      · have hc := C wr ((lo + hi) / 2) true hmid hu hp
        rw [show (((lo + hi) / 2 : Nat) : Int) = ((lo : Int) + (hi : Int)) / 2 by omega] at hc
        have I2 : Hid ((∀ t (h : t < l.length), t < lo → ¬ p' ≤ l[t].p) ∧ (∀ t (h : t < l.length), (lo + hi) / 2 ≤ t → p' ≤ l[t].p)) := show _ ∧ _ from
          ⟨I.out.1, fun t h ht => M _ t hmid h ht (of_decide_eq_true hp)⟩
        clear hp C
        go_wp2_with (go_at_call 50; refine hc.mono ?_; rintro e w1 ⟨rfl, hb1⟩)
        go_roundg ((lo + hi) / 2 - lo)
        case measure => omega
        case rel => exact ⟨lo, (lo + hi) / 2, rfl, by rw [show ((lo : Int) + (hi : Int)) / 2 = (((lo + hi) / 2 : Nat) : Int) by omega], by omega, by omega, Nat.le_refl _, hu.call hb1, I2⟩
    · obtain rfl : hi = lo := by omega
      have K : Hid (posP l p' = hi) := posP_part hin (fun i h hi' => by have := I.out.1 i h hi'; omega) (fun i h hi' => by have := I.out.2 i h hi'; omega)
      clear C
      go_wp2_with fail
      go_ret
      exact ⟨by rw [K.out]; rfl, hu⟩
set_option maxHeartbeats 4000000 in
theorem first_any (A : Option Addr) (c : Nat) (l : List El) (p' : Int) (w : World) (hn : l.length ≤ 400) (hL : Lies w A l) (hS : RiseP l) :
    Calls Try.prog 27 #[.slice A l.length c, .int .i64 p'] w fun e w' => e = .returned (.int .i64 (posP l p')) ∧ Calm w w' := by
  have hu := ((Calm.refl w).alloc (.cells #[.slice A l.length c] 22)).alloc (.cells #[.int .i64 p'] 3)
  have hb : BoxesP w.heap.size (w.heap.size + 1) A l.length c p' ((w.alloc (.cells #[.slice A l.length c] 22)).alloc (.cells #[.int .i64 p'] 3)) := ⟨heap_past _ (heap_new w _), two_new w _ _⟩
  have cS := searchP_any w.heap.size (w.heap.size + 1) A c l p' _ hn (hL.calm hu) hS hb
  clear hb
  go_enter Try.func27, Try.ntmps27
  go_wp2_with (go_at_call 49; refine cS.mono ?_; rintro e w1 ⟨rfl, hb1⟩)
  go_ret
  exact ⟨rfl, hu.call hb1⟩
open Go.ChangeShapes Go.WideShapes Go.ChangeAt Go.RowKit
theorem roleErr_zero {l : List El} {R F : List Int} {p r : Int} (h : roleErr l R F p r = 0) : bkErr l R F = 0 ∧ (0 ≤ p ∧ p ≤ 15) ∧ gI R p.toNat = r := by
 unfold roleErr at h
 by_cases h1 : bkErr l R F = 0
 ·rw [if_pos h1] at h
  by_cases h2 : 0 ≤ p ∧ p ≤ 15
  ·rw [if_pos h2] at h
   by_cases h3 : gI R p.toNat = r
   ·exact ⟨h1, h2, h3⟩
   ·rw [if_neg h3] at h; exact absurd h (by decide)
  ·rw [if_neg h2] at h; exact absurd h (by decide)
 ·rw [if_neg h1] at h; exact absurd h h1
theorem bkErr_zero {l : List El} {R F : List Int} (h : bkErr l R F = 0) : Good l ∧ bkOk l R F := by
 unfold bkErr at h
 by_cases h1 : runErr l = 0
 ·rw [if_pos h1] at h
  refine ⟨runErr_zero.1 h1, ?_⟩
  by_cases h2 : bkOk l R F
  ·exact h2
  ·rw [if_neg h2] at h; exact absurd h (by decide)
 ·rw [if_neg h1] at h; exact absurd h h1
theorem lies_sub {w : World} {b q : Nat} {l : List El} (h : Lies w (some ⟨b, q, none⟩) l) (x n : Nat) (hn : x + n ≤ l.length) : Lies w (some ⟨b, q + x * 6, none⟩) ((l.drop x).take n) := by
 have hlen : ((l.drop x).take n).length = n := by rw [List.length_take, List.length_drop]; omega
 refine ⟨fun e he => h.1 e (List.drop_subset _ _ (List.take_subset _ _ he)), fun hpos => ?_⟩
 rw [hlen] at hpos
 obtain ⟨b', q', hA, hlt, hk⟩ := h.2 (by omega)
 injection hA with hA
 injection hA with h1 h2
 subst h1; subst h2
 refine ⟨b, q + x * 6, rfl, hlt, fun k e he => ?_⟩
 have hkn : k < n := by have := (List.getElem?_eq_some_iff.1 he).1; omega
 rw [List.getElem?_take_of_lt hkn, List.getElem?_drop] at he
 have := hk _ _ he
 rw [show q + (x + k) * 6 = q + x * 6 + k * 6 by omega] at this
 exact this
set_option maxHeartbeats 4000000 in
theorem realmDown_any (A : Option Addr) (c : Nat) (l : List El) (R F : List Int) (p : Int) (w : World) (hn : l.length ≤ 9223372036854775807) (hlc : l.length ≤ c) (hL : Lies w A l) (hR : R.length = 16) (hF : F.length = 16) :
    Calls Try.prog 9 #[.agg (bkC A l.length c R F).toArray, .int .i64 p] w (BkEnd (roleErr l R F p 1) (if roleErr l R F p 1 = 0 then l else []) (if roleErr l R F p 1 = 0 then R.set p.toNat 2 else z16) (if roleErr l R F p 1 = 0 then F.set p.toNat (latest (mineL l p)) else z16) w) := by
  have cC := fun u (hu : Calm w u) => checkRole_any A c l R F p 1 u hn (hL.calm hu) hR hF
  have hx := heap_past (.cells #[.slice none 0 0, .int .i64 0, .int .i64 0, .int .i64 0, .int .i64 0, .int .i64 0, .int .i64 0, .int .i64 0, .int .i64 0, .int .i64 0, .int .i64 0, .int .i64 0, .int .i64 0, .int .i64 0, .int .i64 0, .int .i64 0, .int .i64 0, .int .i64 0, .int .i64 0, .int .i64 0, .int .i64 0, .int .i64 0, .int .i64 0, .int .i64 0, .int .i64 0, .int .i64 0, .int .i64 0, .int .i64 0, .int .i64 0, .int .i64 0, .int .i64 0, .int .i64 0, .int .i64 0] 25) (heap_new w (.cells (bkC A l.length c R F).toArray 25))
  have hz : ((w.alloc (.cells (bkC A l.length c R F).toArray 25)).alloc (.cells #[.slice none 0 0, .int .i64 0, .int .i64 0, .int .i64 0, .int .i64 0, .int .i64 0, .int .i64 0, .int .i64 0, .int .i64 0, .int .i64 0, .int .i64 0, .int .i64 0, .int .i64 0, .int .i64 0, .int .i64 0, .int .i64 0, .int .i64 0, .int .i64 0, .int .i64 0, .int .i64 0, .int .i64 0, .int .i64 0, .int .i64 0, .int .i64 0, .int .i64 0, .int .i64 0, .int .i64 0, .int .i64 0, .int .i64 0, .int .i64 0, .int .i64 0, .int .i64 0, .int .i64 0] 25)).heap[w.heap.size + 1]? = some (.cells #[.slice none 0 0, .int .i64 0, .int .i64 0, .int .i64 0, .int .i64 0, .int .i64 0, .int .i64 0, .int .i64 0, .int .i64 0, .int .i64 0, .int .i64 0, .int .i64 0, .int .i64 0, .int .i64 0, .int .i64 0, .int .i64 0, .int .i64 0, .int .i64 0, .int .i64 0, .int .i64 0, .int .i64 0, .int .i64 0, .int .i64 0, .int .i64 0, .int .i64 0, .int .i64 0, .int .i64 0, .int .i64 0, .int .i64 0, .int .i64 0, .int .i64 0, .int .i64 0, .int .i64 0] 25 (0, 0)) := two_new w _ _
  have hu := ((Calm.refl w).alloc (.cells (bkC A l.length c R F).toArray 25)).alloc (.cells #[.slice none 0 0, .int .i64 0, .int .i64 0, .int .i64 0, .int .i64 0, .int .i64 0, .int .i64 0, .int .i64 0, .int .i64 0, .int .i64 0, .int .i64 0, .int .i64 0, .int .i64 0, .int .i64 0, .int .i64 0, .int .i64 0, .int .i64 0, .int .i64 0, .int .i64 0, .int .i64 0, .int .i64 0, .int .i64 0, .int .i64 0, .int .i64 0, .int .i64 0, .int .i64 0, .int .i64 0, .int .i64 0, .int .i64 0, .int .i64 0, .int .i64 0, .int .i64 0, .int .i64 0] 25)
  have hsz : ((w.alloc (.cells (bkC A l.length c R F).toArray 25)).alloc (.cells #[.slice none 0 0, .int .i64 0, .int .i64 0, .int .i64 0, .int .i64 0, .int .i64 0, .int .i64 0, .int .i64 0, .int .i64 0, .int .i64 0, .int .i64 0, .int .i64 0, .int .i64 0, .int .i64 0, .int .i64 0, .int .i64 0, .int .i64 0, .int .i64 0, .int .i64 0, .int .i64 0, .int .i64 0, .int .i64 0, .int .i64 0, .int .i64 0, .int .i64 0, .int .i64 0, .int .i64 0, .int .i64 0, .int .i64 0, .int .i64 0, .int .i64 0, .int .i64 0, .int .i64 0] 25)).heap.size = w.heap.size + 2 := by simp
  have hJ : Hid ((Try.prog.info? 25).map (·.size) = some (bkC A l.length c R F).length) := show _ = _ by rw [bkC_len hR hF]; exact infoBook
  have hJ3 : Hid ((Try.prog.info? 25).map (·.size) = some 33) := show _ = _ from infoBook
  by_cases hE : roleErr l R F p 1 = 0
  rotate_left
  · rw [if_neg hE, if_neg hE, if_neg hE]
    have b1 := ne_rl hE
    generalize roleErr l R F p 1 = E at cC b1 hE ⊢
    generalize (bkC A l.length c R F) = CL at *
    go_enter Try.func9, Try.ntmps9
    go_upto_region 1 with fail
    generalize ((w.alloc (.cells CL.toArray 25)).alloc (.cells #[.slice none 0 0, .int .i64 0, .int .i64 0, .int .i64 0, .int .i64 0, .int .i64 0, .int .i64 0, .int .i64 0, .int .i64 0, .int .i64 0, .int .i64 0, .int .i64 0, .int .i64 0, .int .i64 0, .int .i64 0, .int .i64 0, .int .i64 0, .int .i64 0, .int .i64 0, .int .i64 0, .int .i64 0, .int .i64 0, .int .i64 0, .int .i64 0, .int .i64 0, .int .i64 0, .int .i64 0, .int .i64 0, .int .i64 0, .int .i64 0, .int .i64 0, .int .i64 0, .int .i64 0] 25)) = w2 at hx hz hu hsz ⊢
    obtain ⟨ZC, hZC⟩ : ∃ z : Array Value, z = #[.slice none 0 0, .int .i64 0, .int .i64 0, .int .i64 0, .int .i64 0, .int .i64 0, .int .i64 0, .int .i64 0, .int .i64 0, .int .i64 0, .int .i64 0, .int .i64 0, .int .i64 0, .int .i64 0, .int .i64 0, .int .i64 0, .int .i64 0, .int .i64 0, .int .i64 0, .int .i64 0, .int .i64 0, .int .i64 0, .int .i64 0, .int .i64 0, .int .i64 0, .int .i64 0, .int .i64 0, .int .i64 0, .int .i64 0, .int .i64 0, .int .i64 0, .int .i64 0, .int .i64 0] := ⟨_, rfl⟩
    rw [← hZC] at hz
    have hIZ : IsZk ZC := hZC
    clear hZC
    have HX := Lib.hid hx
    have HZ := Lib.hid hz
    have hxl : w.heap.size < w2.heap.size := by omega
    have hzl : w.heap.size + 1 < w2.heap.size := by omega
    clear hx hz
    go_upto_region 3 with (first
      | (refine wpList_load_mid rfl 25 (.tmp 2) rfl w.heap.size 0 rfl CL _ (range_all HX.out) Try.underlying25 rfl hJ.out ?_)
      | (go_at_call 25; refine (cC _ hu).mono ?_; rintro e w3 ⟨rfl, hb1⟩; replace HX := Lib.hid ((hb1.block hxl).trans HX.out); replace HZ := Lib.hid ((hb1.block hzl).trans HZ.out); replace hxl := Nat.lt_of_lt_of_le hxl hb1.size; replace hzl := Nat.lt_of_lt_of_le hzl hb1.size; replace hu := hu.call hb1; clear hb1))
    go_wp2_with (refine wpList_store_rowB rfl 25 (.tmp 4) (.tmp 14) rfl (w.heap.size + 1) _ ZC ZC rfl (by rw [show ZC = _ from hIZ]; rfl) HZ.out (by rw [hIZ.size]; exact hJ3.out) rfl hIZ.one ?_)
    (try simp only [Exit.inBlock, Exit.then])
    refine end_bkE (p := 4) (q := 5) rfl rfl _ _ (w.heap.size + 1) _ ZC _ _ rfl rfl rfl (setRow_heap _ _ _ _ _ _ HZ.out) hIZ.size ?_
    exact BkEnd.none (by rw [show ZC = _ from hIZ]; rfl) (hu.setRow (by omega) _)
  rw [if_pos hE, if_pos hE, if_pos hE]
  obtain ⟨hB, hp, hr⟩ := roleErr_zero hE
  obtain ⟨hG, hOk⟩ := bkErr_zero hB
  have hl4 : l.length ≤ 400 := hG.1
  rw [hE] at cC ⊢
  obtain ⟨k, rfl⟩ : ∃ k : Nat, p = k := ⟨p.toNat, by omega⟩
  rw [Int.toNat_natCast]
  have hS := riseP hG.2.2
  have hmono := posP_mono l k
  have hle := posP_le l ((k : Int) + 1)
  have hmine := mine_part hS k
  obtain ⟨a, ha⟩ : ∃ a, posP l k = a := ⟨_, rfl⟩
  obtain ⟨b, hb⟩ : ∃ b, posP l ((k : Int) + 1) = b := ⟨_, rfl⟩
  have cF1 := fun u (hu : Calm w u) => first_any A c l k u hl4 (hL.calm hu) hS
  have cF2 := fun u (hu : Calm w u) => first_any A c l ((k : Int) + 1) u hl4 (hL.calm hu) hS
  rw [ha] at cF1 hmono hmine
  rw [hb] at cF2 hmono hmine hle
  obtain ⟨T, hT⟩ : ∃ T, latest (mineL l k) = T := ⟨_, rfl⟩
  have hMg : Good (mineL l k) := goodSub hG List.filter_sublist
  have hML : (mineL l k).length = b - a := by rw [← hmine, List.length_take, List.length_drop]; omega
  have hw1 : IntKind.i64.wrap ((k : Int) + 1) = (k : Int) + 1 := IntWalk.i64_in _ (by omega)
  have z0 : (0 : Int) ≤ (a : Int) := by omega
  have z1 : (a : Int) ≤ (b : Int) := by omega
  have z2 : (b : Int) ≤ (l.length : Int) := by omega
  have z3 : (b : Int) ≤ (c : Int) := by omega
  have z4 : (l.length : Int) ≤ (c : Int) := by omega
  rw [hT]
  obtain ⟨A9, hA9⟩ : ∃ A9, (if c = a then A else Option.map (fun x => x.add (a * 6)) A) = A9 := ⟨_, rfl⟩
  have hL9 : ∀ u, Lies u A l → Lies u A9 (mineL l k) := fun u hl => by
    rcases Nat.eq_zero_or_pos (b - a) with h0 | h0
    · have : mineL l k = [] := List.eq_nil_of_length_eq_zero (by omega)
      rw [this]; exact ⟨by simp, fun h => absurd h (by simp)⟩
    · obtain ⟨g, q, rfl, _⟩ := hl.2 (by omega)
      rw [if_neg (by omega)] at hA9
      have : (⟨g, q, none⟩ : Addr).add (a * 6) = ⟨g, q + a * 6, none⟩ := by unfold Addr.add; split <;> simp_all
      rw [← hA9, Option.map_some, this, ← hmine]
      exact lies_sub hl a (b - a) (by omega)
  have cT := fun u (hu : Calm w u) => runLast_any A9 (c - a) (mineL l k) u (by omega) (hL9 u (hL.calm hu))
  rw [runErr_zero.2 hMg, if_pos rfl, hML, hT] at cT
  have cA := fun u (hu : Calm w u) => assign_any A c l R F k 2 T u hl4 (hL.calm hu) hR hF (by omega)
  have h2 : ∀ A' c', (bkC A' l.length c' (R.set k 2) (F.set k T)).toArray.size = 33 := fun A' c' => by
    have := bkC_len (A := A') (n := l.length) (c := c') (R := R.set k 2) (F := F.set k T) (by rw [List.length_set, hR]) (by rw [List.length_set, hF])
    rw [← this]; simp
  have h3 : ∀ A' c', (bkC A' l.length c' (R.set k 2) (F.set k T)).toArray.all (·.oneCell') = true := fun A' c' => bk_one
  have H2 := Lib.hid h2
  have H3 := Lib.hid h3
  have RA : ∀ u : World, u.heap[w.heap.size]? = some (.cells (bkC A l.length c R F).toArray 25 (0, 0)) → u.cell? ⟨w.heap.size, 0, none⟩ = some (.slice A l.length c) := fun u h => (cell_of_row _ _ 0 _ _ _ h).trans rfl
  have RAH := Lib.hid RA
  clear h2 h3 RA hE hp hr hB hOk hG ha hb hS hmono hle hmine hL9 hMg hML hT
  generalize (bkC A l.length c R F) = CL at *
  go_enter Try.func9, Try.ntmps9
  go_upto_region 1 with fail
  generalize ((w.alloc (.cells CL.toArray 25)).alloc (.cells #[.slice none 0 0, .int .i64 0, .int .i64 0, .int .i64 0, .int .i64 0, .int .i64 0, .int .i64 0, .int .i64 0, .int .i64 0, .int .i64 0, .int .i64 0, .int .i64 0, .int .i64 0, .int .i64 0, .int .i64 0, .int .i64 0, .int .i64 0, .int .i64 0, .int .i64 0, .int .i64 0, .int .i64 0, .int .i64 0, .int .i64 0, .int .i64 0, .int .i64 0, .int .i64 0, .int .i64 0, .int .i64 0, .int .i64 0, .int .i64 0, .int .i64 0, .int .i64 0, .int .i64 0] 25)) = w2 at hx hz hu hsz ⊢
  obtain ⟨ZC, hZC⟩ : ∃ z : Array Value, z = #[.slice none 0 0, .int .i64 0, .int .i64 0, .int .i64 0, .int .i64 0, .int .i64 0, .int .i64 0, .int .i64 0, .int .i64 0, .int .i64 0, .int .i64 0, .int .i64 0, .int .i64 0, .int .i64 0, .int .i64 0, .int .i64 0, .int .i64 0, .int .i64 0, .int .i64 0, .int .i64 0, .int .i64 0, .int .i64 0, .int .i64 0, .int .i64 0, .int .i64 0, .int .i64 0, .int .i64 0, .int .i64 0, .int .i64 0, .int .i64 0, .int .i64 0, .int .i64 0, .int .i64 0] := ⟨_, rfl⟩
  rw [← hZC] at hz
  have hIZ : IsZk ZC := hZC
  clear hZC
  have HX := Lib.hid hx
  have HZ := Lib.hid hz
  have hxl : w.heap.size < w2.heap.size := by omega
  have hzl : w.heap.size + 1 < w2.heap.size := by omega
  clear hx hz
  go_upto_region 4 with (first
    | (refine wpList_load_mid rfl 25 (.tmp 2) rfl w.heap.size 0 rfl CL _ (range_all HX.out) Try.underlying25 rfl hJ.out ?_)
    | (go_at_call 25; refine (cC _ hu).mono ?_; rintro e w3 ⟨rfl, hb1⟩; replace HX := Lib.hid ((hb1.block hxl).trans HX.out); replace HZ := Lib.hid ((hb1.block hzl).trans HZ.out); replace hxl := Nat.lt_of_lt_of_le hxl hb1.size; replace hzl := Nat.lt_of_lt_of_le hzl hb1.size; replace hu := hu.call hb1; clear hb1))
  have c0 := RAH.out _ HX.out
  have HW := Lib.hid hu
  clear hu
  refine wp_region_plan [.val (.pointer (some ⟨w.heap.size, 0, none⟩)), .val (.slice A l.length c), .val (.pointer (some ⟨w.heap.size, 0, none⟩)), .val (.slice A l.length c), .val (.int .i64 (k)), .val (.int .i64 ((a : Int))), .val (.pointer (some ⟨w.heap.size, 0, none⟩)), .val (.slice A l.length c), .val (.int .i64 (k)), .val (.int .i64 (((k : Int) + 1))), .val (.int .i64 ((b : Int))), .val (.slice A9 (b - a) (c - a)), .val (.tuple #[.int .i64 T, .int .i64 0]), .val (.tuple #[.int .i64 T, .int .i64 0]), .val (.int .i64 (T)), .val (.int .i64 (0)), .val (.int .i64 (T)), .val (.int .i64 (0))] (by kernel_rfl) (by kernel_rfl) (by kernel_rfl) ?_
  intro X
  iterate 18
    refine plan_val (by kernel_rfl) (fun u hu => ?_) ?_
    · obtain ⟨hc, hf, hz⟩ := hu.of_drew.facts
      go_simp
      all_goals first
        | ((go_at_call 27; (with_reducible exact cF1 _ (HW.out.call hu.of_drew))))
        | ((go_at_call 27; (with_reducible exact cF2 _ (HW.out.call hu.of_drew))))
        | ((go_at_call 26; (with_reducible exact cT _ (HW.out.call hu.of_drew))))
        | ((simp only [hA9]; done))
        | ((exact ⟨hA9, rfl, rfl⟩))
    simp only [Act.put, List.setIfInBounds_toArray, List.set_cons_zero, List.set_cons_succ, Nat.reduceAdd]
  refine plan_end ?_
  intro w' hB
  have hk := hB.calm.of_drew
  clear hB
  have hu := HW.out.call hk
  replace HX := Lib.hid ((hk.block hxl).trans HX.out)
  replace HZ := Lib.hid ((hk.block hzl).trans HZ.out)
  replace hxl := Nat.lt_of_lt_of_le hxl hk.size
  replace hzl := Nat.lt_of_lt_of_le hzl hk.size
  clear HW c0 cF1 cF2 cT cC hA9 hk
  have hsw : w.heap.size + 2 ≤ w'.heap.size := by omega
  go_wp2_with (first
    | (refine wpList_load_mid rfl 25 (.tmp 2) rfl w.heap.size 0 rfl CL _ (range_all HX.out) Try.underlying25 rfl hJ.out ?_)
    | (go_at_call 24; refine (cA _ hu).mono ?_; rintro e w5 ⟨A', c', rfl, ho5, hb3⟩; replace HZ := Lib.hid ((hb3.block hzl).trans HZ.out); have HO5 := Lib.hid (ho5.down hsw); replace hzl := Nat.lt_of_lt_of_le hzl hb3.size; replace hu := hu.call hb3; clear hb3 ho5)
    | (refine wpList_store_rowB rfl 25 (.tmp 4) (.tmp 35) rfl (w.heap.size + 1) _ ZC _ rfl rfl HZ.out (by rw [H2.out]; exact hJ3.out) (hIZ.size.trans (H2.out _ _).symm) (H3.out _ _) ?_))
  refine end_bkE (p := 4) (q := 5) rfl rfl _ _ (w.heap.size + 1) _ _ _ _ rfl rfl rfl (setRow_heap _ _ _ _ _ _ HZ.out) (H2.out _ _) ?_
  exact ⟨A', c', rfl, (OwnR.keep HO5.out fun j hj => setRow_other _ _ j _ (by omega)).down (by omega), hu.setRow (by omega) _⟩
open Go.ChangeShapes Go.WideShapes Go.ChangeAt Go.RowKit
theorem int_at (R : List Int) {i : Nat} (h : i < R.length) : (R.map (Value.int .i64)).toArray[i]? = some (.int .i64 (gI R i)) := by
 unfold gI
 rw [List.getElem?_toArray, List.getElem?_map, List.getD_eq_getElem?_getD, List.getElem?_eq_getElem h]
 rfl
theorem items16 (R S : List Int) (hR : R.length = 16) (hS : S.length = 16) (w : World) : ∀ is : List Nat, (∀ i ∈ is, i < 16) →
    (Op.eqItems 9999 3 1 (R.map (Value.int .i64)).toArray (S.map (Value.int .i64)).toArray is).run Try.prog w = .ok (is.all fun i => gI R i == gI S i) w
  | [], _ => by simp [Op.eqItems]
  | i :: is, h => by
    have hi := h i (List.mem_cons_self ..)
    have p1 := run_part_plain (P := Try.prog) (e := 3) w (by kernel_rfl) (off := i * 1) (by rw [Nat.mul_one]; exact int_at R (by omega))
    have p2 := run_part_plain (P := Try.prog) (e := 3) w (by kernel_rfl) (off := i * 1) (by rw [Nat.mul_one]; exact int_at S (by omega))
    have p3 := run_equalIn_int (P := Try.prog) w 9998 3 .i64 .i64 (gI R i) (gI S i) Try.underlying3
    have ih := items16 R S hR hS w is fun j hj => h j (List.mem_cons_of_mem _ hj)
    unfold Op.eqItems
    simp only [Sem.run_bind, p1, p2, p3, Result.andThen_ok, List.all_cons]
    cases gI R i == gI S i
    · simp
    · simpa using ih
theorem eq16 (R S : List Int) (hR : R.length = 16) (hS : S.length = 16) (w : World) : (Op.equalIn 10000 23 (.agg (R.map (Value.int .i64)).toArray) (.agg (S.map (Value.int .i64)).toArray)).run Try.prog w = .ok (decide (R = S)) w := by
 obtain ⟨i, hi⟩ : ∃ i, Try.prog.info? 3 = some i := Option.isSome_iff_exists.1 (by kernel_rfl)
 have h := run_equalIn_array (P := Try.prog) w 9999 (t := 23) (n := 16) (e := 3) (R.map (Value.int .i64)).toArray (S.map (Value.int .i64)).toArray Try.underlying23 hi
 rw [cellsI, items16 R S hR hS w _ fun i hi => List.mem_range.1 hi] at h
 refine h.trans ?_
 congr 1
 rw [Bool.eq_iff_iff, List.all_eq_true, decide_eq_true_eq]
 constructor
 ·intro h1
  apply List.ext_getElem (by omega)
  intro i h2 h3
  have := h1 i (List.mem_range.2 (by omega))
  rw [beq_iff_eq] at this
  unfold gI at this
  rwa [List.getD_eq_getElem?_getD, List.getD_eq_getElem?_getD, List.getElem?_eq_getElem h2, List.getElem?_eq_getElem h3] at this
 ·rintro rfl i _; simp
open Go.ChangeShapes Go.WideShapes Go.ChangeAt Go.RowKit
theorem wpList_bareB {P : Program} {ops : Array Oper} {Q : Exit → Act → World → Prop} {rest : List Oper} {o : Oper} {a : Act} {w : World} (hw : Region.wanted o (yielded ops a.tmps) = true) (h : wpList P ops Q ({ o with guard := none } :: rest) a w) : wpList P ops Q (o :: rest) a w := by
 unfold wpList at h ⊢
 rw [if_pos hw]
 rw [if_pos (show Region.wanted { o with guard := none } (yielded ops a.tmps) = true from rfl)] at h
 exact h
theorem range_fed {w : World} {g : Nat} {A : Option Addr} {n c : Nat} {R F : List Int} {t : TypeId} {fr : Nat × Nat} (hR : R.length = 16) (hF : F.length = 16) (h : w.heap[g]? = some (.cells (bkC A n c R F).toArray t fr)) : w.rangeAt g 17 (F.map (Value.int .i64)) := fun j v hj => by
 have hj2 : j < 16 := by
  have := (List.getElem?_eq_some_iff.1 hj).1
  rw [List.length_map] at this; omega
 refine (cell_of_row _ _ (17 + j) _ _ _ h).trans ?_
 rw [bk_fed hR hF hj2, ← hj, List.getElem?_map]
 unfold gI
 rw [List.getD_eq_getElem?_getD, List.getElem?_eq_getElem (by omega)]
 rfl
set_option maxHeartbeats 4000000 in
theorem sameBook_any (A A' : Option Addr) (c c' : Nat) (l l' : List El) (R F R' F' : List Int) (w : World) (hn : l.length ≤ 9223372036854775807) (hn' : l'.length ≤ 9223372036854775807) (hL : Lies w A l) (hL' : Lies w A' l') (hR : R.length = 16) (hF : F.length = 16) (hR' : R'.length = 16) (hF' : F'.length = 16) :
    Calls Try.prog 22 #[.agg (bkC A l.length c R F).toArray, .agg (bkC A' l'.length c' R' F').toArray] w fun e w' => e = .returned (.bool (decide (l = l' ∧ R = R' ∧ F = F'))) ∧ Calm w w' := by
  have cE := fun u (hu : Calm w u) => equal_any A A' c c' l l' u hn hn' (hL.calm hu) (hL'.calm hu)
  have hx := heap_past (.cells (bkC A' l'.length c' R' F').toArray 25) (heap_new w (.cells (bkC A l.length c R F).toArray 25))
  have hy : ((w.alloc (.cells (bkC A l.length c R F).toArray 25)).alloc (.cells (bkC A' l'.length c' R' F').toArray 25)).heap[w.heap.size + 1]? = some (.cells (bkC A' l'.length c' R' F').toArray 25 (0, 0)) := two_new w _ _
  have hu := ((Calm.refl w).alloc (.cells (bkC A l.length c R F).toArray 25)).alloc (.cells (bkC A' l'.length c' R' F').toArray 25)
  have hsz : ((w.alloc (.cells (bkC A l.length c R F).toArray 25)).alloc (.cells (bkC A' l'.length c' R' F').toArray 25)).heap.size = w.heap.size + 2 := by simp
  have A1 := Lib.hid (fun (u : World) (h : u.heap[w.heap.size]? = some (.cells (bkC A l.length c R F).toArray 25 (0, 0))) => (show u.cell? ⟨w.heap.size, 0, none⟩ = some (.slice A l.length c) from (cell_of_row _ _ 0 _ _ _ h).trans rfl))
  have A2 := Lib.hid (fun (u : World) (h : u.heap[w.heap.size + 1]? = some (.cells (bkC A' l'.length c' R' F').toArray 25 (0, 0))) => (show u.cell? ⟨w.heap.size + 1, 0, none⟩ = some (.slice A' l'.length c') from (cell_of_row _ _ 0 _ _ _ h).trans rfl))
  have R1 := Lib.hid (fun (u : World) (h : u.heap[w.heap.size]? = some (.cells (bkC A l.length c R F).toArray 25 (0, 0))) => range_role hR h)
  have R2 := Lib.hid (fun (u : World) (h : u.heap[w.heap.size + 1]? = some (.cells (bkC A' l'.length c' R' F').toArray 25 (0, 0))) => range_role hR' h)
  have R3 := Lib.hid (fun (u : World) (h : u.heap[w.heap.size]? = some (.cells (bkC A l.length c R F).toArray 25 (0, 0))) => range_fed hR hF h)
  have R4 := Lib.hid (fun (u : World) (h : u.heap[w.heap.size + 1]? = some (.cells (bkC A' l'.length c' R' F').toArray 25 (0, 0))) => range_fed hR' hF' h)
  have HIRX : Hid ((Try.prog.info? 23).map (·.size) = some (R.map (Value.int .i64)).length) := show _ = _ by rw [List.length_map, hR]; exact info16
  have HIRY : Hid ((Try.prog.info? 23).map (·.size) = some (R'.map (Value.int .i64)).length) := show _ = _ by rw [List.length_map, hR']; exact info16
  have HIFX : Hid ((Try.prog.info? 23).map (·.size) = some (F.map (Value.int .i64)).length) := show _ = _ by rw [List.length_map, hF]; exact info16
  have HIFY : Hid ((Try.prog.info? 23).map (·.size) = some (F'.map (Value.int .i64)).length) := show _ = _ by rw [List.length_map, hF']; exact info16
  have e1 := fun w => eq16 R R' hR hR' w
  have e2 := fun w => eq16 F F' hF hF' w
  generalize (bkC A l.length c R F) = CL at *
  generalize (bkC A' l'.length c' R' F') = CM at *
  generalize R.map (Value.int .i64) = RX at *
  generalize R'.map (Value.int .i64) = RY at *
  generalize F.map (Value.int .i64) = FX at *
  generalize F'.map (Value.int .i64) = FY at *
  by_cases h1 : l = l'
  rotate_left
  · rw [decide_eq_false h1] at cE
    have hz : decide (l = l' ∧ R = R' ∧ F = F') = false := decide_eq_false fun h => h1 h.1
    rw [hz]
    clear hz h1 e1 e2
    go_enter Try.func22, Try.ntmps22
    go_upto_region 1 with fail
    generalize ((w.alloc (.cells CL.toArray 25)).alloc (.cells CM.toArray 25)) = w2 at hx hy hu hsz ⊢
    have c0 := A1.out _ hx
    have d0 := A2.out _ hy
    have HX := Lib.hid hx
    have HY := Lib.hid hy
    have hxl : w.heap.size < w2.heap.size := by omega
    have hyl : w.heap.size + 1 < w2.heap.size := by omega
    clear hx hy
    go_wp2_with (first
      | (go_at_call 47; (with_reducible refine (cE _ hu).mono ?_); rintro e w3 ⟨rfl, hb3⟩; replace HX := Lib.hid ((hb3.block hxl).trans HX.out); replace HY := Lib.hid ((hb3.block hyl).trans HY.out); replace hu := hu.call hb3; clear hb3 cE))
    go_ret
    exact ⟨rfl, hu⟩
  rw [decide_eq_true h1] at cE
  by_cases h2 : R = R'
  rotate_left
  · have hz : decide (l = l' ∧ R = R' ∧ F = F') = false := decide_eq_false fun h => h2 h.2.1
    rw [hz]
    simp only [decide_eq_false h2] at e1
    clear hz h1 h2 e2
    go_enter Try.func22, Try.ntmps22
    go_upto_region 1 with fail
    generalize ((w.alloc (.cells CL.toArray 25)).alloc (.cells CM.toArray 25)) = w2 at hx hy hu hsz ⊢
    have c0 := A1.out _ hx
    have d0 := A2.out _ hy
    have HX := Lib.hid hx
    have HY := Lib.hid hy
    have hxl : w.heap.size < w2.heap.size := by omega
    have hyl : w.heap.size + 1 < w2.heap.size := by omega
    clear hx hy
    go_wp2_with (first
      | (go_at_call 47; (with_reducible refine (cE _ hu).mono ?_); rintro e w3 ⟨rfl, hb3⟩; replace HX := Lib.hid ((hb3.block hxl).trans HX.out); replace HY := Lib.hid ((hb3.block hyl).trans HY.out); replace hu := hu.call hb3; clear hb3 cE)
      | (refine wpList_bareB (by kernel_rfl) ?_; refine wpList_load_mid rfl 23 (.tmp 11) rfl w.heap.size 1 rfl RX _ (R1.out _ HX.out) Try.underlying23 rfl HIRX.out ?_)
      | (refine wpList_bareB (by kernel_rfl) ?_; refine wpList_load_mid rfl 23 (.tmp 13) rfl (w.heap.size + 1) 1 rfl RY _ (R2.out _ HY.out) Try.underlying23 rfl HIRY.out ?_))
    go_ret
    exact ⟨rfl, hu⟩
  simp only [decide_eq_true h2] at e1
  have hz : decide (l = l' ∧ R = R' ∧ F = F') = decide (F = F') := by rw [Bool.eq_iff_iff]; simp [h1, h2]
  rw [hz]
  generalize decide (F = F') = r at *
  clear hz h1 h2
  have hone : True := trivial
  · skip
    go_enter Try.func22, Try.ntmps22
    go_upto_region 1 with fail
    generalize ((w.alloc (.cells CL.toArray 25)).alloc (.cells CM.toArray 25)) = w2 at hx hy hu hsz ⊢
    have c0 := A1.out _ hx
    have d0 := A2.out _ hy
    have HX := Lib.hid hx
    have HY := Lib.hid hy
    have hxl : w.heap.size < w2.heap.size := by omega
    have hyl : w.heap.size + 1 < w2.heap.size := by omega
    clear hx hy
    go_wp2_with (first
      | (go_at_call 47; (with_reducible refine (cE _ hu).mono ?_); rintro e w3 ⟨rfl, hb3⟩; replace HX := Lib.hid ((hb3.block hxl).trans HX.out); replace HY := Lib.hid ((hb3.block hyl).trans HY.out); replace hu := hu.call hb3; clear hb3 cE)
      | (refine wpList_bareB (by kernel_rfl) ?_; refine wpList_load_mid rfl 23 (.tmp 11) rfl w.heap.size 1 rfl RX _ (R1.out _ HX.out) Try.underlying23 rfl HIRX.out ?_)
      | (refine wpList_bareB (by kernel_rfl) ?_; refine wpList_load_mid rfl 23 (.tmp 13) rfl (w.heap.size + 1) 1 rfl RY _ (R2.out _ HY.out) Try.underlying23 rfl HIRY.out ?_)
      | (refine wpList_bareB (by kernel_rfl) ?_; refine wpList_load_mid rfl 23 (.tmp 18) rfl w.heap.size 17 rfl FX _ (R3.out _ HX.out) Try.underlying23 rfl HIFX.out ?_)
      | (refine wpList_bareB (by kernel_rfl) ?_; refine wpList_load_mid rfl 23 (.tmp 20) rfl (w.heap.size + 1) 17 rfl FY _ (R4.out _ HY.out) Try.underlying23 rfl HIFY.out ?_))
    go_ret
    exact ⟨rfl, hu⟩
open Go.ChangeShapes Go.WideShapes Go.ChangeAt Go.RowKit
theorem alloc_setRow (w : World) (t : TypeId) (old cells : Array Value) : (w.alloc (.cells old t)).setRow w.heap.size cells = w.alloc (.cells cells t) := by
 unfold World.setRow World.alloc
 congr 1
 apply Array.ext_getElem?
 intro i
 rw [Array.getElem?_modify]
 by_cases h : w.heap.size = i
 ·subst h; simp
 ·rw [if_neg h]
  by_cases h2 : i < w.heap.size
  ·rw [Array.getElem?_push_lt h2, Array.getElem?_push_lt h2]
  ·rw [Array.getElem?_eq_none (by simp; omega), Array.getElem?_eq_none (by simp; omega)]
theorem wpList_store_fresh {P : Program} {ops : Array Oper} {rest : List Oper} {op : Oper} {a : Act} {w : World} {Q : Exit → Act → World → Prop} (hgd : op.guard = none) (ty : TypeId) (x y : Operand) (ho : op.op = .store ty x y)
    (t : TypeId) (old cells : Array Value) (hx : a.eval x = .pointer (some ⟨w.heap.size, 0, none⟩)) (hy : a.eval y = .agg cells) (hi : (P.info? ty).map (·.size) = some cells.size)
    (hs : old.size = cells.size) (h1 : cells.all (·.oneCell') = true)
    (h : wpList P ops Q rest (a.put op.dst undef) (w.alloc (.cells cells t))) : wpList P ops Q (op :: rest) a (w.alloc (.cells old t)) :=
  wpList_store_rowB hgd ty x y ho w.heap.size t old cells hx hy (heap_new w _) hi hs h1 (by rw [alloc_setRow]; exact h)
theorem set_gI {R : List Int} {k : Nat} {r : Int} (hk : k < R.length) (h : gI R k = r) : R.set k r = R := by
 unfold gI at h
 rw [List.getD_eq_getElem?_getD, List.getElem?_eq_getElem hk] at h
 have h' : R[k] = r := h
 apply List.ext_getElem (by simp)
 intro i h1 h2
 rw [List.getElem_set]
 split
 ·rename_i e; subst e; exact h'.symm
 ·rfl
theorem roleErr_of {l : List El} {R F : List Int} {k : Nat} {r : Int} (h : bkErr l R F = 0) (hk : k < 16) : roleErr l R F k r = if gI R k = r then 0 else 10 := by
 unfold roleErr
 rw [if_pos h, if_pos (by omega), Int.toNat_natCast]
open Go.ChangeShapes Go.WideShapes Go.ChangeAt Go.RowKit
theorem z16_len : z16.length = 16 := rfl
theorem bkJ {A : Option Addr} {n c : Nat} {R F : List Int} (hR : R.length = 16) (hF : F.length = 16) : (Try.prog.info? 25).map (·.size) = some (bkC A n c R F).length := by rw [bkC_len hR hF]; exact infoBook
theorem bkS {A : Option Addr} {n c : Nat} {R F : List Int} (hR : R.length = 16) (hF : F.length = 16) : (Try.prog.info? 25).map (·.size) = some (bkC A n c R F).toArray.size := by rw [List.size_toArray]; exact bkJ hR hF
theorem bkZ {A : Option Addr} {n c : Nat} {R F : List Int} (hR : R.length = 16) (hF : F.length = 16) : (#[.slice none 0 0, .int .i64 0, .int .i64 0, .int .i64 0, .int .i64 0, .int .i64 0, .int .i64 0, .int .i64 0, .int .i64 0, .int .i64 0, .int .i64 0, .int .i64 0, .int .i64 0, .int .i64 0, .int .i64 0, .int .i64 0, .int .i64 0, .int .i64 0, .int .i64 0, .int .i64 0, .int .i64 0, .int .i64 0, .int .i64 0, .int .i64 0, .int .i64 0, .int .i64 0, .int .i64 0, .int .i64 0, .int .i64 0, .int .i64 0, .int .i64 0, .int .i64 0, .int .i64 0] : Array Value).size = (bkC A n c R F).toArray.size := by
 have h : (#[.slice none 0 0, .int .i64 0, .int .i64 0, .int .i64 0, .int .i64 0, .int .i64 0, .int .i64 0, .int .i64 0, .int .i64 0, .int .i64 0, .int .i64 0, .int .i64 0, .int .i64 0, .int .i64 0, .int .i64 0, .int .i64 0, .int .i64 0, .int .i64 0, .int .i64 0, .int .i64 0, .int .i64 0, .int .i64 0, .int .i64 0, .int .i64 0, .int .i64 0, .int .i64 0, .int .i64 0, .int .i64 0, .int .i64 0, .int .i64 0, .int .i64 0, .int .i64 0, .int .i64 0] : Array Value).size = 33 := rfl
 rw [h, List.size_toArray, bkC_len hR hF]
def Box (u : World) (g : Nat) (CL : List Value) : Prop := u.heap[g]? = some (.cells CL.toArray 25 (0, 0))
theorem Box.calm {u u' : World} {g : Nat} {CL : List Value} (h : Box u g CL) (hb : Calm u u') : Box u' g CL := (hb.block (Array.getElem?_eq_some_iff.1 h).1).trans h
theorem Box.new (u : World) (CL : List Value) : Box (u.alloc (.cells CL.toArray 25)) u.heap.size CL := heap_new _ _
theorem Box.role {u : World} {g k : Nat} {A : Option Addr} {n c : Nat} {R F : List Int} (h : Box u g (bkC A n c R F)) (hR : R.length = 16) (hk : k < 16) : u.cell? ⟨g, 1 + k, none⟩ = some (.int .i64 (gI R k)) := (cell_of_row _ _ (1 + k) _ _ _ h).trans (bk_role hR hk)
theorem bkSS {A A' : Option Addr} {n n' c c' : Nat} {R F R' F' : List Int} (hR : R.length = 16) (hF : F.length = 16) (hR' : R'.length = 16) (hF' : F'.length = 16) : (bkC A n c R F).toArray.size = (bkC A' n' c' R' F').toArray.size := by rw [List.size_toArray, List.size_toArray, bkC_len hR hF, bkC_len hR' hF']
theorem bkEnd_good {E : Int} {l : List El} {R F : List Int} {w w' : World} {e : Ending} (hw : ∀ e ∈ l, e.wf) (h : BkEnd E l R F w e w') : ∃ A c, e = .returned (.tuple #[.agg (bkC A l.length c R F).toArray, .int .i64 E]) ∧ l.length ≤ c ∧ Lies w' A l ∧ (∀ b q, A = some ⟨b, q, none⟩ → w.heap.size ≤ b) ∧ Calm w w' := by
 obtain ⟨A, c, h1, h2, h3⟩ := h
 have hf : ∀ b q, A = some ⟨b, q, none⟩ → w.heap.size ≤ b := fun b q hA => (h2.lt b (by rw [hA]; rfl)).1
 obtain ⟨A', c', h4, h5, _, h6⟩ := h2.lies hw
 injection h4 with e1 e2 e3
 subst e1; subst e3
 exact ⟨A, c, h1, h5, h6, hf, h3⟩
open Go.ChangeShapes Go.WideShapes Go.ChangeAt Go.RowKit
set_option maxHeartbeats 4000000 in
theorem told_err (A1 A2 : Option Addr) (c1 c2 : Nat) (W : Int) (n2 : Nat) (R2 F2 : List Int) (w : World) (hW : W ≠ 0) (hR2 : R2.length = 16) (hF2 : F2.length = 16) :
    Calls Try.prog 12 #[.agg (bkC A1 0 c1 z16 z16).toArray, .int .i64 W, .agg (bkC A2 n2 c2 R2 F2).toArray, .int .i64 W] w fun e w' => e = .returned (.bool true) ∧ Calm w w' := by
  have cS : ∀ u, Calm w u → Calls Try.prog 22 #[.agg (bkC A1 0 c1 z16 z16).toArray, .agg #[.slice none 0 0, .int .i64 0, .int .i64 0, .int .i64 0, .int .i64 0, .int .i64 0, .int .i64 0, .int .i64 0, .int .i64 0, .int .i64 0, .int .i64 0, .int .i64 0, .int .i64 0, .int .i64 0, .int .i64 0, .int .i64 0, .int .i64 0, .int .i64 0, .int .i64 0, .int .i64 0, .int .i64 0, .int .i64 0, .int .i64 0, .int .i64 0, .int .i64 0, .int .i64 0, .int .i64 0, .int .i64 0, .int .i64 0, .int .i64 0, .int .i64 0, .int .i64 0, .int .i64 0]] u fun e w' => e = .returned (.bool true) ∧ Calm u w' := fun u _ => by
    rw [zb_eq]
    have h := sameBook_any A1 none c1 0 [] [] z16 z16 z16 z16 u (by simp) (by simp) ⟨by simp, fun h => absurd h (by simp)⟩ ⟨by simp, fun h => absurd h (by simp)⟩ rfl rfl rfl rfl
    rw [decide_eq_true ⟨rfl, rfl, rfl⟩] at h
    exact h
  have b1 := ne_rl hW
  have H1 : Box ((w.alloc (.cells (bkC A1 0 c1 z16 z16).toArray 25)).alloc (.cells (bkC A2 n2 c2 R2 F2).toArray 25)) w.heap.size (bkC A1 0 c1 z16 z16) := (Box.new w _).calm ((Calm.refl _).alloc _)
  have H2 : Box ((w.alloc (.cells (bkC A1 0 c1 z16 z16).toArray 25)).alloc (.cells (bkC A2 n2 c2 R2 F2).toArray 25)) (w.heap.size + 1) (bkC A2 n2 c2 R2 F2) := two_new w _ _
  have hu := ((Calm.refl w).alloc (.cells (bkC A1 0 c1 z16 z16).toArray 25)).alloc (.cells (bkC A2 n2 c2 R2 F2).toArray 25)
  go_enter Try.func12, Try.ntmps12
  go_upto_region 1 with fail
  generalize ((w.alloc (.cells (bkC A1 0 c1 z16 z16).toArray 25)).alloc (.cells (bkC A2 n2 c2 R2 F2).toArray 25)) = v0 at H1 H2 hu ⊢
  go_wp2_with (first
    | (refine wpList_bareB (by kernel_rfl) ?_; refine wpList_load_mid rfl 25 (.tmp 4) rfl w.heap.size 0 rfl (bkC A1 0 c1 z16 z16) _ (range_all H1) Try.underlying25 rfl (bkJ z16_len z16_len) ?_)
    | (go_at_call 22; (with_reducible refine (cS _ hu).mono ?_); rintro e w5 ⟨rfl, hb5⟩; replace hu := hu.call hb5; clear hb5))
  go_ret
  exact ⟨rfl, hu⟩
set_option maxHeartbeats 4000000 in
theorem told_ok (A1 A2 : Option Addr) (c1 c2 : Nat) (l : List El) (R F : List Int) (w : World) (hn : l.length ≤ 9223372036854775807) (h1 : Lies w A1 l) (h2 : Lies w A2 l) (hR : R.length = 16) (hF : F.length = 16) :
    Calls Try.prog 12 #[.agg (bkC A1 l.length c1 R F).toArray, .int .i64 0, .agg (bkC A2 l.length c2 R F).toArray, .int .i64 0] w fun e w' => e = .returned (.bool true) ∧ Calm w w' := by
  have cS : ∀ u, Calm w u → Calls Try.prog 22 #[.agg (bkC A1 l.length c1 R F).toArray, .agg (bkC A2 l.length c2 R F).toArray] u fun e w' => e = .returned (.bool true) ∧ Calm u w' := fun u hu => by
    have h := sameBook_any A1 A2 c1 c2 l l R F R F u hn hn (h1.calm hu) (h2.calm hu) hR hF hR hF
    rw [decide_eq_true ⟨rfl, rfl, rfl⟩] at h
    exact h
  have H1 : Box ((w.alloc (.cells (bkC A1 l.length c1 R F).toArray 25)).alloc (.cells (bkC A2 l.length c2 R F).toArray 25)) w.heap.size (bkC A1 l.length c1 R F) := (Box.new w _).calm ((Calm.refl _).alloc _)
  have H2 : Box ((w.alloc (.cells (bkC A1 l.length c1 R F).toArray 25)).alloc (.cells (bkC A2 l.length c2 R F).toArray 25)) (w.heap.size + 1) (bkC A2 l.length c2 R F) := two_new w _ _
  have hu := ((Calm.refl w).alloc (.cells (bkC A1 l.length c1 R F).toArray 25)).alloc (.cells (bkC A2 l.length c2 R F).toArray 25)
  go_enter Try.func12, Try.ntmps12
  go_upto_region 1 with fail
  generalize ((w.alloc (.cells (bkC A1 l.length c1 R F).toArray 25)).alloc (.cells (bkC A2 l.length c2 R F).toArray 25)) = v0 at H1 H2 hu ⊢
  go_wp2_with (first
    | (refine wpList_bareB (by kernel_rfl) ?_; refine wpList_load_mid rfl 25 (.tmp 4) rfl w.heap.size 0 rfl (bkC A1 l.length c1 R F) _ (range_all H1) Try.underlying25 rfl (bkJ hR hF) ?_)
    | (refine wpList_bareB (by kernel_rfl) ?_; refine wpList_load_mid rfl 25 (.tmp 6) rfl (w.heap.size + 1) 0 rfl (bkC A2 l.length c2 R F) _ (range_all H2) Try.underlying25 rfl (bkJ hR hF) ?_)
    | (go_at_call 22; (with_reducible refine (cS _ hu).mono ?_); rintro e w5 ⟨rfl, hb5⟩; replace hu := hu.call hb5; clear hb5))
  go_ret
  exact ⟨rfl, hu⟩
open Go.RowKit
theorem aheadS_Fol {p o f m p' o' f' m' : Int} : aheadS p' o' f' m' p o f m = true ↔ sLt (p', o', f') m' (p, o, f) m := by
 have h := scmp_sLt (a := ⟨p', o', f', m', 0, ByteArray.empty⟩) (b := ⟨p, o, f, m, 0, ByteArray.empty⟩)
 simp only [El.key] at h
 unfold aheadS; rw [decide_eq_true_eq, h]
set_option maxHeartbeats 8000000 in
theorem refRun_any (A : Option Addr) (c : Nat) (l : List El) (w : World) (hn : l.length ≤ 9223372036854775807) (hL : Lies w A l) :
    Calls Try.prog 28 #[.slice A l.length c] w fun e w' => e = .returned (.int .i64 (runErr l)) ∧ Calm w w' := by
  by_cases hbig : 400 < l.length
  · have K : Hid (2 = runErr l) := by show _ = _; unfold runErr; rw [if_pos hbig]
    go_enter Try.func28, Try.ntmps28
    go_wp2_with fail
    go_ret
    exact ⟨ret_int K.out, Calm.refl _⟩
  go_enter Try.func28, Try.ntmps28
  go_wp2_with fail
  go_loopw [12] (fun i wr => ∃ k : Nat, k ≤ l.length ∧ i = .int .i64 k ∧ Calm w wr ∧ NoErr l k) (fun i _ => l.length - (intOf i).toNat)
  case atStart => exact ⟨0, Nat.zero_le _, rfl, Calm.refl _, fun j hj => absurd hj (Nat.not_lt_zero _)⟩
  case round =>
    obtain ⟨k, hk, rfl, hu, hN⟩ := hrel
    by_cases hlt : k < l.length
    rotate_left
    · have hkl : k = l.length := by omega
      have K : Hid (0 = runErr l) := runErr_good hbig (by rw [← hkl]; exact hN)
      clear hkl
      go_wp2_with fail
      go_ret
      exact ⟨ret_int K.out, hu⟩
    obtain ⟨b, q, p, o, f, m, g, s, rfl, hb, HE, hm, c0, c1, c2, c3, c4, c5⟩ := (hL.calm hu).get hlt
    by_cases he : elemErr p o f m g s.size = 0
    rotate_left
    · have b1 : (elemErr p o f m g s.size != 0) = true := by simpa using he
      have K : Hid (elemErr p o f m g s.size = runErr l) := by
        have h1 := stepErr_err HE.out (show El.err ⟨p, o, f, m, g, s⟩ ≠ 0 from he)
        rw [← runErr_at hbig hN (by rw [h1]; exact he) hlt, h1]; rfl
      clear he
      go_wp2_with (go_at_call 51; refine (refElem_any _ _ _ _ _ _ _ hm).mono ?_; rintro e w1 ⟨rfl, hb1⟩)
      go_ret
      exact ⟨ret_int K.out, by repeat (first | (with_reducible exact Calm.refl _) | (with_reducible refine Calm.alloc ?_ _) | (with_reducible refine Calm.drew ?_) | (with_reducible refine Calm.drewN ?_ _) | (refine Calm.call ?_ (by with_reducible assumption)))⟩
    have b1 : (elemErr p o f m g s.size != 0) = false := by simpa using he
    have HE0 : Hid (elemErr p o f m g s.size = 0) := he
    clear he
    by_cases hk0 : k = 0
    · subst hk0
      have hN1 : NoErr l 1 := fun j hj => by
        have : j = 0 := by omega
        subst this
        exact stepErr_first HE.out HE0.out
      simp only [Nat.zero_mul, Nat.add_zero] at c0 c1 c2 c3 c4 c5
      go_wp2_with (go_at_call 51; refine (refElem_any _ _ _ _ _ _ _ hm).mono ?_; rintro e w1 ⟨rfl, hb1⟩)
      exact ⟨⟨1, by omega, rfl, (hu.alloc _).call hb1, hN1⟩, by simp [intOf]; omega⟩
    obtain ⟨p', o', f', m', g', s', HE', hm', d0, d1, d2, d3, d4, d5⟩ := (hL.calm hu).get2 (k := k - 1) (by omega)
    have hS := stepErr_form HE.out HE0.out (by omega) HE'.out
    have hg' : g' = 0 ∨ 0 < g' := by
      have h1 := ((stepErr_zero (l := l) (i := k - 1) (by omega)).1 (hN (k - 1) (by omega))).1
      rw [(List.getElem?_eq_some_iff.1 HE'.out).2] at h1
      have h2 := err_time h1
      unfold timeOk at h2; simp only at h2; omega
    have z0 : 0 < k := by omega
    have z1 : IntKind.i64.wrap ((k : Int) - 1) = (k : Int) - 1 := IntWalk.i64_in _ (by omega)
    have z2 : ((k : Int) - 1).toNat = k - 1 := by omega
    have z3 : 0 ≤ (k : Int) - 1 := by omega
    have z4 : (k : Int) - 1 < l.length := by omega
    have z5 : 1 ≤ (k : Int) := by omega
    have hLR : Calm w wr ∧ k < l.length ∧ NoErr l k ∧ ¬ 400 < l.length := ⟨hu, hlt, hN, hbig⟩
    have HS : Hid (stepErr l k = if Fol ⟨p', o', f', m', g', s'⟩ ⟨p, o, f, m, g, s⟩ then 0 else 3) := hS
    clear hS
    go_upto_region 11 with (go_at_call 51; refine (refElem_any _ _ _ _ _ _ _ hm).mono ?_; rintro e w1 ⟨rfl, hb1⟩; have hx1 := (hb1.block (k := wr.heap.size) (by simp)).trans (heap_new wr _); have hv := ((Calm.refl wr).alloc _).call hb1; have hb2 : b < w1.heap.size := Nat.lt_of_lt_of_le hb hv.size; have hvc := hv.facts.1; replace d0 := (hvc _ _ hb).trans d0; replace d1 := (hvc _ _ hb).trans d1; replace d2 := (hvc _ _ hb).trans d2; replace d3 := (hvc _ _ hb).trans d3; replace d4 := (hvc _ _ hb).trans d4; replace d5 := (hvc _ _ hb).trans d5; clear hvc hb1 c0 c1 c2 c3 c4 c5 hL)
    clear b1 z0 z1 z2 z3 z4 z5 d0 d1 d2 d3 d4 d5
    have hx := heap_past (.cells #[.int .i64 p', .int .i64 o', .int .i64 f', .int .i64 m', .int .i64 g', .string s'] 41) hx1
    have hy := heap_new w1 (.cells #[.int .i64 p', .int .i64 o', .int .i64 f', .int .i64 m', .int .i64 g', .string s'] 41)
    have hv1 := (hu.call hv).alloc (.cells #[.int .i64 p', .int .i64 o', .int .i64 f', .int .i64 m', .int .i64 g', .string s'] 41)
    have hne : wr.heap.size ≠ w1.heap.size := by have := (Array.getElem?_eq_some_iff.1 hx1).1; omega
    generalize w1.alloc (.cells #[.int .i64 p', .int .i64 o', .int .i64 f', .int .i64 m', .int .i64 g', .string s'] 41) = wc at hx hy hv1 ⊢
    obtain ⟨x0, x1, x2, x3, x4, x5, hxs⟩ := row6 hx
    obtain ⟨y0, y1, y2, y3, y4, y5, hys⟩ := row6 hy
    clear hv hb2 hx1 hx hy
    generalize wr.heap.size = X0 at *
    generalize w1.heap.size = Y0 at *
    have hFA : Fol ⟨p', o', f', m', g', s'⟩ ⟨p, o, f, m, g, s⟩ ↔ aheadS p' o' f' m' p o f m = true ∧ ((p', o', f') = (p, o, f) → g' ≠ 0 ∧ g' ≤ m) := by rw [aheadS_Fol]; exact Iff.rfl
    clear hN hbig hlt hk0 HE HE0 HE' hu hm hm'
    have hN := hLR.2.2.1
    have hlt := hLR.2.1
    cases hA : aheadS p' o' f' m' p o f m
    · have hF : ¬ Fol ⟨p', o', f', m', g', s'⟩ ⟨p, o, f, m, g, s⟩ := fun h => by rw [hFA, hA] at h; exact absurd h.1 (by simp)
      have K : Hid (3 = runErr l) := by
        have h := HS.out
        rw [if_neg hF] at h
        exact h.symm.trans (runErr_at hLR.2.2.2 hLR.2.2.1 (by rw [h]; decide) hLR.2.1)
      clear hF HS
      have cS : ∀ u, Calls Try.prog 52 #[.agg #[.int .i64 p', .int .i64 o', .int .i64 f', .int .i64 m'], .agg #[.int .i64 p, .int .i64 o, .int .i64 f, .int .i64 m]] u fun e w' => e = .returned (.bool false) ∧ Calm u w' := fun u => by rw [← hA]; exact aheadSpot_any _ _ _ _ _ _ _ _ _
      clear hA hFA
      refine wp_region_plan [.val (.agg #[.int .i64 p', .int .i64 o', .int .i64 f', .int .i64 m', .int .i64 g', .string s']), .val (.agg #[.int .i64 p', .int .i64 o', .int .i64 f', .int .i64 m']), .val (.agg #[.int .i64 p, .int .i64 o, .int .i64 f, .int .i64 m, .int .i64 g, .string s]), .val (.agg #[.int .i64 p, .int .i64 o, .int .i64 f, .int .i64 m]), .val (.bool false), .val (.bool true), .val (.bool true), .idle, .idle, .idle, .idle, .idle, .idle, .idle, .idle, .idle, .idle, .idle, .idle, .idle, .idle, .idle, .idle, .idle, .idle, .val (.bool true)] (by kernel_rfl) (by kernel_rfl) (by kernel_rfl) ?_
      intro X
      iterate 7
        refine plan_val (by kernel_rfl) (fun u hu => ?_) ?_
        · obtain ⟨hc, hf, hz⟩ := hu.of_drew.facts
          go_simp
          all_goals first
            | (go_at_call 53; exact refSpot_any _ _ _ _ _ _ _)
            | (go_at_call 52; exact cS _)
        simp only [Act.put, List.setIfInBounds_toArray, List.set_cons_zero, List.set_cons_succ, Nat.reduceAdd]
      iterate 18
        refine plan_idle (by kernel_rfl) ?_
        simp only [Act.put, List.setIfInBounds_toArray, List.set_cons_zero, List.set_cons_succ, Nat.reduceAdd]
      iterate 1
        refine plan_val (by kernel_rfl) (fun u hu => ?_) ?_
        · obtain ⟨hc, hf, hz⟩ := hu.of_drew.facts
          go_simp
          all_goals first
            | (go_at_call 53; exact refSpot_any _ _ _ _ _ _ _)
            | (go_at_call 52; exact cS _)
        simp only [Act.put, List.setIfInBounds_toArray, List.set_cons_zero, List.set_cons_succ, Nat.reduceAdd]
      refine plan_end ?_
      intro w' hB
      have hk := hB.calm.of_drew
      clear hB cS
      go_wp2_with fail
      go_ret
      exact ⟨ret_int K.out, hv1.call hk⟩
    by_cases hK : (p', o', f') = (p, o, f)
    rotate_left
    · have hF : Fol ⟨p', o', f', m', g', s'⟩ ⟨p, o, f, m, g, s⟩ := hFA.2 ⟨hA, fun h => absurd h hK⟩
      have hN1 : NoErr l (k + 1) := fun j hj => by
        rcases Nat.lt_or_ge j k with h | h
        · exact hN j h
        · rw [show j = k by omega]; have h := HS.out; rw [if_pos hF] at h; exact h
      clear hF HS
      have cS : ∀ u, Calls Try.prog 52 #[.agg #[.int .i64 p', .int .i64 o', .int .i64 f', .int .i64 m'], .agg #[.int .i64 p, .int .i64 o, .int .i64 f, .int .i64 m]] u fun e w' => e = .returned (.bool true) ∧ Calm u w' := fun u => by rw [← hA]; exact aheadSpot_any _ _ _ _ _ _ _ _ _
      clear hA hFA
      have h3 : ¬ p' = p ∨ (p' = p ∧ ¬ o' = o) ∨ (p' = p ∧ o' = o ∧ ¬ f' = f) := by simp only [Prod.mk.injEq] at hK; omega
      clear hK
      rcases h3 with h3 | ⟨h3, h4⟩ | ⟨h3, h4, h5⟩
      · skip
        refine wp_region_plan [.val (.agg #[.int .i64 p', .int .i64 o', .int .i64 f', .int .i64 m', .int .i64 g', .string s']), .val (.agg #[.int .i64 p', .int .i64 o', .int .i64 f', .int .i64 m']), .val (.agg #[.int .i64 p, .int .i64 o, .int .i64 f, .int .i64 m, .int .i64 g, .string s]), .val (.agg #[.int .i64 p, .int .i64 o, .int .i64 f, .int .i64 m]), .val (.bool true), .val (.bool false), .val (.bool false), .val (.pointer (some ⟨Y0, 0, none⟩)), .val (.agg #[.int .i64 p', .int .i64 o', .int .i64 f']), .val (.pointer (some ⟨X0, 0, none⟩)), .val (.agg #[.int .i64 p, .int .i64 o, .int .i64 f]), .val (.bool false), .val (.bool false), .idle, .idle, .idle, .idle, .idle, .idle, .idle, .idle, .idle, .idle, .idle, .val (.bool false), .val (.bool false)] (by kernel_rfl) (by kernel_rfl) (by kernel_rfl) ?_
        intro X
        iterate 13
          refine plan_val (by kernel_rfl) (fun u hu => ?_) ?_
          · obtain ⟨hc, hf, hz⟩ := hu.of_drew.facts
            go_simp
            all_goals first
              | (go_at_call 53; exact refSpot_any _ _ _ _ _ _ _)
              | (go_at_call 52; exact cS _)
          simp only [Act.put, List.setIfInBounds_toArray, List.set_cons_zero, List.set_cons_succ, Nat.reduceAdd]
        iterate 11
          refine plan_idle (by kernel_rfl) ?_
          simp only [Act.put, List.setIfInBounds_toArray, List.set_cons_zero, List.set_cons_succ, Nat.reduceAdd]
        iterate 2
          refine plan_val (by kernel_rfl) (fun u hu => ?_) ?_
          · obtain ⟨hc, hf, hz⟩ := hu.of_drew.facts
            go_simp
            all_goals first
              | (go_at_call 53; exact refSpot_any _ _ _ _ _ _ _)
              | (go_at_call 52; exact cS _)
          simp only [Act.put, List.setIfInBounds_toArray, List.set_cons_zero, List.set_cons_succ, Nat.reduceAdd]
        refine plan_end ?_
        intro w' hB
        have hk := hB.calm.of_drew
        clear hB cS
        go_wp2_with fail
        go_roundw
        case rel => exact ⟨k + 1, by omega, by go_num, hv1.call hk, hN1⟩
        case measure => simp [intOf]; omega
      · skip
        subst h3
        refine wp_region_plan [.val (.agg #[.int .i64 p', .int .i64 o', .int .i64 f', .int .i64 m', .int .i64 g', .string s']), .val (.agg #[.int .i64 p', .int .i64 o', .int .i64 f', .int .i64 m']), .val (.agg #[.int .i64 p', .int .i64 o, .int .i64 f, .int .i64 m, .int .i64 g, .string s]), .val (.agg #[.int .i64 p', .int .i64 o, .int .i64 f, .int .i64 m]), .val (.bool true), .val (.bool false), .val (.bool false), .val (.pointer (some ⟨Y0, 0, none⟩)), .val (.agg #[.int .i64 p', .int .i64 o', .int .i64 f']), .val (.pointer (some ⟨X0, 0, none⟩)), .val (.agg #[.int .i64 p', .int .i64 o, .int .i64 f]), .val (.bool false), .val (.bool false), .idle, .idle, .idle, .idle, .idle, .idle, .idle, .idle, .idle, .idle, .idle, .val (.bool false), .val (.bool false)] (by kernel_rfl) (by kernel_rfl) (by kernel_rfl) ?_
        intro X
        iterate 13
          refine plan_val (by kernel_rfl) (fun u hu => ?_) ?_
          · obtain ⟨hc, hf, hz⟩ := hu.of_drew.facts
            go_simp
            all_goals first
              | (go_at_call 53; exact refSpot_any _ _ _ _ _ _ _)
              | (go_at_call 52; exact cS _)
          simp only [Act.put, List.setIfInBounds_toArray, List.set_cons_zero, List.set_cons_succ, Nat.reduceAdd]
        iterate 11
          refine plan_idle (by kernel_rfl) ?_
          simp only [Act.put, List.setIfInBounds_toArray, List.set_cons_zero, List.set_cons_succ, Nat.reduceAdd]
        iterate 2
          refine plan_val (by kernel_rfl) (fun u hu => ?_) ?_
          · obtain ⟨hc, hf, hz⟩ := hu.of_drew.facts
            go_simp
            all_goals first
              | (go_at_call 53; exact refSpot_any _ _ _ _ _ _ _)
              | (go_at_call 52; exact cS _)
          simp only [Act.put, List.setIfInBounds_toArray, List.set_cons_zero, List.set_cons_succ, Nat.reduceAdd]
        refine plan_end ?_
        intro w' hB
        have hk := hB.calm.of_drew
        clear hB cS
        go_wp2_with fail
        go_roundw
        case rel => exact ⟨k + 1, by omega, by go_num, hv1.call hk, hN1⟩
        case measure => simp [intOf]; omega
      · skip
        subst h3
        subst h4
        refine wp_region_plan [.val (.agg #[.int .i64 p', .int .i64 o', .int .i64 f', .int .i64 m', .int .i64 g', .string s']), .val (.agg #[.int .i64 p', .int .i64 o', .int .i64 f', .int .i64 m']), .val (.agg #[.int .i64 p', .int .i64 o', .int .i64 f, .int .i64 m, .int .i64 g, .string s]), .val (.agg #[.int .i64 p', .int .i64 o', .int .i64 f, .int .i64 m]), .val (.bool true), .val (.bool false), .val (.bool false), .val (.pointer (some ⟨Y0, 0, none⟩)), .val (.agg #[.int .i64 p', .int .i64 o', .int .i64 f']), .val (.pointer (some ⟨X0, 0, none⟩)), .val (.agg #[.int .i64 p', .int .i64 o', .int .i64 f]), .val (.bool false), .val (.bool false), .idle, .idle, .idle, .idle, .idle, .idle, .idle, .idle, .idle, .idle, .idle, .val (.bool false), .val (.bool false)] (by kernel_rfl) (by kernel_rfl) (by kernel_rfl) ?_
        intro X
        iterate 13
          refine plan_val (by kernel_rfl) (fun u hu => ?_) ?_
          · obtain ⟨hc, hf, hz⟩ := hu.of_drew.facts
            go_simp
            all_goals first
              | (go_at_call 53; exact refSpot_any _ _ _ _ _ _ _)
              | (go_at_call 52; exact cS _)
          simp only [Act.put, List.setIfInBounds_toArray, List.set_cons_zero, List.set_cons_succ, Nat.reduceAdd]
        iterate 11
          refine plan_idle (by kernel_rfl) ?_
          simp only [Act.put, List.setIfInBounds_toArray, List.set_cons_zero, List.set_cons_succ, Nat.reduceAdd]
        iterate 2
          refine plan_val (by kernel_rfl) (fun u hu => ?_) ?_
          · obtain ⟨hc, hf, hz⟩ := hu.of_drew.facts
            go_simp
            all_goals first
              | (go_at_call 53; exact refSpot_any _ _ _ _ _ _ _)
              | (go_at_call 52; exact cS _)
          simp only [Act.put, List.setIfInBounds_toArray, List.set_cons_zero, List.set_cons_succ, Nat.reduceAdd]
        refine plan_end ?_
        intro w' hB
        have hk := hB.calm.of_drew
        clear hB cS
        go_wp2_with fail
        go_roundw
        case rel => exact ⟨k + 1, by omega, by go_num, hv1.call hk, hN1⟩
        case measure => simp [intOf]; omega
    simp only [Prod.mk.injEq] at hK
    obtain ⟨rfl, rfl, rfl⟩ := hK
    by_cases hg0 : 0 < g'
    rotate_left
    · have hF : ¬ Fol ⟨p', o', f', m', g', s'⟩ ⟨p', o', f', m, g, s⟩ := fun h => by have := ((hFA.1 h).2 rfl).1; omega
      have K : Hid (3 = runErr l) := by
        have h := HS.out
        rw [if_neg hF] at h
        exact h.symm.trans (runErr_at hLR.2.2.2 hLR.2.2.1 (by rw [h]; decide) hLR.2.1)
      clear hF HS
      have cS : ∀ u, Calls Try.prog 52 #[.agg #[.int .i64 p', .int .i64 o', .int .i64 f', .int .i64 m'], .agg #[.int .i64 p', .int .i64 o', .int .i64 f', .int .i64 m]] u fun e w' => e = .returned (.bool true) ∧ Calm u w' := fun u => by rw [← hA]; exact aheadSpot_any _ _ _ _ _ _ _ _ _
      clear hA hFA hg'
      refine wp_region_plan [.val (.agg #[.int .i64 p', .int .i64 o', .int .i64 f', .int .i64 m', .int .i64 g', .string s']), .val (.agg #[.int .i64 p', .int .i64 o', .int .i64 f', .int .i64 m']), .val (.agg #[.int .i64 p', .int .i64 o', .int .i64 f', .int .i64 m, .int .i64 g, .string s]), .val (.agg #[.int .i64 p', .int .i64 o', .int .i64 f', .int .i64 m]), .val (.bool true), .val (.bool false), .val (.bool false), .val (.pointer (some ⟨Y0, 0, none⟩)), .val (.agg #[.int .i64 p', .int .i64 o', .int .i64 f']), .val (.pointer (some ⟨X0, 0, none⟩)), .val (.agg #[.int .i64 p', .int .i64 o', .int .i64 f']), .val (.bool true), .val (.bool true), .val (.pointer (some ⟨Y0, 4, none⟩)), .val (.int .i64 g'), .val (.bool false), .val (.bool false), .idle, .idle, .idle, .idle, .idle, .val (.bool false), .val (.bool true), .val (.bool true), .val (.bool true)] (by kernel_rfl) (by kernel_rfl) (by kernel_rfl) ?_
      intro X
      iterate 17
        refine plan_val (by kernel_rfl) (fun u hu => ?_) ?_
        · obtain ⟨hc, hf, hz⟩ := hu.of_drew.facts
          go_simp
          all_goals first
            | (go_at_call 53; exact refSpot_any _ _ _ _ _ _ _)
            | (go_at_call 52; exact cS _)
        simp only [Act.put, List.setIfInBounds_toArray, List.set_cons_zero, List.set_cons_succ, Nat.reduceAdd]
      iterate 5
        refine plan_idle (by kernel_rfl) ?_
        simp only [Act.put, List.setIfInBounds_toArray, List.set_cons_zero, List.set_cons_succ, Nat.reduceAdd]
      iterate 4
        refine plan_val (by kernel_rfl) (fun u hu => ?_) ?_
        · obtain ⟨hc, hf, hz⟩ := hu.of_drew.facts
          go_simp
          all_goals first
            | (go_at_call 53; exact refSpot_any _ _ _ _ _ _ _)
            | (go_at_call 52; exact cS _)
        simp only [Act.put, List.setIfInBounds_toArray, List.set_cons_zero, List.set_cons_succ, Nat.reduceAdd]
      refine plan_end ?_
      intro w' hB
      have hk := hB.calm.of_drew
      clear hB cS
      go_wp2_with fail
      go_ret
      exact ⟨ret_int K.out, hv1.call hk⟩
    by_cases hgm : g' ≤ m
    · have hF : Fol ⟨p', o', f', m', g', s'⟩ ⟨p', o', f', m, g, s⟩ := hFA.2 ⟨hA, fun _ => ⟨by omega, hgm⟩⟩
      have hN1 : NoErr l (k + 1) := fun j hj => by
        rcases Nat.lt_or_ge j k with h | h
        · exact hN j h
        · rw [show j = k by omega]; have h := HS.out; rw [if_pos hF] at h; exact h
      clear hF HS
      have cS : ∀ u, Calls Try.prog 52 #[.agg #[.int .i64 p', .int .i64 o', .int .i64 f', .int .i64 m'], .agg #[.int .i64 p', .int .i64 o', .int .i64 f', .int .i64 m]] u fun e w' => e = .returned (.bool true) ∧ Calm u w' := fun u => by rw [← hA]; exact aheadSpot_any _ _ _ _ _ _ _ _ _
      clear hA hFA hg'
      refine wp_region_plan [.val (.agg #[.int .i64 p', .int .i64 o', .int .i64 f', .int .i64 m', .int .i64 g', .string s']), .val (.agg #[.int .i64 p', .int .i64 o', .int .i64 f', .int .i64 m']), .val (.agg #[.int .i64 p', .int .i64 o', .int .i64 f', .int .i64 m, .int .i64 g, .string s]), .val (.agg #[.int .i64 p', .int .i64 o', .int .i64 f', .int .i64 m]), .val (.bool true), .val (.bool false), .val (.bool false), .val (.pointer (some ⟨Y0, 0, none⟩)), .val (.agg #[.int .i64 p', .int .i64 o', .int .i64 f']), .val (.pointer (some ⟨X0, 0, none⟩)), .val (.agg #[.int .i64 p', .int .i64 o', .int .i64 f']), .val (.bool true), .val (.bool true), .val (.pointer (some ⟨Y0, 4, none⟩)), .val (.int .i64 g'), .val (.bool true), .val (.bool true), .val (.pointer (some ⟨Y0, 4, none⟩)), .val (.int .i64 g'), .val (.pointer (some ⟨X0, 3, none⟩)), .val (.int .i64 m), .val (.bool true), .val (.bool true), .val (.bool false), .val (.bool false), .val (.bool false)] (by kernel_rfl) (by kernel_rfl) (by kernel_rfl) ?_
      intro X
      iterate 26
        refine plan_val (by kernel_rfl) (fun u hu => ?_) ?_
        · obtain ⟨hc, hf, hz⟩ := hu.of_drew.facts
          go_simp
          all_goals first
            | (go_at_call 53; exact refSpot_any _ _ _ _ _ _ _)
            | (go_at_call 52; exact cS _)
        simp only [Act.put, List.setIfInBounds_toArray, List.set_cons_zero, List.set_cons_succ, Nat.reduceAdd]
      refine plan_end ?_
      intro w' hB
      have hk := hB.calm.of_drew
      clear hB cS
      go_wp2_with fail
      go_roundw
      case rel => exact ⟨k + 1, by omega, by go_num, hv1.call hk, hN1⟩
      case measure => simp [intOf]; omega
    · have hF : ¬ Fol ⟨p', o', f', m', g', s'⟩ ⟨p', o', f', m, g, s⟩ := fun h => by have := ((hFA.1 h).2 rfl).2; omega
      have K : Hid (3 = runErr l) := by
        have h := HS.out
        rw [if_neg hF] at h
        exact h.symm.trans (runErr_at hLR.2.2.2 hLR.2.2.1 (by rw [h]; decide) hLR.2.1)
      clear hF HS
      have cS : ∀ u, Calls Try.prog 52 #[.agg #[.int .i64 p', .int .i64 o', .int .i64 f', .int .i64 m'], .agg #[.int .i64 p', .int .i64 o', .int .i64 f', .int .i64 m]] u fun e w' => e = .returned (.bool true) ∧ Calm u w' := fun u => by rw [← hA]; exact aheadSpot_any _ _ _ _ _ _ _ _ _
      clear hA hFA hg'
      refine wp_region_plan [.val (.agg #[.int .i64 p', .int .i64 o', .int .i64 f', .int .i64 m', .int .i64 g', .string s']), .val (.agg #[.int .i64 p', .int .i64 o', .int .i64 f', .int .i64 m']), .val (.agg #[.int .i64 p', .int .i64 o', .int .i64 f', .int .i64 m, .int .i64 g, .string s]), .val (.agg #[.int .i64 p', .int .i64 o', .int .i64 f', .int .i64 m]), .val (.bool true), .val (.bool false), .val (.bool false), .val (.pointer (some ⟨Y0, 0, none⟩)), .val (.agg #[.int .i64 p', .int .i64 o', .int .i64 f']), .val (.pointer (some ⟨X0, 0, none⟩)), .val (.agg #[.int .i64 p', .int .i64 o', .int .i64 f']), .val (.bool true), .val (.bool true), .val (.pointer (some ⟨Y0, 4, none⟩)), .val (.int .i64 g'), .val (.bool true), .val (.bool true), .val (.pointer (some ⟨Y0, 4, none⟩)), .val (.int .i64 g'), .val (.pointer (some ⟨X0, 3, none⟩)), .val (.int .i64 m), .val (.bool false), .val (.bool false), .val (.bool true), .val (.bool true), .val (.bool true)] (by kernel_rfl) (by kernel_rfl) (by kernel_rfl) ?_
      intro X
      iterate 26
        refine plan_val (by kernel_rfl) (fun u hu => ?_) ?_
        · obtain ⟨hc, hf, hz⟩ := hu.of_drew.facts
          go_simp
          all_goals first
            | (go_at_call 53; exact refSpot_any _ _ _ _ _ _ _)
            | (go_at_call 52; exact cS _)
        simp only [Act.put, List.setIfInBounds_toArray, List.set_cons_zero, List.set_cons_succ, Nat.reduceAdd]
      refine plan_end ?_
      intro w' hB
      have hk := hB.calm.of_drew
      clear hB cS
      go_wp2_with fail
      go_ret
      exact ⟨ret_int K.out, hv1.call hk⟩
open Go.ChangeShapes Go.WideShapes Go.ChangeAt Go.RowKit
theorem fedFit_bad {r f : Int} : fedFit r f = (decide (0 ≤ r ∧ r ≤ 2) && decide (0 ≤ f ∧ f ≤ 2147483647) && !(decide (f ≠ 0 ∧ r ≠ 2))) := by
 unfold fedFit
 by_cases h0 : r = 0 ∨ r = 1
 ·rw [if_pos h0]
  rcases h0 with rfl | rfl
  ·by_cases h : f = 0 <;> simp [h]
  ·by_cases h : f = 0 <;> simp [h]
 ·rw [if_neg h0]
  by_cases h2 : r = 2
  ·subst h2; simp
  ·rw [if_neg h2, Bool.eq_iff_iff]
   simp
   intro h3 h4
   omega
set_option maxHeartbeats 4000000 in
theorem refBook_any (A : Option Addr) (c : Nat) (l : List El) (R F : List Int) (w : World) (hn : l.length ≤ 9223372036854775807) (hL : Lies w A l) (hR : R.length = 16) (hF : F.length = 16) :
    Calls Try.prog 10 #[.agg (bkC A l.length c R F).toArray] w fun e w' => e = .returned (.int .i64 (bkErr l R F)) ∧ Calm w w' := by
  have cC := fun u (hu : Calm w u) => refRun_any A c l u hn (hL.calm hu)
  have hE : runErr l ≠ 0 → bkErr l R F = runErr l := fun h => by unfold bkErr; exact if_neg h
  have hE0 : runErr l = 0 → bkOk l R F → bkErr l R F = 0 := fun h h2 => by unfold bkErr; rw [if_pos h]; exact if_pos h2
  have hE3 : runErr l = 0 → ¬ bkOk l R F → bkErr l R F = 3 := fun h h2 => by unfold bkErr; rw [if_pos h]; exact if_neg h2
  generalize bkErr l R F = E at hE hE0 hE3 ⊢
  have hx := heap_new w (.cells (bkC A l.length c R F).toArray 25)
  have hu := (Calm.refl w).alloc (.cells (bkC A l.length c R F).toArray 25)
  have c0 := (cell_of_row _ _ 0 _ _ _ hx).trans (show (bkC A l.length c R F).toArray[0]? = some (.slice A l.length c) from rfl)
  have hxl : w.heap.size < (w.alloc (.cells (bkC A l.length c R F).toArray 25)).heap.size := by simp
  have HX := Lib.hid hx
  have RR : ∀ u : World, u.heap[w.heap.size]? = some (.cells (bkC A l.length c R F).toArray 25 (0, 0)) → u.rangeAt w.heap.size 1 (R.map (Value.int .i64)) := fun u h => range_role hR h
  have RF : ∀ u : World, u.heap[w.heap.size]? = some (.cells (bkC A l.length c R F).toArray 25 (0, 0)) → ∀ k, k < 16 → u.cell? ⟨w.heap.size, 17 + k, none⟩ = some (.int .i64 (gI F k)) := fun u h k hk => (cell_of_row _ _ (17 + k) _ _ _ h).trans (bk_fed hR hF hk)
  have RG : ∀ u : World, u.heap[w.heap.size]? = some (.cells (bkC A l.length c R F).toArray 25 (0, 0)) → ∀ k, k < 16 → u.cell? ⟨w.heap.size, 1 + k, none⟩ = some (.int .i64 (gI R k)) := fun u h k hk => (cell_of_row _ _ (1 + k) _ _ _ h).trans (bk_role hR hk)
  have RA : ∀ u : World, u.heap[w.heap.size]? = some (.cells (bkC A l.length c R F).toArray 25 (0, 0)) → u.cell? ⟨w.heap.size, 0, none⟩ = some (.slice A l.length c) := fun u h => (cell_of_row _ _ 0 _ _ _ h).trans rfl
  have RH := Lib.hid RR
  have RFH := Lib.hid RF
  have RGH := Lib.hid RG
  have RAH := Lib.hid RA
  clear hx RR RF RA RG
  generalize (bkC A l.length c R F) = CL at *
  have hRk : ∀ k, k < 16 → (R.map (Value.int .i64)).toArray[k]? = some (.int .i64 (gI R k)) := fun k hk => by
    unfold gI
    rw [List.getElem?_toArray, List.getElem?_map, List.getD_eq_getElem?_getD, List.getElem?_eq_getElem (by omega)]
    rfl
  have hRl : (R.map (Value.int .i64)).length = 16 := by rw [List.length_map, hR]
  have hI : Hid ((Try.prog.info? 23).map (·.size) = some (R.map (Value.int .i64)).length) := show _ = _ by rw [hRl]; exact info16
  have HRk := Lib.hid hRk
  clear hRk
  generalize R.map (Value.int .i64) = RL at *
  by_cases hr : runErr l = 0
  rotate_left
  · rw [hE hr]
    have b1 := ne_rl hr
    generalize runErr l = X at cC b1 ⊢
    clear hE hE0 hE3 hr
    go_enter Try.func10, Try.ntmps10
    go_wp2_with (go_at_call 28; refine (cC _ hu).mono ?_; rintro e w1 ⟨rfl, hb1⟩; replace hu := hu.call hb1; clear hb1 cC)
    go_ret
    exact ⟨rfl, hu⟩
  have hG := runErr_zero.1 hr
  rw [hr] at cC
  have HE0 := Lib.hid (hE0 hr)
  have HE3 := Lib.hid (hE3 hr)
  have HG := Lib.hid hG
  clear hE hE0 hE3 hr hG
  go_enter Try.func10, Try.ntmps10
  go_wp2_with (first
    | (go_at_call 28; refine (cC _ hu).mono ?_; rintro e w1 ⟨rfl, hb1⟩; replace HX := Lib.hid ((hb1.block hxl).trans HX.out); replace hu := hu.call hb1; clear hb1 cC)
    | (refine wpList_load_mid rfl 23 (.tmp 14) rfl w.heap.size 1 rfl RL _ (RH.out _ HX.out) Try.underlying23 rfl hI.out ?_))
  clear c0 hxl hI RH
  go_loopw [16] (fun i wr => ∃ k : Nat, k ≤ 16 ∧ i = .int .i64 k ∧ Calm w wr ∧ Hid (wr.heap[w.heap.size]? = some (.cells CL.toArray 25 (0, 0))) ∧ Hid (∀ j, j < k → fedFit (gI R j) (gI F j) = true)) (fun i _ => 16 - (intOf i).toNat)
  case atStart => exact ⟨0, by omega, rfl, hu, HX, show ∀ _, _ from fun j hj => absurd hj (Nat.not_lt_zero _)⟩
  case round =>
    obtain ⟨k, hk, rfl, hu, HX, HK⟩ := hrel
    by_cases hlt : k < 16
    rotate_left
    · have HR : Hid (bkRoles R F) := show ∀ k, _ from fun j hj => HK.out j (by omega)
      have c0 := RAH.out _ HX.out
      go_wp2_with fail
      clear c0
      go_loopw [46] (fun i wr => ∃ n : Nat, n ≤ l.length ∧ i = .int .i64 n ∧ Calm w wr ∧ Hid (wr.heap[w.heap.size]? = some (.cells CL.toArray 25 (0, 0))) ∧ Hid (∀ j (hj : j < l.length), j < n → elFit R F l[j] = true)) (fun i _ => l.length - (intOf i).toNat)
      case atStart => exact ⟨0, Nat.zero_le _, rfl, hu, HX, show ∀ _, _ from fun j _ hj => absurd hj (Nat.not_lt_zero _)⟩
      case round =>
        obtain ⟨n, hn2, rfl, hu, HX, HN⟩ := hrel
        by_cases hlt : n < l.length
        rotate_left
        · have E0 := HE0.out ⟨HR.out, fun e he => by
            obtain ⟨j, hj, rfl⟩ := List.getElem_of_mem he
            exact HN.out j hj (by omega)⟩
          subst E0
          go_wp2_with fail
          go_ret
          exact ⟨rfl, hu⟩
        obtain ⟨b, q, p, o, f, m, g, s, rfl, hb, HEe, hm, c0, c1, c2, c3, c4, c5⟩ := (hL.calm hu).get hlt
        have hel : l[n] = ⟨p, o, f, m, g, s⟩ := (List.getElem?_eq_some_iff.1 HEe.out).2
        have hpp := err_zero (HG.out.2.1 _ (List.getElem_mem hlt))
        rw [hel] at hpp
        have hp1 : 0 ≤ p := hpp.1
        have hp2 : p ≤ 15 := hpp.2.1
        obtain ⟨k2, rfl⟩ : ∃ k2 : Nat, p = k2 := ⟨p.toNat, by omega⟩
        have hk2 : k2 < 16 := by omega
        have hk2i : (k2 : Int) < 16 := by omega
        have hk20 : (0 : Int) ≤ (k2 : Int) := by omega
        have hxl : w.heap.size < wr.heap.size := (Array.getElem?_eq_some_iff.1 HX.out).1
        have hE2 : elFit R F ⟨k2, o, f, m, g, s⟩ = if gI R k2 = 1 then true else if gI R k2 = 2 then decide (lastOf m g ≤ gI F k2) else false := by
          unfold elFit
          simp
          rfl
        have hbz : gI R k2 = 0 ∨ gI R k2 = 1 ∨ gI R k2 = 2 := by
          have := HR.out k2 hk2
          unfold fedFit at this
          by_cases h0 : gI R k2 = 0 ∨ gI R k2 = 1
          · omega
          · rw [if_neg h0] at this
            by_cases h2 : gI R k2 = 2
            · omega
            · rw [if_neg h2] at this; exact absurd this (by decide)
        have HEL := Lib.hid hel
        have HX2 := Lib.hid (((((Calm.refl wr).alloc (.cells #[.int .i64 (k2 : Int), .int .i64 o, .int .i64 f, .int .i64 m, .int .i64 g, .string s] 41)).block hxl).trans HX.out))
        have d1 := RGH.out _ HX2.out k2 hk2
        have d2 := RFH.out _ HX2.out k2 hk2
        replace hu := hu.alloc (.cells #[.int .i64 (k2 : Int), .int .i64 o, .int .i64 f, .int .i64 m, .int .i64 g, .string s] 41)
        have he2 := heap_new wr (.cells #[.int .i64 (k2 : Int), .int .i64 o, .int .i64 f, .int .i64 m, .int .i64 g, .string s] 41)
        have cLa := fun u => refLast_any (k2 : Int) o f m g s u
        have HN2 : elFit R F ⟨k2, o, f, m, g, s⟩ = true → Hid (∀ j (hj : j < l.length), j < n + 1 → elFit R F l[j] = true) := fun ht => show ∀ _, _ from fun j hj h => by
          rcases Nat.lt_or_ge j n with h2 | h2
          · exact HN.out j hj h2
          · rw [show l[j] = l[n] from by congr 1; omega, HEL.out]; exact ht
        have HB2 : elFit R F ⟨k2, o, f, m, g, s⟩ = false → E = 3 := fun hf => HE3.out fun h => by
          have := h.2 _ (List.getElem_mem hlt)
          rw [HEL.out, hf] at this
          exact absurd this (by decide)
        rw [hE2] at HN2 HB2
        obtain ⟨e0, e1, e2, e3, e4, e5, hes⟩ := row6 he2
        have hwl : wr.heap.size < (wr.alloc (.cells #[.int .i64 (k2 : Int), .int .i64 o, .int .i64 f, .int .i64 m, .int .i64 g, .string s] 41)).heap.size := by simp
        clear hel hpp HEe hE2 he2 hp1 hp2
        rcases hbz with h | h | h
        · rw [h] at d1 HB2
          have E3 := HB2 rfl
          subst E3
          clear HB2 HN2 h
          go_wp2_with fail
          go_ret
          exact ⟨rfl, hu⟩
        · rw [h] at d1 HN2
          have HN3 := HN2 rfl
          clear HB2 HN2 h
          go_wp2_with fail
          go_roundw
          case rel => exact ⟨n + 1, by omega, by go_num, hu, HX2, HN3⟩
          case measure => simp [intOf]; omega
        · rw [h] at d1 HN2 HB2
          by_cases hz : lastOf m g ≤ gI F k2
          · have HN3 := HN2 (by rw [if_neg (by decide), if_pos rfl]; exact decide_eq_true hz)
            have bz : decide (gI F k2 < lastOf m g) = false := decide_eq_false (by omega)
            clear HB2 HN2 h hz
            generalize gI F k2 = z at *
            go_upto_region 17 with fail
            generalize (wr.alloc (.cells #[.int .i64 (k2 : Int), .int .i64 o, .int .i64 f, .int .i64 m, .int .i64 g, .string s] 41)) = v1 at *
            have hzl : w.heap.size < v1.heap.size := (Array.getElem?_eq_some_iff.1 HX2.out).1
            refine wp_region_plan [.val (.agg #[.int .i64 (k2 : Int), .int .i64 o, .int .i64 f, .int .i64 m, .int .i64 g, .string s]), .val (.int .i64 ((lastOf m g))), .val (.pointer (some ⟨wr.heap.size, 0, none⟩)), .val (.pointer (some ⟨wr.heap.size, 0, none⟩)), .val (.int .i64 ((k2 : Int))), .val (.pointer (some ⟨w.heap.size, 17, none⟩)), .val (.pointer (some ⟨w.heap.size, 17+k2, none⟩)), .val (.int .i64 (z)), .val (.bool false)] (by kernel_rfl) (by kernel_rfl) (by kernel_rfl) ?_
            intro X
            iterate 9
              refine plan_val (by kernel_rfl) (fun u hu => ?_) ?_
              · obtain ⟨hc, hf, hz⟩ := hu.of_drew.facts
                go_simp
                all_goals first
                  | ((go_at_call 30; exact refLast_any _ _ _ _ _ _ _))
                  | (omega)
                  | ((simp; done))
              simp only [Act.put, List.setIfInBounds_toArray, List.set_cons_zero, List.set_cons_succ, Nat.reduceAdd]
            refine plan_end ?_
            intro w' hB
            have hk := hB.calm.of_drew
            clear hB
            replace HX2 := Lib.hid ((hk.block (Array.getElem?_eq_some_iff.1 HX2.out).1).trans HX2.out)
            replace hu := hu.call hk
            clear hk d1 d2 e0 e1 e2 e3 e4 e5
            go_wp2_with fail
            go_roundw
            case rel => exact ⟨n + 1, by omega, by go_num, hu, HX2, HN3⟩
            case measure => simp [intOf]; omega
          · have E3 := HB2 (by rw [if_neg (by decide), if_pos rfl]; exact decide_eq_false hz)
            subst E3
            have bz : decide (gI F k2 < lastOf m g) = true := decide_eq_true (by omega)
            clear HB2 HN2 h hz
            generalize gI F k2 = z at *
            go_upto_region 17 with fail
            generalize (wr.alloc (.cells #[.int .i64 (k2 : Int), .int .i64 o, .int .i64 f, .int .i64 m, .int .i64 g, .string s] 41)) = v1 at *
            have hzl : w.heap.size < v1.heap.size := (Array.getElem?_eq_some_iff.1 HX2.out).1
            refine wp_region_plan [.val (.agg #[.int .i64 (k2 : Int), .int .i64 o, .int .i64 f, .int .i64 m, .int .i64 g, .string s]), .val (.int .i64 ((lastOf m g))), .val (.pointer (some ⟨wr.heap.size, 0, none⟩)), .val (.pointer (some ⟨wr.heap.size, 0, none⟩)), .val (.int .i64 ((k2 : Int))), .val (.pointer (some ⟨w.heap.size, 17, none⟩)), .val (.pointer (some ⟨w.heap.size, 17+k2, none⟩)), .val (.int .i64 (z)), .val (.bool true)] (by kernel_rfl) (by kernel_rfl) (by kernel_rfl) ?_
            intro X
            iterate 9
              refine plan_val (by kernel_rfl) (fun u hu => ?_) ?_
              · obtain ⟨hc, hf, hz⟩ := hu.of_drew.facts
                go_simp
                all_goals first
                  | ((go_at_call 30; exact refLast_any _ _ _ _ _ _ _))
                  | (omega)
                  | ((simp; done))
              simp only [Act.put, List.setIfInBounds_toArray, List.set_cons_zero, List.set_cons_succ, Nat.reduceAdd]
            refine plan_end ?_
            intro w' hB
            have hk := hB.calm.of_drew
            clear hB
            replace hu := hu.call hk
            clear hk d1 d2 e0 e1 e2 e3 e4 e5
            go_wp2_with fail
            go_ret
            exact ⟨rfl, hu⟩
    have c2 := RFH.out _ HX.out k hlt
    have r1 := fun u => index16 RL.toArray k _ hlt (HRk.out k hlt) u
    have hki : (k : Int) < 16 := by omega
    have hxl : w.heap.size < wr.heap.size := (Array.getElem?_eq_some_iff.1 HX.out).1
    have cb1 := fun u => between_any (gI R k) 2 u
    have cb2 := fun u => between_any (gI F k) 2147483647 u
    have hHK : fedFit (gI R k) (gI F k) = true → Hid (∀ j, j < k + 1 → fedFit (gI R j) (gI F j) = true) := fun ht => show ∀ _, _ from fun j hj => by
      rcases Nat.lt_or_ge j k with h | h
      · exact HK.out j h
      · rw [show j = k by omega]; exact ht
    have hHE : fedFit (gI R k) (gI F k) = false → E = 3 := fun hf => HE3.out fun h => by rw [h.1 k hlt] at hf; exact absurd hf (by decide)
    rw [fedFit_bad] at hHK hHE
    generalize gI R k = r at *
    generalize gI F k = z at *
    by_cases h1 : 0 ≤ r ∧ r ≤ 2
    rotate_left
    · rw [decide_eq_false h1] at cb1
      have E3 := hHE (by rw [decide_eq_false h1]; rfl)
      subst E3
      clear hHK hHE h1
      go_wp2_with (first
        | (go_at_call 29; (with_reducible refine (cb1 _).mono ?_); rintro e w1 ⟨rfl, rfl⟩))
      go_ret
      exact ⟨rfl, hu⟩
    rw [decide_eq_true h1] at cb1 hHK hHE
    by_cases h2 : 0 ≤ z ∧ z ≤ 2147483647
    rotate_left
    · rw [decide_eq_false h2] at cb2
      have E3 := hHE (by rw [decide_eq_false h2]; rfl)
      subst E3
      clear hHK hHE h1 h2
      go_wp2_with (first
        | (go_at_call 29; (with_reducible refine (cb1 _).mono ?_); rintro e w1 ⟨rfl, rfl⟩)
        | (go_at_call 29; (with_reducible refine (cb2 _).mono ?_); rintro e w1 ⟨rfl, rfl⟩))
      go_ret
      exact ⟨rfl, hu⟩
    rw [decide_eq_true h2] at cb2 hHK hHE
    by_cases h3 : z = 0
    · have HK2 := hHK (by rw [decide_eq_false (fun h => h.1 h3)]; rfl)
      clear hHK hHE h1 h2
      subst h3
      go_wp2_with (first
        | (go_at_call 29; (with_reducible refine (cb1 _).mono ?_); rintro e w1 ⟨rfl, rfl⟩)
        | (go_at_call 29; (with_reducible refine (cb2 _).mono ?_); rintro e w1 ⟨rfl, rfl⟩))
      go_roundw
      case rel => exact ⟨k + 1, by omega, by go_num, hu, HX, HK2⟩
      case measure => simp [intOf]; omega
    have bz := ne_rl h3
    by_cases h4 : r = 2
    · have HK2 := hHK (by rw [decide_eq_false (fun h => h.2 h4)]; rfl)
      clear hHK hHE h1 h2 h3
      subst h4
      go_wp2_with (first
        | (go_at_call 29; (with_reducible refine (cb1 _).mono ?_); rintro e w1 ⟨rfl, rfl⟩)
        | (go_at_call 29; (with_reducible refine (cb2 _).mono ?_); rintro e w1 ⟨rfl, rfl⟩))
      go_roundw
      case rel => exact ⟨k + 1, by omega, by go_num, hu, HX, HK2⟩
      case measure => simp [intOf]; omega
    · have E3 := hHE (by rw [decide_eq_true ⟨h3, h4⟩]; rfl)
      subst E3
      have br : (r != 2) = true := by simpa using h4
      clear hHK hHE h1 h2 h3 h4
      go_wp2_with (first
        | (go_at_call 29; (with_reducible refine (cb1 _).mono ?_); rintro e w1 ⟨rfl, rfl⟩)
        | (go_at_call 29; (with_reducible refine (cb2 _).mono ?_); rintro e w1 ⟨rfl, rfl⟩))
      go_ret
      exact ⟨rfl, hu⟩
open Go.ChangeShapes Go.WideShapes Go.ChangeAt Go.RowKit
theorem wpList_append_el3 {ops : Array Oper} {rest : List Oper} {o : Oper} {a : Act} {w : World} {Q : Exit → Act → World → Prop} (hgd : o.guard = none) (s x : Operand)
    (ho : o.op = .call { callee := .builtin .append, args := #[s, x], argTypes := #[22, 22] })
    (base : Nat) (v : Value) (l : List El) (hs : a.eval s = v) (hown : OwnR base w v l) (g t : Nat) (p o' f m gg : Int) (sv : ByteArray) (fr : Nat × Nat)
    (hx : a.eval x = .slice (some ⟨g, 0, none⟩) 1 1) (hg : w.heap[g]? = some (.cells #[.int .i64 p, .int .i64 o', .int .i64 f, .int .i64 m, .int .i64 gg, .string sv] t fr)) (hl : l.length ≤ 1000000) (hbase : base ≤ w.heap.size)
    (h : ∀ v' w', OwnR base w' v' (l ++ [⟨p, o', f, m, gg, sv⟩]) → w.grownBy w' v.ownBlock → (v'.ownBlock = v.ownBlock ∨ v'.ownBlock = some w.heap.size) → wpList Try.prog ops Q rest (a.put o.dst v') w') : wpList Try.prog ops Q (o :: rest) a w := by
  obtain ⟨i0, hi, hz0, hz1, hz2⟩ := info_parts infoElem
  refine wpList_append_own_at w hgd s x _ ho base 41 i0 _ 6 56 Try.underlying22 hi hz0 hz1 hz2 rfl (by decide) v _ _ hs hown ⟨g, 0, none⟩ 1 1 (El.cells ⟨p, o', f, m, gg, sv⟩) hx rfl (fun j u hj => ?_) (cells_one _) (by unfold maxLen; omega) (by omega) hbase fun v' w' h1 h2 _ h4 => ?_
  · have : (⟨g, 0, none⟩ : Addr).add j = ⟨g, j, none⟩ := by unfold Addr.add; split <;> simp_all
    rw [this, cell_of_row w g j _ t fr hg, ← hj]
    simp [El.cells]
  · refine h v' w' ?_ h2 h4
    unfold OwnR
    rw [List.length_append, cellsOf_snoc]
    exact h1
def Two (base : Nat) (w : World) (v1 v2 : Value) (l1 l2 : List El) : Prop := OwnR base w v1 l1 ∧ OwnR base w v2 l2 ∧ ∀ g, v1.ownBlock = some g → v2.ownBlock ≠ some g
theorem Two.calm {base : Nat} {w w' : World} {v1 v2 : Value} {l1 l2 : List El} (h : Two base w v1 v2 l1 l2) (hb : Calm w w') : Two base w' v1 v2 l1 l2 := ⟨h.1.calm hb, h.2.1.calm hb, h.2.2⟩
theorem Two.first {base : Nat} {w w' : World} {v1 v2 v' : Value} {l1 l2 l : List El} (h : Two base w v1 v2 l1 l2) (h1 : OwnR base w' v' l) (h2 : w.grownBy w' v1.ownBlock) (h4 : v'.ownBlock = v1.ownBlock ∨ v'.ownBlock = some w.heap.size) : Two base w' v' v2 l l2 := by
 obtain ⟨a, b, c⟩ := h
 refine ⟨h1, World.ownsRow.kept b h2 ?_, fun g hg => ?_⟩
 ·rcases hv : v2.ownBlock with _ | k
  ·exact .inl rfl
  ·right
   rcases hv1 : v1.ownBlock with _ | k1
   ·simp
   ·intro e
    injection e with e
    exact c k1 hv1 (by rw [hv, e])
 ·rcases h4 with h4 | h4
  ·exact c g (h4 ▸ hg)
  ·intro e
   have := (b.lt g e).2
   rw [h4] at hg
   injection hg with hg
   omega
theorem Two.swap {base : Nat} {w : World} {v1 v2 : Value} {l1 l2 : List El} (h : Two base w v1 v2 l1 l2) : Two base w v2 v1 l2 l1 := ⟨h.2.1, h.1, fun g hg e => h.2.2 g e hg⟩
theorem Two.nil (base : Nat) (w : World) : Two base w (.slice none 0 0) (.slice none 0 0) [] [] := ⟨OwnR.nil _ _, OwnR.nil _ _, fun g hg => by cases hg⟩
theorem mineL_take {l : List El} {k : Nat} {e : El} (h : l[k]? = some e) (p : Int) : mineL (l.take (k + 1)) p = mineL (l.take k) p ++ if e.p = p then [e] else [] := by
 unfold mineL
 rw [take_snoc3 h, List.filter_append]
 congr 1
 by_cases h1 : e.p = p
 ·rw [if_pos h1, List.filter_cons_of_pos (by simpa using h1)]; rfl
 ·rw [if_neg h1, List.filter_cons_of_neg (by simpa using h1)]; rfl
theorem otherL_take {l : List El} {k : Nat} {e : El} (h : l[k]? = some e) (p : Int) : otherL (l.take (k + 1)) p = otherL (l.take k) p ++ if e.p = p then [] else [e] := by
 unfold otherL
 rw [take_snoc3 h, List.filter_append]
 congr 1
 by_cases h1 : e.p = p
 ·rw [if_pos h1, List.filter_cons_of_neg (by simpa using h1)]; rfl
 ·rw [if_neg h1, List.filter_cons_of_pos (by simpa using h1)]; rfl
def RmEnd (l : List El) (p : Int) (w : World) (e : Ending) (w' : World) : Prop := ∃ v1 v2, e = .returned (.tuple #[v1, v2]) ∧ Two w.heap.size w' v1 v2 (mineL l p) (otherL l p) ∧ Calm w w'
set_option maxHeartbeats 4000000 in
theorem refRealm_any (A : Option Addr) (c : Nat) (l : List El) (p : Int) (w : World) (hn : l.length ≤ 400) (hL : Lies w A l) :
    Calls Try.prog 13 #[.slice A l.length c, .int .i64 p] w (RmEnd l p w) := by
  go_enter Try.func13, Try.ntmps13
  go_wp2_with fail
  go_loopw [4, 5, 10] (fun m1 m2 i wr => ∃ k : Nat, k ≤ l.length ∧ i = .int .i64 k ∧ Calm w wr ∧ Hid (Two w.heap.size wr m1 m2 (mineL (l.take k) p) (otherL (l.take k) p))) (fun _ _ i _ => l.length - (intOf i).toNat)
  case atStart => exact ⟨0, Nat.zero_le _, rfl, Calm.refl _, show Two _ _ _ _ _ _ from Two.nil _ _⟩
  case round =>
    obtain ⟨k, hk, rfl, hu, HT⟩ := hrel
    by_cases hlt : k < l.length
    rotate_left
    · have HT2 := HT.out
      rw [List.take_of_length_le (by omega)] at HT2
      have HT3 := Lib.hid HT2
      clear HT2
      go_wp2_with fail
      go_ret2
      exact ⟨_, _, rfl, HT3.out, hu⟩
    obtain ⟨b, q, p1, o, f, m, g, s, rfl, hb, HE, hm, c0, c1, c2, c3, c4, c5⟩ := (hL.calm hu).get hlt
    have hs := hu.size
    have hM := mineL_take HE.out p
    have hO := otherL_take HE.out p
    simp only at hM hO
    have hl1 : (mineL (l.take k) p).length ≤ 1000000 := Nat.le_trans (List.length_filter_le _ _) (by rw [List.length_take]; omega)
    have hl2 : (otherL (l.take k) p).length ≤ 1000000 := Nat.le_trans (List.length_filter_le _ _) (by rw [List.length_take]; omega)
    have HT0 := Lib.hid (HT.out.calm (((Calm.refl wr).alloc (.cells #[.int .i64 p1, .int .i64 o, .int .i64 f, .int .i64 m, .int .i64 g, .string s] 41)).alloc (.cells #[.int .i64 p1, .int .i64 o, .int .i64 f, .int .i64 m, .int .i64 g, .string s] 41)))
    have hu2 := (hu.alloc (.cells #[.int .i64 p1, .int .i64 o, .int .i64 f, .int .i64 m, .int .i64 g, .string s] 41)).alloc (.cells #[.int .i64 p1, .int .i64 o, .int .i64 f, .int .i64 m, .int .i64 g, .string s] 41)
    have HM := Lib.hid hM
    have HO := Lib.hid hO
    have HL1 := Lib.hid hl1
    have HL2 := Lib.hid hl2
    clear HE hM hO hl1 hl2 HT
    by_cases h1 : p1 = p
    · subst h1
      rw [if_pos rfl] at HM HO
      go_wp2_with (at_builtin; refine wpList_append_el3 rfl _ _ rfl w.heap.size _ _ rfl HT0.out.1 _ _ p1 o f m g s _ rfl (two_new _ _ _) HL1.out (by simp; omega) ?_; intro v' w9 ho9 hg9 hc9; have HT9 := Lib.hid (HT0.out.first ho9 hg9 hc9); have hu9 := hu2.grown (Nat.le_refl _) HT0.out.1 hg9; clear ho9 hg9 hc9)
      go_roundw
      case rel => exact ⟨k + 1, by omega, by go_num, hu9, show Two _ _ _ _ _ _ from by rw [HM.out, HO.out, List.append_nil]; exact HT9.out⟩
      case measure => simp [intOf]; omega
    · have b1 : (p1 == p) = false := by simpa using h1
      rw [if_neg h1] at HM HO
      clear h1
      go_wp2_with (at_builtin; refine wpList_append_el3 rfl _ _ rfl w.heap.size _ _ rfl HT0.out.2.1 _ _ p1 o f m g s _ rfl (two_new _ _ _) HL2.out (by simp; omega) ?_; intro v' w9 ho9 hg9 hc9; have HT9 := Lib.hid (HT0.out.swap.first ho9 hg9 hc9).swap; have hu9 := hu2.grown (Nat.le_refl _) HT0.out.2.1 hg9; clear ho9 hg9 hc9)
      go_roundw
      case rel => exact ⟨k + 1, by omega, by go_num, hu9, show Two _ _ _ _ _ _ from by rw [HM.out, HO.out, List.append_nil]; exact HT9.out⟩
      case measure => simp [intOf]; omega
open Go.ChangeShapes Go.WideShapes Go.ChangeAt Go.RowKit
theorem bk_setRole {A : Option Addr} {n c k : Nat} {R F : List Int} (r : Int) (hR : R.length = 16) (hk : k < 16) : (bkC A n c R F).toArray.setIfInBounds (1 + k) (.int .i64 r) = (bkC A n c (R.set k r) F).toArray := by
 apply Array.toList_inj.1
 simp only [Array.toList_setIfInBounds, List.toList_toArray]
 unfold bkC
 rw [Nat.add_comm 1 k, List.set_cons_succ, List.set_append_left _ _ (by rw [List.length_map]; omega), List.map_set]
theorem bk_setFed {A : Option Addr} {n c k : Nat} {R F : List Int} (f : Int) (hR : R.length = 16) : (bkC A n c R F).toArray.setIfInBounds (17 + k) (.int .i64 f) = (bkC A n c R (F.set k f)).toArray := by
 apply Array.toList_inj.1
 simp only [Array.toList_setIfInBounds, List.toList_toArray]
 unfold bkC
 rw [show 17 + k = (16 + k) + 1 by omega, List.set_cons_succ, List.set_append_right _ _ (by rw [List.length_map]; omega), List.length_map, hR, Nat.add_sub_cancel_left, List.map_set]
theorem Box.setRole {u : World} {g k : Nat} {A : Option Addr} {n c : Nat} {R F : List Int} (h : Box u g (bkC A n c R F)) (r : Int) (hR : R.length = 16) (hk : k < 16) : Box (u.setCell ⟨g, 1 + k, none⟩ (.int .i64 r)) g (bkC A n c (R.set k r) F) := by
 have h1 := heap_setCell_same u g (1 + k) _ _ (Value.int .i64 r) h
 rw [bk_setRole r hR hk] at h1
 exact h1
theorem Box.setFed {u : World} {g k : Nat} {A : Option Addr} {n c : Nat} {R F : List Int} (h : Box u g (bkC A n c R F)) (f : Int) (hR : R.length = 16) : Box (u.setCell ⟨g, 17 + k, none⟩ (.int .i64 f)) g (bkC A n c R (F.set k f)) := by
 have h1 := heap_setCell_same u g (17 + k) _ _ (Value.int .i64 f) h
 rw [bk_setFed f hR] at h1
 exact h1
theorem Box.far {u : World} {g g' o : Nat} {CL : List Value} (h : Box u g CL) (hne : g ≠ g') (v : Value) : Box (u.setCell ⟨g', o, none⟩ v) g CL := (Below.heap_setCell _ _ _ _ hne).trans h
theorem Box.fed {u : World} {g k : Nat} {A : Option Addr} {n c : Nat} {R F : List Int} (h : Box u g (bkC A n c R F)) (hR : R.length = 16) (hF : F.length = 16) (hk : k < 16) : u.cell? ⟨g, 17 + k, none⟩ = some (.int .i64 (gI F k)) := (cell_of_row _ _ (17 + k) _ _ _ h).trans (bk_fed hR hF hk)
theorem Box.free {u : World} {g : Nat} {CL : List Value} (h : Box u g CL) (j : Nat) : u.frozen? ⟨g, j, none⟩ = false := frozen_of_row _ _ _ _ _ h
theorem Box.lt {u : World} {g : Nat} {CL : List Value} (h : Box u g CL) : g < u.heap.size := (Array.getElem?_eq_some_iff.1 h).1
theorem Box.run {u : World} {g : Nat} {A : Option Addr} {n c : Nat} {R F : List Int} (h : Box u g (bkC A n c R F)) : u.cell? ⟨g, 0, none⟩ = some (.slice A n c) := (cell_of_row _ _ 0 _ _ _ h).trans rfl
theorem quiet_load {P : Program} {S : World → Prop} {o : Oper} {a : Act} {u : World} (ty : TypeId) (x : Operand) (ho : o.op = .load ty x) (b : Nat) (hx : a.eval x = .pointer (some ⟨b, 0, none⟩)) (cs : List Value) (d : TypeDesc) (hc : u.rangeAt b 0 cs)
    (hu : P.underlying ty = some d) (hd : d.isRow = true) (hi : (P.info? ty).map (·.size) = some cs.length) (hS : S u) : Oper.quietUpon P S u (.agg cs.toArray) ((execOp a.eval o).run P u) := by
  unfold execOp
  simp only [ho, hx, Instr.loadAt, Instr.sureAddr, Sem.run_bind, Sem.run_pure, Result.andThen_ok, run_loadVar_mid u b 0 ty cs d hc hu hd hi]
  exact ⟨rfl, rfl⟩
structure DwS (w1 : World) (g : Nat) (A : Option Addr) (n c : Nat) (R F : List Int) (k : Nat) (r T : Int) (f : Nat → Bool) (u : World) : Prop where
 row : Box u g (bkC A n c (if f 6 then R.set k r else R) (if f 9 then F.set k T else F))
 k : ∀ w0 : World, w0.heap.size ≤ g → Calm w0 w1 → Calm w0 u
 others : ∀ j, j < w1.heap.size → j ≠ g → u.heap[j]? = w1.heap[j]?
 size : w1.heap.size ≤ u.heap.size
section
variable {w1 : World} {g : Nat} {A : Option Addr} {n c : Nat} {R F : List Int} {k : Nat} {r T : Int} {f : Nat → Bool} {u : World}
theorem DwS.stay {u' : World} (h : DwS w1 g A n c R F k r T f u) (hb : Calm u u') : DwS w1 g A n c R F k r T f u' where
 row := h.row.calm hb
 k w0 h0 h1 := (h.k w0 h0 h1).call hb
 others j hj hx := (hb.block (Nat.lt_of_lt_of_le hj h.size)).trans (h.others j hj hx)
 size := Nat.le_trans h.size hb.size
theorem DwS.do6 (h : DwS w1 g A n c R F k r T f u) (hR : R.length = 16) (hk : k < 16) (hf : f 6 = false) : DwS w1 g A n c R F k r T (updB f 6) (u.setCell ⟨g, 1 + k, none⟩ (.int .i64 r)) where
 row := by
  have h1 := h.row
  rw [hf] at h1
  have h2 := Box.setRole h1 r hR hk
  simpa [updB] using h2
 k w0 h0 h1 := (h.k w0 h0 h1).setCell (p := ⟨g, 1 + k, none⟩) h0 _
 others j hj hx := (Below.heap_setCell _ _ _ _ hx).trans (h.others j hj hx)
 size := by have := h.size; simpa [World.setCell] using this
theorem DwS.do9 (h : DwS w1 g A n c R F k r T f u) (hR : R.length = 16) (hf : f 9 = false) : DwS w1 g A n c R F k r T (updB f 9) (u.setCell ⟨g, 17 + k, none⟩ (.int .i64 T)) where
 row := by
  have h1 := h.row
  rw [hf] at h1
  have h2 := Box.setFed (k := k) h1 T (by split <;> simp [hR])
  simpa [updB] using h2
 k w0 h0 h1 := (h.k w0 h0 h1).setCell (p := ⟨g, 17 + k, none⟩) h0 _
 others j hj hx := (Below.heap_setCell _ _ _ _ hx).trans (h.others j hj hx)
 size := by have := h.size; simpa [World.setCell] using this
end
def DwT (w1 : World) (g : Nat) (A : Option Addr) (n c : Nat) (R F : List Int) (k : Nat) (r T : Int) : Stages := fun bs _ u => ∃ f, bs = [6, 9].map f ∧ DwS w1 g A n c R F k r T f u
section
variable {w1 : World} {g : Nat} {A : Option Addr} {n c : Nat} {R F : List Int} {k : Nat} {r T : Int} {u : World}
theorem DwT.stay : ∀ bs Y u u', DwT w1 g A n c R F k r T bs Y u → Calm u u' → DwT w1 g A n c R F k r T bs Y u' := fun _ _ _ _ ⟨f, h1, h2⟩ hb => ⟨f, h1, h2.stay hb⟩
theorem DwT.start (Y : Nat → Value) (hz : Box w1 g (bkC A n c R F)) (h : Calm w1 u) : DwT w1 g A n c R F k r T ([6, 9].map fun _ => false) Y u :=
 ⟨fun _ => false, rfl, hz.calm h, fun _ _ k => k.call h, fun _ hj _ => h.block hj, h.size⟩
theorem DwT.get {G : Nat → Bool} {Y : Nat → Value} (h : DwT w1 g A n c R F k r T ([6, 9].map G) Y u) : DwS w1 g A n c R F k r T G u := by
 obtain ⟨f, hf, h⟩ := h
 simp only [List.map_cons, List.map_nil, List.cons.injEq, and_true] at hf
 obtain ⟨e5, e7⟩ := hf
 exact ⟨by rw [e5, e7]; exact h.row, h.k, h.others, h.size⟩
end
/-- told, whichever way it went. -/
theorem told_any (A1 A2 : Option Addr) (c1 c2 : Nat) (E : Int) (L l : List El) (R1 F1 R F : List Int) (w : World) (hn : l.length ≤ 9223372036854775807) (h1 : Lies w A1 L) (h2 : Lies w A2 l) (hR : R.length = 16) (hF : F.length = 16)
    (h : (E ≠ 0 ∧ L = [] ∧ R1 = z16 ∧ F1 = z16) ∨ (E = 0 ∧ L = l ∧ R1 = R ∧ F1 = F)) :
    Calls Try.prog 12 #[.agg (bkC A1 L.length c1 R1 F1).toArray, .int .i64 E, .agg (bkC A2 l.length c2 R F).toArray, .int .i64 E] w fun e w' => e = .returned (.bool true) ∧ Calm w w' := by
  rcases h with ⟨hE, rfl, rfl, rfl⟩ | ⟨rfl, rfl, rfl, rfl⟩
  · exact told_err A1 A2 c1 c2 E l.length R F w hE hR hF
  · exact told_ok A1 A2 c1 c2 L R1 F1 w hn h1 h2 hR hF
end Go.Proofs.Ytcjndjabhhpheaa
