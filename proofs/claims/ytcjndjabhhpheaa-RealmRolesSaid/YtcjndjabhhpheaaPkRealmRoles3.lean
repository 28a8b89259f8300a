/- Texts of one kind in one file. -/
import Derived.Test.YtcjndjabhhpheaaPkRealmRoles2
set_option maxRecDepth 100000
namespace Go.Proofs.Ytcjndjabhhpheaa
open Go.ChangeShapes Go.WideShapes Go.ChangeAt Go.RowKit
theorem Lies.others {u u' : World} {A : Option Addr} {l : List El} {g : Nat} (h : Lies u A l) (hne : ∀ b q, A = some ⟨b, q, none⟩ → b ≠ g) (ho : ∀ j, j < u.heap.size → j ≠ g → u'.heap[j]? = u.heap[j]?) : Lies u' A l := by
 refine ⟨h.1, fun hp => ?_⟩
 obtain ⟨b, q, hA, hlt, hk⟩ := h.2 hp
 have hb := ho b hlt (hne b q hA)
 have key : ∀ j, u'.cell? ⟨b, j, none⟩ = u.cell? ⟨b, j, none⟩ := fun j => by
  simp only [World.cell?, hb]
 refine ⟨b, q, hA, ?_, fun k e he => ?_⟩
 ·rcases Nat.lt_or_ge b u'.heap.size with h1 | h1
  ·exact h1
  ·rw [Array.getElem?_eq_none h1, Array.getElem?_eq_getElem hlt] at hb; cases hb
 ·obtain ⟨e0, e1, e2, e3, e4, e5⟩ := hk k e he
  exact ⟨(key _).trans e0, (key _).trans e1, (key _).trans e2, (key _).trans e3, (key _).trans e4, (key _).trans e5⟩
theorem mine_len {l : List El} (p : Int) : (mineL l p).length ≤ l.length := by unfold mineL; exact List.length_filter_le _ _
/-- What a change of a book answers, if it goes by an error. -/
theorem bkEnd_if {E : Int} {l : List El} {R F : List Int} {w w' : World} {e : Ending} (hw : E = 0 → ∀ e ∈ l, e.wf) (h : BkEnd E (if E = 0 then l else []) (if E = 0 then R else z16) (if E = 0 then F else z16) w e w') : ∃ A c, e = .returned (.tuple #[.agg (bkC A (if E = 0 then l else []).length c (if E = 0 then R else z16) (if E = 0 then F else z16)).toArray, .int .i64 E]) ∧ Lies w' A (if E = 0 then l else []) ∧ Calm w w' := by
 obtain ⟨A, c, h1, _, h3, _, h4⟩ := bkEnd_good (fun e he => by
  by_cases hE : E = 0
  ·rw [if_pos hE] at he; exact hw hE e he
  ·rw [if_neg hE] at he; exact absurd he (by simp)) h
 exact ⟨A, c, h1, h3, h4⟩
theorem len_if {E : Int} {R : List Int} (hR : R.length = 16) : (if E = 0 then R else z16).length = 16 := by split <;> first | exact hR | rfl
theorem good_bk {l : List El} {R F : List Int} (h : bkErr l R F = 0) : ∀ e ∈ l, e.wf := (bkErr_zero h).1.wf
set_option maxHeartbeats 16000000 in
theorem realmRoles_walk (A : Option Addr) (c : Nat) (l : List El) (R F : List Int) (p r : Int) (w : World) (hn : l.length ≤ 9223372036854775807) (hlc : l.length ≤ c) (hL : Lies w A l) (hR : R.length = 16) (hF : F.length = 16) :
    Calls Try.prog 3 #[.agg (bkC A l.length c R F).toArray, .int .i64 p, .int .i64 r] w fun e w' => e = .returned (.bool true) ∧ Calm w w' := by
  have cM := fun u (hu : Calm w u) => (realmMake_any A c l R F p r u hn (hL.calm hu) hR hF).mono fun e w' h => bkEnd_if (fun h => good_bk (mkErr_zero h).1) h
  have cU := fun u (hu : Calm w u) => (realmUp_any A c l R F p u hn (hL.calm hu) hR hF).mono fun e w' h => bkEnd_if (fun h => good_bk (roleErr_zero h).1) h
  have cD := fun u (hu : Calm w u) => (realmDown_any A c l R F p u hn hlc (hL.calm hu) hR hF).mono fun e w' h => bkEnd_if (fun h => good_bk (roleErr_zero h).1) h
  have cB := fun u (hu : Calm w u) => refBook_any A c l R F u hn (hL.calm hu) hR hF
  have cC := fun u (hu : Calm w u) => realmCheck_any A c l R F u hn (hL.calm hu) hR hF
  obtain ⟨Lx, hLx⟩ : ∃ L, L = if mkErr l R F p r = 0 then l else [] := ⟨_, rfl⟩
  obtain ⟨Rx, hRx'⟩ : ∃ L, L = if mkErr l R F p r = 0 then R.set p.toNat r else z16 := ⟨_, rfl⟩
  obtain ⟨Fx, hFx'⟩ : ∃ L, L = if mkErr l R F p r = 0 then F.set p.toNat 0 else z16 := ⟨_, rfl⟩
  obtain ⟨Ly, hLy⟩ : ∃ L, L = if roleErr l R F p 2 = 0 then l else [] := ⟨_, rfl⟩
  obtain ⟨Ry, hRy'⟩ : ∃ L, L = if roleErr l R F p 2 = 0 then R.set p.toNat 1 else z16 := ⟨_, rfl⟩
  obtain ⟨Fy, hFy'⟩ : ∃ L, L = if roleErr l R F p 2 = 0 then F.set p.toNat 0 else z16 := ⟨_, rfl⟩
  obtain ⟨Lz, hLz⟩ : ∃ L, L = if roleErr l R F p 1 = 0 then l else [] := ⟨_, rfl⟩
  obtain ⟨Rz, hRz'⟩ : ∃ L, L = if roleErr l R F p 1 = 0 then R.set p.toNat 2 else z16 := ⟨_, rfl⟩
  obtain ⟨Fz, hFz'⟩ : ∃ L, L = if roleErr l R F p 1 = 0 then F.set p.toNat (latest (mineL l p)) else z16 := ⟨_, rfl⟩
  have hRx : Rx.length = 16 := by rw [hRx']; exact len_if (by rw [List.length_set, hR])
  have hFx : Fx.length = 16 := by rw [hFx']; exact len_if (by rw [List.length_set, hF])
  have hRy : Ry.length = 16 := by rw [hRy']; exact len_if (by rw [List.length_set, hR])
  have hFy : Fy.length = 16 := by rw [hFy']; exact len_if (by rw [List.length_set, hF])
  have hRz : Rz.length = 16 := by rw [hRz']; exact len_if (by rw [List.length_set, hR])
  have hFz : Fz.length = 16 := by rw [hFz']; exact len_if (by rw [List.length_set, hF])
  rw [← hLx, ← hRx', ← hFx'] at cM
  rw [← hLy, ← hRy', ← hFy'] at cU
  rw [← hLz, ← hRz', ← hFz'] at cD
  have H0 : Box (w.alloc (.cells (bkC A l.length c R F).toArray 25)) w.heap.size (bkC A l.length c R F) := Box.new w _
  have hu := (Calm.refl w).alloc (.cells (bkC A l.length c R F).toArray 25)
  by_cases hV : bkErr l R F = 0 ∧ 0 ≤ p ∧ p ≤ 15
  rotate_left
  · have hW : ∃ W, W ≠ 0 ∧ mkErr l R F p r = W ∧ roleErr l R F p 2 = W ∧ roleErr l R F p 1 = W ∧ ((bkErr l R F = W ∧ (W == 0) = false ∧ (W != 0) = true) ∨ (bkErr l R F = 0 ∧ W = 1 ∧ (p < 0 ∨ (¬ p < 0 ∧ 15 < p)))) := by
      unfold mkErr roleErr
      by_cases hB : bkErr l R F = 0
      · refine ⟨1, by decide, ?_, ?_, ?_, .inr ⟨hB, rfl, by omega⟩⟩
        · rw [if_pos hB, if_neg (by omega)]
        · rw [if_pos hB, if_neg (by omega)]
        · rw [if_pos hB, if_neg (by omega)]
      · exact ⟨_, hB, if_neg hB, if_neg hB, if_neg hB, .inl ⟨rfl, by simpa using hB, by simpa using hB⟩⟩
    obtain ⟨W, hW0, e1, e2, e3, hcs⟩ := hW
    have cT1 : ∀ A1 c1 u, Calls Try.prog 12 #[.agg (bkC A1 0 c1 z16 z16).toArray, .int .i64 W, .agg #[.slice none 0 0, .int .i64 0, .int .i64 0, .int .i64 0, .int .i64 0, .int .i64 0, .int .i64 0, .int .i64 0, .int .i64 0, .int .i64 0, .int .i64 0, .int .i64 0, .int .i64 0, .int .i64 0, .int .i64 0, .int .i64 0, .int .i64 0, .int .i64 0, .int .i64 0, .int .i64 0, .int .i64 0, .int .i64 0, .int .i64 0, .int .i64 0, .int .i64 0, .int .i64 0, .int .i64 0, .int .i64 0, .int .i64 0, .int .i64 0, .int .i64 0, .int .i64 0, .int .i64 0], .int .i64 W] u fun e w' => e = .returned (.bool true) ∧ Calm u w' := fun A1 c1 u => by
      rw [zb_eq]
      exact told_err A1 none c1 0 W 0 z16 z16 u hW0 rfl rfl
    have n1 : Lx = [] := by rw [hLx, e1, if_neg hW0]
    have n2 : Rx = z16 := by rw [hRx', e1, if_neg hW0]
    have n3 : Fx = z16 := by rw [hFx', e1, if_neg hW0]
    have n4 : Ly = [] := by rw [hLy, e2, if_neg hW0]
    have n5 : Ry = z16 := by rw [hRy', e2, if_neg hW0]
    have n6 : Fy = z16 := by rw [hFy', e2, if_neg hW0]
    have n7 : Lz = [] := by rw [hLz, e3, if_neg hW0]
    have n8 : Rz = z16 := by rw [hRz', e3, if_neg hW0]
    have n9 : Fz = z16 := by rw [hFz', e3, if_neg hW0]
    rw [e1] at cM
    rw [e2] at cU
    rw [e3] at cD
    clear hLx hRx' hFx' hLy hRy' hFy' hLz hRz' hFz' e1 e2 e3 hV
    subst n1 n2 n3 n4 n5 n6 n7 n8 n9
    rcases hcs with ⟨hB, b1, b2⟩ | ⟨hB, rfl, hp⟩
    · rw [hB] at cB cC
      clear hB
      go_enter Try.func3, Try.ntmps3
      go_upto_region 1 with fail
      generalize (w.alloc (.cells (bkC A l.length c R F).toArray 25)) = v0 at H0 hu ⊢
      go_upto_region 2 with (first
        | (refine wpList_load_mid rfl 25 (.tmp 3) rfl w.heap.size 0 rfl (bkC A l.length c R F) _ (range_all H0) Try.underlying25 rfl (bkJ hR hF) ?_)
        | (go_at_call 7; (with_reducible refine (cM _ hu).mono ?_); rintro e w1 ⟨Ax, cx, rfl, hlAx, hb1⟩; have HAx := Lib.hid hlAx; replace H0 := H0.calm hb1; replace hu := hu.call hb1; clear hb1 cM hlAx)
        | (refine wpList_store_fresh rfl 25 (.tmp 7) (.tmp 27) rfl 25 _ _ rfl rfl (bkS hRx hFx) (bkZ hRx hFx) bk_one ?_))
      have H7 := Box.new w1 (bkC Ax 0 cx z16 z16)
      replace H0 := H0.calm ((Calm.refl _).alloc (.cells (bkC Ax 0 cx z16 z16).toArray 25))
      replace HAx := Lib.hid (HAx.out.calm ((Calm.refl _).alloc (.cells (bkC Ax 0 cx z16 z16).toArray 25)))
      replace hu := hu.alloc (.cells (bkC Ax 0 cx z16 z16).toArray 25)
      generalize w1.heap.size = g7 at *
      generalize (w1.alloc (.cells (bkC Ax 0 cx z16 z16).toArray 25)) = v1 at H0 H7 HAx hu ⊢
      go_upto_region 3 with (first
        | (refine wpList_load_mid rfl 25 (.tmp 3) rfl w.heap.size 0 rfl (bkC A l.length c R F) _ (range_all H0) Try.underlying25 rfl (bkJ hR hF) ?_)
        | (go_at_call 8; (with_reducible refine (cU _ hu).mono ?_); rintro e w2 ⟨Ay, cy, rfl, hlAy, hb2⟩; have HAy := Lib.hid hlAy; replace H0 := H0.calm hb2; replace H7 := H7.calm hb2; replace HAx := Lib.hid (HAx.out.calm hb2); replace hu := hu.call hb2; clear hb2 cU hlAy)
        | (refine wpList_store_fresh rfl 25 (.tmp 9) (.tmp 33) rfl 25 _ _ rfl rfl (bkS hRy hFy) (bkZ hRy hFy) bk_one ?_))
      have H9 := Box.new w2 (bkC Ay 0 cy z16 z16)
      replace H0 := H0.calm ((Calm.refl _).alloc (.cells (bkC Ay 0 cy z16 z16).toArray 25))
      replace H7 := H7.calm ((Calm.refl _).alloc (.cells (bkC Ay 0 cy z16 z16).toArray 25))
      replace HAx := Lib.hid (HAx.out.calm ((Calm.refl _).alloc (.cells (bkC Ay 0 cy z16 z16).toArray 25)))
      replace HAy := Lib.hid (HAy.out.calm ((Calm.refl _).alloc (.cells (bkC Ay 0 cy z16 z16).toArray 25)))
      replace hu := hu.alloc (.cells (bkC Ay 0 cy z16 z16).toArray 25)
      generalize w2.heap.size = g9 at *
      generalize (w2.alloc (.cells (bkC Ay 0 cy z16 z16).toArray 25)) = v2 at H0 H7 H9 HAx HAy hu ⊢
      go_upto_region 4 with (first
        | (refine wpList_load_mid rfl 25 (.tmp 3) rfl w.heap.size 0 rfl (bkC A l.length c R F) _ (range_all H0) Try.underlying25 rfl (bkJ hR hF) ?_)
        | (go_at_call 9; (with_reducible refine (cD _ hu).mono ?_); rintro e w3 ⟨Az, cz, rfl, hlAz, hb3⟩; have HAz := Lib.hid hlAz; replace H0 := H0.calm hb3; replace H7 := H7.calm hb3; replace H9 := H9.calm hb3; replace HAx := Lib.hid (HAx.out.calm hb3); replace HAy := Lib.hid (HAy.out.calm hb3); replace hu := hu.call hb3; clear hb3 cD hlAz)
        | (refine wpList_store_fresh rfl 25 (.tmp 11) (.tmp 39) rfl 25 _ _ rfl rfl (bkS hRz hFz) (bkZ hRz hFz) bk_one ?_))
      have H11 := Box.new w3 (bkC Az 0 cz z16 z16)
      replace H0 := H0.calm ((Calm.refl _).alloc (.cells (bkC Az 0 cz z16 z16).toArray 25))
      replace H7 := H7.calm ((Calm.refl _).alloc (.cells (bkC Az 0 cz z16 z16).toArray 25))
      replace H9 := H9.calm ((Calm.refl _).alloc (.cells (bkC Az 0 cz z16 z16).toArray 25))
      replace HAx := Lib.hid (HAx.out.calm ((Calm.refl _).alloc (.cells (bkC Az 0 cz z16 z16).toArray 25)))
      replace HAy := Lib.hid (HAy.out.calm ((Calm.refl _).alloc (.cells (bkC Az 0 cz z16 z16).toArray 25)))
      replace HAz := Lib.hid (HAz.out.calm ((Calm.refl _).alloc (.cells (bkC Az 0 cz z16 z16).toArray 25)))
      replace hu := hu.alloc (.cells (bkC Az 0 cz z16 z16).toArray 25)
      generalize w3.heap.size = g11 at *
      generalize (w3.alloc (.cells (bkC Az 0 cz z16 z16).toArray 25)) = v3 at H0 H7 H9 H11 HAx HAy HAz hu ⊢
      go_upto_region 7 with (first
        | (refine wpList_load_mid rfl 25 (.tmp 3) rfl w.heap.size 0 rfl (bkC A l.length c R F) _ (range_all H0) Try.underlying25 rfl (bkJ hR hF) ?_)
        | (go_at_call 10; (with_reducible refine (cB _ hu).mono ?_); rintro e w4 ⟨rfl, hb4⟩; replace H0 := H0.calm hb4; replace H7 := H7.calm hb4; replace H9 := H9.calm hb4; replace H11 := H11.calm hb4; replace HAx := Lib.hid (HAx.out.calm hb4); replace HAy := Lib.hid (HAy.out.calm hb4); replace HAz := Lib.hid (HAz.out.calm hb4); replace hu := hu.call hb4; clear hb4 cB)
        | (go_at_call 11; (with_reducible refine (cC _ hu).mono ?_); rintro e w5 ⟨rfl, hb5⟩; replace H0 := H0.calm hb5; replace H7 := H7.calm hb5; replace H9 := H9.calm hb5; replace H11 := H11.calm hb5; replace HAx := Lib.hid (HAx.out.calm hb5); replace HAy := Lib.hid (HAy.out.calm hb5); replace HAz := Lib.hid (HAz.out.calm hb5); replace hu := hu.call hb5; clear hb5 cC))
      go_wp2_with (first
        | (refine wpList_load_mid rfl 25 (.tmp 7) rfl g7 0 rfl (bkC Ax 0 cx z16 z16) _ (range_all H7) Try.underlying25 rfl (bkJ hRx hFx) ?_)
        | (refine wpList_bareB (by kernel_rfl) ?_; refine wpList_load_mid rfl 25 (.tmp 9) rfl g9 0 rfl (bkC Ay 0 cy z16 z16) _ (range_all H9) Try.underlying25 rfl (bkJ hRy hFy) ?_)
        | (refine wpList_bareB (by kernel_rfl) ?_; refine wpList_load_mid rfl 25 (.tmp 11) rfl g11 0 rfl (bkC Az 0 cz z16 z16) _ (range_all H11) Try.underlying25 rfl (bkJ hRz hFz) ?_)
        | (go_at_call 12; (with_reducible refine (cT1 _ _ _).mono ?_); rintro e w6 ⟨rfl, hb6⟩; replace H0 := H0.calm hb6; replace H7 := H7.calm hb6; replace H9 := H9.calm hb6; replace H11 := H11.calm hb6; replace hu := hu.call hb6; clear hb6))
      go_ret
      exact ⟨rfl, hu⟩
    · rw [hB] at cB cC
      clear hB
      go_enter Try.func3, Try.ntmps3
      go_upto_region 1 with fail
      generalize (w.alloc (.cells (bkC A l.length c R F).toArray 25)) = v0 at H0 hu ⊢
      go_upto_region 2 with (first
        | (refine wpList_load_mid rfl 25 (.tmp 3) rfl w.heap.size 0 rfl (bkC A l.length c R F) _ (range_all H0) Try.underlying25 rfl (bkJ hR hF) ?_)
        | (go_at_call 7; (with_reducible refine (cM _ hu).mono ?_); rintro e w1 ⟨Ax, cx, rfl, hlAx, hb1⟩; have HAx := Lib.hid hlAx; replace H0 := H0.calm hb1; replace hu := hu.call hb1; clear hb1 cM hlAx)
        | (refine wpList_store_fresh rfl 25 (.tmp 7) (.tmp 27) rfl 25 _ _ rfl rfl (bkS hRx hFx) (bkZ hRx hFx) bk_one ?_))
      have H7 := Box.new w1 (bkC Ax 0 cx z16 z16)
      replace H0 := H0.calm ((Calm.refl _).alloc (.cells (bkC Ax 0 cx z16 z16).toArray 25))
      replace HAx := Lib.hid (HAx.out.calm ((Calm.refl _).alloc (.cells (bkC Ax 0 cx z16 z16).toArray 25)))
      replace hu := hu.alloc (.cells (bkC Ax 0 cx z16 z16).toArray 25)
      generalize w1.heap.size = g7 at *
      generalize (w1.alloc (.cells (bkC Ax 0 cx z16 z16).toArray 25)) = v1 at H0 H7 HAx hu ⊢
      go_upto_region 3 with (first
        | (refine wpList_load_mid rfl 25 (.tmp 3) rfl w.heap.size 0 rfl (bkC A l.length c R F) _ (range_all H0) Try.underlying25 rfl (bkJ hR hF) ?_)
        | (go_at_call 8; (with_reducible refine (cU _ hu).mono ?_); rintro e w2 ⟨Ay, cy, rfl, hlAy, hb2⟩; have HAy := Lib.hid hlAy; replace H0 := H0.calm hb2; replace H7 := H7.calm hb2; replace HAx := Lib.hid (HAx.out.calm hb2); replace hu := hu.call hb2; clear hb2 cU hlAy)
        | (refine wpList_store_fresh rfl 25 (.tmp 9) (.tmp 33) rfl 25 _ _ rfl rfl (bkS hRy hFy) (bkZ hRy hFy) bk_one ?_))
      have H9 := Box.new w2 (bkC Ay 0 cy z16 z16)
      replace H0 := H0.calm ((Calm.refl _).alloc (.cells (bkC Ay 0 cy z16 z16).toArray 25))
      replace H7 := H7.calm ((Calm.refl _).alloc (.cells (bkC Ay 0 cy z16 z16).toArray 25))
      replace HAx := Lib.hid (HAx.out.calm ((Calm.refl _).alloc (.cells (bkC Ay 0 cy z16 z16).toArray 25)))
      replace HAy := Lib.hid (HAy.out.calm ((Calm.refl _).alloc (.cells (bkC Ay 0 cy z16 z16).toArray 25)))
      replace hu := hu.alloc (.cells (bkC Ay 0 cy z16 z16).toArray 25)
      generalize w2.heap.size = g9 at *
      generalize (w2.alloc (.cells (bkC Ay 0 cy z16 z16).toArray 25)) = v2 at H0 H7 H9 HAx HAy hu ⊢
      go_upto_region 4 with (first
        | (refine wpList_load_mid rfl 25 (.tmp 3) rfl w.heap.size 0 rfl (bkC A l.length c R F) _ (range_all H0) Try.underlying25 rfl (bkJ hR hF) ?_)
        | (go_at_call 9; (with_reducible refine (cD _ hu).mono ?_); rintro e w3 ⟨Az, cz, rfl, hlAz, hb3⟩; have HAz := Lib.hid hlAz; replace H0 := H0.calm hb3; replace H7 := H7.calm hb3; replace H9 := H9.calm hb3; replace HAx := Lib.hid (HAx.out.calm hb3); replace HAy := Lib.hid (HAy.out.calm hb3); replace hu := hu.call hb3; clear hb3 cD hlAz)
        | (refine wpList_store_fresh rfl 25 (.tmp 11) (.tmp 39) rfl 25 _ _ rfl rfl (bkS hRz hFz) (bkZ hRz hFz) bk_one ?_))
      have H11 := Box.new w3 (bkC Az 0 cz z16 z16)
      replace H0 := H0.calm ((Calm.refl _).alloc (.cells (bkC Az 0 cz z16 z16).toArray 25))
      replace H7 := H7.calm ((Calm.refl _).alloc (.cells (bkC Az 0 cz z16 z16).toArray 25))
      replace H9 := H9.calm ((Calm.refl _).alloc (.cells (bkC Az 0 cz z16 z16).toArray 25))
      replace HAx := Lib.hid (HAx.out.calm ((Calm.refl _).alloc (.cells (bkC Az 0 cz z16 z16).toArray 25)))
      replace HAy := Lib.hid (HAy.out.calm ((Calm.refl _).alloc (.cells (bkC Az 0 cz z16 z16).toArray 25)))
      replace HAz := Lib.hid (HAz.out.calm ((Calm.refl _).alloc (.cells (bkC Az 0 cz z16 z16).toArray 25)))
      replace hu := hu.alloc (.cells (bkC Az 0 cz z16 z16).toArray 25)
      generalize w3.heap.size = g11 at *
      generalize (w3.alloc (.cells (bkC Az 0 cz z16 z16).toArray 25)) = v3 at H0 H7 H9 H11 HAx HAy HAz hu ⊢
      go_upto_region 7 with (first
        | (refine wpList_load_mid rfl 25 (.tmp 3) rfl w.heap.size 0 rfl (bkC A l.length c R F) _ (range_all H0) Try.underlying25 rfl (bkJ hR hF) ?_)
        | (go_at_call 10; (with_reducible refine (cB _ hu).mono ?_); rintro e w4 ⟨rfl, hb4⟩; replace H0 := H0.calm hb4; replace H7 := H7.calm hb4; replace H9 := H9.calm hb4; replace H11 := H11.calm hb4; replace HAx := Lib.hid (HAx.out.calm hb4); replace HAy := Lib.hid (HAy.out.calm hb4); replace HAz := Lib.hid (HAz.out.calm hb4); replace hu := hu.call hb4; clear hb4 cB)
        | (go_at_call 11; (with_reducible refine (cC _ hu).mono ?_); rintro e w5 ⟨rfl, hb5⟩; replace H0 := H0.calm hb5; replace H7 := H7.calm hb5; replace H9 := H9.calm hb5; replace H11 := H11.calm hb5; replace HAx := Lib.hid (HAx.out.calm hb5); replace HAy := Lib.hid (HAy.out.calm hb5); replace HAz := Lib.hid (HAz.out.calm hb5); replace hu := hu.call hb5; clear hb5 cC))
      rcases hp with hp | ⟨hp0, hp⟩
      all_goals
        go_wp2_with (first
          | (refine wpList_load_mid rfl 25 (.tmp 7) rfl g7 0 rfl (bkC Ax 0 cx z16 z16) _ (range_all H7) Try.underlying25 rfl (bkJ hRx hFx) ?_)
          | (refine wpList_bareB (by kernel_rfl) ?_; refine wpList_load_mid rfl 25 (.tmp 9) rfl g9 0 rfl (bkC Ay 0 cy z16 z16) _ (range_all H9) Try.underlying25 rfl (bkJ hRy hFy) ?_)
          | (refine wpList_bareB (by kernel_rfl) ?_; refine wpList_load_mid rfl 25 (.tmp 11) rfl g11 0 rfl (bkC Az 0 cz z16 z16) _ (range_all H11) Try.underlying25 rfl (bkJ hRz hFz) ?_)
          | (go_at_call 12; (with_reducible refine (cT1 _ _ _).mono ?_); rintro e w6 ⟨rfl, hb6⟩; replace H0 := H0.calm hb6; replace H7 := H7.calm hb6; replace H9 := H9.calm hb6; replace H11 := H11.calm hb6; replace hu := hu.call hb6; clear hb6))
        go_ret
        exact ⟨rfl, hu⟩
  obtain ⟨hB, hp0, hp1⟩ := hV
  obtain ⟨k, rfl⟩ : ∃ k : Nat, p = k := ⟨p.toNat, by omega⟩
  have hk : k < 16 := by omega
  have hki : (k : Int) < 16 := by omega
  rw [hB] at cB cC
  have hG := (bkErr_zero hB).1
  have hwf := hG.wf
  have hl4 : l.length ≤ 400 := hG.1
  have hl4M : (mineL l k).length ≤ 400 := Nat.le_trans (mine_len _) hl4
  have hMwf : ∀ e ∈ mineL l k, e.wf := fun e he => hwf e (List.mem_filter.1 he).1
  have cR := fun u (hu : Calm w u) => refRealm_any A c l k u hl4 (hL.calm hu)
  rw [Int.toNat_natCast] at hRx' hFx' hRy' hFy' hRz' hFz'
  obtain ⟨T, hT⟩ : ∃ T, T = latest (mineL l k) := ⟨_, rfl⟩
  rw [← hT] at hFz'
  have cT := fun A1 c1 u (h1 : Lies u A1 (mineL l k)) => refLatest_any A1 c1 (mineL l k) u (by omega) h1
  rw [← hT] at cT
  have q1 : mkErr l R F k r = if r = 1 ∨ r = 2 then (if gI R k = 0 then 0 else 5) else 1 := by
    unfold mkErr
    rw [if_pos hB, Int.toNat_natCast]
    by_cases h : r = 1 ∨ r = 2
    · rw [if_pos h, if_pos ⟨by omega, h⟩]
    · rw [if_neg h, if_neg (fun e => h e.2)]
  have q2 := roleErr_of (r := 2) hB hk
  have q3 := roleErr_of (r := 1) hB hk
  have q4 : gI R k = 0 → F.set k 0 = F := fun h => set_gI (by omega) (by
    have h1 := (bkErr_zero hB).2.1 k hk
    unfold fedFit at h1
    rw [if_pos (.inl h)] at h1
    simpa using h1)
  generalize mkErr l R F k r = E1 at *
  generalize roleErr l R F k 2 = E2 at *
  generalize roleErr l R F k 1 = E3 at *
  have qI : gI R k = 0 ∨ gI R k = 1 ∨ gI R k = 2 := by
    have h1 := (bkErr_zero hB).2.1 k hk
    unfold fedFit at h1
    split at h1
    · omega
    · split at h1
      · omega
      · cases h1
  have q5 : E1 = 0 → gI R k = 0 := fun h => by
    rw [h] at q1
    by_cases h1 : r = 1 ∨ r = 2
    · rw [if_pos h1] at q1
      by_cases h2 : gI R k = 0
      · exact h2
      · rw [if_neg h2] at q1; cases q1
    · rw [if_neg h1] at q1; cases q1
  have t1 : ∀ Ax cx, ∀ u, Calm w u → Lies u Ax Lx → Calls Try.prog 12 #[.agg (bkC Ax Lx.length cx Rx Fx).toArray, .int .i64 E1, .agg (bkC A l.length c (R.set k r) (F)).toArray, .int .i64 E1] u fun e w' => e = .returned (.bool true) ∧ Calm u w' := fun Ax cx u h1 h2 => told_any Ax A cx c E1 Lx l Rx Fx (R.set k r) (F) u hn h2 (hL.calm h1) (by rw [List.length_set, hR]) (hF) (by
    by_cases h : E1 = 0
    · right
      rw [if_pos h] at hLx hRx' hFx'
      exact ⟨h, hLx, hRx', hFx'.trans (q4 (q5 h))⟩
    · left
      rw [if_neg h] at hLx hRx' hFx'
      exact ⟨h, hLx, hRx', hFx'⟩)
  have t2 : ∀ Ay cy, ∀ u, Calm w u → Lies u Ay Ly → Calls Try.prog 12 #[.agg (bkC Ay Ly.length cy Ry Fy).toArray, .int .i64 E2, .agg (bkC A l.length c (R.set k 1) (F.set k 0)).toArray, .int .i64 E2] u fun e w' => e = .returned (.bool true) ∧ Calm u w' := fun Ay cy u h1 h2 => told_any Ay A cy c E2 Ly l Ry Fy (R.set k 1) (F.set k 0) u hn h2 (hL.calm h1) (by rw [List.length_set, hR]) (by rw [List.length_set, hF]) (by
    by_cases h : E2 = 0
    · right
      rw [if_pos h] at hLy hRy' hFy'
      exact ⟨h, hLy, hRy', hFy'⟩
    · left
      rw [if_neg h] at hLy hRy' hFy'
      exact ⟨h, hLy, hRy', hFy'⟩)
  have t3 : ∀ Az cz, ∀ u, Calm w u → Lies u Az Lz → Calls Try.prog 12 #[.agg (bkC Az Lz.length cz Rz Fz).toArray, .int .i64 E3, .agg (bkC A l.length c (R.set k 2) (F.set k T)).toArray, .int .i64 E3] u fun e w' => e = .returned (.bool true) ∧ Calm u w' := fun Az cz u h1 h2 => told_any Az A cz c E3 Lz l Rz Fz (R.set k 2) (F.set k T) u hn h2 (hL.calm h1) (by rw [List.length_set, hR]) (by rw [List.length_set, hF]) (by
    by_cases h : E3 = 0
    · right
      rw [if_pos h] at hLz hRz' hFz'
      exact ⟨h, hLz, hRz', hFz'⟩
    · left
      rw [if_neg h] at hLz hRz' hFz'
      exact ⟨h, hLz, hRz', hFz'⟩)
  clear hB hG hwf hLx hLy hLz hRx' hRy' hRz' hFx' hFy' hFz' hT q4 q5 hl4 hp0 hp1 hn hlc
  have Q1 := Lib.hid q1
  have Q2 := Lib.hid q2
  have Q3 := Lib.hid q3
  have QI := Lib.hid qI
  clear q1 q2 q3 qI
  go_enter Try.func3, Try.ntmps3
  go_upto_region 1 with fail
  generalize (w.alloc (.cells (bkC A l.length c R F).toArray 25)) = v0 at H0 hu ⊢
  go_upto_region 2 with (first
    | (refine wpList_load_mid rfl 25 (.tmp 3) rfl w.heap.size 0 rfl (bkC A l.length c R F) _ (range_all H0) Try.underlying25 rfl (bkJ hR hF) ?_)
    | (go_at_call 7; (with_reducible refine (cM _ hu).mono ?_); rintro e w1 ⟨Ax, cx, rfl, hlAx, hb1⟩; have HAx := Lib.hid hlAx; replace H0 := H0.calm hb1; replace hu := hu.call hb1; clear hb1 cM hlAx)
    | (refine wpList_store_fresh rfl 25 (.tmp 7) (.tmp 27) rfl 25 _ _ rfl rfl (bkS hRx hFx) (bkZ hRx hFx) bk_one ?_))
  have H7 := Box.new w1 (bkC Ax Lx.length cx Rx Fx)
  replace H0 := H0.calm ((Calm.refl _).alloc (.cells (bkC Ax Lx.length cx Rx Fx).toArray 25))
  replace HAx := Lib.hid (HAx.out.calm ((Calm.refl _).alloc (.cells (bkC Ax Lx.length cx Rx Fx).toArray 25)))
  replace hu := hu.alloc (.cells (bkC Ax Lx.length cx Rx Fx).toArray 25)
  generalize w1.heap.size = g7 at *
  generalize (w1.alloc (.cells (bkC Ax Lx.length cx Rx Fx).toArray 25)) = v1 at H0 H7 HAx hu ⊢
  go_upto_region 3 with (first
    | (refine wpList_load_mid rfl 25 (.tmp 3) rfl w.heap.size 0 rfl (bkC A l.length c R F) _ (range_all H0) Try.underlying25 rfl (bkJ hR hF) ?_)
    | (go_at_call 8; (with_reducible refine (cU _ hu).mono ?_); rintro e w2 ⟨Ay, cy, rfl, hlAy, hb2⟩; have HAy := Lib.hid hlAy; replace H0 := H0.calm hb2; replace H7 := H7.calm hb2; replace HAx := Lib.hid (HAx.out.calm hb2); replace hu := hu.call hb2; clear hb2 cU hlAy)
    | (refine wpList_store_fresh rfl 25 (.tmp 9) (.tmp 33) rfl 25 _ _ rfl rfl (bkS hRy hFy) (bkZ hRy hFy) bk_one ?_))
  have H9 := Box.new w2 (bkC Ay Ly.length cy Ry Fy)
  replace H0 := H0.calm ((Calm.refl _).alloc (.cells (bkC Ay Ly.length cy Ry Fy).toArray 25))
  replace H7 := H7.calm ((Calm.refl _).alloc (.cells (bkC Ay Ly.length cy Ry Fy).toArray 25))
  replace HAx := Lib.hid (HAx.out.calm ((Calm.refl _).alloc (.cells (bkC Ay Ly.length cy Ry Fy).toArray 25)))
  replace HAy := Lib.hid (HAy.out.calm ((Calm.refl _).alloc (.cells (bkC Ay Ly.length cy Ry Fy).toArray 25)))
  replace hu := hu.alloc (.cells (bkC Ay Ly.length cy Ry Fy).toArray 25)
  generalize w2.heap.size = g9 at *
  generalize (w2.alloc (.cells (bkC Ay Ly.length cy Ry Fy).toArray 25)) = v2 at H0 H7 H9 HAx HAy hu ⊢
  go_upto_region 4 with (first
    | (refine wpList_load_mid rfl 25 (.tmp 3) rfl w.heap.size 0 rfl (bkC A l.length c R F) _ (range_all H0) Try.underlying25 rfl (bkJ hR hF) ?_)
    | (go_at_call 9; (with_reducible refine (cD _ hu).mono ?_); rintro e w3 ⟨Az, cz, rfl, hlAz, hb3⟩; have HAz := Lib.hid hlAz; replace H0 := H0.calm hb3; replace H7 := H7.calm hb3; replace H9 := H9.calm hb3; replace HAx := Lib.hid (HAx.out.calm hb3); replace HAy := Lib.hid (HAy.out.calm hb3); replace hu := hu.call hb3; clear hb3 cD hlAz)
    | (refine wpList_store_fresh rfl 25 (.tmp 11) (.tmp 39) rfl 25 _ _ rfl rfl (bkS hRz hFz) (bkZ hRz hFz) bk_one ?_))
  have H11 := Box.new w3 (bkC Az Lz.length cz Rz Fz)
  replace H0 := H0.calm ((Calm.refl _).alloc (.cells (bkC Az Lz.length cz Rz Fz).toArray 25))
  replace H7 := H7.calm ((Calm.refl _).alloc (.cells (bkC Az Lz.length cz Rz Fz).toArray 25))
  replace H9 := H9.calm ((Calm.refl _).alloc (.cells (bkC Az Lz.length cz Rz Fz).toArray 25))
  replace HAx := Lib.hid (HAx.out.calm ((Calm.refl _).alloc (.cells (bkC Az Lz.length cz Rz Fz).toArray 25)))
  replace HAy := Lib.hid (HAy.out.calm ((Calm.refl _).alloc (.cells (bkC Az Lz.length cz Rz Fz).toArray 25)))
  replace HAz := Lib.hid (HAz.out.calm ((Calm.refl _).alloc (.cells (bkC Az Lz.length cz Rz Fz).toArray 25)))
  replace hu := hu.alloc (.cells (bkC Az Lz.length cz Rz Fz).toArray 25)
  generalize w3.heap.size = g11 at *
  generalize (w3.alloc (.cells (bkC Az Lz.length cz Rz Fz).toArray 25)) = v3 at H0 H7 H9 H11 HAx HAy HAz hu ⊢
  go_upto_region 7 with (first
    | (refine wpList_load_mid rfl 25 (.tmp 3) rfl w.heap.size 0 rfl (bkC A l.length c R F) _ (range_all H0) Try.underlying25 rfl (bkJ hR hF) ?_)
    | (go_at_call 10; (with_reducible refine (cB _ hu).mono ?_); rintro e w4 ⟨rfl, hb4⟩; replace H0 := H0.calm hb4; replace H7 := H7.calm hb4; replace H9 := H9.calm hb4; replace H11 := H11.calm hb4; replace HAx := Lib.hid (HAx.out.calm hb4); replace HAy := Lib.hid (HAy.out.calm hb4); replace HAz := Lib.hid (HAz.out.calm hb4); replace hu := hu.call hb4; clear hb4 cB)
    | (go_at_call 11; (with_reducible refine (cC _ hu).mono ?_); rintro e w5 ⟨rfl, hb5⟩; replace H0 := H0.calm hb5; replace H7 := H7.calm hb5; replace H9 := H9.calm hb5; replace H11 := H11.calm hb5; replace HAx := Lib.hid (HAx.out.calm hb5); replace HAy := Lib.hid (HAy.out.calm hb5); replace HAz := Lib.hid (HAz.out.calm hb5); replace hu := hu.call hb5; clear hb5 cC))
  have d0 := H0.role hR hk
  go_upto_region 12 with fail
  clear d0
  refine wp_region_plan [.val (.agg (bkC A l.length c R F).toArray), .val (.agg (bkC A l.length c R F).toArray), .val (.agg (bkC A l.length c R F).toArray), .new (bkC none 0 0 z16 z16).toArray 25, .new (bkC none 0 0 z16 z16).toArray 25, .new (bkC none 0 0 z16 z16).toArray 25, .fill 3 (bkC A l.length c R F).toArray, .fill 4 (bkC A l.length c R F).toArray, .fill 5 (bkC A l.length c R F).toArray] (by kernel_rfl) (by kernel_rfl) (by kernel_rfl) ?_
  intro X
  iterate 3
    refine plan_val (by kernel_rfl) (fun u hu9 => ?_) ?_
    · exact quiet_load 25 _ rfl w.heap.size rfl (bkC A l.length c R F) _ (range_all (H0.calm hu9.of_drew)) Try.underlying25 rfl (bkJ hR hF) (Calm.refl _)
    simp only [Act.put, List.setIfInBounds_toArray, List.set_cons_zero, List.set_cons_succ, Nat.reduceAdd]
  iterate 3
    refine plan_new (by rfl) (fun u => ?_) ?_
    · rw [← zb_eq]
      go_simp
    simp only [Act.put, List.setIfInBounds_toArray, List.set_cons_zero, List.set_cons_succ, Nat.reduceAdd]
  iterate 3
    refine plan_fill_row rfl rfl rfl (by kernel_rfl) rfl rfl rfl (bkS hR hF) (bkSS z16_len z16_len hR hF) bk_one ?_
  refine plan_end ?_
  intro v5 hB9
  obtain ⟨g15, e15⟩ : ∃ g, g = X 3 := ⟨_, rfl⟩
  obtain ⟨g16, e16⟩ : ∃ g, g = X 4 := ⟨_, rfl⟩
  obtain ⟨g17, e17⟩ : ∃ g, g = X 5 := ⟨_, rfl⟩
  have b15 := hB9.row 3 _ _ rfl
  have b16 := hB9.row 4 _ _ rfl
  have b17 := hB9.row 5 _ _ rfl
  have n1 : X 3 ≠ X 4 := hB9.apart 3 4 _ _ _ _ rfl rfl (by decide)
  have n2 : X 3 ≠ X 5 := hB9.apart 3 5 _ _ _ _ rfl rfl (by decide)
  have n3 : X 4 ≠ X 5 := hB9.apart 4 5 _ _ _ _ rfl rfl (by decide)
  have HV := hB9.calm.of_drew
  clear hB9
  simp only [Nat.reduceAdd, Act.put]
  rw [← e15] at b15 n1 n2
  rw [← e16] at b16 n1 n3
  rw [← e17] at b17 n2 n3
  rw [← e15, ← e16, ← e17]
  clear e15 e16 e17
  clear X
  have h15 : w5.heap.size ≤ g15 := b15.1
  have h16 : w5.heap.size ≤ g16 := b16.1
  have h17 : w5.heap.size ≤ g17 := b17.1
  have H15 : Box v5 g15 (bkC A l.length c R F) := b15.2
  have H16 : Box v5 g16 (bkC A l.length c R F) := b16.2
  have H17 : Box v5 g17 (bkC A l.length c R F) := b17.2
  clear b15 b16 b17
  have f1 := H15.free (1 + k)
  have f2 := H16.free (1 + k)
  have f3 := H16.free (17 + k)
  have d1 := H15.role hR hk
  have d2 := H16.role hR hk
  have d3 := H16.fed hR hF hk
  go_upto_region 15 with fail
  clear f1 f2 f3 d1 d2 d3
  replace H15 := ((H15.setRole r hR hk).far n1 (o := 1 + k) (.int .i64 1)).far n1 (o := 17 + k) (.int .i64 0)
  replace H16 := ((H16.far (Ne.symm n1) (o := 1 + k) (.int .i64 r)).setRole 1 hR hk).setFed (k := k) 0 (by rw [List.length_set, hR])
  replace H17 := ((H17.far (Ne.symm n2) (o := 1 + k) (.int .i64 r)).far (Ne.symm n3) (o := 1 + k) (.int .i64 1)).far (Ne.symm n3) (o := 17 + k) (.int .i64 0)
  replace HV := ((HV.setCell (p := ⟨g15, 1 + k, none⟩) h15 (.int .i64 r)).setCell (p := ⟨g16, 1 + k, none⟩) h16 (.int .i64 1)).setCell (p := ⟨g16, 17 + k, none⟩) h16 (.int .i64 0)
  generalize (((v5.setCell ⟨g15, 1 + k, none⟩ (.int .i64 r)).setCell ⟨g16, 1 + k, none⟩ (.int .i64 1)).setCell ⟨g16, 17 + k, none⟩ (.int .i64 0)) = v7 at H15 H16 H17 HV ⊢
  have c0 := (H0.calm HV).run
  go_upto_region 16 with (go_at_call 13; (with_reducible refine (cR _ (hu.call HV)).mono ?_); rintro e w8 ⟨v1, v2, rfl, hTw, hb8⟩; obtain ⟨A1, c1, rfl, hlc1, hcc1, hlM⟩ := hTw.1.lies hMwf; have HF1 := Lib.hid (show ∀ b q, A1 = some ⟨b, q, none⟩ → b ≠ g17 from fun b q hA => Nat.ne_of_gt (Nat.lt_of_lt_of_le H17.lt (hTw.1.lt b (by rw [hA]; rfl)).1)); have HM := Lib.hid hlM; replace H15 := H15.calm hb8; replace H16 := H16.calm hb8; replace H17 := H17.calm hb8; replace HV := HV.call hb8; clear hb8 hTw hlM cR c0 hcc1)
  refine wp_region_stages [.val (.int .i64 k), .val (.int .i64 k), .val (.slice A1 (mineL l k).length c1), .val (.int .i64 T), .val (.pointer (some ⟨g17, 1, none⟩)), .val (.pointer (some ⟨g17, 1 + k, none⟩)), .late, .val (.pointer (some ⟨g17, 17, none⟩)), .val (.pointer (some ⟨g17, 17 + k, none⟩)), .late] [6, 9] (DwT w8 g17 A l.length c R F k 2 T) (by kernel_rfl) (by kernel_rfl) (by kernel_rfl) DwT.stay (fun Y => DwT.start Y H17 (Calm.refl _).drew) (fun Y => ?_)
  iterate 3
    refine planS_val (by kernel_rfl) (fun L9 u hb hS => ?_) ?_
    · clear hS hb
      go_simp
    simp only [Act.put, List.setIfInBounds_toArray, List.set_cons_zero, List.set_cons_succ, Nat.reduceAdd]
  refine planS_val (by kernel_rfl) (fun L9 u hb hS => ?_) ?_
  · have hs := DwT.get hS
    have cT' := cT A1 c1 u (HM.out.others HF1.out hs.others)
    clear hS hb hs
    go_simp
    try (go_at_call 14; (with_reducible exact cT'))
  simp only [Act.put, List.setIfInBounds_toArray, List.set_cons_zero, List.set_cons_succ, Nat.reduceAdd]
  iterate 2
    refine planS_val (by kernel_rfl) (fun L9 u hb hS => ?_) ?_
    · clear hS hb
      go_simp
    simp only [Act.put, List.setIfInBounds_toArray, List.set_cons_zero, List.set_cons_succ, Nat.reduceAdd]
  refine planS_late (fun L9 u hi hb hS => ?_) ?_
  · have hs := DwT.get hS
    have f1 := hs.row.free (1 + k)
    obtain ⟨z, d1⟩ : ∃ z, u.cell? ⟨g17, 1 + k, none⟩ = some (.int .i64 z) := ⟨_, hs.row.role (by split <;> simp [hR]) hk⟩
    have HK := Lib.hid (show ∀ y, DwT w8 g17 A l.length c R F k 2 T ([6, 9].map (updB L9 6)) (updV Y 6 y) (u.setCell ⟨g17, 1 + k, none⟩ (.int .i64 2)) from fun y => ⟨_, rfl, hs.do6 hR hk hi⟩)
    clear hS hb hs hi
    go_wp2_with fail
    exact ⟨undef, HK.out undef⟩
  simp only [Act.put, List.setIfInBounds_toArray, List.set_cons_zero, List.set_cons_succ, Nat.reduceAdd]
  iterate 2
    refine planS_val (by kernel_rfl) (fun L9 u hb hS => ?_) ?_
    · clear hS hb
      go_simp
    simp only [Act.put, List.setIfInBounds_toArray, List.set_cons_zero, List.set_cons_succ, Nat.reduceAdd]
  refine planS_late (fun L9 u hi hb hS => ?_) ?_
  · have hs := DwT.get hS
    have f1 := hs.row.free (17 + k)
    obtain ⟨z, d1⟩ : ∃ z, u.cell? ⟨g17, 17 + k, none⟩ = some (.int .i64 z) := ⟨_, hs.row.fed (by split <;> simp [hR]) (by split <;> simp [hF]) hk⟩
    have HK := Lib.hid (show ∀ y, DwT w8 g17 A l.length c R F k 2 T ([6, 9].map (updB L9 9)) (updV Y 9 y) (u.setCell ⟨g17, 17 + k, none⟩ (.int .i64 T)) from fun y => ⟨_, rfl, hs.do9 hR hi⟩)
    clear hS hb hs hi
    go_wp2_with fail
    exact ⟨undef, HK.out undef⟩
  try simp only [Act.put, Nat.reduceAdd]
  refine planS_end ?_
  intro w9 hS
  have hs := DwT.get (G := fun _ => true) hS
  have H17b : Box w9 g17 (bkC A l.length c (R.set k 2) (F.set k T)) := by
    have := hs.row
    simpa using this
  replace H15 := (hs.others g15 H15.lt n2).trans H15
  replace H16 := (hs.others g16 H16.lt n3).trans H16
  have H15b : Box w9 g15 (bkC A l.length c (R.set k r) F) := H15
  have H16b : Box w9 g16 (bkC A l.length c (R.set k 1) (F.set k 0)) := H16
  replace HV := hs.k w5 h17 HV
  replace hu := hu.call HV
  replace H0 := H0.calm HV
  replace H7 := H7.calm HV
  replace H9 := H9.calm HV
  replace H11 := H11.calm HV
  replace HAx := Lib.hid (HAx.out.calm HV)
  replace HAy := Lib.hid (HAy.out.calm HV)
  replace HAz := Lib.hid (HAz.out.calm HV)
  clear HV hs hS H15 H16 H17 HM HF1 cT h15 h16 h17 n1 n2 n3 hlc1 hMwf hl4M
  have hRr : (R.set k r).length = 16 := by rw [List.length_set, hR]
  have hR1 : (R.set k 1).length = 16 := by rw [List.length_set, hR]
  have hR2 : (R.set k 2).length = 16 := by rw [List.length_set, hR]
  have hF0 : (F.set k 0).length = 16 := by rw [List.length_set, hF]
  have hF2 : (F.set k T).length = 16 := by rw [List.length_set, hF]
  have q1 := Q1.out
  have q2 := Q2.out
  have q3 := Q3.out
  have qI := QI.out
  clear Q1 Q2 Q3 QI
  generalize gI R k = I at *
  have qr : r = 1 ∨ r = 2 ∨ (r ≠ 1 ∧ r ≠ 2) := by omega
  generalize R.set k r = RR1 at *
  generalize R.set k 1 = RR2 at *
  generalize R.set k 2 = RR3 at *
  generalize F.set k 0 = FF2 at *
  generalize F.set k T = FF3 at *
  rcases qI with rfl | rfl | rfl <;> rcases qr with rfl | rfl | ⟨r1, r2⟩
  all_goals
    first
      | (have b1 : (r != 1) = true := by simpa using r1
         have b2 : (r != 2) = true := by simpa using r2
         simp [r1, r2] at q1 q2 q3)
      | simp at q1 q2 q3
    subst q1 q2 q3
    go_wp2_with (first
      | (refine wpList_load_mid rfl 25 (.tmp 7) rfl g7 0 rfl (bkC Ax Lx.length cx Rx Fx) _ (range_all H7) Try.underlying25 rfl (bkJ hRx hFx) ?_)
      | (refine wpList_bareB (by kernel_rfl) ?_; refine wpList_load_mid rfl 25 (.tmp 7) rfl g7 0 rfl (bkC Ax Lx.length cx Rx Fx) _ (range_all H7) Try.underlying25 rfl (bkJ hRx hFx) ?_)
      | (refine wpList_load_mid rfl 25 (.tmp 9) rfl g9 0 rfl (bkC Ay Ly.length cy Ry Fy) _ (range_all H9) Try.underlying25 rfl (bkJ hRy hFy) ?_)
      | (refine wpList_bareB (by kernel_rfl) ?_; refine wpList_load_mid rfl 25 (.tmp 9) rfl g9 0 rfl (bkC Ay Ly.length cy Ry Fy) _ (range_all H9) Try.underlying25 rfl (bkJ hRy hFy) ?_)
      | (refine wpList_load_mid rfl 25 (.tmp 11) rfl g11 0 rfl (bkC Az Lz.length cz Rz Fz) _ (range_all H11) Try.underlying25 rfl (bkJ hRz hFz) ?_)
      | (refine wpList_bareB (by kernel_rfl) ?_; refine wpList_load_mid rfl 25 (.tmp 11) rfl g11 0 rfl (bkC Az Lz.length cz Rz Fz) _ (range_all H11) Try.underlying25 rfl (bkJ hRz hFz) ?_)
      | (refine wpList_load_mid rfl 25 (.tmp 15) rfl g15 0 rfl (bkC A l.length c RR1 F) _ (range_all H15b) Try.underlying25 rfl (bkJ hRr hF) ?_)
      | (refine wpList_bareB (by kernel_rfl) ?_; refine wpList_load_mid rfl 25 (.tmp 15) rfl g15 0 rfl (bkC A l.length c RR1 F) _ (range_all H15b) Try.underlying25 rfl (bkJ hRr hF) ?_)
      | (refine wpList_load_mid rfl 25 (.tmp 16) rfl g16 0 rfl (bkC A l.length c RR2 FF2) _ (range_all H16b) Try.underlying25 rfl (bkJ hR1 hF0) ?_)
      | (refine wpList_bareB (by kernel_rfl) ?_; refine wpList_load_mid rfl 25 (.tmp 16) rfl g16 0 rfl (bkC A l.length c RR2 FF2) _ (range_all H16b) Try.underlying25 rfl (bkJ hR1 hF0) ?_)
      | (refine wpList_load_mid rfl 25 (.tmp 17) rfl g17 0 rfl (bkC A l.length c RR3 FF3) _ (range_all H17b) Try.underlying25 rfl (bkJ hR2 hF2) ?_)
      | (refine wpList_bareB (by kernel_rfl) ?_; refine wpList_load_mid rfl 25 (.tmp 17) rfl g17 0 rfl (bkC A l.length c RR3 FF3) _ (range_all H17b) Try.underlying25 rfl (bkJ hR2 hF2) ?_)
      | (go_at_call 12; (with_reducible refine (t1 _ _ _ hu HAx.out).mono ?_); rintro e w10 ⟨rfl, hb10⟩; replace H0 := H0.calm hb10; replace H7 := H7.calm hb10; replace H9 := H9.calm hb10; replace H11 := H11.calm hb10; replace H15b := H15b.calm hb10; replace H16b := H16b.calm hb10; replace H17b := H17b.calm hb10; replace HAx := Lib.hid (HAx.out.calm hb10); replace HAy := Lib.hid (HAy.out.calm hb10); replace HAz := Lib.hid (HAz.out.calm hb10); replace hu := hu.call hb10; clear hb10)
      | (go_at_call 12; (with_reducible refine (t2 _ _ _ hu HAy.out).mono ?_); rintro e w10 ⟨rfl, hb10⟩; replace H0 := H0.calm hb10; replace H7 := H7.calm hb10; replace H9 := H9.calm hb10; replace H11 := H11.calm hb10; replace H15b := H15b.calm hb10; replace H16b := H16b.calm hb10; replace H17b := H17b.calm hb10; replace HAx := Lib.hid (HAx.out.calm hb10); replace HAy := Lib.hid (HAy.out.calm hb10); replace HAz := Lib.hid (HAz.out.calm hb10); replace hu := hu.call hb10; clear hb10)
      | (go_at_call 12; (with_reducible refine (t3 _ _ _ hu HAz.out).mono ?_); rintro e w10 ⟨rfl, hb10⟩; replace H0 := H0.calm hb10; replace H7 := H7.calm hb10; replace H9 := H9.calm hb10; replace H11 := H11.calm hb10; replace H15b := H15b.calm hb10; replace H16b := H16b.calm hb10; replace H17b := H17b.calm hb10; replace HAx := Lib.hid (HAx.out.calm hb10); replace HAy := Lib.hid (HAy.out.calm hb10); replace HAz := Lib.hid (HAz.out.calm hb10); replace hu := hu.call hb10; clear hb10)
      | (exfalso; omega))
    go_ret
    exact ⟨rfl, hu⟩
end Go.Proofs.Ytcjndjabhhpheaa
