/- Texts of one kind in one file. -/
import Derived.Test.YtljjeolifdpedaaPkRealmApart2
set_option maxRecDepth 100000
namespace Go.Proofs.Ytljjeolifdpedaa
open Go.ChangeShapes Go.WideShapes Go.ChangeAt Go.RowKit
def KBox (u : World) (g : Nat) (p o f : Int) : Prop := u.heap[g]? = some (.cells #[.int .i64 p, .int .i64 o, .int .i64 f] 27 (0, 0))
theorem KBox.calm {u u' : World} {g : Nat} {p o f : Int} (h : KBox u g p o f) (hb : Calm u u') : KBox u' g p o f := (hb.block (Array.getElem?_eq_some_iff.1 h).1).trans h
theorem KBox.pfs {u : World} {g : Nat} {p o f : Int} (h : KBox u g p o f) : u.cell? ⟨g, 0, none⟩ = some (.int .i64 p) := (cell_of_row _ _ 0 _ _ _ h).trans rfl
theorem run_fieldP (x0 x1 x2 : Int) (A : Option Addr) (n c : Nat) (E : Int) (u : World) : (Instr.field 43 (.agg #[.int .i64 x0, .int .i64 x1, .int .i64 x2, .slice A n c, .int .i64 E]) 0).run Try.prog u = .ok (.int .i64 x0) u := by
 simp [Instr.field, asAgg, Go.part]
def ApF (m0 : Int) : Nat → Value → World → Prop
 | 6, y, _ => ∃ (a b : Int) (ao : Option Addr) (n c : Nat), y = .agg #[.int .i64 m0, .int .i64 a, .int .i64 b, .slice ao n c, .int .i64 0]
 | 7, y, _ => y = .int .i64 m0
 | 8, y, _ => y = .bool true
 | 9, y, _ => y = .bool true
 | 10, y, _ => y = .bool true
 |_, _, _ => False
theorem apF_stay {m0 : Int} : ∀ i y u u', ApF m0 i y u → Calm u u' → ApF m0 i y u'
 | 6, _, _, _, h, _ => h
 | 7, _, _, _, h, _ => h
 | 8, _, _, _, h, _ => h
 | 9, _, _, _, h, _ => h
 | 10, _, _, _, h, _ => h
 | 0, _, _, _, h, _ => h.elim
 | 1, _, _, _, h, _ => h.elim
 | 2, _, _, _, h, _ => h.elim
 | 3, _, _, _, h, _ => h.elim
 | 4, _, _, _, h, _ => h.elim
 | 5, _, _, _, h, _ => h.elim
 |_ + 11, _, _, _, h, _ => h.elim
theorem bad_is1 {l : List El} {R F : List Int} {p : Int} (E : Int) (L : List El) (h : roleErr l R F p 1 ≠ 0) : rwErr l R F p E L = roleErr l R F p 1 := by
 unfold rwErr; exact if_neg h
set_option maxHeartbeats 16000000 in
theorem realmApart_walk (A : Option Addr) (c : Nat) (l : List El) (R F : List Int) (p o f : Int) (s : ByteArray) (t : Int) (S : ByteArray) (w : World) (hn : l.length ≤ 9223372036854775807) (hlc : l.length ≤ c) (hL : Lies w A l) (hR : R.length = 16) (hF : F.length = 16) (hS : S.size ≤ 1048576) :
    Calls Try.prog 5 #[.agg (bkC A l.length c R F).toArray, .agg #[.int .i64 p, .int .i64 o, .int .i64 f], .string s, .int .i64 t, .string S] w fun e w' => e = .returned (.bool true) ∧ Calm w w' := by
  obtain ⟨L3, hL3⟩ : ∃ L, pL (mineL l p) (p, o, f) s t = L := ⟨_, rfl⟩
  obtain ⟨X3, hX3⟩ : ∃ X, rwErr l R F p (putErr (mineL l p) (p, o, f) s t) L3 = X := ⟨_, rfl⟩
  obtain ⟨L4, hL4⟩ : ∃ L, cL (mineL l p) (p, o, f) t = L := ⟨_, rfl⟩
  obtain ⟨X4, hX4⟩ : ∃ X, rwErr l R F p (cutErr (mineL l p) (p, o, f) t) L4 = X := ⟨_, rfl⟩
  obtain ⟨X5, hX5⟩ : ∃ X, rfErr l R F S.data.toList = X := ⟨_, rfl⟩
  have a3 : X3 = 0 → bkErr (joinL l p L3) R F = 0 ∧ AgreeR l (joinL l p L3) R F R F p := fun h => by
    rw [← hL3]; rw [← hL3] at hX3; exact put_apart (hX3.trans h)
  have a4 : X4 = 0 → bkErr (joinL l p L4) R F = 0 ∧ AgreeR l (joinL l p L4) R F R F p := fun h => by
    rw [← hL4]; rw [← hL4] at hX4; exact cut_apart (hX4.trans h)
  have a5 : X5 = 0 → _ := fun h => feed_apart hR hF (hX5.trans h)
  have hl4 : X3 = 0 ∨ X4 = 0 ∨ X5 = 0 → l.length ≤ 400 := fun h => by
    have hb : bkErr l R F = 0 := by
      rcases h with h | h | h
      · rw [h] at hX3; unfold rwErr at hX3; split at hX3
        · rename_i h2; exact (roleErr_zero h2).1
        · rename_i h2; exact absurd hX3 h2
      · rw [h] at hX4; unfold rwErr at hX4; split at hX4
        · rename_i h2; exact (roleErr_zero h2).1
        · rename_i h2; exact absurd hX4 h2
      · exact (a5 h).2.2.1
    exact (bkErr_zero hb).1.1
  have cP := fun u (hu : Calm w u) => (realmPut_any A c l R F p o f s t u hn hlc (hL.calm hu) hR hF _ L3 X3 rfl hL3 hX3).mono fun e w' h => bkEnd_if (fun h => (bkErr_zero (a3 h).1).1.wf) h
  have cC := fun u (hu : Calm w u) => (realmCut_any A c l R F p o f t u hn hlc (hL.calm hu) hR hF _ L4 X4 rfl hL4 hX4).mono fun e w' h => bkEnd_if (fun h => (bkErr_zero (a4 h).1).1.wf) h
  have cX := fun u (hu : Calm w u) => (realmFeed_any A c l R F S u hn hlc (hL.calm hu) hR hF (by omega) X5 hX5).mono fun e w' h => bkEnd_if (fun h => (bkErr_zero (a5 h).1).1.wf) h
  obtain ⟨Lx, hLx⟩ : ∃ L, L = if X3 = 0 then joinL l p L3 else [] := ⟨_, rfl⟩
  obtain ⟨Rx, hRx'⟩ : ∃ L, L = if X3 = 0 then R else z16 := ⟨_, rfl⟩
  obtain ⟨Fx, hFx'⟩ : ∃ L, L = if X3 = 0 then F else z16 := ⟨_, rfl⟩
  obtain ⟨Ly, hLy⟩ : ∃ L, L = if X4 = 0 then joinL l p L4 else [] := ⟨_, rfl⟩
  obtain ⟨Ry, hRy'⟩ : ∃ L, L = if X4 = 0 then R else z16 := ⟨_, rfl⟩
  obtain ⟨Fy, hFy'⟩ : ∃ L, L = if X4 = 0 then F else z16 := ⟨_, rfl⟩
  obtain ⟨Lz, hLz⟩ : ∃ L, L = if X5 = 0 then fedL l (parL S.data.toList) else [] := ⟨_, rfl⟩
  obtain ⟨Rz, hRz'⟩ : ∃ L, L = if X5 = 0 then R else z16 := ⟨_, rfl⟩
  obtain ⟨Fz, hFz'⟩ : ∃ L, L = if X5 = 0 then F.set (n0 S.data.toList).toNat (n2 S.data.toList) else z16 := ⟨_, rfl⟩
  have hRx : Rx.length = 16 := by rw [hRx']; exact len_if hR
  have hFx : Fx.length = 16 := by rw [hFx']; exact len_if hF
  have hRy : Ry.length = 16 := by rw [hRy']; exact len_if hR
  have hFy : Fy.length = 16 := by rw [hFy']; exact len_if hF
  have hRz : Rz.length = 16 := by rw [hRz']; exact len_if hR
  have hFz : Fz.length = 16 := by rw [hFz']; exact len_if (by rw [List.length_set, hF])
  rw [← hLx, ← hRx', ← hFx'] at cP
  rw [← hLy, ← hRy', ← hFy'] at cC
  rw [← hLz, ← hRz', ← hFz'] at cX
  have cS3 : X3 = 0 → ∀ (Ax : Option Addr) (cx : Nat) u, Box u w.heap.size (bkC A l.length c R F) → Lies u Ax Lx → Calm w u → Calls Try.prog 22 #[.agg (bkC Ax Lx.length cx Rx Fx).toArray, .int .i64 p, (.pointer (some ⟨w.heap.size, 0, none⟩))] u fun e w' => e = .returned (.bool true) ∧ Calm u w' := fun h Ax cx u h1 h2 h3 => by
    rw [if_pos h] at hLx hRx' hFx'
    rw [hLx] at h2 ⊢
    rw [hRx', hFx']
    exact same_any A Ax c cx l _ R F R F p w.heap.size u (hl4 (.inl h)) (a3 h).1 (hL.calm h3) h2 hR hF hR hF h1 (a3 h).2
  have cS4 : X4 = 0 → ∀ (Ay : Option Addr) (cy : Nat) u, Box u w.heap.size (bkC A l.length c R F) → Lies u Ay Ly → Calm w u → Calls Try.prog 22 #[.agg (bkC Ay Ly.length cy Ry Fy).toArray, .int .i64 p, (.pointer (some ⟨w.heap.size, 0, none⟩))] u fun e w' => e = .returned (.bool true) ∧ Calm u w' := fun h Ay cy u h1 h2 h3 => by
    rw [if_pos h] at hLy hRy' hFy'
    rw [hLy] at h2 ⊢
    rw [hRy', hFy']
    exact same_any A Ay c cy l _ R F R F p w.heap.size u (hl4 (.inr (.inl h))) (a4 h).1 (hL.calm h3) h2 hR hF hR hF h1 (a4 h).2
  have cS5 : X5 = 0 → ∀ (Az : Option Addr) (cz : Nat) u, Box u w.heap.size (bkC A l.length c R F) → Lies u Az Lz → Calm w u → Calls Try.prog 22 #[.agg (bkC Az Lz.length cz Rz Fz).toArray, .int .i64 (n0 S.data.toList), (.pointer (some ⟨w.heap.size, 0, none⟩))] u fun e w' => e = .returned (.bool true) ∧ Calm u w' := fun h Az cz u h1 h2 h3 => by
    have hFz2 := hFz
    rw [if_pos h] at hLz hRz' hFz'
    rw [hLz] at h2 ⊢
    rw [hFz'] at hFz2
    rw [hRz', hFz']
    exact same_any A Az c cz l _ R F R _ _ w.heap.size u (hl4 (.inr (.inr h))) (a5 h).1 (hL.calm h3) h2 hR hF hR hFz2 h1 (a5 h).2.1
  have cR0 := fun u => refParse_any S u (by omega)
  unfold ParEnd at cR0
  obtain ⟨m0, hm0⟩ : ∃ m, m = n0 S.data.toList := ⟨_, rfl⟩
  have cR : X5 = 0 → ∀ u, Calls Try.prog 19 #[.string S] u fun e w' => ∃ (ao : Option Addr) (n c : Nat), e = .returned (.agg #[.int .i64 m0, .int .i64 (rdZ S.data.toList (n1 S.data.toList)), .int .i64 (rdZ S.data.toList (n2 S.data.toList)), .slice ao n c, .int .i64 0]) ∧ Calm u w' := fun h u => (cR0 u).mono fun e w' h2 => by
    obtain ⟨v, e1, e2, e3⟩ := h2
    obtain ⟨ao, n', c', rfl⟩ := slice_of e2
    have hp := (a5 h).2.2.2.1
    refine ⟨ao, n', c', ?_, e3⟩
    rw [e1, hp, hm0]
    congr 6
    unfold rdZ; rw [if_pos hp]
  rw [← hm0] at cS5
  have cQ1 : ∀ v, Calls Try.prog 10 #[.agg (bkC none 0 0 bR z16).toArray, .agg #[.int .i64 0, .int .i64 0, .int .i64 0], .string { data := #[97] }, .int .i64 1] v fun e w' => ∃ A1 c1, e = .returned (.tuple #[.agg (bkC A1 1 c1 bR z16).toArray, .int .i64 0]) ∧ Calm v w' := fun v => by
    have q1 : putErr (mineL [] 0) (0, 0, 0) { data := #[97] } 1 = 0 := by
      show putErr [] _ _ _ = 0
      rw [putErr_nil (by decide) (by decide) (by decide), if_pos (by decide)]
    have h := realmPut_any none 0 [] bR z16 0 0 0 { data := #[97] } 1 v (by simp) (by simp) ⟨by simp, fun h => absurd h (by simp)⟩ rfl rfl 0 [⟨0, 0, 0, 1, 0, { data := #[97] }⟩] 0 q1 (pL_nil q1) (by
      have := rw_cases (l := []) (R := bR) (F := z16) (k := 0) 0 [⟨0, 0, 0, 1, 0, { data := #[97] }⟩] book_ok (by decide) rfl
      exact this)
    rw [if_pos rfl, if_pos rfl, if_pos rfl] at h
    exact h.mono fun e w' h => by
      obtain ⟨A1, c1, h1, _, h3⟩ := h
      exact ⟨A1, c1, h1, h3⟩
  have cQ2 : ∀ v, Calls Try.prog 10 #[.agg (bkC none 0 0 bR z16).toArray, .agg #[.int .i64 1, .int .i64 0, .int .i64 0], .string { data := #[97] }, .int .i64 1] v fun e w' => ∃ A2 c2, e = .returned (.tuple #[.agg (bkC A2 0 c2 z16 z16).toArray, .int .i64 10]) ∧ Calm v w' := fun v => by
    have hr : roleErr [] bR z16 1 1 = 10 := by
      have := roleErr_of (k := 1) (r := 1) book_ok (by omega)
      rw [show gI bR 1 = 2 from rfl, if_neg (by decide)] at this
      exact this
    have h := realmPut_any none 0 [] bR z16 1 0 0 { data := #[97] } 1 v (by simp) (by simp) ⟨by simp, fun h => absurd h (by simp)⟩ rfl rfl _ _ 10 rfl rfl ((bad_is1 _ _ (by rw [hr]; decide)).trans hr)
    rw [if_neg (by decide), if_neg (by decide), if_neg (by decide)] at h
    exact h.mono fun e w' h => h.nil0
  have H0 : Box ((w.alloc (.cells (bkC A l.length c R F).toArray 25)).alloc (.cells #[.int .i64 p, .int .i64 o, .int .i64 f] 27)) w.heap.size (bkC A l.length c R F) := (Box.new w _).calm ((Calm.refl _).alloc _)
  have K6 : KBox ((w.alloc (.cells (bkC A l.length c R F).toArray 25)).alloc (.cells #[.int .i64 p, .int .i64 o, .int .i64 f] 27)) (w.heap.size + 1) p o f := two_new w _ _
  have hu := ((Calm.refl w).alloc (.cells (bkC A l.length c R F).toArray 25)).alloc (.cells #[.int .i64 p, .int .i64 o, .int .i64 f] 27)
  clear hLx hRx' hFx' hLy hRy' hFy' hLz hRz' hFz' hX3 hX4 hX5 hL3 hL4 a3 a4 a5 hl4 cR0 hm0 hL hn hlc
  generalize rdZ S.data.toList (n1 S.data.toList) = y1 at cR
  generalize rdZ S.data.toList (n2 S.data.toList) = y2 at cR
  go_enter Try.func5, Try.ntmps5
  go_upto_region 1 with fail
  generalize ((w.alloc (.cells (bkC A l.length c R F).toArray 25)).alloc (.cells #[.int .i64 p, .int .i64 o, .int .i64 f] 27)) = v0 at H0 K6 hu ⊢
  go_upto_region 2 with (first
    | (go_at_call 21; (with_reducible refine (book_any _).mono ?_); rintro e w1 ⟨rfl, hb1⟩; replace H0 := H0.calm hb1; replace K6 := K6.calm hb1; replace hu := hu.call hb1; clear hb1)
    | (go_at_call 10; (with_reducible refine (cQ1 _).mono ?_); rintro e w2 ⟨A1, c1, rfl, hb2⟩; replace H0 := H0.calm hb2; replace K6 := K6.calm hb2; replace hu := hu.call hb2; clear hb2 cQ1)
    | (refine wpList_store_fresh rfl 25 (.tmp 11) (.tmp 26) rfl 25 _ _ rfl rfl (bkS (show bR.length = 16 from rfl) z16_len) (bkZ (show bR.length = 16 from rfl) z16_len) bk_one ?_))
  have H11 := Box.new w2 (bkC A1 1 c1 bR z16)
  replace H0 := H0.calm ((Calm.refl _).alloc (.cells (bkC A1 1 c1 bR z16).toArray 25))
  replace K6 := K6.calm ((Calm.refl _).alloc (.cells (bkC A1 1 c1 bR z16).toArray 25))
  replace hu := hu.alloc (.cells (bkC A1 1 c1 bR z16).toArray 25)
  generalize w2.heap.size = g11 at *
  generalize (w2.alloc (.cells (bkC A1 1 c1 bR z16).toArray 25)) = v1 at H0 K6 H11 hu ⊢
  have r0 := H11.run
  go_upto_region 4 with fail
  clear r0 H11
  go_upto_region 5 with (first
    | (go_at_call 21; (with_reducible refine (book_any _).mono ?_); rintro e w3 ⟨rfl, hb3⟩; replace H0 := H0.calm hb3; replace K6 := K6.calm hb3; replace hu := hu.call hb3; clear hb3)
    | (go_at_call 10; (with_reducible refine (cQ2 _).mono ?_); rintro e w4 ⟨A2, c2, rfl, hb4⟩; replace H0 := H0.calm hb4; replace K6 := K6.calm hb4; replace hu := hu.call hb4; clear hb4 cQ2)
    | (refine wpList_store_fresh rfl 25 (.tmp 13) (.tmp 40) rfl 25 _ _ rfl rfl (bkS z16_len z16_len) (bkZ z16_len z16_len) bk_one ?_))
  have H13 := Box.new w4 (bkC A2 0 c2 z16 z16)
  replace H0 := H0.calm ((Calm.refl _).alloc (.cells (bkC A2 0 c2 z16 z16).toArray 25))
  replace K6 := K6.calm ((Calm.refl _).alloc (.cells (bkC A2 0 c2 z16 z16).toArray 25))
  replace hu := hu.alloc (.cells (bkC A2 0 c2 z16 z16).toArray 25)
  generalize (w4.alloc (.cells (bkC A2 0 c2 z16 z16).toArray 25)) = v2 at H0 K6 H13 hu ⊢
  clear H13
  go_upto_region 8 with fail
  go_upto_region 9 with (first
    | (refine wpList_load_mid rfl 25 (.tmp 5) rfl w.heap.size 0 rfl (bkC A l.length c R F) _ (range_all H0) Try.underlying25 rfl (bkJ hR hF) ?_)
    | (refine wpList_load_mid rfl 27 (.tmp 6) rfl (w.heap.size + 1) 0 rfl [.int .i64 p, .int .i64 o, .int .i64 f] _ (range_all K6) Try.underlying27 rfl rfl ?_)
    | (go_at_call 10; (with_reducible refine (cP _ hu).mono ?_); rintro e w5 ⟨Ax, cx, rfl, hlAx, hb5⟩; have HAx := Lib.hid hlAx; replace H0 := H0.calm hb5; replace K6 := K6.calm hb5; replace hu := hu.call hb5; clear hb5 cP hlAx)
    | (refine wpList_store_fresh rfl 25 (.tmp 16) (.tmp 51) rfl 25 _ _ rfl rfl (bkS hRx hFx) (bkZ hRx hFx) bk_one ?_))
  have H16 := Box.new w5 (bkC Ax Lx.length cx Rx Fx)
  replace H0 := H0.calm ((Calm.refl _).alloc (.cells (bkC Ax Lx.length cx Rx Fx).toArray 25))
  replace K6 := K6.calm ((Calm.refl _).alloc (.cells (bkC Ax Lx.length cx Rx Fx).toArray 25))
  replace HAx := Lib.hid (HAx.out.calm ((Calm.refl _).alloc (.cells (bkC Ax Lx.length cx Rx Fx).toArray 25)))
  replace hu := hu.alloc (.cells (bkC Ax Lx.length cx Rx Fx).toArray 25)
  generalize w5.heap.size = g16 at *
  generalize (w5.alloc (.cells (bkC Ax Lx.length cx Rx Fx).toArray 25)) = v3 at H0 K6 H16 HAx hu ⊢
  by_cases hx3 : X3 = 0
  · subst hx3
    have k0 := K6.pfs
    go_upto_region 11 with (first
      | (refine wpList_bareB (by kernel_rfl) ?_; refine wpList_load_mid rfl 25 (.tmp 16) rfl g16 0 rfl (bkC Ax Lx.length cx Rx Fx) _ (range_all H16) Try.underlying25 rfl (bkJ hRx hFx) ?_)
      | (go_at_call 22; (with_reducible refine (cS3 rfl _ _ _ H0 HAx.out hu).mono ?_); rintro e w6 ⟨rfl, hb6⟩; replace H0 := H0.calm hb6; replace K6 := K6.calm hb6; replace hu := hu.call hb6; clear hb6))
    clear k0
    clear H16 HAx
    go_upto_region 12 with (first
      | (refine wpList_load_mid rfl 25 (.tmp 5) rfl w.heap.size 0 rfl (bkC A l.length c R F) _ (range_all H0) Try.underlying25 rfl (bkJ hR hF) ?_)
      | (refine wpList_load_mid rfl 27 (.tmp 6) rfl (w.heap.size + 1) 0 rfl [.int .i64 p, .int .i64 o, .int .i64 f] _ (range_all K6) Try.underlying27 rfl rfl ?_)
      | (go_at_call 11; (with_reducible refine (cC _ hu).mono ?_); rintro e w7 ⟨Ay, cy, rfl, hlAy, hb7⟩; have HAy := Lib.hid hlAy; replace H0 := H0.calm hb7; replace K6 := K6.calm hb7; replace hu := hu.call hb7; clear hb7 cC hlAy)
      | (refine wpList_store_fresh rfl 25 (.tmp 18) (.tmp 68) rfl 25 _ _ rfl rfl (bkS hRy hFy) (bkZ hRy hFy) bk_one ?_))
    have H18 := Box.new w7 (bkC Ay Ly.length cy Ry Fy)
    replace H0 := H0.calm ((Calm.refl _).alloc (.cells (bkC Ay Ly.length cy Ry Fy).toArray 25))
    replace K6 := K6.calm ((Calm.refl _).alloc (.cells (bkC Ay Ly.length cy Ry Fy).toArray 25))
    replace HAy := Lib.hid (HAy.out.calm ((Calm.refl _).alloc (.cells (bkC Ay Ly.length cy Ry Fy).toArray 25)))
    replace hu := hu.alloc (.cells (bkC Ay Ly.length cy Ry Fy).toArray 25)
    generalize w7.heap.size = g18 at *
    generalize (w7.alloc (.cells (bkC Ay Ly.length cy Ry Fy).toArray 25)) = v4 at H0 K6 H18 HAy hu ⊢
    by_cases hx4 : X4 = 0
    · subst hx4
      have k0 := K6.pfs
      go_upto_region 14 with (first
        | (refine wpList_bareB (by kernel_rfl) ?_; refine wpList_load_mid rfl 25 (.tmp 18) rfl g18 0 rfl (bkC Ay Ly.length cy Ry Fy) _ (range_all H18) Try.underlying25 rfl (bkJ hRy hFy) ?_)
        | (go_at_call 22; (with_reducible refine (cS4 rfl _ _ _ H0 HAy.out hu).mono ?_); rintro e w8 ⟨rfl, hb8⟩; replace H0 := H0.calm hb8; replace K6 := K6.calm hb8; replace hu := hu.call hb8; clear hb8))
      clear k0
      clear H18 HAy
      go_upto_region 15 with (first
        | (refine wpList_load_mid rfl 25 (.tmp 5) rfl w.heap.size 0 rfl (bkC A l.length c R F) _ (range_all H0) Try.underlying25 rfl (bkJ hR hF) ?_)
        | (go_at_call 18; (with_reducible refine (cX _ hu).mono ?_); rintro e w9 ⟨Az, cz, rfl, hlAz, hb9⟩; have HAz := Lib.hid hlAz; replace H0 := H0.calm hb9; replace K6 := K6.calm hb9; replace hu := hu.call hb9; clear hb9 cX hlAz)
        | (refine wpList_store_fresh rfl 25 (.tmp 20) (.tmp 84) rfl 25 _ _ rfl rfl (bkS hRz hFz) (bkZ hRz hFz) bk_one ?_))
      have H20 := Box.new w9 (bkC Az Lz.length cz Rz Fz)
      replace H0 := H0.calm ((Calm.refl _).alloc (.cells (bkC Az Lz.length cz Rz Fz).toArray 25))
      replace K6 := K6.calm ((Calm.refl _).alloc (.cells (bkC Az Lz.length cz Rz Fz).toArray 25))
      replace HAz := Lib.hid (HAz.out.calm ((Calm.refl _).alloc (.cells (bkC Az Lz.length cz Rz Fz).toArray 25)))
      replace hu := hu.alloc (.cells (bkC Az Lz.length cz Rz Fz).toArray 25)
      generalize w9.heap.size = g20 at *
      generalize (w9.alloc (.cells (bkC Az Lz.length cz Rz Fz).toArray 25)) = v5 at H0 K6 H20 HAz hu ⊢
      by_cases hx5 : X5 = 0
      · subst hx5
        have HU := Lib.hid hu
        clear hu
        refine wp_region_stages [.val (.int .i64 0), .val (.bool false), .val (.bool false), .val (.func (.func 22) #[] #[(.pointer (some ⟨w.heap.size, 0, none⟩))]), .val (.agg (bkC Az Lz.length cz Rz Fz).toArray), .val (.string S), .late, .late [6], .late [7], .late [8], .late [9]] [6, 7, 8, 9, 10]
          (FreeS [6, 7, 8, 9, 10] (ApF m0) v5) (by kernel_rfl) (by kernel_rfl) (by kernel_rfl) (FreeS.stay apF_stay) (fun Y => FreeS.start (Calm.refl _).drew) (fun Y => ?_)
        iterate 4
          refine planS_val (by kernel_rfl) (fun L9 u hb hS => ?_) ?_
          · clear hS hb
            go_simp
          simp only [Act.put, List.setIfInBounds_toArray, List.set_cons_zero, List.set_cons_succ, Nat.reduceAdd]
        refine planS_val (by kernel_rfl) (fun L9 u hb hS => ?_) ?_
        · have hc := hS.1
          exact quiet_load 25 _ rfl g20 rfl (bkC Az Lz.length cz Rz Fz) _ (range_all (H20.calm hc)) Try.underlying25 rfl (bkJ hRz hFz) (Calm.refl _)
        simp only [Act.put, List.setIfInBounds_toArray, List.set_cons_zero, List.set_cons_succ, Nat.reduceAdd]
        refine planS_val (by kernel_rfl) (fun L9 u hb hS => ?_) ?_
        · clear hS hb
          go_simp
        simp only [Act.put, List.setIfInBounds_toArray, List.set_cons_zero, List.set_cons_succ, Nat.reduceAdd]
        refine planS_late (fun L9 u hi hb hS => ?_) ?_
        · have hc := hS.1
          have H := Lib.hid (fun (y : Value) (u' : World) (hb' : Calm u u') (hn : ∃ (a b : Int) (ao : Option Addr) (n c : Nat), y = .agg #[.int .i64 m0, .int .i64 a, .int .i64 b, .slice ao n c, .int .i64 0]) => (FreeS.do apF_stay hS hb' (i := 6) (show ApF m0 6 y u' from hn) : FreeS [6, 7, 8, 9, 10] (ApF m0) v5 ([6, 7, 8, 9, 10].map (updB L9 6)) (updV Y 6 y) u'))
          clear hS hb hi hc
          go_wp2_with (go_at_call 19; (with_reducible refine (cR rfl _).mono ?_); rintro e w10 ⟨ao, n', c', rfl, hk⟩; have HK := Lib.hid hk; clear hk)
          exact H.out _ w10 HK.out ⟨_, _, _, _, _, rfl⟩
        simp only [Act.put, List.setIfInBounds_toArray, List.set_cons_zero, List.set_cons_succ, Nat.reduceAdd]
        refine planS_late (fun L9 u hi hb hS => ?_) ?_
        · have hc := hS.1
          have H := Lib.hid (fun (y : Value) (u' : World) (hb' : Calm u u') (hn : y = .int .i64 m0) => (FreeS.do apF_stay hS hb' (i := 7) (show ApF m0 7 y u' from hn) : FreeS [6, 7, 8, 9, 10] (ApF m0) v5 ([6, 7, 8, 9, 10].map (updB L9 7)) (updV Y 7 y) u'))
          obtain ⟨a6, b6, ao6, n6, c6, e6⟩ := (show ∃ (a b : Int) (ao : Option Addr) (n c : Nat), Y 6 = .agg #[.int .i64 m0, .int .i64 a, .int .i64 b, .slice ao n c, .int .i64 0] from FreeS.get hS (i := 6) (by decide) (hb 6 (by simp)))
          rw [e6]
          clear e6
          clear hS hb hi hc
          refine wpList_bareB (by kernel_rfl) ?_
          have qf := fun u : World => run_fieldP m0 a6 b6 ao6 n6 c6 0 u
          go_wp2_with fail
          exact H.out _ u (Calm.refl _) rfl
        simp only [Act.put, List.setIfInBounds_toArray, List.set_cons_zero, List.set_cons_succ, Nat.reduceAdd]
        refine planS_late (fun L9 u hi hb hS => ?_) ?_
        · have hc := hS.1
          have H := Lib.hid (fun (y : Value) (u' : World) (hb' : Calm u u') (hn : y = .bool true) => (FreeS.do apF_stay hS hb' (i := 8) (show ApF m0 8 y u' from hn) : FreeS [6, 7, 8, 9, 10] (ApF m0) v5 ([6, 7, 8, 9, 10].map (updB L9 8)) (updV Y 8 y) u'))
          have e7 := (show Y 7 = .int .i64 m0 from FreeS.get hS (i := 7) (by decide) (hb 7 (by simp)))
          rw [e7]
          clear e7
          have cS := cS5 rfl _ cz u (H0.calm hc) (HAz.out.calm hc) (HU.out.call hc)
          clear hS hb hi hc
          go_wp2_with (go_at_call 22; (with_reducible refine cS.mono ?_); rintro e w10 ⟨rfl, hk⟩; have HK := Lib.hid hk; clear hk)
          exact H.out _ w10 HK.out rfl
        simp only [Act.put, List.setIfInBounds_toArray, List.set_cons_zero, List.set_cons_succ, Nat.reduceAdd]
        refine planS_late (fun L9 u hi hb hS => ?_) ?_
        · have hc := hS.1
          have H := Lib.hid (fun (y : Value) (u' : World) (hb' : Calm u u') (hn : y = .bool true) => (FreeS.do apF_stay hS hb' (i := 9) (show ApF m0 9 y u' from hn) : FreeS [6, 7, 8, 9, 10] (ApF m0) v5 ([6, 7, 8, 9, 10].map (updB L9 9)) (updV Y 9 y) u'))
          have e8 := (show Y 8 = .bool true from FreeS.get hS (i := 8) (by decide) (hb 8 (by simp)))
          rw [e8]
          clear e8
          clear hS hb hi hc
          go_wp2_with fail
          exact H.out _ u (Calm.refl _) rfl
        simp only [Act.put, List.setIfInBounds_toArray, List.set_cons_zero, List.set_cons_succ, Nat.reduceAdd]
        refine planS_late (fun L9 u hi hb hS => ?_) ?_
        · have hc := hS.1
          have H := Lib.hid (fun (y : Value) (u' : World) (hb' : Calm u u') (hn : y = .bool true) => (FreeS.do apF_stay hS hb' (i := 10) (show ApF m0 10 y u' from hn) : FreeS [6, 7, 8, 9, 10] (ApF m0) v5 ([6, 7, 8, 9, 10].map (updB L9 10)) (updV Y 10 y) u'))
          have e9 := (show Y 9 = .bool true from FreeS.get hS (i := 9) (by decide) (hb 9 (by simp)))
          rw [e9]
          clear e9
          clear hS hb hi hc
          go_wp2_with fail
          exact H.out _ u (Calm.refl _) rfl
        simp only [Act.put, List.setIfInBounds_toArray, List.set_cons_zero, List.set_cons_succ, Nat.reduceAdd]
        try simp only [Act.put, Nat.reduceAdd]
        refine planS_end ?_
        intro w11 hS
        have hc := hS.1
        have e10 := (show Y 10 = .bool true from FreeS.get (L := fun _ => true) hS (i := 10) (by decide) rfl)
        rw [e10]
        clear hS e10
        go_wp2_with fail
        go_ret
        exact ⟨rfl, HU.out.call hc⟩
      · have b1 : (X5 != 0) = true := by simpa using hx5
        have HU := Lib.hid hu
        clear hu
        refine wp_region_plan [.val (.int .i64 (X5)), .val (.bool true), .val (.bool true), .idle, .idle, .idle, .idle, .idle, .idle, .val (.bool true), .val (.bool true)] (by kernel_rfl) (by kernel_rfl) (by kernel_rfl) ?_
        intro X
        iterate 3
          refine plan_val (by kernel_rfl) (fun u hu => ?_) ?_
          · obtain ⟨hc, hf, hz⟩ := hu.of_drew.facts
            go_simp
            all_goals first
              | ((simp; done))
              | (assumption)
          simp only [Act.put, List.setIfInBounds_toArray, List.set_cons_zero, List.set_cons_succ, Nat.reduceAdd]
        iterate 6
          refine plan_idle (by kernel_rfl) ?_
          simp only [Act.put, List.setIfInBounds_toArray, List.set_cons_zero, List.set_cons_succ, Nat.reduceAdd]
        iterate 2
          refine plan_val (by kernel_rfl) (fun u hu => ?_) ?_
          · obtain ⟨hc, hf, hz⟩ := hu.of_drew.facts
            go_simp
            all_goals first
              | ((simp; done))
              | (assumption)
          simp only [Act.put, List.setIfInBounds_toArray, List.set_cons_zero, List.set_cons_succ, Nat.reduceAdd]
        refine plan_end ?_
        intro w' hB
        have hk := hB.calm.of_drew
        clear hB
        have hu := HU.out.call hk
        go_wp2_with fail
        go_ret
        exact ⟨rfl, hu⟩
    · clear cS4
      have b1 : (X4 == 0) = false := by simpa using hx4
      go_upto_region 14 with fail
      clear b1
      clear H18 HAy
      go_upto_region 15 with (first
        | (refine wpList_load_mid rfl 25 (.tmp 5) rfl w.heap.size 0 rfl (bkC A l.length c R F) _ (range_all H0) Try.underlying25 rfl (bkJ hR hF) ?_)
        | (go_at_call 18; (with_reducible refine (cX _ hu).mono ?_); rintro e w9 ⟨Az, cz, rfl, hlAz, hb9⟩; have HAz := Lib.hid hlAz; replace H0 := H0.calm hb9; replace K6 := K6.calm hb9; replace hu := hu.call hb9; clear hb9 cX hlAz)
        | (refine wpList_store_fresh rfl 25 (.tmp 20) (.tmp 84) rfl 25 _ _ rfl rfl (bkS hRz hFz) (bkZ hRz hFz) bk_one ?_))
      have H20 := Box.new w9 (bkC Az Lz.length cz Rz Fz)
      replace H0 := H0.calm ((Calm.refl _).alloc (.cells (bkC Az Lz.length cz Rz Fz).toArray 25))
      replace K6 := K6.calm ((Calm.refl _).alloc (.cells (bkC Az Lz.length cz Rz Fz).toArray 25))
      replace HAz := Lib.hid (HAz.out.calm ((Calm.refl _).alloc (.cells (bkC Az Lz.length cz Rz Fz).toArray 25)))
      replace hu := hu.alloc (.cells (bkC Az Lz.length cz Rz Fz).toArray 25)
      generalize w9.heap.size = g20 at *
      generalize (w9.alloc (.cells (bkC Az Lz.length cz Rz Fz).toArray 25)) = v5 at H0 K6 H20 HAz hu ⊢
      by_cases hx5 : X5 = 0
      · subst hx5
        have HU := Lib.hid hu
        clear hu
        refine wp_region_stages [.val (.int .i64 0), .val (.bool false), .val (.bool false), .val (.func (.func 22) #[] #[(.pointer (some ⟨w.heap.size, 0, none⟩))]), .val (.agg (bkC Az Lz.length cz Rz Fz).toArray), .val (.string S), .late, .late [6], .late [7], .late [8], .late [9]] [6, 7, 8, 9, 10]
          (FreeS [6, 7, 8, 9, 10] (ApF m0) v5) (by kernel_rfl) (by kernel_rfl) (by kernel_rfl) (FreeS.stay apF_stay) (fun Y => FreeS.start (Calm.refl _).drew) (fun Y => ?_)
        iterate 4
          refine planS_val (by kernel_rfl) (fun L9 u hb hS => ?_) ?_
          · clear hS hb
            go_simp
          simp only [Act.put, List.setIfInBounds_toArray, List.set_cons_zero, List.set_cons_succ, Nat.reduceAdd]
        refine planS_val (by kernel_rfl) (fun L9 u hb hS => ?_) ?_
        · have hc := hS.1
          exact quiet_load 25 _ rfl g20 rfl (bkC Az Lz.length cz Rz Fz) _ (range_all (H20.calm hc)) Try.underlying25 rfl (bkJ hRz hFz) (Calm.refl _)
        simp only [Act.put, List.setIfInBounds_toArray, List.set_cons_zero, List.set_cons_succ, Nat.reduceAdd]
        refine planS_val (by kernel_rfl) (fun L9 u hb hS => ?_) ?_
        · clear hS hb
          go_simp
        simp only [Act.put, List.setIfInBounds_toArray, List.set_cons_zero, List.set_cons_succ, Nat.reduceAdd]
        refine planS_late (fun L9 u hi hb hS => ?_) ?_
        · have hc := hS.1
          have H := Lib.hid (fun (y : Value) (u' : World) (hb' : Calm u u') (hn : ∃ (a b : Int) (ao : Option Addr) (n c : Nat), y = .agg #[.int .i64 m0, .int .i64 a, .int .i64 b, .slice ao n c, .int .i64 0]) => (FreeS.do apF_stay hS hb' (i := 6) (show ApF m0 6 y u' from hn) : FreeS [6, 7, 8, 9, 10] (ApF m0) v5 ([6, 7, 8, 9, 10].map (updB L9 6)) (updV Y 6 y) u'))
          clear hS hb hi hc
          go_wp2_with (go_at_call 19; (with_reducible refine (cR rfl _).mono ?_); rintro e w10 ⟨ao, n', c', rfl, hk⟩; have HK := Lib.hid hk; clear hk)
          exact H.out _ w10 HK.out ⟨_, _, _, _, _, rfl⟩
        simp only [Act.put, List.setIfInBounds_toArray, List.set_cons_zero, List.set_cons_succ, Nat.reduceAdd]
        refine planS_late (fun L9 u hi hb hS => ?_) ?_
        · have hc := hS.1
          have H := Lib.hid (fun (y : Value) (u' : World) (hb' : Calm u u') (hn : y = .int .i64 m0) => (FreeS.do apF_stay hS hb' (i := 7) (show ApF m0 7 y u' from hn) : FreeS [6, 7, 8, 9, 10] (ApF m0) v5 ([6, 7, 8, 9, 10].map (updB L9 7)) (updV Y 7 y) u'))
          obtain ⟨a6, b6, ao6, n6, c6, e6⟩ := (show ∃ (a b : Int) (ao : Option Addr) (n c : Nat), Y 6 = .agg #[.int .i64 m0, .int .i64 a, .int .i64 b, .slice ao n c, .int .i64 0] from FreeS.get hS (i := 6) (by decide) (hb 6 (by simp)))
          rw [e6]
          clear e6
          clear hS hb hi hc
          refine wpList_bareB (by kernel_rfl) ?_
          have qf := fun u : World => run_fieldP m0 a6 b6 ao6 n6 c6 0 u
          go_wp2_with fail
          exact H.out _ u (Calm.refl _) rfl
        simp only [Act.put, List.setIfInBounds_toArray, List.set_cons_zero, List.set_cons_succ, Nat.reduceAdd]
        refine planS_late (fun L9 u hi hb hS => ?_) ?_
        · have hc := hS.1
          have H := Lib.hid (fun (y : Value) (u' : World) (hb' : Calm u u') (hn : y = .bool true) => (FreeS.do apF_stay hS hb' (i := 8) (show ApF m0 8 y u' from hn) : FreeS [6, 7, 8, 9, 10] (ApF m0) v5 ([6, 7, 8, 9, 10].map (updB L9 8)) (updV Y 8 y) u'))
          have e7 := (show Y 7 = .int .i64 m0 from FreeS.get hS (i := 7) (by decide) (hb 7 (by simp)))
          rw [e7]
          clear e7
          have cS := cS5 rfl _ cz u (H0.calm hc) (HAz.out.calm hc) (HU.out.call hc)
          clear hS hb hi hc
          go_wp2_with (go_at_call 22; (with_reducible refine cS.mono ?_); rintro e w10 ⟨rfl, hk⟩; have HK := Lib.hid hk; clear hk)
          exact H.out _ w10 HK.out rfl
        simp only [Act.put, List.setIfInBounds_toArray, List.set_cons_zero, List.set_cons_succ, Nat.reduceAdd]
        refine planS_late (fun L9 u hi hb hS => ?_) ?_
        · have hc := hS.1
          have H := Lib.hid (fun (y : Value) (u' : World) (hb' : Calm u u') (hn : y = .bool true) => (FreeS.do apF_stay hS hb' (i := 9) (show ApF m0 9 y u' from hn) : FreeS [6, 7, 8, 9, 10] (ApF m0) v5 ([6, 7, 8, 9, 10].map (updB L9 9)) (updV Y 9 y) u'))
          have e8 := (show Y 8 = .bool true from FreeS.get hS (i := 8) (by decide) (hb 8 (by simp)))
          rw [e8]
          clear e8
          clear hS hb hi hc
          go_wp2_with fail
          exact H.out _ u (Calm.refl _) rfl
        simp only [Act.put, List.setIfInBounds_toArray, List.set_cons_zero, List.set_cons_succ, Nat.reduceAdd]
        refine planS_late (fun L9 u hi hb hS => ?_) ?_
        · have hc := hS.1
          have H := Lib.hid (fun (y : Value) (u' : World) (hb' : Calm u u') (hn : y = .bool true) => (FreeS.do apF_stay hS hb' (i := 10) (show ApF m0 10 y u' from hn) : FreeS [6, 7, 8, 9, 10] (ApF m0) v5 ([6, 7, 8, 9, 10].map (updB L9 10)) (updV Y 10 y) u'))
          have e9 := (show Y 9 = .bool true from FreeS.get hS (i := 9) (by decide) (hb 9 (by simp)))
          rw [e9]
          clear e9
          clear hS hb hi hc
          go_wp2_with fail
          exact H.out _ u (Calm.refl _) rfl
        simp only [Act.put, List.setIfInBounds_toArray, List.set_cons_zero, List.set_cons_succ, Nat.reduceAdd]
        try simp only [Act.put, Nat.reduceAdd]
        refine planS_end ?_
        intro w11 hS
        have hc := hS.1
        have e10 := (show Y 10 = .bool true from FreeS.get (L := fun _ => true) hS (i := 10) (by decide) rfl)
        rw [e10]
        clear hS e10
        go_wp2_with fail
        go_ret
        exact ⟨rfl, HU.out.call hc⟩
      · have b1 : (X5 != 0) = true := by simpa using hx5
        have HU := Lib.hid hu
        clear hu
        refine wp_region_plan [.val (.int .i64 (X5)), .val (.bool true), .val (.bool true), .idle, .idle, .idle, .idle, .idle, .idle, .val (.bool true), .val (.bool true)] (by kernel_rfl) (by kernel_rfl) (by kernel_rfl) ?_
        intro X
        iterate 3
          refine plan_val (by kernel_rfl) (fun u hu => ?_) ?_
          · obtain ⟨hc, hf, hz⟩ := hu.of_drew.facts
            go_simp
            all_goals first
              | ((simp; done))
              | (assumption)
          simp only [Act.put, List.setIfInBounds_toArray, List.set_cons_zero, List.set_cons_succ, Nat.reduceAdd]
        iterate 6
          refine plan_idle (by kernel_rfl) ?_
          simp only [Act.put, List.setIfInBounds_toArray, List.set_cons_zero, List.set_cons_succ, Nat.reduceAdd]
        iterate 2
          refine plan_val (by kernel_rfl) (fun u hu => ?_) ?_
          · obtain ⟨hc, hf, hz⟩ := hu.of_drew.facts
            go_simp
            all_goals first
              | ((simp; done))
              | (assumption)
          simp only [Act.put, List.setIfInBounds_toArray, List.set_cons_zero, List.set_cons_succ, Nat.reduceAdd]
        refine plan_end ?_
        intro w' hB
        have hk := hB.calm.of_drew
        clear hB
        have hu := HU.out.call hk
        go_wp2_with fail
        go_ret
        exact ⟨rfl, hu⟩
  · clear cS3
    have b1 : (X3 == 0) = false := by simpa using hx3
    go_upto_region 11 with fail
    clear b1
    clear H16 HAx
    go_upto_region 12 with (first
      | (refine wpList_load_mid rfl 25 (.tmp 5) rfl w.heap.size 0 rfl (bkC A l.length c R F) _ (range_all H0) Try.underlying25 rfl (bkJ hR hF) ?_)
      | (refine wpList_load_mid rfl 27 (.tmp 6) rfl (w.heap.size + 1) 0 rfl [.int .i64 p, .int .i64 o, .int .i64 f] _ (range_all K6) Try.underlying27 rfl rfl ?_)
      | (go_at_call 11; (with_reducible refine (cC _ hu).mono ?_); rintro e w7 ⟨Ay, cy, rfl, hlAy, hb7⟩; have HAy := Lib.hid hlAy; replace H0 := H0.calm hb7; replace K6 := K6.calm hb7; replace hu := hu.call hb7; clear hb7 cC hlAy)
      | (refine wpList_store_fresh rfl 25 (.tmp 18) (.tmp 68) rfl 25 _ _ rfl rfl (bkS hRy hFy) (bkZ hRy hFy) bk_one ?_))
    have H18 := Box.new w7 (bkC Ay Ly.length cy Ry Fy)
    replace H0 := H0.calm ((Calm.refl _).alloc (.cells (bkC Ay Ly.length cy Ry Fy).toArray 25))
    replace K6 := K6.calm ((Calm.refl _).alloc (.cells (bkC Ay Ly.length cy Ry Fy).toArray 25))
    replace HAy := Lib.hid (HAy.out.calm ((Calm.refl _).alloc (.cells (bkC Ay Ly.length cy Ry Fy).toArray 25)))
    replace hu := hu.alloc (.cells (bkC Ay Ly.length cy Ry Fy).toArray 25)
    generalize w7.heap.size = g18 at *
    generalize (w7.alloc (.cells (bkC Ay Ly.length cy Ry Fy).toArray 25)) = v4 at H0 K6 H18 HAy hu ⊢
    by_cases hx4 : X4 = 0
    · subst hx4
      have k0 := K6.pfs
      go_upto_region 14 with (first
        | (refine wpList_bareB (by kernel_rfl) ?_; refine wpList_load_mid rfl 25 (.tmp 18) rfl g18 0 rfl (bkC Ay Ly.length cy Ry Fy) _ (range_all H18) Try.underlying25 rfl (bkJ hRy hFy) ?_)
        | (go_at_call 22; (with_reducible refine (cS4 rfl _ _ _ H0 HAy.out hu).mono ?_); rintro e w8 ⟨rfl, hb8⟩; replace H0 := H0.calm hb8; replace K6 := K6.calm hb8; replace hu := hu.call hb8; clear hb8))
      clear k0
      clear H18 HAy
      go_upto_region 15 with (first
        | (refine wpList_load_mid rfl 25 (.tmp 5) rfl w.heap.size 0 rfl (bkC A l.length c R F) _ (range_all H0) Try.underlying25 rfl (bkJ hR hF) ?_)
        | (go_at_call 18; (with_reducible refine (cX _ hu).mono ?_); rintro e w9 ⟨Az, cz, rfl, hlAz, hb9⟩; have HAz := Lib.hid hlAz; replace H0 := H0.calm hb9; replace K6 := K6.calm hb9; replace hu := hu.call hb9; clear hb9 cX hlAz)
        | (refine wpList_store_fresh rfl 25 (.tmp 20) (.tmp 84) rfl 25 _ _ rfl rfl (bkS hRz hFz) (bkZ hRz hFz) bk_one ?_))
      have H20 := Box.new w9 (bkC Az Lz.length cz Rz Fz)
      replace H0 := H0.calm ((Calm.refl _).alloc (.cells (bkC Az Lz.length cz Rz Fz).toArray 25))
      replace K6 := K6.calm ((Calm.refl _).alloc (.cells (bkC Az Lz.length cz Rz Fz).toArray 25))
      replace HAz := Lib.hid (HAz.out.calm ((Calm.refl _).alloc (.cells (bkC Az Lz.length cz Rz Fz).toArray 25)))
      replace hu := hu.alloc (.cells (bkC Az Lz.length cz Rz Fz).toArray 25)
      generalize w9.heap.size = g20 at *
      generalize (w9.alloc (.cells (bkC Az Lz.length cz Rz Fz).toArray 25)) = v5 at H0 K6 H20 HAz hu ⊢
      by_cases hx5 : X5 = 0
      · subst hx5
        have HU := Lib.hid hu
        clear hu
        refine wp_region_stages [.val (.int .i64 0), .val (.bool false), .val (.bool false), .val (.func (.func 22) #[] #[(.pointer (some ⟨w.heap.size, 0, none⟩))]), .val (.agg (bkC Az Lz.length cz Rz Fz).toArray), .val (.string S), .late, .late [6], .late [7], .late [8], .late [9]] [6, 7, 8, 9, 10]
          (FreeS [6, 7, 8, 9, 10] (ApF m0) v5) (by kernel_rfl) (by kernel_rfl) (by kernel_rfl) (FreeS.stay apF_stay) (fun Y => FreeS.start (Calm.refl _).drew) (fun Y => ?_)
        iterate 4
          refine planS_val (by kernel_rfl) (fun L9 u hb hS => ?_) ?_
          · clear hS hb
            go_simp
          simp only [Act.put, List.setIfInBounds_toArray, List.set_cons_zero, List.set_cons_succ, Nat.reduceAdd]
        refine planS_val (by kernel_rfl) (fun L9 u hb hS => ?_) ?_
        · have hc := hS.1
          exact quiet_load 25 _ rfl g20 rfl (bkC Az Lz.length cz Rz Fz) _ (range_all (H20.calm hc)) Try.underlying25 rfl (bkJ hRz hFz) (Calm.refl _)
        simp only [Act.put, List.setIfInBounds_toArray, List.set_cons_zero, List.set_cons_succ, Nat.reduceAdd]
        refine planS_val (by kernel_rfl) (fun L9 u hb hS => ?_) ?_
        · clear hS hb
          go_simp
        simp only [Act.put, List.setIfInBounds_toArray, List.set_cons_zero, List.set_cons_succ, Nat.reduceAdd]
        refine planS_late (fun L9 u hi hb hS => ?_) ?_
        · have hc := hS.1
          have H := Lib.hid (fun (y : Value) (u' : World) (hb' : Calm u u') (hn : ∃ (a b : Int) (ao : Option Addr) (n c : Nat), y = .agg #[.int .i64 m0, .int .i64 a, .int .i64 b, .slice ao n c, .int .i64 0]) => (FreeS.do apF_stay hS hb' (i := 6) (show ApF m0 6 y u' from hn) : FreeS [6, 7, 8, 9, 10] (ApF m0) v5 ([6, 7, 8, 9, 10].map (updB L9 6)) (updV Y 6 y) u'))
          clear hS hb hi hc
          go_wp2_with (go_at_call 19; (with_reducible refine (cR rfl _).mono ?_); rintro e w10 ⟨ao, n', c', rfl, hk⟩; have HK := Lib.hid hk; clear hk)
          exact H.out _ w10 HK.out ⟨_, _, _, _, _, rfl⟩
        simp only [Act.put, List.setIfInBounds_toArray, List.set_cons_zero, List.set_cons_succ, Nat.reduceAdd]
        refine planS_late (fun L9 u hi hb hS => ?_) ?_
        · have hc := hS.1
          have H := Lib.hid (fun (y : Value) (u' : World) (hb' : Calm u u') (hn : y = .int .i64 m0) => (FreeS.do apF_stay hS hb' (i := 7) (show ApF m0 7 y u' from hn) : FreeS [6, 7, 8, 9, 10] (ApF m0) v5 ([6, 7, 8, 9, 10].map (updB L9 7)) (updV Y 7 y) u'))
          obtain ⟨a6, b6, ao6, n6, c6, e6⟩ := (show ∃ (a b : Int) (ao : Option Addr) (n c : Nat), Y 6 = .agg #[.int .i64 m0, .int .i64 a, .int .i64 b, .slice ao n c, .int .i64 0] from FreeS.get hS (i := 6) (by decide) (hb 6 (by simp)))
          rw [e6]
          clear e6
          clear hS hb hi hc
          refine wpList_bareB (by kernel_rfl) ?_
          have qf := fun u : World => run_fieldP m0 a6 b6 ao6 n6 c6 0 u
          go_wp2_with fail
          exact H.out _ u (Calm.refl _) rfl
        simp only [Act.put, List.setIfInBounds_toArray, List.set_cons_zero, List.set_cons_succ, Nat.reduceAdd]
        refine planS_late (fun L9 u hi hb hS => ?_) ?_
        · have hc := hS.1
          have H := Lib.hid (fun (y : Value) (u' : World) (hb' : Calm u u') (hn : y = .bool true) => (FreeS.do apF_stay hS hb' (i := 8) (show ApF m0 8 y u' from hn) : FreeS [6, 7, 8, 9, 10] (ApF m0) v5 ([6, 7, 8, 9, 10].map (updB L9 8)) (updV Y 8 y) u'))
          have e7 := (show Y 7 = .int .i64 m0 from FreeS.get hS (i := 7) (by decide) (hb 7 (by simp)))
          rw [e7]
          clear e7
          have cS := cS5 rfl _ cz u (H0.calm hc) (HAz.out.calm hc) (HU.out.call hc)
          clear hS hb hi hc
          go_wp2_with (go_at_call 22; (with_reducible refine cS.mono ?_); rintro e w10 ⟨rfl, hk⟩; have HK := Lib.hid hk; clear hk)
          exact H.out _ w10 HK.out rfl
        simp only [Act.put, List.setIfInBounds_toArray, List.set_cons_zero, List.set_cons_succ, Nat.reduceAdd]
        refine planS_late (fun L9 u hi hb hS => ?_) ?_
        · have hc := hS.1
          have H := Lib.hid (fun (y : Value) (u' : World) (hb' : Calm u u') (hn : y = .bool true) => (FreeS.do apF_stay hS hb' (i := 9) (show ApF m0 9 y u' from hn) : FreeS [6, 7, 8, 9, 10] (ApF m0) v5 ([6, 7, 8, 9, 10].map (updB L9 9)) (updV Y 9 y) u'))
          have e8 := (show Y 8 = .bool true from FreeS.get hS (i := 8) (by decide) (hb 8 (by simp)))
          rw [e8]
          clear e8
          clear hS hb hi hc
          go_wp2_with fail
          exact H.out _ u (Calm.refl _) rfl
        simp only [Act.put, List.setIfInBounds_toArray, List.set_cons_zero, List.set_cons_succ, Nat.reduceAdd]
        refine planS_late (fun L9 u hi hb hS => ?_) ?_
        · have hc := hS.1
          have H := Lib.hid (fun (y : Value) (u' : World) (hb' : Calm u u') (hn : y = .bool true) => (FreeS.do apF_stay hS hb' (i := 10) (show ApF m0 10 y u' from hn) : FreeS [6, 7, 8, 9, 10] (ApF m0) v5 ([6, 7, 8, 9, 10].map (updB L9 10)) (updV Y 10 y) u'))
          have e9 := (show Y 9 = .bool true from FreeS.get hS (i := 9) (by decide) (hb 9 (by simp)))
          rw [e9]
          clear e9
          clear hS hb hi hc
          go_wp2_with fail
          exact H.out _ u (Calm.refl _) rfl
        simp only [Act.put, List.setIfInBounds_toArray, List.set_cons_zero, List.set_cons_succ, Nat.reduceAdd]
        try simp only [Act.put, Nat.reduceAdd]
        refine planS_end ?_
        intro w11 hS
        have hc := hS.1
        have e10 := (show Y 10 = .bool true from FreeS.get (L := fun _ => true) hS (i := 10) (by decide) rfl)
        rw [e10]
        clear hS e10
        go_wp2_with fail
        go_ret
        exact ⟨rfl, HU.out.call hc⟩
      · have b1 : (X5 != 0) = true := by simpa using hx5
        have HU := Lib.hid hu
        clear hu
        refine wp_region_plan [.val (.int .i64 (X5)), .val (.bool true), .val (.bool true), .idle, .idle, .idle, .idle, .idle, .idle, .val (.bool true), .val (.bool true)] (by kernel_rfl) (by kernel_rfl) (by kernel_rfl) ?_
        intro X
        iterate 3
          refine plan_val (by kernel_rfl) (fun u hu => ?_) ?_
          · obtain ⟨hc, hf, hz⟩ := hu.of_drew.facts
            go_simp
            all_goals first
              | ((simp; done))
              | (assumption)
          simp only [Act.put, List.setIfInBounds_toArray, List.set_cons_zero, List.set_cons_succ, Nat.reduceAdd]
        iterate 6
          refine plan_idle (by kernel_rfl) ?_
          simp only [Act.put, List.setIfInBounds_toArray, List.set_cons_zero, List.set_cons_succ, Nat.reduceAdd]
        iterate 2
          refine plan_val (by kernel_rfl) (fun u hu => ?_) ?_
          · obtain ⟨hc, hf, hz⟩ := hu.of_drew.facts
            go_simp
            all_goals first
              | ((simp; done))
              | (assumption)
          simp only [Act.put, List.setIfInBounds_toArray, List.set_cons_zero, List.set_cons_succ, Nat.reduceAdd]
        refine plan_end ?_
        intro w' hB
        have hk := hB.calm.of_drew
        clear hB
        have hu := HU.out.call hk
        go_wp2_with fail
        go_ret
        exact ⟨rfl, hu⟩
    · clear cS4
      have b1 : (X4 == 0) = false := by simpa using hx4
      go_upto_region 14 with fail
      clear b1
      clear H18 HAy
      go_upto_region 15 with (first
        | (refine wpList_load_mid rfl 25 (.tmp 5) rfl w.heap.size 0 rfl (bkC A l.length c R F) _ (range_all H0) Try.underlying25 rfl (bkJ hR hF) ?_)
        | (go_at_call 18; (with_reducible refine (cX _ hu).mono ?_); rintro e w9 ⟨Az, cz, rfl, hlAz, hb9⟩; have HAz := Lib.hid hlAz; replace H0 := H0.calm hb9; replace K6 := K6.calm hb9; replace hu := hu.call hb9; clear hb9 cX hlAz)
        | (refine wpList_store_fresh rfl 25 (.tmp 20) (.tmp 84) rfl 25 _ _ rfl rfl (bkS hRz hFz) (bkZ hRz hFz) bk_one ?_))
      have H20 := Box.new w9 (bkC Az Lz.length cz Rz Fz)
      replace H0 := H0.calm ((Calm.refl _).alloc (.cells (bkC Az Lz.length cz Rz Fz).toArray 25))
      replace K6 := K6.calm ((Calm.refl _).alloc (.cells (bkC Az Lz.length cz Rz Fz).toArray 25))
      replace HAz := Lib.hid (HAz.out.calm ((Calm.refl _).alloc (.cells (bkC Az Lz.length cz Rz Fz).toArray 25)))
      replace hu := hu.alloc (.cells (bkC Az Lz.length cz Rz Fz).toArray 25)
      generalize w9.heap.size = g20 at *
      generalize (w9.alloc (.cells (bkC Az Lz.length cz Rz Fz).toArray 25)) = v5 at H0 K6 H20 HAz hu ⊢
      by_cases hx5 : X5 = 0
      · subst hx5
        have HU := Lib.hid hu
        clear hu
        refine wp_region_stages [.val (.int .i64 0), .val (.bool false), .val (.bool false), .val (.func (.func 22) #[] #[(.pointer (some ⟨w.heap.size, 0, none⟩))]), .val (.agg (bkC Az Lz.length cz Rz Fz).toArray), .val (.string S), .late, .late [6], .late [7], .late [8], .late [9]] [6, 7, 8, 9, 10]
          (FreeS [6, 7, 8, 9, 10] (ApF m0) v5) (by kernel_rfl) (by kernel_rfl) (by kernel_rfl) (FreeS.stay apF_stay) (fun Y => FreeS.start (Calm.refl _).drew) (fun Y => ?_)
        iterate 4
          refine planS_val (by kernel_rfl) (fun L9 u hb hS => ?_) ?_
          · clear hS hb
            go_simp
          simp only [Act.put, List.setIfInBounds_toArray, List.set_cons_zero, List.set_cons_succ, Nat.reduceAdd]
        refine planS_val (by kernel_rfl) (fun L9 u hb hS => ?_) ?_
        · have hc := hS.1
          exact quiet_load 25 _ rfl g20 rfl (bkC Az Lz.length cz Rz Fz) _ (range_all (H20.calm hc)) Try.underlying25 rfl (bkJ hRz hFz) (Calm.refl _)
        simp only [Act.put, List.setIfInBounds_toArray, List.set_cons_zero, List.set_cons_succ, Nat.reduceAdd]
        refine planS_val (by kernel_rfl) (fun L9 u hb hS => ?_) ?_
        · clear hS hb
          go_simp
        simp only [Act.put, List.setIfInBounds_toArray, List.set_cons_zero, List.set_cons_succ, Nat.reduceAdd]
        refine planS_late (fun L9 u hi hb hS => ?_) ?_
        · have hc := hS.1
          have H := Lib.hid (fun (y : Value) (u' : World) (hb' : Calm u u') (hn : ∃ (a b : Int) (ao : Option Addr) (n c : Nat), y = .agg #[.int .i64 m0, .int .i64 a, .int .i64 b, .slice ao n c, .int .i64 0]) => (FreeS.do apF_stay hS hb' (i := 6) (show ApF m0 6 y u' from hn) : FreeS [6, 7, 8, 9, 10] (ApF m0) v5 ([6, 7, 8, 9, 10].map (updB L9 6)) (updV Y 6 y) u'))
          clear hS hb hi hc
          go_wp2_with (go_at_call 19; (with_reducible refine (cR rfl _).mono ?_); rintro e w10 ⟨ao, n', c', rfl, hk⟩; have HK := Lib.hid hk; clear hk)
          exact H.out _ w10 HK.out ⟨_, _, _, _, _, rfl⟩
        simp only [Act.put, List.setIfInBounds_toArray, List.set_cons_zero, List.set_cons_succ, Nat.reduceAdd]
        refine planS_late (fun L9 u hi hb hS => ?_) ?_
        · have hc := hS.1
          have H := Lib.hid (fun (y : Value) (u' : World) (hb' : Calm u u') (hn : y = .int .i64 m0) => (FreeS.do apF_stay hS hb' (i := 7) (show ApF m0 7 y u' from hn) : FreeS [6, 7, 8, 9, 10] (ApF m0) v5 ([6, 7, 8, 9, 10].map (updB L9 7)) (updV Y 7 y) u'))
          obtain ⟨a6, b6, ao6, n6, c6, e6⟩ := (show ∃ (a b : Int) (ao : Option Addr) (n c : Nat), Y 6 = .agg #[.int .i64 m0, .int .i64 a, .int .i64 b, .slice ao n c, .int .i64 0] from FreeS.get hS (i := 6) (by decide) (hb 6 (by simp)))
          rw [e6]
          clear e6
          clear hS hb hi hc
          refine wpList_bareB (by kernel_rfl) ?_
          have qf := fun u : World => run_fieldP m0 a6 b6 ao6 n6 c6 0 u
          go_wp2_with fail
          exact H.out _ u (Calm.refl _) rfl
        simp only [Act.put, List.setIfInBounds_toArray, List.set_cons_zero, List.set_cons_succ, Nat.reduceAdd]
        refine planS_late (fun L9 u hi hb hS => ?_) ?_
        · have hc := hS.1
          have H := Lib.hid (fun (y : Value) (u' : World) (hb' : Calm u u') (hn : y = .bool true) => (FreeS.do apF_stay hS hb' (i := 8) (show ApF m0 8 y u' from hn) : FreeS [6, 7, 8, 9, 10] (ApF m0) v5 ([6, 7, 8, 9, 10].map (updB L9 8)) (updV Y 8 y) u'))
          have e7 := (show Y 7 = .int .i64 m0 from FreeS.get hS (i := 7) (by decide) (hb 7 (by simp)))
          rw [e7]
          clear e7
          have cS := cS5 rfl _ cz u (H0.calm hc) (HAz.out.calm hc) (HU.out.call hc)
          clear hS hb hi hc
          go_wp2_with (go_at_call 22; (with_reducible refine cS.mono ?_); rintro e w10 ⟨rfl, hk⟩; have HK := Lib.hid hk; clear hk)
          exact H.out _ w10 HK.out rfl
        simp only [Act.put, List.setIfInBounds_toArray, List.set_cons_zero, List.set_cons_succ, Nat.reduceAdd]
        refine planS_late (fun L9 u hi hb hS => ?_) ?_
        · have hc := hS.1
          have H := Lib.hid (fun (y : Value) (u' : World) (hb' : Calm u u') (hn : y = .bool true) => (FreeS.do apF_stay hS hb' (i := 9) (show ApF m0 9 y u' from hn) : FreeS [6, 7, 8, 9, 10] (ApF m0) v5 ([6, 7, 8, 9, 10].map (updB L9 9)) (updV Y 9 y) u'))
          have e8 := (show Y 8 = .bool true from FreeS.get hS (i := 8) (by decide) (hb 8 (by simp)))
          rw [e8]
          clear e8
          clear hS hb hi hc
          go_wp2_with fail
          exact H.out _ u (Calm.refl _) rfl
        simp only [Act.put, List.setIfInBounds_toArray, List.set_cons_zero, List.set_cons_succ, Nat.reduceAdd]
        refine planS_late (fun L9 u hi hb hS => ?_) ?_
        · have hc := hS.1
          have H := Lib.hid (fun (y : Value) (u' : World) (hb' : Calm u u') (hn : y = .bool true) => (FreeS.do apF_stay hS hb' (i := 10) (show ApF m0 10 y u' from hn) : FreeS [6, 7, 8, 9, 10] (ApF m0) v5 ([6, 7, 8, 9, 10].map (updB L9 10)) (updV Y 10 y) u'))
          have e9 := (show Y 9 = .bool true from FreeS.get hS (i := 9) (by decide) (hb 9 (by simp)))
          rw [e9]
          clear e9
          clear hS hb hi hc
          go_wp2_with fail
          exact H.out _ u (Calm.refl _) rfl
        simp only [Act.put, List.setIfInBounds_toArray, List.set_cons_zero, List.set_cons_succ, Nat.reduceAdd]
        try simp only [Act.put, Nat.reduceAdd]
        refine planS_end ?_
        intro w11 hS
        have hc := hS.1
        have e10 := (show Y 10 = .bool true from FreeS.get (L := fun _ => true) hS (i := 10) (by decide) rfl)
        rw [e10]
        clear hS e10
        go_wp2_with fail
        go_ret
        exact ⟨rfl, HU.out.call hc⟩
      · have b1 : (X5 != 0) = true := by simpa using hx5
        have HU := Lib.hid hu
        clear hu
        refine wp_region_plan [.val (.int .i64 (X5)), .val (.bool true), .val (.bool true), .idle, .idle, .idle, .idle, .idle, .idle, .val (.bool true), .val (.bool true)] (by kernel_rfl) (by kernel_rfl) (by kernel_rfl) ?_
        intro X
        iterate 3
          refine plan_val (by kernel_rfl) (fun u hu => ?_) ?_
          · obtain ⟨hc, hf, hz⟩ := hu.of_drew.facts
            go_simp
            all_goals first
              | ((simp; done))
              | (assumption)
          simp only [Act.put, List.setIfInBounds_toArray, List.set_cons_zero, List.set_cons_succ, Nat.reduceAdd]
        iterate 6
          refine plan_idle (by kernel_rfl) ?_
          simp only [Act.put, List.setIfInBounds_toArray, List.set_cons_zero, List.set_cons_succ, Nat.reduceAdd]
        iterate 2
          refine plan_val (by kernel_rfl) (fun u hu => ?_) ?_
          · obtain ⟨hc, hf, hz⟩ := hu.of_drew.facts
            go_simp
            all_goals first
              | ((simp; done))
              | (assumption)
          simp only [Act.put, List.setIfInBounds_toArray, List.set_cons_zero, List.set_cons_succ, Nat.reduceAdd]
        refine plan_end ?_
        intro w' hB
        have hk := hB.calm.of_drew
        clear hB
        have hu := HU.out.call hk
        go_wp2_with fail
        go_ret
        exact ⟨rfl, hu⟩
end Go.Proofs.Ytljjeolifdpedaa
