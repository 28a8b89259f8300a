/- Texts of one kind in one file. -/
import Derived.Test.YtljjeolifdpedaaPkRealmFeeds4
set_option maxRecDepth 100000
namespace Go.Proofs.Ytljjeolifdpedaa
open Go.ChangeShapes Go.WideShapes Go.ChangeAt Go.RowKit
theorem bkEnd_if {E : Int} {l : List El} {R F : List Int} {w w' : World} {e : Ending} (hw : E = 0 → ∀ e ∈ l, e.wf) (h : BkEnd E (if E = 0 then l else []) (if E = 0 then R else z16) (if E = 0 then F else z16) w e w') : ∃ A c, e = .returned (.tuple #[.agg (bkC A (if E = 0 then l else []).length c (if E = 0 then R else z16) (if E = 0 then F else z16)).toArray, .int .i64 E]) ∧ Lies w' A (if E = 0 then l else []) ∧ Calm w w' := by
 obtain ⟨A, c, h1, _, h3, _, h4⟩ := bkEnd_good (fun e he => by
  by_cases hE : E = 0
  ·rw [if_pos hE] at he; exact hw hE e he
  ·rw [if_neg hE] at he; exact absurd he (by simp)) h
 exact ⟨A, c, h1, h3, h4⟩
theorem len_if {E : Int} {R : List Int} (hR : R.length = 16) : (if E = 0 then R else z16).length = 16 := by split <;> first | exact hR | rfl
theorem Lies.aside {u u' : World} {A : Option Addr} {l : List El} {g : Nat} (h : Lies u A l) (hne : ∀ b q, A = some ⟨b, q, none⟩ → b ≠ g) (ho : ∀ j, j < u.heap.size → j ≠ g → u'.heap[j]? = u.heap[j]?) : Lies u' A l := by
 refine ⟨h.1, fun hp => ?_⟩
 obtain ⟨b, q, hA, hlt, hk⟩ := h.2 hp
 have hb := ho b hlt (hne b q hA)
 have key : ∀ j, u'.cell? ⟨b, j, none⟩ = u.cell? ⟨b, j, none⟩ := fun j => by
  simp only [World.cell?, hb]
 refine ⟨b, q, hA, ?_, fun k e he => ?_⟩
 ·rcases Nat.lt_or_ge b u'.heap.size with h1 | h1
  ·exact h1
  ·rw [Array.getElem?_eq_none h1, Array.getElem?_eq_getElem hlt] at hb; cases hb
 ·obtain ⟨e0, e1, e2, e3, e4, e5⟩ := hk k e he
  exact ⟨(key _).trans e0, (key _).trans e1, (key _).trans e2, (key _).trans e3, (key _).trans e4, (key _).trans e5⟩
theorem row5Q {u : World} {g : Nat} {t : TypeId} {a b c d e : Value} (h : u.heap[g]? = some (.cells #[a, b, c, d, e] t (0, 0))) : u.cell? ⟨g, 0, none⟩ = some a ∧ u.cell? ⟨g, 1, none⟩ = some b ∧ u.cell? ⟨g, 2, none⟩ = some c ∧ u.cell? ⟨g, 3, none⟩ = some d ∧ u.cell? ⟨g, 4, none⟩ = some e :=
 ⟨(cell_of_row _ _ 0 _ _ _ h).trans rfl, (cell_of_row _ _ 1 _ _ _ h).trans rfl, (cell_of_row _ _ 2 _ _ _ h).trans rfl, (cell_of_row _ _ 3 _ _ _ h).trans rfl, (cell_of_row _ _ 4 _ _ _ h).trans rfl⟩
def PB (u : World) (g : Nat) (x0 x1 x2 : Int) (A : Option Addr) (n c : Nat) (E : Int) : Prop := u.heap[g]? = some (.cells #[.int .i64 x0, .int .i64 x1, .int .i64 x2, .slice A n c, .int .i64 E] 43 (0, 0))
theorem PB.calm {u u' : World} {g : Nat} {x0 x1 x2 : Int} {A : Option Addr} {n c : Nat} {E : Int} (h : PB u g x0 x1 x2 A n c E) (hb : Calm u u') : PB u' g x0 x1 x2 A n c E := (hb.block (Array.getElem?_eq_some_iff.1 h).1).trans h
theorem PB.far {u : World} {g : Nat} {x0 x1 x2 : Int} {A : Option Addr} {n c : Nat} {E : Int} (h : PB u g x0 x1 x2 A n c E) {g' o : Nat} (hne : g ≠ g') (v : Value) : PB (u.setCell ⟨g', o, none⟩ v) g x0 x1 x2 A n c E := (Below.heap_setCell _ _ _ _ hne).trans h
theorem PB.cells {u : World} {g : Nat} {x0 x1 x2 : Int} {A : Option Addr} {n c : Nat} {E : Int} (h : PB u g x0 x1 x2 A n c E) : u.cell? ⟨g, 0, none⟩ = some (.int .i64 x0) ∧ u.cell? ⟨g, 1, none⟩ = some (.int .i64 x1) ∧ u.cell? ⟨g, 2, none⟩ = some (.int .i64 x2) ∧ u.cell? ⟨g, 3, none⟩ = some (.slice A n c) ∧ u.cell? ⟨g, 4, none⟩ = some (.int .i64 E) := row5Q h
set_option maxHeartbeats 16000000 in
theorem realmFeeds_walk (A : Option Addr) (c : Nat) (l : List El) (R F : List Int) (S : ByteArray) (w : World) (hn : l.length ≤ 9223372036854775807) (hlc : l.length ≤ c) (hL : Lies w A l) (hR : R.length = 16) (hF : F.length = 16) (hS : S.size ≤ 1048576) :
    Calls Try.prog 4 #[.agg (bkC A l.length c R F).toArray, .string S] w fun e w' => e = .returned (.bool true) ∧ Calm w w' := by
  obtain ⟨XE, hX⟩ : ∃ XE, rfErr l R F S.data.toList = XE := ⟨_, rfl⟩
  have hfw : XE = 0 → ∀ e ∈ fedL l (parL S.data.toList), e.wf := fun h => by
    have h1 := hX.trans h
    unfold rfErr at h1
    by_cases hB : bkErr l R F = 0
    · exact fedL_wfE (Good.wf (bkErr_zero hB).1) (parL_wf _)
    · rw [if_neg hB] at h1; exact absurd h1 hB
  have cX := fun u (hu : Calm w u) => (realmFeed_any A c l R F S u hn hlc (hL.calm hu) hR hF (by omega) XE hX).mono fun e w' h => bkEnd_if hfw h
  have cP := fun u => refParse_any S u (by omega)
  unfold ParEnd at cP
  have cK := fun u (hu : Calm w u) => refBook_any A c l R F u hn (hL.calm hu) hR hF
  obtain ⟨Lx, hLx⟩ : ∃ L, L = if XE = 0 then fedL l (parL S.data.toList) else [] := ⟨_, rfl⟩
  obtain ⟨Rx, hRx'⟩ : ∃ L, L = if XE = 0 then R else z16 := ⟨_, rfl⟩
  obtain ⟨Fx, hFx'⟩ : ∃ L, L = if XE = 0 then F.set (n0 S.data.toList).toNat (n2 S.data.toList) else z16 := ⟨_, rfl⟩
  have hRx : Rx.length = 16 := by rw [hRx']; exact len_if hR
  have hFx : Fx.length = 16 := by rw [hFx']; exact len_if (by rw [List.length_set, hF])
  rw [← hLx, ← hRx', ← hFx'] at cX
  have H0 : Box (w.alloc (.cells (bkC A l.length c R F).toArray 25)) w.heap.size (bkC A l.length c R F) := Box.new w _
  have hu := (Calm.refl w).alloc (.cells (bkC A l.length c R F).toArray 25)
  have tE : XE ≠ 0 → ∀ (Ax : Option Addr) (cx : Nat) u, Calm w u → Lies u Ax Lx → Calls Try.prog 13 #[.agg (bkC Ax Lx.length cx Rx Fx).toArray, .int .i64 XE, .agg (bkC A l.length c R F).toArray, .int .i64 XE] u fun e w' => e = .returned (.bool true) ∧ Calm u w' := fun h Ax cx u h1 h2 => by
    refine told_any Ax A cx c XE Lx l Rx Fx R F u hn h2 (hL.calm h1) hR hF (.inl ⟨h, ?_, ?_, ?_⟩)
    · rw [hLx, if_neg h]
    · rw [hRx', if_neg h]
    · rw [hFx', if_neg h]
  have hPw : ∀ e ∈ parL S.data.toList, e.wf := parL_wf S.data.toList
  have hPl : (parL S.data.toList).length ≤ 500000 := by
    have h5 := parL_len5 S.data.toList
    rw [bytes_len] at h5
    omega
  have hp5 := par_pfs (S := S.data.toList)
  have hq : Hid (XE = if bkErr l R F = 0 then (if parErr S.data.toList = 0 then (if gI R (n0 S.data.toList).toNat = 2 then (if gI F (n0 S.data.toList).toNat = n1 S.data.toList then fedErr l (parL S.data.toList) else 9) else 10) else parErr S.data.toList) else bkErr l R F) := show _ = _ from hX.symm
  have hG : bkErr l R F = 0 → l.length ≤ 400 := fun h => (bkErr_zero h).1.1
  have cD := fun (Ap : Option Addr) (cp : Nat) u (h4 : l.length ≤ 400) (hu : Calm w u) (hP : Lies u Ap (parL S.data.toList)) => refFed_any A Ap c cp l (parL S.data.toList) u h4 hPl (hL.calm hu) hP
  unfold OwEnd at cD
  have hfw2 : bkErr l R F = 0 → ∀ e ∈ (if fedErr l (parL S.data.toList) = 0 then fedL l (parL S.data.toList) else []), e.wf := fun h e he => by
    split at he
    · exact fedL_wfE (Good.wf (bkErr_zero h).1) (parL_wf _) e he
    · exact absurd he (by simp)
  have hFl : bkErr l R F = 0 → (if fedErr l (parL S.data.toList) = 0 then fedL l (parL S.data.toList) else []).length ≤ 9223372036854775807 := fun h => by
    split
    · have := fedL_len (parL S.data.toList) l
      have := hG h
      omega
    · simp
  have hz0 : parErr S.data.toList = 0 → rdZ S.data.toList (n0 S.data.toList) = n0 S.data.toList ∧ rdZ S.data.toList (n1 S.data.toList) = n1 S.data.toList ∧ rdZ S.data.toList (n2 S.data.toList) = n2 S.data.toList := fun h => by
    unfold rdZ; exact ⟨if_pos h, if_pos h, if_pos h⟩
  clear hX hfw
  generalize rdZ S.data.toList (n0 S.data.toList) = x0 at cP hz0
  generalize rdZ S.data.toList (n1 S.data.toList) = x1 at cP hz0
  generalize rdZ S.data.toList (n2 S.data.toList) = x2 at cP hz0
  generalize n0 S.data.toList = m0 at *
  generalize n1 S.data.toList = m1 at *
  generalize n2 S.data.toList = m2 at *
  generalize parErr S.data.toList = PE at *
  generalize fedErr l (parL S.data.toList) = FE at *
  generalize fedL l (parL S.data.toList) = FD at *
  generalize parL S.data.toList = PL at *
  generalize bkErr l R F = EB at *
  have HLx := Lib.hid hLx
  have HRx := Lib.hid hRx'
  have HFx := Lib.hid hFx'
  have HZ0 := Lib.hid hz0
  have HP5 := Lib.hid hp5
  clear hLx hRx' hFx' hz0 hp5
  go_enter Try.func4, Try.ntmps4
  go_upto_region 1 with fail
  generalize (w.alloc (.cells (bkC A l.length c R F).toArray 25)) = v0 at H0 hu ⊢
  go_upto_region 2 with (first
    | (refine wpList_load_mid rfl 25 (.tmp 2) rfl w.heap.size 0 rfl (bkC A l.length c R F) _ (range_all H0) Try.underlying25 rfl (bkJ hR hF) ?_)
    | (go_at_call 18; (with_reducible refine (cX _ hu).mono ?_); rintro e w1 ⟨Ax, cx, rfl, hlA, hb1⟩; have HAx := Lib.hid hlA; replace H0 := H0.calm hb1; replace hu := hu.call hb1; clear hb1 hlA cX)
    | (refine wpList_store_fresh rfl 25 (.tmp 5) (.tmp 14) rfl 25 _ _ rfl rfl (bkS hRx hFx) (bkZ hRx hFx) bk_one ?_))
  have H5 := Box.new w1 (bkC Ax Lx.length cx Rx Fx)
  replace H0 := H0.calm ((Calm.refl _).alloc (.cells (bkC Ax Lx.length cx Rx Fx).toArray 25))
  replace HAx := Lib.hid (HAx.out.calm ((Calm.refl _).alloc (.cells (bkC Ax Lx.length cx Rx Fx).toArray 25)))
  replace hu := hu.alloc (.cells (bkC Ax Lx.length cx Rx Fx).toArray 25)
  generalize w1.heap.size = g5 at *
  generalize (w1.alloc (.cells (bkC Ax Lx.length cx Rx Fx).toArray 25)) = v1 at H0 H5 HAx hu ⊢
  go_upto_region 3 with (first
    | (go_at_call 19; (with_reducible refine (cP _).mono ?_); rintro e w2 ⟨v, rfl, ho, hb2⟩; obtain ⟨ao, n', c', rfl⟩ := slice_of ho; obtain ⟨rfl, hlP⟩ := ho.reads hPw; have HP := Lib.hid hlP; replace H0 := H0.calm hb2; replace H5 := H5.calm hb2; replace HAx := Lib.hid (HAx.out.calm hb2); replace hu := hu.call hb2; clear hb2 ho hlP cP))
  have HB : PB (w2.alloc (.cells #[.int .i64 x0, .int .i64 x1, .int .i64 x2, .slice ao PL.length c', .int .i64 PE] 43)) w2.heap.size x0 x1 x2 ao PL.length c' PE := heap_new _ _
  replace H0 := H0.calm ((Calm.refl _).alloc (.cells #[.int .i64 x0, .int .i64 x1, .int .i64 x2, .slice ao PL.length c', .int .i64 PE] 43))
  replace H5 := H5.calm ((Calm.refl _).alloc (.cells #[.int .i64 x0, .int .i64 x1, .int .i64 x2, .slice ao PL.length c', .int .i64 PE] 43))
  replace HAx := Lib.hid (HAx.out.calm ((Calm.refl _).alloc (.cells #[.int .i64 x0, .int .i64 x1, .int .i64 x2, .slice ao PL.length c', .int .i64 PE] 43)))
  replace HP := Lib.hid (HP.out.calm ((Calm.refl _).alloc (.cells #[.int .i64 x0, .int .i64 x1, .int .i64 x2, .slice ao PL.length c', .int .i64 PE] 43)))
  replace hu := hu.alloc (.cells #[.int .i64 x0, .int .i64 x1, .int .i64 x2, .slice ao PL.length c', .int .i64 PE] 43)
  generalize w2.heap.size = g7 at *
  generalize (w2.alloc (.cells #[.int .i64 x0, .int .i64 x1, .int .i64 x2, .slice ao PL.length c', .int .i64 PE] 43)) = v2 at H0 H5 HAx HP HB hu ⊢
  go_upto_region 4 with (first
    | (refine wpList_load_mid rfl 25 (.tmp 2) rfl w.heap.size 0 rfl (bkC A l.length c R F) _ (range_all H0) Try.underlying25 rfl (bkJ hR hF) ?_)
    | (go_at_call 12; (with_reducible refine (cK _ hu).mono ?_); rintro e w4 ⟨rfl, hb4⟩; replace H0 := H0.calm hb4; replace H5 := H5.calm hb4; replace HB := HB.calm hb4; replace HAx := Lib.hid (HAx.out.calm hb4); replace HP := Lib.hid (HP.out.calm hb4); replace hu := hu.call hb4; clear hb4 cK))
  by_cases hB : EB = 0
  rotate_left
  · have hq1 := hq.out.trans (if_neg hB)
    have b1 := ne_rl hB
    have hX0 : XE ≠ 0 := fun h => hB (hq1.symm.trans h)
    subst hq1
    go_upto_region 12 with (first
      | (refine wpList_load_mid rfl 25 (.tmp 2) rfl w.heap.size 0 rfl (bkC A l.length c R F) _ (range_all H0) Try.underlying25 rfl (bkJ hR hF) ?_)
      | (refine wpList_store_fresh rfl 25 (.tmp 9) (.tmp 45) rfl 25 _ _ rfl rfl (bkS hR hF) (bkZ hR hF) bk_one ?_))
    have H9 := Box.new w4 (bkC A l.length c R F)
    replace H0 := H0.calm ((Calm.refl _).alloc (.cells (bkC A l.length c R F).toArray 25))
    replace H5 := H5.calm ((Calm.refl _).alloc (.cells (bkC A l.length c R F).toArray 25))
    replace HB := HB.calm ((Calm.refl _).alloc (.cells (bkC A l.length c R F).toArray 25))
    replace HAx := Lib.hid (HAx.out.calm ((Calm.refl _).alloc (.cells (bkC A l.length c R F).toArray 25)))
    replace HP := Lib.hid (HP.out.calm ((Calm.refl _).alloc (.cells (bkC A l.length c R F).toArray 25)))
    replace hu := hu.alloc (.cells (bkC A l.length c R F).toArray 25)
    generalize w4.heap.size = g9 at *
    generalize (w4.alloc (.cells (bkC A l.length c R F).toArray 25)) = v9 at H0 H5 H9 HB HAx HP hu ⊢
    go_wp2_with (first
      | (refine wpList_load_mid rfl 25 (.tmp 5) rfl g5 0 rfl (bkC Ax Lx.length cx Rx Fx) _ (range_all H5) Try.underlying25 rfl (bkJ hRx hFx) ?_)
      | (refine wpList_load_mid rfl 25 (.tmp 9) rfl g9 0 rfl (bkC A l.length c R F) _ (range_all H9) Try.underlying25 rfl (bkJ hR hF) ?_)
      | (go_at_call 13; (with_reducible refine (tE hX0 _ _ _ hu HAx.out).mono ?_); rintro e w9 ⟨rfl, hb9⟩; replace hu := hu.call hb9; clear hb9))
    go_ret
    exact ⟨rfl, hu⟩
  subst hB
  replace hq := Lib.hid (hq.out.trans (if_pos rfl))
  obtain ⟨e0, e1, e2, e3, e4⟩ := HB.cells
  clear e0 e1 e2 e3
  by_cases hp : PE = 0
  rotate_left
  · have hq1 := hq.out.trans (if_neg hp)
    have b1 := ne_rl hp
    have hX0 : XE ≠ 0 := fun h => hp (hq1.symm.trans h)
    subst hq1
    go_upto_region 12 with (first
      | (refine wpList_load_mid rfl 25 (.tmp 2) rfl w.heap.size 0 rfl (bkC A l.length c R F) _ (range_all H0) Try.underlying25 rfl (bkJ hR hF) ?_)
      | (refine wpList_store_fresh rfl 25 (.tmp 9) (.tmp 45) rfl 25 _ _ rfl rfl (bkS hR hF) (bkZ hR hF) bk_one ?_))
    have H9 := Box.new w4 (bkC A l.length c R F)
    replace H0 := H0.calm ((Calm.refl _).alloc (.cells (bkC A l.length c R F).toArray 25))
    replace H5 := H5.calm ((Calm.refl _).alloc (.cells (bkC A l.length c R F).toArray 25))
    replace HB := HB.calm ((Calm.refl _).alloc (.cells (bkC A l.length c R F).toArray 25))
    replace HAx := Lib.hid (HAx.out.calm ((Calm.refl _).alloc (.cells (bkC A l.length c R F).toArray 25)))
    replace HP := Lib.hid (HP.out.calm ((Calm.refl _).alloc (.cells (bkC A l.length c R F).toArray 25)))
    replace hu := hu.alloc (.cells (bkC A l.length c R F).toArray 25)
    generalize w4.heap.size = g9 at *
    generalize (w4.alloc (.cells (bkC A l.length c R F).toArray 25)) = v9 at H0 H5 H9 HB HAx HP hu ⊢
    go_wp2_with (first
      | (refine wpList_load_mid rfl 25 (.tmp 5) rfl g5 0 rfl (bkC Ax Lx.length cx Rx Fx) _ (range_all H5) Try.underlying25 rfl (bkJ hRx hFx) ?_)
      | (refine wpList_load_mid rfl 25 (.tmp 9) rfl g9 0 rfl (bkC A l.length c R F) _ (range_all H9) Try.underlying25 rfl (bkJ hR hF) ?_)
      | (go_at_call 13; (with_reducible refine (tE hX0 _ _ _ hu HAx.out).mono ?_); rintro e w9 ⟨rfl, hb9⟩; replace hu := hu.call hb9; clear hb9))
    go_ret
    exact ⟨rfl, hu⟩
  subst hp
  replace hq := Lib.hid (hq.out.trans (if_pos rfl))
  obtain ⟨rfl, rfl, rfl⟩ := HZ0.out rfl
  have hpf := HP5.out rfl
  obtain ⟨k, rfl⟩ : ∃ k : Nat, x0 = k := ⟨x0.toNat, by omega⟩
  have hk16 : k < 16 := by omega
  have hki : (k : Int) < 16 := by omega
  rw [Int.toNat_natCast] at hq HFx
  clear hpf
  go_upto_region 7 with fail
  clear e4
  obtain ⟨e0, e1, e2, e3, e4⟩ := HB.cells
  clear e1 e2 e3 e4
  have d1 := H0.role hR hk16
  by_cases hr : gI R k = 2
  rotate_left
  · have hq1 := hq.out.trans (if_neg hr)
    have b1 : (gI R k != 2) = true := by simpa using hr
    generalize gI R k = z at *
    subst hq1
    go_upto_region 12 with (first
      | (refine wpList_load_mid rfl 25 (.tmp 2) rfl w.heap.size 0 rfl (bkC A l.length c R F) _ (range_all H0) Try.underlying25 rfl (bkJ hR hF) ?_)
      | (refine wpList_store_fresh rfl 25 (.tmp 9) (.tmp 45) rfl 25 _ _ rfl rfl (bkS hR hF) (bkZ hR hF) bk_one ?_))
    have H9 := Box.new w4 (bkC A l.length c R F)
    replace H0 := H0.calm ((Calm.refl _).alloc (.cells (bkC A l.length c R F).toArray 25))
    replace H5 := H5.calm ((Calm.refl _).alloc (.cells (bkC A l.length c R F).toArray 25))
    replace HB := HB.calm ((Calm.refl _).alloc (.cells (bkC A l.length c R F).toArray 25))
    replace HAx := Lib.hid (HAx.out.calm ((Calm.refl _).alloc (.cells (bkC A l.length c R F).toArray 25)))
    replace HP := Lib.hid (HP.out.calm ((Calm.refl _).alloc (.cells (bkC A l.length c R F).toArray 25)))
    replace hu := hu.alloc (.cells (bkC A l.length c R F).toArray 25)
    generalize w4.heap.size = g9 at *
    generalize (w4.alloc (.cells (bkC A l.length c R F).toArray 25)) = v9 at H0 H5 H9 HB HAx HP hu ⊢
    go_wp2_with (first
      | (refine wpList_load_mid rfl 25 (.tmp 5) rfl g5 0 rfl (bkC Ax Lx.length cx Rx Fx) _ (range_all H5) Try.underlying25 rfl (bkJ hRx hFx) ?_)
      | (refine wpList_load_mid rfl 25 (.tmp 9) rfl g9 0 rfl (bkC A l.length c R F) _ (range_all H9) Try.underlying25 rfl (bkJ hR hF) ?_)
      | (go_at_call 13; (with_reducible refine (tE (by decide) _ _ _ hu HAx.out).mono ?_); rintro e w9 ⟨rfl, hb9⟩; replace hu := hu.call hb9; clear hb9))
    go_ret
    exact ⟨rfl, hu⟩
  replace hq := Lib.hid (hq.out.trans (if_pos hr))
  rw [hr] at d1
  clear hr
  go_upto_region 9 with fail
  clear e0 d1
  obtain ⟨e0, e1, e2, e3, e4⟩ := HB.cells
  clear e2 e3 e4
  have d2 := H0.fed hR hF hk16
  have hwl := H0.lt
  have hgl : g7 < w4.heap.size := (Array.getElem?_eq_some_iff.1 HB).1
  by_cases hz : gI F k = x1
  rotate_left
  · have hq1 := hq.out.trans (if_neg hz)
    have b1 : (x1 != gI F k) = true := by simpa using (fun h => hz h.symm)
    have b2 : decide (x1 = gI F k) = false := decide_eq_false (fun h => hz h.symm)
    generalize gI F k = z at *
    subst hq1
    refine wp_region_plan [.val (.pointer (some ⟨g7, 1, none⟩)), .val (.int .i64 (x1)), .val (.pointer (some ⟨g7, 0, none⟩)), .val (.int .i64 ((k : Int))), .val (.pointer (some ⟨w.heap.size, 17, none⟩)), .val (.pointer (some ⟨w.heap.size, 17+k, none⟩)), .val (.int .i64 (z)), .val (.bool true), .val (.bool true)] (by kernel_rfl) (by kernel_rfl) (by kernel_rfl) ?_
    intro X
    iterate 9
      refine plan_val (by kernel_rfl) (fun u hu => ?_) ?_
      · obtain ⟨hc, hf, hz⟩ := hu.of_drew.facts
        go_simp
        all_goals first
          | (omega)
          | ((simp; done))
          | (assumption)
      simp only [Act.put, List.setIfInBounds_toArray, List.set_cons_zero, List.set_cons_succ, Nat.reduceAdd]
    refine plan_end ?_
    intro w' hB
    have hk := hB.calm.of_drew
    clear hB
    clear e0 e1 d2 hwl hgl
    replace H0 := H0.calm hk
    replace H5 := H5.calm hk
    replace HB := HB.calm hk
    replace HAx := Lib.hid (HAx.out.calm hk)
    replace HP := Lib.hid (HP.out.calm hk)
    replace hu := hu.call hk
    clear hk
    go_upto_region 12 with (first
      | (refine wpList_load_mid rfl 25 (.tmp 2) rfl w.heap.size 0 rfl (bkC A l.length c R F) _ (range_all H0) Try.underlying25 rfl (bkJ hR hF) ?_)
      | (refine wpList_store_fresh rfl 25 (.tmp 9) (.tmp 45) rfl 25 _ _ rfl rfl (bkS hR hF) (bkZ hR hF) bk_one ?_))
    have H9 := Box.new w' (bkC A l.length c R F)
    replace H0 := H0.calm ((Calm.refl _).alloc (.cells (bkC A l.length c R F).toArray 25))
    replace H5 := H5.calm ((Calm.refl _).alloc (.cells (bkC A l.length c R F).toArray 25))
    replace HB := HB.calm ((Calm.refl _).alloc (.cells (bkC A l.length c R F).toArray 25))
    replace HAx := Lib.hid (HAx.out.calm ((Calm.refl _).alloc (.cells (bkC A l.length c R F).toArray 25)))
    replace HP := Lib.hid (HP.out.calm ((Calm.refl _).alloc (.cells (bkC A l.length c R F).toArray 25)))
    replace hu := hu.alloc (.cells (bkC A l.length c R F).toArray 25)
    generalize w'.heap.size = g9 at *
    generalize (w'.alloc (.cells (bkC A l.length c R F).toArray 25)) = v9 at H0 H5 H9 HB HAx HP hu ⊢
    go_wp2_with (first
      | (refine wpList_load_mid rfl 25 (.tmp 5) rfl g5 0 rfl (bkC Ax Lx.length cx Rx Fx) _ (range_all H5) Try.underlying25 rfl (bkJ hRx hFx) ?_)
      | (refine wpList_load_mid rfl 25 (.tmp 9) rfl g9 0 rfl (bkC A l.length c R F) _ (range_all H9) Try.underlying25 rfl (bkJ hR hF) ?_)
      | (go_at_call 13; (with_reducible refine (tE (by decide) _ _ _ hu HAx.out).mono ?_); rintro e w9 ⟨rfl, hb9⟩; replace hu := hu.call hb9; clear hb9))
    go_ret
    exact ⟨rfl, hu⟩
  replace hq := Lib.hid (hq.out.trans (if_pos hz))
  rw [hz] at d2
  clear hz
  refine wp_region_plan [.val (.pointer (some ⟨g7, 1, none⟩)), .val (.int .i64 (x1)), .val (.pointer (some ⟨g7, 0, none⟩)), .val (.int .i64 ((k : Int))), .val (.pointer (some ⟨w.heap.size, 17, none⟩)), .val (.pointer (some ⟨w.heap.size, 17+k, none⟩)), .val (.int .i64 (x1)), .val (.bool false), .val (.bool false)] (by kernel_rfl) (by kernel_rfl) (by kernel_rfl) ?_
  intro X
  iterate 9
    refine plan_val (by kernel_rfl) (fun u hu => ?_) ?_
    · obtain ⟨hc, hf, hz⟩ := hu.of_drew.facts
      go_simp
      all_goals first
        | (omega)
        | ((simp; done))
        | (assumption)
    simp only [Act.put, List.setIfInBounds_toArray, List.set_cons_zero, List.set_cons_succ, Nat.reduceAdd]
  refine plan_end ?_
  intro w' hB
  have hk := hB.calm.of_drew
  clear hB
  clear e0 e1 d2 hwl hgl
  replace H0 := H0.calm hk
  replace H5 := H5.calm hk
  replace HB := HB.calm hk
  replace HAx := Lib.hid (HAx.out.calm hk)
  replace HP := Lib.hid (HP.out.calm hk)
  replace hu := hu.call hk
  clear hk
  go_upto_region 13 with (first
    | (refine wpList_load_mid rfl 25 (.tmp 2) rfl w.heap.size 0 rfl (bkC A l.length c R F) _ (range_all H0) Try.underlying25 rfl (bkJ hR hF) ?_)
    | (refine wpList_store_fresh rfl 25 (.tmp 9) (.tmp 45) rfl 25 _ _ rfl rfl (bkS hR hF) (bkZ hR hF) bk_one ?_))
  have n59 : g5 ≠ w'.heap.size := Nat.ne_of_lt H5.lt
  have n79 : g7 ≠ w'.heap.size := Nat.ne_of_lt (Array.getElem?_eq_some_iff.1 HB).1
  have HAw := HAx
  have HVw := (Calm.refl w').alloc (.cells (bkC A l.length c R F).toArray 25)
  have hg9z := hu.size
  have H9 := Box.new w' (bkC A l.length c R F)
  replace H0 := H0.calm ((Calm.refl _).alloc (.cells (bkC A l.length c R F).toArray 25))
  replace H5 := H5.calm ((Calm.refl _).alloc (.cells (bkC A l.length c R F).toArray 25))
  replace HB := HB.calm ((Calm.refl _).alloc (.cells (bkC A l.length c R F).toArray 25))
  replace HAx := Lib.hid (HAx.out.calm ((Calm.refl _).alloc (.cells (bkC A l.length c R F).toArray 25)))
  replace HP := Lib.hid (HP.out.calm ((Calm.refl _).alloc (.cells (bkC A l.length c R F).toArray 25)))
  replace hu := hu.alloc (.cells (bkC A l.length c R F).toArray 25)
  generalize hGE : w'.heap.size = g9 at *
  generalize (w'.alloc (.cells (bkC A l.length c R F).toArray 25)) = v9 at HVw H0 H5 H9 HB HAx HP hu ⊢
  have r0 := H0.run
  obtain ⟨e0, e1, e2, e3, e4⟩ := HB.cells
  clear e0 e1 e2 e4
  clear HAx
  have h9w := Nat.le_of_eq hGE
  have hg9 : w.heap.size ≤ g9 := hg9z
  have f0 := H9.free 0
  go_upto_region 14 with (go_at_call 20; (with_reducible refine (cD _ _ _ (hG rfl) hu HP.out).mono ?_); rintro e w6 ⟨v6, rfl, ho6, hb6⟩; have h7n : ∀ b, v6.ownBlock = some b → b ≠ g9 := (fun b hA => Nat.ne_of_gt (Nat.lt_of_lt_of_le H9.lt (ho6.lt b hA).1)); obtain ⟨A6, c6, rfl, hlc6, hcc6, hl6⟩ := ho6.lies (hfw2 rfl); have HL6 := Lib.hid hl6; replace H5 := H5.calm hb6; replace H9 := H9.calm hb6; replace HB := HB.calm hb6; replace HVw := HVw.call hb6; have c0 := H9.run; have f0 := H9.free 0; replace hu := hu.call hb6; clear hb6 ho6 hl6 hlc6 hcc6)
  clear r0 e3 HP H0 f0 c0
  generalize hM : (if FE = 0 then FD else []) = M at *
  have HL6b := Lib.hid (HL6.out.aside (g := g9) (u' := w6.setCell ⟨g9, 0, none⟩ (.slice A6 M.length c6)) (fun b q hA => h7n b (by rw [hA]; rfl)) (fun j _ hj => Below.heap_setCell _ _ _ _ hj))
  replace HVw := HVw.setCell (p := ⟨g9, 0, none⟩) h9w (.slice A6 M.length c6)
  replace H5 := H5.far n59 (o := 0) (.slice A6 M.length c6)
  replace HB := HB.far n79 (o := 0) (.slice A6 M.length c6)
  replace H9 := H9.setRun A6 M.length c6
  replace hu := hu.setCell (p := ⟨g9, 0, none⟩) hg9 (.slice A6 M.length c6)
  clear HL6
  generalize (w6.setCell ⟨g9, 0, none⟩ (.slice A6 M.length c6)) = v10 at HL6b HVw H5 HB H9 hu ⊢
  obtain ⟨e0, e1, e2, e3, e4⟩ := HB.cells
  clear e1 e3 e4
  have d2 := H9.fed hR hF hk16
  have f2 := H9.free (17 + k)
  go_upto_region 15 with fail
  clear e0 e2 d2 f2
  replace HL6b := Lib.hid (HL6b.out.aside (g := g9) (u' := v10.setCell ⟨g9, 17 + k, none⟩ (.int .i64 x2)) (fun b q hA => h7n b (by rw [hA]; rfl)) (fun j _ hj => Below.heap_setCell _ _ _ _ hj))
  replace HVw := HVw.setCell (p := ⟨g9, 17 + k, none⟩) h9w (.int .i64 x2)
  replace H5 := H5.far n59 (o := 17 + k) (.int .i64 x2)
  replace H9 := H9.setFed (k := k) x2 hR
  replace hu := hu.setCell (p := ⟨g9, 17 + k, none⟩) hg9 (.int .i64 x2)
  clear HB h7n
  generalize (v10.setCell ⟨g9, 17 + k, none⟩ (.int .i64 x2)) = v11 at HL6b HVw H5 H9 hu ⊢
  have hF2 : (F.set k x2).length = 16 := by rw [List.length_set, hF]
  generalize F.set k x2 = F2 at *
  have hXF := hq.out
  have tG : ∀ u, Lies u Ax Lx → Lies u A6 M → Calls Try.prog 13 #[.agg (bkC Ax Lx.length cx Rx Fx).toArray, .int .i64 FE, .agg (bkC A6 M.length c6 R F2).toArray, .int .i64 FE] u fun e w' => e = .returned (.bool true) ∧ Calm u w' := fun u h1 h2 => by
    rw [← hXF]
    refine told_any Ax A6 cx c6 XE Lx M Rx Fx R F2 u (hFl (by first | rfl | trivial)) h1 h2 hR hF2 ?_
    by_cases h : XE = 0
    · right
      refine ⟨h, ?_, ?_, ?_⟩
      · rw [HLx.out, ← hM, if_pos h, if_pos (hXF.symm.trans h)]
      · rw [HRx.out, if_pos h]
      · rw [HFx.out, if_pos h]
    · left
      refine ⟨h, ?_, ?_, ?_⟩
      · rw [HLx.out, if_neg h]
      · rw [HRx.out, if_neg h]
      · rw [HFx.out, if_neg h]
  subst hXF
  clear hM hFl hfw2 cD HLx HRx HFx hq
  go_wp2_with (first
    | (refine wpList_load_mid rfl 25 (.tmp 5) rfl g5 0 rfl (bkC Ax Lx.length cx Rx Fx) _ (range_all H5) Try.underlying25 rfl (bkJ hRx hFx) ?_)
    | (refine wpList_load_mid rfl 25 (.tmp 9) rfl g9 0 rfl (bkC A6 M.length c6 R F2) _ (range_all H9) Try.underlying25 rfl (bkJ hR hF2) ?_)
    | (go_at_call 13; (with_reducible refine (tG _ (HAw.out.calm HVw) HL6b.out).mono ?_); rintro e w12 ⟨rfl, hb12⟩; replace hu := hu.call hb12; clear hb12))
  go_ret
  exact ⟨rfl, hu⟩
end Go.Proofs.Ytljjeolifdpedaa
