/- Texts of one kind in one file. -/
import Derived.Test.YtoklknjjkchgmaaPkPageBack2
set_option maxRecDepth 100000
namespace Go.Proofs.Ytoklknjjkchgmaa
open Go.RowKit
def DecEnd (k : Int) (B : List UInt8) (w : World) (e : Ending) (w' : World) : Prop :=
 Calm w w' ∧ ∃ (kd : Int) (A1 A2 A3 A4 : Option Addr) (c1 c2 c3 c4 : Nat) (E : List El) (K : List Int) (S : List Sp) (T : List Int) (ok : Bool), e = .returned (.tuple #[.agg #[.int .i64 kd, .slice A1 E.length c1, .slice A2 K.length c2, .slice A3 S.length c3, .slice A4 T.length c4], .bool ok]) ∧ NdOwn w.heap.size w' A1 A2 A3 A4 c1 c2 c3 c4 E K S T ∧
  ∀ kd' E' K' S' T', ndErr kd' E' K' S' T' = 0 → kd' + 1 = k → pgBody E' K' S' T' = B → ok = true ∧ kd = kd' ∧ E = E' ∧ K = K' ∧ S = S' ∧ T = T'
theorem pgBody_leaf (E : List El) : pgBody E [] [] [] = E.flatMap enc := by simp [pgBody, kRow]
theorem pgBody_inner (K : List Int) (S : List Sp) (T : List Int) : pgBody [] K S T = kRow K T S K.length := by simp [pgBody]
theorem decodeInner_uni (s : ByteArray) (w : World) (hs : s.size ≤ 3000) : Calls Try.prog 74 #[.string s] w fun e w' =>
  ∃ (kd : Int) (A2 A3 A4 : Option Addr) (c2 c3 c4 : Nat) (K : List Int) (S : List Sp) (T : List Int) (ok : Bool), e = .returned (.tuple #[.agg #[.int .i64 kd, .slice none 0 0, .slice A2 K.length c2, .slice A3 S.length c3, .slice A4 T.length c4], .bool ok]) ∧ Calm w w' ∧ NdOwn w.heap.size w' none A2 A3 A4 0 c2 c3 c4 [] K S T ∧
   ∀ K' S' T', Inn K' S' T' → kRow K' T' S' K'.length = s.data.toList → ok = true ∧ kd = 2 ∧ K = K' ∧ S = S' ∧ T = T' :=
 (decodeInner_any s w hs).mono fun e w' ⟨hc, h⟩ => by
  rcases h with ⟨rfl, hN⟩ | ⟨A2, A3, A4, c2, c3, c4, K, S, T, rfl, hO, hN⟩
  ·exact ⟨0, none, none, none, 0, 0, 0, [], [], [], false, rfl, hc, NdOwn.zero _ _, fun K' S' T' hI hB => absurd hB (hN K' S' T' hI)⟩
  ·exact ⟨2, A2, A3, A4, c2, c3, c4, K, S, T, true, rfl, hc, hO, fun K' S' T' hI hB => ⟨rfl, rfl, hN K' S' T' hI hB⟩⟩
set_option maxHeartbeats 8000000 in
theorem decode_any (k : Int) (s : ByteArray) (w : World) (hs : s.size ≤ 3000) (hk : 1 ≤ k ∧ k ≤ 255) : Calls Try.prog 58 #[.agg #[.int .i64 k, .string s]] w (DecEnd k s.data.toList w) := by
 have hx := heap_past (.cells ndZ 63) (heap_new w (.cells #[.int .i64 k, .string s] 50))
 have hz := heap_new2 w (.cells #[.int .i64 k, .string s] 50) (.cells ndZ 63)
 have hu := ((Calm.refl w).alloc (.cells #[.int .i64 k, .string s] 50)).alloc (.cells ndZ 63)
 have hzs0 : w.heap.size + 1 < ((w.alloc (.cells #[.int .i64 k, .string s] 50)).alloc (.cells ndZ 63)).heap.size := by simp
 have HU : Hid (∀ kd' E' K' S' T', ndErr kd' E' K' S' T' = 0 → kd' + 1 = k → pgBody E' K' S' T' = s.data.toList → kd' = k - 1) := show ∀ _, _ from fun kd' E' K' S' T' _ h _ => by omega
 go_enter Try.func58, Try.ntmps58
 go_upto_region 1 with fail
 generalize (w.alloc (.cells #[.int .i64 k, .string s] 50)).alloc (.cells ndZ 63) = wz at hx hz hu hzs0 ⊢
 obtain ⟨x0, x1, hxs⟩ := row2 hx
 obtain ⟨z0, z1, z2, z3, z4, hzs⟩ := row5 hz
 obtain ⟨f0, f1, f2, f3, f4⟩ := free5 hz
 by_cases h1 : k = 1
 ·subst h1
  go_wp2_with fail
  exact end_nd rfl rfl _ _ (w.heap.size + 1) _ _ _ (0, 0) rfl rfl rfl (set5 hz _ _ _ _ _) rfl ⟨hu.five (g := w.heap.size + 1) (by omega) _ _ _ _ _, 0, none, none, none, none, 0, 0, 0, 0, [], [], [], [], true, rfl, NdOwn.zero _ _, fun kd' E' K' S' T' hn hk' _ => by
   obtain rfl : kd' = 0 := by omega
   obtain ⟨rfl, rfl, rfl, rfl⟩ := free_of hn
   exact ⟨rfl, rfl, rfl, rfl, rfl, rfl⟩⟩
 by_cases h2 : k = 2
 ·subst h2
  have hlen := all_length s.data.toList.length s.data.toList (Nat.le_refl _)
  rw [bytes_len] at hlen
  have cA := fun u => codeAll_own s u (by omega)
  have HU : Hid (∀ kd' E' K' S' T', ndErr kd' E' K' S' T' = 0 → kd' + 1 = 2 → pgBody E' K' S' T' = s.data.toList → allErr s.data.toList = 0 ∧ kd' = 1 ∧ E' = allVal s.data.toList ∧ K' = [] ∧ S' = [] ∧ T' = []) := show ∀ _, _ from fun kd' E' K' S' T' hn hk' hb => by
   obtain rfl : kd' = 1 := by omega
   obtain ⟨rfl, rfl, rfl, _, hg⟩ := leaf_of hn
   rw [pgBody_leaf] at hb
   have := all_encs E' hg
   rw [hb] at this
   exact ⟨this.1, rfl, by unfold allVal; rw [if_pos this.1, this.2], rfl, rfl, rfl⟩
  have hvl : (allVal s.data.toList).length ≤ 1000000 := by
   unfold allVal; split
   ·omega
   ·simp
  have hwf := allVal_wf s.data.toList
  generalize allVal s.data.toList = L at cA HU hvl hwf
  generalize allErr s.data.toList = N at cA HU
  clear hlen hs h1
  have b1 : Hid ((N == 0) = decide (N = 0)) := by show _ = _; by_cases h : N = 0 <;> simp [h]
  go_wp2_with (go_at_call 22; (with_reducible refine (cA _).mono ?_); rintro e w1 ⟨v, rfl, hS, hb1⟩; obtain ⟨A, c, rfl, _, _, _⟩ := hS.lies hwf; have HLi := Lib.hid hS; clear hS; replace hu := hu.call hb1; replace hz := (hb1.block (row5 hz).2.2.2.2.2).trans hz; clear hb1; obtain ⟨z0, z1, z2, z3, z4, hzs⟩ := row5 hz; obtain ⟨f0, f1, f2, f3, f4⟩ := free5 hz)
  have hO : NdOwn (w.heap.size + 2) w1 A none none none c 0 0 0 L [] [] [] := ⟨rows_mono HLi.out (by omega), OwnI.nil _ _, OwnS.nil _ _, OwnI.nil _ _, hwf, by simp, hvl, by simp, by simp, by simp⟩
  exact end_nd rfl rfl _ _ (w.heap.size + 1) _ _ _ (0, 0) rfl rfl rfl (set5 hz _ _ _ _ _) rfl ⟨hu.five (g := w.heap.size + 1) (by omega) _ _ _ _ _, 1, A, none, none, none, c, 0, 0, 0, L, [], [], [], N == 0, rfl, (hO.five (by omega) _ _ _ _ _).mono (by omega), fun kd' E' K' S' T' hn hk' hb => by
   obtain ⟨e1, e2, e3, e4, e5, e6⟩ := HU.out kd' E' K' S' T' hn hk' hb
   exact ⟨by rw [e1]; rfl, e2.symm, e3.symm, e4.symm, e5.symm, e6.symm⟩⟩
 by_cases h3 : k = 3
 ·subst h3
  have cI := fun u => decodeInner_uni s u hs
  clear h1 h2
  go_wp2_with (go_at_call 74; (with_reducible refine (cI _).mono ?_); rintro e w1 ⟨kd, A2, A3, A4, c2, c3, c4, K, S, T, ok, rfl, hb1, hO, hN⟩; have HN : Hid (∀ K' S' T', Inn K' S' T' → kRow K' T' S' K'.length = s.data.toList → ok = true ∧ kd = 2 ∧ K = K' ∧ S = S' ∧ T = T') := hN; have HO := Lib.hid (hO.mono (B' := w.heap.size + 2) (by omega)); replace hu := hu.call hb1; replace hz := (hb1.block (row5 hz).2.2.2.2.2).trans hz; clear hb1 hN hO; obtain ⟨z0, z1, z2, z3, z4, hzs⟩ := row5 hz; obtain ⟨f0, f1, f2, f3, f4⟩ := free5 hz)
  exact end_nd rfl rfl _ _ (w.heap.size + 1) _ _ _ (0, 0) rfl rfl rfl (set5 hz _ _ _ _ _) rfl ⟨hu.five (g := w.heap.size + 1) (by omega) _ _ _ _ _, kd, none, A2, A3, A4, 0, c2, c3, c4, [], K, S, T, ok, rfl, (HO.out.five (by omega) _ _ _ _ _).mono (by omega), fun kd' E' K' S' T' hn hk' hb => by
   obtain rfl : kd' = 2 := by omega
   obtain ⟨rfl, hI⟩ := inn_of hn
   rw [pgBody_inner] at hb
   obtain ⟨e1, e2, e3, e4, e5⟩ := HN.out K' S' T' hI hb
   exact ⟨e1, e2, rfl, e3, e4, e5⟩⟩
 obtain ⟨k1, hk1⟩ : ∃ k1, k - 1 = k1 := ⟨_, rfl⟩
 have i1 : IntKind.i64.wrap k1 = k1 := IntWalk.i64_in _ (by omega)
 have b0 : (k1 == 0) = false := by rw [beq_eq_false_iff_ne]; omega
 have b1 : (k1 == 1) = false := by rw [beq_eq_false_iff_ne]; omega
 have b2 : (k1 == 2) = false := by rw [beq_eq_false_iff_ne]; omega
 have HN : Hid (∀ kd' E' K' S' T', ndErr kd' E' K' S' T' = 0 → kd' + 1 ≠ k) := show ∀ _, _ from fun kd' E' K' S' T' hn => by
  rcases kind_of hn with rfl | rfl | rfl <;> omega
 clear h1 h2 h3
 go_wp2_with fail
 exact end_nd rfl rfl _ _ (w.heap.size + 1) _ _ _ (0, 0) rfl rfl rfl (set5 hz _ _ _ _ _) rfl ⟨hu.five (g := w.heap.size + 1) (by omega) _ _ _ _ _, 0, none, none, none, none, 0, 0, 0, 0, [], [], [], [], false, rfl, NdOwn.zero _ _, fun kd' E' K' S' T' hn hk' _ => absurd hk' (HN.out kd' E' K' S' T' hn)⟩
open Go.RowKit
def rdErr (l : List UInt8) : Int := if unErr l = 0 then 3 else unErr l
def RdEnd (l : List UInt8) (w : World) (e : Ending) (w' : World) : Prop :=
 Calm w w' ∧ ((e = .returned (.tuple #[.agg ndZ, .int .i64 (rdErr l)]) ∧ ∀ kd E K S T, ¬ IsPg l kd E K S T) ∨
  ∃ (kd : Int) (A1 A2 A3 A4 : Option Addr) (c1 c2 c3 c4 : Nat) (E : List El) (K : List Int) (S : List Sp) (T : List Int), e = .returned (.tuple #[.agg #[.int .i64 kd, .slice A1 E.length c1, .slice A2 K.length c2, .slice A3 S.length c3, .slice A4 T.length c4], .int .i64 0]) ∧ NdOwn w.heap.size w' A1 A2 A3 A4 c1 c2 c3 c4 E K S T ∧ IsPg l kd E K S T)
theorem IsPg.not {l : List UInt8} (h : unErr l ≠ 0) (kd : Int) (E : List El) (K : List Int) (S : List Sp) (T : List Int) : ¬ IsPg l kd E K S T := fun hp => h hp.un.1
theorem pgGet_bad (s : ByteArray) (n : Int) (hd : unErr s.data.toList = n) (hn : n ≠ 0) (w : World) : Calls Try.prog 33 #[.string s] w fun e w' => e = .returned (.tuple #[.agg #[.int .i64 0, .string { data := #[] }], .int .i64 0, .int .i64 n]) ∧ Calm w w' := by
 have h := frameGet_any s w
 rw [FGetEnd.bad hd hn] at h
 exact h
theorem pgGet_good (s : ByteArray) (K : Int) (B : ByteArray) (L : Nat) (hd : unErr s.data.toList = 0) (hK : (unKind s.data.toList : Int) = K) (hB : unBody s.data.toList = B.data.toList) (hL : 5 + unSize s.data.toList = L) (w : World) :
    Calls Try.prog 33 #[.string s] w fun e w' => e = .returned (.tuple #[.agg #[.int .i64 K, .string B], .int .i64 (L : Int), .int .i64 0]) ∧ Calm w w' := by
  have h := frameGet_any s w
  rw [FGetEnd.good hd, hK, hB, hL] at h
  exact h
theorem bytes_ext {s t : ByteArray} (h : s.data.toList = t.data.toList) : s = t := ByteArray.ext (Array.toList_inj.1 h)
set_option maxHeartbeats 8000000 in
theorem pageRead_any (s : ByteArray) (w : World) : Calls Try.prog 38 #[.string s] w (RdEnd s.data.toList w) := by
 have hz := heap_new w (.cells ndZ 63)
 have hu := (Calm.refl w).alloc (.cells ndZ 63)
 have hws := World.size_alloc w (.cells ndZ 63)
 by_cases hd : unErr s.data.toList = 0
 rotate_left
 ·have cG := fun u => pgGet_bad s _ rfl hd u
  have HN : Hid (∀ kd E K S T, ¬ IsPg s.data.toList kd E K S T) := show ∀ _, _ from IsPg.not hd
  have HE : Hid (unErr s.data.toList = rdErr s.data.toList) := by show _ = _; unfold rdErr; rw [if_neg hd]
  have b1 : (unErr s.data.toList != 0) = true := by simpa using hd
  generalize unErr s.data.toList = N at cG HE b1
  clear hd
  go_enter Try.func38, Try.ntmps38
  go_upto_region 1 with fail
  generalize w.alloc (.cells ndZ 63) = wz at hz hu hws ⊢
  obtain ⟨z0, z1, z2, z3, z4, hzs⟩ := row5 hz
  obtain ⟨f0, f1, f2, f3, f4⟩ := free5 hz
  go_wp2_with (go_at_call 33; (with_reducible refine (cG _).mono ?_); rintro e w1 ⟨rfl, hb1⟩; replace hb1 := hb1.alloc (.cells #[.int .i64 0, .string { data := #[] }] 50); replace hu := hu.call hb1; replace hz := (hb1.block (row5 hz).2.2.2.2.2).trans hz; clear hb1; obtain ⟨z0, z1, z2, z3, z4, hzs⟩ := row5 hz; obtain ⟨f0, f1, f2, f3, f4⟩ := free5 hz)
  exact end_nd rfl rfl _ _ w.heap.size _ _ _ (0, 0) rfl rfl rfl (set5 hz _ _ _ _ _) rfl ⟨hu.five (g := w.heap.size) (by omega) _ _ _ _ _, Or.inl ⟨by rw [HE.out]; rfl, HN.out⟩⟩
 have hdz := unErr_zero hd
 have hbl := unBody_length hdz.1
 obtain ⟨k, hk⟩ : ∃ k, (unKind s.data.toList : Int) = k := ⟨_, rfl⟩
 obtain ⟨B, hB⟩ : ∃ B : ByteArray, unBody s.data.toList = B.data.toList := ⟨⟨(unBody s.data.toList).toArray⟩, by simp⟩
 obtain ⟨L, hL⟩ : ∃ L, 5 + unSize s.data.toList = L := ⟨_, rfl⟩
 have hBs : B.size ≤ 3000 := by rw [← bytes_len, ← hB, hbl]; omega
 have cG := fun u => pgGet_good s k B L hd hk hB hL u
 have cD := fun u => decode_any k B u hBs (by omega)
 have HP : Hid (∀ kd E K S T, IsPg s.data.toList kd E K S T → ndErr kd E K S T = 0 ∧ kd + 1 = k ∧ pgBody E K S T = B.data.toList) := show ∀ _, _ from fun kd E K S T h => ⟨h.1, by rw [← hk]; exact h.un.2.1.symm, by rw [← hB]; exact h.un.2.2.1.symm⟩
 have H3 : Hid (rdErr s.data.toList = 3) := by show _ = _; unfold rdErr; rw [if_pos hd]
 clear hdz hbl hL hd hk hB hBs
 go_enter Try.func38, Try.ntmps38
 go_upto_region 1 with fail
 generalize w.alloc (.cells ndZ 63) = wz at hz hu hws ⊢
 go_upto_region 5 with (first
  |(go_at_call 33; (with_reducible refine (cG _).mono ?_); rintro e w1 ⟨rfl, hb1⟩; replace hb1 := hb1.alloc (.cells #[.int .i64 k, .string B] 50); replace hu := hu.call hb1; replace hz := (hb1.block (row5 hz).2.2.2.2.2).trans hz; clear hb1)
  |(go_at_call 58; (with_reducible refine (cD _).mono ?_); rintro e w2 ⟨hb2, kd, A1, A2, A3, A4, c1, c2, c3, c4, E, K, S, T, ok, rfl, hO, hN⟩; have HN : Hid (∀ kd' E' K' S' T', ndErr kd' E' K' S' T' = 0 → kd' + 1 = k → pgBody E' K' S' T' = B.data.toList → ok = true ∧ kd = kd' ∧ E = E' ∧ K = K' ∧ S = S' ∧ T = T') := hN; have HO := Lib.hid hO; clear hN hO; replace hb2 := hb2.alloc (.cells #[.int .i64 kd, .slice A1 E.length c1, .slice A2 K.length c2, .slice A3 S.length c3, .slice A4 T.length c4] 63)))
 have hx := heap_new w2 (.cells #[.int .i64 kd, .slice A1 E.length c1, .slice A2 K.length c2, .slice A3 S.length c3, .slice A4 T.length c4] 63)
 have hzl := (row5 hz).2.2.2.2.2
 have hO2 := Lib.hid ((HO.out.mono (B' := w.heap.size + 1) (by omega)).calm ((Calm.refl w2).alloc (.cells #[.int .i64 kd, .slice A1 E.length c1, .slice A2 K.length c2, .slice A3 S.length c3, .slice A4 T.length c4] 63)))
 replace hu := hu.call hb2
 replace hz := (hb2.block hzl).trans hz
 clear HO hb2 cG cD hzl
 generalize w2.alloc (.cells #[.int .i64 kd, .slice A1 E.length c1, .slice A2 K.length c2, .slice A3 S.length c3, .slice A4 T.length c4] 63) = wN at hx hO2 hu hz ⊢
 generalize w2.heap.size = nb at hx ⊢
 have hNo : Hid (ok = false ∨ ndErr kd E K S T ≠ 0 ∨ pgEnc kd E K S T ≠ s.data.toList → ∀ kd E K S T, ¬ IsPg s.data.toList kd E K S T) := show _ → _ from fun h kd' E' K' S' T' hP => by
  obtain ⟨h1, h2, h3⟩ := HP.out kd' E' K' S' T' hP
  obtain ⟨g1, rfl, rfl, rfl, rfl, rfl⟩ := HN.out kd' E' K' S' T' h1 h2 h3
  rcases h with h | h | h
  ·rw [g1] at h; cases h
  ·exact h h1
  ·exact h hP.2
 clear HN
 cases ok
 ·obtain ⟨z0, z1, z2, z3, z4, hzs⟩ := row5 hz
  obtain ⟨f0, f1, f2, f3, f4⟩ := free5 hz
  have HN := Lib.hid (hNo.out (Or.inl rfl))
  go_wp2_with fail
  exact end_nd rfl rfl _ _ w.heap.size _ _ _ (0, 0) rfl rfl rfl (set5 hz _ _ _ _ _) rfl ⟨hu.five (g := w.heap.size) (by omega) _ _ _ _ _, Or.inl ⟨by rw [H3.out]; rfl, HN.out⟩⟩
 have cW := fun u (hu : Calm wN u) => pageWrite_any kd A1 A2 A3 A4 c1 c2 c3 c4 E K S T u (hO2.out.at_.calm hu)
 obtain ⟨x0, x1, x2, x3, x4, hxs⟩ := row5 hx
 by_cases hn : ndErr kd E K S T = 0
 rotate_left
 ·have HN := Lib.hid (hNo.out (Or.inr (Or.inl hn)))
  have G : ∀ u, PgWriteEnd kd E K S T u = fun e w' => e = .returned (.tuple #[.string { data := #[] }, .int .i64 (ndErr kd E K S T)]) ∧ Calm u w' := fun u => by
   funext e w'; simp only [PgWriteEnd, pgS, if_neg hn]
  simp only [G] at cW
  have b1 : (ndErr kd E K S T != 0) = true := by simpa using hn
  generalize ndErr kd E K S T = R at cW b1
  clear hn G
  go_wp2_with (go_at_call 35; (with_reducible refine (cW _ (Calm.refl _)).mono ?_); rintro e w3 ⟨rfl, hb3⟩; replace hu := hu.call hb3; replace hz := (hb3.block (row5 hz).2.2.2.2.2).trans hz; clear hb3; obtain ⟨z0, z1, z2, z3, z4, hzs⟩ := row5 hz; obtain ⟨f0, f1, f2, f3, f4⟩ := free5 hz)
  exact end_nd rfl rfl _ _ w.heap.size _ _ _ (0, 0) rfl rfl rfl (set5 hz _ _ _ _ _) rfl ⟨hu.five (g := w.heap.size) (by omega) _ _ _ _ _, Or.inl ⟨by rw [H3.out]; rfl, HN.out⟩⟩
 have G : ∀ u, PgWriteEnd kd E K S T u = fun e w' => e = .returned (.tuple #[.string ⟨(pgEnc kd E K S T).toArray⟩, .int .i64 0]) ∧ Calm u w' := fun u => by
  funext e w'; simp only [PgWriteEnd, pgS, hn, if_true]
 simp only [G] at cW
 clear G
 by_cases hw : pgEnc kd E K S T = s.data.toList
 rotate_left
 ·have HN := Lib.hid (hNo.out (Or.inr (Or.inr hw)))
  have hne : ¬ (⟨(pgEnc kd E K S T).toArray⟩ : ByteArray) = s := fun h => hw (by rw [← h, bytes_list])
  generalize (⟨(pgEnc kd E K S T).toArray⟩ : ByteArray) = W at cW hne
  have hs1 : (W.toList == s.toList) = false := str_ne hne
  clear hn hw hne
  go_wp2_with (go_at_call 35; (with_reducible refine (cW _ (Calm.refl _)).mono ?_); rintro e w3 ⟨rfl, hb3⟩; replace hu := hu.call hb3; replace hz := (hb3.block (row5 hz).2.2.2.2.2).trans hz; clear hb3; obtain ⟨z0, z1, z2, z3, z4, hzs⟩ := row5 hz; obtain ⟨f0, f1, f2, f3, f4⟩ := free5 hz)
  exact end_nd rfl rfl _ _ w.heap.size _ _ _ (0, 0) rfl rfl rfl (set5 hz _ _ _ _ _) rfl ⟨hu.five (g := w.heap.size) (by omega) _ _ _ _ _, Or.inl ⟨by rw [H3.out]; rfl, HN.out⟩⟩
 have HG : Hid (IsPg s.data.toList kd E K S T) := ⟨hn, hw⟩
 rw [show (⟨(pgEnc kd E K S T).toArray⟩ : ByteArray) = s from bytes_ext (by rw [bytes_list, hw])] at cW
 clear hn hw hNo
 go_wp2_with (go_at_call 35; (with_reducible refine (cW _ (Calm.refl _)).mono ?_); rintro e w3 ⟨rfl, hb3⟩; replace hu := hu.call hb3; replace hx := (hb3.block (row5 hx).2.2.2.2.2).trans hx; replace hz := (hb3.block (row5 hz).2.2.2.2.2).trans hz; replace hO2 := Lib.hid (hO2.out.calm hb3); clear hb3; obtain ⟨z0, z1, z2, z3, z4, hzs⟩ := row5 hz; obtain ⟨f0, f1, f2, f3, f4⟩ := free5 hz; obtain ⟨x0, x1, x2, x3, x4, hxs⟩ := row5 hx)
 exact end_nd rfl rfl _ _ w.heap.size _ _ _ (0, 0) rfl rfl rfl (set5 hz _ _ _ _ _) rfl ⟨hu.five (g := w.heap.size) (by omega) _ _ _ _ _, Or.inr ⟨kd, A1, A2, A3, A4, c1, c2, c3, c4, E, K, S, T, rfl, (hO2.out.five (by omega) _ _ _ _ _).mono (by omega), HG.out⟩⟩
open Go.RowKit
instance : DecidableEq Sp := fun a b => decidable_of_iff (a.p = b.p ∧ a.o = b.o ∧ a.f = b.f ∧ a.m = b.m) (by cases a; cases b; simp)
set_option maxHeartbeats 8000000 in
theorem equalI_any (A A' : Option Addr) (c c' : Nat) (l l' : List Int) (w : World) (hn : l.length ≤ 9223372036854775807) (hL : LiesI w A l) (hL' : LiesI w A' l') :
    Calls Try.prog 60 #[.slice A l.length c, .slice A' l'.length c'] w fun e w' => e = .returned (.bool (decide (l = l'))) ∧ Calm w w' := by
  by_cases hll : l.length = l'.length
  rotate_left
  · have hd : decide (l = l') = false := decide_eq_false fun h => hll (by rw [h])
    have hz : ¬ (l.length : Int) = (l'.length : Int) := by omega
    rw [hd]
    clear hd hll hL hL'
    go_enter Try.func60, Try.ntmps60
    go_wp2_with fail
    go_ret
    exact ⟨rfl, Calm.refl _⟩
  generalize hr : decide (l = l') = r
  have HR : Hid (decide (l = l') = r) := hr
  clear hr
  obtain ⟨n, hn1⟩ : ∃ n, n = l.length := ⟨_, rfl⟩
  have hn2 : n = l'.length := hn1.trans hll
  rw [← hn1, ← hn2]
  rw [← hn1] at hn
  have HN1 : Hid (n = l.length) := hn1
  have HN2 : Hid (n = l'.length) := hn2
  clear hn1 hn2 hll
  go_enter Try.func60, Try.ntmps60
  go_wp2_with fail
  go_loopw [13] (fun i wr => ∃ k : Nat, k ≤ n ∧ i = .int .i64 k ∧ Calm w wr ∧ Hid (∀ j, j < k → l[j]? = l'[j]?)) (fun i _ => n - (intOf i).toNat)
  case atStart => exact ⟨0, Nat.zero_le _, rfl, Calm.refl _, show ∀ _, _ from fun j h => absurd h (Nat.not_lt_zero _)⟩
  case round =>
    obtain ⟨k, hk, rfl, hu, hN⟩ := hrel
    by_cases hlt : k < n
    rotate_left
    · have K : Hid (r = true) := by
        rw [← HR.out]
        refine decide_eq_true (List.ext_getElem? fun j => ?_)
        rcases Nat.lt_or_ge j k with h | h
        · exact hN.out j h
        · rw [List.getElem?_eq_none (by rw [← HN1.out]; omega), List.getElem?_eq_none (by rw [← HN2.out]; omega)]
      clear HR
      go_wp2_with fail
      go_ret
      exact ⟨by rw [K.out]; rfl, hu⟩
    obtain ⟨b, q, x, rfl, hb, HE, c0⟩ := (hL.calm hu).get (by rw [← HN1.out]; exact hlt)
    obtain ⟨b', q', x', rfl, hb', HE', d0⟩ := (hL'.calm hu).get (by rw [← HN2.out]; exact hlt)
    have hiz : (k : Int) < (n : Int) := by omega
    have hDF : (x : Int) ≠ x' → l ≠ l' := fun h h2 => by
      have h3 := HE.out; rw [h2, HE'.out] at h3; injection h3 with h3; exact h h3.symm
    have hN1 : (x : Int) = x' → Hid (∀ j, j < k + 1 → l[j]? = l'[j]?) := fun h => show ∀ _, _ from fun j hj => by
      rcases Nat.lt_or_ge j k with h2 | h2
      · exact hN.out j h2
      · rw [show j = k by omega, HE.out, HE'.out, h]
    have HR2 := HR.out
    clear hL hL' HE HE'
    have hcs : (¬ x = x') ∨ (x = x') := by
      by_cases e0 : x = x' <;> simp [*]
    rcases hcs with h0 | h0
    · skip
      go_wp2_with fail
      refine wp_region_plan [.val (.slice (some ⟨b, q, none⟩) n c), .val (.int .i64 ((k : Int))), .val (.pointer (some ⟨b, q + k, none⟩)), .val (.int .i64 x), .val (.slice (some ⟨b', q', none⟩) n c'), .val (.int .i64 ((k : Int))), .val (.pointer (some ⟨b', q' + k, none⟩)), .val (.int .i64 x'), .val (.bool true)] (by kernel_rfl) (by kernel_rfl) (by kernel_rfl) ?_
      intro X
      iterate 9
        refine plan_val (by kernel_rfl) (fun u hu => ?_) ?_
        · obtain ⟨hc, hf, hz⟩ := hu.of_drew.facts
          go_simp
        simp only [Act.put, List.setIfInBounds_toArray, List.set_cons_zero, List.set_cons_succ, Nat.reduceAdd]
      refine plan_end ?_
      intro w' hB
      have hk := hB.calm.of_drew
      clear hB
      go_wp2_with fail
      go_ret
      exact ⟨ret_bool ((decide_eq_false (hDF (by simp [*]))).symm.trans HR2), hu.call hk⟩
    · skip
      subst h0
      have hN2 := hN1 rfl
      clear hN1 hDF
      go_wp2_with fail
      refine wp_region_plan [.val (.slice (some ⟨b, q, none⟩) n c), .val (.int .i64 ((k : Int))), .val (.pointer (some ⟨b, q + k, none⟩)), .val (.int .i64 x), .val (.slice (some ⟨b', q', none⟩) n c'), .val (.int .i64 ((k : Int))), .val (.pointer (some ⟨b', q' + k, none⟩)), .val (.int .i64 x), .val (.bool false)] (by kernel_rfl) (by kernel_rfl) (by kernel_rfl) ?_
      intro X
      iterate 9
        refine plan_val (by kernel_rfl) (fun u hu => ?_) ?_
        · obtain ⟨hc, hf, hz⟩ := hu.of_drew.facts
          go_simp
        simp only [Act.put, List.setIfInBounds_toArray, List.set_cons_zero, List.set_cons_succ, Nat.reduceAdd]
      refine plan_end ?_
      intro w' hB
      have hk := hB.calm.of_drew
      clear hB
      go_wp2_with fail
      go_roundw
      case rel => exact ⟨k + 1, by omega, by go_num, hu.call hk, hN2⟩
      case measure => simp [intOf]; omega
set_option maxHeartbeats 8000000 in
theorem equalS_any (A A' : Option Addr) (c c' : Nat) (l l' : List Sp) (w : World) (hn : l.length ≤ 9223372036854775807) (hL : LiesS w A l) (hL' : LiesS w A' l') :
    Calls Try.prog 61 #[.slice A l.length c, .slice A' l'.length c'] w fun e w' => e = .returned (.bool (decide (l = l'))) ∧ Calm w w' := by
  by_cases hll : l.length = l'.length
  rotate_left
  · have hd : decide (l = l') = false := decide_eq_false fun h => hll (by rw [h])
    have hz : ¬ (l.length : Int) = (l'.length : Int) := by omega
    rw [hd]
    clear hd hll hL hL'
    go_enter Try.func61, Try.ntmps61
    go_wp2_with fail
    go_ret
    exact ⟨rfl, Calm.refl _⟩
  generalize hr : decide (l = l') = r
  have HR : Hid (decide (l = l') = r) := hr
  clear hr
  obtain ⟨n, hn1⟩ : ∃ n, n = l.length := ⟨_, rfl⟩
  have hn2 : n = l'.length := hn1.trans hll
  rw [← hn1, ← hn2]
  rw [← hn1] at hn
  have HN1 : Hid (n = l.length) := hn1
  have HN2 : Hid (n = l'.length) := hn2
  clear hn1 hn2 hll
  go_enter Try.func61, Try.ntmps61
  go_wp2_with fail
  go_loopw [13] (fun i wr => ∃ k : Nat, k ≤ n ∧ i = .int .i64 k ∧ Calm w wr ∧ Hid (∀ j, j < k → l[j]? = l'[j]?)) (fun i _ => n - (intOf i).toNat)
  case atStart => exact ⟨0, Nat.zero_le _, rfl, Calm.refl _, show ∀ _, _ from fun j h => absurd h (Nat.not_lt_zero _)⟩
  case round =>
    obtain ⟨k, hk, rfl, hu, hN⟩ := hrel
    by_cases hlt : k < n
    rotate_left
    · have K : Hid (r = true) := by
        rw [← HR.out]
        refine decide_eq_true (List.ext_getElem? fun j => ?_)
        rcases Nat.lt_or_ge j k with h | h
        · exact hN.out j h
        · rw [List.getElem?_eq_none (by rw [← HN1.out]; omega), List.getElem?_eq_none (by rw [← HN2.out]; omega)]
      clear HR
      go_wp2_with fail
      go_ret
      exact ⟨by rw [K.out]; rfl, hu⟩
    obtain ⟨b, q, p, o, f, m, rfl, hb, HE, -, c0, c1, c2, c3⟩ := (hL.calm hu).get (by rw [← HN1.out]; exact hlt)
    obtain ⟨b', q', p', o', f', m', rfl, hb', HE', -, d0, d1, d2, d3⟩ := (hL'.calm hu).get (by rw [← HN2.out]; exact hlt)
    have hiz : (k : Int) < (n : Int) := by omega
    have hDF : (⟨p, o, f, m⟩ : Sp) ≠ ⟨p', o', f', m'⟩ → l ≠ l' := fun h h2 => by
      have h3 := HE.out; rw [h2, HE'.out] at h3; injection h3 with h3; exact h h3.symm
    have hN1 : (⟨p, o, f, m⟩ : Sp) = ⟨p', o', f', m'⟩ → Hid (∀ j, j < k + 1 → l[j]? = l'[j]?) := fun h => show ∀ _, _ from fun j hj => by
      rcases Nat.lt_or_ge j k with h2 | h2
      · exact hN.out j h2
      · rw [show j = k by omega, HE.out, HE'.out, h]
    have HR2 := HR.out
    clear hL hL' HE HE'
    have hcs : (¬ p = p') ∨ (p = p' ∧ ¬ o = o') ∨ (p = p' ∧ o = o' ∧ ¬ f = f') ∨ (p = p' ∧ o = o' ∧ f = f' ∧ ¬ m = m') ∨ (p = p' ∧ o = o' ∧ f = f' ∧ m = m') := by
      by_cases e0 : p = p' <;> by_cases e1 : o = o' <;> by_cases e2 : f = f' <;> by_cases e3 : m = m' <;> simp [*]
    rcases hcs with ⟨h0⟩ | ⟨h0, h1⟩ | ⟨h0, h1, h2⟩ | ⟨h0, h1, h2, h3⟩ | ⟨h0, h1, h2, h3⟩
    · skip
      go_wp2_with fail
      refine wp_region_plan [.val (.slice (some ⟨b, q, none⟩) n c), .val (.int .i64 ((k : Int))), .val (.pointer (some ⟨b, q + k * 4, none⟩)), .val (.agg #[.int .i64 p, .int .i64 o, .int .i64 f, .int .i64 m]), .val (.slice (some ⟨b', q', none⟩) n c'), .val (.int .i64 ((k : Int))), .val (.pointer (some ⟨b', q' + k * 4, none⟩)), .val (.agg #[.int .i64 p', .int .i64 o', .int .i64 f', .int .i64 m']), .val (.bool true)] (by kernel_rfl) (by kernel_rfl) (by kernel_rfl) ?_
      intro X
      iterate 9
        refine plan_val (by kernel_rfl) (fun u hu => ?_) ?_
        · obtain ⟨hc, hf, hz⟩ := hu.of_drew.facts
          go_simp
        simp only [Act.put, List.setIfInBounds_toArray, List.set_cons_zero, List.set_cons_succ, Nat.reduceAdd]
      refine plan_end ?_
      intro w' hB
      have hk := hB.calm.of_drew
      clear hB
      go_wp2_with fail
      go_ret
      exact ⟨ret_bool ((decide_eq_false (hDF (by simp [*]))).symm.trans HR2), hu.call hk⟩
    · skip
      subst h0
      go_wp2_with fail
      refine wp_region_plan [.val (.slice (some ⟨b, q, none⟩) n c), .val (.int .i64 ((k : Int))), .val (.pointer (some ⟨b, q + k * 4, none⟩)), .val (.agg #[.int .i64 p, .int .i64 o, .int .i64 f, .int .i64 m]), .val (.slice (some ⟨b', q', none⟩) n c'), .val (.int .i64 ((k : Int))), .val (.pointer (some ⟨b', q' + k * 4, none⟩)), .val (.agg #[.int .i64 p, .int .i64 o', .int .i64 f', .int .i64 m']), .val (.bool true)] (by kernel_rfl) (by kernel_rfl) (by kernel_rfl) ?_
      intro X
      iterate 9
        refine plan_val (by kernel_rfl) (fun u hu => ?_) ?_
        · obtain ⟨hc, hf, hz⟩ := hu.of_drew.facts
          go_simp
        simp only [Act.put, List.setIfInBounds_toArray, List.set_cons_zero, List.set_cons_succ, Nat.reduceAdd]
      refine plan_end ?_
      intro w' hB
      have hk := hB.calm.of_drew
      clear hB
      go_wp2_with fail
      go_ret
      exact ⟨ret_bool ((decide_eq_false (hDF (by simp [*]))).symm.trans HR2), hu.call hk⟩
    · skip
      subst h0
      subst h1
      go_wp2_with fail
      refine wp_region_plan [.val (.slice (some ⟨b, q, none⟩) n c), .val (.int .i64 ((k : Int))), .val (.pointer (some ⟨b, q + k * 4, none⟩)), .val (.agg #[.int .i64 p, .int .i64 o, .int .i64 f, .int .i64 m]), .val (.slice (some ⟨b', q', none⟩) n c'), .val (.int .i64 ((k : Int))), .val (.pointer (some ⟨b', q' + k * 4, none⟩)), .val (.agg #[.int .i64 p, .int .i64 o, .int .i64 f', .int .i64 m']), .val (.bool true)] (by kernel_rfl) (by kernel_rfl) (by kernel_rfl) ?_
      intro X
      iterate 9
        refine plan_val (by kernel_rfl) (fun u hu => ?_) ?_
        · obtain ⟨hc, hf, hz⟩ := hu.of_drew.facts
          go_simp
        simp only [Act.put, List.setIfInBounds_toArray, List.set_cons_zero, List.set_cons_succ, Nat.reduceAdd]
      refine plan_end ?_
      intro w' hB
      have hk := hB.calm.of_drew
      clear hB
      go_wp2_with fail
      go_ret
      exact ⟨ret_bool ((decide_eq_false (hDF (by simp [*]))).symm.trans HR2), hu.call hk⟩
    · skip
      subst h0
      subst h1
      subst h2
      go_wp2_with fail
      refine wp_region_plan [.val (.slice (some ⟨b, q, none⟩) n c), .val (.int .i64 ((k : Int))), .val (.pointer (some ⟨b, q + k * 4, none⟩)), .val (.agg #[.int .i64 p, .int .i64 o, .int .i64 f, .int .i64 m]), .val (.slice (some ⟨b', q', none⟩) n c'), .val (.int .i64 ((k : Int))), .val (.pointer (some ⟨b', q' + k * 4, none⟩)), .val (.agg #[.int .i64 p, .int .i64 o, .int .i64 f, .int .i64 m']), .val (.bool true)] (by kernel_rfl) (by kernel_rfl) (by kernel_rfl) ?_
      intro X
      iterate 9
        refine plan_val (by kernel_rfl) (fun u hu => ?_) ?_
        · obtain ⟨hc, hf, hz⟩ := hu.of_drew.facts
          go_simp
        simp only [Act.put, List.setIfInBounds_toArray, List.set_cons_zero, List.set_cons_succ, Nat.reduceAdd]
      refine plan_end ?_
      intro w' hB
      have hk := hB.calm.of_drew
      clear hB
      go_wp2_with fail
      go_ret
      exact ⟨ret_bool ((decide_eq_false (hDF (by simp [*]))).symm.trans HR2), hu.call hk⟩
    · skip
      subst h0
      subst h1
      subst h2
      subst h3
      have hN2 := hN1 rfl
      clear hN1 hDF
      go_wp2_with fail
      refine wp_region_plan [.val (.slice (some ⟨b, q, none⟩) n c), .val (.int .i64 ((k : Int))), .val (.pointer (some ⟨b, q + k * 4, none⟩)), .val (.agg #[.int .i64 p, .int .i64 o, .int .i64 f, .int .i64 m]), .val (.slice (some ⟨b', q', none⟩) n c'), .val (.int .i64 ((k : Int))), .val (.pointer (some ⟨b', q' + k * 4, none⟩)), .val (.agg #[.int .i64 p, .int .i64 o, .int .i64 f, .int .i64 m]), .val (.bool false)] (by kernel_rfl) (by kernel_rfl) (by kernel_rfl) ?_
      intro X
      iterate 9
        refine plan_val (by kernel_rfl) (fun u hu => ?_) ?_
        · obtain ⟨hc, hf, hz⟩ := hu.of_drew.facts
          go_simp
        simp only [Act.put, List.setIfInBounds_toArray, List.set_cons_zero, List.set_cons_succ, Nat.reduceAdd]
      refine plan_end ?_
      intro w' hB
      have hk := hB.calm.of_drew
      clear hB
      go_wp2_with fail
      go_roundw
      case rel => exact ⟨k + 1, by omega, by go_num, hu.call hk, hN2⟩
      case measure => simp [intOf]; omega
set_option maxHeartbeats 8000000 in
theorem sameNode_any (kd : Int) (A1 A2 A3 A4 : Option Addr) (c1 c2 c3 c4 : Nat) (E : List El) (K : List Int) (S : List Sp) (T : List Int) (kd' : Int) (A1' A2' A3' A4' : Option Addr) (c1' c2' c3' c4' : Nat) (E' : List El) (K' : List Int) (S' : List Sp) (T' : List Int) (w : World) (h : NdAt w A1 A2 A3 A4 E K S T) (h' : NdAt w A1' A2' A3' A4' E' K' S' T') :
    Calls Try.prog 40 #[.agg #[.int .i64 kd, .slice A1 E.length c1, .slice A2 K.length c2, .slice A3 S.length c3, .slice A4 T.length c4], .agg #[.int .i64 kd', .slice A1' E'.length c1', .slice A2' K'.length c2', .slice A3' S'.length c3', .slice A4' T'.length c4']] w fun e w' => e = .returned (.bool (decide (kd = kd' ∧ E = E' ∧ K = K' ∧ S = S' ∧ T = T'))) ∧ Calm w w' := by
  have hx := heap_past (.cells #[.int .i64 kd', .slice A1' E'.length c1', .slice A2' K'.length c2', .slice A3' S'.length c3', .slice A4' T'.length c4'] 63) (heap_new w (.cells #[.int .i64 kd, .slice A1 E.length c1, .slice A2 K.length c2, .slice A3 S.length c3, .slice A4 T.length c4] 63))
  have hy := heap_new2 w (.cells #[.int .i64 kd, .slice A1 E.length c1, .slice A2 K.length c2, .slice A3 S.length c3, .slice A4 T.length c4] 63) (.cells #[.int .i64 kd', .slice A1' E'.length c1', .slice A2' K'.length c2', .slice A3' S'.length c3', .slice A4' T'.length c4'] 63)
  have hu := ((Calm.refl w).alloc (.cells #[.int .i64 kd, .slice A1 E.length c1, .slice A2 K.length c2, .slice A3 S.length c3, .slice A4 T.length c4] 63)).alloc (.cells #[.int .i64 kd', .slice A1' E'.length c1', .slice A2' K'.length c2', .slice A3' S'.length c3', .slice A4' T'.length c4'] 63)
  have cE := fun u (hu : Calm w u) => equal_any A1 A1' c1 c1' E E' u h.ne h'.ne (h.e.calm hu) (h'.e.calm hu)
  have cK := fun u (hu : Calm w u) => equalI_any A2 A2' c2 c2' K K' u h.nk (h.k.calm hu) (h'.k.calm hu)
  have cS := fun u (hu : Calm w u) => equalS_any A3 A3' c3 c3' S S' u h.ns (h.s.calm hu) (h'.s.calm hu)
  have cT := fun u (hu : Calm w u) => equalI_any A4 A4' c4 c4' T T' u h.nt (h.t.calm hu) (h'.t.calm hu)
  have hG : Hid (decide (kd = kd' ∧ E = E' ∧ K = K' ∧ S = S' ∧ T = T') = (decide (kd = kd') && decide (E = E') && decide (K = K') && decide (S = S') && decide (T = T'))) := by show _ = _; simp [Bool.decide_and, Bool.and_assoc]
  generalize decide (kd = kd' ∧ E = E' ∧ K = K' ∧ S = S' ∧ T = T') = r at hG ⊢
  generalize decide (E = E') = bE at cE hG
  generalize decide (K = K') = bK at cK hG
  generalize decide (S = S') = bS at cS hG
  generalize decide (T = T') = bT at cT hG
  have hk : (kd == kd') = decide (kd = kd') := by by_cases e : kd = kd' <;> simp [e]
  clear h h'
  obtain ⟨x0, x1, x2, x3, x4, hxs⟩ := row5 hx
  obtain ⟨y0, y1, y2, y3, y4, hys⟩ := row5 hy
  by_cases hkd : kd = kd'
  rotate_left
  · rw [decide_eq_false hkd] at hG hk
    clear hkd
    go_enter Try.func40, Try.ntmps40
    go_wp2_with fail
    go_ret
    exact ⟨ret_bool (by rw [hG.out]; simp), hu⟩
  subst hkd
  rw [decide_eq_true rfl] at hG hk
  clear hk
  cases bE
  · go_enter Try.func40, Try.ntmps40
    go_wp2_with (first
                    | (go_at_call 24; (with_reducible refine (cE _ hu).mono ?_); rintro e w1 ⟨rfl, hb1⟩; replace hu := hu.call hb1; replace hx := (hb1.block (row5 hx).2.2.2.2.2).trans hx; replace hy := (hb1.block (row5 hy).2.2.2.2.2).trans hy; clear hb1; obtain ⟨x0, x1, x2, x3, x4, hxs⟩ := row5 hx; obtain ⟨y0, y1, y2, y3, y4, hys⟩ := row5 hy)
                    | (go_at_call 60; (first | (with_reducible refine (cK _ hu).mono ?_) | (with_reducible refine (cT _ hu).mono ?_)); rintro e w1 ⟨rfl, hb1⟩; replace hu := hu.call hb1; replace hx := (hb1.block (row5 hx).2.2.2.2.2).trans hx; replace hy := (hb1.block (row5 hy).2.2.2.2.2).trans hy; clear hb1; obtain ⟨x0, x1, x2, x3, x4, hxs⟩ := row5 hx; obtain ⟨y0, y1, y2, y3, y4, hys⟩ := row5 hy)
                    | (go_at_call 61; (with_reducible refine (cS _ hu).mono ?_); rintro e w1 ⟨rfl, hb1⟩; replace hu := hu.call hb1; replace hx := (hb1.block (row5 hx).2.2.2.2.2).trans hx; replace hy := (hb1.block (row5 hy).2.2.2.2.2).trans hy; clear hb1; obtain ⟨x0, x1, x2, x3, x4, hxs⟩ := row5 hx; obtain ⟨y0, y1, y2, y3, y4, hys⟩ := row5 hy))
    go_ret
    exact ⟨ret_bool (by rw [hG.out]; simp), hu⟩
  · cases bK
    · go_enter Try.func40, Try.ntmps40
      go_wp2_with (first
                    | (go_at_call 24; (with_reducible refine (cE _ hu).mono ?_); rintro e w1 ⟨rfl, hb1⟩; replace hu := hu.call hb1; replace hx := (hb1.block (row5 hx).2.2.2.2.2).trans hx; replace hy := (hb1.block (row5 hy).2.2.2.2.2).trans hy; clear hb1; obtain ⟨x0, x1, x2, x3, x4, hxs⟩ := row5 hx; obtain ⟨y0, y1, y2, y3, y4, hys⟩ := row5 hy)
                    | (go_at_call 60; (first | (with_reducible refine (cK _ hu).mono ?_) | (with_reducible refine (cT _ hu).mono ?_)); rintro e w1 ⟨rfl, hb1⟩; replace hu := hu.call hb1; replace hx := (hb1.block (row5 hx).2.2.2.2.2).trans hx; replace hy := (hb1.block (row5 hy).2.2.2.2.2).trans hy; clear hb1; obtain ⟨x0, x1, x2, x3, x4, hxs⟩ := row5 hx; obtain ⟨y0, y1, y2, y3, y4, hys⟩ := row5 hy)
                    | (go_at_call 61; (with_reducible refine (cS _ hu).mono ?_); rintro e w1 ⟨rfl, hb1⟩; replace hu := hu.call hb1; replace hx := (hb1.block (row5 hx).2.2.2.2.2).trans hx; replace hy := (hb1.block (row5 hy).2.2.2.2.2).trans hy; clear hb1; obtain ⟨x0, x1, x2, x3, x4, hxs⟩ := row5 hx; obtain ⟨y0, y1, y2, y3, y4, hys⟩ := row5 hy))
      go_ret
      exact ⟨ret_bool (by rw [hG.out]; simp), hu⟩
    · cases bS
      · go_enter Try.func40, Try.ntmps40
        go_wp2_with (first
                    | (go_at_call 24; (with_reducible refine (cE _ hu).mono ?_); rintro e w1 ⟨rfl, hb1⟩; replace hu := hu.call hb1; replace hx := (hb1.block (row5 hx).2.2.2.2.2).trans hx; replace hy := (hb1.block (row5 hy).2.2.2.2.2).trans hy; clear hb1; obtain ⟨x0, x1, x2, x3, x4, hxs⟩ := row5 hx; obtain ⟨y0, y1, y2, y3, y4, hys⟩ := row5 hy)
                    | (go_at_call 60; (first | (with_reducible refine (cK _ hu).mono ?_) | (with_reducible refine (cT _ hu).mono ?_)); rintro e w1 ⟨rfl, hb1⟩; replace hu := hu.call hb1; replace hx := (hb1.block (row5 hx).2.2.2.2.2).trans hx; replace hy := (hb1.block (row5 hy).2.2.2.2.2).trans hy; clear hb1; obtain ⟨x0, x1, x2, x3, x4, hxs⟩ := row5 hx; obtain ⟨y0, y1, y2, y3, y4, hys⟩ := row5 hy)
                    | (go_at_call 61; (with_reducible refine (cS _ hu).mono ?_); rintro e w1 ⟨rfl, hb1⟩; replace hu := hu.call hb1; replace hx := (hb1.block (row5 hx).2.2.2.2.2).trans hx; replace hy := (hb1.block (row5 hy).2.2.2.2.2).trans hy; clear hb1; obtain ⟨x0, x1, x2, x3, x4, hxs⟩ := row5 hx; obtain ⟨y0, y1, y2, y3, y4, hys⟩ := row5 hy))
        go_ret
        exact ⟨ret_bool (by rw [hG.out]; simp), hu⟩
      · cases bT
        · go_enter Try.func40, Try.ntmps40
          go_wp2_with (first
                    | (go_at_call 24; (with_reducible refine (cE _ hu).mono ?_); rintro e w1 ⟨rfl, hb1⟩; replace hu := hu.call hb1; replace hx := (hb1.block (row5 hx).2.2.2.2.2).trans hx; replace hy := (hb1.block (row5 hy).2.2.2.2.2).trans hy; clear hb1; obtain ⟨x0, x1, x2, x3, x4, hxs⟩ := row5 hx; obtain ⟨y0, y1, y2, y3, y4, hys⟩ := row5 hy)
                    | (go_at_call 60; (first | (with_reducible refine (cK _ hu).mono ?_) | (with_reducible refine (cT _ hu).mono ?_)); rintro e w1 ⟨rfl, hb1⟩; replace hu := hu.call hb1; replace hx := (hb1.block (row5 hx).2.2.2.2.2).trans hx; replace hy := (hb1.block (row5 hy).2.2.2.2.2).trans hy; clear hb1; obtain ⟨x0, x1, x2, x3, x4, hxs⟩ := row5 hx; obtain ⟨y0, y1, y2, y3, y4, hys⟩ := row5 hy)
                    | (go_at_call 61; (with_reducible refine (cS _ hu).mono ?_); rintro e w1 ⟨rfl, hb1⟩; replace hu := hu.call hb1; replace hx := (hb1.block (row5 hx).2.2.2.2.2).trans hx; replace hy := (hb1.block (row5 hy).2.2.2.2.2).trans hy; clear hb1; obtain ⟨x0, x1, x2, x3, x4, hxs⟩ := row5 hx; obtain ⟨y0, y1, y2, y3, y4, hys⟩ := row5 hy))
          go_ret
          exact ⟨ret_bool (by rw [hG.out]; simp), hu⟩
        · go_enter Try.func40, Try.ntmps40
          go_wp2_with (first
                    | (go_at_call 24; (with_reducible refine (cE _ hu).mono ?_); rintro e w1 ⟨rfl, hb1⟩; replace hu := hu.call hb1; replace hx := (hb1.block (row5 hx).2.2.2.2.2).trans hx; replace hy := (hb1.block (row5 hy).2.2.2.2.2).trans hy; clear hb1; obtain ⟨x0, x1, x2, x3, x4, hxs⟩ := row5 hx; obtain ⟨y0, y1, y2, y3, y4, hys⟩ := row5 hy)
                    | (go_at_call 60; (first | (with_reducible refine (cK _ hu).mono ?_) | (with_reducible refine (cT _ hu).mono ?_)); rintro e w1 ⟨rfl, hb1⟩; replace hu := hu.call hb1; replace hx := (hb1.block (row5 hx).2.2.2.2.2).trans hx; replace hy := (hb1.block (row5 hy).2.2.2.2.2).trans hy; clear hb1; obtain ⟨x0, x1, x2, x3, x4, hxs⟩ := row5 hx; obtain ⟨y0, y1, y2, y3, y4, hys⟩ := row5 hy)
                    | (go_at_call 61; (with_reducible refine (cS _ hu).mono ?_); rintro e w1 ⟨rfl, hb1⟩; replace hu := hu.call hb1; replace hx := (hb1.block (row5 hx).2.2.2.2.2).trans hx; replace hy := (hb1.block (row5 hy).2.2.2.2.2).trans hy; clear hb1; obtain ⟨x0, x1, x2, x3, x4, hxs⟩ := row5 hx; obtain ⟨y0, y1, y2, y3, y4, hys⟩ := row5 hy))
          go_ret
          exact ⟨ret_bool (by rw [hG.out]; simp), hu⟩
open Go.ChangeShapes Go.WideShapes Go.ChangeAt Go.RowKit
theorem rd_bad (s : ByteArray) (n : Int) (hE : rdErr s.data.toList = n) (hN : ∀ kd E K S T, ¬ IsPg s.data.toList kd E K S T) (w : World) : Calls Try.prog 38 #[.string s] w fun e w' => e = .returned (.tuple #[.agg #[.int .i64 0, .slice none 0 0, .slice none 0 0, .slice none 0 0, .slice none 0 0], .int .i64 n]) ∧ Calm w w' :=
 (pageRead_any s w).mono fun e w' ⟨hc, h⟩ => by
  rcases h with ⟨rfl, _⟩ | ⟨kd, _, _, _, _, _, _, _, _, E, K, S, T, _, _, hP⟩
  ·exact ⟨by rw [hE], hc⟩
  ·exact absurd hP (hN kd E K S T)
theorem rd_good (s : ByteArray) {kd : Int} {E : List El} {K : List Int} {S : List Sp} {T : List Int} (h : IsPg s.data.toList kd E K S T) (w : World) : Calls Try.prog 38 #[.string s] w fun e w' =>
  ∃ (A1 A2 A3 A4 : Option Addr) (c1 c2 c3 c4 : Nat), e = .returned (.tuple #[.agg #[.int .i64 kd, .slice A1 E.length c1, .slice A2 K.length c2, .slice A3 S.length c3, .slice A4 T.length c4], .int .i64 0]) ∧ NdOwn w.heap.size w' A1 A2 A3 A4 c1 c2 c3 c4 E K S T ∧ Calm w w' :=
 (pageRead_any s w).mono fun e w' ⟨hc, h2⟩ => by
  rcases h2 with ⟨rfl, hN⟩ | ⟨kd', A1, A2, A3, A4, c1, c2, c3, c4, E', K', S', T', rfl, hO, hP⟩
  ·exact absurd h (hN kd E K S T)
  ·obtain ⟨rfl, rfl, rfl, rfl, rfl⟩ := h.one hP
   exact ⟨A1, A2, A3, A4, c1, c2, c3, c4, rfl, hO, hc⟩
theorem wr_good (kd : Int) (A1 A2 A3 A4 : Option Addr) (c1 c2 c3 c4 : Nat) (E : List El) (K : List Int) (S : List Sp) (T : List Int) (w : World) (h : NdAt w A1 A2 A3 A4 E K S T) (he : ndErr kd E K S T = 0) (W : ByteArray) (hW : pgEnc kd E K S T = W.data.toList) :
    Calls Try.prog 35 #[.agg #[.int .i64 kd, .slice A1 E.length c1, .slice A2 K.length c2, .slice A3 S.length c3, .slice A4 T.length c4]] w fun e w' => e = .returned (.tuple #[.string W, .int .i64 0]) ∧ Calm w w' :=
  (pageWrite_any kd A1 A2 A3 A4 c1 c2 c3 c4 E K S T w h).mono fun e w' ⟨h1, h2⟩ => ⟨by rw [h1, pgS, if_pos he, he, hW], h2⟩
theorem wr_bad (kd : Int) (A1 A2 A3 A4 : Option Addr) (c1 c2 c3 c4 : Nat) (E : List El) (K : List Int) (S : List Sp) (T : List Int) (w : World) (h : NdAt w A1 A2 A3 A4 E K S T) (n : Int) (he : ndErr kd E K S T = n) (hn : n ≠ 0) :
    Calls Try.prog 35 #[.agg #[.int .i64 kd, .slice A1 E.length c1, .slice A2 K.length c2, .slice A3 S.length c3, .slice A4 T.length c4]] w fun e w' => e = .returned (.tuple #[.string { data := #[] }, .int .i64 n]) ∧ Calm w w' :=
  (pageWrite_any kd A1 A2 A3 A4 c1 c2 c3 c4 E K S T w h).mono fun e w' ⟨h1, h2⟩ => ⟨by rw [h1, pgS, if_neg (by rw [he]; exact hn), he], h2⟩
open Go.ChangeShapes Go.WideShapes Go.ChangeAt Go.RowKit
def pg1 : ByteArray := ⟨(pgEnc 1 [] [] [] []).toArray⟩
theorem pg1_size : pg1.size = 5 := by decide +kernel
theorem wr_leaf (w : World) : Calls Try.prog 35 #[.agg #[.int .i64 1, .slice none 0 0, .slice none 0 0, .slice none 0 0, .slice none 0 0]] w fun e w' => e = .returned (.tuple #[.string pg1, .int .i64 0]) ∧ Calm w w' :=
 wr_good 1 none none none none 0 0 0 0 [] [] [] [] w (NdOwn.zero 0 w).at_ (by decide +kernel) pg1 (by simp [pg1])
theorem leaf_nil (w : World) : Calls Try.prog 41 #[.slice none 0 0] w fun e w' => e = .returned (.agg #[.int .i64 1, .slice none 0 0, .slice none 0 0, .slice none 0 0, .slice none 0 0]) ∧ Calm w w' := by
 go_enter Try.func41, Try.ntmps41
 go_wp2
 go_returns
 exact ⟨rfl, by repeat (first | (with_reducible exact Calm.refl _) | (with_reducible refine Calm.alloc ?_ _) | (with_reducible refine Calm.drew ?_) | (with_reducible refine Calm.drewN ?_ _) | (refine Calm.call ?_ (by with_reducible assumption)))⟩
theorem rdErr_of {l : List UInt8} {n : Int} (h : unErr l = n) (hn : n ≠ 0) : rdErr l = n := by unfold rdErr; rw [h, if_neg hn]
set_option maxHeartbeats 8000000 in
theorem pageBack_walk (kd : Int) (A1 A2 A3 A4 : Option Addr) (c1 c2 c3 c4 : Nat) (E : List El) (K : List Int) (S : List Sp) (T : List Int) (k : Int) (w : World) (h : NdAt w A1 A2 A3 A4 E K S T) :
    Calls Try.prog 14 #[.agg #[.int .i64 kd, .slice A1 E.length c1, .slice A2 K.length c2, .slice A3 S.length c3, .slice A4 T.length c4], .int .i64 k] w fun e w' => e = .returned (.bool true) ∧ Calm w w' := by
  have hx := heap_new w (.cells #[.int .i64 kd, .slice A1 E.length c1, .slice A2 K.length c2, .slice A3 S.length c3, .slice A4 T.length c4] 63)
  have hu := (Calm.refl w).alloc (.cells #[.int .i64 kd, .slice A1 E.length c1, .slice A2 K.length c2, .slice A3 S.length c3, .slice A4 T.length c4] 63)
  have c0 := fun u => wr_leaf u
  have z5 := pg1_size
  generalize pg1 = Z at c0 z5
  have z5i : (Z.size : Int) = 5 := by omega
  obtain ⟨x0, x1, x2, x3, x4, hxs⟩ := row5 hx
  by_cases he : ndErr kd E K S T = 0
  rotate_left
  · have cA := fun u (hu : Calm w u) => wr_bad kd A1 A2 A3 A4 c1 c2 c3 c4 E K S T u (h.calm hu) _ rfl he
    have cC := fun u (hu : Calm w u) => nodeCheck_any kd A1 A2 A3 A4 c1 c2 c3 c4 E K S T u (h.calm hu)
    have b1 : (ndErr kd E K S T != 0) = true := by simpa using he
    generalize ndErr kd E K S T = N at cA cC b1
    clear he h
    go_enter Try.func14, Try.ntmps14
    go_wp2_with (first
      | (go_at_call 41; (with_reducible refine (leaf_nil _).mono ?_); rintro e w1 ⟨rfl, hb1⟩; replace hx := (hb1.block (row5 hx).2.2.2.2.2).trans hx; replace hu := hu.call hb1; clear hb1; obtain ⟨x0, x1, x2, x3, x4, hxs⟩ := row5 hx)
      | (go_at_call 35; (with_reducible refine (c0 _).mono ?_); rintro e w1 ⟨rfl, hb1⟩; replace hx := (hb1.block (row5 hx).2.2.2.2.2).trans hx; replace hu := hu.call hb1; clear hb1; obtain ⟨x0, x1, x2, x3, x4, hxs⟩ := row5 hx)
      | (go_at_call 35; (with_reducible refine (cA _ hu).mono ?_); rintro e w1 ⟨rfl, hb1⟩; replace hx := (hb1.block (row5 hx).2.2.2.2.2).trans hx; replace hu := hu.call hb1; clear hb1; obtain ⟨x0, x1, x2, x3, x4, hxs⟩ := row5 hx)
      | (go_at_call 42; (with_reducible refine (cC _ hu).mono ?_); rintro e w1 ⟨rfl, hb1⟩; replace hx := (hb1.block (row5 hx).2.2.2.2.2).trans hx; replace hu := hu.call hb1; clear hb1; obtain ⟨x0, x1, x2, x3, x4, hxs⟩ := row5 hx))
    go_ret
    exact ⟨rfl, hu⟩
  have hd := ndd_of he
  have hkd := hd.kd
  have hbl := pgBody_length hd
  have hel := pgEnc_length hd
  have cA := fun u (hu : Calm w u) => wr_good kd A1 A2 A3 A4 c1 c2 c3 c4 E K S T u (h.calm hu) he ⟨(pgEnc kd E K S T).toArray⟩ (by simp)
  obtain ⟨W, hW⟩ : ∃ W : ByteArray, W = ⟨(pgEnc kd E K S T).toArray⟩ := ⟨_, rfl⟩
  have hWd : W.data.toList = pgEnc kd E K S T := by rw [hW]
  have hWs : W.size = (pgEnc kd E K S T).length := by rw [hW, bytes_size]
  have hl5 : (pgEnc kd E K S T).length = 5 + (pgBody E K S T).length := by rw [pgEnc, encF_length]
  rw [← hW] at cA
  have cR := fun u => rd_good W (kd := kd) (E := E) (K := K) (S := S) (T := T) ⟨he, hWd.symm⟩ u
  obtain ⟨x, hxl, cX⟩ := within_any k W.size (by omega) (by omega)
  have hxx : (W.extract 0 x).data.toList = (pgEnc kd E K S T).take x := by rw [part_extract, hWd]; simp [part]
  have cS := fun u => rd_bad (W.extract 0 x) 7 (rdErr_of (by rw [hxx]; exact un_short (by omega) (by omega) (by omega) (by rw [← pgEnc]; omega)) (by decide)) (IsPg.not (by rw [hxx, pgEnc, un_short (by omega) (by omega) (by omega) (by rw [← pgEnc]; omega)]; decide)) u
  have hpp : (W ++ { data := #[0] }).data.toList = pgEnc kd E K S T ++ [0] := by rw [ByteArray.data_append]; simp [hWd]
  have hue := un_enc (k := kd.toNat + 1) (b := pgBody E K S T) (by omega) (by omega) (by omega) [0]
  have cF := fun u => rd_bad (W ++ { data := #[0] }) 3 (by unfold rdErr; rw [hpp, pgEnc, hue.1, if_pos rfl]) (fun kd' E' K' S' T' hP => by
    have hl := hP.un.2.2.2
    rw [hpp, List.length_append, List.length_singleton, pgEnc, hue.2.2.1, encF_length] at hl
    omega) u
  have hWi : (W.size : Int) ≤ 2900 := by omega
  have hxi : (x : Int) ≤ (W.size : Int) := by omega
  have hxn : x ≤ W.size := by omega
  have hWb : W.size ≤ 3000 := by omega
  have HN := Lib.hid h
  clear hue hpp hxx hl5 hWs hWd hW hel hbl hkd hd he h hxl
  go_enter Try.func14, Try.ntmps14
  go_upto_region 8 with (first
    | (go_at_call 41; (with_reducible refine (leaf_nil _).mono ?_); rintro e w1 ⟨rfl, hb1⟩; replace hx := (hb1.block (row5 hx).2.2.2.2.2).trans hx; replace hu := hu.call hb1; clear hb1; obtain ⟨x0, x1, x2, x3, x4, hxs⟩ := row5 hx)
    | (go_at_call 35; (with_reducible refine (c0 _).mono ?_); rintro e w1 ⟨rfl, hb1⟩; replace hx := (hb1.block (row5 hx).2.2.2.2.2).trans hx; replace hu := hu.call hb1; clear hb1; obtain ⟨x0, x1, x2, x3, x4, hxs⟩ := row5 hx)
    | (go_at_call 35; (with_reducible refine (cA _ hu).mono ?_); rintro e w1 ⟨rfl, hb1⟩; replace hx := (hb1.block (row5 hx).2.2.2.2.2).trans hx; replace hu := hu.call hb1; clear hb1; obtain ⟨x0, x1, x2, x3, x4, hxs⟩ := row5 hx)
    | (go_at_call 38; (with_reducible refine (cR _).mono ?_); rintro e w2 ⟨B1, B2, B3, B4, d1, d2, d3, d4, rfl, hO, hb1⟩; replace hb1 := hb1.alloc (.cells #[.int .i64 kd, .slice B1 E.length d1, .slice B2 K.length d2, .slice B3 S.length d3, .slice B4 T.length d4] 63); have hm := heap_new w2 (.cells #[.int .i64 kd, .slice B1 E.length d1, .slice B2 K.length d2, .slice B3 S.length d3, .slice B4 T.length d4] 63); have HM := Lib.hid (hO.at_.calm ((Calm.refl w2).alloc (.cells #[.int .i64 kd, .slice B1 E.length d1, .slice B2 K.length d2, .slice B3 S.length d3, .slice B4 T.length d4] 63))); replace hx := (hb1.block (row5 hx).2.2.2.2.2).trans hx; replace hu := hu.call hb1; clear hb1 hO))
  generalize w2.alloc (.cells #[.int .i64 kd, .slice B1 E.length d1, .slice B2 K.length d2, .slice B3 S.length d3, .slice B4 T.length d4] 63) = wm at hx hm hu HM ⊢
  generalize w2.heap.size = mb at hm ⊢
  have cD := fun u (hu : Calm w u) (hv : Calm wm u) => sameNode_any kd B1 B2 B3 B4 d1 d2 d3 d4 E K S T kd A1 A2 A3 A4 c1 c2 c3 c4 E K S T u (HM.out.calm hv) (HN.out.calm hu)
  rw [decide_eq_true ⟨rfl, rfl, rfl, rfl, rfl⟩] at cD
  have hv := Calm.refl wm
  clear cR cA c0 x0 x1 x2 x3 x4 hxs HM
  go_wp2_with (first
    | (go_at_call 27; (with_reducible refine (cX _).mono ?_); rintro e w1 ⟨rfl, rfl⟩)
    | (go_at_call 38; (first | (with_reducible refine (cS _).mono ?_) | (with_reducible refine (cF _).mono ?_)); rintro e w2 ⟨rfl, hb1⟩; replace hb1 := hb1.alloc (.cells #[.int .i64 0, .slice none 0 0, .slice none 0 0, .slice none 0 0, .slice none 0 0] 63); replace hx := (hb1.block (row5 hx).2.2.2.2.2).trans hx; replace hm := (hb1.block (row5 hm).2.2.2.2.2).trans hm; replace hu := hu.call hb1; replace hv := hv.call hb1; clear hb1; obtain ⟨x0, x1, x2, x3, x4, hxs⟩ := row5 hx; obtain ⟨m0, m1, m2, m3, m4, hms⟩ := row5 hm)
    | (go_at_call 40; (with_reducible refine (cD _ hu hv).mono ?_); rintro e w3 ⟨rfl, hb1⟩; replace hu := hu.call hb1; clear hb1))
  go_ret
  exact ⟨rfl, hu⟩
end Go.Proofs.Ytoklknjjkchgmaa
